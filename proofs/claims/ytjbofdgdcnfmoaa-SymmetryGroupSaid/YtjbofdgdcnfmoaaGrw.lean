/- The statement SymmetryGroup: the walk. -/
import Derived.Test.YtjbofdgdcnfmoaaCpw
namespace Go.Proofs.Ytjbofdgdcnfmoaa
open Go.RowKit
set_option maxRecDepth 100000
set_option linter.unusedVariables false
set_option linter.unusedSimpArgs false

/-- What lies while the group is looked at: the grid's variable, the list of operations. -/
structure GS (w wr : World) (W H : Int) (sa : Value) (kl N : Nat) (f : Nat → Int) : Prop where
  g : Box wr w.heap.size W H sa
  l : L2.Row wr kl N f
  bel : Below w.heap.size w wr
theorem GS.next {w wr w' : World} {W H : Int} {sa : Value} {kl N : Nat} {f : Nat → Int} (h : GS w wr W H sa kl N f) (hb : Below wr.heap.size wr w') : GS w w' W H sa kl N f := ⟨h.g.below hb h.g.lt, h.l.below hb h.l.lt, h.bel.trans (hb.mono h.bel.size)⟩
theorem GS.drewN {w wr : World} {W H : Int} {sa : Value} {kl N : Nat} {f : Nat → Int} (h : GS w wr W H sa kl N f) (n : Nat) : GS w (wr.drewN n) W H sa kl N f := h.next (Go.Proofs.below_drewN' (Below.refl _ _) n)
set_option maxHeartbeats 800000 in
theorem group7_v (W H : Int) (A : Option Addr) (n c : Nat) (w : World) (hv : ∀ w, Calls Try.prog 65 #[.agg #[.int .i64 W, .int .i64 H, .slice A n c]] w fun e w' => e = .returned (.bool false) ∧ Below w.heap.size w w') (hal : ∀ w, Calls Try.prog 56 #[] w fun e w' => e = .returned (.bool true) ∧ Below w.heap.size w w') :
    Calls Try.prog 14 #[.agg #[.int .i64 W, .int .i64 H, .slice A n c]] w fun e w' => e = .returned (.bool true) ∧ Below w.heap.size w w' := by
  have HV := Lib.hid hv
  have HAL := Lib.hid hal
  clear hv hal
  have X0 := Lib.hid (Box.new w W H (.slice A n c))
  have LB0 := Lib.hid (show Below w.heap.size w (w.alloc (.cells #[.int .i64 W, .int .i64 H, .slice A n c] 24)) from (Below.refl _ _).alloc (Nat.le_refl _) _)
  go_enter Try.func14, Try.ntmps14
  obtain ⟨q0, q1, q2, q3, q4, q5, q6⟩ := X0.out.all
  go_wp2_with fail
  clear q0 q1 q2 q3 q4 q5 q6
  refine (HV.out _).mono ?_
  rintro e w1 ⟨rfl, hb⟩
  have X1 := Lib.hid (X0.out.below hb X0.out.lt)
  have LB1 := Lib.hid (LB0.out.trans (hb.mono LB0.out.size))
  clear hb X0 LB0
  go_wp2_with fail
  refine (HAL.out _).mono ?_
  rintro e w2 ⟨rfl, hb⟩
  have X2 := Lib.hid (X1.out.below hb X1.out.lt)
  have LB2 := Lib.hid (LB1.out.trans (hb.mono LB1.out.size))
  clear hb X1 LB1
  go_wp2
  go_ret
  exact ⟨rfl, LB2.out⟩
set_option maxHeartbeats 3200000 in
theorem group7_main (G : GD) (g : GM G) (b o c : Nat) (hc : G.W * G.H ≤ c) (w : World) (lb : b < w.heap.size) (hcs : ∀ i, i < G.W * G.H → w.cell? ⟨b, o + i, none⟩ = some (.bool (G.f i))) (hv : ∀ w, Calls Try.prog 65 #[.agg #[.int .i64 (G.W : Nat), .int .i64 (G.H : Nat), .slice (some ⟨b, o, none⟩) (G.W * G.H) c]] w fun e w' => e = .returned (.bool true) ∧ Below w.heap.size w w') (hal : ∀ w, Calls Try.prog 56 #[] w fun e w' => e = .returned (.bool true) ∧ Below w.heap.size w w') :
    Calls Try.prog 14 #[.agg #[.int .i64 (G.W : Nat), .int .i64 (G.H : Nat), .slice (some ⟨b, o, none⟩) (G.W * G.H) c]] w fun e w' => e = .returned (.bool true) ∧ Below w.heap.size w w' := by
  have HV := Lib.hid hv
  have HAL := Lib.hid hal
  obtain ⟨T, hT⟩ : ∃ T, tk G G = T := ⟨_, rfl⟩
  have hT0 : T 0 = true := hT ▸ tk_self g.ok
  have hTi : ∀ m, m < 16 → T m = true → T (inv m) = true := by rw [← hT]; exact fun m hm h => tk_inv g.ok g.ok hm h
  have hTc : ∀ m, m < 16 → ∀ n, n < 16 → T m = true → T n = true → T (cmp m n) = true := by rw [← hT]; exact fun m hm n hn h k => tk_comp g.ok g.ok g.ok hm hn h k
  have hdiv := group_div hT0 hTi hTc
  obtain ⟨hn0, hz0⟩ := ofl_zero (T := T) (k := 16) (m := 0) (by omega) hT0 (fun j hj => absurd hj (by omega))
  have hnl := ofl_len T 16
  have HAll := Lib.hid (fun u (hu : Below w.heap.size w u) => (show Calls Try.prog 46 #[.agg #[.int .i64 (G.W : Nat), .int .i64 (G.H : Nat), .slice (some ⟨b, o, none⟩) (G.W * G.H) c]] u (LOut u (ofl T 16).length (lf (ofl T 16)) 0) from by rw [← hT]; exact pall_at g b o c u (Nat.lt_of_lt_of_le lb hu.size) (fun i hi => (hu.cell (p := ⟨b, o + i, none⟩) lb).trans (hcs i hi)) hc))
  have HLm := Lib.hid (fun i (hi : i < (ofl T 16).length) => (show lf (ofl T 16) i = ((ln7 (ofl T 16) i : Nat) : Int) ∧ ln7 (ofl T 16) i < 16 ∧ T (ln7 (ofl T 16) i) = true from ⟨rfl, ln7_mem hi⟩))
  have HLo := Lib.hid (fun i (h0 : 0 < i) (hi : i < (ofl T 16).length) => (show ¬ lf (ofl T 16) i ≤ lf (ofl T 16) (i - 1) from by have h := ln7_lt (T := T) (k := 16) (show i - 1 < i by omega) hi; rw [lf_ln, lf_ln]; omega))
  have HPy := Lib.hid (fun m (hm : m < 16) (h : T m = true) => (show 0 ≤ pl7 (lf (ofl T 16)) (m : Nat) (ofl T 16).length from pl7_yes (by obtain ⟨i, h1, h2⟩ := ln7_at hm h; exact ⟨i, h1, by rw [lf_ln, h2]⟩)))
  have HPn := Lib.hid (fun m (h : T m = false) => (show pl7 (lf (ofl T 16)) (m : Nat) (ofl T 16).length = -1 from pl7_miss (fun i hi e => by rw [lf_ln] at e; have h2 := (ln7_mem hi).2; rw [show ln7 (ofl T 16) i = m by omega, h] at h2; cases h2)))
  have HYes := Lib.hid (fun m (hm : m < 16) (h : T m = true) => (show ∃ a' b' : Int, (∀ u, Below w.heap.size w u → Calls Try.prog 48 #[.agg #[.int .i64 (G.W : Nat), .int .i64 (G.H : Nat), .slice (some ⟨b, o, none⟩) (G.W * G.H) c], .int .i64 (m : Nat)] u fun e w' => e = .returned (.tuple #[.bool true, .agg #[.int .i64 a', .int .i64 b'], .int .i64 0]) ∧ Below u.heap.size u w') ∧
      (∀ u k d, Below w.heap.size w u → (G.ap m).W * (G.ap m).H ≤ d → Row u k ((G.ap m).W * (G.ap m).H) (G.ap m).f → Calls Try.prog 25 #[.agg #[.int .i64 (G.W : Nat), .int .i64 (G.H : Nat), .slice (some ⟨b, o, none⟩) (G.W * G.H) c], .agg #[.int .i64 ((G.ap m).W : Nat), .int .i64 ((G.ap m).H : Nat), .slice (some ⟨k, 0, none⟩) ((G.ap m).W * (G.ap m).H) d]] u fun e w' => e = .returned (.tuple #[.agg #[.int .i64 a', .int .i64 b'], .int .i64 0]) ∧ Below u.heap.size u w') from by
    rcases foff g.ok (ap_ok g.ok m) with ⟨_, a', b', hF⟩ | ⟨hs, _⟩
    · exact ⟨a', b', fun u hu => phas_at g hm hF b o c u (Nat.lt_of_lt_of_le lb hu.size) (fun i hi => (hu.cell (p := ⟨b, o + i, none⟩) lb).trans (hcs i hi)) hc, fun u k d hu hd hr => poff_gm g (g.ap m) hF b o c k 0 d u (Nat.lt_of_lt_of_le lb hu.size) hr.lt (fun i hi => (hu.cell (p := ⟨b, o + i, none⟩) lb).trans (hcs i hi)) (fun i hi => by rw [Nat.zero_add]; exact hr.cell hi) hc hd⟩
    · exact absurd ((tk_iff g.ok m).1 (by rw [hT]; exact h)).symm hs))
  have HNo := Lib.hid (fun m (hm : m < 16) (h : T m = false) => (show (∀ u, Below w.heap.size w u → Calls Try.prog 48 #[.agg #[.int .i64 (G.W : Nat), .int .i64 (G.H : Nat), .slice (some ⟨b, o, none⟩) (G.W * G.H) c], .int .i64 (m : Nat)] u fun e w' => e = .returned (.tuple #[.bool false, .agg #[.int .i64 0, .int .i64 0], .int .i64 0]) ∧ Below u.heap.size u w') ∧
      (∀ u k d, Below w.heap.size w u → (G.ap m).W * (G.ap m).H ≤ d → Row u k ((G.ap m).W * (G.ap m).H) (G.ap m).f → Calls Try.prog 25 #[.agg #[.int .i64 (G.W : Nat), .int .i64 (G.H : Nat), .slice (some ⟨b, o, none⟩) (G.W * G.H) c], .agg #[.int .i64 ((G.ap m).W : Nat), .int .i64 ((G.ap m).H : Nat), .slice (some ⟨k, 0, none⟩) ((G.ap m).W * (G.ap m).H) d]] u fun e w' => e = .returned (.tuple #[.agg #[.int .i64 0, .int .i64 0], .int .i64 6]) ∧ Below u.heap.size u w') from by
    rcases foff g.ok (ap_ok g.ok m) with ⟨hs, _⟩ | ⟨_, hF⟩
    · have k := (tk_iff g.ok m).2 hs.symm
      rw [hT, h] at k
      cases k
    · exact ⟨fun u hu => phas_at g hm hF b o c u (Nat.lt_of_lt_of_le lb hu.size) (fun i hi => (hu.cell (p := ⟨b, o + i, none⟩) lb).trans (hcs i hi)) hc, fun u k d hu hd hr => poff_gm g (g.ap m) hF b o c k 0 d u (Nat.lt_of_lt_of_le lb hu.size) hr.lt (fun i hi => (hu.cell (p := ⟨b, o + i, none⟩) lb).trans (hcs i hi)) (fun i hi => by rw [Nat.zero_add]; exact hr.cell hi) hc hd⟩))
  have HAp := Lib.hid (fun m (hm : m < 16) u (hu : Below w.heap.size w u) => papn G g b o c m hm u (Nat.lt_of_lt_of_le lb hu.size) (fun i hi => (hu.cell (p := ⟨b, o + i, none⟩) lb).trans (hcs i hi)))
  have HTi := Lib.hid hTi
  have HTc := Lib.hid hTc
  have e16 : (16 : Int).tmod (((ofl T 16).length : Nat) : Int) = 0 := by rw [Int.tmod_eq_emod_of_nonneg (by omega)]; have h := Int.natCast_emod 16 (ofl T 16).length; rw [hdiv] at h; exact h.symm
  have e17 : (16 : Int) % (((ofl T 16).length : Nat) : Int) = 0 := by have h := Int.natCast_emod 16 (ofl T 16).length; rw [hdiv] at h; exact h.symm
  have hz1 : lf (ofl T 16) 0 = 0 := by rw [lf_ln, hz0]; rfl
  have hN := g.n
  clear hv hal hcs hT hT0 hTi hTc hdiv hz0 hc g
  generalize lf (ofl T 16) = L at *
  generalize ln7 (ofl T 16) = M at *
  generalize (ofl T 16).length = N at *
  have HZ1 := Lib.hid hz1
  have HE := Lib.hid (And.intro e16 e17)
  clear hz1 e16 e17
  have X0 := Lib.hid (Box.new w (G.W : Nat) (G.H : Nat) (.slice (some ⟨b, o, none⟩) (G.W * G.H) c))
  have LB0 := Lib.hid (show Below w.heap.size w (w.alloc (.cells #[.int .i64 (G.W : Nat), .int .i64 (G.H : Nat), .slice (some ⟨b, o, none⟩) (G.W * G.H) c] 24)) from (Below.refl _ _).alloc (Nat.le_refl _) _)
  go_enter Try.func14, Try.ntmps14
  obtain ⟨q0, q1, q2, q3, q4, q5, q6⟩ := X0.out.all
  go_wp2_with fail
  clear q0 q1 q2 q3 q4 q5 q6
  refine (HV.out _).mono ?_
  rintro e w1 ⟨rfl, hb⟩
  have X1 := Lib.hid (X0.out.below hb X0.out.lt)
  have LB1 := Lib.hid (LB0.out.trans (hb.mono LB0.out.size))
  clear hb X0 LB0
  obtain ⟨q0, q1, q2, q3, q4, q5, q6⟩ := X1.out.all
  go_wp2_with fail
  clear q0 q1 q2 q3 q4 q5 q6
  refine (HAll.out _ LB1.out).mono ?_
  rintro e w2 ⟨D, c1, rfl, hrw, hb⟩
  obtain ⟨kl, rfl, hkl, hrow⟩ := hrw hn0
  clear hrw
  have Lr2 := Lib.hid (hrow)
  clear hkl hrow
  have X2 := Lib.hid (X1.out.below hb X1.out.lt)
  have LB2 := Lib.hid (LB1.out.trans (hb.mono LB1.out.size))
  clear hb X1 LB1
  have S0 : Hid (GS w w2 (G.W : Nat) (G.H : Nat) (.slice (some ⟨b, o, none⟩) (G.W * G.H) c) kl N L) := Lib.hid ⟨X2.out, Lr2.out, LB2.out⟩
  have c0 : w2.cell? ⟨kl, 0, none⟩ = some (.int .i64 0) := by rw [Lr2.out.cell hn0, HZ1.out]
  have n1 : ¬ ((N : Int) < 1) := by omega
  have n2 : decide ((N : Int) < 1) = false := by simp; omega
  have n3 : ¬ (N : Int) = 0 := by omega
  have n4 : ¬ N = 0 := by omega
  have n5 : ¬ N < 1 := by omega
  have n6 : (0 : Int) < (N : Int) := by omega
  obtain ⟨e16, e17⟩ := HE.out
  clear X2 LB2 Lr2
  go_wp2
  clear c0 n1 n2 n3 n4 n5 n6 e16 e17
  have HPl := Lib.hid (fun u (hu : L2.Row u kl N L) (x : Int) => place_det (some ⟨kl, 0, none⟩) N c1 L x u (hu.holds hu.lt) (by omega))
  have HPq := Lib.hid (fun u (hu : L2.Row u kl N L) (x : Int) (n : Nat) => place_q kl N c1 L x u n hu (by omega))
  go_loopw [5] (fun v wr => ∃ m : Nat, m ≤ 16 ∧ v = .int .i64 m ∧ Hid (GS w wr (G.W : Nat) (G.H : Nat) (.slice (some ⟨b, o, none⟩) (G.W * G.H) c) kl N L)) (fun v _ => 16 - (intOf v).toNat)
  case atStart => exact ⟨0, by omega, rfl, S0⟩
  case round =>
    obtain ⟨m, hm, rfl, HS⟩ := hrel
    by_cases hlm : m < 16
    · have HA := Lib.hid (fun u hu => HAp.out m hlm u hu)
      obtain ⟨K, hK⟩ : ∃ K, G.ap m = K := ⟨_, rfl⟩
      cases hTm : T m with
      | true =>
        obtain ⟨a', b', h1, h2⟩ := HYes.out m hlm hTm
        have hp := HPy.out m hlm hTm
        rw [hK] at h2
        simp only [hK] at HA
        have H1 := Lib.hid h1
        have H2 := Lib.hid h2
        clear h1 h2 hTm hK
        have hp1 : ¬ pl7 L (m : Nat) N < 0 := by omega
        have hp2 : decide (0 ≤ pl7 L (m : Nat) N) = true := by rw [decide_eq_true_iff]; exact hp
        have HP2 := Lib.hid (And.intro hp hp2)
        obtain ⟨p, hpq⟩ : ∃ p, pl7 L (m : Nat) N = p := ⟨_, rfl⟩
        rw [hpq] at hp hp1 hp2 HP2
        have HPQ := Lib.hid hpq
        clear hpq
        have S0 := HS
        clear HS
        obtain ⟨q0, q1, q2, q3, q4, q5, q6⟩ := S0.out.g.all
        go_wp2_with fail
        clear q0 q1 q2 q3 q4 q5 q6
        refine (H1.out _ S0.out.bel).mono ?_
        rintro e v1 ⟨rfl, hb⟩
        have hba := (show Below _ _ (v1.alloc (.cells #[.int .i64 a', .int .i64 b'] 40)) from hb.trans (((Below.refl _ _).alloc (Nat.le_refl _) _).mono hb.size))
        have Pa1 := Lib.hid (Pt.new v1 a' b')
        clear hb
        have S1 := Lib.hid (S0.out.next hba)
        clear hba S0
        obtain ⟨q0, q1, q2, q3, q4, q5, q6⟩ := S1.out.g.all
        go_wp2_with fail
        clear q0 q1 q2 q3 q4 q5 q6
        refine (HA.out _ S1.out.bel).mono ?_
        rintro e v2 ⟨k1, d1, rfl, hcap, hk, hrow, hb⟩
        have hba := (show Below _ _ (v2.alloc (.cells #[.int .i64 (K.W : Nat), .int .i64 (K.H : Nat), .slice (some ⟨k1, 0, none⟩) (K.W * K.H) d1] 24)) from hb.trans (((Below.refl _ _).alloc (Nat.le_refl _) _).mono hb.size))
        have Vh2 := Lib.hid (Box.new v2 (K.W : Nat) (K.H : Nat) (.slice (some ⟨k1, 0, none⟩) (K.W * K.H) d1))
        have Rh2 := Lib.hid (hrow.alloc (.cells #[.int .i64 (K.W : Nat), .int .i64 (K.H : Nat), .slice (some ⟨k1, 0, none⟩) (K.W * K.H) d1] 24))
        clear hb hrow hk
        have S2 := Lib.hid (S1.out.next hba)
        have Pa2 := Lib.hid (Pa1.out.below hba Pa1.out.lt)
        clear hba S1 Pa1
        obtain ⟨q0, q1, q2, q3, q4, q5, q6⟩ := S2.out.g.all
        obtain ⟨r0, r1, r2, r3, r4, r5, r6⟩ := Vh2.out.all
        go_wp2_with fail
        clear q0 q1 q2 q3 q4 q5 q6 r0 r1 r2 r3 r4 r5 r6
        refine (H2.out _ k1 d1 S2.out.bel hcap Rh2.out).mono ?_
        rintro e v3 ⟨rfl, hb⟩
        have hba := (show Below _ _ (v3.alloc (.cells #[.int .i64 a', .int .i64 b'] 40)) from hb.trans (((Below.refl _ _).alloc (Nat.le_refl _) _).mono hb.size))
        have Pb3 := Lib.hid (Pt.new v3 a' b')
        clear hb
        have S3 := Lib.hid (S2.out.next hba)
        have Pa3 := Lib.hid (Pa2.out.below hba Pa2.out.lt)
        have Vh3 := Lib.hid (Vh2.out.below hba Vh2.out.lt)
        have Rh3 := Lib.hid (Rh2.out.below hba Rh2.out.lt)
        clear hba S2 Pa2 Vh2 Rh2
        obtain ⟨q0, q1, q2, q3⟩ := Pa3.out.all
        obtain ⟨r0, r1, r2, r3⟩ := Pb3.out.all
        have s1 : (a' == a') = true := by simp
        have s2 : (b' == b') = true := by simp
        have s3 : (a' != a') = false := by simp
        have s4 : (b' != b') = false := by simp
        clear hp hp1 hp2
        go_wp2_with fail
        refine (HPl.out _ S3.out.l _).mono ?_
        rintro e wx ⟨rfl, hww⟩
        subst wx
        rw [HPQ.out]
        obtain ⟨hp, hp2⟩ := HP2.out
        have hp1 : ¬ p < 0 := by omega
        go_wp2
        exact ⟨⟨m + 1, by omega, by go_num, S3⟩, by simp [intOf]; omega⟩
      | false =>
        obtain ⟨h1, h2⟩ := HNo.out m hlm hTm
        have hp := HPn.out m hTm
        rw [hK] at h2
        simp only [hK] at HA
        have H1 := Lib.hid h1
        have H2 := Lib.hid h2
        have HP := Lib.hid hp
        clear h1 h2 hTm hK hp
        have S0 := HS
        clear HS
        obtain ⟨q0, q1, q2, q3, q4, q5, q6⟩ := S0.out.g.all
        go_wp2_with fail
        clear q0 q1 q2 q3 q4 q5 q6
        refine (H1.out _ S0.out.bel).mono ?_
        rintro e v1 ⟨rfl, hb⟩
        have hba := (show Below _ _ (v1.alloc (.cells #[.int .i64 0, .int .i64 0] 40)) from hb.trans (((Below.refl _ _).alloc (Nat.le_refl _) _).mono hb.size))
        have Pa1 := Lib.hid (Pt.new v1 0 0)
        clear hb
        have S1 := Lib.hid (S0.out.next hba)
        clear hba S0
        obtain ⟨q0, q1, q2, q3, q4, q5, q6⟩ := S1.out.g.all
        go_wp2_with fail
        clear q0 q1 q2 q3 q4 q5 q6
        refine (HA.out _ S1.out.bel).mono ?_
        rintro e v2 ⟨k1, d1, rfl, hcap, hk, hrow, hb⟩
        have hba := (show Below _ _ (v2.alloc (.cells #[.int .i64 (K.W : Nat), .int .i64 (K.H : Nat), .slice (some ⟨k1, 0, none⟩) (K.W * K.H) d1] 24)) from hb.trans (((Below.refl _ _).alloc (Nat.le_refl _) _).mono hb.size))
        have Vh2 := Lib.hid (Box.new v2 (K.W : Nat) (K.H : Nat) (.slice (some ⟨k1, 0, none⟩) (K.W * K.H) d1))
        have Rh2 := Lib.hid (hrow.alloc (.cells #[.int .i64 (K.W : Nat), .int .i64 (K.H : Nat), .slice (some ⟨k1, 0, none⟩) (K.W * K.H) d1] 24))
        clear hb hrow hk
        have S2 := Lib.hid (S1.out.next hba)
        have Pa2 := Lib.hid (Pa1.out.below hba Pa1.out.lt)
        clear hba S1 Pa1
        obtain ⟨q0, q1, q2, q3, q4, q5, q6⟩ := S2.out.g.all
        obtain ⟨r0, r1, r2, r3, r4, r5, r6⟩ := Vh2.out.all
        go_wp2_with fail
        clear q0 q1 q2 q3 q4 q5 q6 r0 r1 r2 r3 r4 r5 r6
        refine (H2.out _ k1 d1 S2.out.bel hcap Rh2.out).mono ?_
        rintro e v3 ⟨rfl, hb⟩
        have hba := (show Below _ _ (v3.alloc (.cells #[.int .i64 0, .int .i64 0] 40)) from hb.trans (((Below.refl _ _).alloc (Nat.le_refl _) _).mono hb.size))
        have Pb3 := Lib.hid (Pt.new v3 0 0)
        clear hb
        have S3 := Lib.hid (S2.out.next hba)
        have Pa3 := Lib.hid (Pa2.out.below hba Pa2.out.lt)
        have Vh3 := Lib.hid (Vh2.out.below hba Vh2.out.lt)
        have Rh3 := Lib.hid (Rh2.out.below hba Rh2.out.lt)
        clear hba S2 Pa2 Vh2 Rh2
        obtain ⟨q0, q1, q2, q3⟩ := Pa3.out.all
        obtain ⟨r0, r1, r2, r3⟩ := Pb3.out.all
        go_wp2_with fail
        refine (HPl.out _ S3.out.l _).mono ?_
        rintro e wx ⟨rfl, hww⟩
        subst wx
        rw [HP.out]
        go_wp2
        exact ⟨⟨m + 1, by omega, by go_num, S3⟩, by simp [intOf]; omega⟩
    · have e : m = 16 := by omega
      subst e
      rw [show ((16 : Nat) : Int) = 16 from rfl]
      go_wp2
      go_loopw [13] (fun v wr => ∃ i : Nat, i ≤ N ∧ v = .int .i64 i ∧ Hid (GS w wr (G.W : Nat) (G.H : Nat) (.slice (some ⟨b, o, none⟩) (G.W * G.H) c) kl N L)) (fun v _ => N - (intOf v).toNat)
      case atStart => exact ⟨0, by omega, rfl, HS⟩
      case round =>
        obtain ⟨i, hi, rfl, HS2⟩ := hrel
        by_cases hli : i < N
        · obtain ⟨e1, e2, e3⟩ := HLm.out i hli
          have hinv := (g_inv (M i) e2).1
          have HPi := Lib.hid (HPy.out (inv (M i)) hinv (HTi.out (M i) e2 e3))
          have HIv := Lib.hid (fun u => pinv_ok (M i) e2 u)
          have c1' := HS2.out.l.cell hli
          rw [e1] at c1'
          have HMi := Lib.hid (And.intro e2 e3)
          have HM1 := Lib.hid e1
          obtain ⟨a, ha⟩ : ∃ a, M i = a := ⟨_, rfl⟩
          rw [ha] at c1' HPi HIv HMi HM1
          clear e1 e2 e3 hinv ha
          have y1 : (i : Int) < (N : Int) := by omega
          go_wp2_with fail
          clear c1'
          refine (HIv.out _).mono ?_
          rintro e w3 ⟨rfl, hb⟩
          have HS3 := Lib.hid (HS2.out.next hb)
          clear hb HS2
          obtain ⟨p, hpq⟩ : ∃ p, pl7 L (inv a : Nat) N = p := ⟨_, rfl⟩
          have HQp := Lib.hid (fun n => (show Calls Try.prog 66 #[.slice (some ⟨kl, 0, none⟩) N c1, .int .i64 N, .int .i64 (inv a : Nat)] (w3.drewN n) fun e w' => e = .returned (.int .i64 p) ∧ ∃ k, w' = w3.drewN k from by have h := HPq.out w3 HS3.out.l (inv a : Nat) n; rwa [hpq] at h))
          rw [hpq] at HPi
          have hp := HPi.out
          have hp1 : ¬ p < 0 := by omega
          have hp2 : decide (p < 0) = false := by simp; omega
          clear hpq
          rcases Nat.eq_zero_or_pos i with hi0 | hi0
          · subst hi0
            go_wp2
            go_quiet ((go_at_call 66; with_reducible exact HQp.out _))
            clear hp hp1 hp2
            go_wp2
            go_loopw [16] (fun v wr => ∃ k : Nat, k ≤ N ∧ v = .int .i64 k ∧ Hid (GS w wr (G.W : Nat) (G.H : Nat) (.slice (some ⟨b, o, none⟩) (G.W * G.H) c) kl N L)) (fun v _ => N - (intOf v).toNat)
            case atStart => exact ⟨0, by omega, rfl, Lib.hid (HS3.out.drewN _)⟩
            case round =>
              obtain ⟨k, hk, rfl, HS4⟩ := hrel
              by_cases hlk : k < N
              · obtain ⟨e1, e2, e3⟩ := HLm.out k hlk
                obtain ⟨a2, a3⟩ := HMi.out
                have HCq := Lib.hid (fun u n => pcomp_q a (M k) a2 e2 u n)
                have HPi2 := Lib.hid (HPy.out (cmp a (M k)) (cmp_lt a a2 (M k) e2) (HTc.out a a2 (M k) e2 a3 e3))
                have j1 := HS4.out.l.cell hlk
                have j2 := HS4.out.l.cell hli
                rw [e1] at j1
                rw [HM1.out] at j2
                obtain ⟨d, hd⟩ : ∃ d, M k = d := ⟨_, rfl⟩
                rw [hd] at j1 HCq HPi2
                clear e1 e2 e3 hd a2 a3
                have y2 : (k : Int) < (N : Int) := by omega
                go_wp2
                go_quiet ((go_at_call 54; with_reducible exact HCq.out _ _))
                clear j1 j2
                obtain ⟨p2, hp2q⟩ : ∃ p, pl7 L (cmp a d : Nat) N = p := ⟨_, rfl⟩
                rw [hp2q] at HPi2
                have HP2q := Lib.hid hp2q
                clear hp2q
                have HS5 := Lib.hid (HS4.out.drewN nq)
                go_wp2_with fail
                refine (HPl.out _ HS5.out.l _).mono ?_
                rintro e wx ⟨rfl, hww⟩
                subst wx
                rw [HP2q.out]
                have g1 := HPi2.out
                have g2 : ¬ p2 < 0 := by omega
                go_wp2
                exact ⟨⟨k + 1, by omega, by go_num, HS5⟩, by simp [intOf]; omega⟩
              · have e : k = N := by omega
                subst e
                go_wp2
                exact ⟨⟨0 + 1, by omega, by go_num, HS4⟩, by simp [intOf]; omega⟩
          · have k1 := HS3.out.l.cell hli
            have k2 := HS3.out.l.cell (show i - 1 < N by omega)
            have k3 := HLo.out i hi0 hli
            have k4 : ((i : Int) - 1) = ((i - 1 : Nat) : Int) := by omega
            obtain ⟨x1, hx1⟩ : ∃ x, L i = x := ⟨_, rfl⟩
            obtain ⟨x2, hx2⟩ : ∃ x, L (i - 1) = x := ⟨_, rfl⟩
            rw [hx1] at k1 k3
            rw [hx2] at k2 k3
            clear hx1 hx2
            have k6 : IntKind.i64.wrap ((i : Int) - 1) = ((i - 1 : Nat) : Int) := by rw [k4]; exact IntWalk.i64_in _ (by omega)
            have k7 : decide (x1 ≤ x2) = false := by simp; omega
            have k8 : ((i - 1 : Nat) : Int) < (N : Int) := by omega
            have k9 : (0 : Int) ≤ ((i - 1 : Nat) : Int) := by omega
            have k10 : (0 : Int) < (i : Int) := by omega
            have k11 : decide ((0 : Int) < (i : Int)) = true := by simp; omega
            clear k4
            go_wp2
            go_quiet ((go_at_call 66; with_reducible exact HQp.out _))
            clear hp hp1 hp2 k1 k2 k3 k6 k7 k8 k9 k10 k11
            go_wp2
            go_loopw [16] (fun v wr => ∃ k : Nat, k ≤ N ∧ v = .int .i64 k ∧ Hid (GS w wr (G.W : Nat) (G.H : Nat) (.slice (some ⟨b, o, none⟩) (G.W * G.H) c) kl N L)) (fun v _ => N - (intOf v).toNat)
            case atStart => exact ⟨0, by omega, rfl, Lib.hid (HS3.out.drewN _)⟩
            case round =>
              obtain ⟨k, hk, rfl, HS4⟩ := hrel
              by_cases hlk : k < N
              · obtain ⟨e1, e2, e3⟩ := HLm.out k hlk
                obtain ⟨a2, a3⟩ := HMi.out
                have HCq := Lib.hid (fun u n => pcomp_q a (M k) a2 e2 u n)
                have HPi2 := Lib.hid (HPy.out (cmp a (M k)) (cmp_lt a a2 (M k) e2) (HTc.out a a2 (M k) e2 a3 e3))
                have j1 := HS4.out.l.cell hlk
                have j2 := HS4.out.l.cell hli
                rw [e1] at j1
                rw [HM1.out] at j2
                obtain ⟨d, hd⟩ : ∃ d, M k = d := ⟨_, rfl⟩
                rw [hd] at j1 HCq HPi2
                clear e1 e2 e3 hd a2 a3
                have y2 : (k : Int) < (N : Int) := by omega
                go_wp2
                go_quiet ((go_at_call 54; with_reducible exact HCq.out _ _))
                clear j1 j2
                obtain ⟨p2, hp2q⟩ : ∃ p, pl7 L (cmp a d : Nat) N = p := ⟨_, rfl⟩
                rw [hp2q] at HPi2
                have HP2q := Lib.hid hp2q
                clear hp2q
                have HS5 := Lib.hid (HS4.out.drewN nq)
                go_wp2_with fail
                refine (HPl.out _ HS5.out.l _).mono ?_
                rintro e wx ⟨rfl, hww⟩
                subst wx
                rw [HP2q.out]
                have g1 := HPi2.out
                have g2 : ¬ p2 < 0 := by omega
                go_wp2
                exact ⟨⟨k + 1, by omega, by go_num, HS5⟩, by simp [intOf]; omega⟩
              · have e : k = N := by omega
                subst e
                go_wp2
                exact ⟨⟨i + 1, by omega, by go_num, HS4⟩, by simp [intOf]; omega⟩
        · have e : i = N := by omega
          subst e
          go_wp2_with fail
          refine (HAL.out _).mono ?_
          rintro e w9 ⟨rfl, hb⟩
          have HL9 := Lib.hid (HS2.out.bel.trans (hb.mono HS2.out.bel.size))
          clear hb
          go_wp2
          go_ret
          exact ⟨rfl, HL9.out⟩
theorem group7_any (W H : Int) (A : Option Addr) (n c : Nat) (f : Nat → Bool) (w : World) (hr : Holds w w.heap.size A n f) (hc : n ≤ c) (hal : ∀ w, Calls Try.prog 56 #[] w fun e w' => e = .returned (.bool true) ∧ Below w.heap.size w w') :
    Calls Try.prog 14 #[.agg #[.int .i64 W, .int .i64 H, .slice A n c]] w fun e w' => e = .returned (.bool true) ∧ Below w.heap.size w w' := by
  rcases valid7_case W H A n c with h | ⟨h, U, V, rfl, rfl, rfl, hg⟩
  · exact group7_v W H A n c w h hal
  · obtain ⟨b, o, rfl, lb, hcs⟩ := hr (hg f).n0
    exact group7_main ⟨U, V, f⟩ (hg f) b o c hc w lb hcs h hal
end Go.Proofs.Ytjbofdgdcnfmoaa
