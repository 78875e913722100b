/- The reference: Upon, first, Hangs, Apart. -/
import Derived.Test.YtnpgmgaajejhjaaHst
namespace Go.Proofs.Ytnpgmgaajejhjaa
open Go.RowKit
set_option maxRecDepth 100000
set_option linter.unusedVariables false
set_option linter.unusedSimpArgs false

/-- A list lies in memory. -/
def LL (w : World) (D : Option Addr) (l : List Nat) : Prop := L2.Holds w w.heap.size D l.length (lf l)
theorem LL.below {w w' : World} {D : Option Addr} {l : List Nat} (h : LL w D l) (hb : Below w.heap.size w w') : LL w' D l := (L2.Holds.below h hb).more hb.size
theorem LL.of {w : World} {lo : Nat} {D : Option Addr} {l : List Nat} (h : 0 < l.length → ∃ k, D = some ⟨k, 0, none⟩ ∧ lo ≤ k ∧ L2.Row w k l.length (lf l)) : LL w D l := fun hn => by
  obtain ⟨k, e, _, hr⟩ := h hn
  rw [e]
  exact hr.holds hr.lt hn
/-- A slice's length and room. -/
def Cp (D : Option Addr) (n c : Nat) : Prop := (D = none → c = 0) ∧ n ≤ c
theorem cp_nil : Cp none 0 0 := ⟨fun _ => rfl, Nat.le_refl _⟩
theorem own_cap {w : World} {base : Nat} {A : Option Addr} {n c : Nat} {f : Nat → Int} (h : L2.Own w base (.slice A n c) n f) : n ≤ c := by
  rcases h with ⟨_, ⟨hv, hn⟩ | ⟨g, cap, cur, hv, _, _, hc, _⟩⟩
  · omega
  · cases hv; exact hc
/-- A list came back. -/
def LR (w : World) (l : List Nat) (e : Ending) (w' : World) : Prop :=
  ∃ D c, e = .returned (.slice D l.length c) ∧ Cp D l.length c ∧ LL w' D l ∧ Below w.heap.size w w'
theorem lr_end {w w' : World} {l : List Nat} {v : Value} {base : Nat} (h : L2.Own w' base v l.length (lf l)) (hs : w.heap.size ≤ base) (hb : Below w.heap.size w w') : LR w l (.returned v) w' := by
  obtain ⟨A', c', rfl, h1, h2⟩ := h.out
  exact ⟨A', c', rfl, ⟨h1, own_cap h⟩, LL.of h2, hb⟩
set_option maxHeartbeats 800000 in
theorem upon_n (W H N : Nat) (hNN : W + H = N) (A : Option Addr) (c : Nat) (g : Nat → Bool) (tt : Nat) (w : World) (hg : Holds w w.heap.size A (W * H) g) (hW : W ≤ 64) (hH : H ≤ 64) (hto : tt < N) :
    Calls Try.prog 116 #[.agg #[.int .i64 (W : Nat), .int .i64 (H : Nat), .slice A (W * H) c], .int .i64 (tt : Nat)] w (LR w (ofl (up (ov W g) N tt) N)) := by
  have HS := Lib.hid (fun u (h : Below w.heap.size w u) => rsteps_n W H N hNN A c g tt u ((hg.below h).more h.size) hW hH hto)
  have hN : N ≤ 128 := by omega
  have X0 := Lib.hid (Box.new w (W : Nat) (H : Nat) (.slice A (W * H) c))
  have LB0 := Lib.hid (show Below w.heap.size w (w.alloc (.cells #[.int .i64 (W : Nat), .int .i64 (H : Nat), (.slice A (W * H) c)] 24)) from (Below.refl _ _).alloc (Nat.le_refl _) _)
  clear hg
  generalize W * H = M at *
  go_enter Try.func116, Try.ntmps116
  go_wp2_with fail
  generalize w.alloc (.cells #[.int .i64 (W : Nat), .int .i64 (H : Nat), .slice A M c] 24) = w0 at *
  obtain ⟨q0, q1, q2, q3, q4, q5, q6⟩ := X0.out.all
  go_wp2_with fail
  clear q0 q1 q2 q3 q4 q5 q6
  with_reducible refine Calls.mono (HS.out _ LB0.out) ?_
  rintro e w1 ⟨fr, rfl, hfr, hrow, hb⟩
  have LB1 := Lib.hid (LB0.out.trans (hb.mono LB0.out.size))
  have RW := Lib.hid hrow
  have hs1 := LB1.out.size
  clear hb X0 LB0 HS hrow
  go_wp2
  go_loopw [6, 7] (fun q i wr => ∃ k : Nat, k ≤ N ∧ i = .int .i64 k ∧ Hid (L2.Own wr w1.heap.size q (ofl (up (ov W g) N tt) k).length (lf (ofl (up (ov W g) N tt) k))) ∧ Hid (Below w1.heap.size w1 wr)) (fun _ i _ => N - (intOf i).toNat)
  case atStart => exact ⟨0, Nat.zero_le _, rfl, Lib.hid (L2.Own.nil _ _ _), Lib.hid (Below.refl _ _)⟩
  case round =>
    obtain ⟨k, hk, rfl, HO, HB⟩ := hrel
    by_cases hlt : k < N
    · have y1 : (k : Int) < (N : Int) := by omega
      have y3 : (0 : Int) ≤ (k : Int) := by omega
      have hlen := ofl_len (up (ov W g) N tt) k
      have c1 := (RW.out.below HB.out RW.out.lt).cell hlt
      have hsz := HB.out.size
      obtain ⟨u, hu⟩ : ∃ u, far (ov W g) N tt k = u := ⟨_, rfl⟩
      rw [hu] at c1
      have HU := Lib.hid hu
      clear hu
      by_cases h0 : 0 ≤ u
      · have hT : up (ov W g) N tt k = true := up_iff.2 (by rw [HU.out]; exact h0)
        have E := Lib.hid (ofl_yes hT)
        have HF := Lib.hid (HO.out.congr (fun i hi => lf_app (r := [k]) hi))
        have HY := Lib.hid (lf_last (ofl (up (ov W g) N tt) k) k)
        have EL := Lib.hid (show (ofl (up (ov W g) N tt) (k + 1)).length = (ofl (up (ov W g) N tt) k).length + 1 by rw [E.out, List.length_append]; rfl)
        clear hT HO
        go_wp2_with (at_builtin; refine L2.app1 _ rfl _ _ (by rfl) w1.heap.size (by rfl) HF.out (k : Int) (by rfl) HY.out (by omega) hsz ?_; intro v' w5 hown5 hb5; have HO5 := Lib.hid hown5; have HB5 := Lib.hid hb5; clear hown5 hb5)
        exact ⟨⟨k + 1, by omega, by go_num, by rw [EL.out, E.out]; exact HO5, Lib.hid (HB.out.trans HB5.out)⟩, by simp [intOf]; omega⟩
      · have hT : up (ov W g) N tt k = false := by cases h : up (ov W g) N tt k; · rfl
                                                   · exact absurd (by have := up_iff.1 h; rwa [HU.out] at this) h0
        have E := Lib.hid (ofl_no hT)
        clear hT
        go_wp2
        exact ⟨⟨k + 1, by omega, by go_num, by rw [E.out]; exact HO, HB⟩, by simp [intOf]; omega⟩
    · have e : k = N := by omega
      subst e
      have HF := Lib.hid (lr_end HO.out hs1 (LB1.out.trans (HB.out.mono hs1)))
      go_wp2
      go_ret
      exact HF.out
/-- How the first set of the fewest is looked for. -/
structure FR (R : Nat → Nat → Bool) (N a b : Nat) : Prop where
  lt : b < N
  lo : a ≤ t0 R N → sz R N (t0 R N) < sz R N b
  hi : t0 R N < a → ofl (up R N b) N = ofl (up R N (t0 R N)) N
theorem FR.start {R : Nat → Nat → Bool} {N : Nat} (h : 0 < N) : FR R N 1 0 := by
  refine ⟨h, fun h1 => (t0_least h).2 (by omega), fun h1 => ?_⟩
  have e : t0 R N = 0 := by omega
  rw [e]
theorem FR.keep {R : Nat → Nat → Bool} {N a b : Nat} (h : FR R N a b) (ha : a < N) (h1 : ¬ sz R N a < sz R N b) : FR R N (a + 1) b := by
  refine ⟨h.lt, fun h2 => h.lo (by omega), fun h2 => ?_⟩
  rcases Nat.lt_or_ge (t0 R N) a with c | c
  · exact h.hi c
  · have e : t0 R N = a := by omega
    have := h.lo c
    rw [e] at this
    exact absurd this h1
theorem FR.less {R : Nat → Nat → Bool} {N a b : Nat} (h : FR R N a b) (ha : a < N) (h1 : sz R N a < sz R N b) : FR R N (a + 1) a := by
  refine ⟨ha, fun h2 => (t0_least ha).2 (by omega), fun h2 => ?_⟩
  rcases Nat.lt_or_ge (t0 R N) a with c | c
  · have e := h.hi c
    have h3 : sz R N b = sz R N (t0 R N) := by unfold sz; rw [e]
    have := (t0_least (R := R) ha).1
    omega
  · have e : t0 R N = a := by omega
    rw [e]
theorem FR.head {R : Nat → Nat → Bool} {N a b : Nat} (h : FR R N a b) (ha : a < N) (h1 : sz R N a = sz R N b) (h2 : lf (ofl (up R N a) N) 0 < lf (ofl (up R N b) N) 0) : FR R N (a + 1) a := by
  refine ⟨ha, fun h2 => (t0_least ha).2 (by omega), fun h3 => ?_⟩
  rcases Nat.lt_or_ge (t0 R N) a with c | c
  · have e := h.hi c
    have h4 : sz R N a = sz R N (t0 R N) := by rw [h1]; unfold sz; rw [e]
    have hh := t0_head (R := R) (N := N) (by omega)
    rw [e] at h2
    unfold lf at h2
    rw [List.getD_eq_getElem?_getD, List.getD_eq_getElem?_getD, hh] at h2
    cases hx : (ofl (up R N a) N)[0]? with
    | none =>
      have := up_self (R := R) ha
      obtain ⟨i, hi, _⟩ := ofl_ix ha this
      rw [List.getElem?_eq_none_iff] at hx
      omega
    | some u =>
      have := t0_other ha h4 hx
      rw [hx] at h2
      simp at h2
      omega
  · have e : t0 R N = a := by omega
    have := h.lo c
    rw [e] at this
    omega
theorem ofl_pos {R : Nat → Nat → Bool} {N a : Nat} (ha : a < N) : 0 < (ofl (up R N a) N).length := by
  obtain ⟨i, hi, _⟩ := ofl_ix ha (up_self (R := R) ha)
  omega
set_option maxHeartbeats 1600000 in
theorem rfirst_n (W H N : Nat) (hNN : W + H = N) (A : Option Addr) (c : Nat) (g : Nat → Bool) (w : World) (hg : Holds w w.heap.size A (W * H) g) (hW : W ≤ 64) (hH : H ≤ 64) (hN0 : 0 < N) :
    Calls Try.prog 91 #[.agg #[.int .i64 (W : Nat), .int .i64 (H : Nat), .slice A (W * H) c]] w (LR w (ofl (up (ov W g) N (t0 (ov W g) N)) N)) := by
  have HT := Lib.hid (fun u => rthr_any W H A (W * H) c u hW hH)
  rw [hNN] at HT
  have HU := Lib.hid (fun u (h : Below w.heap.size w u) tt ht => upon_n W H N hNN A c g tt u ((hg.below h).more h.size) hW hH ht)
  have hN : N ≤ 128 := by omega
  have HF0 := Lib.hid (FR.start (R := ov W g) hN0)
  have HP := Lib.hid (fun a (ha : a < N) => ofl_pos (R := ov W g) ha)
  have HFK := Lib.hid (fun a b (h : FR (ov W g) N a b) (ha : a < N) => (⟨h.keep ha, h.less ha, h.head ha⟩ : _ ∧ _ ∧ _))
  have HE := Lib.hid (fun b (h : FR (ov W g) N N b) => h.hi (t0_lt hN0))
  have HLT := Lib.hid (fun a => ofl_len (up (ov W g) N a) N)
  unfold sz at HFK
  have X0 := Lib.hid (Box.new w (W : Nat) (H : Nat) (.slice A (W * H) c))
  have LB0 := Lib.hid (show Below w.heap.size w (w.alloc (.cells #[.int .i64 (W : Nat), .int .i64 (H : Nat), (.slice A (W * H) c)] 24)) from (Below.refl _ _).alloc (Nat.le_refl _) _)
  clear hg hNN
  generalize W * H = M at *
  go_enter Try.func91, Try.ntmps91
  go_wp2_with fail
  generalize w.alloc (.cells #[.int .i64 (W : Nat), .int .i64 (H : Nat), .slice A M c] 24) = w0 at *
  obtain ⟨q0, q1, q2, q3, q4, q5, q6⟩ := X0.out.all
  go_wp2_with fail
  clear q0 q1 q2 q3 q4 q5 q6
  have h00 := HU.out _ LB0.out 0 hN0
  have H00 := Lib.hid h00
  clear h00
  go_wp2_with fail
  with_reducible refine Calls.mono H00.out ?_
  rintro e w1 ⟨D, d, rfl, hd, hrow, hb⟩
  have HLL := Lib.hid hrow
  have HDc := Lib.hid hd
  have X1 := Lib.hid (X0.out.below hb X0.out.lt)
  have LB1 := Lib.hid (LB0.out.trans (hb.mono LB0.out.size))
  clear hb X0 LB0 hrow H00 hd
  go_wp2
  go_loopw [3, 4] (fun q i wr => ∃ (a b : Nat) (D : Option Addr) (d : Nat), a ≤ N ∧ i = .int .i64 a ∧ q = .slice D (ofl (up (ov W g) N b) N).length d ∧ Hid (1 ≤ a ∧ FR (ov W g) N a b ∧ Cp D (ofl (up (ov W g) N b) N).length d) ∧ Hid (LL wr D (ofl (up (ov W g) N b) N)) ∧ Hid (Box wr w.heap.size (W : Nat) (H : Nat) (.slice A M c)) ∧ Hid (Below w.heap.size w wr)) (fun _ i _ => N - (intOf i).toNat)
  case atStart => exact ⟨1, 0, D, d, hN0, by simp, rfl, Lib.hid ⟨Nat.le_refl _, HF0.out, HDc.out⟩, HLL, X1, LB1⟩
  case round =>
    obtain ⟨a, b, D, d, ha, rfl, rfl, HR, HLb, HX, HL⟩ := hrel
    clear HLL X1 LB1 HDc
    obtain ⟨q0, q1, q2, q3, q4, q5, q6⟩ := HX.out.all
    go_wp2_with fail
    clear q0 q1 q2 q3 q4 q5 q6
    with_reducible refine Calls.mono (HT.out _) ?_
    rintro e w2 ⟨rfl, hb⟩
    have HX2 := Lib.hid (HX.out.below hb HX.out.lt)
    have HL2 := Lib.hid (HL.out.trans (hb.mono HL.out.size))
    have HLb2 := Lib.hid (HLb.out.below hb)
    clear hb HX HL HLb
    by_cases hlt : a < N
    · have y1 : (a : Int) < (N : Int) := by omega
      have hua := HU.out _ HL2.out a hlt
      have HUa := Lib.hid hua
      clear hua
      obtain ⟨q0, q1, q2, q3, q4, q5, q6⟩ := HX2.out.all
      go_wp2_with fail
      clear q0 q1 q2 q3 q4 q5 q6
      with_reducible refine Calls.mono HUa.out ?_
      rintro e w3 ⟨D2, d2, rfl, hd2, hrow, hb⟩
      have HLa := Lib.hid hrow
      have HDa := Lib.hid hd2
      have HX3 := Lib.hid (HX2.out.below hb HX2.out.lt)
      have HL3 := Lib.hid (HL2.out.trans (hb.mono HL2.out.size))
      have HLb3 := Lib.hid (HLb2.out.below hb)
      clear hb HX2 HL2 HLb2 hrow HUa hd2
      obtain ⟨hk1, hk2, hk3⟩ := HFK.out a b HR.out.2.1 hlt
      have K1 := Lib.hid hk1
      have K2 := Lib.hid hk2
      have K3 := Lib.hid hk3
      have pa := HP.out a hlt
      have pb := HP.out b HR.out.2.1.lt
      clear hk1 hk2 hk3
      obtain ⟨ba, oa, ea, hba, hca⟩ := HLa.out pa
      obtain ⟨bb, ob, eb, hbb, hcb⟩ := HLb3.out pb
      have c1 := hca 0 pa
      have c2 := hcb 0 pb
      rw [Nat.add_zero] at c1 c2
      have l1 := HLT.out a
      have l2 := HLT.out b
      clear hca hcb
      subst ea
      subst eb
      generalize hla : ofl (up (ov W g) N a) N = la at *
      generalize hlb : ofl (up (ov W g) N b) N = lb at *
      have HA2 := Lib.hid hla
      have HB2 := Lib.hid hlb
      clear hla hlb
      obtain ⟨La, hLa⟩ : ∃ x, la.length = x := ⟨_, rfl⟩
      obtain ⟨Lb, hLb⟩ : ∃ x, lb.length = x := ⟨_, rfl⟩
      have HLA := Lib.hid hLa
      have HLB := Lib.hid hLb
      rw [hLa] at K1 K2 K3 pa l1 ⊢
      rw [hLb] at K1 K2 K3 pb l2 ⊢
      clear hLa hLb
      obtain ⟨ua, hua⟩ : ∃ x, lf la 0 = x := ⟨_, rfl⟩
      obtain ⟨ub, hub⟩ : ∃ x, lf lb 0 = x := ⟨_, rfl⟩
      rw [hua] at c1 K3
      rw [hub] at c2 K3
      clear hua hub
      have y4 : (0 : Int) < (La : Int) := by omega
      have y5 : (0 : Int) < (Lb : Int) := by omega
      go_wp2
      by_cases h1 : La < Lb
      · have d1 : decide (La < Lb) = true := by simp; omega
        have d1' : (La : Int) < (Lb : Int) := by omega
        go_quiet (fail)
        go_wp2
        go_roundw
        case rel => exact ⟨a + 1, a, _, d2, by omega, by go_num, by rw [HA2.out, HLA.out], Lib.hid ⟨by omega, K2.out h1, by rw [HA2.out]; exact HDa.out⟩, by rw [HA2.out]; exact Lib.hid (HLa.out.below (below_drewN' (Below.refl _ _) _)), Lib.hid (HX3.out.below (below_drewN' (Below.refl _ _) _) HX3.out.lt), Lib.hid (below_drewN' HL3.out _)⟩
        case measure => simp [intOf]; omega
      · have d1 : decide (La < Lb) = false := by simp; omega
        have d1' : ¬ (La : Int) < (Lb : Int) := by omega
        by_cases h2 : La = Lb
        · have d2' : ((La : Int) == (Lb : Int)) = true := by simp; omega
          by_cases h3 : ua < ub
          · have d3 : decide (ua < ub) = true := by simp; omega
            have K := Lib.hid (K3.out h2 h3)
            subst h2
            go_quiet (fail)
            go_wp2
            go_roundw
            case rel => exact ⟨a + 1, a, _, d2, by omega, by go_num, by rw [HA2.out, HLA.out], Lib.hid ⟨by omega, K.out, by rw [HA2.out]; exact HDa.out⟩, by rw [HA2.out]; exact Lib.hid (HLa.out.below (below_drewN' (Below.refl _ _) _)), Lib.hid (HX3.out.below (below_drewN' (Below.refl _ _) _) HX3.out.lt), Lib.hid (below_drewN' HL3.out _)⟩
            case measure => simp [intOf]; omega
          · have d3 : decide (ua < ub) = false := by simp; omega
            have K := Lib.hid (K1.out h1)
            subst h2
            go_quiet (fail)
            go_wp2
            go_roundw
            case rel => exact ⟨a + 1, b, _, d, by omega, by go_num, by rw [HB2.out, HLB.out], Lib.hid ⟨by omega, K.out, by rw [HB2.out]; exact HR.out.2.2⟩, by rw [HB2.out]; exact Lib.hid (HLb3.out.below (below_drewN' (Below.refl _ _) _)), Lib.hid (HX3.out.below (below_drewN' (Below.refl _ _) _) HX3.out.lt), Lib.hid (below_drewN' HL3.out _)⟩
            case measure => simp [intOf]; omega
        · have d2' : ((La : Int) == (Lb : Int)) = false := by rw [beq_eq_false_iff_ne]; omega
          go_quiet (fail)
          go_wp2
          go_roundw
          case rel => exact ⟨a + 1, b, _, d, by omega, by go_num, by rw [HB2.out, HLB.out], Lib.hid ⟨by omega, K1.out h1, by rw [HB2.out]; exact HR.out.2.2⟩, by rw [HB2.out]; exact Lib.hid (HLb3.out.below (below_drewN' (Below.refl _ _) _)), Lib.hid (HX3.out.below (below_drewN' (Below.refl _ _) _) HX3.out.lt), Lib.hid (below_drewN' HL3.out _)⟩
          case measure => simp [intOf]; omega
    · have e : a = N := by omega
      have E := Lib.hid (HE.out b (by have := HR.out.2.1; rwa [e] at this))
      have y1 : ¬ (a : Int) < (N : Int) := by omega
      clear e
      go_wp2
      go_ret
      rw [← E.out]
      exact ⟨D, d, rfl, HR.out.2.2, HLb2.out, HL2.out⟩
end Go.Proofs.Ytnpgmgaajejhjaa
