/- PictureChoices: the walk. -/
import Derived.Test.YtmcdfnhpaneanaaPhn
import Derived.BigQuiet
namespace Go.Proofs.Ytmcdfnhpaneanaa
open Go.RowKit
set_option maxRecDepth 100000
set_option linter.unusedVariables false
set_option linter.unusedSimpArgs false

set_option maxHeartbeats 6400000 in
theorem choices_law (W H : Nat) (A B C : Option Addr) (c d e : Nat) (s : Nat → Bool) (a b : Nat → Int) (w : World) (hg : Holds w w.heap.size A (W * H) s) (ha : L2.Holds w w.heap.size B W a) (hb1 : L2.Holds w w.heap.size C H b) (W0 : 1 ≤ W) (W1 : W ≤ 64) (H0 : 1 ≤ H) (H1 : H ≤ 64) (hx : fine W a = true) (hy : fine H b = true) (hN : W * H ≤ 100) :
    Calls Try.prog 9 #[.agg #[.int .i64 (W : Nat), .int .i64 (H : Nat), .slice A (W * H) c], .slice B W d, .slice C H e] w fun e w' => e = .returned (.bool true) ∧ Below w.heap.size w w' := by
  have HT := Lib.hid (fun u (hb : Below w.heap.size w u) => rth_all (W : Nat) (H : Nat) A B C (W * H) c W d H e a b u ((ha.below hb).more hb.size) ((hb1.below hb).more hb.size))
  rw [thE_ok (chk_zero W0 W1 H0 H1) ⟨rfl, rfl⟩ ⟨hx, hy⟩] at HT
  have HR := Lib.hid (fun u (hb : Below w.heap.size w u) => rfront_ok W H A B C c d e s a b u ((hg.below hb).more hb.size) ((ha.below hb).more hb.size) ((hb1.below hb).more hb.size) W0 W1 H0 H1 hx hy)
  have hff := front_fine (s := s) W0 hx hy
  have hcl := own_fits (s := s) hx hy
  have HOF := Lib.hid hcl
  have hPA := fun t (h : t < W) => fine_of hx t h
  have hPB := fun t (h : t < H) => fine_of hy t h
  have HPA := Lib.hid (And.intro hPA hPB)
  clear hPA hPB
  have HWA := Lib.hid (fun u (hb : Below w.heap.size w u) => (ha.below hb))
  have HWB := Lib.hid (fun u (hb : Below w.heap.size w u) => (hb1.below hb))
  obtain ⟨F, hF⟩ : ∃ z, shF W s a b = z := ⟨_, rfl⟩
  rw [hF] at HR hff hcl HOF
  have HCH := Lib.hid (fun u A2 c2 (hl : L2.Holds u u.heap.size A2 (W * H) F) => (choices_ok W H A2 c2 F u W0 W1 H0 H1 hl hff).mono fun e w' h => (show ∃ (L : Nat → List Nat), ∃ A1 c1 A2 c2, e = .returned (.tuple #[.slice A1 W c1, .slice A2 H c2, .int .i64 0]) ∧ (∀ t, L t = chl W H F t 16) ∧ LLo w' A1 W L ∧ LLo w' A2 H (fun y => L (W + y)) ∧ Below u.heap.size u w' from h.elim (fun ⟨_, A1, c1, A2, c2, q, _, r1, r2, r3⟩ => ⟨_, A1, c1, A2, c2, q, fun _ => rfl, r1, r2, r3⟩) (fun q => absurd hcl.2 (q.2.1 _ hcl.1))))
  have HFI := Lib.hid (fun u A2 c2 (hl : L2.Holds u u.heap.size A2 (W * H) F) => (first_ok W H A2 c2 F u W0 W1 H0 H1 hl hff).mono fun e w' h => (show ∃ p A1 c1 A2 c2, e = .returned (.tuple #[.slice A1 W c1, .slice A2 H c2, .int .i64 0]) ∧ Fst W H F p ∧ L2.Holds w' w'.heap.size A1 W p ∧ L2.Holds w' w'.heap.size A2 H (fun i => p (W + i)) ∧ Below u.heap.size u w' from h.elim id (fun q => absurd hcl.2 (q.2.1 _ hcl.1))))
  have z0 : ((0 : Int) != 0) = false := rfl
  have yw : ((W : Int) != (W : Int)) = false := by simp
  have yh : ((H : Int) != (H : Int)) = false := by simp
  clear hg ha hb1 hx hy hff hcl hF
  obtain ⟨M, hMe⟩ : ∃ M, W * H = M := ⟨_, rfl⟩
  rw [hMe] at HT HR HCH HFI hN ⊢
  clear hMe
  have yN : ¬ (100 : Int) < (M : Int) := by omega
  have LB0 := Lib.hid (Below.refl w.heap.size w)
  have X1 := Box.new w (W : Nat) (H : Nat) (.slice A M c)
  have X1 := Lib.hid X1
  have LB0 := Lib.hid (LB0.out.alloc LB0.out.size (.cells #[.int .i64 (W : Nat), .int .i64 (H : Nat), .slice A M c] 27))
  go_enter Try.func9, Try.ntmps9
  go_upto_region 1 with (fail)
  generalize w.alloc (.cells #[.int .i64 (W : Nat), .int .i64 (H : Nat), .slice A M c] 27) = w0 at *
  go_wp2_with fail
  with_reducible refine Calls.mono (alive15_any _) ?_
  rintro e w1 ⟨rfl, hb⟩
  have LB1 := Lib.hid (LB0.out.trans (hb.mono LB0.out.size))
  have X1 := Lib.hid (X1.out.below hb X1.out.lt)
  clear hb LB0 
  obtain ⟨q0, q1, q2, q3, q4, q5, q6⟩ := X1.out.all
  go_wp2_with fail
  clear q0 q1 q2 q3 q4 q5 q6
  with_reducible refine Calls.mono (HT.out _ LB1.out) ?_
  rintro e w2 ⟨rfl, hb⟩
  have LB2 := Lib.hid (LB1.out.trans (hb.mono LB1.out.size))
  have X1 := Lib.hid (X1.out.below hb X1.out.lt)
  clear hb LB1 
  obtain ⟨q0, q1, q2, q3, q4, q5, q6⟩ := X1.out.all
  go_wp2_with fail
  clear q0 q1 q2 q3 q4 q5 q6
  with_reducible refine Calls.mono (HR.out _ LB2.out) ?_
  rintro e w3 ⟨A3, c3, rfl, hh, hb⟩
  have LB3 := Lib.hid (LB2.out.trans (hb.mono LB2.out.size))
  have X1 := Lib.hid (X1.out.below hb X1.out.lt)
  have H3 := Lib.hid hh
  clear hb LB2 hh
  clear X1
  have hb := ((Below.refl w3.heap.size w3).alloc (by simp; try omega) (.cells #[.int .i64 (W : Nat), .int .i64 (H : Nat), .slice A3 M c3] 24))
  have LB4 := Lib.hid (LB3.out.trans (hb.mono LB3.out.size))
  have H3 := Lib.hid ((H3.out.below hb).more hb.size)
  have B8 := IBox.new w3 (W : Nat) (H : Nat) (.slice A3 M c3)
  have B8 := Lib.hid B8
  clear hb LB3
  go_upto_region 5 with (fail)
  obtain ⟨b8, hb8⟩ : ∃ z, w3.heap.size = z := ⟨_, rfl⟩
  rw [hb8] at B8
  try rw [hb8]
  clear hb8
  generalize w3.alloc (.cells #[.int .i64 (W : Nat), .int .i64 (H : Nat), .slice A3 M c3] 24) = w4 at *
  obtain ⟨q0, q1, q2, q3, q4, q5, q6⟩ := B8.out.all
  go_wp2_with fail
  clear q0 q1 q2 q3 q4 q5 q6
  with_reducible refine Calls.mono (HCH.out _ _ _ H3.out) ?_
  rintro e w5 ⟨L, A1, c1, A2, c2, rfl, hL, hl1, hl2, hb⟩
  have HL := Lib.hid hL
  clear hL
  have LB5 := Lib.hid (LB4.out.trans (hb.mono LB4.out.size))
  have H3 := Lib.hid ((H3.out.below hb).more hb.size)
  have B8 := Lib.hid (B8.out.below hb B8.out.lt)
  have HL1 := Lib.hid hl1
  have HL2 := Lib.hid hl2
  clear hb LB4 hl1 hl2
  obtain ⟨q0, q1, q2, q3, q4, q5, q6⟩ := B8.out.all
  go_wp2_with fail
  clear q0 q1 q2 q3 q4 q5 q6
  with_reducible refine Calls.mono (HFI.out _ _ _ H3.out) ?_
  rintro e w6 ⟨p, A4, c4, A5, c5, rfl, hp, hh4, hh5, hb⟩
  have HP := Lib.hid hp
  clear hp
  have LB6 := Lib.hid (LB5.out.trans (hb.mono LB5.out.size))
  have H3 := Lib.hid ((H3.out.below hb).more hb.size)
  have B8 := Lib.hid (B8.out.below hb B8.out.lt)
  have HL1 := Lib.hid (HL1.out.below hb)
  have HL2 := Lib.hid (HL2.out.below hb)
  have H4 := Lib.hid hh4
  have H5 := Lib.hid hh5
  clear hb LB5 hh4 hh5
  clear H3
  have G1 := Lib.hid (fun t (ht : t < W) => (show ∃ i, i < (L t).length ∧ lf (L t) i = a t from by
    rw [HL.out t]
    exact chl_has ⟨_, HOF.out.1, HOF.out.2, if_pos ht⟩ (HPA.out.1 t ht).1 (HPA.out.1 t ht).2))
  have G2 := Lib.hid (fun t (ht : t < H) => (show ∃ i, i < (L (W + t)).length ∧ lf (L (W + t)) i = b t from by
    rw [HL.out (W + t)]
    refine chl_has ⟨_, HOF.out.1, HOF.out.2, ?_⟩ (HPA.out.2 t ht).1 (HPA.out.2 t ht).2
    show (if W + t < W then a (W + t) else b (W + t - W)) = b t
    rw [if_neg (by omega), show W + t - W = t by omega]))
  have G3 := Lib.hid (fun t (ht : t < W + H) => (show ∃ i, i < (L t).length ∧ lf (L t) i = p t from by
    rw [HL.out t]
    exact chl_has ⟨_, HP.out.fits, HP.out.cols, rfl⟩ (HP.out.cols t ht).1 (HP.out.cols t ht).2))
  have G4 := Lib.hid (fun t => (show (L t).length ≤ 16 from by rw [HL.out t]; exact chl_len 16))
  have G5 := Lib.hid (fun t i j (h : i < j) (h2 : j < (L t).length) => (show lf (L t) i < lf (L t) j from by
    have e := HL.out t
    rw [e] at h2 ⊢
    exact chl_lt h h2))
  have G6 := Lib.hid (show lf (L 0) 0 = p 0 from by rw [HL.out 0]; exact chl_fst W0 HP.out)
  clear HL HP HOF HPA HT HR HCH HFI
  obtain ⟨q0, q1, q2, q3, q4, q5, q6⟩ := B8.out.all
  go_wp2
  clear q0 q1 q2 q3 q4 q5 q6
  go_loopw [16] (fun i wr => ∃ t : Nat, t ≤ W + H ∧ i = .int .i64 (t : Nat) ∧ Hid (Below w6.heap.size w6 wr)) (fun i _ => W + H - (intOf i).toNat)
  case atStart => exact ⟨0, Nat.zero_le _, rfl, Lib.hid (Below.refl _ _)⟩
  case round =>
    obtain ⟨t, ht, rfl, HB⟩ := hrel
    obtain ⟨v0, hv0⟩ : ∃ z, z = wr := ⟨_, rfl⟩
    subst hv0
    by_cases hlt : t < W + H
    · by_cases htw : t < W
      · obtain ⟨be, ee, le, ce⟩ := (HL1.out.below HB.out) (by omega)
        obtain ⟨Al, cl, kc, hl⟩ := ce t (by omega)
        obtain ⟨ba, oa, ea, la, ca⟩ := HWA.out _ (LB6.out.trans (HB.out.mono LB6.out.size)) (by omega)
        obtain ⟨bp, op, ep, lp, cp⟩ := (H4.out.below HB.out) (by omega)
        have ka := ca t (by omega)
        have kp := cp t (by omega)
        clear ce ca cp le la lp
        have o1 := G1.out t htw
        have o2 := G3.out t hlt
        have HI := Lib.hid (fun i j => G5.out t i j)
        have h16 := G4.out t
        have HZ := Lib.hid (show t = 0 → lf (L t) 0 = p t from fun h => by rw [h]; exact G6.out)
        obtain ⟨l, hll⟩ : ∃ z, L t = z := ⟨_, rfl⟩
        rw [hll] at kc hl o1 o2 h16 HZ
        simp only [hll] at HI
        clear hll
        obtain ⟨av, hav⟩ : ∃ z, a t = z := ⟨_, rfl⟩
        obtain ⟨pv, hpv⟩ : ∃ z, p t = z := ⟨_, rfl⟩
        rw [hav] at ka o1
        rw [hpv] at kp o2 HZ
        clear hav hpv
        have hpos : 1 ≤ l.length := by obtain ⟨i0, hi0, _⟩ := o1; omega
        have HH1 := Lib.hid (fun u (hb : Below v0.heap.size v0 u) => has_yes Al l.length cl (lf l) av u (by omega) ((hl.below hb).more hb.size) o1)
        have HH2 := Lib.hid (fun u (hb : Below v0.heap.size v0 u) => has_yes Al l.length cl (lf l) pv u (by omega) ((hl.below hb).more hb.size) o2)
        obtain ⟨bl, ol, el, ll, clx⟩ := hl (by omega)
        have HLc := Lib.hid clx
        clear clx o1 o2
        subst ee ea ep el
        obtain ⟨q0, q1, q2, q3, q4, q5, q6⟩ := (B8.out.below HB.out B8.out.lt).all
        have y0 : (t : Int) < (W : Int) + (H : Int) := by omega
        have y1 : (t : Int) < (W : Int) := by omega
        have y2 : (0 : Int) ≤ (t : Int) := by omega
        have ht0d : t = 0 ∨ t ≠ 0 := Nat.eq_zero_or_pos t |>.imp id (fun h => by omega)
        have hSw : (fun u : World => u.cell? ⟨be, t, none⟩ = some (.slice (some ⟨bl, ol, none⟩) l.length cl) ∧ u.cell? ⟨ba, oa + t, none⟩ = some (.int .i64 av) ∧ u.cell? ⟨bp, op + t, none⟩ = some (.int .i64 pv)) v0.drew := ⟨kc, ka, kp⟩
        clear kc ka kp
        have zs : wrap64 ((W : Int) + (H : Int)) = (W : Int) + (H : Int) := IntWalk.wrap64_in _ (by omega)
        have zs2 : IntKind.i64.wrap ((W : Int) + (H : Int)) = (W : Int) + (H : Int) := (IntWalk.i64_left _).trans zs
        go_wp2
        clear q0 q1 q2 q3 q4 q5 q6
        refine wp_region_held (S := fun u : World => u.cell? ⟨be, t, none⟩ = some (.slice (some ⟨bl, ol, none⟩) l.length cl) ∧ u.cell? ⟨ba, oa + t, none⟩ = some (.int .i64 av) ∧ u.cell? ⟨bp, op + t, none⟩ = some (.int .i64 pv)) (by kernel_rfl) ?_
        try (change wpAnyH _ _ _ _ _ _ _ _ (World.drew _))
        refine wpAnyH_take (i := 0) (v := ?_) rfl (by kernel_rfl) (by kernel_rfl) (by kernel_rfl) (fun _ _ _ h => h) (Or.inl ⟨by kernel_rfl, ?_⟩) hSw ?_
        rotate_left
        · (intro u hu; obtain ⟨h0, h1, h2⟩ := hu; first | (go_simp; done) | (go_simp; with_reducible rfl))
        try simp only [Act.put, List.getElem_toArray, List.getElem_cons_succ, List.getElem_cons_zero, List.setIfInBounds_toArray, List.set_cons_zero, List.set_cons_succ]
        refine wpAnyH_take (i := 1) (v := ?_) rfl (by kernel_rfl) (by kernel_rfl) (by kernel_rfl) (fun _ _ _ h => h) (Or.inl ⟨by kernel_rfl, ?_⟩) hSw ?_
        rotate_left
        · (intro u hu; obtain ⟨h0, h1, h2⟩ := hu; first | (go_simp; done) | (go_simp; with_reducible rfl))
        try simp only [Act.put, List.getElem_toArray, List.getElem_cons_succ, List.getElem_cons_zero, List.setIfInBounds_toArray, List.set_cons_zero, List.set_cons_succ]
        refine wpAnyH_take (i := 2) (v := ?_) rfl (by kernel_rfl) (by kernel_rfl) (by kernel_rfl) (fun _ _ _ h => h) (Or.inl ⟨by kernel_rfl, ?_⟩) hSw ?_
        rotate_left
        · (intro u hu; obtain ⟨h0, h1, h2⟩ := hu; first | (go_simp; done) | (go_simp; with_reducible rfl))
        try simp only [Act.put, List.getElem_toArray, List.getElem_cons_succ, List.getElem_cons_zero, List.setIfInBounds_toArray, List.set_cons_zero, List.set_cons_succ]
        refine wpAnyH_take (i := 3) (v := ?_) rfl (by kernel_rfl) (by kernel_rfl) (by kernel_rfl) (fun _ _ _ h => h) (Or.inl ⟨by kernel_rfl, ?_⟩) hSw ?_
        rotate_left
        · (intro u hu; obtain ⟨h0, h1, h2⟩ := hu; first | (go_simp; done) | (go_simp; with_reducible rfl))
        try simp only [Act.put, List.getElem_toArray, List.getElem_cons_succ, List.getElem_cons_zero, List.setIfInBounds_toArray, List.set_cons_zero, List.set_cons_succ]
        refine wpAnyH_take (i := 4) (v := ?_) rfl (by kernel_rfl) (by kernel_rfl) (by kernel_rfl) (fun _ _ _ h => h) (Or.inl ⟨by kernel_rfl, ?_⟩) hSw ?_
        rotate_left
        · (intro u hu; obtain ⟨h0, h1, h2⟩ := hu; first | (go_simp; done) | (go_simp; with_reducible rfl))
        try simp only [Act.put, List.getElem_toArray, List.getElem_cons_succ, List.getElem_cons_zero, List.setIfInBounds_toArray, List.set_cons_zero, List.set_cons_succ]
        refine wpAnyH_take (i := 5) (v := ?_) rfl (by kernel_rfl) (by kernel_rfl) (by kernel_rfl) (fun _ _ _ h => h) (Or.inl ⟨by kernel_rfl, ?_⟩) hSw ?_
        rotate_left
        · (intro u hu; obtain ⟨h0, h1, h2⟩ := hu; first | (go_simp; done) | (go_simp; with_reducible rfl))
        try simp only [Act.put, List.getElem_toArray, List.getElem_cons_succ, List.getElem_cons_zero, List.setIfInBounds_toArray, List.set_cons_zero, List.set_cons_succ]
        refine wpAnyH_take (i := 6) (v := ?_) rfl (by kernel_rfl) (by kernel_rfl) (by kernel_rfl) (fun _ _ _ h => h) (Or.inl ⟨by kernel_rfl, ?_⟩) hSw ?_
        rotate_left
        · (intro u hu; obtain ⟨h0, h1, h2⟩ := hu; first | (go_simp; done) | (go_simp; with_reducible rfl))
        try simp only [Act.put, List.getElem_toArray, List.getElem_cons_succ, List.getElem_cons_zero, List.setIfInBounds_toArray, List.set_cons_zero, List.set_cons_succ]
        refine wpAnyH_take (i := 7) (v := ?_) rfl (by kernel_rfl) (by kernel_rfl) (by kernel_rfl) (fun _ _ _ h => h) (Or.inl ⟨by kernel_rfl, ?_⟩) hSw ?_
        rotate_left
        · (intro u hu; obtain ⟨h0, h1, h2⟩ := hu; first | (go_simp; done) | (go_simp; with_reducible rfl))
        try simp only [Act.put, List.getElem_toArray, List.getElem_cons_succ, List.getElem_cons_zero, List.setIfInBounds_toArray, List.set_cons_zero, List.set_cons_succ]
        refine wpAnyH_take (i := 8) (v := ?_) rfl (by kernel_rfl) (by kernel_rfl) (by kernel_rfl) (fun _ _ _ h => h) (Or.inl ⟨by kernel_rfl, ?_⟩) hSw ?_
        rotate_left
        · (intro u hu; obtain ⟨h0, h1, h2⟩ := hu; first | (go_simp; done) | (go_simp; with_reducible rfl))
        try simp only [Act.put, List.getElem_toArray, List.getElem_cons_succ, List.getElem_cons_zero, List.setIfInBounds_toArray, List.set_cons_zero, List.set_cons_succ]
        refine wpAnyH_take (i := 9) (v := ?_) rfl (by kernel_rfl) (by kernel_rfl) (by kernel_rfl) (fun _ _ _ h => h) (Or.inl ⟨by kernel_rfl, ?_⟩) hSw ?_
        rotate_left
        · (intro u hu; obtain ⟨h0, h1, h2⟩ := hu; first | (go_simp; done) | (go_simp; with_reducible rfl))
        try simp only [Act.put, List.getElem_toArray, List.getElem_cons_succ, List.getElem_cons_zero, List.setIfInBounds_toArray, List.set_cons_zero, List.set_cons_succ]
        refine wpAnyH_take (i := 10) (v := ?_) rfl (by kernel_rfl) (by kernel_rfl) (by kernel_rfl) (fun _ _ _ h => h) (Or.inl ⟨by kernel_rfl, ?_⟩) hSw ?_
        rotate_left
        · (intro u hu; obtain ⟨h0, h1, h2⟩ := hu; first | (go_simp; done) | (go_simp; with_reducible rfl))
        try simp only [Act.put, List.getElem_toArray, List.getElem_cons_succ, List.getElem_cons_zero, List.setIfInBounds_toArray, List.set_cons_zero, List.set_cons_succ]
        refine wpAnyH_take (i := 11) (v := ?_) rfl (by kernel_rfl) (by kernel_rfl) (by kernel_rfl) (fun _ _ _ h => h) (Or.inl ⟨by kernel_rfl, ?_⟩) hSw ?_
        rotate_left
        · (intro u hu; obtain ⟨h0, h1, h2⟩ := hu; first | (go_simp; done) | (go_simp; with_reducible rfl))
        try simp only [Act.put, List.getElem_toArray, List.getElem_cons_succ, List.getElem_cons_zero, List.setIfInBounds_toArray, List.set_cons_zero, List.set_cons_succ]
        refine wpAnyH_take (i := 12) (v := ?_) rfl (by kernel_rfl) (by kernel_rfl) (by kernel_rfl) (fun _ _ _ h => h) (Or.inl ⟨by kernel_rfl, ?_⟩) hSw ?_
        rotate_left
        · (intro u hu; obtain ⟨h0, h1, h2⟩ := hu; first | (go_simp; done) | (go_simp; with_reducible rfl))
        try simp only [Act.put, List.getElem_toArray, List.getElem_cons_succ, List.getElem_cons_zero, List.setIfInBounds_toArray, List.set_cons_zero, List.set_cons_succ]
        refine wpAnyH_take (i := 13) (v := ?_) rfl (by kernel_rfl) (by kernel_rfl) (by kernel_rfl) (fun _ _ _ h => h) (Or.inl ⟨by kernel_rfl, ?_⟩) hSw ?_
        rotate_left
        · (intro u hu; obtain ⟨h0, h1, h2⟩ := hu; first | (go_simp; done) | (go_simp; with_reducible rfl))
        try simp only [Act.put, List.getElem_toArray, List.getElem_cons_succ, List.getElem_cons_zero, List.setIfInBounds_toArray, List.set_cons_zero, List.set_cons_succ]
        refine wpAnyH_take (i := 14) (v := ?_) rfl (by kernel_rfl) (by kernel_rfl) (by kernel_rfl) (fun _ _ _ h => h) (Or.inl ⟨by kernel_rfl, ?_⟩) hSw ?_
        rotate_left
        · (intro u hu; obtain ⟨h0, h1, h2⟩ := hu; first | (go_simp; done) | (go_simp; with_reducible rfl))
        try simp only [Act.put, List.getElem_toArray, List.getElem_cons_succ, List.getElem_cons_zero, List.setIfInBounds_toArray, List.set_cons_zero, List.set_cons_succ]
        refine wpAnyH_done (by kernel_rfl) ?_ _
        clear zs zs2 hSw
        rcases ht0d with ht0 | ht0
        · have D0 := Lib.hid (Below.refl v0.heap.size v0).drew
          go_wp2_with fail
          with_reducible refine Calls.mono (HH1.out _ D0.out) ?_
          rintro e u1 ⟨rfl, hb⟩
          have D1 := Lib.hid (D0.out.trans (hb.mono D0.out.size))
          clear hb D0
          go_wp2_with fail
          with_reducible refine Calls.mono (HH2.out _ D1.out) ?_
          rintro e u2 ⟨rfl, hb⟩
          have D2 := Lib.hid (D1.out.trans (hb.mono D1.out.size))
          clear hb D1 HH1 HH2
          have k8 : u2.cell? ⟨bl, ol, none⟩ = some (.int .i64 pv) := (D2.out.cell (p := ⟨bl, ol, none⟩) ll).trans (by have h := HLc.out 0 hpos; rw [HZ.out ht0] at h; exact h)
          have k9 : u2.cell? ⟨bl, ol + 0, none⟩ = some (.int .i64 pv) := k8
          have k7 : (pv != pv) = false := by simp
          have k6 : ((t : Int) == 0) = true := by simp [ht0]
          have k5 : (0 : Int) < (l.length : Int) := by omega
          go_wp2
          clear k5 k6 k7 k8 k9
          go_loopw [20] (fun i w3 => ∃ j : Nat, 1 ≤ j ∧ j ≤ l.length ∧ i = .int .i64 (j : Nat) ∧ Hid (Below v0.heap.size v0 w3)) (fun i _ => l.length - (intOf i).toNat)
          case atStart => exact ⟨1, Nat.le_refl _, hpos, rfl, D2⟩
          case round =>
            obtain ⟨j, j1, jl, rfl, HD⟩ := hrel
            by_cases hj : j < l.length
            · obtain ⟨i, hi⟩ : ∃ z, j - 1 = z := ⟨_, rfl⟩
              have k1 := (HD.out.cell (p := ⟨bl, ol + j, none⟩) ll).trans (HLc.out j hj)
              have k2 := (HD.out.cell (p := ⟨bl, ol + i, none⟩) ll).trans (HLc.out i (by omega))
              have hinc := HI.out i j (by omega) hj
              obtain ⟨xv, hxv⟩ : ∃ z, lf l j = z := ⟨_, rfl⟩
              obtain ⟨yv, hyv⟩ : ∃ z, lf l i = z := ⟨_, rfl⟩
              rw [hxv] at k1 hinc
              rw [hyv] at k2 hinc
              clear hxv hyv
              have y5 : ¬ xv ≤ yv := by omega
              have y6 : (j : Int) < (l.length : Int) := by omega
              have y7 : (i : Int) < (l.length : Int) := by omega
              have y8 : (0 : Int) ≤ (j : Int) := by omega
              have y9 : (0 : Int) ≤ (i : Int) := by omega
              have ys : (j : Int) - 1 = (i : Int) := by omega
              have HN : Hid (j + 1 ≤ l.length ∧ 1 ≤ j + 1 ∧ l.length - (j + 1) < l.length - j) := Lib.hid (by omega)
              have zz : wrap64 (i : Int) = (i : Int) := IntWalk.wrap64_in _ (by omega)
              have zi : IntKind.i64.wrap (i : Int) = (i : Int) := (IntWalk.i64_left _).trans zz
              have hSw : (fun u : World => u.cell? ⟨bl, ol + j, none⟩ = some (.int .i64 xv) ∧ u.cell? ⟨bl, ol + i, none⟩ = some (.int .i64 yv)) wr.drew := ⟨k1, k2⟩
              clear k1 k2 hinc
              go_wp2
              refine wp_region_held (S := fun u : World => u.cell? ⟨bl, ol + j, none⟩ = some (.int .i64 xv) ∧ u.cell? ⟨bl, ol + i, none⟩ = some (.int .i64 yv)) (by kernel_rfl) ?_
              try (change wpAnyH _ _ _ _ _ _ _ _ (World.drew _))
              refine wpAnyH_take (i := 0) (v := ?_) rfl (by kernel_rfl) (by kernel_rfl) (by kernel_rfl) (fun _ _ _ h => h) (Or.inl ⟨by kernel_rfl, ?_⟩) hSw ?_
              rotate_left
              · (intro u hu; obtain ⟨h0, h1⟩ := hu; first | (go_simp; done) | (go_simp; with_reducible rfl))
              try simp only [Act.put, List.getElem_toArray, List.getElem_cons_succ, List.getElem_cons_zero, List.setIfInBounds_toArray, List.set_cons_zero, List.set_cons_succ]
              refine wpAnyH_take (i := 1) (v := ?_) rfl (by kernel_rfl) (by kernel_rfl) (by kernel_rfl) (fun _ _ _ h => h) (Or.inl ⟨by kernel_rfl, ?_⟩) hSw ?_
              rotate_left
              · (intro u hu; obtain ⟨h0, h1⟩ := hu; first | (go_simp; done) | (go_simp; with_reducible rfl))
              try simp only [Act.put, List.getElem_toArray, List.getElem_cons_succ, List.getElem_cons_zero, List.setIfInBounds_toArray, List.set_cons_zero, List.set_cons_succ]
              refine wpAnyH_take (i := 2) (v := ?_) rfl (by kernel_rfl) (by kernel_rfl) (by kernel_rfl) (fun _ _ _ h => h) (Or.inl ⟨by kernel_rfl, ?_⟩) hSw ?_
              rotate_left
              · (intro u hu; obtain ⟨h0, h1⟩ := hu; first | (go_simp; done) | (go_simp; with_reducible rfl))
              try simp only [Act.put, List.getElem_toArray, List.getElem_cons_succ, List.getElem_cons_zero, List.setIfInBounds_toArray, List.set_cons_zero, List.set_cons_succ]
              refine wpAnyH_take (i := 3) (v := ?_) rfl (by kernel_rfl) (by kernel_rfl) (by kernel_rfl) (fun _ _ _ h => h) (Or.inl ⟨by kernel_rfl, ?_⟩) hSw ?_
              rotate_left
              · (intro u hu; obtain ⟨h0, h1⟩ := hu; first | (go_simp; done) | (go_simp; with_reducible rfl))
              try simp only [Act.put, List.getElem_toArray, List.getElem_cons_succ, List.getElem_cons_zero, List.setIfInBounds_toArray, List.set_cons_zero, List.set_cons_succ]
              refine wpAnyH_take (i := 4) (v := ?_) rfl (by kernel_rfl) (by kernel_rfl) (by kernel_rfl) (fun _ _ _ h => h) (Or.inl ⟨by kernel_rfl, ?_⟩) hSw ?_
              rotate_left
              · (intro u hu; obtain ⟨h0, h1⟩ := hu; first | (go_simp; done) | (go_simp; with_reducible rfl))
              try simp only [Act.put, List.getElem_toArray, List.getElem_cons_succ, List.getElem_cons_zero, List.setIfInBounds_toArray, List.set_cons_zero, List.set_cons_succ]
              refine wpAnyH_take (i := 5) (v := ?_) rfl (by kernel_rfl) (by kernel_rfl) (by kernel_rfl) (fun _ _ _ h => h) (Or.inl ⟨by kernel_rfl, ?_⟩) hSw ?_
              rotate_left
              · (intro u hu; obtain ⟨h0, h1⟩ := hu; first | (go_simp; done) | (go_simp; with_reducible rfl))
              try simp only [Act.put, List.getElem_toArray, List.getElem_cons_succ, List.getElem_cons_zero, List.setIfInBounds_toArray, List.set_cons_zero, List.set_cons_succ]
              refine wpAnyH_take (i := 6) (v := ?_) rfl (by kernel_rfl) (by kernel_rfl) (by kernel_rfl) (fun _ _ _ h => h) (Or.inl ⟨by kernel_rfl, ?_⟩) hSw ?_
              rotate_left
              · (intro u hu; obtain ⟨h0, h1⟩ := hu; first | (go_simp; done) | (go_simp; with_reducible rfl))
              try simp only [Act.put, List.getElem_toArray, List.getElem_cons_succ, List.getElem_cons_zero, List.setIfInBounds_toArray, List.set_cons_zero, List.set_cons_succ]
              refine wpAnyH_take (i := 7) (v := ?_) rfl (by kernel_rfl) (by kernel_rfl) (by kernel_rfl) (fun _ _ _ h => h) (Or.inl ⟨by kernel_rfl, ?_⟩) hSw ?_
              rotate_left
              · (intro u hu; obtain ⟨h0, h1⟩ := hu; first | (go_simp; done) | (go_simp; with_reducible rfl))
              try simp only [Act.put, List.getElem_toArray, List.getElem_cons_succ, List.getElem_cons_zero, List.setIfInBounds_toArray, List.set_cons_zero, List.set_cons_succ]
              refine wpAnyH_take (i := 8) (v := ?_) rfl (by kernel_rfl) (by kernel_rfl) (by kernel_rfl) (fun _ _ _ h => h) (Or.inl ⟨by kernel_rfl, ?_⟩) hSw ?_
              rotate_left
              · (intro u hu; obtain ⟨h0, h1⟩ := hu; first | (go_simp; done) | (go_simp; with_reducible rfl))
              try simp only [Act.put, List.getElem_toArray, List.getElem_cons_succ, List.getElem_cons_zero, List.setIfInBounds_toArray, List.set_cons_zero, List.set_cons_succ]
              refine wpAnyH_take (i := 9) (v := ?_) rfl (by kernel_rfl) (by kernel_rfl) (by kernel_rfl) (fun _ _ _ h => h) (Or.inl ⟨by kernel_rfl, ?_⟩) hSw ?_
              rotate_left
              · (intro u hu; obtain ⟨h0, h1⟩ := hu; first | (go_simp; done) | (go_simp; with_reducible rfl))
              try simp only [Act.put, List.getElem_toArray, List.getElem_cons_succ, List.getElem_cons_zero, List.setIfInBounds_toArray, List.set_cons_zero, List.set_cons_succ]
              refine wpAnyH_done (by kernel_rfl) ?_ _
              clear zz zi hSw
              go_wp2
              go_roundw
              case rel => exact ⟨j + 1, HN.out.2.1, HN.out.1, by go_num, Lib.hid HD.out.drew⟩
              case measure => simp [intOf]; omega
            · have y5 : ¬ (j : Int) < (l.length : Int) := by omega
              go_wp2
              go_roundw
              case rel => exact ⟨t + 1, by omega, by go_num, Lib.hid (HB.out.trans (HD.out.mono HB.out.size))⟩
              case measure => simp [intOf]; omega
        · have D0 := Lib.hid (Below.refl v0.heap.size v0).drew
          go_wp2_with fail
          with_reducible refine Calls.mono (HH1.out _ D0.out) ?_
          rintro e u1 ⟨rfl, hb⟩
          have D1 := Lib.hid (D0.out.trans (hb.mono D0.out.size))
          clear hb D0
          go_wp2_with fail
          with_reducible refine Calls.mono (HH2.out _ D1.out) ?_
          rintro e u2 ⟨rfl, hb⟩
          have D2 := Lib.hid (D1.out.trans (hb.mono D1.out.size))
          clear hb D1 HH1 HH2
          have k6 : ((t : Int) == 0) = false := by simp; omega
          go_wp2
          clear k6
          go_loopw [20] (fun i w3 => ∃ j : Nat, 1 ≤ j ∧ j ≤ l.length ∧ i = .int .i64 (j : Nat) ∧ Hid (Below v0.heap.size v0 w3)) (fun i _ => l.length - (intOf i).toNat)
          case atStart => exact ⟨1, Nat.le_refl _, hpos, rfl, D2⟩
          case round =>
            obtain ⟨j, j1, jl, rfl, HD⟩ := hrel
            by_cases hj : j < l.length
            · obtain ⟨i, hi⟩ : ∃ z, j - 1 = z := ⟨_, rfl⟩
              have k1 := (HD.out.cell (p := ⟨bl, ol + j, none⟩) ll).trans (HLc.out j hj)
              have k2 := (HD.out.cell (p := ⟨bl, ol + i, none⟩) ll).trans (HLc.out i (by omega))
              have hinc := HI.out i j (by omega) hj
              obtain ⟨xv, hxv⟩ : ∃ z, lf l j = z := ⟨_, rfl⟩
              obtain ⟨yv, hyv⟩ : ∃ z, lf l i = z := ⟨_, rfl⟩
              rw [hxv] at k1 hinc
              rw [hyv] at k2 hinc
              clear hxv hyv
              have y5 : ¬ xv ≤ yv := by omega
              have y6 : (j : Int) < (l.length : Int) := by omega
              have y7 : (i : Int) < (l.length : Int) := by omega
              have y8 : (0 : Int) ≤ (j : Int) := by omega
              have y9 : (0 : Int) ≤ (i : Int) := by omega
              have ys : (j : Int) - 1 = (i : Int) := by omega
              have HN : Hid (j + 1 ≤ l.length ∧ 1 ≤ j + 1 ∧ l.length - (j + 1) < l.length - j) := Lib.hid (by omega)
              have zz : wrap64 (i : Int) = (i : Int) := IntWalk.wrap64_in _ (by omega)
              have zi : IntKind.i64.wrap (i : Int) = (i : Int) := (IntWalk.i64_left _).trans zz
              have hSw : (fun u : World => u.cell? ⟨bl, ol + j, none⟩ = some (.int .i64 xv) ∧ u.cell? ⟨bl, ol + i, none⟩ = some (.int .i64 yv)) wr.drew := ⟨k1, k2⟩
              clear k1 k2 hinc
              go_wp2
              refine wp_region_held (S := fun u : World => u.cell? ⟨bl, ol + j, none⟩ = some (.int .i64 xv) ∧ u.cell? ⟨bl, ol + i, none⟩ = some (.int .i64 yv)) (by kernel_rfl) ?_
              try (change wpAnyH _ _ _ _ _ _ _ _ (World.drew _))
              refine wpAnyH_take (i := 0) (v := ?_) rfl (by kernel_rfl) (by kernel_rfl) (by kernel_rfl) (fun _ _ _ h => h) (Or.inl ⟨by kernel_rfl, ?_⟩) hSw ?_
              rotate_left
              · (intro u hu; obtain ⟨h0, h1⟩ := hu; first | (go_simp; done) | (go_simp; with_reducible rfl))
              try simp only [Act.put, List.getElem_toArray, List.getElem_cons_succ, List.getElem_cons_zero, List.setIfInBounds_toArray, List.set_cons_zero, List.set_cons_succ]
              refine wpAnyH_take (i := 1) (v := ?_) rfl (by kernel_rfl) (by kernel_rfl) (by kernel_rfl) (fun _ _ _ h => h) (Or.inl ⟨by kernel_rfl, ?_⟩) hSw ?_
              rotate_left
              · (intro u hu; obtain ⟨h0, h1⟩ := hu; first | (go_simp; done) | (go_simp; with_reducible rfl))
              try simp only [Act.put, List.getElem_toArray, List.getElem_cons_succ, List.getElem_cons_zero, List.setIfInBounds_toArray, List.set_cons_zero, List.set_cons_succ]
              refine wpAnyH_take (i := 2) (v := ?_) rfl (by kernel_rfl) (by kernel_rfl) (by kernel_rfl) (fun _ _ _ h => h) (Or.inl ⟨by kernel_rfl, ?_⟩) hSw ?_
              rotate_left
              · (intro u hu; obtain ⟨h0, h1⟩ := hu; first | (go_simp; done) | (go_simp; with_reducible rfl))
              try simp only [Act.put, List.getElem_toArray, List.getElem_cons_succ, List.getElem_cons_zero, List.setIfInBounds_toArray, List.set_cons_zero, List.set_cons_succ]
              refine wpAnyH_take (i := 3) (v := ?_) rfl (by kernel_rfl) (by kernel_rfl) (by kernel_rfl) (fun _ _ _ h => h) (Or.inl ⟨by kernel_rfl, ?_⟩) hSw ?_
              rotate_left
              · (intro u hu; obtain ⟨h0, h1⟩ := hu; first | (go_simp; done) | (go_simp; with_reducible rfl))
              try simp only [Act.put, List.getElem_toArray, List.getElem_cons_succ, List.getElem_cons_zero, List.setIfInBounds_toArray, List.set_cons_zero, List.set_cons_succ]
              refine wpAnyH_take (i := 4) (v := ?_) rfl (by kernel_rfl) (by kernel_rfl) (by kernel_rfl) (fun _ _ _ h => h) (Or.inl ⟨by kernel_rfl, ?_⟩) hSw ?_
              rotate_left
              · (intro u hu; obtain ⟨h0, h1⟩ := hu; first | (go_simp; done) | (go_simp; with_reducible rfl))
              try simp only [Act.put, List.getElem_toArray, List.getElem_cons_succ, List.getElem_cons_zero, List.setIfInBounds_toArray, List.set_cons_zero, List.set_cons_succ]
              refine wpAnyH_take (i := 5) (v := ?_) rfl (by kernel_rfl) (by kernel_rfl) (by kernel_rfl) (fun _ _ _ h => h) (Or.inl ⟨by kernel_rfl, ?_⟩) hSw ?_
              rotate_left
              · (intro u hu; obtain ⟨h0, h1⟩ := hu; first | (go_simp; done) | (go_simp; with_reducible rfl))
              try simp only [Act.put, List.getElem_toArray, List.getElem_cons_succ, List.getElem_cons_zero, List.setIfInBounds_toArray, List.set_cons_zero, List.set_cons_succ]
              refine wpAnyH_take (i := 6) (v := ?_) rfl (by kernel_rfl) (by kernel_rfl) (by kernel_rfl) (fun _ _ _ h => h) (Or.inl ⟨by kernel_rfl, ?_⟩) hSw ?_
              rotate_left
              · (intro u hu; obtain ⟨h0, h1⟩ := hu; first | (go_simp; done) | (go_simp; with_reducible rfl))
              try simp only [Act.put, List.getElem_toArray, List.getElem_cons_succ, List.getElem_cons_zero, List.setIfInBounds_toArray, List.set_cons_zero, List.set_cons_succ]
              refine wpAnyH_take (i := 7) (v := ?_) rfl (by kernel_rfl) (by kernel_rfl) (by kernel_rfl) (fun _ _ _ h => h) (Or.inl ⟨by kernel_rfl, ?_⟩) hSw ?_
              rotate_left
              · (intro u hu; obtain ⟨h0, h1⟩ := hu; first | (go_simp; done) | (go_simp; with_reducible rfl))
              try simp only [Act.put, List.getElem_toArray, List.getElem_cons_succ, List.getElem_cons_zero, List.setIfInBounds_toArray, List.set_cons_zero, List.set_cons_succ]
              refine wpAnyH_take (i := 8) (v := ?_) rfl (by kernel_rfl) (by kernel_rfl) (by kernel_rfl) (fun _ _ _ h => h) (Or.inl ⟨by kernel_rfl, ?_⟩) hSw ?_
              rotate_left
              · (intro u hu; obtain ⟨h0, h1⟩ := hu; first | (go_simp; done) | (go_simp; with_reducible rfl))
              try simp only [Act.put, List.getElem_toArray, List.getElem_cons_succ, List.getElem_cons_zero, List.setIfInBounds_toArray, List.set_cons_zero, List.set_cons_succ]
              refine wpAnyH_take (i := 9) (v := ?_) rfl (by kernel_rfl) (by kernel_rfl) (by kernel_rfl) (fun _ _ _ h => h) (Or.inl ⟨by kernel_rfl, ?_⟩) hSw ?_
              rotate_left
              · (intro u hu; obtain ⟨h0, h1⟩ := hu; first | (go_simp; done) | (go_simp; with_reducible rfl))
              try simp only [Act.put, List.getElem_toArray, List.getElem_cons_succ, List.getElem_cons_zero, List.setIfInBounds_toArray, List.set_cons_zero, List.set_cons_succ]
              refine wpAnyH_done (by kernel_rfl) ?_ _
              clear zz zi hSw
              go_wp2
              go_roundw
              case rel => exact ⟨j + 1, HN.out.2.1, HN.out.1, by go_num, Lib.hid HD.out.drew⟩
              case measure => simp [intOf]; omega
            · have y5 : ¬ (j : Int) < (l.length : Int) := by omega
              go_wp2
              go_roundw
              case rel => exact ⟨t + 1, by omega, by go_num, Lib.hid (HB.out.trans (HD.out.mono HB.out.size))⟩
              case measure => simp [intOf]; omega
      · obtain ⟨i, hi⟩ : ∃ z, t - W = z := ⟨_, rfl⟩
        have hti : W + i = t := by omega
        obtain ⟨be, ee, le, ce⟩ := (HL2.out.below HB.out) (by omega)
        obtain ⟨Al, cl, kc, hl⟩ := ce i (by omega)
        obtain ⟨ba, oa, ea, la, ca⟩ := HWB.out _ (LB6.out.trans (HB.out.mono LB6.out.size)) (by omega)
        obtain ⟨bp, op, ep, lp, cp⟩ := (H5.out.below HB.out) (by omega)
        have ka := ca i (by omega)
        have kp := cp i (by omega)
        clear ce ca cp le la lp
        have kc : v0.cell? ⟨be, i, none⟩ = some (.slice Al (L (W + i)).length cl) := kc
        have hl : L2.Holds v0 v0.heap.size Al (L (W + i)).length (lf (L (W + i))) := hl
        have kp : v0.cell? ⟨bp, op + i, none⟩ = some (.int .i64 (p (W + i))) := kp
        rw [hti] at kc hl kp
        have o1 := (by have h := G2.out i (by omega); rw [hti] at h; exact h)
        have o2 := G3.out t hlt
        have HI := Lib.hid (fun i j => G5.out t i j)
        have h16 := G4.out t
        have HZ := Lib.hid (show t = 0 → lf (L t) 0 = p t from fun h => by rw [h]; exact G6.out)
        obtain ⟨l, hll⟩ : ∃ z, L t = z := ⟨_, rfl⟩
        rw [hll] at kc hl o1 o2 h16 HZ
        simp only [hll] at HI
        clear hll
        obtain ⟨av, hav⟩ : ∃ z, b i = z := ⟨_, rfl⟩
        obtain ⟨pv, hpv⟩ : ∃ z, p t = z := ⟨_, rfl⟩
        rw [hav] at ka o1
        rw [hpv] at kp o2 HZ
        clear hav hpv
        have hpos : 1 ≤ l.length := by obtain ⟨i0, hi0, _⟩ := o1; omega
        have HH1 := Lib.hid (fun u (hb : Below v0.heap.size v0 u) => has_yes Al l.length cl (lf l) av u (by omega) ((hl.below hb).more hb.size) o1)
        have HH2 := Lib.hid (fun u (hb : Below v0.heap.size v0 u) => has_yes Al l.length cl (lf l) pv u (by omega) ((hl.below hb).more hb.size) o2)
        obtain ⟨bl, ol, el, ll, clx⟩ := hl (by omega)
        have HLc := Lib.hid clx
        clear clx o1 o2
        subst ee ea ep el
        obtain ⟨q0, q1, q2, q3, q4, q5, q6⟩ := (B8.out.below HB.out B8.out.lt).all
        have y0 : (t : Int) < (W : Int) + (H : Int) := by omega
        have y1 : ¬ (t : Int) < (W : Int) := by omega
        have y3 : (i : Int) < (H : Int) := by omega
        have y4 : (0 : Int) ≤ (i : Int) := by omega
        have ys : (t : Int) - (W : Int) = (i : Int) := by omega
        have y2 : (0 : Int) ≤ (t : Int) := by omega
        have ht0 : t ≠ 0 := by omega
        have hSw : (fun u : World => u.cell? ⟨be, i, none⟩ = some (.slice (some ⟨bl, ol, none⟩) l.length cl) ∧ u.cell? ⟨ba, oa + i, none⟩ = some (.int .i64 av) ∧ u.cell? ⟨bp, op + i, none⟩ = some (.int .i64 pv) ∧ u.cell? ⟨b8, 0, none⟩ = some (.int .i64 (W : Nat))) v0.drew := ⟨kc, ka, kp, q0⟩
        clear kc ka kp
        have ZZ := Lib.hid (show wrap64 (i : Int) = (i : Int) from IntWalk.wrap64_in _ (by omega))
        have zs : wrap64 ((W : Int) + (H : Int)) = (W : Int) + (H : Int) := IntWalk.wrap64_in _ (by omega)
        have zs2 : IntKind.i64.wrap ((W : Int) + (H : Int)) = (W : Int) + (H : Int) := (IntWalk.i64_left _).trans zs
        have zz := ZZ.out
        have zi : IntKind.i64.wrap (i : Int) = (i : Int) := (IntWalk.i64_left _).trans zz
        clear ZZ
        go_wp2
        clear q0 q1 q2 q3 q4 q5 q6
        refine wp_region_held (S := fun u : World => u.cell? ⟨be, i, none⟩ = some (.slice (some ⟨bl, ol, none⟩) l.length cl) ∧ u.cell? ⟨ba, oa + i, none⟩ = some (.int .i64 av) ∧ u.cell? ⟨bp, op + i, none⟩ = some (.int .i64 pv) ∧ u.cell? ⟨b8, 0, none⟩ = some (.int .i64 (W : Nat))) (by kernel_rfl) ?_
        try (change wpAnyH _ _ _ _ _ _ _ _ (World.drew _))
        refine wpAnyH_take (i := 0) (v := ?_) rfl (by kernel_rfl) (by kernel_rfl) (by kernel_rfl) (fun _ _ _ h => h) (Or.inl ⟨by kernel_rfl, ?_⟩) hSw ?_
        rotate_left
        · (intro u hu; obtain ⟨h0, h1, h2, h3⟩ := hu; first | (go_simp; done) | (go_simp; with_reducible rfl))
        try simp only [Act.put, List.getElem_toArray, List.getElem_cons_succ, List.getElem_cons_zero, List.setIfInBounds_toArray, List.set_cons_zero, List.set_cons_succ]
        refine wpAnyH_take (i := 1) (v := ?_) rfl (by kernel_rfl) (by kernel_rfl) (by kernel_rfl) (fun _ _ _ h => h) (Or.inl ⟨by kernel_rfl, ?_⟩) hSw ?_
        rotate_left
        · (intro u hu; obtain ⟨h0, h1, h2, h3⟩ := hu; first | (go_simp; done) | (go_simp; with_reducible rfl))
        try simp only [Act.put, List.getElem_toArray, List.getElem_cons_succ, List.getElem_cons_zero, List.setIfInBounds_toArray, List.set_cons_zero, List.set_cons_succ]
        refine wpAnyH_take (i := 2) (v := ?_) rfl (by kernel_rfl) (by kernel_rfl) (by kernel_rfl) (fun _ _ _ h => h) (Or.inl ⟨by kernel_rfl, ?_⟩) hSw ?_
        rotate_left
        · (intro u hu; obtain ⟨h0, h1, h2, h3⟩ := hu; first | (go_simp; done) | (go_simp; with_reducible rfl))
        try simp only [Act.put, List.getElem_toArray, List.getElem_cons_succ, List.getElem_cons_zero, List.setIfInBounds_toArray, List.set_cons_zero, List.set_cons_succ]
        refine wpAnyH_take (i := 3) (v := ?_) rfl (by kernel_rfl) (by kernel_rfl) (by kernel_rfl) (fun _ _ _ h => h) (Or.inl ⟨by kernel_rfl, ?_⟩) hSw ?_
        rotate_left
        · (intro u hu; obtain ⟨h0, h1, h2, h3⟩ := hu; first | (go_simp; done) | (go_simp; with_reducible rfl))
        try simp only [Act.put, List.getElem_toArray, List.getElem_cons_succ, List.getElem_cons_zero, List.setIfInBounds_toArray, List.set_cons_zero, List.set_cons_succ]
        refine wpAnyH_take (i := 4) (v := ?_) rfl (by kernel_rfl) (by kernel_rfl) (by kernel_rfl) (fun _ _ _ h => h) (Or.inl ⟨by kernel_rfl, ?_⟩) hSw ?_
        rotate_left
        · (intro u hu; obtain ⟨h0, h1, h2, h3⟩ := hu; first | (go_simp; done) | (go_simp; with_reducible rfl))
        try simp only [Act.put, List.getElem_toArray, List.getElem_cons_succ, List.getElem_cons_zero, List.setIfInBounds_toArray, List.set_cons_zero, List.set_cons_succ]
        refine wpAnyH_take (i := 5) (v := ?_) rfl (by kernel_rfl) (by kernel_rfl) (by kernel_rfl) (fun _ _ _ h => h) (Or.inl ⟨by kernel_rfl, ?_⟩) hSw ?_
        rotate_left
        · (intro u hu; obtain ⟨h0, h1, h2, h3⟩ := hu; first | (go_simp; done) | (go_simp; with_reducible rfl))
        try simp only [Act.put, List.getElem_toArray, List.getElem_cons_succ, List.getElem_cons_zero, List.setIfInBounds_toArray, List.set_cons_zero, List.set_cons_succ]
        refine wpAnyH_take (i := 6) (v := ?_) rfl (by kernel_rfl) (by kernel_rfl) (by kernel_rfl) (fun _ _ _ h => h) (Or.inl ⟨by kernel_rfl, ?_⟩) hSw ?_
        rotate_left
        · (intro u hu; obtain ⟨h0, h1, h2, h3⟩ := hu; first | (go_simp; done) | (go_simp; with_reducible rfl))
        try simp only [Act.put, List.getElem_toArray, List.getElem_cons_succ, List.getElem_cons_zero, List.setIfInBounds_toArray, List.set_cons_zero, List.set_cons_succ]
        refine wpAnyH_take (i := 7) (v := ?_) rfl (by kernel_rfl) (by kernel_rfl) (by kernel_rfl) (fun _ _ _ h => h) (Or.inl ⟨by kernel_rfl, ?_⟩) hSw ?_
        rotate_left
        · (intro u hu; obtain ⟨h0, h1, h2, h3⟩ := hu; first | (go_simp; done) | (go_simp; with_reducible rfl))
        try simp only [Act.put, List.getElem_toArray, List.getElem_cons_succ, List.getElem_cons_zero, List.setIfInBounds_toArray, List.set_cons_zero, List.set_cons_succ]
        refine wpAnyH_take (i := 8) (v := ?_) rfl (by kernel_rfl) (by kernel_rfl) (by kernel_rfl) (fun _ _ _ h => h) (Or.inl ⟨by kernel_rfl, ?_⟩) hSw ?_
        rotate_left
        · (intro u hu; obtain ⟨h0, h1, h2, h3⟩ := hu; first | (go_simp; done) | (go_simp; with_reducible rfl))
        try simp only [Act.put, List.getElem_toArray, List.getElem_cons_succ, List.getElem_cons_zero, List.setIfInBounds_toArray, List.set_cons_zero, List.set_cons_succ]
        refine wpAnyH_take (i := 9) (v := ?_) rfl (by kernel_rfl) (by kernel_rfl) (by kernel_rfl) (fun _ _ _ h => h) (Or.inl ⟨by kernel_rfl, ?_⟩) hSw ?_
        rotate_left
        · (intro u hu; obtain ⟨h0, h1, h2, h3⟩ := hu; first | (go_simp; done) | (go_simp; with_reducible rfl))
        try simp only [Act.put, List.getElem_toArray, List.getElem_cons_succ, List.getElem_cons_zero, List.setIfInBounds_toArray, List.set_cons_zero, List.set_cons_succ]
        refine wpAnyH_take (i := 10) (v := ?_) rfl (by kernel_rfl) (by kernel_rfl) (by kernel_rfl) (fun _ _ _ h => h) (Or.inl ⟨by kernel_rfl, ?_⟩) hSw ?_
        rotate_left
        · (intro u hu; obtain ⟨h0, h1, h2, h3⟩ := hu; first | (go_simp; done) | (go_simp; with_reducible rfl))
        try simp only [Act.put, List.getElem_toArray, List.getElem_cons_succ, List.getElem_cons_zero, List.setIfInBounds_toArray, List.set_cons_zero, List.set_cons_succ]
        refine wpAnyH_take (i := 11) (v := ?_) rfl (by kernel_rfl) (by kernel_rfl) (by kernel_rfl) (fun _ _ _ h => h) (Or.inl ⟨by kernel_rfl, ?_⟩) hSw ?_
        rotate_left
        · (intro u hu; obtain ⟨h0, h1, h2, h3⟩ := hu; first | (go_simp; done) | (go_simp; with_reducible rfl))
        try simp only [Act.put, List.getElem_toArray, List.getElem_cons_succ, List.getElem_cons_zero, List.setIfInBounds_toArray, List.set_cons_zero, List.set_cons_succ]
        refine wpAnyH_take (i := 12) (v := ?_) rfl (by kernel_rfl) (by kernel_rfl) (by kernel_rfl) (fun _ _ _ h => h) (Or.inl ⟨by kernel_rfl, ?_⟩) hSw ?_
        rotate_left
        · (intro u hu; obtain ⟨h0, h1, h2, h3⟩ := hu; first | (go_simp; done) | (go_simp; with_reducible rfl))
        try simp only [Act.put, List.getElem_toArray, List.getElem_cons_succ, List.getElem_cons_zero, List.setIfInBounds_toArray, List.set_cons_zero, List.set_cons_succ]
        refine wpAnyH_take (i := 13) (v := ?_) rfl (by kernel_rfl) (by kernel_rfl) (by kernel_rfl) (fun _ _ _ h => h) (Or.inl ⟨by kernel_rfl, ?_⟩) hSw ?_
        rotate_left
        · (intro u hu; obtain ⟨h0, h1, h2, h3⟩ := hu; first | (go_simp; done) | (go_simp; with_reducible rfl))
        try simp only [Act.put, List.getElem_toArray, List.getElem_cons_succ, List.getElem_cons_zero, List.setIfInBounds_toArray, List.set_cons_zero, List.set_cons_succ]
        refine wpAnyH_take (i := 14) (v := ?_) rfl (by kernel_rfl) (by kernel_rfl) (by kernel_rfl) (fun _ _ _ h => h) (Or.inl ⟨by kernel_rfl, ?_⟩) hSw ?_
        rotate_left
        · (intro u hu; obtain ⟨h0, h1, h2, h3⟩ := hu; first | (go_simp; done) | (go_simp; with_reducible rfl))
        try simp only [Act.put, List.getElem_toArray, List.getElem_cons_succ, List.getElem_cons_zero, List.setIfInBounds_toArray, List.set_cons_zero, List.set_cons_succ]
        refine wpAnyH_take (i := 15) (v := ?_) rfl (by kernel_rfl) (by kernel_rfl) (by kernel_rfl) (fun _ _ _ h => h) (Or.inl ⟨by kernel_rfl, ?_⟩) hSw ?_
        rotate_left
        · (intro u hu; obtain ⟨h0, h1, h2, h3⟩ := hu; first | (go_simp; done) | (go_simp; with_reducible rfl))
        try simp only [Act.put, List.getElem_toArray, List.getElem_cons_succ, List.getElem_cons_zero, List.setIfInBounds_toArray, List.set_cons_zero, List.set_cons_succ]
        refine wpAnyH_take (i := 16) (v := ?_) rfl (by kernel_rfl) (by kernel_rfl) (by kernel_rfl) (fun _ _ _ h => h) (Or.inl ⟨by kernel_rfl, ?_⟩) hSw ?_
        rotate_left
        · (intro u hu; obtain ⟨h0, h1, h2, h3⟩ := hu; first | (go_simp; done) | (go_simp; with_reducible rfl))
        try simp only [Act.put, List.getElem_toArray, List.getElem_cons_succ, List.getElem_cons_zero, List.setIfInBounds_toArray, List.set_cons_zero, List.set_cons_succ]
        refine wpAnyH_take (i := 17) (v := ?_) rfl (by kernel_rfl) (by kernel_rfl) (by kernel_rfl) (fun _ _ _ h => h) (Or.inl ⟨by kernel_rfl, ?_⟩) hSw ?_
        rotate_left
        · (intro u hu; obtain ⟨h0, h1, h2, h3⟩ := hu; first | (go_simp; done) | (go_simp; with_reducible rfl))
        try simp only [Act.put, List.getElem_toArray, List.getElem_cons_succ, List.getElem_cons_zero, List.setIfInBounds_toArray, List.set_cons_zero, List.set_cons_succ]
        refine wpAnyH_take (i := 18) (v := ?_) rfl (by kernel_rfl) (by kernel_rfl) (by kernel_rfl) (fun _ _ _ h => h) (Or.inl ⟨by kernel_rfl, ?_⟩) hSw ?_
        rotate_left
        · (intro u hu; obtain ⟨h0, h1, h2, h3⟩ := hu; first | (go_simp; done) | (go_simp; with_reducible rfl))
        try simp only [Act.put, List.getElem_toArray, List.getElem_cons_succ, List.getElem_cons_zero, List.setIfInBounds_toArray, List.set_cons_zero, List.set_cons_succ]
        refine wpAnyH_take (i := 19) (v := ?_) rfl (by kernel_rfl) (by kernel_rfl) (by kernel_rfl) (fun _ _ _ h => h) (Or.inl ⟨by kernel_rfl, ?_⟩) hSw ?_
        rotate_left
        · (intro u hu; obtain ⟨h0, h1, h2, h3⟩ := hu; first | (go_simp; done) | (go_simp; with_reducible rfl))
        try simp only [Act.put, List.getElem_toArray, List.getElem_cons_succ, List.getElem_cons_zero, List.setIfInBounds_toArray, List.set_cons_zero, List.set_cons_succ]
        refine wpAnyH_take (i := 20) (v := ?_) rfl (by kernel_rfl) (by kernel_rfl) (by kernel_rfl) (fun _ _ _ h => h) (Or.inl ⟨by kernel_rfl, ?_⟩) hSw ?_
        rotate_left
        · (intro u hu; obtain ⟨h0, h1, h2, h3⟩ := hu; first | (go_simp; done) | (go_simp; with_reducible rfl))
        try simp only [Act.put, List.getElem_toArray, List.getElem_cons_succ, List.getElem_cons_zero, List.setIfInBounds_toArray, List.set_cons_zero, List.set_cons_succ]
        refine wpAnyH_take (i := 21) (v := ?_) rfl (by kernel_rfl) (by kernel_rfl) (by kernel_rfl) (fun _ _ _ h => h) (Or.inl ⟨by kernel_rfl, ?_⟩) hSw ?_
        rotate_left
        · (intro u hu; obtain ⟨h0, h1, h2, h3⟩ := hu; first | (go_simp; done) | (go_simp; with_reducible rfl))
        try simp only [Act.put, List.getElem_toArray, List.getElem_cons_succ, List.getElem_cons_zero, List.setIfInBounds_toArray, List.set_cons_zero, List.set_cons_succ]
        refine wpAnyH_take (i := 22) (v := ?_) rfl (by kernel_rfl) (by kernel_rfl) (by kernel_rfl) (fun _ _ _ h => h) (Or.inl ⟨by kernel_rfl, ?_⟩) hSw ?_
        rotate_left
        · (intro u hu; obtain ⟨h0, h1, h2, h3⟩ := hu; first | (go_simp; done) | (go_simp; with_reducible rfl))
        try simp only [Act.put, List.getElem_toArray, List.getElem_cons_succ, List.getElem_cons_zero, List.setIfInBounds_toArray, List.set_cons_zero, List.set_cons_succ]
        refine wpAnyH_take (i := 23) (v := ?_) rfl (by kernel_rfl) (by kernel_rfl) (by kernel_rfl) (fun _ _ _ h => h) (Or.inl ⟨by kernel_rfl, ?_⟩) hSw ?_
        rotate_left
        · (intro u hu; obtain ⟨h0, h1, h2, h3⟩ := hu; first | (go_simp; done) | (go_simp; with_reducible rfl))
        try simp only [Act.put, List.getElem_toArray, List.getElem_cons_succ, List.getElem_cons_zero, List.setIfInBounds_toArray, List.set_cons_zero, List.set_cons_succ]
        refine wpAnyH_done (by kernel_rfl) ?_ _
        clear zs zs2 hSw zz zi
        have D0 := Lib.hid (Below.refl v0.heap.size v0).drew
        go_wp2_with fail
        with_reducible refine Calls.mono (HH1.out _ D0.out) ?_
        rintro e u1 ⟨rfl, hb⟩
        have D1 := Lib.hid (D0.out.trans (hb.mono D0.out.size))
        clear hb D0
        go_wp2_with fail
        with_reducible refine Calls.mono (HH2.out _ D1.out) ?_
        rintro e u2 ⟨rfl, hb⟩
        have D2 := Lib.hid (D1.out.trans (hb.mono D1.out.size))
        clear hb D1 HH1 HH2
        have k6 : ((t : Int) == 0) = false := by simp; omega
        go_wp2
        clear k6
        go_loopw [20] (fun i w3 => ∃ j : Nat, 1 ≤ j ∧ j ≤ l.length ∧ i = .int .i64 (j : Nat) ∧ Hid (Below v0.heap.size v0 w3)) (fun i _ => l.length - (intOf i).toNat)
        case atStart => exact ⟨1, Nat.le_refl _, hpos, rfl, D2⟩
        case round =>
          obtain ⟨j, j1, jl, rfl, HD⟩ := hrel
          by_cases hj : j < l.length
          · obtain ⟨i, hi⟩ : ∃ z, j - 1 = z := ⟨_, rfl⟩
            have k1 := (HD.out.cell (p := ⟨bl, ol + j, none⟩) ll).trans (HLc.out j hj)
            have k2 := (HD.out.cell (p := ⟨bl, ol + i, none⟩) ll).trans (HLc.out i (by omega))
            have hinc := HI.out i j (by omega) hj
            obtain ⟨xv, hxv⟩ : ∃ z, lf l j = z := ⟨_, rfl⟩
            obtain ⟨yv, hyv⟩ : ∃ z, lf l i = z := ⟨_, rfl⟩
            rw [hxv] at k1 hinc
            rw [hyv] at k2 hinc
            clear hxv hyv
            have y5 : ¬ xv ≤ yv := by omega
            have y6 : (j : Int) < (l.length : Int) := by omega
            have y7 : (i : Int) < (l.length : Int) := by omega
            have y8 : (0 : Int) ≤ (j : Int) := by omega
            have y9 : (0 : Int) ≤ (i : Int) := by omega
            have ys : (j : Int) - 1 = (i : Int) := by omega
            have HN : Hid (j + 1 ≤ l.length ∧ 1 ≤ j + 1 ∧ l.length - (j + 1) < l.length - j) := Lib.hid (by omega)
            have zz : wrap64 (i : Int) = (i : Int) := IntWalk.wrap64_in _ (by omega)
            have zi : IntKind.i64.wrap (i : Int) = (i : Int) := (IntWalk.i64_left _).trans zz
            have hSw : (fun u : World => u.cell? ⟨bl, ol + j, none⟩ = some (.int .i64 xv) ∧ u.cell? ⟨bl, ol + i, none⟩ = some (.int .i64 yv)) wr.drew := ⟨k1, k2⟩
            clear k1 k2 hinc
            go_wp2
            refine wp_region_held (S := fun u : World => u.cell? ⟨bl, ol + j, none⟩ = some (.int .i64 xv) ∧ u.cell? ⟨bl, ol + i, none⟩ = some (.int .i64 yv)) (by kernel_rfl) ?_
            try (change wpAnyH _ _ _ _ _ _ _ _ (World.drew _))
            refine wpAnyH_take (i := 0) (v := ?_) rfl (by kernel_rfl) (by kernel_rfl) (by kernel_rfl) (fun _ _ _ h => h) (Or.inl ⟨by kernel_rfl, ?_⟩) hSw ?_
            rotate_left
            · (intro u hu; obtain ⟨h0, h1⟩ := hu; first | (go_simp; done) | (go_simp; with_reducible rfl))
            try simp only [Act.put, List.getElem_toArray, List.getElem_cons_succ, List.getElem_cons_zero, List.setIfInBounds_toArray, List.set_cons_zero, List.set_cons_succ]
            refine wpAnyH_take (i := 1) (v := ?_) rfl (by kernel_rfl) (by kernel_rfl) (by kernel_rfl) (fun _ _ _ h => h) (Or.inl ⟨by kernel_rfl, ?_⟩) hSw ?_
            rotate_left
            · (intro u hu; obtain ⟨h0, h1⟩ := hu; first | (go_simp; done) | (go_simp; with_reducible rfl))
            try simp only [Act.put, List.getElem_toArray, List.getElem_cons_succ, List.getElem_cons_zero, List.setIfInBounds_toArray, List.set_cons_zero, List.set_cons_succ]
            refine wpAnyH_take (i := 2) (v := ?_) rfl (by kernel_rfl) (by kernel_rfl) (by kernel_rfl) (fun _ _ _ h => h) (Or.inl ⟨by kernel_rfl, ?_⟩) hSw ?_
            rotate_left
            · (intro u hu; obtain ⟨h0, h1⟩ := hu; first | (go_simp; done) | (go_simp; with_reducible rfl))
            try simp only [Act.put, List.getElem_toArray, List.getElem_cons_succ, List.getElem_cons_zero, List.setIfInBounds_toArray, List.set_cons_zero, List.set_cons_succ]
            refine wpAnyH_take (i := 3) (v := ?_) rfl (by kernel_rfl) (by kernel_rfl) (by kernel_rfl) (fun _ _ _ h => h) (Or.inl ⟨by kernel_rfl, ?_⟩) hSw ?_
            rotate_left
            · (intro u hu; obtain ⟨h0, h1⟩ := hu; first | (go_simp; done) | (go_simp; with_reducible rfl))
            try simp only [Act.put, List.getElem_toArray, List.getElem_cons_succ, List.getElem_cons_zero, List.setIfInBounds_toArray, List.set_cons_zero, List.set_cons_succ]
            refine wpAnyH_take (i := 4) (v := ?_) rfl (by kernel_rfl) (by kernel_rfl) (by kernel_rfl) (fun _ _ _ h => h) (Or.inl ⟨by kernel_rfl, ?_⟩) hSw ?_
            rotate_left
            · (intro u hu; obtain ⟨h0, h1⟩ := hu; first | (go_simp; done) | (go_simp; with_reducible rfl))
            try simp only [Act.put, List.getElem_toArray, List.getElem_cons_succ, List.getElem_cons_zero, List.setIfInBounds_toArray, List.set_cons_zero, List.set_cons_succ]
            refine wpAnyH_take (i := 5) (v := ?_) rfl (by kernel_rfl) (by kernel_rfl) (by kernel_rfl) (fun _ _ _ h => h) (Or.inl ⟨by kernel_rfl, ?_⟩) hSw ?_
            rotate_left
            · (intro u hu; obtain ⟨h0, h1⟩ := hu; first | (go_simp; done) | (go_simp; with_reducible rfl))
            try simp only [Act.put, List.getElem_toArray, List.getElem_cons_succ, List.getElem_cons_zero, List.setIfInBounds_toArray, List.set_cons_zero, List.set_cons_succ]
            refine wpAnyH_take (i := 6) (v := ?_) rfl (by kernel_rfl) (by kernel_rfl) (by kernel_rfl) (fun _ _ _ h => h) (Or.inl ⟨by kernel_rfl, ?_⟩) hSw ?_
            rotate_left
            · (intro u hu; obtain ⟨h0, h1⟩ := hu; first | (go_simp; done) | (go_simp; with_reducible rfl))
            try simp only [Act.put, List.getElem_toArray, List.getElem_cons_succ, List.getElem_cons_zero, List.setIfInBounds_toArray, List.set_cons_zero, List.set_cons_succ]
            refine wpAnyH_take (i := 7) (v := ?_) rfl (by kernel_rfl) (by kernel_rfl) (by kernel_rfl) (fun _ _ _ h => h) (Or.inl ⟨by kernel_rfl, ?_⟩) hSw ?_
            rotate_left
            · (intro u hu; obtain ⟨h0, h1⟩ := hu; first | (go_simp; done) | (go_simp; with_reducible rfl))
            try simp only [Act.put, List.getElem_toArray, List.getElem_cons_succ, List.getElem_cons_zero, List.setIfInBounds_toArray, List.set_cons_zero, List.set_cons_succ]
            refine wpAnyH_take (i := 8) (v := ?_) rfl (by kernel_rfl) (by kernel_rfl) (by kernel_rfl) (fun _ _ _ h => h) (Or.inl ⟨by kernel_rfl, ?_⟩) hSw ?_
            rotate_left
            · (intro u hu; obtain ⟨h0, h1⟩ := hu; first | (go_simp; done) | (go_simp; with_reducible rfl))
            try simp only [Act.put, List.getElem_toArray, List.getElem_cons_succ, List.getElem_cons_zero, List.setIfInBounds_toArray, List.set_cons_zero, List.set_cons_succ]
            refine wpAnyH_take (i := 9) (v := ?_) rfl (by kernel_rfl) (by kernel_rfl) (by kernel_rfl) (fun _ _ _ h => h) (Or.inl ⟨by kernel_rfl, ?_⟩) hSw ?_
            rotate_left
            · (intro u hu; obtain ⟨h0, h1⟩ := hu; first | (go_simp; done) | (go_simp; with_reducible rfl))
            try simp only [Act.put, List.getElem_toArray, List.getElem_cons_succ, List.getElem_cons_zero, List.setIfInBounds_toArray, List.set_cons_zero, List.set_cons_succ]
            refine wpAnyH_done (by kernel_rfl) ?_ _
            clear zz zi hSw
            go_wp2
            go_roundw
            case rel => exact ⟨j + 1, HN.out.2.1, HN.out.1, by go_num, Lib.hid HD.out.drew⟩
            case measure => simp [intOf]; omega
          · have y5 : ¬ (j : Int) < (l.length : Int) := by omega
            go_wp2
            go_roundw
            case rel => exact ⟨t + 1, by omega, by go_num, Lib.hid (HB.out.trans (HD.out.mono HB.out.size))⟩
            case measure => simp [intOf]; omega
    · obtain ⟨q0, q1, q2, q3, q4, q5, q6⟩ := (B8.out.below HB.out B8.out.lt).all
      have y0 : ¬ (t : Int) < (W : Int) + (H : Int) := by omega
      have zs : wrap64 ((W : Int) + (H : Int)) = (W : Int) + (H : Int) := IntWalk.wrap64_in _ (by omega)
      have zs2 : IntKind.i64.wrap ((W : Int) + (H : Int)) = (W : Int) + (H : Int) := (IntWalk.i64_left _).trans zs
      go_wp2
      go_ret
      exact ⟨rfl, LB6.out.trans (HB.out.mono LB6.out.size)⟩
theorem choices15_any (W H : Int) (A B C : Option Addr) (n c m d k e : Nat) (s : Nat → Bool) (a b : Nat → Int) (w : World) (hg : Holds w w.heap.size A n s) (ha : L2.Holds w w.heap.size B m a) (hb1 : L2.Holds w w.heap.size C k b) :
    Calls Try.prog 9 #[.agg #[.int .i64 W, .int .i64 H, .slice A n c], .slice B m d, .slice C k e] w fun e w' => e = .returned (.bool true) ∧ Below w.heap.size w w' := by
  by_cases hz : thE W H n m k a b ≠ 0 ∨ 100 < n
  · exact choices_no W H A B C n c m d k e s a b w hg ha hb1 hz
  · have h1 : thE W H n m k a b = 0 := Classical.byContradiction fun q => hz (.inl q)
    have h2 : n ≤ 100 := Nat.le_of_not_lt fun q => hz (.inr q)
    clear hz
    obtain ⟨P, Q, rfl, rfl, rfl, rfl, rfl, p0, p1, q0, q1, hx, hy⟩ := thE_zero h1
    exact choices_law m k A B C c d e s a b w hg ha hb1 p0 p1 q0 q1 hx hy h2
end Go.Proofs.Ytmcdfnhpaneanaa
