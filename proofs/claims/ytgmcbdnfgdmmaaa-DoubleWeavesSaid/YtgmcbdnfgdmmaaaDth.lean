/- The reference checks; three of layer 12; lists of even numbers. -/
import Derived.Test.YtgmcbdnfgdmmaaaDal
namespace Go.Proofs.Ytgmcbdnfgdmmaaa
open Go.RowKit
set_option maxRecDepth 100000
set_option linter.unusedVariables false
set_option linter.unusedSimpArgs false

set_option maxHeartbeats 400000 in
theorem rchk_all (W H : Int) (A : Option Addr) (n c : Nat) (w : World) :
    Calls Try.prog 59 #[.agg #[.int .i64 W, .int .i64 H, .slice A n c]] w fun e w' => e = .returned (.int .i64 (chk W H n)) ∧ Below w.heap.size w w' := by
  by_cases h1 : 64 < W
  · have hr : chk W H n = 4 := by unfold chk; rw [if_pos (.inl h1)]
    have Hr := Lib.hid hr
    clear hr
    go_enter Try.func59, Try.ntmps59
    go_wp2
    go_ret
    exact ⟨ret_i64 Hr.out.symm, (Below.refl _ _).alloc (Nat.le_refl _) _⟩
  by_cases h2 : 64 < H
  · have hr : chk W H n = 4 := by unfold chk; rw [if_pos (.inr h2)]
    have Hr := Lib.hid hr
    clear hr
    go_enter Try.func59, Try.ntmps59
    go_wp2
    go_ret
    exact ⟨ret_i64 Hr.out.symm, (Below.refl _ _).alloc (Nat.le_refl _) _⟩
  by_cases h3 : W < 1
  · have hr : chk W H n = 8 := by unfold chk; rw [if_neg (by omega), if_pos (.inl h3)]
    have Hr := Lib.hid hr
    clear hr
    go_enter Try.func59, Try.ntmps59
    go_wp2
    go_ret
    exact ⟨ret_i64 Hr.out.symm, (Below.refl _ _).alloc (Nat.le_refl _) _⟩
  by_cases h4 : H < 1
  · have hr : chk W H n = 8 := by unfold chk; rw [if_neg (by omega), if_pos (.inr (.inl h4))]
    have Hr := Lib.hid hr
    clear hr
    go_enter Try.func59, Try.ntmps59
    go_wp2
    go_ret
    exact ⟨ret_i64 Hr.out.symm, (Below.refl _ _).alloc (Nat.le_refl _) _⟩
  obtain ⟨m1, m2⟩ := mul_pos_bd (W := W) (H := H) (by omega) (by omega) (by omega) (by omega)
  by_cases h5 : (n : Int) = W * H
  · have hr : chk W H n = 0 := by unfold chk; rw [if_neg (by omega), if_neg]; rintro (h | h | h) <;> first | omega | exact h h5
    have Hr := Lib.hid hr
    have h6 : ((n : Int) != W * H) = false := by simp [h5]
    clear hr h5
    go_enter Try.func59, Try.ntmps59
    go_wp2
    go_ret
    exact ⟨ret_i64 Hr.out.symm, (Below.refl _ _).alloc (Nat.le_refl _) _⟩
  · have hr : chk W H n = 8 := by unfold chk; rw [if_neg (by omega), if_pos (.inr (.inr h5))]
    have Hr := Lib.hid hr
    have h6 : ((n : Int) != W * H) = true := by simp [h5]
    clear hr h5
    go_enter Try.func59, Try.ntmps59
    go_wp2
    go_ret
    exact ⟨ret_i64 Hr.out.symm, (Below.refl _ _).alloc (Nat.le_refl _) _⟩
set_option maxHeartbeats 400000 in
theorem both_all (W H X Y : Int) (A D : Option Addr) (n c m d : Nat) (w : World) : Calls Try.prog 135 #[.agg #[.int .i64 W, .int .i64 H, .slice A n c], .agg #[.int .i64 X, .int .i64 Y, .slice D m d]] w fun e w' => e = .returned (.int .i64 (if chk W H n = 0 then chk X Y m else chk W H n)) ∧ Below w.heap.size w w' := by
  have HC := Lib.hid (fun v => rchk_all W H A n c v)
  have HD := Lib.hid (fun v => rchk_all X Y D m d v)
  have B0 := Lib.hid (show Box ((w.alloc (.cells #[.int .i64 W, .int .i64 H, .slice A n c] 24)).alloc (.cells #[.int .i64 X, .int .i64 Y, .slice D m d] 24)) w.heap.size W H (.slice A n c) from (Box.new _ _ _ _).alloc _)
  have B1 := Lib.hid (show Box ((w.alloc (.cells #[.int .i64 W, .int .i64 H, .slice A n c] 24)).alloc (.cells #[.int .i64 X, .int .i64 Y, .slice D m d] 24)) (w.heap.size + 1) X Y (.slice D m d) from by have h := Box.new (w.alloc (.cells #[.int .i64 W, .int .i64 H, .slice A n c] 24)) X Y (.slice D m d); rwa [World.size_alloc] at h)
  have L0 := Lib.hid (show Below w.heap.size w ((w.alloc (.cells #[.int .i64 W, .int .i64 H, .slice A n c] 24)).alloc (.cells #[.int .i64 X, .int .i64 Y, .slice D m d] 24)) from ((Below.refl _ _).alloc (Nat.le_refl _) _).alloc (by simp) _)
  by_cases hx : chk W H n = 0
  · rw [if_pos hx]
    rw [hx] at HC
    have HX := Lib.hid hx
    obtain ⟨z, hz⟩ : ∃ z, chk X Y m = z := ⟨_, rfl⟩
    rw [hz] at HD ⊢
    clear hx hz
    go_enter Try.func135, Try.ntmps135
    obtain ⟨q0, q1, q2, q3, q4, q5, q6⟩ := B0.out.all
    go_wp2_with fail
    refine (HC.out _).mono ?_
    rintro e w1 ⟨rfl, hb⟩
    have L1 := Lib.hid (L0.out.trans (hb.mono L0.out.size))
    clear q0 q1 q2 q3 q4 q5 q6
    obtain ⟨q0, q1, q2, q3, q4, q5, q6⟩ := (B1.out.below hb B1.out.lt).all
    clear hb
    go_wp2_with fail
    refine (HD.out _).mono ?_
    rintro e w2 ⟨rfl, hb⟩
    have L2 := Lib.hid (L1.out.trans (hb.mono L1.out.size))
    clear hb
    go_wp2
    go_ret
    exact ⟨rfl, L2.out⟩
  · rw [if_neg hx]
    obtain ⟨z, hz⟩ : ∃ z, chk W H n = z := ⟨_, rfl⟩
    rw [hz] at HC hx ⊢
    have hne : (z != 0) = true := by simpa using hx
    clear hx hz
    go_enter Try.func135, Try.ntmps135
    obtain ⟨q0, q1, q2, q3, q4, q5, q6⟩ := B0.out.all
    go_wp2_with fail
    refine (HC.out _).mono ?_
    rintro e w1 ⟨rfl, hb⟩
    have L1 := Lib.hid (L0.out.trans (hb.mono L0.out.size))
    clear q0 q1 q2 q3 q4 q5 q6
    obtain ⟨q0, q1, q2, q3, q4, q5, q6⟩ := (B0.out.below hb B0.out.lt).all
    clear hb
    go_wp2_with fail
    refine (HC.out _).mono ?_
    rintro e w2 ⟨rfl, hb⟩
    have L2 := Lib.hid (L1.out.trans (hb.mono L1.out.size))
    clear hb
    go_wp2
    go_ret
    exact ⟨rfl, L2.out⟩
theorem great12_any (W H : Int) (A : Option Addr) (n c : Nat) (w : World) : Calls Try.prog 50 #[.agg #[.int .i64 W, .int .i64 H, .slice A n c]] w fun e w' => e = .returned (.bool (decide (1100 < n))) ∧ Below w.heap.size w w' := by
  have hd : decide ((n : Int) > 1100) = decide (1100 < n) := by
    by_cases h : 1100 < n
    · rw [decide_eq_true h]; simp; omega
    · rw [decide_eq_false h]; simp; omega
  obtain ⟨q, hq⟩ : ∃ q, decide (1100 < n) = q := ⟨_, rfl⟩
  rw [hq] at hd ⊢
  have B0 := Lib.hid (bel_alloc w (.cells #[.int .i64 W, .int .i64 H, .slice A n c] 24))
  cases q
  · have h1 : ¬ 1100 < n := of_decide_eq_false hq
    clear hq
    go_enter Try.func50, Try.ntmps50
    go_wp2
    go_ret
    exact ⟨rfl, B0.out⟩
  · have h1 : 1100 < n := of_decide_eq_true hq
    clear hq
    go_enter Try.func50, Try.ntmps50
    go_wp2
    go_ret
    exact ⟨rfl, B0.out⟩
set_option maxHeartbeats 1600000 in
theorem three_any (W H X Y U V : Int) (A B C : Option Addr) (n c m d k e : Nat) (w : World) : Calls Try.prog 97 #[.agg #[.int .i64 W, .int .i64 H, .slice A n c], .agg #[.int .i64 X, .int .i64 Y, .slice B m d], .agg #[.int .i64 U, .int .i64 V, .slice C k e]] w fun e w' => e = .returned (.int .i64 (fitZ (chk W H n) (chk X Y m) (chk U V k) W H X Y U V)) ∧ Below w.heap.size w w' := by
  have HB := Lib.hid (fun u => both_all W H X Y A B n c m d u)
  have HC := Lib.hid (fun u => rchk_all U V C k e u)
  by_cases h1 : (if chk W H n = 0 then chk X Y m else chk W H n) = 0
  · have h2 : chk W H n = 0 ∧ chk X Y m = 0 := by
      by_cases h : chk W H n = 0
      · rw [if_pos h] at h1; exact ⟨h, h1⟩
      · rw [if_neg h] at h1; exact absurd h1 h
    rw [h1] at HB
    rw [h2.1, h2.2]
    by_cases h3 : chk U V k = 0
    · rw [h3] at HC ⊢
      have HZ := Lib.hid (show fitZ 0 0 0 W H X Y U V = if (X = W ∧ Y = H) ∧ (U = W ∧ V = H) then 0 else 2 by unfold fitZ; simp)
      rw [HZ.out]
      clear h1 h2 h3 HZ
      by_cases e0 : X = W
      · by_cases e1 : Y = H
        · by_cases e2 : U = W
          · by_cases e3 : V = H
            · rw [if_pos ⟨⟨e0, e1⟩, ⟨e2, e3⟩⟩]
              subst e0 e1 e2 e3
              have LB0 := Lib.hid (Below.refl w.heap.size w)
              have XA := Lib.hid (Box.new w U V (.slice A n c))
              have LB0 := Lib.hid (LB0.out.alloc LB0.out.size (.cells #[.int .i64 U, .int .i64 V, .slice A n c] 24))
              have XA := Lib.hid (XA.out.alloc (.cells #[.int .i64 U, .int .i64 V, .slice B m d] 24))
              have XB := Box.new (w.alloc (.cells #[.int .i64 U, .int .i64 V, .slice A n c] 24)) U V (.slice B m d)
              rw [show ((w.alloc (.cells #[.int .i64 U, .int .i64 V, .slice A n c] 24))).heap.size = w.heap.size + 1 by simp] at XB
              have XB := Lib.hid XB
              have LB0 := Lib.hid (LB0.out.alloc LB0.out.size (.cells #[.int .i64 U, .int .i64 V, .slice B m d] 24))
              have XA := Lib.hid (XA.out.alloc (.cells #[.int .i64 U, .int .i64 V, .slice C k e] 24))
              have XB := Lib.hid (XB.out.alloc (.cells #[.int .i64 U, .int .i64 V, .slice C k e] 24))
              have XC := Box.new ((w.alloc (.cells #[.int .i64 U, .int .i64 V, .slice A n c] 24)).alloc (.cells #[.int .i64 U, .int .i64 V, .slice B m d] 24)) U V (.slice C k e)
              rw [show (((w.alloc (.cells #[.int .i64 U, .int .i64 V, .slice A n c] 24)).alloc (.cells #[.int .i64 U, .int .i64 V, .slice B m d] 24))).heap.size = w.heap.size + 2 by simp] at XC
              have XC := Lib.hid XC
              have LB0 := Lib.hid (LB0.out.alloc LB0.out.size (.cells #[.int .i64 U, .int .i64 V, .slice C k e] 24))
              go_enter Try.func97, Try.ntmps97
              go_upto_region 1 with (fail)
              generalize ((w.alloc (.cells #[.int .i64 U, .int .i64 V, .slice A n c] 24)).alloc (.cells #[.int .i64 U, .int .i64 V, .slice B m d] 24)).alloc (.cells #[.int .i64 U, .int .i64 V, .slice C k e] 24) = w0 at *
              obtain ⟨q0, q1, q2, q3, q4, q5, q6⟩ := XA.out.all
              obtain ⟨q7, q8, q9, q10, q11, q12, q13⟩ := XB.out.all
              go_wp2_with fail
              clear q0 q1 q2 q3 q4 q5 q6 q7 q8 q9 q10 q11 q12 q13
              with_reducible refine Calls.mono (HB.out _) ?_
              rintro e w1 ⟨rfl, hb⟩
              have LB1 := Lib.hid (LB0.out.trans (hb.mono LB0.out.size))
              have XA := Lib.hid (XA.out.below hb XA.out.lt)
              have XB := Lib.hid (XB.out.below hb XB.out.lt)
              have XC := Lib.hid (XC.out.below hb XC.out.lt)
              clear hb LB0 
              obtain ⟨q0, q1, q2, q3, q4, q5, q6⟩ := XC.out.all
              go_wp2_with fail
              clear q0 q1 q2 q3 q4 q5 q6
              with_reducible refine Calls.mono (HC.out _) ?_
              rintro e w2 ⟨rfl, hb⟩
              have LB2 := Lib.hid (LB1.out.trans (hb.mono LB1.out.size))
              have XA := Lib.hid (XA.out.below hb XA.out.lt)
              have XB := Lib.hid (XB.out.below hb XB.out.lt)
              have XC := Lib.hid (XC.out.below hb XC.out.lt)
              clear hb LB1 
              obtain ⟨q0, q1, q2, q3, q4, q5, q6⟩ := XA.out.all
              obtain ⟨q7, q8, q9, q10, q11, q12, q13⟩ := XB.out.all
              obtain ⟨q14, q15, q16, q17, q18, q19, q20⟩ := XC.out.all
              go_wp2
              go_ret
              exact ⟨rfl, LB2.out⟩
            · rw [if_neg (fun h => e3 h.2.2)]
              have n1 : (H != V) = true := by rw [bne_iff_ne]; exact fun h => e3 h.symm
              have n2 : (W != X) = false := by simp [e0]
              have n3 : (H != Y) = false := by simp [e1]
              have n4 : (W != U) = false := by simp [e2]
              clear e0 e1 e2 e3
              have LB0 := Lib.hid (Below.refl w.heap.size w)
              have XA := Lib.hid (Box.new w W H (.slice A n c))
              have LB0 := Lib.hid (LB0.out.alloc LB0.out.size (.cells #[.int .i64 W, .int .i64 H, .slice A n c] 24))
              have XA := Lib.hid (XA.out.alloc (.cells #[.int .i64 X, .int .i64 Y, .slice B m d] 24))
              have XB := Box.new (w.alloc (.cells #[.int .i64 W, .int .i64 H, .slice A n c] 24)) X Y (.slice B m d)
              rw [show ((w.alloc (.cells #[.int .i64 W, .int .i64 H, .slice A n c] 24))).heap.size = w.heap.size + 1 by simp] at XB
              have XB := Lib.hid XB
              have LB0 := Lib.hid (LB0.out.alloc LB0.out.size (.cells #[.int .i64 X, .int .i64 Y, .slice B m d] 24))
              have XA := Lib.hid (XA.out.alloc (.cells #[.int .i64 U, .int .i64 V, .slice C k e] 24))
              have XB := Lib.hid (XB.out.alloc (.cells #[.int .i64 U, .int .i64 V, .slice C k e] 24))
              have XC := Box.new ((w.alloc (.cells #[.int .i64 W, .int .i64 H, .slice A n c] 24)).alloc (.cells #[.int .i64 X, .int .i64 Y, .slice B m d] 24)) U V (.slice C k e)
              rw [show (((w.alloc (.cells #[.int .i64 W, .int .i64 H, .slice A n c] 24)).alloc (.cells #[.int .i64 X, .int .i64 Y, .slice B m d] 24))).heap.size = w.heap.size + 2 by simp] at XC
              have XC := Lib.hid XC
              have LB0 := Lib.hid (LB0.out.alloc LB0.out.size (.cells #[.int .i64 U, .int .i64 V, .slice C k e] 24))
              go_enter Try.func97, Try.ntmps97
              go_upto_region 1 with (fail)
              generalize ((w.alloc (.cells #[.int .i64 W, .int .i64 H, .slice A n c] 24)).alloc (.cells #[.int .i64 X, .int .i64 Y, .slice B m d] 24)).alloc (.cells #[.int .i64 U, .int .i64 V, .slice C k e] 24) = w0 at *
              obtain ⟨q0, q1, q2, q3, q4, q5, q6⟩ := XA.out.all
              obtain ⟨q7, q8, q9, q10, q11, q12, q13⟩ := XB.out.all
              go_wp2_with fail
              clear q0 q1 q2 q3 q4 q5 q6 q7 q8 q9 q10 q11 q12 q13
              with_reducible refine Calls.mono (HB.out _) ?_
              rintro e w1 ⟨rfl, hb⟩
              have LB1 := Lib.hid (LB0.out.trans (hb.mono LB0.out.size))
              have XA := Lib.hid (XA.out.below hb XA.out.lt)
              have XB := Lib.hid (XB.out.below hb XB.out.lt)
              have XC := Lib.hid (XC.out.below hb XC.out.lt)
              clear hb LB0 
              obtain ⟨q0, q1, q2, q3, q4, q5, q6⟩ := XC.out.all
              go_wp2_with fail
              clear q0 q1 q2 q3 q4 q5 q6
              with_reducible refine Calls.mono (HC.out _) ?_
              rintro e w2 ⟨rfl, hb⟩
              have LB2 := Lib.hid (LB1.out.trans (hb.mono LB1.out.size))
              have XA := Lib.hid (XA.out.below hb XA.out.lt)
              have XB := Lib.hid (XB.out.below hb XB.out.lt)
              have XC := Lib.hid (XC.out.below hb XC.out.lt)
              clear hb LB1 
              obtain ⟨q0, q1, q2, q3, q4, q5, q6⟩ := XA.out.all
              obtain ⟨q7, q8, q9, q10, q11, q12, q13⟩ := XB.out.all
              obtain ⟨q14, q15, q16, q17, q18, q19, q20⟩ := XC.out.all
              go_wp2
              go_ret
              exact ⟨rfl, LB2.out⟩
          · rw [if_neg (fun h => e2 h.2.1)]
            have n1 : (W != U) = true := by rw [bne_iff_ne]; exact fun h => e2 h.symm
            have n2 : (W != X) = false := by simp [e0]
            have n3 : (H != Y) = false := by simp [e1]
            clear e0 e1 e2
            have LB0 := Lib.hid (Below.refl w.heap.size w)
            have XA := Lib.hid (Box.new w W H (.slice A n c))
            have LB0 := Lib.hid (LB0.out.alloc LB0.out.size (.cells #[.int .i64 W, .int .i64 H, .slice A n c] 24))
            have XA := Lib.hid (XA.out.alloc (.cells #[.int .i64 X, .int .i64 Y, .slice B m d] 24))
            have XB := Box.new (w.alloc (.cells #[.int .i64 W, .int .i64 H, .slice A n c] 24)) X Y (.slice B m d)
            rw [show ((w.alloc (.cells #[.int .i64 W, .int .i64 H, .slice A n c] 24))).heap.size = w.heap.size + 1 by simp] at XB
            have XB := Lib.hid XB
            have LB0 := Lib.hid (LB0.out.alloc LB0.out.size (.cells #[.int .i64 X, .int .i64 Y, .slice B m d] 24))
            have XA := Lib.hid (XA.out.alloc (.cells #[.int .i64 U, .int .i64 V, .slice C k e] 24))
            have XB := Lib.hid (XB.out.alloc (.cells #[.int .i64 U, .int .i64 V, .slice C k e] 24))
            have XC := Box.new ((w.alloc (.cells #[.int .i64 W, .int .i64 H, .slice A n c] 24)).alloc (.cells #[.int .i64 X, .int .i64 Y, .slice B m d] 24)) U V (.slice C k e)
            rw [show (((w.alloc (.cells #[.int .i64 W, .int .i64 H, .slice A n c] 24)).alloc (.cells #[.int .i64 X, .int .i64 Y, .slice B m d] 24))).heap.size = w.heap.size + 2 by simp] at XC
            have XC := Lib.hid XC
            have LB0 := Lib.hid (LB0.out.alloc LB0.out.size (.cells #[.int .i64 U, .int .i64 V, .slice C k e] 24))
            go_enter Try.func97, Try.ntmps97
            go_upto_region 1 with (fail)
            generalize ((w.alloc (.cells #[.int .i64 W, .int .i64 H, .slice A n c] 24)).alloc (.cells #[.int .i64 X, .int .i64 Y, .slice B m d] 24)).alloc (.cells #[.int .i64 U, .int .i64 V, .slice C k e] 24) = w0 at *
            obtain ⟨q0, q1, q2, q3, q4, q5, q6⟩ := XA.out.all
            obtain ⟨q7, q8, q9, q10, q11, q12, q13⟩ := XB.out.all
            go_wp2_with fail
            clear q0 q1 q2 q3 q4 q5 q6 q7 q8 q9 q10 q11 q12 q13
            with_reducible refine Calls.mono (HB.out _) ?_
            rintro e w1 ⟨rfl, hb⟩
            have LB1 := Lib.hid (LB0.out.trans (hb.mono LB0.out.size))
            have XA := Lib.hid (XA.out.below hb XA.out.lt)
            have XB := Lib.hid (XB.out.below hb XB.out.lt)
            have XC := Lib.hid (XC.out.below hb XC.out.lt)
            clear hb LB0 
            obtain ⟨q0, q1, q2, q3, q4, q5, q6⟩ := XC.out.all
            go_wp2_with fail
            clear q0 q1 q2 q3 q4 q5 q6
            with_reducible refine Calls.mono (HC.out _) ?_
            rintro e w2 ⟨rfl, hb⟩
            have LB2 := Lib.hid (LB1.out.trans (hb.mono LB1.out.size))
            have XA := Lib.hid (XA.out.below hb XA.out.lt)
            have XB := Lib.hid (XB.out.below hb XB.out.lt)
            have XC := Lib.hid (XC.out.below hb XC.out.lt)
            clear hb LB1 
            obtain ⟨q0, q1, q2, q3, q4, q5, q6⟩ := XA.out.all
            obtain ⟨q7, q8, q9, q10, q11, q12, q13⟩ := XB.out.all
            obtain ⟨q14, q15, q16, q17, q18, q19, q20⟩ := XC.out.all
            go_wp2
            go_ret
            exact ⟨rfl, LB2.out⟩
        · rw [if_neg (fun h => e1 h.1.2)]
          have n1 : (H != Y) = true := by rw [bne_iff_ne]; exact fun h => e1 h.symm
          have n2 : (W != X) = false := by simp [e0]
          clear e0 e1
          have LB0 := Lib.hid (Below.refl w.heap.size w)
          have XA := Lib.hid (Box.new w W H (.slice A n c))
          have LB0 := Lib.hid (LB0.out.alloc LB0.out.size (.cells #[.int .i64 W, .int .i64 H, .slice A n c] 24))
          have XA := Lib.hid (XA.out.alloc (.cells #[.int .i64 X, .int .i64 Y, .slice B m d] 24))
          have XB := Box.new (w.alloc (.cells #[.int .i64 W, .int .i64 H, .slice A n c] 24)) X Y (.slice B m d)
          rw [show ((w.alloc (.cells #[.int .i64 W, .int .i64 H, .slice A n c] 24))).heap.size = w.heap.size + 1 by simp] at XB
          have XB := Lib.hid XB
          have LB0 := Lib.hid (LB0.out.alloc LB0.out.size (.cells #[.int .i64 X, .int .i64 Y, .slice B m d] 24))
          have XA := Lib.hid (XA.out.alloc (.cells #[.int .i64 U, .int .i64 V, .slice C k e] 24))
          have XB := Lib.hid (XB.out.alloc (.cells #[.int .i64 U, .int .i64 V, .slice C k e] 24))
          have XC := Box.new ((w.alloc (.cells #[.int .i64 W, .int .i64 H, .slice A n c] 24)).alloc (.cells #[.int .i64 X, .int .i64 Y, .slice B m d] 24)) U V (.slice C k e)
          rw [show (((w.alloc (.cells #[.int .i64 W, .int .i64 H, .slice A n c] 24)).alloc (.cells #[.int .i64 X, .int .i64 Y, .slice B m d] 24))).heap.size = w.heap.size + 2 by simp] at XC
          have XC := Lib.hid XC
          have LB0 := Lib.hid (LB0.out.alloc LB0.out.size (.cells #[.int .i64 U, .int .i64 V, .slice C k e] 24))
          go_enter Try.func97, Try.ntmps97
          go_upto_region 1 with (fail)
          generalize ((w.alloc (.cells #[.int .i64 W, .int .i64 H, .slice A n c] 24)).alloc (.cells #[.int .i64 X, .int .i64 Y, .slice B m d] 24)).alloc (.cells #[.int .i64 U, .int .i64 V, .slice C k e] 24) = w0 at *
          obtain ⟨q0, q1, q2, q3, q4, q5, q6⟩ := XA.out.all
          obtain ⟨q7, q8, q9, q10, q11, q12, q13⟩ := XB.out.all
          go_wp2_with fail
          clear q0 q1 q2 q3 q4 q5 q6 q7 q8 q9 q10 q11 q12 q13
          with_reducible refine Calls.mono (HB.out _) ?_
          rintro e w1 ⟨rfl, hb⟩
          have LB1 := Lib.hid (LB0.out.trans (hb.mono LB0.out.size))
          have XA := Lib.hid (XA.out.below hb XA.out.lt)
          have XB := Lib.hid (XB.out.below hb XB.out.lt)
          have XC := Lib.hid (XC.out.below hb XC.out.lt)
          clear hb LB0 
          obtain ⟨q0, q1, q2, q3, q4, q5, q6⟩ := XC.out.all
          go_wp2_with fail
          clear q0 q1 q2 q3 q4 q5 q6
          with_reducible refine Calls.mono (HC.out _) ?_
          rintro e w2 ⟨rfl, hb⟩
          have LB2 := Lib.hid (LB1.out.trans (hb.mono LB1.out.size))
          have XA := Lib.hid (XA.out.below hb XA.out.lt)
          have XB := Lib.hid (XB.out.below hb XB.out.lt)
          have XC := Lib.hid (XC.out.below hb XC.out.lt)
          clear hb LB1 
          obtain ⟨q0, q1, q2, q3, q4, q5, q6⟩ := XA.out.all
          obtain ⟨q7, q8, q9, q10, q11, q12, q13⟩ := XB.out.all
          obtain ⟨q14, q15, q16, q17, q18, q19, q20⟩ := XC.out.all
          go_wp2
          go_ret
          exact ⟨rfl, LB2.out⟩
      · rw [if_neg (fun h => e0 h.1.1)]
        have n1 : (W != X) = true := by rw [bne_iff_ne]; exact fun h => e0 h.symm
        clear e0
        have LB0 := Lib.hid (Below.refl w.heap.size w)
        have XA := Lib.hid (Box.new w W H (.slice A n c))
        have LB0 := Lib.hid (LB0.out.alloc LB0.out.size (.cells #[.int .i64 W, .int .i64 H, .slice A n c] 24))
        have XA := Lib.hid (XA.out.alloc (.cells #[.int .i64 X, .int .i64 Y, .slice B m d] 24))
        have XB := Box.new (w.alloc (.cells #[.int .i64 W, .int .i64 H, .slice A n c] 24)) X Y (.slice B m d)
        rw [show ((w.alloc (.cells #[.int .i64 W, .int .i64 H, .slice A n c] 24))).heap.size = w.heap.size + 1 by simp] at XB
        have XB := Lib.hid XB
        have LB0 := Lib.hid (LB0.out.alloc LB0.out.size (.cells #[.int .i64 X, .int .i64 Y, .slice B m d] 24))
        have XA := Lib.hid (XA.out.alloc (.cells #[.int .i64 U, .int .i64 V, .slice C k e] 24))
        have XB := Lib.hid (XB.out.alloc (.cells #[.int .i64 U, .int .i64 V, .slice C k e] 24))
        have XC := Box.new ((w.alloc (.cells #[.int .i64 W, .int .i64 H, .slice A n c] 24)).alloc (.cells #[.int .i64 X, .int .i64 Y, .slice B m d] 24)) U V (.slice C k e)
        rw [show (((w.alloc (.cells #[.int .i64 W, .int .i64 H, .slice A n c] 24)).alloc (.cells #[.int .i64 X, .int .i64 Y, .slice B m d] 24))).heap.size = w.heap.size + 2 by simp] at XC
        have XC := Lib.hid XC
        have LB0 := Lib.hid (LB0.out.alloc LB0.out.size (.cells #[.int .i64 U, .int .i64 V, .slice C k e] 24))
        go_enter Try.func97, Try.ntmps97
        go_upto_region 1 with (fail)
        generalize ((w.alloc (.cells #[.int .i64 W, .int .i64 H, .slice A n c] 24)).alloc (.cells #[.int .i64 X, .int .i64 Y, .slice B m d] 24)).alloc (.cells #[.int .i64 U, .int .i64 V, .slice C k e] 24) = w0 at *
        obtain ⟨q0, q1, q2, q3, q4, q5, q6⟩ := XA.out.all
        obtain ⟨q7, q8, q9, q10, q11, q12, q13⟩ := XB.out.all
        go_wp2_with fail
        clear q0 q1 q2 q3 q4 q5 q6 q7 q8 q9 q10 q11 q12 q13
        with_reducible refine Calls.mono (HB.out _) ?_
        rintro e w1 ⟨rfl, hb⟩
        have LB1 := Lib.hid (LB0.out.trans (hb.mono LB0.out.size))
        have XA := Lib.hid (XA.out.below hb XA.out.lt)
        have XB := Lib.hid (XB.out.below hb XB.out.lt)
        have XC := Lib.hid (XC.out.below hb XC.out.lt)
        clear hb LB0 
        obtain ⟨q0, q1, q2, q3, q4, q5, q6⟩ := XC.out.all
        go_wp2_with fail
        clear q0 q1 q2 q3 q4 q5 q6
        with_reducible refine Calls.mono (HC.out _) ?_
        rintro e w2 ⟨rfl, hb⟩
        have LB2 := Lib.hid (LB1.out.trans (hb.mono LB1.out.size))
        have XA := Lib.hid (XA.out.below hb XA.out.lt)
        have XB := Lib.hid (XB.out.below hb XB.out.lt)
        have XC := Lib.hid (XC.out.below hb XC.out.lt)
        clear hb LB1 
        obtain ⟨q0, q1, q2, q3, q4, q5, q6⟩ := XA.out.all
        obtain ⟨q7, q8, q9, q10, q11, q12, q13⟩ := XB.out.all
        obtain ⟨q14, q15, q16, q17, q18, q19, q20⟩ := XC.out.all
        go_wp2
        go_ret
        exact ⟨rfl, LB2.out⟩
    · have HZ := Lib.hid (show fitZ 0 0 (chk U V k) W H X Y U V = chk U V k by unfold fitZ; simp [h3])
      rw [HZ.out]
      obtain ⟨z, hz⟩ : ∃ z, chk U V k = z := ⟨_, rfl⟩
      rw [hz] at h3 HC ⊢
      have n1 : (z == 0) = false := by rw [beq_eq_false_iff_ne]; exact h3
      have n2 : (z != 0) = true := by rw [bne, n1]; rfl
      clear h1 h2 h3 HZ hz
      have LB0 := Lib.hid (Below.refl w.heap.size w)
      have XA := Lib.hid (Box.new w W H (.slice A n c))
      have LB0 := Lib.hid (LB0.out.alloc LB0.out.size (.cells #[.int .i64 W, .int .i64 H, .slice A n c] 24))
      have XA := Lib.hid (XA.out.alloc (.cells #[.int .i64 X, .int .i64 Y, .slice B m d] 24))
      have XB := Box.new (w.alloc (.cells #[.int .i64 W, .int .i64 H, .slice A n c] 24)) X Y (.slice B m d)
      rw [show ((w.alloc (.cells #[.int .i64 W, .int .i64 H, .slice A n c] 24))).heap.size = w.heap.size + 1 by simp] at XB
      have XB := Lib.hid XB
      have LB0 := Lib.hid (LB0.out.alloc LB0.out.size (.cells #[.int .i64 X, .int .i64 Y, .slice B m d] 24))
      have XA := Lib.hid (XA.out.alloc (.cells #[.int .i64 U, .int .i64 V, .slice C k e] 24))
      have XB := Lib.hid (XB.out.alloc (.cells #[.int .i64 U, .int .i64 V, .slice C k e] 24))
      have XC := Box.new ((w.alloc (.cells #[.int .i64 W, .int .i64 H, .slice A n c] 24)).alloc (.cells #[.int .i64 X, .int .i64 Y, .slice B m d] 24)) U V (.slice C k e)
      rw [show (((w.alloc (.cells #[.int .i64 W, .int .i64 H, .slice A n c] 24)).alloc (.cells #[.int .i64 X, .int .i64 Y, .slice B m d] 24))).heap.size = w.heap.size + 2 by simp] at XC
      have XC := Lib.hid XC
      have LB0 := Lib.hid (LB0.out.alloc LB0.out.size (.cells #[.int .i64 U, .int .i64 V, .slice C k e] 24))
      go_enter Try.func97, Try.ntmps97
      go_upto_region 1 with (fail)
      generalize ((w.alloc (.cells #[.int .i64 W, .int .i64 H, .slice A n c] 24)).alloc (.cells #[.int .i64 X, .int .i64 Y, .slice B m d] 24)).alloc (.cells #[.int .i64 U, .int .i64 V, .slice C k e] 24) = w0 at *
      obtain ⟨q0, q1, q2, q3, q4, q5, q6⟩ := XA.out.all
      obtain ⟨q7, q8, q9, q10, q11, q12, q13⟩ := XB.out.all
      go_wp2_with fail
      clear q0 q1 q2 q3 q4 q5 q6 q7 q8 q9 q10 q11 q12 q13
      with_reducible refine Calls.mono (HB.out _) ?_
      rintro e w1 ⟨rfl, hb⟩
      have LB1 := Lib.hid (LB0.out.trans (hb.mono LB0.out.size))
      have XA := Lib.hid (XA.out.below hb XA.out.lt)
      have XB := Lib.hid (XB.out.below hb XB.out.lt)
      have XC := Lib.hid (XC.out.below hb XC.out.lt)
      clear hb LB0 
      obtain ⟨q0, q1, q2, q3, q4, q5, q6⟩ := XC.out.all
      go_wp2_with fail
      clear q0 q1 q2 q3 q4 q5 q6
      with_reducible refine Calls.mono (HC.out _) ?_
      rintro e w2 ⟨rfl, hb⟩
      have LB2 := Lib.hid (LB1.out.trans (hb.mono LB1.out.size))
      have XA := Lib.hid (XA.out.below hb XA.out.lt)
      have XB := Lib.hid (XB.out.below hb XB.out.lt)
      have XC := Lib.hid (XC.out.below hb XC.out.lt)
      clear hb LB1 
      obtain ⟨q0, q1, q2, q3, q4, q5, q6⟩ := XC.out.all
      go_wp2_with fail
      clear q0 q1 q2 q3 q4 q5 q6
      with_reducible refine Calls.mono (HC.out _) ?_
      rintro e w3 ⟨rfl, hb⟩
      have LB3 := Lib.hid (LB2.out.trans (hb.mono LB2.out.size))
      have XA := Lib.hid (XA.out.below hb XA.out.lt)
      have XB := Lib.hid (XB.out.below hb XB.out.lt)
      have XC := Lib.hid (XC.out.below hb XC.out.lt)
      clear hb LB2 
      go_wp2
      go_ret
      exact ⟨rfl, LB3.out⟩
  · have HZ := Lib.hid (show fitZ (chk W H n) (chk X Y m) (chk U V k) W H X Y U V = if chk W H n = 0 then chk X Y m else chk W H n by
      unfold fitZ
      by_cases h : chk W H n = 0
      · rw [if_pos h] at h1 ⊢; rw [if_neg (by simpa using h), if_pos h1]
      · rw [if_neg h, if_pos h])
    rw [HZ.out]
    obtain ⟨z, hz⟩ : ∃ z, (if chk W H n = 0 then chk X Y m else chk W H n) = z := ⟨_, rfl⟩
    rw [hz] at h1 HB ⊢
    have n1 : (z == 0) = false := by rw [beq_eq_false_iff_ne]; exact h1
    have n2 : (z != 0) = true := by rw [bne, n1]; rfl
    clear h1 HZ hz HC
    have LB0 := Lib.hid (Below.refl w.heap.size w)
    have XA := Lib.hid (Box.new w W H (.slice A n c))
    have LB0 := Lib.hid (LB0.out.alloc LB0.out.size (.cells #[.int .i64 W, .int .i64 H, .slice A n c] 24))
    have XA := Lib.hid (XA.out.alloc (.cells #[.int .i64 X, .int .i64 Y, .slice B m d] 24))
    have XB := Box.new (w.alloc (.cells #[.int .i64 W, .int .i64 H, .slice A n c] 24)) X Y (.slice B m d)
    rw [show ((w.alloc (.cells #[.int .i64 W, .int .i64 H, .slice A n c] 24))).heap.size = w.heap.size + 1 by simp] at XB
    have XB := Lib.hid XB
    have LB0 := Lib.hid (LB0.out.alloc LB0.out.size (.cells #[.int .i64 X, .int .i64 Y, .slice B m d] 24))
    have XA := Lib.hid (XA.out.alloc (.cells #[.int .i64 U, .int .i64 V, .slice C k e] 24))
    have XB := Lib.hid (XB.out.alloc (.cells #[.int .i64 U, .int .i64 V, .slice C k e] 24))
    have XC := Box.new ((w.alloc (.cells #[.int .i64 W, .int .i64 H, .slice A n c] 24)).alloc (.cells #[.int .i64 X, .int .i64 Y, .slice B m d] 24)) U V (.slice C k e)
    rw [show (((w.alloc (.cells #[.int .i64 W, .int .i64 H, .slice A n c] 24)).alloc (.cells #[.int .i64 X, .int .i64 Y, .slice B m d] 24))).heap.size = w.heap.size + 2 by simp] at XC
    have XC := Lib.hid XC
    have LB0 := Lib.hid (LB0.out.alloc LB0.out.size (.cells #[.int .i64 U, .int .i64 V, .slice C k e] 24))
    go_enter Try.func97, Try.ntmps97
    go_upto_region 1 with (fail)
    generalize ((w.alloc (.cells #[.int .i64 W, .int .i64 H, .slice A n c] 24)).alloc (.cells #[.int .i64 X, .int .i64 Y, .slice B m d] 24)).alloc (.cells #[.int .i64 U, .int .i64 V, .slice C k e] 24) = w0 at *
    obtain ⟨q0, q1, q2, q3, q4, q5, q6⟩ := XA.out.all
    obtain ⟨q7, q8, q9, q10, q11, q12, q13⟩ := XB.out.all
    go_wp2_with fail
    clear q0 q1 q2 q3 q4 q5 q6 q7 q8 q9 q10 q11 q12 q13
    with_reducible refine Calls.mono (HB.out _) ?_
    rintro e w1 ⟨rfl, hb⟩
    have LB1 := Lib.hid (LB0.out.trans (hb.mono LB0.out.size))
    have XA := Lib.hid (XA.out.below hb XA.out.lt)
    have XB := Lib.hid (XB.out.below hb XB.out.lt)
    have XC := Lib.hid (XC.out.below hb XC.out.lt)
    clear hb LB0 
    obtain ⟨q0, q1, q2, q3, q4, q5, q6⟩ := XA.out.all
    obtain ⟨q7, q8, q9, q10, q11, q12, q13⟩ := XB.out.all
    go_wp2_with fail
    clear q0 q1 q2 q3 q4 q5 q6 q7 q8 q9 q10 q11 q12 q13
    with_reducible refine Calls.mono (HB.out _) ?_
    rintro e w2 ⟨rfl, hb⟩
    have LB2 := Lib.hid (LB1.out.trans (hb.mono LB1.out.size))
    have XA := Lib.hid (XA.out.below hb XA.out.lt)
    have XB := Lib.hid (XB.out.below hb XB.out.lt)
    have XC := Lib.hid (XC.out.below hb XC.out.lt)
    clear hb LB1 
    go_wp2
    go_ret
    exact ⟨rfl, LB2.out⟩
/-- What three says. -/
def thr (n : Nat) (z W H s : Int) : Bool := decide (n ≤ 1100) && ((z == 0) && (decide (W ≤ s) && decide (H ≤ s)))
set_option maxHeartbeats 1600000 in
theorem thr_any (W H X Y U V : Int) (A B C : Option Addr) (n c m d k e : Nat) (s : Int) (w : World) : Calls Try.prog 58 #[.agg #[.int .i64 W, .int .i64 H, .slice A n c], .agg #[.int .i64 X, .int .i64 Y, .slice B m d], .agg #[.int .i64 U, .int .i64 V, .slice C k e], .int .i64 s] w fun e w' => e = .returned (.bool (thr n (fitZ (chk W H n) (chk X Y m) (chk U V k) W H X Y U V) W H s)) ∧ Below w.heap.size w w' := by
  have HB := Lib.hid (fun u => great12_any W H A n c u)
  have HC := Lib.hid (fun u => three_any W H X Y U V A B C n c m d k e u)
  obtain ⟨z, hz⟩ : ∃ z, (fitZ (chk W H n) (chk X Y m) (chk U V k) W H X Y U V) = z := ⟨_, rfl⟩
  rw [hz] at HC ⊢
  clear hz
  unfold thr
  by_cases h1 : n ≤ 1100
  · rw [decide_eq_false (show ¬ 1100 < n by omega)] at HB
    rw [decide_eq_true h1, Bool.true_and]
    clear h1
    obtain ⟨zb, hzb⟩ : ∃ q, (z == 0) = q := ⟨_, rfl⟩
    rw [hzb]
    cases zb
    · rw [Bool.false_and]
      have LB0 := Lib.hid (Below.refl w.heap.size w)
      have XA := Lib.hid (Box.new w W H (.slice A n c))
      have LB0 := Lib.hid (LB0.out.alloc LB0.out.size (.cells #[.int .i64 W, .int .i64 H, .slice A n c] 24))
      have XA := Lib.hid (XA.out.alloc (.cells #[.int .i64 X, .int .i64 Y, .slice B m d] 24))
      have XB := Box.new (w.alloc (.cells #[.int .i64 W, .int .i64 H, .slice A n c] 24)) X Y (.slice B m d)
      rw [show ((w.alloc (.cells #[.int .i64 W, .int .i64 H, .slice A n c] 24))).heap.size = w.heap.size + 1 by simp] at XB
      have XB := Lib.hid XB
      have LB0 := Lib.hid (LB0.out.alloc LB0.out.size (.cells #[.int .i64 X, .int .i64 Y, .slice B m d] 24))
      have XA := Lib.hid (XA.out.alloc (.cells #[.int .i64 U, .int .i64 V, .slice C k e] 24))
      have XB := Lib.hid (XB.out.alloc (.cells #[.int .i64 U, .int .i64 V, .slice C k e] 24))
      have XC := Box.new ((w.alloc (.cells #[.int .i64 W, .int .i64 H, .slice A n c] 24)).alloc (.cells #[.int .i64 X, .int .i64 Y, .slice B m d] 24)) U V (.slice C k e)
      rw [show (((w.alloc (.cells #[.int .i64 W, .int .i64 H, .slice A n c] 24)).alloc (.cells #[.int .i64 X, .int .i64 Y, .slice B m d] 24))).heap.size = w.heap.size + 2 by simp] at XC
      have XC := Lib.hid XC
      have LB0 := Lib.hid (LB0.out.alloc LB0.out.size (.cells #[.int .i64 U, .int .i64 V, .slice C k e] 24))
      go_enter Try.func58, Try.ntmps58
      go_upto_region 1 with (fail)
      generalize ((w.alloc (.cells #[.int .i64 W, .int .i64 H, .slice A n c] 24)).alloc (.cells #[.int .i64 X, .int .i64 Y, .slice B m d] 24)).alloc (.cells #[.int .i64 U, .int .i64 V, .slice C k e] 24) = w0 at *
      obtain ⟨q0, q1, q2, q3, q4, q5, q6⟩ := XA.out.all
      go_wp2_with fail
      clear q0 q1 q2 q3 q4 q5 q6
      with_reducible refine Calls.mono (HB.out _) ?_
      rintro e w1 ⟨rfl, hb⟩
      have LB1 := Lib.hid (LB0.out.trans (hb.mono LB0.out.size))
      have XA := Lib.hid (XA.out.below hb XA.out.lt)
      have XB := Lib.hid (XB.out.below hb XB.out.lt)
      have XC := Lib.hid (XC.out.below hb XC.out.lt)
      clear hb LB0 
      obtain ⟨q0, q1, q2, q3, q4, q5, q6⟩ := XA.out.all
      obtain ⟨q7, q8, q9, q10, q11, q12, q13⟩ := XB.out.all
      obtain ⟨q14, q15, q16, q17, q18, q19, q20⟩ := XC.out.all
      go_wp2_with fail
      clear q0 q1 q2 q3 q4 q5 q6 q7 q8 q9 q10 q11 q12 q13 q14 q15 q16 q17 q18 q19 q20
      with_reducible refine Calls.mono (HC.out _) ?_
      rintro e w2 ⟨rfl, hb⟩
      have LB2 := Lib.hid (LB1.out.trans (hb.mono LB1.out.size))
      have XA := Lib.hid (XA.out.below hb XA.out.lt)
      have XB := Lib.hid (XB.out.below hb XB.out.lt)
      have XC := Lib.hid (XC.out.below hb XC.out.lt)
      clear hb LB1 
      go_wp2
      go_ret
      exact ⟨rfl, LB2.out⟩
    · rw [Bool.true_and]
      by_cases h2 : W ≤ s
      · rw [decide_eq_true h2, Bool.true_and]
        have LB0 := Lib.hid (Below.refl w.heap.size w)
        have XA := Lib.hid (Box.new w W H (.slice A n c))
        have LB0 := Lib.hid (LB0.out.alloc LB0.out.size (.cells #[.int .i64 W, .int .i64 H, .slice A n c] 24))
        have XA := Lib.hid (XA.out.alloc (.cells #[.int .i64 X, .int .i64 Y, .slice B m d] 24))
        have XB := Box.new (w.alloc (.cells #[.int .i64 W, .int .i64 H, .slice A n c] 24)) X Y (.slice B m d)
        rw [show ((w.alloc (.cells #[.int .i64 W, .int .i64 H, .slice A n c] 24))).heap.size = w.heap.size + 1 by simp] at XB
        have XB := Lib.hid XB
        have LB0 := Lib.hid (LB0.out.alloc LB0.out.size (.cells #[.int .i64 X, .int .i64 Y, .slice B m d] 24))
        have XA := Lib.hid (XA.out.alloc (.cells #[.int .i64 U, .int .i64 V, .slice C k e] 24))
        have XB := Lib.hid (XB.out.alloc (.cells #[.int .i64 U, .int .i64 V, .slice C k e] 24))
        have XC := Box.new ((w.alloc (.cells #[.int .i64 W, .int .i64 H, .slice A n c] 24)).alloc (.cells #[.int .i64 X, .int .i64 Y, .slice B m d] 24)) U V (.slice C k e)
        rw [show (((w.alloc (.cells #[.int .i64 W, .int .i64 H, .slice A n c] 24)).alloc (.cells #[.int .i64 X, .int .i64 Y, .slice B m d] 24))).heap.size = w.heap.size + 2 by simp] at XC
        have XC := Lib.hid XC
        have LB0 := Lib.hid (LB0.out.alloc LB0.out.size (.cells #[.int .i64 U, .int .i64 V, .slice C k e] 24))
        go_enter Try.func58, Try.ntmps58
        go_upto_region 1 with (fail)
        generalize ((w.alloc (.cells #[.int .i64 W, .int .i64 H, .slice A n c] 24)).alloc (.cells #[.int .i64 X, .int .i64 Y, .slice B m d] 24)).alloc (.cells #[.int .i64 U, .int .i64 V, .slice C k e] 24) = w0 at *
        obtain ⟨q0, q1, q2, q3, q4, q5, q6⟩ := XA.out.all
        go_wp2_with fail
        clear q0 q1 q2 q3 q4 q5 q6
        with_reducible refine Calls.mono (HB.out _) ?_
        rintro e w1 ⟨rfl, hb⟩
        have LB1 := Lib.hid (LB0.out.trans (hb.mono LB0.out.size))
        have XA := Lib.hid (XA.out.below hb XA.out.lt)
        have XB := Lib.hid (XB.out.below hb XB.out.lt)
        have XC := Lib.hid (XC.out.below hb XC.out.lt)
        clear hb LB0 
        obtain ⟨q0, q1, q2, q3, q4, q5, q6⟩ := XA.out.all
        obtain ⟨q7, q8, q9, q10, q11, q12, q13⟩ := XB.out.all
        obtain ⟨q14, q15, q16, q17, q18, q19, q20⟩ := XC.out.all
        go_wp2_with fail
        clear q0 q1 q2 q3 q4 q5 q6 q7 q8 q9 q10 q11 q12 q13 q14 q15 q16 q17 q18 q19 q20
        with_reducible refine Calls.mono (HC.out _) ?_
        rintro e w2 ⟨rfl, hb⟩
        have LB2 := Lib.hid (LB1.out.trans (hb.mono LB1.out.size))
        have XA := Lib.hid (XA.out.below hb XA.out.lt)
        have XB := Lib.hid (XB.out.below hb XB.out.lt)
        have XC := Lib.hid (XC.out.below hb XC.out.lt)
        clear hb LB1 
        obtain ⟨q0, q1, q2, q3, q4, q5, q6⟩ := XA.out.all
        go_wp2
        go_ret
        exact ⟨rfl, LB2.out⟩
      · rw [decide_eq_false h2, Bool.false_and]
        have LB0 := Lib.hid (Below.refl w.heap.size w)
        have XA := Lib.hid (Box.new w W H (.slice A n c))
        have LB0 := Lib.hid (LB0.out.alloc LB0.out.size (.cells #[.int .i64 W, .int .i64 H, .slice A n c] 24))
        have XA := Lib.hid (XA.out.alloc (.cells #[.int .i64 X, .int .i64 Y, .slice B m d] 24))
        have XB := Box.new (w.alloc (.cells #[.int .i64 W, .int .i64 H, .slice A n c] 24)) X Y (.slice B m d)
        rw [show ((w.alloc (.cells #[.int .i64 W, .int .i64 H, .slice A n c] 24))).heap.size = w.heap.size + 1 by simp] at XB
        have XB := Lib.hid XB
        have LB0 := Lib.hid (LB0.out.alloc LB0.out.size (.cells #[.int .i64 X, .int .i64 Y, .slice B m d] 24))
        have XA := Lib.hid (XA.out.alloc (.cells #[.int .i64 U, .int .i64 V, .slice C k e] 24))
        have XB := Lib.hid (XB.out.alloc (.cells #[.int .i64 U, .int .i64 V, .slice C k e] 24))
        have XC := Box.new ((w.alloc (.cells #[.int .i64 W, .int .i64 H, .slice A n c] 24)).alloc (.cells #[.int .i64 X, .int .i64 Y, .slice B m d] 24)) U V (.slice C k e)
        rw [show (((w.alloc (.cells #[.int .i64 W, .int .i64 H, .slice A n c] 24)).alloc (.cells #[.int .i64 X, .int .i64 Y, .slice B m d] 24))).heap.size = w.heap.size + 2 by simp] at XC
        have XC := Lib.hid XC
        have LB0 := Lib.hid (LB0.out.alloc LB0.out.size (.cells #[.int .i64 U, .int .i64 V, .slice C k e] 24))
        go_enter Try.func58, Try.ntmps58
        go_upto_region 1 with (fail)
        generalize ((w.alloc (.cells #[.int .i64 W, .int .i64 H, .slice A n c] 24)).alloc (.cells #[.int .i64 X, .int .i64 Y, .slice B m d] 24)).alloc (.cells #[.int .i64 U, .int .i64 V, .slice C k e] 24) = w0 at *
        obtain ⟨q0, q1, q2, q3, q4, q5, q6⟩ := XA.out.all
        go_wp2_with fail
        clear q0 q1 q2 q3 q4 q5 q6
        with_reducible refine Calls.mono (HB.out _) ?_
        rintro e w1 ⟨rfl, hb⟩
        have LB1 := Lib.hid (LB0.out.trans (hb.mono LB0.out.size))
        have XA := Lib.hid (XA.out.below hb XA.out.lt)
        have XB := Lib.hid (XB.out.below hb XB.out.lt)
        have XC := Lib.hid (XC.out.below hb XC.out.lt)
        clear hb LB0 
        obtain ⟨q0, q1, q2, q3, q4, q5, q6⟩ := XA.out.all
        obtain ⟨q7, q8, q9, q10, q11, q12, q13⟩ := XB.out.all
        obtain ⟨q14, q15, q16, q17, q18, q19, q20⟩ := XC.out.all
        go_wp2_with fail
        clear q0 q1 q2 q3 q4 q5 q6 q7 q8 q9 q10 q11 q12 q13 q14 q15 q16 q17 q18 q19 q20
        with_reducible refine Calls.mono (HC.out _) ?_
        rintro e w2 ⟨rfl, hb⟩
        have LB2 := Lib.hid (LB1.out.trans (hb.mono LB1.out.size))
        have XA := Lib.hid (XA.out.below hb XA.out.lt)
        have XB := Lib.hid (XB.out.below hb XB.out.lt)
        have XC := Lib.hid (XC.out.below hb XC.out.lt)
        clear hb LB1 
        obtain ⟨q0, q1, q2, q3, q4, q5, q6⟩ := XA.out.all
        go_wp2
        go_ret
        exact ⟨rfl, LB2.out⟩
  · rw [decide_eq_true (show 1100 < n by omega)] at HB
    rw [decide_eq_false h1, Bool.false_and]
    clear h1
    have LB0 := Lib.hid (Below.refl w.heap.size w)
    have XA := Lib.hid (Box.new w W H (.slice A n c))
    have LB0 := Lib.hid (LB0.out.alloc LB0.out.size (.cells #[.int .i64 W, .int .i64 H, .slice A n c] 24))
    have XA := Lib.hid (XA.out.alloc (.cells #[.int .i64 X, .int .i64 Y, .slice B m d] 24))
    have XB := Box.new (w.alloc (.cells #[.int .i64 W, .int .i64 H, .slice A n c] 24)) X Y (.slice B m d)
    rw [show ((w.alloc (.cells #[.int .i64 W, .int .i64 H, .slice A n c] 24))).heap.size = w.heap.size + 1 by simp] at XB
    have XB := Lib.hid XB
    have LB0 := Lib.hid (LB0.out.alloc LB0.out.size (.cells #[.int .i64 X, .int .i64 Y, .slice B m d] 24))
    have XA := Lib.hid (XA.out.alloc (.cells #[.int .i64 U, .int .i64 V, .slice C k e] 24))
    have XB := Lib.hid (XB.out.alloc (.cells #[.int .i64 U, .int .i64 V, .slice C k e] 24))
    have XC := Box.new ((w.alloc (.cells #[.int .i64 W, .int .i64 H, .slice A n c] 24)).alloc (.cells #[.int .i64 X, .int .i64 Y, .slice B m d] 24)) U V (.slice C k e)
    rw [show (((w.alloc (.cells #[.int .i64 W, .int .i64 H, .slice A n c] 24)).alloc (.cells #[.int .i64 X, .int .i64 Y, .slice B m d] 24))).heap.size = w.heap.size + 2 by simp] at XC
    have XC := Lib.hid XC
    have LB0 := Lib.hid (LB0.out.alloc LB0.out.size (.cells #[.int .i64 U, .int .i64 V, .slice C k e] 24))
    go_enter Try.func58, Try.ntmps58
    go_upto_region 1 with (fail)
    generalize ((w.alloc (.cells #[.int .i64 W, .int .i64 H, .slice A n c] 24)).alloc (.cells #[.int .i64 X, .int .i64 Y, .slice B m d] 24)).alloc (.cells #[.int .i64 U, .int .i64 V, .slice C k e] 24) = w0 at *
    obtain ⟨q0, q1, q2, q3, q4, q5, q6⟩ := XA.out.all
    go_wp2_with fail
    clear q0 q1 q2 q3 q4 q5 q6
    with_reducible refine Calls.mono (HB.out _) ?_
    rintro e w1 ⟨rfl, hb⟩
    have LB1 := Lib.hid (LB0.out.trans (hb.mono LB0.out.size))
    have XA := Lib.hid (XA.out.below hb XA.out.lt)
    have XB := Lib.hid (XB.out.below hb XB.out.lt)
    have XC := Lib.hid (XC.out.below hb XC.out.lt)
    clear hb LB0 
    go_wp2
    go_ret
    exact ⟨rfl, LB1.out⟩
/-- What it says if it says yes. -/
theorem thr_yes {W H X Y U V : Int} {n m k : Nat} {s : Int} (h : thr n (fitZ (chk W H n) (chk X Y m) (chk U V k) W H X Y U V) W H s = true) : n ≤ 1100 ∧ chk W H n = 0 ∧ chk X Y m = 0 ∧ chk U V k = 0 ∧ X = W ∧ Y = H ∧ U = W ∧ V = H ∧ W ≤ s ∧ H ≤ s := by
  unfold thr at h
  rw [Bool.and_eq_true, Bool.and_eq_true, Bool.and_eq_true, decide_eq_true_iff, decide_eq_true_iff, decide_eq_true_iff, beq_iff_eq] at h
  obtain ⟨h1, h2, h3, h4⟩ := h
  unfold fitZ at h2
  by_cases a1 : chk W H n = 0
  · by_cases a2 : chk X Y m = 0
    · by_cases a3 : chk U V k = 0
      · rw [if_neg (by simpa using a1), if_neg (by simpa using a2), if_neg (by simpa using a3)] at h2
        by_cases a4 : (X = W ∧ Y = H) ∧ (U = W ∧ V = H)
        · exact ⟨h1, a1, a2, a3, a4.1.1, a4.1.2, a4.2.1, a4.2.2, h3, h4⟩
        · rw [if_neg a4] at h2; cases h2
      · rw [if_neg (by simpa using a1), if_neg (by simpa using a2), if_pos a3] at h2; exact absurd h2 a3
    · rw [if_neg (by simpa using a1), if_pos a2] at h2; exact absurd h2 a2
  · rw [if_pos a1] at h2; exact absurd h2 a1
set_option maxHeartbeats 1600000 in
theorem even_any (n s : Nat) (hn : n ≤ 64) (hs : s < 2) (w : World) : Calls Try.prog 63 #[.int .i64 (n : Nat), .int .i64 (s : Nat)] w fun e w' => ∃ D d, e = .returned (.slice D n d) ∧ L2.Own w' w.heap.size (.slice D n d) n (evf s) ∧ Below w.heap.size w w' := by
  have HEV := Lib.hid (fun i => show evf s i = ((2 * i + s : Nat) : Int) from rfl)
  go_enter Try.func63, Try.ntmps63
  go_wp2
  go_loopw [5, 6] (fun q i wr => ∃ k : Nat, k ≤ n ∧ i = .int .i64 k ∧ Hid (L2.Own wr w.heap.size q k (evf s)) ∧ Hid (Below w.heap.size w wr)) (fun _ i _ => n - (intOf i).toNat)
  case atStart => exact ⟨0, Nat.zero_le _, rfl, Lib.hid (L2.Own.nil _ _ _), Lib.hid (Below.refl _ _)⟩
  case round =>
    obtain ⟨k, hk, rfl, HQ, HB⟩ := hrel
    by_cases hlt : k < n
    · have y1 : (k : Int) < (n : Int) := by omega
      have w1e : IntKind.i64.wrap (2 * (k : Int)) = ((2 * k : Nat) : Int) := by rw [IntWalk.i64_in _ (by omega)]; omega
      have w2e : IntKind.i64.wrap (((2 * k : Nat) : Int) + (s : Int)) = ((2 * k + s : Nat) : Int) := by rw [IntWalk.i64_in _ (by omega)]; omega
      have HEk := Lib.hid (HEV.out k)
      obtain ⟨x, hx⟩ : ∃ z, 2 * k + s = z := ⟨_, rfl⟩
      obtain ⟨y, hy⟩ : ∃ z, 2 * k = z := ⟨_, rfl⟩
      rw [hx] at w2e HEk
      rw [hy] at w1e w2e
      clear hx hy
      have hsz := HB.out.size
      go_wp2_with (at_builtin; refine L2.app1 _ rfl _ _ (by rfl) w.heap.size (by rfl) HQ.out (x : Int) (by rfl) HEk.out (by omega) hsz ?_; intro v' w5 hown5 hb5; have HO5 := Lib.hid hown5; have HB5 := Lib.hid hb5; clear hown5 hb5)
      go_roundw
      case rel => exact ⟨k + 1, by omega, by go_num, HO5, Lib.hid (HB.out.trans HB5.out)⟩
      case measure => simp [intOf]; omega
    · have e : k = n := by omega
      have y1 : ¬ (k : Int) < (n : Int) := by omega
      rw [e] at HQ
      obtain ⟨D, d, rfl⟩ := orow_shape HQ.out
      clear e
      go_wp2
      go_ret
      exact ⟨D, d, rfl, HQ.out, HB.out⟩
end Go.Proofs.Ytgmcbdnfgdmmaaa
