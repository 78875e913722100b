/- The statement SatinNone: the walk. -/
import Derived.Test.YtmakjdfkldacaaaAlv
import Derived.Test.YtmakjdfkldacaaaIsr
import Derived.Test.YtmakjdfkldacaaaOpl
import Derived.Test.YtmakjdfkldacaaaCet
import Derived.Test.YtmakjdfkldacaaaRa
namespace Go.Proofs.Ytmakjdfkldacaaa
open Go.RowKit
set_option maxRecDepth 100000
set_option linter.unusedVariables false
set_option linter.unusedSimpArgs false

theorem at6_line (W H : Nat) (A : Option Addr) (c : Nat) (f : Nat → Bool) (x : Nat) (w : World) (hr : Holds w w.heap.size A (W * H) f) (hW0 : 1 ≤ W) (hW : W ≤ 64) (hH0 : 1 ≤ H) (hH : H ≤ 64) (hx : x ≤ 1000) :
    Calls Try.prog 42 #[.agg #[.int .i64 (W : Nat), .int .i64 (H : Nat), .slice A (W * H) c], .int .i64 (x : Nat), .int .i64 0] w fun e w' => e = .returned (.bool (pc W H f x 0)) ∧ Below w.heap.size w w' := at6_nat W H A c f x 0 w hr hW0 hW hH0 hH hx (by omega)
theorem none9_great (W H : Int) (D : Option Addr) (n c : Nat) (w0 : World) (hn : 400 < n) : Calls Try.prog 10 #[.agg #[.int .i64 W, .int .i64 H, .slice D n c]] w0 fun e w' => e = .returned (.bool true) ∧ Below w0.heap.size w0 w' := by
  have HG := Lib.hid (fun u => great9_any W H D n c u true (decide_eq_true hn))
  have X0 := Lib.hid (Box.new w0 W H (.slice D n c))
  have LB0 := Lib.hid (show Below w0.heap.size w0 (w0.alloc (.cells #[.int .i64 W, .int .i64 H, .slice D n c] 24)) from (Below.refl _ _).alloc (Nat.le_refl _) _)
  go_enter Try.func10, Try.ntmps10
  obtain ⟨q0, q1, q2, q3, q4, q5, q6⟩ := X0.out.all
  go_wp2_with fail
  clear q0 q1 q2 q3 q4 q5 q6
  with_reducible refine Calls.mono (HG.out _) ?_
  rintro e w1 ⟨rfl, hb⟩
  have X1 := Lib.hid (X0.out.below hb X0.out.lt)
  have LB1 := Lib.hid (LB0.out.trans (hb.mono LB0.out.size))
  clear hb X0 LB0
  go_wp2_with fail
  with_reducible refine Calls.mono (alive9_any _) ?_
  rintro e w2 ⟨rfl, hb⟩
  have X2 := Lib.hid (X1.out.below hb X1.out.lt)
  have LB2 := Lib.hid (LB1.out.trans (hb.mono LB1.out.size))
  clear hb X1 LB1
  go_wp2
  go_ret
  exact ⟨rfl, LB2.out⟩
theorem none9_bad (W H : Int) (D : Option Addr) (n c : Nat) (w0 : World) (hn : n ≤ 400) (hx : ¬ chk W H n = 0) : Calls Try.prog 10 #[.agg #[.int .i64 W, .int .i64 H, .slice D n c]] w0 fun e w' => e = .returned (.bool true) ∧ Below w0.heap.size w0 w' := by
  have HG := Lib.hid (fun u => great9_any W H D n c u false (decide_eq_false (by omega)))
  have hk := fun u => rchk_any W H D n c u (by omega)
  have x1 : (chk W H n != 0) = true := by simpa using hx
  generalize chk W H n = z at *
  have HK := Lib.hid hk
  clear hk hx
  have X0 := Lib.hid (Box.new w0 W H (.slice D n c))
  have LB0 := Lib.hid (show Below w0.heap.size w0 (w0.alloc (.cells #[.int .i64 W, .int .i64 H, .slice D n c] 24)) from (Below.refl _ _).alloc (Nat.le_refl _) _)
  go_enter Try.func10, Try.ntmps10
  obtain ⟨q0, q1, q2, q3, q4, q5, q6⟩ := X0.out.all
  go_wp2_with fail
  clear q0 q1 q2 q3 q4 q5 q6
  with_reducible refine Calls.mono (HG.out _) ?_
  rintro e w1 ⟨rfl, hb⟩
  have X1 := Lib.hid (X0.out.below hb X0.out.lt)
  have LB1 := Lib.hid (LB0.out.trans (hb.mono LB0.out.size))
  clear hb X0 LB0
  obtain ⟨q0, q1, q2, q3, q4, q5, q6⟩ := X1.out.all
  go_wp2_with fail
  clear q0 q1 q2 q3 q4 q5 q6
  with_reducible refine Calls.mono (HK.out _) ?_
  rintro e w2 ⟨rfl, hb⟩
  have X2 := Lib.hid (X1.out.below hb X1.out.lt)
  have LB2 := Lib.hid (LB1.out.trans (hb.mono LB1.out.size))
  clear hb X1 LB1
  go_wp2_with fail
  with_reducible refine Calls.mono (alive9_any _) ?_
  rintro e w3 ⟨rfl, hb⟩
  have X3 := Lib.hid (X2.out.below hb X2.out.lt)
  have LB3 := Lib.hid (LB2.out.trans (hb.mono LB2.out.size))
  clear hb X2 LB2
  go_wp2
  go_ret
  exact ⟨rfl, LB3.out⟩
set_option maxHeartbeats 3200000 in
theorem none9_c (W H : Nat) (D : Option Addr) (c : Nat) (f : Nat → Bool) (A B C : Nat) (hL : IsL W H f A B C) (w0 : World) (hr : Holds w0 w0.heap.size D (W * H) f) (hcp : W * H ≤ c) (hW : W ≤ 64) (hH0 : 1 ≤ H) (hH : H ≤ 64) (hn : W * H ≤ 400) (hc : 1 < C) : Calls Try.prog 10 #[.agg #[.int .i64 (W : Nat), .int .i64 (H : Nat), .slice D (W * H) c]] w0 fun e w' => e = .returned (.bool true) ∧ Below w0.heap.size w0 w' := by
  have hW0 : 1 ≤ W := Nat.le_trans hL.a0 hL.aw
  have aw := hL.aw
  have a0 := hL.a0
  have HG := Lib.hid (fun u => great9_any (W : Nat) (H : Nat) D (W * H) c u false (decide_eq_false (by omega)))
  have HK := Lib.hid (fun u => rchk_valid (W := W) (H := H) D c u hW0 hW hH0 hH)
  have HO := Lib.hid (fun u (h : Below w0.heap.size w0 u) => pof_at hL D c u ((hr.below h).more h.size) hcp hW hH0 hH)
  have HI := Lib.hid (fun u (h : Below w0.heap.size w0 u) => (show Calls Try.prog 15 #[.agg #[.int .i64 (W : Nat), .int .i64 (H : Nat), .slice D (W * H) c]] u fun e w' => e = .returned (.tuple #[.int .i64 0, .int .i64 0, .bool false, .int .i64 6]) ∧ Below u.heap.size u w' from by
    have k := pis9_ok W H D c f A B C hL u ((hr.below h).more h.size) hcp hW hH0 hH
    rw [isr_no (fun q => by omega)] at k
    exact k))
  have HM := Lib.hid (fun u (h : Below w0.heap.size w0 u) => pmo_no (W : Nat) (H : Nat) D (W * H) c (A : Nat) (B : Nat) (C : Nat) 0 u rfl (by omega) (fun v hv => pof_at hL D c v ((((hr.below h).more h.size).below hv).more hv.size) hcp hW hH0 hH))
  have x1 : ((C : Int) == 1) = false := by simp; omega
  have HA := Lib.hid (fun u (h : Below w0.heap.size w0 u) x (hx : x < A) => at6_line W H D c f x u ((hr.below h).more h.size) hW0 hW hH0 hH (by omega))
  have HU := Lib.hid (fun x => show cnt (fun x => pc W H f x 0) (x + 1) = cnt (fun x => pc W H f x 0) x + if pc W H f x 0 = true then 1 else 0 from rfl)
  have HUA := Lib.hid (show cnt (fun x => pc W H f x 0) A = ups W H f A from rfl)
  have HL := Lib.hid (fun x => cnt_le (fun x => pc W H f x 0) x)
  have HV := Lib.hid (fun (u : World) => (show True from trivial))
  have hk64 : ups W H f A ≤ A := cnt_le _ _
  have X0 := Lib.hid (Box.new w0 (W : Nat) (H : Nat) (.slice D (W * H) c))
  have LB0 := Lib.hid (show Below w0.heap.size w0 (w0.alloc (.cells #[.int .i64 (W : Nat), .int .i64 (H : Nat), .slice D (W * H) c] 24)) from (Below.refl _ _).alloc (Nat.le_refl _) _)
  have w_ : IntKind.i64.wrap ((A : Int) - 1) = (A : Int) - 1 := IntWalk.i64_in _ (by omega)
  have y_ : ((A : Int) == (A : Int)) = true := by simp
  have y2_ : ((B : Int) == (B : Int)) = true := by simp
  clear hr hL
  generalize ups W H f A = k at *
  go_enter Try.func10, Try.ntmps10
  obtain ⟨q0, q1, q2, q3, q4, q5, q6⟩ := X0.out.all
  go_wp2_with fail
  clear q0 q1 q2 q3 q4 q5 q6
  with_reducible refine Calls.mono (HG.out _) ?_
  rintro e w1 ⟨rfl, hb⟩
  have X1 := Lib.hid (X0.out.below hb X0.out.lt)
  have LB1 := Lib.hid (LB0.out.trans (hb.mono LB0.out.size))
  clear hb X0 LB0
  obtain ⟨q0, q1, q2, q3, q4, q5, q6⟩ := X1.out.all
  go_wp2_with fail
  clear q0 q1 q2 q3 q4 q5 q6
  with_reducible refine Calls.mono (HK.out _) ?_
  rintro e w2 ⟨rfl, hb⟩
  have X2 := Lib.hid (X1.out.below hb X1.out.lt)
  have LB2 := Lib.hid (LB1.out.trans (hb.mono LB1.out.size))
  clear hb X1 LB1
  obtain ⟨q0, q1, q2, q3, q4, q5, q6⟩ := X2.out.all
  go_wp2_with fail
  clear q0 q1 q2 q3 q4 q5 q6
  with_reducible refine Calls.mono (HO.out _ LB2.out) ?_
  rintro e w3 ⟨rfl, hb⟩
  have hba := hb.trans ((((Below.refl _ w3).alloc (Nat.le_refl _) (.cells #[.int .i64 (A : Nat), .int .i64 (B : Nat), .int .i64 (C : Nat)] 68))).mono hb.size)
  have T3 := Lib.hid (Tri.new w3 (A : Nat) (B : Nat) (C : Nat))
  clear hb
  have X3 := Lib.hid (X2.out.below hba X2.out.lt)
  have LB3 := Lib.hid (LB2.out.trans (hba.mono LB2.out.size))
  clear hba X2 LB2
  obtain ⟨q0, q1, q2, q3, q4, q5, q6⟩ := X3.out.all
  go_wp2_with fail
  clear q0 q1 q2 q3 q4 q5 q6
  with_reducible refine Calls.mono (HM.out _ LB3.out) ?_
  rintro e w4 ⟨DP, dP, rfl, hl, hb⟩
  have P4 := Lib.hid (LV.of hl)
  have X4 := Lib.hid (X3.out.below hb X3.out.lt)
  have LB4 := Lib.hid (LB3.out.trans (hb.mono LB3.out.size))
  have T4 := Lib.hid (T3.out.below hb T3.out.lt)
  clear hb X3 LB3 T3
  clear hl
  obtain ⟨q0, q1, q2, q3, q4, q5, q6⟩ := X4.out.all
  go_wp2_with fail
  clear q0 q1 q2 q3 q4 q5 q6
  with_reducible refine Calls.mono (HI.out _ LB4.out) ?_
  rintro e w5 ⟨rfl, hb⟩
  have X5 := Lib.hid (X4.out.below hb X4.out.lt)
  have LB5 := Lib.hid (LB4.out.trans (hb.mono LB4.out.size))
  have T5 := Lib.hid (T4.out.below hb T4.out.lt)
  have P5 := Lib.hid (P4.out.next hb)
  clear hb X4 LB4 T4 P4
  obtain ⟨q0, q1, q2, q3, q4, q5⟩ := T5.out.all
  go_wp2
  go_quiet (fail)
  clear q0 q1 q2 q3 q4 q5
  have X_ := Lib.hid (show Box (w5.drewN nq) _ _ _ _ from X5.out)
  have T_ := Lib.hid (show Tri (w5.drewN nq) _ _ _ _ from T5.out)
  have LB_ := Lib.hid (bdn9 LB5.out nq)
  clear X5 T5 LB5 P5
  generalize w5.drewN nq = wq at *
  go_wp2
  go_loopw [11, 12] (fun l i wr => ∃ x : Nat, x ≤ A ∧ i = .int .i64 x ∧ l = .int .i64 (cnt (fun x => pc W H f x 0) x : Nat) ∧ Hid (Below w0.heap.size w0 wr) ∧ Hid (Tri wr w3.heap.size (A : Nat) (B : Nat) (C : Nat)) ∧ Hid (Box wr w0.heap.size (W : Nat) (H : Nat) (.slice D (W * H) c))) (fun _ i _ => A - (intOf i).toNat)
  case atStart => exact ⟨0, by omega, rfl, rfl, LB_, T_, X_⟩
  case round =>
    obtain ⟨x, hx, rfl, rfl, HB, HT, HX⟩ := hrel
    obtain ⟨t0, t1, t2, t3, t4, t5⟩ := HT.out.all
    by_cases hlx : x < A
    · have y1 : (x : Int) < (A : Int) := by omega
      have hl := HL.out x
      have hU := HU.out x
      have hA := fun u h => HA.out u h x hlx
      generalize cnt (fun x => pc W H f x 0) x = m at *
      generalize pc W H f x 0 = b at *
      have HAA := Lib.hid hA
      have HUU := Lib.hid hU
      clear hA hU
      obtain ⟨q0, q1, q2, q3, q4, q5, q6⟩ := HX.out.all
      go_wp2_with fail
      clear q0 q1 q2 q3 q4 q5 q6 t0 t1 t2 t3 t4 t5
      refine (HAA.out _ HB.out).mono ?_
      rintro e w5 ⟨rfl, hb⟩
      have HB5 := Lib.hid (HB.out.trans (hb.mono HB.out.size))
      have HT5 := Lib.hid (HT.out.below hb HT.out.lt)
      have HX5 := Lib.hid (HX.out.below hb HX.out.lt)
      clear hb HB HT HX
      have e1 : IntKind.i64.wrap ((m : Int) + 1) = (m : Int) + 1 := IntWalk.i64_in _ (by omega)
      cases b
      all_goals
        go_wp2
        exact ⟨⟨x + 1, by omega, by go_num, congrArg (Value.int .i64) (by rw [HUU.out]; simp), HB5, HT5, HX5⟩, by simp [intOf]; omega⟩
    · have e : x = A := by omega
      subst e
      have y1 : ¬ (x : Int) < (x : Int) := by omega
      have hk0 := HUA.out
      clear HA HU HL
      rw [hk0]
      clear hk0 HUA
      have LB0 := HB
      go_wp2_with fail
      refine (alive9_any _).mono ?_
      rintro e w7 ⟨rfl, hb7⟩
      go_wp2
      go_ret
      exact ⟨by first | rfl | exact ret_bool (by simp), HB.out.trans (hb7.mono HB.out.size)⟩
set_option maxHeartbeats 3200000 in
theorem none9_m (W H : Nat) (D : Option Addr) (c : Nat) (f : Nat → Bool) (A B : Nat) (hL : IsL W H f A B 1) (w0 : World) (hr : Holds w0 w0.heap.size D (W * H) f) (hcp : W * H ≤ c) (hW : W ≤ 64) (hH0 : 1 ≤ H) (hH : H ≤ 64) (hn : W * H ≤ 400) (hm : mv (A : Nat) (B : Nat) = false) : Calls Try.prog 10 #[.agg #[.int .i64 (W : Nat), .int .i64 (H : Nat), .slice D (W * H) c]] w0 fun e w' => e = .returned (.bool true) ∧ Below w0.heap.size w0 w' := by
  have hW0 : 1 ≤ W := Nat.le_trans hL.a0 hL.aw
  have aw := hL.aw
  have a0 := hL.a0
  have HG := Lib.hid (fun u => great9_any (W : Nat) (H : Nat) D (W * H) c u false (decide_eq_false (by omega)))
  have HK := Lib.hid (fun u => rchk_valid (W := W) (H := H) D c u hW0 hW hH0 hH)
  have HO := Lib.hid (fun u (h : Below w0.heap.size w0 u) => pof_at hL D c u ((hr.below h).more h.size) hcp hW hH0 hH)
  have HI := Lib.hid (fun u (h : Below w0.heap.size w0 u) => (show Calls Try.prog 15 #[.agg #[.int .i64 (W : Nat), .int .i64 (H : Nat), .slice D (W * H) c]] u fun e w' => e = .returned (.tuple #[.int .i64 0, .int .i64 0, .bool false, .int .i64 6]) ∧ Below u.heap.size u w' from by
    have k := pis9_ok W H D c f A B 1 hL u ((hr.below h).more h.size) hcp hW hH0 hH
    rw [isr_no (fun q => by have q := q.2.1; rw [hm] at q; cases q)] at k
    exact k))
  have HM := Lib.hid (fun u (h : Below w0.heap.size w0 u) => pmo_yes (W : Nat) (H : Nat) D (W * H) c (A : Nat) (B : Nat) 1 0 u rfl rfl (fun v hv => pof_at hL D c v ((((hr.below h).more h.size).below hv).more hv.size) hcp hW hH0 hH))
  have x1 : ((B : Int) != (B : Int)) = false := by simp
  have HA := Lib.hid (fun u (h : Below w0.heap.size w0 u) x (hx : x < A) => at6_line W H D c f x u ((hr.below h).more h.size) hW0 hW hH0 hH (by omega))
  have HU := Lib.hid (fun x => show cnt (fun x => pc W H f x 0) (x + 1) = cnt (fun x => pc W H f x 0) x + if pc W H f x 0 = true then 1 else 0 from rfl)
  have HUA := Lib.hid (show cnt (fun x => pc W H f x 0) A = ups W H f A from rfl)
  have HL := Lib.hid (fun x => cnt_le (fun x => pc W H f x 0) x)
  have HV := Lib.hid (fun (u : World) => (show Calls Try.prog 30 #[.int .i64 (A : Nat), .int .i64 (B : Nat)] u fun e w' => e = .returned (.bool false) ∧ Below u.heap.size u w' from by have q := rmv_b (A : Nat) (B : Nat) u; rwa [hm] at q))
  have hk64 : ups W H f A ≤ A := cnt_le _ _
  have X0 := Lib.hid (Box.new w0 (W : Nat) (H : Nat) (.slice D (W * H) c))
  have LB0 := Lib.hid (show Below w0.heap.size w0 (w0.alloc (.cells #[.int .i64 (W : Nat), .int .i64 (H : Nat), .slice D (W * H) c] 24)) from (Below.refl _ _).alloc (Nat.le_refl _) _)
  have w_ : IntKind.i64.wrap ((A : Int) - 1) = (A : Int) - 1 := IntWalk.i64_in _ (by omega)
  have y_ : ((A : Int) == (A : Int)) = true := by simp
  have y2_ : ((B : Int) == (B : Int)) = true := by simp
  clear hr hL
  generalize ups W H f A = k at *
  go_enter Try.func10, Try.ntmps10
  obtain ⟨q0, q1, q2, q3, q4, q5, q6⟩ := X0.out.all
  go_wp2_with fail
  clear q0 q1 q2 q3 q4 q5 q6
  with_reducible refine Calls.mono (HG.out _) ?_
  rintro e w1 ⟨rfl, hb⟩
  have X1 := Lib.hid (X0.out.below hb X0.out.lt)
  have LB1 := Lib.hid (LB0.out.trans (hb.mono LB0.out.size))
  clear hb X0 LB0
  obtain ⟨q0, q1, q2, q3, q4, q5, q6⟩ := X1.out.all
  go_wp2_with fail
  clear q0 q1 q2 q3 q4 q5 q6
  with_reducible refine Calls.mono (HK.out _) ?_
  rintro e w2 ⟨rfl, hb⟩
  have X2 := Lib.hid (X1.out.below hb X1.out.lt)
  have LB2 := Lib.hid (LB1.out.trans (hb.mono LB1.out.size))
  clear hb X1 LB1
  obtain ⟨q0, q1, q2, q3, q4, q5, q6⟩ := X2.out.all
  go_wp2_with fail
  clear q0 q1 q2 q3 q4 q5 q6
  with_reducible refine Calls.mono (HO.out _ LB2.out) ?_
  rintro e w3 ⟨rfl, hb⟩
  have hba := hb.trans ((((Below.refl _ w3).alloc (Nat.le_refl _) (.cells #[.int .i64 (A : Nat), .int .i64 (B : Nat), .int .i64 1] 68))).mono hb.size)
  have T3 := Lib.hid (Tri.new w3 (A : Nat) (B : Nat) 1)
  clear hb
  have X3 := Lib.hid (X2.out.below hba X2.out.lt)
  have LB3 := Lib.hid (LB2.out.trans (hba.mono LB2.out.size))
  clear hba X2 LB2
  obtain ⟨q0, q1, q2, q3, q4, q5, q6⟩ := X3.out.all
  go_wp2_with fail
  clear q0 q1 q2 q3 q4 q5 q6
  with_reducible refine Calls.mono (HM.out _ LB3.out) ?_
  rintro e w4 ⟨DP, dP, rfl, hl, hb⟩
  have P4 := Lib.hid (LV.of hl)
  have X4 := Lib.hid (X3.out.below hb X3.out.lt)
  have LB4 := Lib.hid (LB3.out.trans (hb.mono LB3.out.size))
  have T4 := Lib.hid (T3.out.below hb T3.out.lt)
  clear hb X3 LB3 T3
  clear hl
  obtain ⟨q0, q1, q2, q3, q4, q5, q6⟩ := X4.out.all
  go_wp2_with fail
  clear q0 q1 q2 q3 q4 q5 q6
  with_reducible refine Calls.mono (HI.out _ LB4.out) ?_
  rintro e w5 ⟨rfl, hb⟩
  have X5 := Lib.hid (X4.out.below hb X4.out.lt)
  have LB5 := Lib.hid (LB4.out.trans (hb.mono LB4.out.size))
  have T5 := Lib.hid (T4.out.below hb T4.out.lt)
  have P5 := Lib.hid (P4.out.next hb)
  clear hb X4 LB4 T4 P4
  obtain ⟨pb, po, hpe, hpb, hpc⟩ := P5.out.h (by omega)
  have hp0 := hpc 0 (by omega)
  rw [Nat.add_zero] at hp0
  subst hpe
  clear hpc
  obtain ⟨q0, q1, q2, q3, q4, q5⟩ := T5.out.all
  go_wp2
  go_quiet (fail)
  clear q0 q1 q2 q3 q4 q5
  clear hp0
  have X_ := Lib.hid (show Box (w5.drewN nq) _ _ _ _ from X5.out)
  have T_ := Lib.hid (show Tri (w5.drewN nq) _ _ _ _ from T5.out)
  have LB_ := Lib.hid (bdn9 LB5.out nq)
  clear X5 T5 LB5 P5
  generalize w5.drewN nq = wq at *
  go_wp2
  go_loopw [11, 12] (fun l i wr => ∃ x : Nat, x ≤ A ∧ i = .int .i64 x ∧ l = .int .i64 (cnt (fun x => pc W H f x 0) x : Nat) ∧ Hid (Below w0.heap.size w0 wr) ∧ Hid (Tri wr w3.heap.size (A : Nat) (B : Nat) 1) ∧ Hid (Box wr w0.heap.size (W : Nat) (H : Nat) (.slice D (W * H) c))) (fun _ i _ => A - (intOf i).toNat)
  case atStart => exact ⟨0, by omega, rfl, rfl, LB_, T_, X_⟩
  case round =>
    obtain ⟨x, hx, rfl, rfl, HB, HT, HX⟩ := hrel
    obtain ⟨t0, t1, t2, t3, t4, t5⟩ := HT.out.all
    by_cases hlx : x < A
    · have y1 : (x : Int) < (A : Int) := by omega
      have hl := HL.out x
      have hU := HU.out x
      have hA := fun u h => HA.out u h x hlx
      generalize cnt (fun x => pc W H f x 0) x = m at *
      generalize pc W H f x 0 = b at *
      have HAA := Lib.hid hA
      have HUU := Lib.hid hU
      clear hA hU
      obtain ⟨q0, q1, q2, q3, q4, q5, q6⟩ := HX.out.all
      go_wp2_with fail
      clear q0 q1 q2 q3 q4 q5 q6 t0 t1 t2 t3 t4 t5
      refine (HAA.out _ HB.out).mono ?_
      rintro e w5 ⟨rfl, hb⟩
      have HB5 := Lib.hid (HB.out.trans (hb.mono HB.out.size))
      have HT5 := Lib.hid (HT.out.below hb HT.out.lt)
      have HX5 := Lib.hid (HX.out.below hb HX.out.lt)
      clear hb HB HT HX
      have e1 : IntKind.i64.wrap ((m : Int) + 1) = (m : Int) + 1 := IntWalk.i64_in _ (by omega)
      cases b
      all_goals
        go_wp2
        exact ⟨⟨x + 1, by omega, by go_num, congrArg (Value.int .i64) (by rw [HUU.out]; simp), HB5, HT5, HX5⟩, by simp [intOf]; omega⟩
    · have e : x = A := by omega
      subst e
      have y1 : ¬ (x : Int) < (x : Int) := by omega
      have hk0 := HUA.out
      clear HA HU HL
      rw [hk0]
      clear hk0 HUA
      have LB0 := HB
      go_wp2_with fail
      refine (HV.out _).mono ?_
      rintro e w6 ⟨rfl, hb⟩
      have hB6 := HB.out.trans (hb.mono HB.out.size)
      obtain ⟨t0, t1, t2, t3, t4, t5⟩ := (HT.out.below hb HT.out.lt).all
      go_wp2_with fail
      refine (alive9_any _).mono ?_
      rintro e w7 ⟨rfl, hb7⟩
      go_wp2
      go_ret
      exact ⟨by first | rfl | exact ret_bool (by simp), hB6.trans (hb7.mono hB6.size)⟩
set_option maxHeartbeats 3200000 in
theorem none9_u (W H : Nat) (D : Option Addr) (c : Nat) (f : Nat → Bool) (A B : Nat) (hL : IsL W H f A B 1) (w0 : World) (hr : Holds w0 w0.heap.size D (W * H) f) (hcp : W * H ≤ c) (hW : W ≤ 64) (hH0 : 1 ≤ H) (hH : H ≤ 64) (hn : W * H ≤ 400) (hm : mv (A : Nat) (B : Nat) = true) (hk1 : ¬ ups W H f A = 1) (hk2 : ¬ ups W H f A + 1 = A) : Calls Try.prog 10 #[.agg #[.int .i64 (W : Nat), .int .i64 (H : Nat), .slice D (W * H) c]] w0 fun e w' => e = .returned (.bool true) ∧ Below w0.heap.size w0 w' := by
  have hW0 : 1 ≤ W := Nat.le_trans hL.a0 hL.aw
  have aw := hL.aw
  have a0 := hL.a0
  have HG := Lib.hid (fun u => great9_any (W : Nat) (H : Nat) D (W * H) c u false (decide_eq_false (by omega)))
  have HK := Lib.hid (fun u => rchk_valid (W := W) (H := H) D c u hW0 hW hH0 hH)
  have HO := Lib.hid (fun u (h : Below w0.heap.size w0 u) => pof_at hL D c u ((hr.below h).more h.size) hcp hW hH0 hH)
  have HI := Lib.hid (fun u (h : Below w0.heap.size w0 u) => (show Calls Try.prog 15 #[.agg #[.int .i64 (W : Nat), .int .i64 (H : Nat), .slice D (W * H) c]] u fun e w' => e = .returned (.tuple #[.int .i64 0, .int .i64 0, .bool false, .int .i64 6]) ∧ Below u.heap.size u w' from by
    have k := pis9_ok W H D c f A B 1 hL u ((hr.below h).more h.size) hcp hW hH0 hH
    rw [isr_no (fun q => by rcases q.2.2 with q | q; exact hk1 q; exact hk2 q)] at k
    exact k))
  have HM := Lib.hid (fun u (h : Below w0.heap.size w0 u) => pmo_yes (W : Nat) (H : Nat) D (W * H) c (A : Nat) (B : Nat) 1 0 u rfl rfl (fun v hv => pof_at hL D c v ((((hr.below h).more h.size).below hv).more hv.size) hcp hW hH0 hH))
  have x1 : ((B : Int) != (B : Int)) = false := by simp
  have HA := Lib.hid (fun u (h : Below w0.heap.size w0 u) x (hx : x < A) => at6_line W H D c f x u ((hr.below h).more h.size) hW0 hW hH0 hH (by omega))
  have HU := Lib.hid (fun x => show cnt (fun x => pc W H f x 0) (x + 1) = cnt (fun x => pc W H f x 0) x + if pc W H f x 0 = true then 1 else 0 from rfl)
  have HUA := Lib.hid (show cnt (fun x => pc W H f x 0) A = ups W H f A from rfl)
  have HL := Lib.hid (fun x => cnt_le (fun x => pc W H f x 0) x)
  have HV := Lib.hid (fun (u : World) => (show Calls Try.prog 30 #[.int .i64 (A : Nat), .int .i64 (B : Nat)] u fun e w' => e = .returned (.bool true) ∧ Below u.heap.size u w' from by have q := rmv_b (A : Nat) (B : Nat) u; rwa [hm] at q))
  have hk64 : ups W H f A ≤ A := cnt_le _ _
  have X0 := Lib.hid (Box.new w0 (W : Nat) (H : Nat) (.slice D (W * H) c))
  have LB0 := Lib.hid (show Below w0.heap.size w0 (w0.alloc (.cells #[.int .i64 (W : Nat), .int .i64 (H : Nat), .slice D (W * H) c] 24)) from (Below.refl _ _).alloc (Nat.le_refl _) _)
  have w_ : IntKind.i64.wrap ((A : Int) - 1) = (A : Int) - 1 := IntWalk.i64_in _ (by omega)
  have y_ : ((A : Int) == (A : Int)) = true := by simp
  have y2_ : ((B : Int) == (B : Int)) = true := by simp
  have x3 : ((ups W H f A : Int) == 1) = false := by simp; omega
  have x4 : ((ups W H f A : Int) == (A : Int) - 1) = false := by simp; omega
  clear hr hL
  generalize ups W H f A = k at *
  go_enter Try.func10, Try.ntmps10
  obtain ⟨q0, q1, q2, q3, q4, q5, q6⟩ := X0.out.all
  go_wp2_with fail
  clear q0 q1 q2 q3 q4 q5 q6
  with_reducible refine Calls.mono (HG.out _) ?_
  rintro e w1 ⟨rfl, hb⟩
  have X1 := Lib.hid (X0.out.below hb X0.out.lt)
  have LB1 := Lib.hid (LB0.out.trans (hb.mono LB0.out.size))
  clear hb X0 LB0
  obtain ⟨q0, q1, q2, q3, q4, q5, q6⟩ := X1.out.all
  go_wp2_with fail
  clear q0 q1 q2 q3 q4 q5 q6
  with_reducible refine Calls.mono (HK.out _) ?_
  rintro e w2 ⟨rfl, hb⟩
  have X2 := Lib.hid (X1.out.below hb X1.out.lt)
  have LB2 := Lib.hid (LB1.out.trans (hb.mono LB1.out.size))
  clear hb X1 LB1
  obtain ⟨q0, q1, q2, q3, q4, q5, q6⟩ := X2.out.all
  go_wp2_with fail
  clear q0 q1 q2 q3 q4 q5 q6
  with_reducible refine Calls.mono (HO.out _ LB2.out) ?_
  rintro e w3 ⟨rfl, hb⟩
  have hba := hb.trans ((((Below.refl _ w3).alloc (Nat.le_refl _) (.cells #[.int .i64 (A : Nat), .int .i64 (B : Nat), .int .i64 1] 68))).mono hb.size)
  have T3 := Lib.hid (Tri.new w3 (A : Nat) (B : Nat) 1)
  clear hb
  have X3 := Lib.hid (X2.out.below hba X2.out.lt)
  have LB3 := Lib.hid (LB2.out.trans (hba.mono LB2.out.size))
  clear hba X2 LB2
  obtain ⟨q0, q1, q2, q3, q4, q5, q6⟩ := X3.out.all
  go_wp2_with fail
  clear q0 q1 q2 q3 q4 q5 q6
  with_reducible refine Calls.mono (HM.out _ LB3.out) ?_
  rintro e w4 ⟨DP, dP, rfl, hl, hb⟩
  have P4 := Lib.hid (LV.of hl)
  have X4 := Lib.hid (X3.out.below hb X3.out.lt)
  have LB4 := Lib.hid (LB3.out.trans (hb.mono LB3.out.size))
  have T4 := Lib.hid (T3.out.below hb T3.out.lt)
  clear hb X3 LB3 T3
  clear hl
  obtain ⟨q0, q1, q2, q3, q4, q5, q6⟩ := X4.out.all
  go_wp2_with fail
  clear q0 q1 q2 q3 q4 q5 q6
  with_reducible refine Calls.mono (HI.out _ LB4.out) ?_
  rintro e w5 ⟨rfl, hb⟩
  have X5 := Lib.hid (X4.out.below hb X4.out.lt)
  have LB5 := Lib.hid (LB4.out.trans (hb.mono LB4.out.size))
  have T5 := Lib.hid (T4.out.below hb T4.out.lt)
  have P5 := Lib.hid (P4.out.next hb)
  clear hb X4 LB4 T4 P4
  obtain ⟨pb, po, hpe, hpb, hpc⟩ := P5.out.h (by omega)
  have hp0 := hpc 0 (by omega)
  rw [Nat.add_zero] at hp0
  subst hpe
  clear hpc
  obtain ⟨q0, q1, q2, q3, q4, q5⟩ := T5.out.all
  go_wp2
  go_quiet (fail)
  clear q0 q1 q2 q3 q4 q5
  clear hp0
  have X_ := Lib.hid (show Box (w5.drewN nq) _ _ _ _ from X5.out)
  have T_ := Lib.hid (show Tri (w5.drewN nq) _ _ _ _ from T5.out)
  have LB_ := Lib.hid (bdn9 LB5.out nq)
  clear X5 T5 LB5 P5
  generalize w5.drewN nq = wq at *
  go_wp2
  go_loopw [11, 12] (fun l i wr => ∃ x : Nat, x ≤ A ∧ i = .int .i64 x ∧ l = .int .i64 (cnt (fun x => pc W H f x 0) x : Nat) ∧ Hid (Below w0.heap.size w0 wr) ∧ Hid (Tri wr w3.heap.size (A : Nat) (B : Nat) 1) ∧ Hid (Box wr w0.heap.size (W : Nat) (H : Nat) (.slice D (W * H) c))) (fun _ i _ => A - (intOf i).toNat)
  case atStart => exact ⟨0, by omega, rfl, rfl, LB_, T_, X_⟩
  case round =>
    obtain ⟨x, hx, rfl, rfl, HB, HT, HX⟩ := hrel
    obtain ⟨t0, t1, t2, t3, t4, t5⟩ := HT.out.all
    by_cases hlx : x < A
    · have y1 : (x : Int) < (A : Int) := by omega
      have hl := HL.out x
      have hU := HU.out x
      have hA := fun u h => HA.out u h x hlx
      generalize cnt (fun x => pc W H f x 0) x = m at *
      generalize pc W H f x 0 = b at *
      have HAA := Lib.hid hA
      have HUU := Lib.hid hU
      clear hA hU
      obtain ⟨q0, q1, q2, q3, q4, q5, q6⟩ := HX.out.all
      go_wp2_with fail
      clear q0 q1 q2 q3 q4 q5 q6 t0 t1 t2 t3 t4 t5
      refine (HAA.out _ HB.out).mono ?_
      rintro e w5 ⟨rfl, hb⟩
      have HB5 := Lib.hid (HB.out.trans (hb.mono HB.out.size))
      have HT5 := Lib.hid (HT.out.below hb HT.out.lt)
      have HX5 := Lib.hid (HX.out.below hb HX.out.lt)
      clear hb HB HT HX
      have e1 : IntKind.i64.wrap ((m : Int) + 1) = (m : Int) + 1 := IntWalk.i64_in _ (by omega)
      cases b
      all_goals
        go_wp2
        exact ⟨⟨x + 1, by omega, by go_num, congrArg (Value.int .i64) (by rw [HUU.out]; simp), HB5, HT5, HX5⟩, by simp [intOf]; omega⟩
    · have e : x = A := by omega
      subst e
      have y1 : ¬ (x : Int) < (x : Int) := by omega
      have hk0 := HUA.out
      clear HA HU HL
      rw [hk0]
      clear hk0 HUA
      have LB0 := HB
      go_wp2_with fail
      refine (HV.out _).mono ?_
      rintro e w6 ⟨rfl, hb⟩
      have hB6 := HB.out.trans (hb.mono HB.out.size)
      obtain ⟨t0, t1, t2, t3, t4, t5⟩ := (HT.out.below hb HT.out.lt).all
      go_wp2_with fail
      refine (alive9_any _).mono ?_
      rintro e w7 ⟨rfl, hb7⟩
      go_wp2
      go_ret
      exact ⟨by first | rfl | exact ret_bool (by simp), hB6.trans (hb7.mono hB6.size)⟩
set_option maxHeartbeats 3200000 in
theorem none9_o (W H : Nat) (D : Option Addr) (c : Nat) (f : Nat → Bool) (A B : Nat) (hL : IsL W H f A B 1) (w0 : World) (hr : Holds w0 w0.heap.size D (W * H) f) (hcp : W * H ≤ c) (hW : W ≤ 64) (hH0 : 1 ≤ H) (hH : H ≤ 64) (hn : W * H ≤ 400) (hm : mv (A : Nat) (B : Nat) = true) (hk1 : ups W H f A = 1) : Calls Try.prog 10 #[.agg #[.int .i64 (W : Nat), .int .i64 (H : Nat), .slice D (W * H) c]] w0 fun e w' => e = .returned (.bool true) ∧ Below w0.heap.size w0 w' := by
  have hW0 : 1 ≤ W := Nat.le_trans hL.a0 hL.aw
  have aw := hL.aw
  have a0 := hL.a0
  have HG := Lib.hid (fun u => great9_any (W : Nat) (H : Nat) D (W * H) c u false (decide_eq_false (by omega)))
  have HK := Lib.hid (fun u => rchk_valid (W := W) (H := H) D c u hW0 hW hH0 hH)
  have HO := Lib.hid (fun u (h : Below w0.heap.size w0 u) => pof_at hL D c u ((hr.below h).more h.size) hcp hW hH0 hH)
  have HI := Lib.hid (fun u (h : Below w0.heap.size w0 u) => (show Calls Try.prog 15 #[.agg #[.int .i64 (W : Nat), .int .i64 (H : Nat), .slice D (W * H) c]] u fun e w' => e = .returned (.tuple #[.int .i64 (A : Nat), .int .i64 (B : Nat), .bool true, .int .i64 0]) ∧ Below u.heap.size u w' from by
    have k := pis9_ok W H D c f A B 1 hL u ((hr.below h).more h.size) hcp hW hH0 hH
    rw [isr_yes ⟨rfl, hm, .inl hk1⟩, show (ups W H f A == 1) = true by simp [hk1]] at k
    exact k))
  have HM := Lib.hid (fun u (h : Below w0.heap.size w0 u) => pmo_yes (W : Nat) (H : Nat) D (W * H) c (A : Nat) (B : Nat) 1 0 u rfl rfl (fun v hv => pof_at hL D c v ((((hr.below h).more h.size).below hv).more hv.size) hcp hW hH0 hH))
  have x1 : ((B : Int) != (B : Int)) = false := by simp
  have HA := Lib.hid (fun u (h : Below w0.heap.size w0 u) x (hx : x < A) => at6_line W H D c f x u ((hr.below h).more h.size) hW0 hW hH0 hH (by omega))
  have HU := Lib.hid (fun x => show cnt (fun x => pc W H f x 0) (x + 1) = cnt (fun x => pc W H f x 0) x + if pc W H f x 0 = true then 1 else 0 from rfl)
  have HUA := Lib.hid (show cnt (fun x => pc W H f x 0) A = ups W H f A from rfl)
  have HL := Lib.hid (fun x => cnt_le (fun x => pc W H f x 0) x)
  have HV := Lib.hid (fun (u : World) => (show Calls Try.prog 30 #[.int .i64 (A : Nat), .int .i64 (B : Nat)] u fun e w' => e = .returned (.bool true) ∧ Below u.heap.size u w' from by have q := rmv_b (A : Nat) (B : Nat) u; rwa [hm] at q))
  have hk64 : ups W H f A ≤ A := cnt_le _ _
  have X0 := Lib.hid (Box.new w0 (W : Nat) (H : Nat) (.slice D (W * H) c))
  have LB0 := Lib.hid (show Below w0.heap.size w0 (w0.alloc (.cells #[.int .i64 (W : Nat), .int .i64 (H : Nat), .slice D (W * H) c] 24)) from (Below.refl _ _).alloc (Nat.le_refl _) _)
  have w_ : IntKind.i64.wrap ((A : Int) - 1) = (A : Int) - 1 := IntWalk.i64_in _ (by omega)
  have y_ : ((A : Int) == (A : Int)) = true := by simp
  have y2_ : ((B : Int) == (B : Int)) = true := by simp
  have x3 : ((ups W H f A : Int) == 1) = true := by simp; omega
  clear hk1
  clear hr hL
  generalize ups W H f A = k at *
  go_enter Try.func10, Try.ntmps10
  obtain ⟨q0, q1, q2, q3, q4, q5, q6⟩ := X0.out.all
  go_wp2_with fail
  clear q0 q1 q2 q3 q4 q5 q6
  with_reducible refine Calls.mono (HG.out _) ?_
  rintro e w1 ⟨rfl, hb⟩
  have X1 := Lib.hid (X0.out.below hb X0.out.lt)
  have LB1 := Lib.hid (LB0.out.trans (hb.mono LB0.out.size))
  clear hb X0 LB0
  obtain ⟨q0, q1, q2, q3, q4, q5, q6⟩ := X1.out.all
  go_wp2_with fail
  clear q0 q1 q2 q3 q4 q5 q6
  with_reducible refine Calls.mono (HK.out _) ?_
  rintro e w2 ⟨rfl, hb⟩
  have X2 := Lib.hid (X1.out.below hb X1.out.lt)
  have LB2 := Lib.hid (LB1.out.trans (hb.mono LB1.out.size))
  clear hb X1 LB1
  obtain ⟨q0, q1, q2, q3, q4, q5, q6⟩ := X2.out.all
  go_wp2_with fail
  clear q0 q1 q2 q3 q4 q5 q6
  with_reducible refine Calls.mono (HO.out _ LB2.out) ?_
  rintro e w3 ⟨rfl, hb⟩
  have hba := hb.trans ((((Below.refl _ w3).alloc (Nat.le_refl _) (.cells #[.int .i64 (A : Nat), .int .i64 (B : Nat), .int .i64 1] 68))).mono hb.size)
  have T3 := Lib.hid (Tri.new w3 (A : Nat) (B : Nat) 1)
  clear hb
  have X3 := Lib.hid (X2.out.below hba X2.out.lt)
  have LB3 := Lib.hid (LB2.out.trans (hba.mono LB2.out.size))
  clear hba X2 LB2
  obtain ⟨q0, q1, q2, q3, q4, q5, q6⟩ := X3.out.all
  go_wp2_with fail
  clear q0 q1 q2 q3 q4 q5 q6
  with_reducible refine Calls.mono (HM.out _ LB3.out) ?_
  rintro e w4 ⟨DP, dP, rfl, hl, hb⟩
  have P4 := Lib.hid (LV.of hl)
  have X4 := Lib.hid (X3.out.below hb X3.out.lt)
  have LB4 := Lib.hid (LB3.out.trans (hb.mono LB3.out.size))
  have T4 := Lib.hid (T3.out.below hb T3.out.lt)
  clear hb X3 LB3 T3
  clear hl
  obtain ⟨q0, q1, q2, q3, q4, q5, q6⟩ := X4.out.all
  go_wp2_with fail
  clear q0 q1 q2 q3 q4 q5 q6
  with_reducible refine Calls.mono (HI.out _ LB4.out) ?_
  rintro e w5 ⟨rfl, hb⟩
  have X5 := Lib.hid (X4.out.below hb X4.out.lt)
  have LB5 := Lib.hid (LB4.out.trans (hb.mono LB4.out.size))
  have T5 := Lib.hid (T4.out.below hb T4.out.lt)
  have P5 := Lib.hid (P4.out.next hb)
  clear hb X4 LB4 T4 P4
  obtain ⟨pb, po, hpe, hpb, hpc⟩ := P5.out.h (by omega)
  have hp0 := hpc 0 (by omega)
  rw [Nat.add_zero] at hp0
  subst hpe
  clear hpc
  obtain ⟨q0, q1, q2, q3, q4, q5⟩ := T5.out.all
  go_wp2
  go_quiet (fail)
  clear q0 q1 q2 q3 q4 q5
  clear hp0
  have X_ := Lib.hid (show Box (w5.drewN nq) _ _ _ _ from X5.out)
  have T_ := Lib.hid (show Tri (w5.drewN nq) _ _ _ _ from T5.out)
  have LB_ := Lib.hid (bdn9 LB5.out nq)
  clear X5 T5 LB5 P5
  generalize w5.drewN nq = wq at *
  go_wp2
  go_loopw [11, 12] (fun l i wr => ∃ x : Nat, x ≤ A ∧ i = .int .i64 x ∧ l = .int .i64 (cnt (fun x => pc W H f x 0) x : Nat) ∧ Hid (Below w0.heap.size w0 wr) ∧ Hid (Tri wr w3.heap.size (A : Nat) (B : Nat) 1) ∧ Hid (Box wr w0.heap.size (W : Nat) (H : Nat) (.slice D (W * H) c))) (fun _ i _ => A - (intOf i).toNat)
  case atStart => exact ⟨0, by omega, rfl, rfl, LB_, T_, X_⟩
  case round =>
    obtain ⟨x, hx, rfl, rfl, HB, HT, HX⟩ := hrel
    obtain ⟨t0, t1, t2, t3, t4, t5⟩ := HT.out.all
    by_cases hlx : x < A
    · have y1 : (x : Int) < (A : Int) := by omega
      have hl := HL.out x
      have hU := HU.out x
      have hA := fun u h => HA.out u h x hlx
      generalize cnt (fun x => pc W H f x 0) x = m at *
      generalize pc W H f x 0 = b at *
      have HAA := Lib.hid hA
      have HUU := Lib.hid hU
      clear hA hU
      obtain ⟨q0, q1, q2, q3, q4, q5, q6⟩ := HX.out.all
      go_wp2_with fail
      clear q0 q1 q2 q3 q4 q5 q6 t0 t1 t2 t3 t4 t5
      refine (HAA.out _ HB.out).mono ?_
      rintro e w5 ⟨rfl, hb⟩
      have HB5 := Lib.hid (HB.out.trans (hb.mono HB.out.size))
      have HT5 := Lib.hid (HT.out.below hb HT.out.lt)
      have HX5 := Lib.hid (HX.out.below hb HX.out.lt)
      clear hb HB HT HX
      have e1 : IntKind.i64.wrap ((m : Int) + 1) = (m : Int) + 1 := IntWalk.i64_in _ (by omega)
      cases b
      all_goals
        go_wp2
        exact ⟨⟨x + 1, by omega, by go_num, congrArg (Value.int .i64) (by rw [HUU.out]; simp), HB5, HT5, HX5⟩, by simp [intOf]; omega⟩
    · have e : x = A := by omega
      subst e
      have y1 : ¬ (x : Int) < (x : Int) := by omega
      have hk0 := HUA.out
      clear HA HU HL
      rw [hk0]
      clear hk0 HUA
      have LB0 := HB
      go_wp2_with fail
      refine (HV.out _).mono ?_
      rintro e w6 ⟨rfl, hb⟩
      have hB6 := HB.out.trans (hb.mono HB.out.size)
      obtain ⟨t0, t1, t2, t3, t4, t5⟩ := (HT.out.below hb HT.out.lt).all
      go_wp2_with fail
      refine (alive9_any _).mono ?_
      rintro e w7 ⟨rfl, hb7⟩
      go_wp2
      go_ret
      exact ⟨by first | rfl | exact ret_bool (by simp), hB6.trans (hb7.mono hB6.size)⟩
set_option maxHeartbeats 3200000 in
theorem none9_l (W H : Nat) (D : Option Addr) (c : Nat) (f : Nat → Bool) (A B : Nat) (hL : IsL W H f A B 1) (w0 : World) (hr : Holds w0 w0.heap.size D (W * H) f) (hcp : W * H ≤ c) (hW : W ≤ 64) (hH0 : 1 ≤ H) (hH : H ≤ 64) (hn : W * H ≤ 400) (hm : mv (A : Nat) (B : Nat) = true) (hk1 : ¬ ups W H f A = 1) (hk2 : ups W H f A + 1 = A) : Calls Try.prog 10 #[.agg #[.int .i64 (W : Nat), .int .i64 (H : Nat), .slice D (W * H) c]] w0 fun e w' => e = .returned (.bool true) ∧ Below w0.heap.size w0 w' := by
  have hW0 : 1 ≤ W := Nat.le_trans hL.a0 hL.aw
  have aw := hL.aw
  have a0 := hL.a0
  have HG := Lib.hid (fun u => great9_any (W : Nat) (H : Nat) D (W * H) c u false (decide_eq_false (by omega)))
  have HK := Lib.hid (fun u => rchk_valid (W := W) (H := H) D c u hW0 hW hH0 hH)
  have HO := Lib.hid (fun u (h : Below w0.heap.size w0 u) => pof_at hL D c u ((hr.below h).more h.size) hcp hW hH0 hH)
  have HI := Lib.hid (fun u (h : Below w0.heap.size w0 u) => (show Calls Try.prog 15 #[.agg #[.int .i64 (W : Nat), .int .i64 (H : Nat), .slice D (W * H) c]] u fun e w' => e = .returned (.tuple #[.int .i64 (A : Nat), .int .i64 (B : Nat), .bool false, .int .i64 0]) ∧ Below u.heap.size u w' from by
    have k := pis9_ok W H D c f A B 1 hL u ((hr.below h).more h.size) hcp hW hH0 hH
    rw [isr_yes ⟨rfl, hm, .inr hk2⟩, show (ups W H f A == 1) = false by simp [hk1]] at k
    exact k))
  have HM := Lib.hid (fun u (h : Below w0.heap.size w0 u) => pmo_yes (W : Nat) (H : Nat) D (W * H) c (A : Nat) (B : Nat) 1 0 u rfl rfl (fun v hv => pof_at hL D c v ((((hr.below h).more h.size).below hv).more hv.size) hcp hW hH0 hH))
  have x1 : ((B : Int) != (B : Int)) = false := by simp
  have HA := Lib.hid (fun u (h : Below w0.heap.size w0 u) x (hx : x < A) => at6_line W H D c f x u ((hr.below h).more h.size) hW0 hW hH0 hH (by omega))
  have HU := Lib.hid (fun x => show cnt (fun x => pc W H f x 0) (x + 1) = cnt (fun x => pc W H f x 0) x + if pc W H f x 0 = true then 1 else 0 from rfl)
  have HUA := Lib.hid (show cnt (fun x => pc W H f x 0) A = ups W H f A from rfl)
  have HL := Lib.hid (fun x => cnt_le (fun x => pc W H f x 0) x)
  have HV := Lib.hid (fun (u : World) => (show Calls Try.prog 30 #[.int .i64 (A : Nat), .int .i64 (B : Nat)] u fun e w' => e = .returned (.bool true) ∧ Below u.heap.size u w' from by have q := rmv_b (A : Nat) (B : Nat) u; rwa [hm] at q))
  have hk64 : ups W H f A ≤ A := cnt_le _ _
  have X0 := Lib.hid (Box.new w0 (W : Nat) (H : Nat) (.slice D (W * H) c))
  have LB0 := Lib.hid (show Below w0.heap.size w0 (w0.alloc (.cells #[.int .i64 (W : Nat), .int .i64 (H : Nat), .slice D (W * H) c] 24)) from (Below.refl _ _).alloc (Nat.le_refl _) _)
  have w_ : IntKind.i64.wrap ((A : Int) - 1) = (A : Int) - 1 := IntWalk.i64_in _ (by omega)
  have y_ : ((A : Int) == (A : Int)) = true := by simp
  have y2_ : ((B : Int) == (B : Int)) = true := by simp
  have x3 : ((ups W H f A : Int) == 1) = false := by simp; omega
  have x4 : ((ups W H f A : Int) == (A : Int) - 1) = true := by simp; omega
  clear hk1 hk2
  clear hr hL
  generalize ups W H f A = k at *
  go_enter Try.func10, Try.ntmps10
  obtain ⟨q0, q1, q2, q3, q4, q5, q6⟩ := X0.out.all
  go_wp2_with fail
  clear q0 q1 q2 q3 q4 q5 q6
  with_reducible refine Calls.mono (HG.out _) ?_
  rintro e w1 ⟨rfl, hb⟩
  have X1 := Lib.hid (X0.out.below hb X0.out.lt)
  have LB1 := Lib.hid (LB0.out.trans (hb.mono LB0.out.size))
  clear hb X0 LB0
  obtain ⟨q0, q1, q2, q3, q4, q5, q6⟩ := X1.out.all
  go_wp2_with fail
  clear q0 q1 q2 q3 q4 q5 q6
  with_reducible refine Calls.mono (HK.out _) ?_
  rintro e w2 ⟨rfl, hb⟩
  have X2 := Lib.hid (X1.out.below hb X1.out.lt)
  have LB2 := Lib.hid (LB1.out.trans (hb.mono LB1.out.size))
  clear hb X1 LB1
  obtain ⟨q0, q1, q2, q3, q4, q5, q6⟩ := X2.out.all
  go_wp2_with fail
  clear q0 q1 q2 q3 q4 q5 q6
  with_reducible refine Calls.mono (HO.out _ LB2.out) ?_
  rintro e w3 ⟨rfl, hb⟩
  have hba := hb.trans ((((Below.refl _ w3).alloc (Nat.le_refl _) (.cells #[.int .i64 (A : Nat), .int .i64 (B : Nat), .int .i64 1] 68))).mono hb.size)
  have T3 := Lib.hid (Tri.new w3 (A : Nat) (B : Nat) 1)
  clear hb
  have X3 := Lib.hid (X2.out.below hba X2.out.lt)
  have LB3 := Lib.hid (LB2.out.trans (hba.mono LB2.out.size))
  clear hba X2 LB2
  obtain ⟨q0, q1, q2, q3, q4, q5, q6⟩ := X3.out.all
  go_wp2_with fail
  clear q0 q1 q2 q3 q4 q5 q6
  with_reducible refine Calls.mono (HM.out _ LB3.out) ?_
  rintro e w4 ⟨DP, dP, rfl, hl, hb⟩
  have P4 := Lib.hid (LV.of hl)
  have X4 := Lib.hid (X3.out.below hb X3.out.lt)
  have LB4 := Lib.hid (LB3.out.trans (hb.mono LB3.out.size))
  have T4 := Lib.hid (T3.out.below hb T3.out.lt)
  clear hb X3 LB3 T3
  clear hl
  obtain ⟨q0, q1, q2, q3, q4, q5, q6⟩ := X4.out.all
  go_wp2_with fail
  clear q0 q1 q2 q3 q4 q5 q6
  with_reducible refine Calls.mono (HI.out _ LB4.out) ?_
  rintro e w5 ⟨rfl, hb⟩
  have X5 := Lib.hid (X4.out.below hb X4.out.lt)
  have LB5 := Lib.hid (LB4.out.trans (hb.mono LB4.out.size))
  have T5 := Lib.hid (T4.out.below hb T4.out.lt)
  have P5 := Lib.hid (P4.out.next hb)
  clear hb X4 LB4 T4 P4
  obtain ⟨pb, po, hpe, hpb, hpc⟩ := P5.out.h (by omega)
  have hp0 := hpc 0 (by omega)
  rw [Nat.add_zero] at hp0
  subst hpe
  clear hpc
  obtain ⟨q0, q1, q2, q3, q4, q5⟩ := T5.out.all
  go_wp2
  go_quiet (fail)
  clear q0 q1 q2 q3 q4 q5
  clear hp0
  have X_ := Lib.hid (show Box (w5.drewN nq) _ _ _ _ from X5.out)
  have T_ := Lib.hid (show Tri (w5.drewN nq) _ _ _ _ from T5.out)
  have LB_ := Lib.hid (bdn9 LB5.out nq)
  clear X5 T5 LB5 P5
  generalize w5.drewN nq = wq at *
  go_wp2
  go_loopw [11, 12] (fun l i wr => ∃ x : Nat, x ≤ A ∧ i = .int .i64 x ∧ l = .int .i64 (cnt (fun x => pc W H f x 0) x : Nat) ∧ Hid (Below w0.heap.size w0 wr) ∧ Hid (Tri wr w3.heap.size (A : Nat) (B : Nat) 1) ∧ Hid (Box wr w0.heap.size (W : Nat) (H : Nat) (.slice D (W * H) c))) (fun _ i _ => A - (intOf i).toNat)
  case atStart => exact ⟨0, by omega, rfl, rfl, LB_, T_, X_⟩
  case round =>
    obtain ⟨x, hx, rfl, rfl, HB, HT, HX⟩ := hrel
    obtain ⟨t0, t1, t2, t3, t4, t5⟩ := HT.out.all
    by_cases hlx : x < A
    · have y1 : (x : Int) < (A : Int) := by omega
      have hl := HL.out x
      have hU := HU.out x
      have hA := fun u h => HA.out u h x hlx
      generalize cnt (fun x => pc W H f x 0) x = m at *
      generalize pc W H f x 0 = b at *
      have HAA := Lib.hid hA
      have HUU := Lib.hid hU
      clear hA hU
      obtain ⟨q0, q1, q2, q3, q4, q5, q6⟩ := HX.out.all
      go_wp2_with fail
      clear q0 q1 q2 q3 q4 q5 q6 t0 t1 t2 t3 t4 t5
      refine (HAA.out _ HB.out).mono ?_
      rintro e w5 ⟨rfl, hb⟩
      have HB5 := Lib.hid (HB.out.trans (hb.mono HB.out.size))
      have HT5 := Lib.hid (HT.out.below hb HT.out.lt)
      have HX5 := Lib.hid (HX.out.below hb HX.out.lt)
      clear hb HB HT HX
      have e1 : IntKind.i64.wrap ((m : Int) + 1) = (m : Int) + 1 := IntWalk.i64_in _ (by omega)
      cases b
      all_goals
        go_wp2
        exact ⟨⟨x + 1, by omega, by go_num, congrArg (Value.int .i64) (by rw [HUU.out]; simp), HB5, HT5, HX5⟩, by simp [intOf]; omega⟩
    · have e : x = A := by omega
      subst e
      have y1 : ¬ (x : Int) < (x : Int) := by omega
      have hk0 := HUA.out
      clear HA HU HL
      rw [hk0]
      clear hk0 HUA
      have LB0 := HB
      go_wp2_with fail
      refine (HV.out _).mono ?_
      rintro e w6 ⟨rfl, hb⟩
      have hB6 := HB.out.trans (hb.mono HB.out.size)
      obtain ⟨t0, t1, t2, t3, t4, t5⟩ := (HT.out.below hb HT.out.lt).all
      go_wp2_with fail
      refine (alive9_any _).mono ?_
      rintro e w7 ⟨rfl, hb7⟩
      go_wp2
      go_ret
      exact ⟨by first | rfl | exact ret_bool (by simp), hB6.trans (hb7.mono hB6.size)⟩
theorem none9_any (W H : Int) (D : Option Addr) (n c : Nat) (f : Nat → Bool) (w0 : World) (hr : Holds w0 w0.heap.size D n f) (hc : n ≤ c) : Calls Try.prog 10 #[.agg #[.int .i64 W, .int .i64 H, .slice D n c]] w0 fun e w' => e = .returned (.bool true) ∧ Below w0.heap.size w0 w' := by
  by_cases hn : 400 < n
  · exact none9_great W H D n c w0 hn
  by_cases hx : chk W H n = 0
  · obtain ⟨W', H', rfl, rfl, h1, h2, h3, h4, rfl⟩ := chk_nat hx
    obtain ⟨A, B, C, hL⟩ := IsL.ex W' H' f h1 h3
    have c0 := hL.c0
    by_cases e : 1 < C
    · exact none9_c W' H' D c f A B C hL w0 hr hc h2 h3 h4 (by omega) e
    · obtain rfl : C = 1 := by omega
      cases hm : mv (A : Nat) (B : Nat)
      · exact none9_m W' H' D c f A B hL w0 hr hc h2 h3 h4 (by omega) hm
      · by_cases k1 : ups W' H' f A = 1
        · exact none9_o W' H' D c f A B hL w0 hr hc h2 h3 h4 (by omega) hm k1
        · by_cases k2 : ups W' H' f A + 1 = A
          · exact none9_l W' H' D c f A B hL w0 hr hc h2 h3 h4 (by omega) hm k1 k2
          · exact none9_u W' H' D c f A B hL w0 hr hc h2 h3 h4 (by omega) hm k1 k2
  · exact none9_bad W H D n c w0 (by omega) hx
end Go.Proofs.Ytmakjdfkldacaaa
