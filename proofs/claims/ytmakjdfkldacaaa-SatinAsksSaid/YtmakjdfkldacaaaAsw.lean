/- The statement SatinAsks: the walk. -/
import Derived.Test.YtmakjdfkldacaaaIsr
import Derived.Test.YtmakjdfkldacaaaOpl
namespace Go.Proofs.Ytmakjdfkldacaaa
open Go.RowKit
set_option maxRecDepth 100000
set_option linter.unusedVariables false
set_option linter.unusedSimpArgs false

theorem asks9_g (W H : Int) (A : Option Addr) (n c : Nat) (w : World) (hn : 400 < n) : Calls Try.prog 5 #[.agg #[.int .i64 W, .int .i64 H, .slice A n c]] w fun e w' => e = .returned (.bool true) ∧ Below w.heap.size w w' := by
  have HG := Lib.hid (fun u => great9_any W H A n c u true (decide_eq_true hn))
  have X0 := Lib.hid (Box.new w W H (.slice A n c))
  have LB0 := Lib.hid (show Below w.heap.size w (w.alloc (.cells #[.int .i64 W, .int .i64 H, .slice A n c] 24)) from (Below.refl _ _).alloc (Nat.le_refl _) _)
  go_enter Try.func5, Try.ntmps5
  obtain ⟨q0, q1, q2, q3, q4, q5, q6⟩ := X0.out.all
  go_wp2_with fail
  clear q0 q1 q2 q3 q4 q5 q6
  refine (HG.out _).mono ?_
  rintro e w1 ⟨rfl, hb⟩
  have X1 := Lib.hid (X0.out.below hb X0.out.lt)
  have LB1 := Lib.hid (LB0.out.trans (hb.mono LB0.out.size))
  clear hb X0 LB0
  go_wp2
  go_ret
  exact ⟨rfl, LB1.out⟩
set_option maxHeartbeats 1600000 in
theorem asks9_main (W H : Int) (A : Option Addr) (n c : Nat) (f : Nat → Bool) (w : World) (hr : Holds w w.heap.size A n f) (hc : n ≤ c) (hn : n ≤ 400) : Calls Try.prog 5 #[.agg #[.int .i64 W, .int .i64 H, .slice A n c]] w fun e w' => e = .returned (.bool true) ∧ Below w.heap.size w w' := by
  have HG := Lib.hid (fun u => great9_any W H A n c u false (decide_eq_false (by omega)))
  obtain ⟨N, l, z1, hN, h1⟩ := mo_two W H A n c f w hr (by omega) hc
  obtain ⟨a, b, u, z2, h2⟩ := is_two9 W H A n c f w hr (by omega) hc
  have H1 := Lib.hid h1
  have H2 := Lib.hid h2
  have s1 : (z1 == z1) = true := by simp
  have s2 : (a == a) = true := by simp
  have s3 : (b == b) = true := by simp
  have s4 : (u == u) = true := by simp
  have s5 : (z2 == z2) = true := by simp
  clear h1 h2 hr
  have X0 := Lib.hid (Box.new w W H (.slice A n c))
  have LB0 := Lib.hid (show Below w.heap.size w (w.alloc (.cells #[.int .i64 W, .int .i64 H, .slice A n c] 24)) from (Below.refl _ _).alloc (Nat.le_refl _) _)
  go_enter Try.func5, Try.ntmps5
  obtain ⟨q0, q1, q2, q3, q4, q5, q6⟩ := X0.out.all
  go_wp2_with fail
  clear q0 q1 q2 q3 q4 q5 q6
  refine (HG.out _).mono ?_
  rintro e w1 ⟨rfl, hb⟩
  have X1 := Lib.hid (X0.out.below hb X0.out.lt)
  have LB1 := Lib.hid (LB0.out.trans (hb.mono LB0.out.size))
  clear hb X0 LB0
  obtain ⟨q0, q1, q2, q3, q4, q5, q6⟩ := X1.out.all
  go_wp2_with fail
  clear q0 q1 q2 q3 q4 q5 q6
  refine ((H1.out _ LB1.out).1).mono ?_
  rintro e w2 ⟨D1, d1, rfl, hl, hb⟩
  have P2 := Lib.hid (LV.of hl)
  have X2 := Lib.hid (X1.out.below hb X1.out.lt)
  have LB2 := Lib.hid (LB1.out.trans (hb.mono LB1.out.size))
  clear hb X1 LB1
  clear hl
  obtain ⟨q0, q1, q2, q3, q4, q5, q6⟩ := X2.out.all
  go_wp2_with fail
  clear q0 q1 q2 q3 q4 q5 q6
  refine ((H1.out _ LB2.out).2).mono ?_
  rintro e w3 ⟨D2, d2, rfl, hl, hb⟩
  have Q3 := Lib.hid (LV.of hl)
  have X3 := Lib.hid (X2.out.below hb X2.out.lt)
  have LB3 := Lib.hid (LB2.out.trans (hb.mono LB2.out.size))
  have P3 := Lib.hid (P2.out.next hb)
  clear hb X2 LB2 P2
  clear hl
  obtain ⟨q0, q1, q2, q3, q4, q5, q6⟩ := X3.out.all
  go_wp2_with fail
  clear q0 q1 q2 q3 q4 q5 q6
  refine ((H2.out _ LB3.out).1).mono ?_
  rintro e w4 ⟨rfl, hb⟩
  have X4 := Lib.hid (X3.out.below hb X3.out.lt)
  have LB4 := Lib.hid (LB3.out.trans (hb.mono LB3.out.size))
  have P4 := Lib.hid (P3.out.next hb)
  have Q4 := Lib.hid (Q3.out.next hb)
  clear hb X3 LB3 P3 Q3
  obtain ⟨q0, q1, q2, q3, q4, q5, q6⟩ := X4.out.all
  go_wp2_with fail
  clear q0 q1 q2 q3 q4 q5 q6
  refine ((H2.out _ LB4.out).2).mono ?_
  rintro e w5 ⟨rfl, hb⟩
  have X5 := Lib.hid (X4.out.below hb X4.out.lt)
  have LB5 := Lib.hid (LB4.out.trans (hb.mono LB4.out.size))
  have P5 := Lib.hid (P4.out.next hb)
  have Q5 := Lib.hid (Q4.out.next hb)
  clear hb X4 LB4 P4 Q4
  go_wp2_with fail
  refine (lv_same (by omega) P5.out Q5.out d1 d2 (fun _ _ => rfl)).mono ?_
  rintro e w6 ⟨rfl, hb⟩
  have X6 := Lib.hid (X5.out.below hb X5.out.lt)
  have LB6 := Lib.hid (LB5.out.trans (hb.mono LB5.out.size))
  have P6 := Lib.hid (P5.out.next hb)
  have Q6 := Lib.hid (Q5.out.next hb)
  clear hb X5 LB5 P5 Q5
  cases u
  all_goals
    go_wp2
    go_ret
    exact ⟨rfl, LB6.out⟩
theorem asks9_any (W H : Int) (A : Option Addr) (n c : Nat) (f : Nat → Bool) (w : World) (hr : Holds w w.heap.size A n f) (hc : n ≤ c) : Calls Try.prog 5 #[.agg #[.int .i64 W, .int .i64 H, .slice A n c]] w fun e w' => e = .returned (.bool true) ∧ Below w.heap.size w w' := by
  by_cases hn : 400 < n
  · exact asks9_g W H A n c w hn
  · exact asks9_main W H A n c f w hr hc (by omega)
end Go.Proofs.Ytmakjdfkldacaaa
