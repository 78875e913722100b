/- Which grids have a motif, which numbers are operations: both sides. -/
import Derived.Test.YtjbofdgdcnfmoaaSya
import Derived.Test.YtjbofdgdcnfmoaaChk
namespace Go.Proofs.Ytjbofdgdcnfmoaa
open Go.RowKit
set_option maxRecDepth 100000
set_option linter.unusedVariables false
set_option linter.unusedSimpArgs false

/-- The error of a grid, as layer 7 asks. -/
def schk (W H : Int) (n : Nat) : Int := if chk W H n ≠ 0 then chk W H n else if 16 < W ∨ 16 < H then 4 else 0
theorem isop_any (v : Int) (w : World) : Calls Try.prog 93 #[.int .i64 v] w fun e w' => e = .returned (.bool (decide (0 ≤ v ∧ v < 16))) ∧ w' = w := by
  by_cases h1 : 0 ≤ v
  · by_cases h2 : v < 16
    · have e : decide (0 ≤ v ∧ v < 16) = true := by simp [h1, h2]
      rw [e]
      clear e
      go_enter Try.func93, Try.ntmps93
      go_wp2
      go_ret
      exact ⟨rfl, rfl⟩
    · have e : decide (0 ≤ v ∧ v < 16) = false := by simp [h2]
      rw [e]
      clear e
      go_enter Try.func93, Try.ntmps93
      go_wp2
      go_ret
      exact ⟨rfl, rfl⟩
  · have e : decide (0 ≤ v ∧ v < 16) = false := by simp [h1]
    rw [e]
    clear e
    go_enter Try.func93, Try.ntmps93
    go_wp2
    go_ret
    exact ⟨rfl, rfl⟩
theorem ris_any (v : Int) (w : World) : Calls Try.prog 67 #[.int .i64 v] w fun e w' => e = .returned (.bool (decide (0 ≤ v ∧ v < 16))) ∧ w' = w := by
  by_cases h1 : 0 ≤ v
  · by_cases h2 : v < 16
    · have e : decide (0 ≤ v ∧ v < 16) = true := by simp [h1, h2]
      rw [e]
      clear e
      go_enter Try.func67, Try.ntmps67
      go_wp2
      go_ret
      exact ⟨rfl, rfl⟩
    · have e : decide (0 ≤ v ∧ v < 16) = false := by simp [h2]
      rw [e]
      clear e
      go_enter Try.func67, Try.ntmps67
      go_wp2
      go_ret
      exact ⟨rfl, rfl⟩
  · have e : decide (0 ≤ v ∧ v < 16) = false := by simp [h1]
    rw [e]
    clear e
    go_enter Try.func67, Try.ntmps67
    go_wp2
    go_ret
    exact ⟨rfl, rfl⟩
set_option maxHeartbeats 800000 in
theorem start_err (W H : Int) (A : Option Addr) (n c : Nat) (w : World) (hn : n ≤ 4200) (z : Int) (hx : chk W H n = z) (hne : (z != 0) = true) :
    Calls Try.prog 103 #[.agg #[.int .i64 W, .int .i64 H, .slice A n c]] w fun e w' => e = .returned (.int .i64 z) ∧ Below w.heap.size w w' := by
  have HC := Lib.hid (fun v => rchk_err (A := A) (c := c) hn hx v)
  have LB0 := Lib.hid (show Below w.heap.size w (w.alloc (.cells #[.int .i64 W, .int .i64 H, .slice A n c] 24)) from (Below.refl _ _).alloc (Nat.le_refl _) _)
  have X0 := Lib.hid (Box.new w W H (.slice A n c))
  clear hx
  go_enter Try.func103, Try.ntmps103
  obtain ⟨q0, q1, q2, q3, q4, q5, q6⟩ := X0.out.all
  go_wp2_with fail
  clear q0 q1 q2 q3 q4 q5 q6
  refine (HC.out _).mono ?_
  rintro e w1 ⟨rfl, hb⟩
  have LB1 := Lib.hid (LB0.out.trans (hb.mono LB0.out.size))
  have X1 := Lib.hid (X0.out.below hb X0.out.lt)
  clear hb
  obtain ⟨q0, q1, q2, q3, q4, q5, q6⟩ := X1.out.all
  go_wp2_with fail
  clear q0 q1 q2 q3 q4 q5 q6
  refine (HC.out _).mono ?_
  rintro e w2 ⟨rfl, hb⟩
  have LB2 := Lib.hid (LB1.out.trans (hb.mono LB1.out.size))
  clear hb
  go_wp2
  go_ret
  exact ⟨rfl, LB2.out⟩
set_option maxHeartbeats 1600000 in
theorem check1_err (W H : Int) (A : Option Addr) (n c kk : Nat) (w : World) (hn : n ≤ 4200) (hb : Box w kk W H (.slice A n c)) (z : Int) (hx : chk W H n = z) (hne : (z != 0) = true) :
    Calls Try.prog 92 #[.slice (some ⟨kk, 0, none⟩) 1 1] w fun e w' => e = .returned (.int .i64 z) ∧ Below w.heap.size w w' := by
  have HC := Lib.hid (fun v => chk_err (A := A) (c := c) hn hx v)
  have LB0 := Lib.hid (show Below w.heap.size w (w.alloc (.cells #[.int .i64 W, .int .i64 H, .slice A n c] 24)) from (Below.refl _ _).alloc (Nat.le_refl _) _)
  have X0 := Lib.hid (Box.new w W H (.slice A n c))
  have HB := Lib.hid hb
  have HBa := Lib.hid (hb.alloc (.cells #[.int .i64 W, .int .i64 H, .slice A n c] 24))
  obtain ⟨p0, p1, p2, p3, p4, p5, p6⟩ := hb.all
  clear hx hb
  go_enter Try.func92, Try.ntmps92
  go_wp2
  refine wp_loop_rounds 2 ?_
  rw [rounds_succ]
  obtain ⟨q0, q1, q2, q3, q4, q5, q6⟩ := X0.out.all
  go_wp2_with fail
  clear q0 q1 q2 q3 q4 q5 q6 p0 p1 p2 p3 p4 p5 p6
  refine (HC.out _).mono ?_
  rintro e w1 ⟨rfl, hb⟩
  have LB1 := Lib.hid (LB0.out.trans (hb.mono LB0.out.size))
  have B1 := Lib.hid (HBa.out.below hb HBa.out.lt)
  clear hb
  go_wp2
  go_ret
  exact ⟨rfl, LB1.out⟩
set_option maxHeartbeats 800000 in
theorem start_w (W H : Int) (A : Option Addr) (n c : Nat) (w : World) (hn : n ≤ 4200) (hx : chk W H n = 0) (h1 : 16 < W) :
    Calls Try.prog 103 #[.agg #[.int .i64 W, .int .i64 H, .slice A n c]] w fun e w' => e = .returned (.int .i64 4) ∧ Below w.heap.size w w' := by
  have HC := Lib.hid (fun v => rchk_err (A := A) (c := c) hn hx v)
  have LB0 := Lib.hid (show Below w.heap.size w (w.alloc (.cells #[.int .i64 W, .int .i64 H, .slice A n c] 24)) from (Below.refl _ _).alloc (Nat.le_refl _) _)
  have X0 := Lib.hid (Box.new w W H (.slice A n c))
  clear hx
  go_enter Try.func103, Try.ntmps103
  obtain ⟨q0, q1, q2, q3, q4, q5, q6⟩ := X0.out.all
  go_wp2_with fail
  clear q0 q1 q2 q3 q4 q5 q6
  refine (HC.out _).mono ?_
  rintro e w1 ⟨rfl, hb⟩
  have LB1 := Lib.hid (LB0.out.trans (hb.mono LB0.out.size))
  have X1 := Lib.hid (X0.out.below hb X0.out.lt)
  clear hb
  obtain ⟨q0, q1, q2, q3, q4, q5, q6⟩ := X1.out.all
  go_wp2
  go_ret
  exact ⟨rfl, LB1.out⟩
set_option maxHeartbeats 1600000 in
theorem check1_w (W H : Int) (A : Option Addr) (n c kk : Nat) (w : World) (hn : n ≤ 4200) (hb : Box w kk W H (.slice A n c)) (hx : chk W H n = 0) (h1 : 16 < W) :
    Calls Try.prog 92 #[.slice (some ⟨kk, 0, none⟩) 1 1] w fun e w' => e = .returned (.int .i64 4) ∧ Below w.heap.size w w' := by
  have HC := Lib.hid (fun v => chk_err (A := A) (c := c) hn hx v)
  have LB0 := Lib.hid (show Below w.heap.size w (w.alloc (.cells #[.int .i64 W, .int .i64 H, .slice A n c] 24)) from (Below.refl _ _).alloc (Nat.le_refl _) _)
  have X0 := Lib.hid (Box.new w W H (.slice A n c))
  have HB := Lib.hid hb
  have HBa := Lib.hid (hb.alloc (.cells #[.int .i64 W, .int .i64 H, .slice A n c] 24))
  obtain ⟨p0, p1, p2, p3, p4, p5, p6⟩ := hb.all
  clear hx hb
  go_enter Try.func92, Try.ntmps92
  go_wp2
  refine wp_loop_rounds 2 ?_
  rw [rounds_succ]
  obtain ⟨q0, q1, q2, q3, q4, q5, q6⟩ := X0.out.all
  go_wp2_with fail
  clear q0 q1 q2 q3 q4 q5 q6 p0 p1 p2 p3 p4 p5 p6
  refine (HC.out _).mono ?_
  rintro e w1 ⟨rfl, hb⟩
  have LB1 := Lib.hid (LB0.out.trans (hb.mono LB0.out.size))
  have B1 := Lib.hid (HBa.out.below hb HBa.out.lt)
  clear hb
  go_wp2
  rw [rounds_succ]
  go_wp2
  refine wp_loop_rounds 2 ?_
  rw [rounds_succ]
  obtain ⟨p0, p1, p2, p3, p4, p5, p6⟩ := B1.out.all
  obtain ⟨q0, q1, q2, q3, q4, q5, q6⟩ := (Box.new w1 W H (.slice A n c)).all
  have LB2 := Lib.hid (LB1.out.alloc LB1.out.size (.cells #[.int .i64 W, .int .i64 H, .slice A n c] 24))
  go_wp2
  go_ret
  exact ⟨rfl, LB2.out⟩
set_option maxHeartbeats 800000 in
theorem start_h (W H : Int) (A : Option Addr) (n c : Nat) (w : World) (hn : n ≤ 4200) (hx : chk W H n = 0) (h0 : ¬ 16 < W) (h1 : 16 < H) :
    Calls Try.prog 103 #[.agg #[.int .i64 W, .int .i64 H, .slice A n c]] w fun e w' => e = .returned (.int .i64 4) ∧ Below w.heap.size w w' := by
  have HC := Lib.hid (fun v => rchk_err (A := A) (c := c) hn hx v)
  have LB0 := Lib.hid (show Below w.heap.size w (w.alloc (.cells #[.int .i64 W, .int .i64 H, .slice A n c] 24)) from (Below.refl _ _).alloc (Nat.le_refl _) _)
  have X0 := Lib.hid (Box.new w W H (.slice A n c))
  clear hx
  go_enter Try.func103, Try.ntmps103
  obtain ⟨q0, q1, q2, q3, q4, q5, q6⟩ := X0.out.all
  go_wp2_with fail
  clear q0 q1 q2 q3 q4 q5 q6
  refine (HC.out _).mono ?_
  rintro e w1 ⟨rfl, hb⟩
  have LB1 := Lib.hid (LB0.out.trans (hb.mono LB0.out.size))
  have X1 := Lib.hid (X0.out.below hb X0.out.lt)
  clear hb
  obtain ⟨q0, q1, q2, q3, q4, q5, q6⟩ := X1.out.all
  go_wp2
  go_ret
  exact ⟨rfl, LB1.out⟩
set_option maxHeartbeats 1600000 in
theorem check1_h (W H : Int) (A : Option Addr) (n c kk : Nat) (w : World) (hn : n ≤ 4200) (hb : Box w kk W H (.slice A n c)) (hx : chk W H n = 0) (h0 : ¬ 16 < W) (h1 : 16 < H) :
    Calls Try.prog 92 #[.slice (some ⟨kk, 0, none⟩) 1 1] w fun e w' => e = .returned (.int .i64 4) ∧ Below w.heap.size w w' := by
  have HC := Lib.hid (fun v => chk_err (A := A) (c := c) hn hx v)
  have LB0 := Lib.hid (show Below w.heap.size w (w.alloc (.cells #[.int .i64 W, .int .i64 H, .slice A n c] 24)) from (Below.refl _ _).alloc (Nat.le_refl _) _)
  have X0 := Lib.hid (Box.new w W H (.slice A n c))
  have HB := Lib.hid hb
  have HBa := Lib.hid (hb.alloc (.cells #[.int .i64 W, .int .i64 H, .slice A n c] 24))
  obtain ⟨p0, p1, p2, p3, p4, p5, p6⟩ := hb.all
  clear hx hb
  go_enter Try.func92, Try.ntmps92
  go_wp2
  refine wp_loop_rounds 2 ?_
  rw [rounds_succ]
  obtain ⟨q0, q1, q2, q3, q4, q5, q6⟩ := X0.out.all
  go_wp2_with fail
  clear q0 q1 q2 q3 q4 q5 q6 p0 p1 p2 p3 p4 p5 p6
  refine (HC.out _).mono ?_
  rintro e w1 ⟨rfl, hb⟩
  have LB1 := Lib.hid (LB0.out.trans (hb.mono LB0.out.size))
  have B1 := Lib.hid (HBa.out.below hb HBa.out.lt)
  clear hb
  go_wp2
  rw [rounds_succ]
  go_wp2
  refine wp_loop_rounds 2 ?_
  rw [rounds_succ]
  obtain ⟨p0, p1, p2, p3, p4, p5, p6⟩ := B1.out.all
  obtain ⟨q0, q1, q2, q3, q4, q5, q6⟩ := (Box.new w1 W H (.slice A n c)).all
  have LB2 := Lib.hid (LB1.out.alloc LB1.out.size (.cells #[.int .i64 W, .int .i64 H, .slice A n c] 24))
  go_wp2
  go_ret
  exact ⟨rfl, LB2.out⟩
set_option maxHeartbeats 800000 in
theorem start_ok (W H : Int) (A : Option Addr) (n c : Nat) (w : World) (hn : n ≤ 4200) (hx : chk W H n = 0) (h0 : ¬ 16 < W) (h1 : ¬ 16 < H) :
    Calls Try.prog 103 #[.agg #[.int .i64 W, .int .i64 H, .slice A n c]] w fun e w' => e = .returned (.int .i64 0) ∧ Below w.heap.size w w' := by
  have HC := Lib.hid (fun v => rchk_err (A := A) (c := c) hn hx v)
  have LB0 := Lib.hid (show Below w.heap.size w (w.alloc (.cells #[.int .i64 W, .int .i64 H, .slice A n c] 24)) from (Below.refl _ _).alloc (Nat.le_refl _) _)
  have X0 := Lib.hid (Box.new w W H (.slice A n c))
  clear hx
  go_enter Try.func103, Try.ntmps103
  obtain ⟨q0, q1, q2, q3, q4, q5, q6⟩ := X0.out.all
  go_wp2_with fail
  clear q0 q1 q2 q3 q4 q5 q6
  refine (HC.out _).mono ?_
  rintro e w1 ⟨rfl, hb⟩
  have LB1 := Lib.hid (LB0.out.trans (hb.mono LB0.out.size))
  have X1 := Lib.hid (X0.out.below hb X0.out.lt)
  clear hb
  obtain ⟨q0, q1, q2, q3, q4, q5, q6⟩ := X1.out.all
  go_wp2
  go_ret
  exact ⟨rfl, LB1.out⟩
set_option maxHeartbeats 1600000 in
theorem check1_ok (W H : Int) (A : Option Addr) (n c kk : Nat) (w : World) (hn : n ≤ 4200) (hb : Box w kk W H (.slice A n c)) (hx : chk W H n = 0) (h0 : ¬ 16 < W) (h1 : ¬ 16 < H) :
    Calls Try.prog 92 #[.slice (some ⟨kk, 0, none⟩) 1 1] w fun e w' => e = .returned (.int .i64 0) ∧ Below w.heap.size w w' := by
  have HC := Lib.hid (fun v => chk_err (A := A) (c := c) hn hx v)
  have LB0 := Lib.hid (show Below w.heap.size w (w.alloc (.cells #[.int .i64 W, .int .i64 H, .slice A n c] 24)) from (Below.refl _ _).alloc (Nat.le_refl _) _)
  have X0 := Lib.hid (Box.new w W H (.slice A n c))
  have HB := Lib.hid hb
  have HBa := Lib.hid (hb.alloc (.cells #[.int .i64 W, .int .i64 H, .slice A n c] 24))
  obtain ⟨p0, p1, p2, p3, p4, p5, p6⟩ := hb.all
  clear hx hb
  go_enter Try.func92, Try.ntmps92
  go_wp2
  refine wp_loop_rounds 2 ?_
  rw [rounds_succ]
  obtain ⟨q0, q1, q2, q3, q4, q5, q6⟩ := X0.out.all
  go_wp2_with fail
  clear q0 q1 q2 q3 q4 q5 q6 p0 p1 p2 p3 p4 p5 p6
  refine (HC.out _).mono ?_
  rintro e w1 ⟨rfl, hb⟩
  have LB1 := Lib.hid (LB0.out.trans (hb.mono LB0.out.size))
  have B1 := Lib.hid (HBa.out.below hb HBa.out.lt)
  clear hb
  go_wp2
  rw [rounds_succ]
  go_wp2
  refine wp_loop_rounds 2 ?_
  rw [rounds_succ]
  obtain ⟨p0, p1, p2, p3, p4, p5, p6⟩ := B1.out.all
  obtain ⟨q0, q1, q2, q3, q4, q5, q6⟩ := (Box.new w1 W H (.slice A n c)).all
  have LB2 := Lib.hid (LB1.out.alloc LB1.out.size (.cells #[.int .i64 W, .int .i64 H, .slice A n c] 24))
  go_wp2
  rw [rounds_succ]
  go_wp2
  go_ret
  exact ⟨rfl, LB2.out⟩
theorem start_any (W H : Int) (A : Option Addr) (n c : Nat) (w : World) (hn : n ≤ 4200) : Calls Try.prog 103 #[.agg #[.int .i64 W, .int .i64 H, .slice A n c]] w fun e w' => e = .returned (.int .i64 (schk W H n)) ∧ Below w.heap.size w w' := by
  unfold schk
  by_cases hx : chk W H n = 0
  · rw [if_neg (by simpa using hx)]
    by_cases h1 : 16 < W
    · rw [if_pos (Or.inl h1)]; exact start_w W H A n c w hn hx h1
    · by_cases h2 : 16 < H
      · rw [if_pos (Or.inr h2)]; exact start_h W H A n c w hn hx h1 h2
      · rw [if_neg (by omega)]; exact start_ok W H A n c w hn hx h1 h2
  · rw [if_pos hx]; exact start_err W H A n c w hn _ rfl (by simpa using hx)
theorem check1_any (W H : Int) (A : Option Addr) (n c kk : Nat) (w : World) (hn : n ≤ 4200) (hb : Box w kk W H (.slice A n c)) : Calls Try.prog 92 #[.slice (some ⟨kk, 0, none⟩) 1 1] w fun e w' => e = .returned (.int .i64 (schk W H n)) ∧ Below w.heap.size w w' := by
  unfold schk
  by_cases hx : chk W H n = 0
  · rw [if_neg (by simpa using hx)]
    by_cases h1 : 16 < W
    · rw [if_pos (Or.inl h1)]; exact check1_w W H A n c kk w hn hb hx h1
    · by_cases h2 : 16 < H
      · rw [if_pos (Or.inr h2)]; exact check1_h W H A n c kk w hn hb hx h1 h2
      · rw [if_neg (by omega)]; exact check1_ok W H A n c kk w hn hb hx h1 h2
  · rw [if_pos hx]; exact check1_err W H A n c kk w hn hb _ rfl (by simpa using hx)
/-- The reference's Great answers this. -/
theorem great7_n (W H : Int) (A : Option Addr) (n c : Nat) (w : World) (h : 500 < n) : Calls Try.prog 57 #[.agg #[.int .i64 W, .int .i64 H, .slice A n c]] w fun e w' => e = .returned (.bool true) ∧ Below w.heap.size w w' := by
  have LB0 := Lib.hid (show Below w.heap.size w (w.alloc (.cells #[.int .i64 W, .int .i64 H, .slice A n c] 24)) from (Below.refl _ _).alloc (Nat.le_refl _) _)
  have X0 := Lib.hid (Box.new w W H (.slice A n c))
  have x1 : decide ((500 : Int) < (n : Int)) = true := by simp; omega
  go_enter Try.func57, Try.ntmps57
  obtain ⟨q0, q1, q2, q3, q4, q5, q6⟩ := X0.out.all
  go_wp2
  go_ret
  exact ⟨rfl, LB0.out⟩
set_option maxHeartbeats 800000 in
theorem great7_bad (W H : Int) (A : Option Addr) (n c : Nat) (w : World) (h : n ≤ 500) (z : Int) (hx : schk W H n = z) (hne : ¬ z = 0) : Calls Try.prog 57 #[.agg #[.int .i64 W, .int .i64 H, .slice A n c]] w fun e w' => e = .returned (.bool false) ∧ Below w.heap.size w w' := by
  have LB0 := Lib.hid (show Below w.heap.size w (w.alloc (.cells #[.int .i64 W, .int .i64 H, .slice A n c] 24)) from (Below.refl _ _).alloc (Nat.le_refl _) _)
  have X0 := Lib.hid (Box.new w W H (.slice A n c))
  have HC := Lib.hid (fun v => (show Calls Try.prog 103 #[.agg #[.int .i64 W, .int .i64 H, .slice A n c]] v fun e w' => e = .returned (.int .i64 z) ∧ Below v.heap.size v w' by have := start_any W H A n c v (by omega); rw [hx] at this; exact this))
  have x1 : decide ((500 : Int) < (n : Int)) = false := by simp; omega
  have x2 : (z == 0) = false := by simpa using hne
  clear hx
  go_enter Try.func57, Try.ntmps57
  obtain ⟨q0, q1, q2, q3, q4, q5, q6⟩ := X0.out.all
  go_wp2_with fail
  clear q0 q1 q2 q3 q4 q5 q6
  refine (HC.out _).mono ?_
  rintro e w1 ⟨rfl, hb⟩
  have LB1 := Lib.hid (LB0.out.trans (hb.mono LB0.out.size))
  obtain ⟨q0, q1, q2, q3, q4, q5, q6⟩ := (X0.out.below hb X0.out.lt).all
  clear hb
  go_wp2
  go_ret
  exact ⟨rfl, LB1.out⟩
set_option maxHeartbeats 800000 in
theorem great7_w (W H : Int) (A : Option Addr) (n c : Nat) (w : World) (h : n ≤ 500) (hx : schk W H n = 0) (h1 : 8 < W) : Calls Try.prog 57 #[.agg #[.int .i64 W, .int .i64 H, .slice A n c]] w fun e w' => e = .returned (.bool true) ∧ Below w.heap.size w w' := by
  have LB0 := Lib.hid (show Below w.heap.size w (w.alloc (.cells #[.int .i64 W, .int .i64 H, .slice A n c] 24)) from (Below.refl _ _).alloc (Nat.le_refl _) _)
  have X0 := Lib.hid (Box.new w W H (.slice A n c))
  have HC := Lib.hid (fun v => (show Calls Try.prog 103 #[.agg #[.int .i64 W, .int .i64 H, .slice A n c]] v fun e w' => e = .returned (.int .i64 0) ∧ Below v.heap.size v w' by have := start_any W H A n c v (by omega); rw [hx] at this; exact this))
  have x1 : decide ((500 : Int) < (n : Int)) = false := by simp; omega
  clear hx
  go_enter Try.func57, Try.ntmps57
  obtain ⟨q0, q1, q2, q3, q4, q5, q6⟩ := X0.out.all
  go_wp2_with fail
  clear q0 q1 q2 q3 q4 q5 q6
  refine (HC.out _).mono ?_
  rintro e w1 ⟨rfl, hb⟩
  have LB1 := Lib.hid (LB0.out.trans (hb.mono LB0.out.size))
  obtain ⟨q0, q1, q2, q3, q4, q5, q6⟩ := (X0.out.below hb X0.out.lt).all
  clear hb
  go_wp2
  go_ret
  exact ⟨rfl, LB1.out⟩
set_option maxHeartbeats 800000 in
theorem great7_h (W H : Int) (A : Option Addr) (n c : Nat) (w : World) (h : n ≤ 500) (hx : schk W H n = 0) (h0 : ¬ 8 < W) (h1 : 8 < H) : Calls Try.prog 57 #[.agg #[.int .i64 W, .int .i64 H, .slice A n c]] w fun e w' => e = .returned (.bool true) ∧ Below w.heap.size w w' := by
  have LB0 := Lib.hid (show Below w.heap.size w (w.alloc (.cells #[.int .i64 W, .int .i64 H, .slice A n c] 24)) from (Below.refl _ _).alloc (Nat.le_refl _) _)
  have X0 := Lib.hid (Box.new w W H (.slice A n c))
  have HC := Lib.hid (fun v => (show Calls Try.prog 103 #[.agg #[.int .i64 W, .int .i64 H, .slice A n c]] v fun e w' => e = .returned (.int .i64 0) ∧ Below v.heap.size v w' by have := start_any W H A n c v (by omega); rw [hx] at this; exact this))
  have x1 : decide ((500 : Int) < (n : Int)) = false := by simp; omega
  clear hx
  go_enter Try.func57, Try.ntmps57
  obtain ⟨q0, q1, q2, q3, q4, q5, q6⟩ := X0.out.all
  go_wp2_with fail
  clear q0 q1 q2 q3 q4 q5 q6
  refine (HC.out _).mono ?_
  rintro e w1 ⟨rfl, hb⟩
  have LB1 := Lib.hid (LB0.out.trans (hb.mono LB0.out.size))
  obtain ⟨q0, q1, q2, q3, q4, q5, q6⟩ := (X0.out.below hb X0.out.lt).all
  clear hb
  go_wp2
  go_ret
  exact ⟨rfl, LB1.out⟩
set_option maxHeartbeats 800000 in
theorem great7_p (W H : Int) (A : Option Addr) (n c : Nat) (w : World) (h : n ≤ 500) (hx : schk W H n = 0) (h0 : ¬ 8 < W) (h1 : ¬ 8 < H) (hw : 0 ≤ W) (hh : 0 ≤ H) (hp : 36 < W * H) : Calls Try.prog 57 #[.agg #[.int .i64 W, .int .i64 H, .slice A n c]] w fun e w' => e = .returned (.bool true) ∧ Below w.heap.size w w' := by
  have LB0 := Lib.hid (show Below w.heap.size w (w.alloc (.cells #[.int .i64 W, .int .i64 H, .slice A n c] 24)) from (Below.refl _ _).alloc (Nat.le_refl _) _)
  have X0 := Lib.hid (Box.new w W H (.slice A n c))
  have HC := Lib.hid (fun v => (show Calls Try.prog 103 #[.agg #[.int .i64 W, .int .i64 H, .slice A n c]] v fun e w' => e = .returned (.int .i64 0) ∧ Below v.heap.size v w' by have := start_any W H A n c v (by omega); rw [hx] at this; exact this))
  have x1 : decide ((500 : Int) < (n : Int)) = false := by simp; omega
  have x3 : IntKind.i64.wrap (W * H) = W * H := IntWalk.i64_in _ (by obtain ⟨m1, m2⟩ := mul_bd (W := W) (y := H) hw (by omega) hh (by omega); rw [Int.mul_comm] at m1 m2; omega)
  clear hx
  go_enter Try.func57, Try.ntmps57
  obtain ⟨q0, q1, q2, q3, q4, q5, q6⟩ := X0.out.all
  go_wp2_with fail
  clear q0 q1 q2 q3 q4 q5 q6
  refine (HC.out _).mono ?_
  rintro e w1 ⟨rfl, hb⟩
  have LB1 := Lib.hid (LB0.out.trans (hb.mono LB0.out.size))
  obtain ⟨q0, q1, q2, q3, q4, q5, q6⟩ := (X0.out.below hb X0.out.lt).all
  clear hb
  go_wp2
  go_ret
  exact ⟨rfl, LB1.out⟩
set_option maxHeartbeats 800000 in
theorem great7_ok (W H : Int) (A : Option Addr) (n c : Nat) (w : World) (h : n ≤ 500) (hx : schk W H n = 0) (h0 : ¬ 8 < W) (h1 : ¬ 8 < H) (hw : 0 ≤ W) (hh : 0 ≤ H) (hp : ¬ 36 < W * H) : Calls Try.prog 57 #[.agg #[.int .i64 W, .int .i64 H, .slice A n c]] w fun e w' => e = .returned (.bool false) ∧ Below w.heap.size w w' := by
  have LB0 := Lib.hid (show Below w.heap.size w (w.alloc (.cells #[.int .i64 W, .int .i64 H, .slice A n c] 24)) from (Below.refl _ _).alloc (Nat.le_refl _) _)
  have X0 := Lib.hid (Box.new w W H (.slice A n c))
  have HC := Lib.hid (fun v => (show Calls Try.prog 103 #[.agg #[.int .i64 W, .int .i64 H, .slice A n c]] v fun e w' => e = .returned (.int .i64 0) ∧ Below v.heap.size v w' by have := start_any W H A n c v (by omega); rw [hx] at this; exact this))
  have x1 : decide ((500 : Int) < (n : Int)) = false := by simp; omega
  have x3 : IntKind.i64.wrap (W * H) = W * H := IntWalk.i64_in _ (by obtain ⟨m1, m2⟩ := mul_bd (W := W) (y := H) hw (by omega) hh (by omega); rw [Int.mul_comm] at m1 m2; omega)
  clear hx
  go_enter Try.func57, Try.ntmps57
  obtain ⟨q0, q1, q2, q3, q4, q5, q6⟩ := X0.out.all
  go_wp2_with fail
  clear q0 q1 q2 q3 q4 q5 q6
  refine (HC.out _).mono ?_
  rintro e w1 ⟨rfl, hb⟩
  have LB1 := Lib.hid (LB0.out.trans (hb.mono LB0.out.size))
  obtain ⟨q0, q1, q2, q3, q4, q5, q6⟩ := (X0.out.below hb X0.out.lt).all
  clear hb
  go_wp2
  go_ret
  exact ⟨ret_bool (by simp; omega), LB1.out⟩
theorem schk_ok {W H : Int} {n : Nat} (h : schk W H n = 0) : chk W H n = 0 ∧ W ≤ 16 ∧ H ≤ 16 := by
  unfold schk at h
  by_cases hx : chk W H n = 0
  · rw [if_neg (by simpa using hx)] at h
    by_cases h1 : 16 < W ∨ 16 < H
    · rw [if_pos h1] at h; cases h
    · exact ⟨hx, by omega, by omega⟩
  · rw [if_pos hx] at h; exact absurd h hx
theorem great7_case (W H : Int) (A : Option Addr) (n c : Nat) : (∀ w, Calls Try.prog 57 #[.agg #[.int .i64 W, .int .i64 H, .slice A n c]] w fun e w' => e = .returned (.bool true) ∧ Below w.heap.size w w') ∨ (n ≤ 500 ∧ ∀ w, Calls Try.prog 57 #[.agg #[.int .i64 W, .int .i64 H, .slice A n c]] w fun e w' => e = .returned (.bool false) ∧ Below w.heap.size w w') := by
  by_cases hn : 500 < n
  · exact .inl fun w => great7_n W H A n c w hn
  · have hn : n ≤ 500 := by omega
    by_cases hx : schk W H n = 0
    · obtain ⟨a1, a2, a3⟩ := schk_ok hx
      obtain ⟨b1, b2, b3, b4, b5⟩ := chk_ok a1
      by_cases h1 : 8 < W
      · exact .inl fun w => great7_w W H A n c w hn hx h1
      · by_cases h2 : 8 < H
        · exact .inl fun w => great7_h W H A n c w hn hx h1 h2
        · by_cases h3 : 36 < W * H
          · exact .inl fun w => great7_p W H A n c w hn hx h1 h2 (by omega) (by omega) h3
          · exact .inr ⟨hn, fun w => great7_ok W H A n c w hn hx h1 h2 (by omega) (by omega) h3⟩
    · exact .inr ⟨hn, fun w => great7_bad W H A n c w hn _ rfl hx⟩
end Go.Proofs.Ytjbofdgdcnfmoaa
