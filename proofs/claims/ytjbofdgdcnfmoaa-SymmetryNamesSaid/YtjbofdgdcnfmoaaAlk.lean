/- The checks of two grids, of both sides. -/
import Derived.Test.YtjbofdgdcnfmoaaHas
import Derived.Test.YtjbofdgdcnfmoaaCb
namespace Go.Proofs.Ytjbofdgdcnfmoaa
open Go.RowKit
set_option maxRecDepth 100000
set_option linter.unusedVariables false
set_option linter.unusedSimpArgs false

/-- Two grids side by side in a block. -/
def Bx2 (w : World) (kk : Nat) (W H : Int) (s : Value) (X Y : Int) (t : Value) : Prop := w.heap[kk]? = some (.cells #[.int .i64 W, .int .i64 H, s, .int .i64 X, .int .i64 Y, t] 24 (0, 0))
theorem Bx2.lt {w : World} {kk : Nat} {W H X Y : Int} {s t : Value} (h : Bx2 w kk W H s X Y t) : kk < w.heap.size := (Array.getElem?_eq_some_iff.1 h).1
theorem Bx2.below {w w' : World} {kk B : Nat} {W H X Y : Int} {s t : Value} (h : Bx2 w kk W H s X Y t) (hb : Below B w w') (hg : kk < B) : Bx2 w' kk W H s X Y t := (hb.block kk hg).trans h
theorem Bx2.alloc {w : World} {kk : Nat} {W H X Y : Int} {s t : Value} (h : Bx2 w kk W H s X Y t) (o : Obj) : Bx2 (w.alloc o) kk W H s X Y t := (Below.heap_alloc w o kk h.lt).trans h
theorem Bx2.all {w : World} {kk : Nat} {W H X Y : Int} {s t : Value} (h : Bx2 w kk W H s X Y t) : w.cell? ⟨kk, 0, none⟩ = some (.int .i64 W) ∧ w.cell? ⟨kk, 1, none⟩ = some (.int .i64 H) ∧ w.cell? ⟨kk, 2, none⟩ = some s ∧ w.cell? ⟨kk, 3, none⟩ = some (.int .i64 X) ∧ w.cell? ⟨kk, 4, none⟩ = some (.int .i64 Y) ∧ w.cell? ⟨kk, 5, none⟩ = some t := by
  unfold Bx2 at h
  simp [World.cell?, h]
/-- The error of two grids, as layer 7 asks. -/
def bchk (W H : Int) (n : Nat) (X Y : Int) (m : Nat) : Int := if (if chk W H n = 0 then chk X Y m else chk W H n) ≠ 0 then (if chk W H n = 0 then chk X Y m else chk W H n) else if schk W H n ≠ 0 then schk W H n else schk X Y m
set_option maxHeartbeats 1600000 in
theorem check2_e1 (W H : Int) (A : Option Addr) (n c : Nat) (X Y : Int) (D : Option Addr) (m d kk : Nat) (w : World) (hn : n ≤ 4200) (hm : m ≤ 4200) (hb : Bx2 w kk W H (.slice A n c) X Y (.slice D m d)) (z : Int) (hx : chk W H n = z) (hne : (z != 0) = true) :
    Calls Try.prog 92 #[.slice (some ⟨kk, 0, none⟩) 2 2] w fun e w' => e = .returned (.int .i64 z) ∧ Below w.heap.size w w' := by
  have HC1 := Lib.hid (fun v => chk_err (A := A) (c := c) hn hx v)
  have LB0 := Lib.hid (show Below w.heap.size w (w.alloc (.cells #[.int .i64 W, .int .i64 H, .slice A n c] 24)) from (Below.refl _ _).alloc (Nat.le_refl _) _)
  have X0 := Lib.hid (Box.new w W H (.slice A n c))
  have HB := Lib.hid hb
  have HBa := Lib.hid (hb.alloc (.cells #[.int .i64 W, .int .i64 H, .slice A n c] 24))
  obtain ⟨p0, p1, p2, p3, p4, p5⟩ := hb.all
  clear hx hb
  go_enter Try.func92, Try.ntmps92
  go_wp2
  refine wp_loop_rounds 3 ?_
  rw [rounds_succ]
  obtain ⟨q0, q1, q2, q3, q4, q5, q6⟩ := X0.out.all
  go_wp2_with fail
  clear q0 q1 q2 q3 q4 q5 q6 p0 p1 p2 p3 p4 p5
  refine (HC1.out _).mono ?_
  rintro e w1 ⟨rfl, hb⟩
  have LB1 := Lib.hid (LB0.out.trans (hb.mono LB0.out.size))
  have B1 := Lib.hid (HBa.out.below hb HBa.out.lt)
  clear hb
  go_wp2
  go_ret
  exact ⟨rfl, LB1.out⟩
set_option maxHeartbeats 1600000 in
theorem check2_e2 (W H : Int) (A : Option Addr) (n c : Nat) (X Y : Int) (D : Option Addr) (m d kk : Nat) (w : World) (hn : n ≤ 4200) (hm : m ≤ 4200) (hb : Bx2 w kk W H (.slice A n c) X Y (.slice D m d)) (z : Int) (hx : chk W H n = 0) (hy : chk X Y m = z) (hne : (z != 0) = true) :
    Calls Try.prog 92 #[.slice (some ⟨kk, 0, none⟩) 2 2] w fun e w' => e = .returned (.int .i64 z) ∧ Below w.heap.size w w' := by
  have HC1 := Lib.hid (fun v => chk_err (A := A) (c := c) hn hx v)
  have HC2 := Lib.hid (fun v => chk_err (A := D) (c := d) hm hy v)
  have LB0 := Lib.hid (show Below w.heap.size w (w.alloc (.cells #[.int .i64 W, .int .i64 H, .slice A n c] 24)) from (Below.refl _ _).alloc (Nat.le_refl _) _)
  have X0 := Lib.hid (Box.new w W H (.slice A n c))
  have HB := Lib.hid hb
  have HBa := Lib.hid (hb.alloc (.cells #[.int .i64 W, .int .i64 H, .slice A n c] 24))
  obtain ⟨p0, p1, p2, p3, p4, p5⟩ := hb.all
  clear hx hb hy
  go_enter Try.func92, Try.ntmps92
  go_wp2
  refine wp_loop_rounds 3 ?_
  rw [rounds_succ]
  obtain ⟨q0, q1, q2, q3, q4, q5, q6⟩ := X0.out.all
  go_wp2_with fail
  clear q0 q1 q2 q3 q4 q5 q6 p0 p1 p2 p3 p4 p5
  refine (HC1.out _).mono ?_
  rintro e w1 ⟨rfl, hb⟩
  have LB1 := Lib.hid (LB0.out.trans (hb.mono LB0.out.size))
  have B1 := Lib.hid (HBa.out.below hb HBa.out.lt)
  clear hb
  go_wp2
  rw [rounds_succ]
  obtain ⟨p0, p1, p2, p3, p4, p5⟩ := B1.out.all
  obtain ⟨q0, q1, q2, q3, q4, q5, q6⟩ := (Box.new w1 X Y (.slice D m d)).all
  have LB2 := Lib.hid (LB1.out.alloc LB1.out.size (.cells #[.int .i64 X, .int .i64 Y, .slice D m d] 24))
  have B2 := Lib.hid (B1.out.alloc (.cells #[.int .i64 X, .int .i64 Y, .slice D m d] 24))
  go_wp2_with fail
  clear q0 q1 q2 q3 q4 q5 q6 p0 p1 p2 p3 p4 p5
  refine (HC2.out _).mono ?_
  rintro e w2 ⟨rfl, hb⟩
  have LB3 := Lib.hid (LB2.out.trans (hb.mono LB2.out.size))
  have B3 := Lib.hid (B2.out.below hb B2.out.lt)
  clear hb
  go_wp2
  go_ret
  exact ⟨rfl, LB3.out⟩
set_option maxHeartbeats 1600000 in
theorem check2_w1 (W H : Int) (A : Option Addr) (n c : Nat) (X Y : Int) (D : Option Addr) (m d kk : Nat) (w : World) (hn : n ≤ 4200) (hm : m ≤ 4200) (hb : Bx2 w kk W H (.slice A n c) X Y (.slice D m d)) (hx : chk W H n = 0) (hy : chk X Y m = 0) (h1 : 16 < W) :
    Calls Try.prog 92 #[.slice (some ⟨kk, 0, none⟩) 2 2] w fun e w' => e = .returned (.int .i64 4) ∧ Below w.heap.size w w' := by
  have HC1 := Lib.hid (fun v => chk_err (A := A) (c := c) hn hx v)
  have HC2 := Lib.hid (fun v => chk_err (A := D) (c := d) hm hy v)
  have LB0 := Lib.hid (show Below w.heap.size w (w.alloc (.cells #[.int .i64 W, .int .i64 H, .slice A n c] 24)) from (Below.refl _ _).alloc (Nat.le_refl _) _)
  have X0 := Lib.hid (Box.new w W H (.slice A n c))
  have HB := Lib.hid hb
  have HBa := Lib.hid (hb.alloc (.cells #[.int .i64 W, .int .i64 H, .slice A n c] 24))
  obtain ⟨p0, p1, p2, p3, p4, p5⟩ := hb.all
  clear hx hb hy
  go_enter Try.func92, Try.ntmps92
  go_wp2
  refine wp_loop_rounds 3 ?_
  rw [rounds_succ]
  obtain ⟨q0, q1, q2, q3, q4, q5, q6⟩ := X0.out.all
  go_wp2_with fail
  clear q0 q1 q2 q3 q4 q5 q6 p0 p1 p2 p3 p4 p5
  refine (HC1.out _).mono ?_
  rintro e w1 ⟨rfl, hb⟩
  have LB1 := Lib.hid (LB0.out.trans (hb.mono LB0.out.size))
  have B1 := Lib.hid (HBa.out.below hb HBa.out.lt)
  clear hb
  go_wp2
  rw [rounds_succ]
  obtain ⟨p0, p1, p2, p3, p4, p5⟩ := B1.out.all
  obtain ⟨q0, q1, q2, q3, q4, q5, q6⟩ := (Box.new w1 X Y (.slice D m d)).all
  have LB2 := Lib.hid (LB1.out.alloc LB1.out.size (.cells #[.int .i64 X, .int .i64 Y, .slice D m d] 24))
  have B2 := Lib.hid (B1.out.alloc (.cells #[.int .i64 X, .int .i64 Y, .slice D m d] 24))
  go_wp2_with fail
  clear q0 q1 q2 q3 q4 q5 q6 p0 p1 p2 p3 p4 p5
  refine (HC2.out _).mono ?_
  rintro e w2 ⟨rfl, hb⟩
  have LB3 := Lib.hid (LB2.out.trans (hb.mono LB2.out.size))
  have B3 := Lib.hid (B2.out.below hb B2.out.lt)
  clear hb
  go_wp2
  rw [rounds_succ]
  go_wp2
  refine wp_loop_rounds 3 ?_
  rw [rounds_succ]
  obtain ⟨p0, p1, p2, p3, p4, p5⟩ := B3.out.all
  obtain ⟨q0, q1, q2, q3, q4, q5, q6⟩ := (Box.new w2 W H (.slice A n c)).all
  have LB4 := Lib.hid (LB3.out.alloc LB3.out.size (.cells #[.int .i64 W, .int .i64 H, .slice A n c] 24))
  have B4 := Lib.hid (B3.out.alloc (.cells #[.int .i64 W, .int .i64 H, .slice A n c] 24))
  go_wp2
  clear q0 q1 q2 q3 q4 q5 q6 p0 p1 p2 p3 p4 p5
  go_ret
  exact ⟨rfl, LB4.out⟩
set_option maxHeartbeats 1600000 in
theorem check2_h1 (W H : Int) (A : Option Addr) (n c : Nat) (X Y : Int) (D : Option Addr) (m d kk : Nat) (w : World) (hn : n ≤ 4200) (hm : m ≤ 4200) (hb : Bx2 w kk W H (.slice A n c) X Y (.slice D m d)) (hx : chk W H n = 0) (hy : chk X Y m = 0) (h1 : ¬ 16 < W) (h2 : 16 < H) :
    Calls Try.prog 92 #[.slice (some ⟨kk, 0, none⟩) 2 2] w fun e w' => e = .returned (.int .i64 4) ∧ Below w.heap.size w w' := by
  have HC1 := Lib.hid (fun v => chk_err (A := A) (c := c) hn hx v)
  have HC2 := Lib.hid (fun v => chk_err (A := D) (c := d) hm hy v)
  have LB0 := Lib.hid (show Below w.heap.size w (w.alloc (.cells #[.int .i64 W, .int .i64 H, .slice A n c] 24)) from (Below.refl _ _).alloc (Nat.le_refl _) _)
  have X0 := Lib.hid (Box.new w W H (.slice A n c))
  have HB := Lib.hid hb
  have HBa := Lib.hid (hb.alloc (.cells #[.int .i64 W, .int .i64 H, .slice A n c] 24))
  obtain ⟨p0, p1, p2, p3, p4, p5⟩ := hb.all
  clear hx hb hy
  go_enter Try.func92, Try.ntmps92
  go_wp2
  refine wp_loop_rounds 3 ?_
  rw [rounds_succ]
  obtain ⟨q0, q1, q2, q3, q4, q5, q6⟩ := X0.out.all
  go_wp2_with fail
  clear q0 q1 q2 q3 q4 q5 q6 p0 p1 p2 p3 p4 p5
  refine (HC1.out _).mono ?_
  rintro e w1 ⟨rfl, hb⟩
  have LB1 := Lib.hid (LB0.out.trans (hb.mono LB0.out.size))
  have B1 := Lib.hid (HBa.out.below hb HBa.out.lt)
  clear hb
  go_wp2
  rw [rounds_succ]
  obtain ⟨p0, p1, p2, p3, p4, p5⟩ := B1.out.all
  obtain ⟨q0, q1, q2, q3, q4, q5, q6⟩ := (Box.new w1 X Y (.slice D m d)).all
  have LB2 := Lib.hid (LB1.out.alloc LB1.out.size (.cells #[.int .i64 X, .int .i64 Y, .slice D m d] 24))
  have B2 := Lib.hid (B1.out.alloc (.cells #[.int .i64 X, .int .i64 Y, .slice D m d] 24))
  go_wp2_with fail
  clear q0 q1 q2 q3 q4 q5 q6 p0 p1 p2 p3 p4 p5
  refine (HC2.out _).mono ?_
  rintro e w2 ⟨rfl, hb⟩
  have LB3 := Lib.hid (LB2.out.trans (hb.mono LB2.out.size))
  have B3 := Lib.hid (B2.out.below hb B2.out.lt)
  clear hb
  go_wp2
  rw [rounds_succ]
  go_wp2
  refine wp_loop_rounds 3 ?_
  rw [rounds_succ]
  obtain ⟨p0, p1, p2, p3, p4, p5⟩ := B3.out.all
  obtain ⟨q0, q1, q2, q3, q4, q5, q6⟩ := (Box.new w2 W H (.slice A n c)).all
  have LB4 := Lib.hid (LB3.out.alloc LB3.out.size (.cells #[.int .i64 W, .int .i64 H, .slice A n c] 24))
  have B4 := Lib.hid (B3.out.alloc (.cells #[.int .i64 W, .int .i64 H, .slice A n c] 24))
  go_wp2
  clear q0 q1 q2 q3 q4 q5 q6 p0 p1 p2 p3 p4 p5
  go_ret
  exact ⟨rfl, LB4.out⟩
set_option maxHeartbeats 1600000 in
theorem check2_w2 (W H : Int) (A : Option Addr) (n c : Nat) (X Y : Int) (D : Option Addr) (m d kk : Nat) (w : World) (hn : n ≤ 4200) (hm : m ≤ 4200) (hb : Bx2 w kk W H (.slice A n c) X Y (.slice D m d)) (hx : chk W H n = 0) (hy : chk X Y m = 0) (h1 : ¬ 16 < W) (h2 : ¬ 16 < H) (h3 : 16 < X) :
    Calls Try.prog 92 #[.slice (some ⟨kk, 0, none⟩) 2 2] w fun e w' => e = .returned (.int .i64 4) ∧ Below w.heap.size w w' := by
  have HC1 := Lib.hid (fun v => chk_err (A := A) (c := c) hn hx v)
  have HC2 := Lib.hid (fun v => chk_err (A := D) (c := d) hm hy v)
  have LB0 := Lib.hid (show Below w.heap.size w (w.alloc (.cells #[.int .i64 W, .int .i64 H, .slice A n c] 24)) from (Below.refl _ _).alloc (Nat.le_refl _) _)
  have X0 := Lib.hid (Box.new w W H (.slice A n c))
  have HB := Lib.hid hb
  have HBa := Lib.hid (hb.alloc (.cells #[.int .i64 W, .int .i64 H, .slice A n c] 24))
  obtain ⟨p0, p1, p2, p3, p4, p5⟩ := hb.all
  clear hx hb hy
  go_enter Try.func92, Try.ntmps92
  go_wp2
  refine wp_loop_rounds 3 ?_
  rw [rounds_succ]
  obtain ⟨q0, q1, q2, q3, q4, q5, q6⟩ := X0.out.all
  go_wp2_with fail
  clear q0 q1 q2 q3 q4 q5 q6 p0 p1 p2 p3 p4 p5
  refine (HC1.out _).mono ?_
  rintro e w1 ⟨rfl, hb⟩
  have LB1 := Lib.hid (LB0.out.trans (hb.mono LB0.out.size))
  have B1 := Lib.hid (HBa.out.below hb HBa.out.lt)
  clear hb
  go_wp2
  rw [rounds_succ]
  obtain ⟨p0, p1, p2, p3, p4, p5⟩ := B1.out.all
  obtain ⟨q0, q1, q2, q3, q4, q5, q6⟩ := (Box.new w1 X Y (.slice D m d)).all
  have LB2 := Lib.hid (LB1.out.alloc LB1.out.size (.cells #[.int .i64 X, .int .i64 Y, .slice D m d] 24))
  have B2 := Lib.hid (B1.out.alloc (.cells #[.int .i64 X, .int .i64 Y, .slice D m d] 24))
  go_wp2_with fail
  clear q0 q1 q2 q3 q4 q5 q6 p0 p1 p2 p3 p4 p5
  refine (HC2.out _).mono ?_
  rintro e w2 ⟨rfl, hb⟩
  have LB3 := Lib.hid (LB2.out.trans (hb.mono LB2.out.size))
  have B3 := Lib.hid (B2.out.below hb B2.out.lt)
  clear hb
  go_wp2
  rw [rounds_succ]
  go_wp2
  refine wp_loop_rounds 3 ?_
  rw [rounds_succ]
  obtain ⟨p0, p1, p2, p3, p4, p5⟩ := B3.out.all
  obtain ⟨q0, q1, q2, q3, q4, q5, q6⟩ := (Box.new w2 W H (.slice A n c)).all
  have LB4 := Lib.hid (LB3.out.alloc LB3.out.size (.cells #[.int .i64 W, .int .i64 H, .slice A n c] 24))
  have B4 := Lib.hid (B3.out.alloc (.cells #[.int .i64 W, .int .i64 H, .slice A n c] 24))
  go_wp2
  clear q0 q1 q2 q3 q4 q5 q6 p0 p1 p2 p3 p4 p5
  rw [rounds_succ]
  obtain ⟨p0, p1, p2, p3, p4, p5⟩ := B4.out.all
  obtain ⟨q0, q1, q2, q3, q4, q5, q6⟩ := (Box.new (w2.alloc (.cells #[.int .i64 W, .int .i64 H, .slice A n c] 24)) X Y (.slice D m d)).all
  have LB5 := Lib.hid (LB4.out.alloc LB4.out.size (.cells #[.int .i64 X, .int .i64 Y, .slice D m d] 24))
  go_wp2
  go_ret
  exact ⟨rfl, LB5.out⟩
set_option maxHeartbeats 1600000 in
theorem check2_h2 (W H : Int) (A : Option Addr) (n c : Nat) (X Y : Int) (D : Option Addr) (m d kk : Nat) (w : World) (hn : n ≤ 4200) (hm : m ≤ 4200) (hb : Bx2 w kk W H (.slice A n c) X Y (.slice D m d)) (hx : chk W H n = 0) (hy : chk X Y m = 0) (h1 : ¬ 16 < W) (h2 : ¬ 16 < H) (h3 : ¬ 16 < X) (h4 : 16 < Y) :
    Calls Try.prog 92 #[.slice (some ⟨kk, 0, none⟩) 2 2] w fun e w' => e = .returned (.int .i64 4) ∧ Below w.heap.size w w' := by
  have HC1 := Lib.hid (fun v => chk_err (A := A) (c := c) hn hx v)
  have HC2 := Lib.hid (fun v => chk_err (A := D) (c := d) hm hy v)
  have LB0 := Lib.hid (show Below w.heap.size w (w.alloc (.cells #[.int .i64 W, .int .i64 H, .slice A n c] 24)) from (Below.refl _ _).alloc (Nat.le_refl _) _)
  have X0 := Lib.hid (Box.new w W H (.slice A n c))
  have HB := Lib.hid hb
  have HBa := Lib.hid (hb.alloc (.cells #[.int .i64 W, .int .i64 H, .slice A n c] 24))
  obtain ⟨p0, p1, p2, p3, p4, p5⟩ := hb.all
  clear hx hb hy
  go_enter Try.func92, Try.ntmps92
  go_wp2
  refine wp_loop_rounds 3 ?_
  rw [rounds_succ]
  obtain ⟨q0, q1, q2, q3, q4, q5, q6⟩ := X0.out.all
  go_wp2_with fail
  clear q0 q1 q2 q3 q4 q5 q6 p0 p1 p2 p3 p4 p5
  refine (HC1.out _).mono ?_
  rintro e w1 ⟨rfl, hb⟩
  have LB1 := Lib.hid (LB0.out.trans (hb.mono LB0.out.size))
  have B1 := Lib.hid (HBa.out.below hb HBa.out.lt)
  clear hb
  go_wp2
  rw [rounds_succ]
  obtain ⟨p0, p1, p2, p3, p4, p5⟩ := B1.out.all
  obtain ⟨q0, q1, q2, q3, q4, q5, q6⟩ := (Box.new w1 X Y (.slice D m d)).all
  have LB2 := Lib.hid (LB1.out.alloc LB1.out.size (.cells #[.int .i64 X, .int .i64 Y, .slice D m d] 24))
  have B2 := Lib.hid (B1.out.alloc (.cells #[.int .i64 X, .int .i64 Y, .slice D m d] 24))
  go_wp2_with fail
  clear q0 q1 q2 q3 q4 q5 q6 p0 p1 p2 p3 p4 p5
  refine (HC2.out _).mono ?_
  rintro e w2 ⟨rfl, hb⟩
  have LB3 := Lib.hid (LB2.out.trans (hb.mono LB2.out.size))
  have B3 := Lib.hid (B2.out.below hb B2.out.lt)
  clear hb
  go_wp2
  rw [rounds_succ]
  go_wp2
  refine wp_loop_rounds 3 ?_
  rw [rounds_succ]
  obtain ⟨p0, p1, p2, p3, p4, p5⟩ := B3.out.all
  obtain ⟨q0, q1, q2, q3, q4, q5, q6⟩ := (Box.new w2 W H (.slice A n c)).all
  have LB4 := Lib.hid (LB3.out.alloc LB3.out.size (.cells #[.int .i64 W, .int .i64 H, .slice A n c] 24))
  have B4 := Lib.hid (B3.out.alloc (.cells #[.int .i64 W, .int .i64 H, .slice A n c] 24))
  go_wp2
  clear q0 q1 q2 q3 q4 q5 q6 p0 p1 p2 p3 p4 p5
  rw [rounds_succ]
  obtain ⟨p0, p1, p2, p3, p4, p5⟩ := B4.out.all
  obtain ⟨q0, q1, q2, q3, q4, q5, q6⟩ := (Box.new (w2.alloc (.cells #[.int .i64 W, .int .i64 H, .slice A n c] 24)) X Y (.slice D m d)).all
  have LB5 := Lib.hid (LB4.out.alloc LB4.out.size (.cells #[.int .i64 X, .int .i64 Y, .slice D m d] 24))
  go_wp2
  go_ret
  exact ⟨rfl, LB5.out⟩
set_option maxHeartbeats 1600000 in
theorem check2_ok (W H : Int) (A : Option Addr) (n c : Nat) (X Y : Int) (D : Option Addr) (m d kk : Nat) (w : World) (hn : n ≤ 4200) (hm : m ≤ 4200) (hb : Bx2 w kk W H (.slice A n c) X Y (.slice D m d)) (hx : chk W H n = 0) (hy : chk X Y m = 0) (h1 : ¬ 16 < W) (h2 : ¬ 16 < H) (h3 : ¬ 16 < X) (h4 : ¬ 16 < Y) :
    Calls Try.prog 92 #[.slice (some ⟨kk, 0, none⟩) 2 2] w fun e w' => e = .returned (.int .i64 0) ∧ Below w.heap.size w w' := by
  have HC1 := Lib.hid (fun v => chk_err (A := A) (c := c) hn hx v)
  have HC2 := Lib.hid (fun v => chk_err (A := D) (c := d) hm hy v)
  have LB0 := Lib.hid (show Below w.heap.size w (w.alloc (.cells #[.int .i64 W, .int .i64 H, .slice A n c] 24)) from (Below.refl _ _).alloc (Nat.le_refl _) _)
  have X0 := Lib.hid (Box.new w W H (.slice A n c))
  have HB := Lib.hid hb
  have HBa := Lib.hid (hb.alloc (.cells #[.int .i64 W, .int .i64 H, .slice A n c] 24))
  obtain ⟨p0, p1, p2, p3, p4, p5⟩ := hb.all
  clear hx hb hy
  go_enter Try.func92, Try.ntmps92
  go_wp2
  refine wp_loop_rounds 3 ?_
  rw [rounds_succ]
  obtain ⟨q0, q1, q2, q3, q4, q5, q6⟩ := X0.out.all
  go_wp2_with fail
  clear q0 q1 q2 q3 q4 q5 q6 p0 p1 p2 p3 p4 p5
  refine (HC1.out _).mono ?_
  rintro e w1 ⟨rfl, hb⟩
  have LB1 := Lib.hid (LB0.out.trans (hb.mono LB0.out.size))
  have B1 := Lib.hid (HBa.out.below hb HBa.out.lt)
  clear hb
  go_wp2
  rw [rounds_succ]
  obtain ⟨p0, p1, p2, p3, p4, p5⟩ := B1.out.all
  obtain ⟨q0, q1, q2, q3, q4, q5, q6⟩ := (Box.new w1 X Y (.slice D m d)).all
  have LB2 := Lib.hid (LB1.out.alloc LB1.out.size (.cells #[.int .i64 X, .int .i64 Y, .slice D m d] 24))
  have B2 := Lib.hid (B1.out.alloc (.cells #[.int .i64 X, .int .i64 Y, .slice D m d] 24))
  go_wp2_with fail
  clear q0 q1 q2 q3 q4 q5 q6 p0 p1 p2 p3 p4 p5
  refine (HC2.out _).mono ?_
  rintro e w2 ⟨rfl, hb⟩
  have LB3 := Lib.hid (LB2.out.trans (hb.mono LB2.out.size))
  have B3 := Lib.hid (B2.out.below hb B2.out.lt)
  clear hb
  go_wp2
  rw [rounds_succ]
  go_wp2
  refine wp_loop_rounds 3 ?_
  rw [rounds_succ]
  obtain ⟨p0, p1, p2, p3, p4, p5⟩ := B3.out.all
  obtain ⟨q0, q1, q2, q3, q4, q5, q6⟩ := (Box.new w2 W H (.slice A n c)).all
  have LB4 := Lib.hid (LB3.out.alloc LB3.out.size (.cells #[.int .i64 W, .int .i64 H, .slice A n c] 24))
  have B4 := Lib.hid (B3.out.alloc (.cells #[.int .i64 W, .int .i64 H, .slice A n c] 24))
  go_wp2
  clear q0 q1 q2 q3 q4 q5 q6 p0 p1 p2 p3 p4 p5
  rw [rounds_succ]
  obtain ⟨p0, p1, p2, p3, p4, p5⟩ := B4.out.all
  obtain ⟨q0, q1, q2, q3, q4, q5, q6⟩ := (Box.new (w2.alloc (.cells #[.int .i64 W, .int .i64 H, .slice A n c] 24)) X Y (.slice D m d)).all
  have LB5 := Lib.hid (LB4.out.alloc LB4.out.size (.cells #[.int .i64 X, .int .i64 Y, .slice D m d] 24))
  go_wp2
  rw [rounds_succ]
  go_wp2
  go_ret
  exact ⟨rfl, LB5.out⟩
theorem check2_any (W H : Int) (A : Option Addr) (n c : Nat) (X Y : Int) (D : Option Addr) (m d kk : Nat) (w : World) (hn : n ≤ 4200) (hm : m ≤ 4200) (hb : Bx2 w kk W H (.slice A n c) X Y (.slice D m d)) :
    Calls Try.prog 92 #[.slice (some ⟨kk, 0, none⟩) 2 2] w fun e w' => e = .returned (.int .i64 (bchk W H n X Y m)) ∧ Below w.heap.size w w' := by
  have key : ∀ z : Int, z = bchk W H n X Y m → (Calls Try.prog 92 #[.slice (some ⟨kk, 0, none⟩) 2 2] w fun e w' => e = .returned (.int .i64 z) ∧ Below w.heap.size w w') → (Calls Try.prog 92 #[.slice (some ⟨kk, 0, none⟩) 2 2] w fun e w' => e = .returned (.int .i64 (bchk W H n X Y m)) ∧ Below w.heap.size w w') := fun z h k => h ▸ k
  unfold bchk schk at key ⊢
  by_cases hx : chk W H n = 0
  · by_cases hy : chk X Y m = 0
    · by_cases h1 : 16 < W
      · exact key 4 (by simp [hx, hy, h1]) (check2_w1 W H A n c X Y D m d kk w hn hm hb hx hy h1)
      · by_cases h2 : 16 < H
        · exact key 4 (by simp [hx, hy, h1, h2]) (check2_h1 W H A n c X Y D m d kk w hn hm hb hx hy h1 h2)
        · by_cases h3 : 16 < X
          · exact key 4 (by simp [hx, hy, h1, h2, h3]) (check2_w2 W H A n c X Y D m d kk w hn hm hb hx hy h1 h2 h3)
          · by_cases h4 : 16 < Y
            · exact key 4 (by simp [hx, hy, h1, h2, h3, h4]) (check2_h2 W H A n c X Y D m d kk w hn hm hb hx hy h1 h2 h3 h4)
            · exact key 0 (by simp [hx, hy, h1, h2, h3, h4]) (check2_ok W H A n c X Y D m d kk w hn hm hb hx hy h1 h2 h3 h4)
    · exact key (chk X Y m) (by simp [hx, hy]) (check2_e2 W H A n c X Y D m d kk w hn hm hb _ hx rfl (by simpa using hy))
  · exact key (chk W H n) (by simp [hx]) (check2_e1 W H A n c X Y D m d kk w hn hm hb _ rfl (by simpa using hx))
set_option maxHeartbeats 1600000 in
theorem rboth7_e (W H : Int) (A : Option Addr) (n c : Nat) (X Y : Int) (D : Option Addr) (m d : Nat) (w : World) (hn : n ≤ 4200) (hm : m ≤ 4200) (z : Int) (hb : (if chk W H n = 0 then chk X Y m else chk W H n) = z) (hne : (z != 0) = true) :
    Calls Try.prog 107 #[.agg #[.int .i64 W, .int .i64 H, .slice A n c], .agg #[.int .i64 X, .int .i64 Y, .slice D m d]] w fun e w' => e = .returned (.int .i64 z) ∧ Below w.heap.size w w' := by
  have HB := Lib.hid (fun v => (show Calls Try.prog 83 #[.agg #[.int .i64 W, .int .i64 H, .slice A n c], .agg #[.int .i64 X, .int .i64 Y, .slice D m d]] v fun e w' => e = .returned (.int .i64 z) ∧ Below v.heap.size v w' by have h := both_any W H X Y A D n c m d v hn hm; rwa [hb] at h))
  have X0 := Lib.hid ((Box.new w W H (.slice A n c)).alloc (.cells #[.int .i64 X, .int .i64 Y, .slice D m d] 24))
  have Y0 := Lib.hid (show Box ((w.alloc (.cells #[.int .i64 W, .int .i64 H, .slice A n c] 24)).alloc (.cells #[.int .i64 X, .int .i64 Y, .slice D m d] 24)) (w.heap.size + 1) X Y (.slice D m d) from by have h := Box.new (w.alloc (.cells #[.int .i64 W, .int .i64 H, .slice A n c] 24)) X Y (.slice D m d); rwa [World.size_alloc] at h)
  have L0 := Lib.hid (show Below w.heap.size w ((w.alloc (.cells #[.int .i64 W, .int .i64 H, .slice A n c] 24)).alloc (.cells #[.int .i64 X, .int .i64 Y, .slice D m d] 24)) from blA (blA (Below.refl _ _) (Nat.le_refl _) _) (Nat.le_refl _) _)
  clear hb
  go_enter Try.func107, Try.ntmps107
  obtain ⟨q0, q1, q2, q3, q4, q5, q6⟩ := X0.out.all
  obtain ⟨r0, r1, r2, r3, r4, r5, r6⟩ := Y0.out.all
  go_wp2_with fail
  clear q0 q1 q2 q3 q4 q5 q6 r0 r1 r2 r3 r4 r5 r6
  refine (HB.out _).mono ?_
  rintro e w1 ⟨rfl, hb⟩
  have X1 := Lib.hid (X0.out.below hb X0.out.lt)
  have Y1 := Lib.hid (Y0.out.below hb Y0.out.lt)
  have L1 := Lib.hid (L0.out.trans (hb.mono L0.out.size))
  clear hb
  obtain ⟨q0, q1, q2, q3, q4, q5, q6⟩ := X1.out.all
  obtain ⟨r0, r1, r2, r3, r4, r5, r6⟩ := Y1.out.all
  go_wp2_with fail
  clear q0 q1 q2 q3 q4 q5 q6 r0 r1 r2 r3 r4 r5 r6
  refine (HB.out _).mono ?_
  rintro e w2 ⟨rfl, hb⟩
  have X2 := Lib.hid (X1.out.below hb X1.out.lt)
  have Y2 := Lib.hid (Y1.out.below hb Y1.out.lt)
  have L2 := Lib.hid (L1.out.trans (hb.mono L1.out.size))
  clear hb
  go_wp2
  go_ret
  exact ⟨rfl, L2.out⟩
set_option maxHeartbeats 1600000 in
theorem rboth7_s (W H : Int) (A : Option Addr) (n c : Nat) (X Y : Int) (D : Option Addr) (m d : Nat) (w : World) (hn : n ≤ 4200) (hm : m ≤ 4200) (z : Int) (hb : (if chk W H n = 0 then chk X Y m else chk W H n) = 0) (h1 : schk W H n = z) (hne : (z != 0) = true) :
    Calls Try.prog 107 #[.agg #[.int .i64 W, .int .i64 H, .slice A n c], .agg #[.int .i64 X, .int .i64 Y, .slice D m d]] w fun e w' => e = .returned (.int .i64 z) ∧ Below w.heap.size w w' := by
  have HB := Lib.hid (fun v => (show Calls Try.prog 83 #[.agg #[.int .i64 W, .int .i64 H, .slice A n c], .agg #[.int .i64 X, .int .i64 Y, .slice D m d]] v fun e w' => e = .returned (.int .i64 0) ∧ Below v.heap.size v w' by have h := both_any W H X Y A D n c m d v hn hm; rwa [hb] at h))
  have HS1 := Lib.hid (fun v => (show Calls Try.prog 103 #[.agg #[.int .i64 W, .int .i64 H, .slice A n c]] v fun e w' => e = .returned (.int .i64 z) ∧ Below v.heap.size v w' by have h := start_any W H A n c v hn; rwa [h1] at h))
  have X0 := Lib.hid ((Box.new w W H (.slice A n c)).alloc (.cells #[.int .i64 X, .int .i64 Y, .slice D m d] 24))
  have Y0 := Lib.hid (show Box ((w.alloc (.cells #[.int .i64 W, .int .i64 H, .slice A n c] 24)).alloc (.cells #[.int .i64 X, .int .i64 Y, .slice D m d] 24)) (w.heap.size + 1) X Y (.slice D m d) from by have h := Box.new (w.alloc (.cells #[.int .i64 W, .int .i64 H, .slice A n c] 24)) X Y (.slice D m d); rwa [World.size_alloc] at h)
  have L0 := Lib.hid (show Below w.heap.size w ((w.alloc (.cells #[.int .i64 W, .int .i64 H, .slice A n c] 24)).alloc (.cells #[.int .i64 X, .int .i64 Y, .slice D m d] 24)) from blA (blA (Below.refl _ _) (Nat.le_refl _) _) (Nat.le_refl _) _)
  clear hb h1
  go_enter Try.func107, Try.ntmps107
  obtain ⟨q0, q1, q2, q3, q4, q5, q6⟩ := X0.out.all
  obtain ⟨r0, r1, r2, r3, r4, r5, r6⟩ := Y0.out.all
  go_wp2_with fail
  clear q0 q1 q2 q3 q4 q5 q6 r0 r1 r2 r3 r4 r5 r6
  refine (HB.out _).mono ?_
  rintro e w1 ⟨rfl, hb⟩
  have X1 := Lib.hid (X0.out.below hb X0.out.lt)
  have Y1 := Lib.hid (Y0.out.below hb Y0.out.lt)
  have L1 := Lib.hid (L0.out.trans (hb.mono L0.out.size))
  clear hb
  obtain ⟨q0, q1, q2, q3, q4, q5, q6⟩ := X1.out.all
  obtain ⟨r0, r1, r2, r3, r4, r5, r6⟩ := Y1.out.all
  go_wp2_with fail
  clear q0 q1 q2 q3 q4 q5 q6 r0 r1 r2 r3 r4 r5 r6
  refine (HS1.out _).mono ?_
  rintro e w2 ⟨rfl, hb⟩
  have X2 := Lib.hid (X1.out.below hb X1.out.lt)
  have Y2 := Lib.hid (Y1.out.below hb Y1.out.lt)
  have L2 := Lib.hid (L1.out.trans (hb.mono L1.out.size))
  clear hb
  obtain ⟨q0, q1, q2, q3, q4, q5, q6⟩ := X2.out.all
  obtain ⟨r0, r1, r2, r3, r4, r5, r6⟩ := Y2.out.all
  go_wp2_with fail
  clear q0 q1 q2 q3 q4 q5 q6 r0 r1 r2 r3 r4 r5 r6
  refine (HS1.out _).mono ?_
  rintro e w3 ⟨rfl, hb⟩
  have X3 := Lib.hid (X2.out.below hb X2.out.lt)
  have Y3 := Lib.hid (Y2.out.below hb Y2.out.lt)
  have L3 := Lib.hid (L2.out.trans (hb.mono L2.out.size))
  clear hb
  go_wp2
  go_ret
  exact ⟨rfl, L3.out⟩
set_option maxHeartbeats 1600000 in
theorem rboth7_t (W H : Int) (A : Option Addr) (n c : Nat) (X Y : Int) (D : Option Addr) (m d : Nat) (w : World) (hn : n ≤ 4200) (hm : m ≤ 4200) (z : Int) (hb : (if chk W H n = 0 then chk X Y m else chk W H n) = 0) (h1 : schk W H n = 0) (h2 : schk X Y m = z) :
    Calls Try.prog 107 #[.agg #[.int .i64 W, .int .i64 H, .slice A n c], .agg #[.int .i64 X, .int .i64 Y, .slice D m d]] w fun e w' => e = .returned (.int .i64 z) ∧ Below w.heap.size w w' := by
  have HB := Lib.hid (fun v => (show Calls Try.prog 83 #[.agg #[.int .i64 W, .int .i64 H, .slice A n c], .agg #[.int .i64 X, .int .i64 Y, .slice D m d]] v fun e w' => e = .returned (.int .i64 0) ∧ Below v.heap.size v w' by have h := both_any W H X Y A D n c m d v hn hm; rwa [hb] at h))
  have HS1 := Lib.hid (fun v => (show Calls Try.prog 103 #[.agg #[.int .i64 W, .int .i64 H, .slice A n c]] v fun e w' => e = .returned (.int .i64 0) ∧ Below v.heap.size v w' by have h := start_any W H A n c v hn; rwa [h1] at h))
  have HS2 := Lib.hid (fun v => (show Calls Try.prog 103 #[.agg #[.int .i64 X, .int .i64 Y, .slice D m d]] v fun e w' => e = .returned (.int .i64 z) ∧ Below v.heap.size v w' by have h := start_any X Y D m d v hm; rwa [h2] at h))
  have X0 := Lib.hid ((Box.new w W H (.slice A n c)).alloc (.cells #[.int .i64 X, .int .i64 Y, .slice D m d] 24))
  have Y0 := Lib.hid (show Box ((w.alloc (.cells #[.int .i64 W, .int .i64 H, .slice A n c] 24)).alloc (.cells #[.int .i64 X, .int .i64 Y, .slice D m d] 24)) (w.heap.size + 1) X Y (.slice D m d) from by have h := Box.new (w.alloc (.cells #[.int .i64 W, .int .i64 H, .slice A n c] 24)) X Y (.slice D m d); rwa [World.size_alloc] at h)
  have L0 := Lib.hid (show Below w.heap.size w ((w.alloc (.cells #[.int .i64 W, .int .i64 H, .slice A n c] 24)).alloc (.cells #[.int .i64 X, .int .i64 Y, .slice D m d] 24)) from blA (blA (Below.refl _ _) (Nat.le_refl _) _) (Nat.le_refl _) _)
  clear hb h1 h2
  go_enter Try.func107, Try.ntmps107
  obtain ⟨q0, q1, q2, q3, q4, q5, q6⟩ := X0.out.all
  obtain ⟨r0, r1, r2, r3, r4, r5, r6⟩ := Y0.out.all
  go_wp2_with fail
  clear q0 q1 q2 q3 q4 q5 q6 r0 r1 r2 r3 r4 r5 r6
  refine (HB.out _).mono ?_
  rintro e w1 ⟨rfl, hb⟩
  have X1 := Lib.hid (X0.out.below hb X0.out.lt)
  have Y1 := Lib.hid (Y0.out.below hb Y0.out.lt)
  have L1 := Lib.hid (L0.out.trans (hb.mono L0.out.size))
  clear hb
  obtain ⟨q0, q1, q2, q3, q4, q5, q6⟩ := X1.out.all
  obtain ⟨r0, r1, r2, r3, r4, r5, r6⟩ := Y1.out.all
  go_wp2_with fail
  clear q0 q1 q2 q3 q4 q5 q6 r0 r1 r2 r3 r4 r5 r6
  refine (HS1.out _).mono ?_
  rintro e w2 ⟨rfl, hb⟩
  have X2 := Lib.hid (X1.out.below hb X1.out.lt)
  have Y2 := Lib.hid (Y1.out.below hb Y1.out.lt)
  have L2 := Lib.hid (L1.out.trans (hb.mono L1.out.size))
  clear hb
  obtain ⟨q0, q1, q2, q3, q4, q5, q6⟩ := X2.out.all
  obtain ⟨r0, r1, r2, r3, r4, r5, r6⟩ := Y2.out.all
  go_wp2_with fail
  clear q0 q1 q2 q3 q4 q5 q6 r0 r1 r2 r3 r4 r5 r6
  refine (HS2.out _).mono ?_
  rintro e w3 ⟨rfl, hb⟩
  have X3 := Lib.hid (X2.out.below hb X2.out.lt)
  have Y3 := Lib.hid (Y2.out.below hb Y2.out.lt)
  have L3 := Lib.hid (L2.out.trans (hb.mono L2.out.size))
  clear hb
  go_wp2
  go_ret
  exact ⟨rfl, L3.out⟩
theorem rboth7_any (W H : Int) (A : Option Addr) (n c : Nat) (X Y : Int) (D : Option Addr) (m d : Nat) (w : World) (hn : n ≤ 4200) (hm : m ≤ 4200) :
    Calls Try.prog 107 #[.agg #[.int .i64 W, .int .i64 H, .slice A n c], .agg #[.int .i64 X, .int .i64 Y, .slice D m d]] w fun e w' => e = .returned (.int .i64 (bchk W H n X Y m)) ∧ Below w.heap.size w w' := by
  unfold bchk
  by_cases hb : (if chk W H n = 0 then chk X Y m else chk W H n) = 0
  · rw [if_neg (by simpa using hb)]
    by_cases h1 : schk W H n = 0
    · rw [if_neg (by simpa using h1)]
      exact rboth7_t W H A n c X Y D m d w hn hm _ hb h1 rfl
    · rw [if_pos h1]
      exact rboth7_s W H A n c X Y D m d w hn hm _ hb rfl (by simpa using h1)
  · rw [if_pos hb]
    exact rboth7_e W H A n c X Y D m d w hn hm _ rfl (by simpa using hb)
end Go.Proofs.Ytjbofdgdcnfmoaa
