/- Moves and Is of both sides. -/
import Derived.Test.YtmakjdfkldacaaaCou
import Derived.Test.YtmakjdfkldacaaaCnt
import Derived.Test.YtmakjdfkldacaaaPb
import Derived.Test.YtmakjdfkldacaaaStl
namespace Go.Proofs.Ytmakjdfkldacaaa
open Go.RowKit
set_option maxRecDepth 100000
set_option linter.unusedVariables false
set_option linter.unusedSimpArgs false

/-- How many of the first A cells of the first row are up. -/
def ups (W H : Nat) (f : Nat → Bool) (A : Nat) : Nat := cnt (fun x => pc W H f x 0) A
theorem row_one (u : World) (b : Int) : L2.Row (u.alloc (.cells #[.int .i64 b] 3)) u.heap.size 1 (fun _ => b) := by
  refine ⟨#[.int .i64 b], World.alloc_heap_new _ _, Nat.le_refl _, ?_⟩
  intro i hi
  obtain rfl : i = 0 := by omega
  rfl
/-- A list of one number came back. -/
theorem lout_one {w u : World} (b : Int) (h : Below w.heap.size w u) : LOut w 1 (fun _ => b) 0 (.returned (.tuple #[.slice (some ⟨u.heap.size, 0, none⟩) 1 1, .int .i64 0])) (u.alloc (.cells #[.int .i64 b] 3)) :=
  ⟨_, _, rfl, fun _ => ⟨_, rfl, h.size, row_one u b⟩, h.alloc h.size _⟩
theorem lout_no {w u : World} (z : Int) (h : Below w.heap.size w u) : LOut w 0 (fun _ => 0) z (.returned (.tuple #[.slice none 0 0, .int .i64 z])) u := ⟨none, 0, rfl, fun h => absurd h (by omega), h⟩
theorem pmo_err (W H : Int) (D : Option Addr) (n c : Nat) (a b d z : Int) (w : World) (hz : (z != 0) = true) (HO : ∀ v, Below w.heap.size w v → Calls Try.prog 40 #[.agg #[.int .i64 W, .int .i64 H, .slice D n c]] v fun e w' => e = .returned (.tuple #[.agg #[.int .i64 a, .int .i64 b, .int .i64 d], .int .i64 z]) ∧ Below v.heap.size v w') : Calls Try.prog 16 #[.agg #[.int .i64 W, .int .i64 H, .slice D n c]] w (LOut w 0 (fun _ => 0) z) := by
  have X0 := Lib.hid (Box.new w W H (.slice D n c))
  have LB0 := Lib.hid (show Below w.heap.size w (w.alloc (.cells #[.int .i64 W, .int .i64 H, .slice D n c] 24)) from (Below.refl _ _).alloc (Nat.le_refl _) _)
  have HO := Lib.hid HO
  go_enter Try.func16, Try.ntmps16
  obtain ⟨q0, q1, q2, q3, q4, q5, q6⟩ := X0.out.all
  go_wp2_with fail
  clear q0 q1 q2 q3 q4 q5 q6
  refine (HO.out _ LB0.out).mono ?_
  rintro e w1 ⟨rfl, hb⟩
  have LB1 := Lib.hid (LB0.out.trans (hb.mono LB0.out.size))
  have T := Tri.new w1 a b d
  have LB2 := Lib.hid (LB1.out.alloc LB1.out.size (.cells #[.int .i64 a, .int .i64 b, .int .i64 d] 68))
  clear hb LB0 X0
  obtain ⟨t0, t1, t2, t3, t4, t5⟩ := T.all
  clear T
  have HF := Lib.hid (lout_no z LB2.out)
  go_wp2
  go_ret2
  exact HF.out
theorem pmo_no (W H : Int) (D : Option Addr) (n c : Nat) (a b d z : Int) (w : World) (hz : z = 0) (hd : 1 < d) (HO : ∀ v, Below w.heap.size w v → Calls Try.prog 40 #[.agg #[.int .i64 W, .int .i64 H, .slice D n c]] v fun e w' => e = .returned (.tuple #[.agg #[.int .i64 a, .int .i64 b, .int .i64 d], .int .i64 z]) ∧ Below v.heap.size v w') : Calls Try.prog 16 #[.agg #[.int .i64 W, .int .i64 H, .slice D n c]] w (LOut w 0 (fun _ => 0) 0) := by
  subst hz
  have X0 := Lib.hid (Box.new w W H (.slice D n c))
  have LB0 := Lib.hid (show Below w.heap.size w (w.alloc (.cells #[.int .i64 W, .int .i64 H, .slice D n c] 24)) from (Below.refl _ _).alloc (Nat.le_refl _) _)
  have HO := Lib.hid HO
  go_enter Try.func16, Try.ntmps16
  obtain ⟨q0, q1, q2, q3, q4, q5, q6⟩ := X0.out.all
  go_wp2_with fail
  clear q0 q1 q2 q3 q4 q5 q6
  refine (HO.out _ LB0.out).mono ?_
  rintro e w1 ⟨rfl, hb⟩
  have LB1 := Lib.hid (LB0.out.trans (hb.mono LB0.out.size))
  have T := Tri.new w1 a b d
  have LB2 := Lib.hid (LB1.out.alloc LB1.out.size (.cells #[.int .i64 a, .int .i64 b, .int .i64 d] 68))
  clear hb LB0 X0
  obtain ⟨t0, t1, t2, t3, t4, t5⟩ := T.all
  clear T
  have HF := Lib.hid (lout_no 0 LB2.out)
  have x1 : (1 : Int) < d := hd
  go_wp2
  go_ret2
  exact HF.out
theorem pmo_yes (W H : Int) (D : Option Addr) (n c : Nat) (a b d z : Int) (w : World) (hz : z = 0) (hd : d = 1) (HO : ∀ v, Below w.heap.size w v → Calls Try.prog 40 #[.agg #[.int .i64 W, .int .i64 H, .slice D n c]] v fun e w' => e = .returned (.tuple #[.agg #[.int .i64 a, .int .i64 b, .int .i64 d], .int .i64 z]) ∧ Below v.heap.size v w') : Calls Try.prog 16 #[.agg #[.int .i64 W, .int .i64 H, .slice D n c]] w (LOut w 1 (fun _ => b) 0) := by
  subst hz hd
  have X0 := Lib.hid (Box.new w W H (.slice D n c))
  have LB0 := Lib.hid (show Below w.heap.size w (w.alloc (.cells #[.int .i64 W, .int .i64 H, .slice D n c] 24)) from (Below.refl _ _).alloc (Nat.le_refl _) _)
  have HO := Lib.hid HO
  go_enter Try.func16, Try.ntmps16
  obtain ⟨q0, q1, q2, q3, q4, q5, q6⟩ := X0.out.all
  go_wp2_with fail
  clear q0 q1 q2 q3 q4 q5 q6
  refine (HO.out _ LB0.out).mono ?_
  rintro e w1 ⟨rfl, hb⟩
  have LB1 := Lib.hid (LB0.out.trans (hb.mono LB0.out.size))
  have T := Tri.new w1 a b 1
  have LB2 := Lib.hid (LB1.out.alloc LB1.out.size (.cells #[.int .i64 a, .int .i64 b, .int .i64 1] 68))
  clear hb LB0 X0
  obtain ⟨t0, t1, t2, t3, t4, t5⟩ := T.all
  clear T
  have hF := lout_one b LB2.out
  rw [World.size_alloc] at hF
  have HF := Lib.hid hF
  clear hF
  have x1 : ¬ (1 : Int) < 1 := by omega
  go_wp2
  go_ret2
  exact HF.out
theorem rmo_err (W H : Int) (D : Option Addr) (n c : Nat) (a b d z : Int) (w : World) (hz : (z != 0) = true) (HO : ∀ v, Below w.heap.size w v → Calls Try.prog 63 #[.agg #[.int .i64 W, .int .i64 H, .slice D n c]] v fun e w' => e = .returned (.tuple #[.agg #[.int .i64 a, .int .i64 b, .int .i64 d], .int .i64 z]) ∧ Below v.heap.size v w') : Calls Try.prog 28 #[.agg #[.int .i64 W, .int .i64 H, .slice D n c]] w (LOut w 0 (fun _ => 0) z) := by
  have X0 := Lib.hid (Box.new w W H (.slice D n c))
  have LB0 := Lib.hid (show Below w.heap.size w (w.alloc (.cells #[.int .i64 W, .int .i64 H, .slice D n c] 24)) from (Below.refl _ _).alloc (Nat.le_refl _) _)
  have HO := Lib.hid HO
  go_enter Try.func28, Try.ntmps28
  obtain ⟨q0, q1, q2, q3, q4, q5, q6⟩ := X0.out.all
  go_wp2_with fail
  clear q0 q1 q2 q3 q4 q5 q6
  refine (HO.out _ LB0.out).mono ?_
  rintro e w1 ⟨rfl, hb⟩
  have LB1 := Lib.hid (LB0.out.trans (hb.mono LB0.out.size))
  have T := Tri.new w1 a b d
  have LB2 := Lib.hid (LB1.out.alloc LB1.out.size (.cells #[.int .i64 a, .int .i64 b, .int .i64 d] 68))
  clear hb LB0 X0
  obtain ⟨t0, t1, t2, t3, t4, t5⟩ := T.all
  clear T
  have HF := Lib.hid (lout_no z LB2.out)
  go_wp2
  go_ret2
  exact HF.out
theorem rmo_no (W H : Int) (D : Option Addr) (n c : Nat) (a b d z : Int) (w : World) (hz : z = 0) (hd : 1 < d) (HO : ∀ v, Below w.heap.size w v → Calls Try.prog 63 #[.agg #[.int .i64 W, .int .i64 H, .slice D n c]] v fun e w' => e = .returned (.tuple #[.agg #[.int .i64 a, .int .i64 b, .int .i64 d], .int .i64 z]) ∧ Below v.heap.size v w') : Calls Try.prog 28 #[.agg #[.int .i64 W, .int .i64 H, .slice D n c]] w (LOut w 0 (fun _ => 0) 0) := by
  subst hz
  have X0 := Lib.hid (Box.new w W H (.slice D n c))
  have LB0 := Lib.hid (show Below w.heap.size w (w.alloc (.cells #[.int .i64 W, .int .i64 H, .slice D n c] 24)) from (Below.refl _ _).alloc (Nat.le_refl _) _)
  have HO := Lib.hid HO
  go_enter Try.func28, Try.ntmps28
  obtain ⟨q0, q1, q2, q3, q4, q5, q6⟩ := X0.out.all
  go_wp2_with fail
  clear q0 q1 q2 q3 q4 q5 q6
  refine (HO.out _ LB0.out).mono ?_
  rintro e w1 ⟨rfl, hb⟩
  have LB1 := Lib.hid (LB0.out.trans (hb.mono LB0.out.size))
  have T := Tri.new w1 a b d
  have LB2 := Lib.hid (LB1.out.alloc LB1.out.size (.cells #[.int .i64 a, .int .i64 b, .int .i64 d] 68))
  clear hb LB0 X0
  obtain ⟨t0, t1, t2, t3, t4, t5⟩ := T.all
  clear T
  have HF := Lib.hid (lout_no 0 LB2.out)
  have x1 : (d != 1) = true := by simp; omega
  go_wp2
  go_ret2
  exact HF.out
theorem rmo_yes (W H : Int) (D : Option Addr) (n c : Nat) (a b d z : Int) (w : World) (hz : z = 0) (hd : d = 1) (HO : ∀ v, Below w.heap.size w v → Calls Try.prog 63 #[.agg #[.int .i64 W, .int .i64 H, .slice D n c]] v fun e w' => e = .returned (.tuple #[.agg #[.int .i64 a, .int .i64 b, .int .i64 d], .int .i64 z]) ∧ Below v.heap.size v w') : Calls Try.prog 28 #[.agg #[.int .i64 W, .int .i64 H, .slice D n c]] w (LOut w 1 (fun _ => b) 0) := by
  subst hz hd
  have X0 := Lib.hid (Box.new w W H (.slice D n c))
  have LB0 := Lib.hid (show Below w.heap.size w (w.alloc (.cells #[.int .i64 W, .int .i64 H, .slice D n c] 24)) from (Below.refl _ _).alloc (Nat.le_refl _) _)
  have HO := Lib.hid HO
  go_enter Try.func28, Try.ntmps28
  obtain ⟨q0, q1, q2, q3, q4, q5, q6⟩ := X0.out.all
  go_wp2_with fail
  clear q0 q1 q2 q3 q4 q5 q6
  refine (HO.out _ LB0.out).mono ?_
  rintro e w1 ⟨rfl, hb⟩
  have LB1 := Lib.hid (LB0.out.trans (hb.mono LB0.out.size))
  have T := Tri.new w1 a b 1
  have LB2 := Lib.hid (LB1.out.alloc LB1.out.size (.cells #[.int .i64 a, .int .i64 b, .int .i64 1] 68))
  clear hb LB0 X0
  obtain ⟨t0, t1, t2, t3, t4, t5⟩ := T.all
  clear T
  have hF := lout_one b LB2.out
  rw [World.size_alloc] at hF
  have HF := Lib.hid hF
  clear hF
  have x1 : ((1 : Int) != 1) = false := rfl
  go_wp2
  go_ret2
  exact HF.out
/-- Moves of both sides. -/
theorem mo_two (W H : Int) (D : Option Addr) (n c : Nat) (f : Nat → Bool) (w : World) (hr : Holds w w.heap.size D n f) (hn : n ≤ 4200) (hc : n ≤ c) : ∃ (N : Nat) (l : Nat → Int) (z : Int), N ≤ 1 ∧ ∀ v, Below w.heap.size w v →
    Calls Try.prog 16 #[.agg #[.int .i64 W, .int .i64 H, .slice D n c]] v (LOut v N l z) ∧ Calls Try.prog 28 #[.agg #[.int .i64 W, .int .i64 H, .slice D n c]] v (LOut v N l z) := by
  by_cases hx : chk W H n = 0
  · obtain ⟨W', H', rfl, rfl, h1, h2, h3, h4, rfl⟩ := chk_nat hx
    obtain ⟨A, B, C, hL⟩ := IsL.ex W' H' f h1 h3
    have ho := fun v (hv : Below w.heap.size w v) u (hu : Below v.heap.size v u) => pof_at hL D c u ((((hr.below hv).more hv.size).below hu).more hu.size) hc h2 h3 h4
    have hq := fun v (hv : Below w.heap.size w v) u (hu : Below v.heap.size v u) => rof_at hL D c u ((((hr.below hv).more hv.size).below hu).more hu.size) h2 h3 h4
    have hc0 := hL.c0
    by_cases e : 1 < C
    · exact ⟨0, _, 0, by omega, fun v hv => ⟨pmo_no _ _ D _ c A B C 0 v rfl (by omega) (ho v hv), rmo_no _ _ D _ c A B C 0 v rfl (by omega) (hq v hv)⟩⟩
    · exact ⟨1, _, 0, by omega, fun v hv => ⟨pmo_yes _ _ D _ c A B C 0 v rfl (by omega) (ho v hv), rmo_yes _ _ D _ c A B C 0 v rfl (by omega) (hq v hv)⟩⟩
  · exact ⟨0, _, chk W H n, by omega, fun v hv => ⟨pmo_err W H D n c 0 0 0 _ v (by simpa using hx) (fun u hu => pof_err W H D n c u hn _ rfl (by simpa using hx)), rmo_err W H D n c 0 0 0 _ v (by simpa using hx) (fun u hu => rof_err W H D n c u hn _ rfl (by simpa using hx))⟩⟩
end Go.Proofs.Ytmakjdfkldacaaa
