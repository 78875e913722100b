/- Rect by both sides. -/
import Derived.Test.YtjbofdgdcnfmoaaTwo
import Derived.Test.YtjbofdgdcnfmoaaGcd
namespace Go.Proofs.Ytjbofdgdcnfmoaa
open Go.RowKit
set_option maxRecDepth 100000
set_option linter.unusedVariables false
set_option linter.unusedSimpArgs false

theorem ret3 {a b c a' b' c' : Int} (h : a = a') (k : b = b') (l : c = c') : Ending.returned (.tuple #[.int .i64 a, .int .i64 b, .int .i64 c]) = .returned (.tuple #[.int .i64 a', .int .i64 b', .int .i64 c']) := by rw [h, k, l]
/-- The rows of the least rectangle. -/
def rh (A B C : Nat) : Nat := C * A / Nat.gcd A B
set_option maxHeartbeats 400000 in
theorem prect_err (W H : Int) (A : Option Addr) (n c : Nat) (w : World) (hn : n ≤ 4200) (z : Int) (hx : chk W H n = z) (hne : (z != 0) = true) :
    Calls Try.prog 20 #[.agg #[.int .i64 W, .int .i64 H, .slice A n c]] w fun e w' => e = .returned (.tuple #[.int .i64 0, .int .i64 0, .int .i64 z]) ∧ Below w.heap.size w w' := by
  have HO := Lib.hid (fun u => pof_err W H A n c u hn z hx hne)
  have hb0 := Lib.hid ((Below.refl w.heap.size w).alloc (Nat.le_refl _) (.cells #[.int .i64 W, .int .i64 H, .slice A n c] 24))
  clear hx
  go_enter Try.func20, Try.ntmps20
  go_wp2_with fail
  refine (HO.out _).mono ?_
  rintro e u ⟨rfl, hb⟩
  have hb1 := Lib.hid ((hb0.out.trans (hb.mono hb0.out.size)).alloc (Nat.le_trans hb0.out.size hb.size) (.cells #[.int .i64 0, .int .i64 0, .int .i64 0] 27))
  clear hb
  go_wp2
  go_ret3
  exact ⟨rfl, hb1.out⟩
set_option maxHeartbeats 800000 in
theorem prect_at {W H A B C : Nat} {f : Nat → Bool} (hL : IsL W H f A B C) (D : Option Addr) (c : Nat) (w : World) (hr : Holds w w.heap.size D (W * H) f) (hcp : W * H ≤ c) (hW : W ≤ 64) (hH0 : 1 ≤ H) (hH : H ≤ 64) :
    Calls Try.prog 20 #[.agg #[.int .i64 (W : Nat), .int .i64 (H : Nat), .slice D (W * H) c]] w fun e w' => e = .returned (.tuple #[.int .i64 (A : Nat), .int .i64 (rh A B C : Nat), .int .i64 0]) ∧ Below w.heap.size w w' := by
  have hA := hL.aw
  have hC := hL.ch
  have hB := hL.ba
  have hA0 := hL.a0
  have HO := Lib.hid (fun u (h : Below w.heap.size w u) => pof_at hL D c u ((hr.below h).more h.size) hcp hW hH0 hH)
  have hb0 := Lib.hid ((Below.refl w.heap.size w).alloc (Nat.le_refl _) (.cells #[.int .i64 (W : Nat), .int .i64 (H : Nat), .slice D (W * H) c] 24))
  have hP : C * A ≤ 4096 := Nat.mul_le_mul (Nat.le_trans hC hH) (Nat.le_trans hA hW)
  have HG := Lib.hid (fun u n => pgcd_q A B u n (by omega) (by omega))
  have g0 : 1 ≤ Nat.gcd A B := Nat.gcd_pos_of_pos_left _ hA0
  have HE := Lib.hid (show rh A B C = C * A / Nat.gcd A B from rfl)
  have hq : C * A / Nat.gcd A B ≤ C * A := Nat.div_le_self _ _
  have e1 : (C : Int) * (A : Int) = ((C * A : Nat) : Int) := by rw [Int.natCast_mul]
  have e2 : ((C * A : Nat) : Int).tdiv ((Nat.gcd A B : Nat) : Int) = ((C * A / Nat.gcd A B : Nat) : Int) := by rw [Int.tdiv_eq_ediv_of_nonneg (by omega), Int.natCast_ediv]
  generalize rh A B C = R at *
  generalize C * A / Nat.gcd A B = q at *
  generalize Nat.gcd A B = g at *
  generalize C * A = P at *
  have e3 : ¬ (g : Int) = 0 := by omega
  clear hr
  go_enter Try.func20, Try.ntmps20
  go_wp2_with fail
  refine (HO.out _ hb0.out).mono ?_
  rintro e u ⟨rfl, hb⟩
  have hb1 := Lib.hid ((hb0.out.trans (hb.mono hb0.out.size)).alloc (Nat.le_trans hb0.out.size hb.size) (.cells #[.int .i64 (A : Nat), .int .i64 (B : Nat), .int .i64 (C : Nat)] 27))
  have T := Tri.new u (A : Nat) (B : Nat) (C : Nat)
  clear hb
  generalize hu : u.alloc (.cells #[.int .i64 (A : Nat), .int .i64 (B : Nat), .int .i64 (C : Nat)] 27) = u1 at T hb1
  have hu := Lib.hid hu
  obtain ⟨t0, t1, t2, t3, t4, t5⟩ := T.all
  go_wp2
  try rw [hu.out]
  go_quiet ((go_at_call 72; with_reducible exact HG.out _ _))
  go_wp2
  go_ret3
  exact ⟨by rw [HE.out]; rfl, Go.Proofs.below_drewN' hb1.out nq⟩
set_option maxHeartbeats 400000 in
theorem rrect_err (W H : Int) (A : Option Addr) (n c : Nat) (w : World) (hn : n ≤ 4200) (z : Int) (hx : chk W H n = z) (hne : (z != 0) = true) :
    Calls Try.prog 37 #[.agg #[.int .i64 W, .int .i64 H, .slice A n c]] w fun e w' => e = .returned (.tuple #[.int .i64 0, .int .i64 0, .int .i64 z]) ∧ Below w.heap.size w w' := by
  have HC := Lib.hid (fun u => (show Calls Try.prog 75 #[.agg #[.int .i64 W, .int .i64 H, .slice A n c]] u fun e w' => e = .returned (.int .i64 z) ∧ Below u.heap.size u w' by have h := rchk_any W H A n c u hn; rwa [hx] at h))
  have X0 := Lib.hid (Box.new w W H (.slice A n c))
  have hb0 := Lib.hid ((Below.refl w.heap.size w).alloc (Nat.le_refl _) (.cells #[.int .i64 W, .int .i64 H, .slice A n c] 24))
  clear hx
  go_enter Try.func37, Try.ntmps37
  go_wp2_with fail
  refine (HC.out _).mono ?_
  rintro e u ⟨rfl, hb⟩
  have X1 := Lib.hid (X0.out.below hb X0.out.lt)
  have hb1 := Lib.hid (hb0.out.trans (hb.mono hb0.out.size))
  clear hb
  obtain ⟨q0, q1, q2, q3, q4, q5, q6⟩ := X1.out.all
  go_wp2_with fail
  refine (HC.out _).mono ?_
  rintro e u2 ⟨rfl, hb⟩
  have hb2 := Lib.hid (hb1.out.trans (hb.mono hb1.out.size))
  clear hb
  go_wp2
  go_ret3
  exact ⟨rfl, hb2.out⟩
set_option maxHeartbeats 800000 in
theorem rrect_at {W H A B C : Nat} {f : Nat → Bool} (hL : IsL W H f A B C) (D : Option Addr) (c : Nat) (w : World) (hr : Holds w w.heap.size D (W * H) f) (hW : W ≤ 64) (hH0 : 1 ≤ H) (hH : H ≤ 64) :
    Calls Try.prog 37 #[.agg #[.int .i64 (W : Nat), .int .i64 (H : Nat), .slice D (W * H) c]] w fun e w' => e = .returned (.tuple #[.int .i64 (A : Nat), .int .i64 (rh A B C : Nat), .int .i64 0]) ∧ Below w.heap.size w w' := by
  have hA := hL.aw
  have hC := hL.ch
  have hB := hL.ba
  have hA0 := hL.a0
  have hW0 := Nat.le_trans hA0 hA
  have HK := Lib.hid (fun u => (show Calls Try.prog 75 #[.agg #[.int .i64 (W : Nat), .int .i64 (H : Nat), .slice D (W * H) c]] u fun e w' => e = .returned (.int .i64 0) ∧ Below u.heap.size u w' by have h := rchk_any (W : Nat) (H : Nat) D (W * H) c u (by have := Nat.mul_le_mul hW hH; omega); rwa [chk_zero hW0 hW hH0 hH] at h))
  have HO := Lib.hid (fun u (h : Below w.heap.size w u) => rlat_at hL D c u ((hr.below h).more h.size) hW hH0 hH)
  have X0 := Lib.hid (Box.new w (W : Nat) (H : Nat) (.slice D (W * H) c))
  have hb0 := Lib.hid ((Below.refl w.heap.size w).alloc (Nat.le_refl _) (.cells #[.int .i64 (W : Nat), .int .i64 (H : Nat), .slice D (W * H) c] 24))
  have hP : C * A ≤ 4096 := Nat.mul_le_mul (Nat.le_trans hC hH) (Nat.le_trans hA hW)
  have HG := Lib.hid (fun u n => rgcd_q A B u n (by omega) (by omega))
  have g0 : 1 ≤ Nat.gcd A B := Nat.gcd_pos_of_pos_left _ hA0
  have HE := Lib.hid (show rh A B C = C * A / Nat.gcd A B from rfl)
  have hq : C * A / Nat.gcd A B ≤ C * A := Nat.div_le_self _ _
  have e1 : (C : Int) * (A : Int) = ((C * A : Nat) : Int) := by rw [Int.natCast_mul]
  have e2 : ((C * A : Nat) : Int).tdiv ((Nat.gcd A B : Nat) : Int) = ((C * A / Nat.gcd A B : Nat) : Int) := by rw [Int.tdiv_eq_ediv_of_nonneg (by omega), Int.natCast_ediv]
  generalize rh A B C = R at *
  generalize C * A / Nat.gcd A B = q at *
  generalize Nat.gcd A B = g at *
  generalize C * A = P at *
  have e3 : ¬ (g : Int) = 0 := by omega
  clear hr
  go_enter Try.func37, Try.ntmps37
  go_wp2_with fail
  refine (HK.out _).mono ?_
  rintro e u0 ⟨rfl, hb⟩
  have X1 := Lib.hid (X0.out.below hb X0.out.lt)
  have hc1 := Lib.hid (hb0.out.trans (hb.mono hb0.out.size))
  clear hb
  obtain ⟨q0, q1, q2, q3, q4, q5, q6⟩ := X1.out.all
  go_wp2_with fail
  clear q0 q1 q2 q3 q4 q5 q6
  refine (HO.out _ hc1.out).mono ?_
  rintro e u ⟨rfl, hb⟩
  have hb1 := Lib.hid ((hc1.out.trans (hb.mono hc1.out.size)).alloc (Nat.le_trans hc1.out.size hb.size) (.cells #[.int .i64 (A : Nat), .int .i64 (B : Nat), .int .i64 (C : Nat)] 27))
  have T := Tri.new u (A : Nat) (B : Nat) (C : Nat)
  clear hb
  generalize hu : u.alloc (.cells #[.int .i64 (A : Nat), .int .i64 (B : Nat), .int .i64 (C : Nat)] 27) = u1 at T hb1
  have hu := Lib.hid hu
  obtain ⟨t0, t1, t2, t3, t4, t5⟩ := T.all
  go_wp2
  try rw [hu.out]
  go_quiet ((go_at_call 82; with_reducible exact HG.out _ _))
  go_wp2
  go_ret3
  exact ⟨by rw [HE.out]; rfl, Go.Proofs.below_drewN' hb1.out nq⟩
/-- Rect of both sides. -/
theorem rect_two (W H : Int) (D : Option Addr) (n c : Nat) (f : Nat → Bool) (w : World) (hr : Holds w w.heap.size D n f) (hn : n ≤ 4200) (hc : n ≤ c) : ∃ a b z : Int, ∀ v, Below w.heap.size w v →
    (Calls Try.prog 20 #[.agg #[.int .i64 W, .int .i64 H, .slice D n c]] v fun e w' => e = .returned (.tuple #[.int .i64 a, .int .i64 b, .int .i64 z]) ∧ Below v.heap.size v w') ∧
    (Calls Try.prog 37 #[.agg #[.int .i64 W, .int .i64 H, .slice D n c]] v fun e w' => e = .returned (.tuple #[.int .i64 a, .int .i64 b, .int .i64 z]) ∧ Below v.heap.size v w') := by
  by_cases hx : chk W H n = 0
  · obtain ⟨W', H', rfl, rfl, h1, h2, h3, h4, rfl⟩ := chk_nat hx
    obtain ⟨A, B, C, hL⟩ := IsL.ex W' H' f h1 h3
    exact ⟨A, rh A B C, 0, fun v hv => ⟨prect_at hL D c v ((hr.below hv).more hv.size) hc h2 h3 h4, rrect_at hL D c v ((hr.below hv).more hv.size) h2 h3 h4⟩⟩
  · exact ⟨0, 0, chk W H n, fun v hv => ⟨prect_err W H D n c v hn _ rfl (by simpa using hx), rrect_err W H D n c v hn _ rfl (by simpa using hx)⟩⟩
end Go.Proofs.Ytjbofdgdcnfmoaa
