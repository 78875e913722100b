/- alive: the chapter's examples. -/
import Derived.Test.YtnamjpdbadjgpaaAlivep
namespace Go.Proofs.Ytnamjpdbadjgpaa
open Go.RowKit
set_option linter.unusedVariables false
set_option linter.unusedSimpArgs false

theorem given_count (k : Nat) (w : World) (hR : Row w k 6 givenF) : Calls Try.prog 25 #[.agg #[.int .i64 3, .int .i64 2, .slice (some ⟨k, 0, none⟩) 6 6]] w fun e w' => e = .returned (.tuple #[.int .i64 3, .int .i64 0]) ∧ Below w.heap.size w w' := by
  have h := count_ok 3 2 (some ⟨k, 0, none⟩) 6 givenF w (hR.holds hR.lt) (by decide) (by decide) (by decide) (by decide)
  have e : cnt givenF (3 * 2) = 3 := c1
  rw [e] at h
  exact h
theorem given_turn (k : Nat) (w : World) (hR : Row w k 6 givenF) : Calls Try.prog 34 #[.agg #[.int .i64 3, .int .i64 2, .slice (some ⟨k, 0, none⟩) 6 6]] w fun e w' =>
    ∃ j, e = .returned (.tuple #[.agg #[.int .i64 2, .int .i64 3, .slice (some ⟨j, 0, none⟩) 6 6], .int .i64 0]) ∧ Row w' j 6 turnF ∧ Below w.heap.size w w' := by
  refine (turn_ok 3 2 (some ⟨k, 0, none⟩) 6 givenF w (hR.holds hR.lt) (by decide) (by decide) (by decide) (by decide)).mono ?_
  rintro e w' ⟨j, he, _, hR', hB⟩
  exact ⟨j, he, hR', hB⟩
theorem given_shift (k : Nat) (w : World) (hR : Row w k 6 givenF) : Calls Try.prog 19 #[.agg #[.int .i64 3, .int .i64 2, .slice (some ⟨k, 0, none⟩) 6 6], .int .i64 1, .int .i64 0] w fun e w' =>
    ∃ j, e = .returned (.tuple #[.agg #[.int .i64 3, .int .i64 2, .slice (some ⟨j, 0, none⟩) 6 6], .int .i64 0]) ∧ Row w' j 6 shiftF ∧ Below w.heap.size w w' := by
  refine (shift_ok 3 2 (some ⟨k, 0, none⟩) 6 givenF 1 0 w (hR.holds hR.lt) (by decide) (by decide) (by decide) (by decide) (by decide) (by decide) (by decide) (by decide)).mono ?_
  rintro e w' ⟨j, he, _, hR', hB⟩
  exact ⟨j, he, hR', hB⟩
theorem reads1 (k : Nat) (w : World) (hR : Row w k 6 givenF) : Calls Try.prog 18 #[.string ⟨#[46, 120, 120, 10, 120, 46, 46, 10]⟩, .agg #[.int .i64 3, .int .i64 2, .slice (some ⟨k, 0, none⟩) 6 6], .int .i64 0] w fun e w' => e = .returned (.bool true) ∧ Below w.heap.size w w' := by
  rw [← t1]
  exact reads_yes 3 2 (some ⟨k, 0, none⟩) 6 givenF w (hR.holds hR.lt) (by decide) (by decide) (by decide) (by decide)
theorem reads2 (k : Nat) (w : World) (hR : Row w k 6 turnF) : Calls Try.prog 18 #[.string ⟨#[46, 120, 10, 46, 120, 10, 120, 46, 10]⟩, .agg #[.int .i64 2, .int .i64 3, .slice (some ⟨k, 0, none⟩) 6 6], .int .i64 0] w fun e w' => e = .returned (.bool true) ∧ Below w.heap.size w w' := by
  rw [← t2]
  exact reads_yes 2 3 (some ⟨k, 0, none⟩) 6 turnF w (hR.holds hR.lt) (by decide) (by decide) (by decide) (by decide)
theorem reads3 (k : Nat) (w : World) (hR : Row w k 6 shiftF) : Calls Try.prog 18 #[.string ⟨#[120, 46, 120, 10, 46, 120, 46, 10]⟩, .agg #[.int .i64 3, .int .i64 2, .slice (some ⟨k, 0, none⟩) 6 6], .int .i64 0] w fun e w' => e = .returned (.bool true) ∧ Below w.heap.size w w' := by
  rw [← t3]
  exact reads_yes 3 2 (some ⟨k, 0, none⟩) 6 shiftF w (hR.holds hR.lt) (by decide) (by decide) (by decide) (by decide)

theorem alive_yes (w : World) : Calls Try.prog 23 #[] w fun e w' => e = .returned (.bool true) ∧ Below w.heap.size w w' := by
  have HG := Lib.hid given_ok
  have R1 := Lib.hid reads1
  have R2 := Lib.hid reads2
  have R3 := Lib.hid reads3
  have F1 := Lib.hid (fun w => refused_yes ⟨#[120]⟩ w (by decide) n1)
  have F2 := Lib.hid (fun w => refused_yes ⟨#[120, 120, 10, 120, 10]⟩ w (by decide) n2)
  have B0 := Lib.hid (Below.refl w.heap.size w)
  go_enter Try.func23, Try.ntmps23
  go_wp2_with fail
  refine (HG.out _).mono ?_
  rintro e w2 ⟨k1, rfl, hk1, hR1, bel⟩
  have HC := Lib.hid (given_count k1 w2 hR1)
  have B2 := Lib.hid (B0.out.trans (bel.mono B0.out.size))
  clear hk1 hR1 bel B0
  go_wp2_with fail
  refine HC.out.mono ?_
  rintro e w3 ⟨rfl, bel⟩
  have B3 := Lib.hid (B2.out.trans (bel.mono B2.out.size))
  clear bel B2 HC
  go_wp2_with fail
  refine (HG.out _).mono ?_
  rintro e w4 ⟨k2, rfl, hk2, hR2, bel⟩
  have HC := Lib.hid (given_turn k2 w4 hR2)
  have B4 := Lib.hid (B3.out.trans (bel.mono B3.out.size))
  clear hk2 hR2 bel B3
  go_wp2_with fail
  refine HC.out.mono ?_
  rintro e w5 ⟨j, rfl, hT, bel⟩
  have HT := Lib.hid hT
  have B5 := Lib.hid (B4.out.trans (bel.mono B4.out.size))
  clear bel B4 HC hT
  go_wp2_with fail
  have bT := Lib.hid (Box.new w5 2 3 (.slice (some ⟨j, 0, none⟩) 6 6))
  have HT6 := Lib.hid (HT.out.alloc (.cells #[.int .i64 2, .int .i64 3, .slice (some ⟨j, 0, none⟩) 6 6] 24))
  have B6 := Lib.hid (B5.out.alloc B5.out.size (.cells #[.int .i64 2, .int .i64 3, .slice (some ⟨j, 0, none⟩) 6 6] 24))
  clear HT B5
  refine (HG.out _).mono ?_
  rintro e w7 ⟨k3, rfl, hk3, hR3, bel⟩
  have HC := Lib.hid (given_shift k3 w7 hR3)
  have bT7 := Lib.hid (bT.out.below bel bT.out.lt)
  have HT7 := Lib.hid (HT6.out.below bel HT6.out.lt)
  have B7 := Lib.hid (B6.out.trans (bel.mono B6.out.size))
  clear hk3 hR3 bel bT HT6 B6
  generalize w5.heap.size = gt at *
  go_wp2_with fail
  refine HC.out.mono ?_
  rintro e w8 ⟨i, rfl, hS, bel⟩
  have HS := Lib.hid hS
  have bT8 := Lib.hid (bT7.out.below bel bT7.out.lt)
  have HT8 := Lib.hid (HT7.out.below bel HT7.out.lt)
  have B8 := Lib.hid (B7.out.trans (bel.mono B7.out.size))
  clear hS bel bT7 HT7 B7 HC
  go_wp2_with fail
  have bS := Lib.hid (Box.new w8 3 2 (.slice (some ⟨i, 0, none⟩) 6 6))
  have bT9 := Lib.hid (bT8.out.alloc (.cells #[.int .i64 3, .int .i64 2, .slice (some ⟨i, 0, none⟩) 6 6] 24))
  have HT9 := Lib.hid (HT8.out.alloc (.cells #[.int .i64 3, .int .i64 2, .slice (some ⟨i, 0, none⟩) 6 6] 24))
  have HS9 := Lib.hid (HS.out.alloc (.cells #[.int .i64 3, .int .i64 2, .slice (some ⟨i, 0, none⟩) 6 6] 24))
  have B9 := Lib.hid (B8.out.alloc B8.out.size (.cells #[.int .i64 3, .int .i64 2, .slice (some ⟨i, 0, none⟩) 6 6] 24))
  clear HS bT8 HT8 B8
  refine (HG.out _).mono ?_
  rintro e w10 ⟨k4, rfl, hk4, hR4, bel⟩
  have HC := Lib.hid (R1.out k4 w10 hR4)
  have bT10 := Lib.hid (bT9.out.below bel bT9.out.lt)
  have bS10 := Lib.hid (bS.out.below bel bS.out.lt)
  have HT10 := Lib.hid (HT9.out.below bel HT9.out.lt)
  have HS10 := Lib.hid (HS9.out.below bel HS9.out.lt)
  have B10 := Lib.hid (B9.out.trans (bel.mono B9.out.size))
  clear hk4 hR4 bel bT9 bS HT9 HS9 B9
  generalize w8.heap.size = gs at *
  go_wp2_with fail
  refine HC.out.mono ?_
  rintro e w11 ⟨rfl, bel⟩
  have bT11 := Lib.hid (bT10.out.below bel bT10.out.lt)
  have bS11 := Lib.hid (bS10.out.below bel bS10.out.lt)
  have HT11 := Lib.hid (HT10.out.below bel HT10.out.lt)
  have HS11 := Lib.hid (HS10.out.below bel HS10.out.lt)
  have B11 := Lib.hid (B10.out.trans (bel.mono B10.out.size))
  clear bel bT10 bS10 HT10 HS10 B10 HC
  obtain ⟨p0, p1, p2, p3, p4, p5, p6⟩ := bT11.out.all
  go_wp2_with fail
  refine (R2.out _ _ HT11.out).mono ?_
  rintro e w12 ⟨rfl, bel⟩
  have bS12 := Lib.hid (bS11.out.below bel bS11.out.lt)
  have HS12 := Lib.hid (HS11.out.below bel HS11.out.lt)
  have B12 := Lib.hid (B11.out.trans (bel.mono B11.out.size))
  clear bel bT11 bS11 HT11 HS11 B11 p0 p1 p2 p3 p4 p5 p6
  obtain ⟨p0, p1, p2, p3, p4, p5, p6⟩ := bS12.out.all
  go_wp2_with fail
  refine (R3.out _ _ HS12.out).mono ?_
  rintro e w13 ⟨rfl, bel⟩
  have B13 := Lib.hid (B12.out.trans (bel.mono B12.out.size))
  clear bel bS12 HS12 B12 p0 p1 p2 p3 p4 p5 p6
  go_wp2_with fail
  refine (F1.out _).mono ?_
  rintro e w14 ⟨rfl, bel⟩
  have B14 := Lib.hid (B13.out.trans (bel.mono B13.out.size))
  clear bel B13
  go_wp2_with fail
  refine (F2.out _).mono ?_
  rintro e w15 ⟨rfl, bel⟩
  have B15 := Lib.hid (B14.out.trans (bel.mono B14.out.size))
  clear bel B14
  go_wp2_with fail
  refine bodyPost_ret (v := .bool true) (by simp [results, Try.results23, go_sem]) rfl ⟨rfl, B15.out⟩
end Go.Proofs.Ytnamjpdbadjgpaa
