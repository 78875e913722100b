/- The statement RepeatNames: the walk. -/
import Derived.Test.YtjbofdgdcnfmoaaExa
namespace Go.Proofs.Ytjbofdgdcnfmoaa
open Go.RowKit
set_option maxRecDepth 100000
set_option linter.unusedVariables false
set_option linter.unusedSimpArgs false

def sat (i : Nat) : Bool := i == 4 || i == 6 || i == 13 || i == 15 || i == 22
theorem parse_sat (w : World) : Calls Try.prog 69 #[.string ⟨#[46, 46, 120, 46, 46, 10, 120, 46, 46, 46, 46, 10, 46, 46, 46, 120, 46, 10, 46, 120, 46, 46, 46, 10, 46, 46, 46, 46, 120, 10]⟩] w (PG w 5 5 25 sat) := by
  refine (parse_ok ⟨#[46, 46, 120, 46, 46, 10, 120, 46, 46, 46, 46, 10, 46, 46, 46, 120, 46, 10, 46, 120, 46, 46, 46, 10, 46, 46, 46, 46, 120, 10]⟩ 5 5 w (by decide) (by omega) (by omega) (by omega) (by omega) (by decide) ⟨by decide, ?_⟩ (fun W' => ?_)).mono fun e w' ⟨k, he, hk, hr, hb⟩ => ⟨k, he, hk, hr.congr ?_, hb⟩
  · have key : ∀ i (h : i < 30), okAt ⟨#[46, 46, 120, 46, 46, 10, 120, 46, 46, 46, 46, 10, 46, 46, 46, 120, 46, 10, 46, 120, 46, 46, 46, 10, 46, 46, 46, 46, 120, 10]⟩ 5 i h := by unfold okAt; decide +kernel
    exact key
  · exact (Try.strings_IndexByte _ 10 W').mono fun e w' h => by
      refine ⟨?_, h.2⟩
      rw [h.1]
      rfl
  · decide
theorem cl_sat (w : World) : Calls Try.prog 18 #[.string ⟨#[46, 46, 120, 46, 46, 10, 120, 46, 46, 46, 46, 10, 46, 46, 46, 120, 46, 10, 46, 120, 46, 46, 46, 10, 46, 46, 46, 46, 120, 10]⟩] w (CG w 5 5 25 sat) := cloth6_any _ _ _ _ _ (parse_sat) w
def xx3 (i : Nat) : Bool := i == 0 || i == 1
theorem parse_xx3 (w : World) : Calls Try.prog 69 #[.string ⟨#[120, 120, 46, 10]⟩] w (PG w 3 1 3 xx3) := by
  refine (parse_ok ⟨#[120, 120, 46, 10]⟩ 3 1 w (by decide) (by omega) (by omega) (by omega) (by omega) (by decide) ⟨by decide, ?_⟩ (fun W' => ?_)).mono fun e w' ⟨k, he, hk, hr, hb⟩ => ⟨k, he, hk, hr.congr ?_, hb⟩
  · have key : ∀ i (h : i < 4), okAt ⟨#[120, 120, 46, 10]⟩ 3 i h := by unfold okAt; decide +kernel
    exact key
  · exact (Try.strings_IndexByte _ 10 W').mono fun e w' h => by
      refine ⟨?_, h.2⟩
      rw [h.1]
      rfl
  · decide
theorem cl_xx3 (w : World) : Calls Try.prog 18 #[.string ⟨#[120, 120, 46, 10]⟩] w (CG w 3 1 3 xx3) := cloth6_any _ _ _ _ _ (parse_xx3) w
def one (i : Nat) : Bool := i == 2 || i == 5 || i == 6 || i == 7 || i == 9 || i == 10 || i == 14 || i == 17 || i == 18 || i == 19 || i == 21 || i == 22
theorem parse_one (w : World) : Calls Try.prog 69 #[.string ⟨#[120, 120, 46, 120, 120, 46, 10, 46, 46, 120, 46, 46, 120, 10, 120, 120, 46, 120, 120, 46, 10, 46, 46, 120, 46, 46, 120, 10]⟩] w (PG w 6 4 24 one) := by
  refine (parse_ok ⟨#[120, 120, 46, 120, 120, 46, 10, 46, 46, 120, 46, 46, 120, 10, 120, 120, 46, 120, 120, 46, 10, 46, 46, 120, 46, 46, 120, 10]⟩ 6 4 w (by decide) (by omega) (by omega) (by omega) (by omega) (by decide) ⟨by decide, ?_⟩ (fun W' => ?_)).mono fun e w' ⟨k, he, hk, hr, hb⟩ => ⟨k, he, hk, hr.congr ?_, hb⟩
  · have key : ∀ i (h : i < 28), okAt ⟨#[120, 120, 46, 120, 120, 46, 10, 46, 46, 120, 46, 46, 120, 10, 120, 120, 46, 120, 120, 46, 10, 46, 46, 120, 46, 46, 120, 10]⟩ 6 i h := by unfold okAt; decide +kernel
    exact key
  · exact (Try.strings_IndexByte _ 10 W').mono fun e w' h => by
      refine ⟨?_, h.2⟩
      rw [h.1]
      rfl
  · decide
theorem cl_one (w : World) : Calls Try.prog 18 #[.string ⟨#[120, 120, 46, 120, 120, 46, 10, 46, 46, 120, 46, 46, 120, 10, 120, 120, 46, 120, 120, 46, 10, 46, 46, 120, 46, 46, 120, 10]⟩] w (CG w 6 4 24 one) := cloth6_any _ _ _ _ _ (parse_one) w
def xd (i : Nat) : Bool := i == 0
theorem parse_xd (w : World) : Calls Try.prog 69 #[.string ⟨#[120, 46, 10]⟩] w (PG w 2 1 2 xd) := by
  refine (parse_ok ⟨#[120, 46, 10]⟩ 2 1 w (by decide) (by omega) (by omega) (by omega) (by omega) (by decide) ⟨by decide, ?_⟩ (fun W' => ?_)).mono fun e w' ⟨k, he, hk, hr, hb⟩ => ⟨k, he, hk, hr.congr ?_, hb⟩
  · have key : ∀ i (h : i < 3), okAt ⟨#[120, 46, 10]⟩ 2 i h := by unfold okAt; decide +kernel
    exact key
  · exact (Try.strings_IndexByte _ 10 W').mono fun e w' h => by
      refine ⟨?_, h.2⟩
      rw [h.1]
      rfl
  · decide
theorem cl_xd (w : World) : Calls Try.prog 18 #[.string ⟨#[120, 46, 10]⟩] w (CG w 2 1 2 xd) := cloth6_any _ _ _ _ _ (parse_xd) w
def xxx (i : Nat) : Bool := i == 0 || i == 1
theorem parse_xxx (w : World) : Calls Try.prog 69 #[.string ⟨#[120, 120, 10]⟩] w (PG w 2 1 2 xxx) := by
  refine (parse_ok ⟨#[120, 120, 10]⟩ 2 1 w (by decide) (by omega) (by omega) (by omega) (by omega) (by decide) ⟨by decide, ?_⟩ (fun W' => ?_)).mono fun e w' ⟨k, he, hk, hr, hb⟩ => ⟨k, he, hk, hr.congr ?_, hb⟩
  · have key : ∀ i (h : i < 3), okAt ⟨#[120, 120, 10]⟩ 2 i h := by unfold okAt; decide +kernel
    exact key
  · exact (Try.strings_IndexByte _ 10 W').mono fun e w' h => by
      refine ⟨?_, h.2⟩
      rw [h.1]
      rfl
  · decide
theorem cl_xxx (w : World) : Calls Try.prog 18 #[.string ⟨#[120, 120, 10]⟩] w (CG w 2 1 2 xxx) := cloth6_any _ _ _ _ _ (parse_xxx) w
def x1 (i : Nat) : Bool := i == 0
theorem parse_x1 (w : World) : Calls Try.prog 69 #[.string ⟨#[120, 10]⟩] w (PG w 1 1 1 x1) := by
  refine (parse_ok ⟨#[120, 10]⟩ 1 1 w (by decide) (by omega) (by omega) (by omega) (by omega) (by decide) ⟨by decide, ?_⟩ (fun W' => ?_)).mono fun e w' ⟨k, he, hk, hr, hb⟩ => ⟨k, he, hk, hr.congr ?_, hb⟩
  · have key : ∀ i (h : i < 2), okAt ⟨#[120, 10]⟩ 1 i h := by unfold okAt; decide +kernel
    exact key
  · exact (Try.strings_IndexByte _ 10 W').mono fun e w' h => by
      refine ⟨?_, h.2⟩
      rw [h.1]
      rfl
  · decide
theorem cl_x1 (w : World) : Calls Try.prog 18 #[.string ⟨#[120, 10]⟩] w (CG w 1 1 1 x1) := cloth6_any _ _ _ _ _ (parse_x1) w
theorem nof_sat (v : World) (k : Nat) (hr : Row v k 25 sat) : Calls Try.prog 19 #[.agg #[.int .i64 5, .int .i64 5, .slice (some ⟨k, 0, none⟩) 25 25]] v fun e w' => e = .returned (.tuple #[.agg #[.int .i64 5, .int .i64 2, .int .i64 1], .int .i64 0]) ∧ Below v.heap.size v w' := by
  exact pof_at (IsL.of (by decide +kernel) : IsL 5 5 sat 5 2 1) _ 25 v (hr.holds hr.lt) (by omega) (by omega) (by omega) (by omega)
theorem nof_one (v : World) (k : Nat) (hr : Row v k 24 one) : Calls Try.prog 19 #[.agg #[.int .i64 6, .int .i64 4, .slice (some ⟨k, 0, none⟩) 24 24]] v fun e w' => e = .returned (.tuple #[.agg #[.int .i64 3, .int .i64 0, .int .i64 2], .int .i64 0]) ∧ Below v.heap.size v w' := by
  exact pof_at (IsL.of (by decide +kernel) : IsL 6 4 one 3 0 2) _ 24 v (hr.holds hr.lt) (by omega) (by omega) (by omega) (by omega)
theorem rh_sat : rh 5 2 1 = 5 := by decide +kernel
theorem nrect (v : World) (k : Nat) (hr : Row v k 25 sat) : Calls Try.prog 20 #[.agg #[.int .i64 5, .int .i64 5, .slice (some ⟨k, 0, none⟩) 25 25]] v fun e w' => e = .returned (.tuple #[.int .i64 5, .int .i64 5, .int .i64 0]) ∧ Below v.heap.size v w' := by
  have h := prect_at (IsL.of (by decide +kernel) : IsL 5 5 sat 5 2 1) (some ⟨k, 0, none⟩) 25 v (hr.holds hr.lt) (by omega) (by omega) (by omega) (by omega)
  rw [rh_sat] at h
  exact h
theorem nspr (v : World) (k : Nat) (hr : Row v k 3 xx3) : Calls Try.prog 21 #[.agg #[.int .i64 3, .int .i64 1, .slice (some ⟨k, 0, none⟩) 3 3], .int .i64 1, .int .i64 6, .int .i64 3] v fun e w' => ∃ j d, e = .returned (.tuple #[.agg #[.int .i64 6, .int .i64 3, .slice (some ⟨j, 0, none⟩) 18 d], .int .i64 0]) ∧ Row w' j 18 (fun i => spf 3 1 xx3 1 (i % 6) (i / 6)) ∧ Below v.heap.size v w' := by
  exact (psp_ok 3 1 k 0 3 xx3 1 6 3 v hr.lt (fun i hi => by rw [Nat.zero_add]; exact hr.cell hi) (by omega) (by omega) (by omega) (by omega) (by omega) (by omega) (by omega) (by omega) (by omega)).mono fun e w' ⟨j, d, h1, _, h2, h3⟩ => ⟨j, d, h1, h2, h3⟩
theorem nrd_f (v : World) (j d : Nat) (hr : Row v j 18 (fun i => spf 3 1 xx3 1 (i % 6) (i / 6))) : Calls Try.prog 24 #[.agg #[.int .i64 6, .int .i64 3, .slice (some ⟨j, 0, none⟩) 18 d], .int .i64 0, .string ⟨#[46, 120, 120, 120, 120, 120, 10]⟩] v fun e w' => e = .returned (.bool false) ∧ Below v.heap.size v w' := by
  exact reads6_any 6 3 (some ⟨j, 0, none⟩) d _ _ false v (hr.holds hr.lt) (by omega) (by omega) (by omega) (by omega) (by decide +kernel)
theorem nrd_t (v : World) (j d : Nat) (hr : Row v j 18 (fun i => spf 3 1 xx3 1 (i % 6) (i / 6))) : Calls Try.prog 24 #[.agg #[.int .i64 6, .int .i64 3, .slice (some ⟨j, 0, none⟩) 18 d], .int .i64 0, .string ⟨#[120, 46, 120, 120, 46, 120, 10, 46, 120, 120, 46, 120, 120, 10, 120, 120, 46, 120, 120, 46, 10]⟩] v fun e w' => e = .returned (.bool true) ∧ Below v.heap.size v w' := by
  exact reads6_any 6 3 (some ⟨j, 0, none⟩) d _ _ true v (hr.holds hr.lt) (by omega) (by omega) (by omega) (by omega) (by decide +kernel)
theorem nin1 (v : World) : Calls Try.prog 22 #[.agg #[.int .i64 4, .int .i64 2, .int .i64 3], .int .i64 (-2), .int .i64 (-9)] v fun e w' => e = .returned (.tuple #[.bool true, .int .i64 0]) ∧ Below v.heap.size v w' := by
  refine (pin_any 4 2 3 (-2) (-9) v (by omega) (by omega) (by omega) (by omega)).mono fun e w' h => ⟨h.1.trans ?_, h.2⟩
  exact ret_bi (by decide +kernel) (by decide +kernel)
theorem nin2 (v : World) : Calls Try.prog 22 #[.agg #[.int .i64 4, .int .i64 2, .int .i64 3], .int .i64 0, .int .i64 3] v fun e w' => e = .returned (.tuple #[.bool false, .int .i64 0]) ∧ Below v.heap.size v w' := by
  refine (pin_any 4 2 3 0 3 v (by omega) (by omega) (by omega) (by omega)).mono fun e w' h => ⟨h.1.trans ?_, h.2⟩
  exact ret_bi (by decide +kernel) (by decide +kernel)
theorem nin3 (v : World) : Calls Try.prog 22 #[.agg #[.int .i64 0, .int .i64 0, .int .i64 0], .int .i64 0, .int .i64 0] v fun e w' => e = .returned (.tuple #[.bool false, .int .i64 8]) ∧ Below v.heap.size v w' := by
  refine (pin_any 0 0 0 0 0 v (by omega) (by omega) (by omega) (by omega)).mono fun e w' h => ⟨h.1.trans ?_, h.2⟩
  exact ret_bi (by decide +kernel) (by decide +kernel)
theorem nis (v : World) (k : Nat) (hr : Row v k 25 sat) : Calls Try.prog 23 #[.agg #[.int .i64 5, .int .i64 5, .slice (some ⟨k, 0, none⟩) 25 25], .int .i64 5000000000, .int .i64 (-5000000000)] v fun e w' => e = .returned (.tuple #[.bool true, .int .i64 0]) ∧ Below v.heap.size v w' := by
  have h := is_at (IsL.of (by decide +kernel) : IsL 5 5 sat 5 2 1) k 0 25 5000000000 (-5000000000) v hr.lt (by omega) (fun i hi => by rw [Nat.zero_add]; exact hr.cell hi) (by omega) (by omega) (by omega) (by omega) (by omega) (by omega) (by omega)
  have e : inn (5 : Nat) (2 : Nat) (1 : Nat) 5000000000 (-5000000000) = true := by decide +kernel
  rw [e] at h
  exact h
theorem nof_xd (v : World) (k : Nat) (hr : Row v k 2 xd) : Calls Try.prog 19 #[.agg #[.int .i64 2, .int .i64 1, .slice (some ⟨k, 0, none⟩) 2 2]] v fun e w' => e = .returned (.tuple #[.agg #[.int .i64 2, .int .i64 0, .int .i64 1], .int .i64 0]) ∧ Below v.heap.size v w' := by
  exact pof_at (IsL.of (by decide +kernel) : IsL 2 1 xd 2 0 1) _ 2 v (hr.holds hr.lt) (by omega) (by omega) (by omega) (by omega)
theorem nof_xxx (v : World) (k : Nat) (hr : Row v k 2 xxx) : Calls Try.prog 19 #[.agg #[.int .i64 2, .int .i64 1, .slice (some ⟨k, 0, none⟩) 2 2]] v fun e w' => e = .returned (.tuple #[.agg #[.int .i64 1, .int .i64 0, .int .i64 1], .int .i64 0]) ∧ Below v.heap.size v w' := by
  exact pof_at (IsL.of (by decide +kernel) : IsL 2 1 xxx 1 0 1) _ 2 v (hr.holds hr.lt) (by omega) (by omega) (by omega) (by omega)
theorem nof_x1 (v : World) (k : Nat) (hr : Row v k 1 x1) : Calls Try.prog 19 #[.agg #[.int .i64 1, .int .i64 1, .slice (some ⟨k, 0, none⟩) 1 1]] v fun e w' => e = .returned (.tuple #[.agg #[.int .i64 1, .int .i64 0, .int .i64 1], .int .i64 0]) ∧ Below v.heap.size v w' := by
  exact pof_at (IsL.of (by decide +kernel) : IsL 1 1 x1 1 0 1) _ 1 v (hr.holds hr.lt) (by omega) (by omega) (by omega) (by omega)
theorem noff1 (v : World) (j k : Nat) (hr : Row v j 2 xd) (hs : Row v k 2 xxx) : Calls Try.prog 25 #[.agg #[.int .i64 2, .int .i64 1, .slice (some ⟨j, 0, none⟩) 2 2], .agg #[.int .i64 2, .int .i64 1, .slice (some ⟨k, 0, none⟩) 2 2]] v fun e w' => e = .returned (.tuple #[.agg #[.int .i64 0, .int .i64 0], .int .i64 6]) ∧ Below v.heap.size v w' := by
  exact poff_ne 2 1 2 1 (some ⟨j, 0, none⟩) (some ⟨k, 0, none⟩) 2 2 2 2 2 0 1 1 0 1 v (by decide) (fun u hu => nof_xd u j (hr.below hu hr.lt)) (fun u hu => nof_xxx u k (hs.below hu hs.lt))
theorem noff2 (v : World) (j : Nat) (hr : Row v j 1 x1) : Calls Try.prog 25 #[.agg #[.int .i64 1, .int .i64 1, .slice (some ⟨j, 0, none⟩) 1 1], .agg #[.int .i64 0, .int .i64 0, .slice none 0 0]] v fun e w' => e = .returned (.tuple #[.agg #[.int .i64 0, .int .i64 0], .int .i64 8]) ∧ Below v.heap.size v w' := by
  exact poff_eb 1 1 0 0 (some ⟨j, 0, none⟩) none 1 1 0 0 1 0 1 v (by omega) 8 (by decide) (by decide) (fun u hu => nof_x1 u j (hr.below hu hr.lt))
theorem nsp1 (v : World) (k : Nat) : Calls Try.prog 21 #[.agg #[.int .i64 2, .int .i64 1, .slice (some ⟨k, 0, none⟩) 2 2], .int .i64 2, .int .i64 1, .int .i64 1] v fun e w' => e = .returned (.tuple #[.agg #[.int .i64 0, .int .i64 0, .slice none 0 0], .int .i64 2]) ∧ Below v.heap.size v w' := by
  exact (psp_b1 2 1 (some ⟨k, 0, none⟩) 2 2 1 1 v (by omega) (by omega) (by omega) (by omega) (by omega) (by omega)).mono fun e w' h => ⟨h.1, h.2⟩
theorem nsp2 (v : World) (k : Nat) : Calls Try.prog 21 #[.agg #[.int .i64 2, .int .i64 1, .slice (some ⟨k, 0, none⟩) 2 2], .int .i64 0, .int .i64 0, .int .i64 1] v fun e w' => e = .returned (.tuple #[.agg #[.int .i64 0, .int .i64 0, .slice none 0 0], .int .i64 2]) ∧ Below v.heap.size v w' := by
  exact (psp_u0 2 1 (some ⟨k, 0, none⟩) 2 0 0 1 v (by omega) (by omega) (by omega) (by omega) (by omega) (by omega) (by omega)).mono fun e w' h => ⟨h.1, h.2⟩
theorem nsp3 (v : World) (k : Nat) : Calls Try.prog 21 #[.agg #[.int .i64 2, .int .i64 1, .slice (some ⟨k, 0, none⟩) 2 2], .int .i64 0, .int .i64 65, .int .i64 1] v fun e w' => e = .returned (.tuple #[.agg #[.int .i64 0, .int .i64 0, .slice none 0 0], .int .i64 4]) ∧ Below v.heap.size v w' := by
  exact (psp_u1 2 1 (some ⟨k, 0, none⟩) 2 0 65 1 v (by omega) (by omega) (by omega) (by omega) (by omega) (by omega) (by omega) (by omega) (by omega)).mono fun e w' h => ⟨h.1, h.2⟩
theorem nerr1 (v : World) : Calls Try.prog 23 #[.agg #[.int .i64 0, .int .i64 0, .slice none 0 0], .int .i64 0, .int .i64 0] v fun e w' => e = .returned (.tuple #[.bool false, .int .i64 8]) ∧ Below v.heap.size v w' := by
  exact pis_err 0 0 none 0 0 0 0 v (by omega) 8 (by decide) (by decide)
theorem nerr2 (v : World) : Calls Try.prog 19 #[.agg #[.int .i64 65, .int .i64 0, .slice none 0 0]] v fun e w' => e = .returned (.tuple #[.agg #[.int .i64 0, .int .i64 0, .int .i64 0], .int .i64 4]) ∧ Below v.heap.size v w' := by
  exact pof_err 65 0 none 0 0 v (by omega) 4 (by decide) (by decide)
theorem nerr3 (v : World) : Calls Try.prog 20 #[.agg #[.int .i64 0, .int .i64 0, .slice none 0 0]] v fun e w' => e = .returned (.tuple #[.int .i64 0, .int .i64 0, .int .i64 8]) ∧ Below v.heap.size v w' := by
  exact prect_err 0 0 none 0 0 v (by omega) 8 (by decide) (by decide)
theorem nck1 (v : World) : Calls Try.prog 26 #[.agg #[.int .i64 64, .int .i64 63, .int .i64 64]] v fun e w' => e = .returned (.int .i64 0) ∧ Below v.heap.size v w' := by
  have h := lchk_any 64 63 64 v
  have e : lchk 64 63 64 = 0 := by decide
  rw [e] at h
  exact h
theorem nck2 (v : World) : Calls Try.prog 26 #[.agg #[.int .i64 65, .int .i64 0, .int .i64 1]] v fun e w' => e = .returned (.int .i64 8) ∧ Below v.heap.size v w' := by
  have h := lchk_any 65 0 1 v
  have e : lchk 65 0 1 = 8 := by decide
  rw [e] at h
  exact h
theorem nck3 (v : World) : Calls Try.prog 26 #[.agg #[.int .i64 2, .int .i64 2, .int .i64 1]] v fun e w' => e = .returned (.int .i64 8) ∧ Below v.heap.size v w' := by
  have h := lchk_any 2 2 1 v
  have e : lchk 2 2 1 = 8 := by decide
  rw [e] at h
  exact h
theorem nck4 (v : World) : Calls Try.prog 26 #[.agg #[.int .i64 2, .int .i64 (-1), .int .i64 1]] v fun e w' => e = .returned (.int .i64 8) ∧ Below v.heap.size v w' := by
  have h := lchk_any 2 (-1) 1 v
  have e : lchk 2 (-1) 1 = 8 := by decide
  rw [e] at h
  exact h
set_option maxHeartbeats 6400000 in
theorem names6_any (w : World) : Calls Try.prog 3 #[] w fun e w' => e = .returned (.bool true) ∧ Below w.heap.size w w' := by
  have LB0 := Lib.hid (Below.refl w.heap.size w)
  go_enter Try.func3, Try.ntmps3
  go_wp2_with fail
  refine (cl_sat _).mono ?_
  rintro e w1 ⟨ka, rfl, hk, hrow, hb⟩
  have hba := (show Below _ _ (w1.alloc (.cells #[.int .i64 5, .int .i64 5, .slice (some ⟨ka, 0, none⟩) 25 25] 24)) from hb.trans (((Below.refl _ _).alloc (Nat.le_refl _) _).mono hb.size))
  have G1 := Lib.hid (Box.new w1 5 5 (.slice (some ⟨ka, 0, none⟩) 25 25))
  have Rs1 := Lib.hid (hrow.alloc (.cells #[.int .i64 5, .int .i64 5, .slice (some ⟨ka, 0, none⟩) 25 25] 24))
  clear hb hrow hk
  have LB1 := Lib.hid (LB0.out.trans (hba.mono LB0.out.size))
  clear hba LB0
  obtain ⟨q0, q1, q2, q3, q4, q5, q6⟩ := G1.out.all
  go_wp2_with fail
  clear q0 q1 q2 q3 q4 q5 q6
  refine (nof_sat _ ka Rs1.out).mono ?_
  rintro e w2 ⟨rfl, hb⟩
  have hba := (show Below _ _ (w2.alloc (.cells #[.int .i64 5, .int .i64 2, .int .i64 1] 27)) from hb.trans (((Below.refl _ _).alloc (Nat.le_refl _) _).mono hb.size))
  have Ta2 := Lib.hid (Tri.new w2 5 2 1)
  clear hb
  have LB2 := Lib.hid (LB1.out.trans (hba.mono LB1.out.size))
  have G2 := Lib.hid (G1.out.below hba G1.out.lt)
  have Rs2 := Lib.hid (Rs1.out.below hba Rs1.out.lt)
  clear hba LB1 G1 Rs1
  obtain ⟨q0, q1, q2, q3, q4, q5, q6⟩ := G2.out.all
  go_wp2_with fail
  clear q0 q1 q2 q3 q4 q5 q6
  refine (nrect _ ka Rs2.out).mono ?_
  rintro e w3 ⟨rfl, hb⟩
  have LB3 := Lib.hid (LB2.out.trans (hb.mono LB2.out.size))
  have G3 := Lib.hid (G2.out.below hb G2.out.lt)
  have Rs3 := Lib.hid (Rs2.out.below hb Rs2.out.lt)
  have Ta3 := Lib.hid (Ta2.out.below hb Ta2.out.lt)
  clear hb LB2 G2 Rs2 Ta2
  go_wp2_with fail
  refine (cl_xx3 _).mono ?_
  rintro e w4 ⟨kb, rfl, hk, hrow, hb⟩
  have Ckb4 := Lib.hid (hrow)
  clear hk hrow
  have LB4 := Lib.hid (LB3.out.trans (hb.mono LB3.out.size))
  have G4 := Lib.hid (G3.out.below hb G3.out.lt)
  have Rs4 := Lib.hid (Rs3.out.below hb Rs3.out.lt)
  have Ta4 := Lib.hid (Ta3.out.below hb Ta3.out.lt)
  clear hb LB3 G3 Rs3 Ta3
  go_wp2_with fail
  refine (nspr _ kb Ckb4.out).mono ?_
  rintro e w5 ⟨j, d, rfl, hrow, hb⟩
  have hba := (show Below _ _ (w5.alloc (.cells #[.int .i64 6, .int .i64 3, .slice (some ⟨j, 0, none⟩) 18 d] 24)) from hb.trans (((Below.refl _ _).alloc (Nat.le_refl _) _).mono hb.size))
  have Vb5 := Lib.hid (Box.new w5 6 3 (.slice (some ⟨j, 0, none⟩) 18 d))
  have Rb5 := Lib.hid (hrow.alloc (.cells #[.int .i64 6, .int .i64 3, .slice (some ⟨j, 0, none⟩) 18 d] 24))
  clear hb hrow
  have LB5 := Lib.hid (LB4.out.trans (hba.mono LB4.out.size))
  have G5 := Lib.hid (G4.out.below hba G4.out.lt)
  have Rs5 := Lib.hid (Rs4.out.below hba Rs4.out.lt)
  have Ta5 := Lib.hid (Ta4.out.below hba Ta4.out.lt)
  have Ckb5 := Lib.hid (Ckb4.out.below hba Ckb4.out.lt)
  clear hba LB4 G4 Rs4 Ta4 Ckb4
  clear Ckb5
  go_wp2_with fail
  refine (nin1 _).mono ?_
  rintro e w6 ⟨rfl, hb⟩
  have LB6 := Lib.hid (LB5.out.trans (hb.mono LB5.out.size))
  have G6 := Lib.hid (G5.out.below hb G5.out.lt)
  have Rs6 := Lib.hid (Rs5.out.below hb Rs5.out.lt)
  have Ta6 := Lib.hid (Ta5.out.below hb Ta5.out.lt)
  have Vb6 := Lib.hid (Vb5.out.below hb Vb5.out.lt)
  have Rb6 := Lib.hid (Rb5.out.below hb Rb5.out.lt)
  clear hb LB5 G5 Rs5 Ta5 Vb5 Rb5
  go_wp2_with fail
  refine (nin2 _).mono ?_
  rintro e w7 ⟨rfl, hb⟩
  have LB7 := Lib.hid (LB6.out.trans (hb.mono LB6.out.size))
  have G7 := Lib.hid (G6.out.below hb G6.out.lt)
  have Rs7 := Lib.hid (Rs6.out.below hb Rs6.out.lt)
  have Ta7 := Lib.hid (Ta6.out.below hb Ta6.out.lt)
  have Vb7 := Lib.hid (Vb6.out.below hb Vb6.out.lt)
  have Rb7 := Lib.hid (Rb6.out.below hb Rb6.out.lt)
  clear hb LB6 G6 Rs6 Ta6 Vb6 Rb6
  obtain ⟨q0, q1, q2, q3, q4, q5, q6⟩ := G7.out.all
  go_wp2_with fail
  clear q0 q1 q2 q3 q4 q5 q6
  refine (nis _ ka Rs7.out).mono ?_
  rintro e w8 ⟨rfl, hb⟩
  have LB8 := Lib.hid (LB7.out.trans (hb.mono LB7.out.size))
  have G8 := Lib.hid (G7.out.below hb G7.out.lt)
  have Rs8 := Lib.hid (Rs7.out.below hb Rs7.out.lt)
  have Ta8 := Lib.hid (Ta7.out.below hb Ta7.out.lt)
  have Vb8 := Lib.hid (Vb7.out.below hb Vb7.out.lt)
  have Rb8 := Lib.hid (Rb7.out.below hb Rb7.out.lt)
  clear hb LB7 G7 Rs7 Ta7 Vb7 Rb7
  clear G8
  clear Rs8
  go_wp2_with fail
  refine (cl_one _).mono ?_
  rintro e w9 ⟨kc, rfl, hk, hrow, hb⟩
  have Ckc9 := Lib.hid (hrow)
  clear hk hrow
  have LB9 := Lib.hid (LB8.out.trans (hb.mono LB8.out.size))
  have Ta9 := Lib.hid (Ta8.out.below hb Ta8.out.lt)
  have Vb9 := Lib.hid (Vb8.out.below hb Vb8.out.lt)
  have Rb9 := Lib.hid (Rb8.out.below hb Rb8.out.lt)
  clear hb LB8 Ta8 Vb8 Rb8
  go_wp2_with fail
  refine (nof_one _ kc Ckc9.out).mono ?_
  rintro e w10 ⟨rfl, hb⟩
  have hba := (show Below _ _ (w10.alloc (.cells #[.int .i64 3, .int .i64 0, .int .i64 2] 27)) from hb.trans (((Below.refl _ _).alloc (Nat.le_refl _) _).mono hb.size))
  have Tb10 := Lib.hid (Tri.new w10 3 0 2)
  clear hb
  have LB10 := Lib.hid (LB9.out.trans (hba.mono LB9.out.size))
  have Ta10 := Lib.hid (Ta9.out.below hba Ta9.out.lt)
  have Vb10 := Lib.hid (Vb9.out.below hba Vb9.out.lt)
  have Rb10 := Lib.hid (Rb9.out.below hba Rb9.out.lt)
  have Ckc10 := Lib.hid (Ckc9.out.below hba Ckc9.out.lt)
  clear hba LB9 Ta9 Vb9 Rb9 Ckc9
  clear Ckc10
  obtain ⟨q0, q1, q2, q3, q4, q5⟩ := Ta10.out.all
  obtain ⟨r0, r1, r2, r3, r4, r5, r6⟩ := Vb10.out.all
  go_wp2_with fail
  clear q0 q1 q2 q3 q4 q5 r0 r1 r2 r3 r4 r5 r6
  refine (nrd_f _ j d Rb10.out).mono ?_
  rintro e w11 ⟨rfl, hb⟩
  have LB11 := Lib.hid (LB10.out.trans (hb.mono LB10.out.size))
  have Ta11 := Lib.hid (Ta10.out.below hb Ta10.out.lt)
  have Vb11 := Lib.hid (Vb10.out.below hb Vb10.out.lt)
  have Rb11 := Lib.hid (Rb10.out.below hb Rb10.out.lt)
  have Tb11 := Lib.hid (Tb10.out.below hb Tb10.out.lt)
  clear hb LB10 Ta10 Vb10 Rb10 Tb10
  clear Ta11
  obtain ⟨q0, q1, q2, q3, q4, q5, q6⟩ := Vb11.out.all
  go_wp2_with fail
  clear q0 q1 q2 q3 q4 q5 q6
  refine (nrd_t _ j d Rb11.out).mono ?_
  rintro e w12 ⟨rfl, hb⟩
  have LB12 := Lib.hid (LB11.out.trans (hb.mono LB11.out.size))
  have Vb12 := Lib.hid (Vb11.out.below hb Vb11.out.lt)
  have Rb12 := Lib.hid (Rb11.out.below hb Rb11.out.lt)
  have Tb12 := Lib.hid (Tb11.out.below hb Tb11.out.lt)
  clear hb LB11 Vb11 Rb11 Tb11
  clear Vb12
  clear Rb12
  obtain ⟨q0, q1, q2, q3, q4, q5⟩ := Tb12.out.all
  go_wp2_with fail
  clear q0 q1 q2 q3 q4 q5
  refine (cl_xd _).mono ?_
  rintro e w13 ⟨kd, rfl, hk, hrow, hb⟩
  have Ckd13 := Lib.hid (hrow)
  clear hk hrow
  have LB13 := Lib.hid (LB12.out.trans (hb.mono LB12.out.size))
  have Tb13 := Lib.hid (Tb12.out.below hb Tb12.out.lt)
  clear hb LB12 Tb12
  clear Tb13
  go_wp2_with fail
  refine (cl_xxx _).mono ?_
  rintro e w14 ⟨ke, rfl, hk, hrow, hb⟩
  have Cke14 := Lib.hid (hrow)
  clear hk hrow
  have LB14 := Lib.hid (LB13.out.trans (hb.mono LB13.out.size))
  have Ckd14 := Lib.hid (Ckd13.out.below hb Ckd13.out.lt)
  clear hb LB13 Ckd13
  go_wp2_with fail
  refine (noff1 _ kd ke Ckd14.out Cke14.out).mono ?_
  rintro e w15 ⟨rfl, hb⟩
  have hba := (show Below _ _ (w15.alloc (.cells #[.int .i64 0, .int .i64 0] 40)) from hb.trans (((Below.refl _ _).alloc (Nat.le_refl _) _).mono hb.size))
  clear hb
  have LB15 := Lib.hid (LB14.out.trans (hba.mono LB14.out.size))
  have Ckd15 := Lib.hid (Ckd14.out.below hba Ckd14.out.lt)
  have Cke15 := Lib.hid (Cke14.out.below hba Cke14.out.lt)
  clear hba LB14 Ckd14 Cke14
  clear Ckd15
  clear Cke15
  go_wp2_with fail
  refine (cl_x1 _).mono ?_
  rintro e w16 ⟨kf, rfl, hk, hrow, hb⟩
  have Ckf16 := Lib.hid (hrow)
  clear hk hrow
  have LB16 := Lib.hid (LB15.out.trans (hb.mono LB15.out.size))
  clear hb LB15
  go_wp2_with fail
  refine (noff2 _ kf Ckf16.out).mono ?_
  rintro e w17 ⟨rfl, hb⟩
  have hba := (show Below _ _ (w17.alloc (.cells #[.int .i64 0, .int .i64 0] 40)) from hb.trans (((Below.refl _ _).alloc (Nat.le_refl _) _).mono hb.size))
  clear hb
  have LB17 := Lib.hid (LB16.out.trans (hba.mono LB16.out.size))
  have Ckf17 := Lib.hid (Ckf16.out.below hba Ckf16.out.lt)
  clear hba LB16 Ckf16
  clear Ckf17
  go_wp2_with fail
  refine (cl_xd _).mono ?_
  rintro e w18 ⟨kg1, rfl, hk, hrow, hb⟩
  have Ckg118 := Lib.hid (hrow)
  clear hk hrow
  have LB18 := Lib.hid (LB17.out.trans (hb.mono LB17.out.size))
  clear hb LB17
  go_wp2_with fail
  refine (nsp1 _ kg1).mono ?_
  rintro e w19 ⟨rfl, hb⟩
  have hba := (show Below _ _ (w19.alloc (.cells #[.int .i64 0, .int .i64 0, .slice none 0 0] 24)) from hb.trans (((Below.refl _ _).alloc (Nat.le_refl _) _).mono hb.size))
  clear hb
  have LB19 := Lib.hid (LB18.out.trans (hba.mono LB18.out.size))
  have Ckg119 := Lib.hid (Ckg118.out.below hba Ckg118.out.lt)
  clear hba LB18 Ckg118
  clear Ckg119
  go_wp2_with fail
  refine (cl_xd _).mono ?_
  rintro e w20 ⟨kg2, rfl, hk, hrow, hb⟩
  have Ckg220 := Lib.hid (hrow)
  clear hk hrow
  have LB20 := Lib.hid (LB19.out.trans (hb.mono LB19.out.size))
  clear hb LB19
  go_wp2_with fail
  refine (nsp2 _ kg2).mono ?_
  rintro e w21 ⟨rfl, hb⟩
  have hba := (show Below _ _ (w21.alloc (.cells #[.int .i64 0, .int .i64 0, .slice none 0 0] 24)) from hb.trans (((Below.refl _ _).alloc (Nat.le_refl _) _).mono hb.size))
  clear hb
  have LB21 := Lib.hid (LB20.out.trans (hba.mono LB20.out.size))
  have Ckg221 := Lib.hid (Ckg220.out.below hba Ckg220.out.lt)
  clear hba LB20 Ckg220
  clear Ckg221
  go_wp2_with fail
  refine (cl_xd _).mono ?_
  rintro e w22 ⟨kg3, rfl, hk, hrow, hb⟩
  have Ckg322 := Lib.hid (hrow)
  clear hk hrow
  have LB22 := Lib.hid (LB21.out.trans (hb.mono LB21.out.size))
  clear hb LB21
  go_wp2_with fail
  refine (nsp3 _ kg3).mono ?_
  rintro e w23 ⟨rfl, hb⟩
  have hba := (show Below _ _ (w23.alloc (.cells #[.int .i64 0, .int .i64 0, .slice none 0 0] 24)) from hb.trans (((Below.refl _ _).alloc (Nat.le_refl _) _).mono hb.size))
  clear hb
  have LB23 := Lib.hid (LB22.out.trans (hba.mono LB22.out.size))
  have Ckg323 := Lib.hid (Ckg322.out.below hba Ckg322.out.lt)
  clear hba LB22 Ckg322
  clear Ckg323
  go_wp2_with fail
  refine (nin3 _).mono ?_
  rintro e w24 ⟨rfl, hb⟩
  have LB24 := Lib.hid (LB23.out.trans (hb.mono LB23.out.size))
  clear hb LB23
  go_wp2_with fail
  refine (nerr1 _).mono ?_
  rintro e w25 ⟨rfl, hb⟩
  have LB25 := Lib.hid (LB24.out.trans (hb.mono LB24.out.size))
  clear hb LB24
  go_wp2_with fail
  refine (nerr2 _).mono ?_
  rintro e w26 ⟨rfl, hb⟩
  have hba := (show Below _ _ (w26.alloc (.cells #[.int .i64 0, .int .i64 0, .int .i64 0] 27)) from hb.trans (((Below.refl _ _).alloc (Nat.le_refl _) _).mono hb.size))
  clear hb
  have LB26 := Lib.hid (LB25.out.trans (hba.mono LB25.out.size))
  clear hba LB25
  go_wp2_with fail
  refine (nerr3 _).mono ?_
  rintro e w27 ⟨rfl, hb⟩
  have LB27 := Lib.hid (LB26.out.trans (hb.mono LB26.out.size))
  clear hb LB26
  go_wp2_with fail
  refine (nck1 _).mono ?_
  rintro e w28 ⟨rfl, hb⟩
  have LB28 := Lib.hid (LB27.out.trans (hb.mono LB27.out.size))
  clear hb LB27
  go_wp2_with fail
  refine (nck2 _).mono ?_
  rintro e w29 ⟨rfl, hb⟩
  have LB29 := Lib.hid (LB28.out.trans (hb.mono LB28.out.size))
  clear hb LB28
  go_wp2_with fail
  refine (nck3 _).mono ?_
  rintro e w30 ⟨rfl, hb⟩
  have LB30 := Lib.hid (LB29.out.trans (hb.mono LB29.out.size))
  clear hb LB29
  go_wp2_with fail
  refine (nck4 _).mono ?_
  rintro e w31 ⟨rfl, hb⟩
  have LB31 := Lib.hid (LB30.out.trans (hb.mono LB30.out.size))
  clear hb LB30
  go_wp2_with fail
  refine (alive6_any _).mono ?_
  rintro e w32 ⟨rfl, hb⟩
  have LB32 := Lib.hid (LB31.out.trans (hb.mono LB31.out.size))
  clear hb LB31
  go_wp2
  go_ret
  exact ⟨rfl, LB32.out⟩
end Go.Proofs.Ytjbofdgdcnfmoaa
