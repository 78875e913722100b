/- DoubleNames: the walk. -/
import Derived.Test.YtgmcbdnfgdmmaaaDth
namespace Go.Proofs.Ytgmcbdnfgdmmaaa
open Go.RowKit
set_option maxRecDepth 100000
set_option linter.unusedVariables false
set_option linter.unusedSimpArgs false

def n1 (i : Nat) : Bool := [false, true, false, true, true, false, true, false].getD i false
theorem parse_n1 (w : World) : Calls Try.prog 65 #[.string ⟨#[120, 46, 120, 46, 10, 46, 120, 46, 120, 10]⟩] w (PG w 4 2 8 n1) := by
  refine (parse_ok ⟨#[120, 46, 120, 46, 10, 46, 120, 46, 120, 10]⟩ 4 2 w (by decide) (by omega) (by omega) (by omega) (by omega) (by decide) ⟨by decide, ?_⟩ (fun W' => ?_)).mono fun e w' ⟨k, he, hk, hr, hb⟩ => ⟨k, he, hk, hr.congr ?_, hb⟩
  · have key : ∀ i (h : i < 10), okAt ⟨#[120, 46, 120, 46, 10, 46, 120, 46, 120, 10]⟩ 4 i h := by unfold okAt; decide +kernel
    exact key
  · exact (Try.strings_IndexByte _ 10 W').mono fun e w' h => by
      refine ⟨?_, h.2⟩
      rw [h.1]
      rfl
  · decide
theorem cl_n1 (w : World) : Calls Try.prog 43 #[.string ⟨#[120, 46, 120, 46, 10, 46, 120, 46, 120, 10]⟩] w (CG w 4 2 8 n1) := cloth_any _ _ _ _ _ parse_n1 w
def n2 (i : Nat) : Bool := [true, true, false].getD i false
theorem parse_n2 (w : World) : Calls Try.prog 65 #[.string ⟨#[120, 120, 46, 10]⟩] w (PG w 3 1 3 n2) := by
  refine (parse_ok ⟨#[120, 120, 46, 10]⟩ 3 1 w (by decide) (by omega) (by omega) (by omega) (by omega) (by decide) ⟨by decide, ?_⟩ (fun W' => ?_)).mono fun e w' ⟨k, he, hk, hr, hb⟩ => ⟨k, he, hk, hr.congr ?_, hb⟩
  · have key : ∀ i (h : i < 4), okAt ⟨#[120, 120, 46, 10]⟩ 3 i h := by unfold okAt; decide +kernel
    exact key
  · exact (Try.strings_IndexByte _ 10 W').mono fun e w' h => by
      refine ⟨?_, h.2⟩
      rw [h.1]
      rfl
  · decide
theorem cl_n2 (w : World) : Calls Try.prog 43 #[.string ⟨#[120, 120, 46, 10]⟩] w (CG w 3 1 3 n2) := cloth_any _ _ _ _ _ parse_n2 w
def n3 (i : Nat) : Bool := [false, false, true].getD i false
theorem parse_n3 (w : World) : Calls Try.prog 65 #[.string ⟨#[46, 46, 120, 10]⟩] w (PG w 3 1 3 n3) := by
  refine (parse_ok ⟨#[46, 46, 120, 10]⟩ 3 1 w (by decide) (by omega) (by omega) (by omega) (by omega) (by decide) ⟨by decide, ?_⟩ (fun W' => ?_)).mono fun e w' ⟨k, he, hk, hr, hb⟩ => ⟨k, he, hk, hr.congr ?_, hb⟩
  · have key : ∀ i (h : i < 4), okAt ⟨#[46, 46, 120, 10]⟩ 3 i h := by unfold okAt; decide +kernel
    exact key
  · exact (Try.strings_IndexByte _ 10 W').mono fun e w' h => by
      refine ⟨?_, h.2⟩
      rw [h.1]
      rfl
  · decide
theorem cl_n3 (w : World) : Calls Try.prog 43 #[.string ⟨#[46, 46, 120, 10]⟩] w (CG w 3 1 3 n3) := cloth_any _ _ _ _ _ parse_n3 w
def n4 (i : Nat) : Bool := [false, true, false, true, true, false].getD i false
theorem parse_n4 (w : World) : Calls Try.prog 65 #[.string ⟨#[120, 120, 46, 10, 46, 120, 46, 10]⟩] w (PG w 3 2 6 n4) := by
  refine (parse_ok ⟨#[120, 120, 46, 10, 46, 120, 46, 10]⟩ 3 2 w (by decide) (by omega) (by omega) (by omega) (by omega) (by decide) ⟨by decide, ?_⟩ (fun W' => ?_)).mono fun e w' ⟨k, he, hk, hr, hb⟩ => ⟨k, he, hk, hr.congr ?_, hb⟩
  · have key : ∀ i (h : i < 8), okAt ⟨#[120, 120, 46, 10, 46, 120, 46, 10]⟩ 3 i h := by unfold okAt; decide +kernel
    exact key
  · exact (Try.strings_IndexByte _ 10 W').mono fun e w' h => by
      refine ⟨?_, h.2⟩
      rw [h.1]
      rfl
  · decide
theorem cl_n4 (w : World) : Calls Try.prog 43 #[.string ⟨#[120, 120, 46, 10, 46, 120, 46, 10]⟩] w (CG w 3 2 6 n4) := cloth_any _ _ _ _ _ parse_n4 w
theorem ap_n1 (w : World) (k c : Nat) (h : Row w k 8 n1) : Calls Try.prog 42 #[.agg #[.int .i64 4, .int .i64 2, .slice (some ⟨k, 0, none⟩) 8 c]] w (ApN w 6) :=
  (apart_even 2 1 (by omega) (by omega) (by omega) (by omega) (h.holds h.lt)).1 (by unfold isD; decide +kernel)
theorem fc_n (w : World) (k1 k2 k3 c1 c2 c3 : Nat) (h1 : Row w k1 3 n2) (h2 : Row w k2 3 n3) (h3 : Row w k3 3 p3) : Calls Try.prog 44 #[.agg #[.int .i64 3, .int .i64 1, .slice (some ⟨k1, 0, none⟩) 3 c1], .agg #[.int .i64 3, .int .i64 1, .slice (some ⟨k2, 0, none⟩) 3 c2], .agg #[.int .i64 3, .int .i64 1, .slice (some ⟨k3, 0, none⟩) 3 c3]] w (SpN w 3 1 3 (fun i => if p3 i then n2 i else n3 i)) :=
  face_ok (W := 3) (H := 1) (by omega) (by omega) (by omega) (by omega) w (h1.holds h1.lt) (h2.holds h2.lt) (h3.holds h3.lt)
theorem bk_n (w : World) (k c : Nat) (h : Row w k 6 n4) : Calls Try.prog 45 #[.agg #[.int .i64 3, .int .i64 2, .slice (some ⟨k, 0, none⟩) 6 c]] w (SpN w 3 2 6 (bkf 3 n4)) :=
  (back_ok (W := 3) (H := 2) (by omega) (by omega) (by omega) (by omega) w (h.holds h.lt)).mono fun e w' ⟨k, he, hk, hr, hb⟩ => ⟨k, _, he, hk, hr, hb⟩
theorem tb_n (w : World) (k c : Nat) (h : Row w k 2 xd) : Calls Try.prog 46 #[.agg #[.int .i64 2, .int .i64 1, .slice (some ⟨k, 0, none⟩) 2 c]] w (SpN w 4 2 8 (dbl 2 xd (bkf 2 xd) (fun _ => true))) :=
  tube_ok (W := 2) (H := 1) (by omega) (by omega) (by omega) (by omega) w (h.holds h.lt)
theorem rd_f (w : World) (k c : Nat) (h : Row w k 3 (fun i => if p3 i then n2 i else n3 i)) : Calls Try.prog 47 #[.agg #[.int .i64 3, .int .i64 1, .slice (some ⟨k, 0, none⟩) 3 c], .int .i64 0, .string ⟨#[120, 46, 46, 10]⟩] w fun e w' => e = .returned (.bool true) ∧ Below w.heap.size w w' :=
  reads_any 3 1 (some ⟨k, 0, none⟩) c _ _ true w (h.holds h.lt) (by omega) (by omega) (by omega) (by omega) (by decide +kernel)
theorem rd_b (w : World) (k c : Nat) (h : Row w k 6 (bkf 3 n4)) : Calls Try.prog 47 #[.agg #[.int .i64 3, .int .i64 2, .slice (some ⟨k, 0, none⟩) 6 c], .int .i64 0, .string ⟨#[120, 46, 46, 10, 120, 46, 120, 10]⟩] w fun e w' => e = .returned (.bool true) ∧ Below w.heap.size w w' :=
  reads_any 3 2 (some ⟨k, 0, none⟩) c _ _ true w (h.holds h.lt) (by omega) (by omega) (by omega) (by omega) (by decide +kernel)
theorem rd_t (w : World) (k c : Nat) (h : Row w k 8 (dbl 2 xd (bkf 2 xd) (fun _ => true))) : Calls Try.prog 47 #[.agg #[.int .i64 4, .int .i64 2, .slice (some ⟨k, 0, none⟩) 8 c], .int .i64 0, .string ⟨#[120, 120, 120, 46, 10, 120, 46, 46, 46, 10]⟩] w fun e w' => e = .returned (.bool true) ∧ Below w.heap.size w w' :=
  reads_any 4 2 (some ⟨k, 0, none⟩) c _ _ true w (h.holds h.lt) (by omega) (by omega) (by omega) (by omega) (by decide +kernel)
theorem wv_big (w : World) (k c : Nat) : Calls Try.prog 48 #[.agg #[.int .i64 33, .int .i64 1, .slice (some ⟨k, 0, none⟩) 33 c], .agg #[.int .i64 33, .int .i64 1, .slice (some ⟨k, 0, none⟩) 33 c], .agg #[.int .i64 33, .int .i64 1, .slice (some ⟨k, 0, none⟩) 33 c]] w (ErrGrid w 4) := weave_many (W := 33) (H := 1) (by omega) (by omega) (by omega) (by omega) (by omega) w
theorem tb_big (w : World) (k c : Nat) (h : Row w k 33 (fun _ => false)) : Calls Try.prog 46 #[.agg #[.int .i64 33, .int .i64 1, .slice (some ⟨k, 0, none⟩) 33 c]] w (ErrGrid w 4) := tube_many (W := 33) (H := 1) (by omega) (by omega) (by omega) (by omega) (by omega) w (h.holds h.lt)
theorem fc_big (w : World) (k c : Nat) (h : Row w k 33 (fun _ => false)) : Calls Try.prog 44 #[.agg #[.int .i64 33, .int .i64 1, .slice (some ⟨k, 0, none⟩) 33 c], .agg #[.int .i64 33, .int .i64 1, .slice (some ⟨k, 0, none⟩) 33 c], .agg #[.int .i64 33, .int .i64 1, .slice (some ⟨k, 0, none⟩) 33 c]] w (SpN w 33 1 33 (fun i => if (fun _ => false) i then (fun _ => false) i else (fun _ => false) i)) :=
  face_ok (W := 33) (H := 1) (by omega) (by omega) (by omega) (by omega) w (h.holds h.lt) (h.holds h.lt) (h.holds h.lt)
theorem wv_most (w : World) (k c : Nat) (h : Row w k 1024 (fun _ => false)) : Calls Try.prog 48 #[.agg #[.int .i64 32, .int .i64 32, .slice (some ⟨k, 0, none⟩) 1024 c], .agg #[.int .i64 32, .int .i64 32, .slice (some ⟨k, 0, none⟩) 1024 c], .agg #[.int .i64 32, .int .i64 32, .slice (some ⟨k, 0, none⟩) 1024 c]] w (SpN w 64 64 4096 (dbl 32 (fun _ => false) (fun _ => false) (fun _ => false))) :=
  weave_ok (W := 32) (H := 32) (by omega) (by omega) (by omega) (by omega) w (h.holds h.lt) (h.holds h.lt) (h.holds h.lt)
theorem wv_two (w : World) (k c l d : Nat) : Calls Try.prog 48 #[.agg #[.int .i64 32, .int .i64 32, .slice (some ⟨k, 0, none⟩) 1024 c], .agg #[.int .i64 32, .int .i64 32, .slice (some ⟨k, 0, none⟩) 1024 c], .agg #[.int .i64 33, .int .i64 1, .slice (some ⟨l, 0, none⟩) 33 d]] w (ErrGrid w 2) := weave_err (by omega) (by omega) (by omega) (by decide) (by decide) w
theorem wv_z (w : World) (k c : Nat) : Calls Try.prog 48 #[.agg #[.int .i64 32, .int .i64 32, .slice (some ⟨k, 0, none⟩) 1024 c], .agg #[.int .i64 0, .int .i64 0, .slice none 0 0], .agg #[.int .i64 65, .int .i64 0, .slice none 0 0]] w (ErrGrid w 8) := weave_err (by omega) (by omega) (by omega) (by decide) (by decide) w
theorem fc_z (w : World) (k c : Nat) : Calls Try.prog 44 #[.agg #[.int .i64 32, .int .i64 32, .slice (some ⟨k, 0, none⟩) 1024 c], .agg #[.int .i64 32, .int .i64 32, .slice (some ⟨k, 0, none⟩) 1024 c], .agg #[.int .i64 65, .int .i64 0, .slice none 0 0]] w (ErrGrid w 4) := face_err (by omega) (by omega) (by omega) (by decide) (by decide) w
theorem bk_z (w : World) : Calls Try.prog 45 #[.agg #[.int .i64 0, .int .i64 0, .slice none 0 0]] w (ErrGrid w 8) := back_err (by omega) (by decide) (by decide) w
theorem tb_z (w : World) : Calls Try.prog 46 #[.agg #[.int .i64 0, .int .i64 0, .slice none 0 0]] w (ErrGrid w 8) := tube_err (by omega) (by decide) (by decide) w
theorem ap_z (w : World) : Calls Try.prog 42 #[.agg #[.int .i64 1, .int .i64 65, .slice none 0 0]] w (ApN w 4) := apart_err (by omega) (by decide) (by decide) w
theorem mkN_run (N : Nat) (hN : N ≤ 100000) (w : World) : (Instr.makeSlice 22 (.int .i64 (N : Nat)) (.int .i64 (N : Nat))).run Try.prog w = .ok (.slice (some ⟨w.heap.size, 0, none⟩) N N) (w.alloc (.cells (madeCells #[.bool false] N) 4)) := by
  obtain ⟨i0, hi, hz0, hz1, hz2⟩ := info_parts Try.info4
  have h := run_make (P := Try.prog) w 22 4 i0 (.bool false) Try.underlying22 hi hz0 .i64 .i64 (N : Nat) (N : Nat) (by omega) (by omega) (by rw [hz2]; omega) (by omega)
  simp only [Int.toNat_natCast, hz1, Nat.mul_one] at h
  exact h
set_option maxHeartbeats 6400000 in
theorem names12_any (w : World) : Calls Try.prog 10 #[] w fun e w' => e = .returned (.bool true) ∧ Below w.heap.size w w' := by
  have hmk1 : ∀ w, (Instr.makeSlice 22 (.int .i64 33) (.int .i64 33)).run Try.prog w = .ok (.slice (some ⟨w.heap.size, 0, none⟩) 33 33) (w.alloc (.cells (madeCells #[.bool false] 33) 4)) := fun w => mkN_run 33 (by omega) w
  have hmk2 : ∀ w, (Instr.makeSlice 22 (.int .i64 1024) (.int .i64 1024)).run Try.prog w = .ok (.slice (some ⟨w.heap.size, 0, none⟩) 1024 1024) (w.alloc (.cells (madeCells #[.bool false] 1024) 4)) := fun w => mkN_run 1024 (by omega) w
  have HR1 := Lib.hid (fun w => Row.made w 33)
  have HR2 := Lib.hid (fun w => Row.made w 1024)
  obtain ⟨m1, hm1⟩ : ∃ m, madeCells #[.bool false] 33 = m := ⟨_, rfl⟩
  obtain ⟨m2, hm2⟩ : ∃ m, madeCells #[.bool false] 1024 = m := ⟨_, rfl⟩
  simp only [hm1] at hmk1 HR1
  simp only [hm2] at hmk2 HR2
  clear hm1 hm2
  have LB0 := Lib.hid (Below.refl w.heap.size w)
  go_enter Try.func10, Try.ntmps10
  go_wp2_with fail
  with_reducible refine Calls.mono (cl_n1 _) ?_
  rintro e w1 ⟨k1, rfl, hk1, hrow, hb⟩
  have LB1 := Lib.hid (LB0.out.trans (hb.mono LB0.out.size))
  have H1 := Lib.hid hrow
  clear hb hrow LB0
  go_wp2_with fail
  with_reducible refine Calls.mono (ap_n1 _ _ _ H1.out) ?_
  rintro e w2 ⟨rfl, hb⟩
  have LB2 := Lib.hid (LB1.out.trans (hb.mono LB1.out.size))
  have H1 := Lib.hid (H1.out.below hb H1.out.lt)
  clear hb LB1 
  clear H1
  have hb := ((((Below.refl w2.heap.size w2).alloc (by simp; try omega) (.cells #[.int .i64 0, .int .i64 0, .slice none 0 0] 24)).alloc (by simp; try omega) (.cells #[.int .i64 0, .int .i64 0, .slice none 0 0] 24)).alloc (by simp; try omega) (.cells #[.int .i64 0, .int .i64 0, .slice none 0 0] 24))
  have LB3 := Lib.hid (LB2.out.trans (hb.mono LB2.out.size))
  have Z1 := Box.new w2 0 0 (.slice none 0 0)
  have Z1 := Lib.hid Z1
  have Z1 := Lib.hid (Z1.out.alloc (.cells #[.int .i64 0, .int .i64 0, .slice none 0 0] 24))
  have Z1 := Lib.hid (Z1.out.alloc (.cells #[.int .i64 0, .int .i64 0, .slice none 0 0] 24))
  have Z2 := Box.new (w2.alloc (.cells #[.int .i64 0, .int .i64 0, .slice none 0 0] 24)) 0 0 (.slice none 0 0)
  rw [show (w2.alloc (.cells #[.int .i64 0, .int .i64 0, .slice none 0 0] 24)).heap.size = w2.heap.size + 1 by simp] at Z2
  have Z2 := Lib.hid Z2
  have Z2 := Lib.hid (Z2.out.alloc (.cells #[.int .i64 0, .int .i64 0, .slice none 0 0] 24))
  have Z3 := Box.new ((w2.alloc (.cells #[.int .i64 0, .int .i64 0, .slice none 0 0] 24)).alloc (.cells #[.int .i64 0, .int .i64 0, .slice none 0 0] 24)) 0 0 (.slice none 0 0)
  rw [show ((w2.alloc (.cells #[.int .i64 0, .int .i64 0, .slice none 0 0] 24)).alloc (.cells #[.int .i64 0, .int .i64 0, .slice none 0 0] 24)).heap.size = w2.heap.size + 1 + 1 by simp] at Z3
  have Z3 := Lib.hid Z3
  clear hb LB2
  go_upto_region 2 with (fail)
  obtain ⟨z3, hz3⟩ : ∃ z, w2.heap.size + 1 + 1 = z := ⟨_, rfl⟩
  rw [hz3] at Z3
  try rw [hz3]
  obtain ⟨z2, hz2⟩ : ∃ z, w2.heap.size + 1 = z := ⟨_, rfl⟩
  rw [hz2] at Z2
  try rw [hz2]
  obtain ⟨z1, hz1⟩ : ∃ z, w2.heap.size = z := ⟨_, rfl⟩
  rw [hz1] at Z1
  try rw [hz1]
  clear hz1 hz2 hz3
  generalize ((w2.alloc (.cells #[.int .i64 0, .int .i64 0, .slice none 0 0] 24)).alloc (.cells #[.int .i64 0, .int .i64 0, .slice none 0 0] 24)).alloc (.cells #[.int .i64 0, .int .i64 0, .slice none 0 0] 24) = w3 at *
  go_wp2_with fail
  with_reducible refine Calls.mono (cl_n2 _) ?_
  rintro e w4 ⟨k2, rfl, hk2, hrow, hb⟩
  have LB4 := Lib.hid (LB3.out.trans (hb.mono LB3.out.size))
  have Z1 := Lib.hid (Z1.out.below hb Z1.out.lt)
  have Z2 := Lib.hid (Z2.out.below hb Z2.out.lt)
  have Z3 := Lib.hid (Z3.out.below hb Z3.out.lt)
  have H2 := Lib.hid hrow
  clear hb LB3 hrow
  go_wp2_with fail
  with_reducible refine Calls.mono (cl_n3 _) ?_
  rintro e w5 ⟨k3, rfl, hk3, hrow, hb⟩
  have LB5 := Lib.hid (LB4.out.trans (hb.mono LB4.out.size))
  have Z1 := Lib.hid (Z1.out.below hb Z1.out.lt)
  have Z2 := Lib.hid (Z2.out.below hb Z2.out.lt)
  have Z3 := Lib.hid (Z3.out.below hb Z3.out.lt)
  have H2 := Lib.hid (H2.out.below hb H2.out.lt)
  have H3 := Lib.hid hrow
  clear hb LB4 hrow
  go_wp2_with fail
  with_reducible refine Calls.mono (cl_p3 _) ?_
  rintro e w6 ⟨k4, rfl, hk4, hrow, hb⟩
  have LB6 := Lib.hid (LB5.out.trans (hb.mono LB5.out.size))
  have Z1 := Lib.hid (Z1.out.below hb Z1.out.lt)
  have Z2 := Lib.hid (Z2.out.below hb Z2.out.lt)
  have Z3 := Lib.hid (Z3.out.below hb Z3.out.lt)
  have H2 := Lib.hid (H2.out.below hb H2.out.lt)
  have H3 := Lib.hid (H3.out.below hb H3.out.lt)
  have H4 := Lib.hid hrow
  clear hb LB5 hrow
  go_wp2_with fail
  with_reducible refine Calls.mono (fc_n _ k2 k3 k4 3 3 3 H2.out H3.out H4.out) ?_
  rintro e w7 ⟨k5, d5, rfl, hk5, hrow, hb⟩
  have LB7 := Lib.hid (LB6.out.trans (hb.mono LB6.out.size))
  have Z1 := Lib.hid (Z1.out.below hb Z1.out.lt)
  have Z2 := Lib.hid (Z2.out.below hb Z2.out.lt)
  have Z3 := Lib.hid (Z3.out.below hb Z3.out.lt)
  have H2 := Lib.hid (H2.out.below hb H2.out.lt)
  have H3 := Lib.hid (H3.out.below hb H3.out.lt)
  have H4 := Lib.hid (H4.out.below hb H4.out.lt)
  have H5 := Lib.hid hrow
  clear hb LB6 hrow
  clear H2 H3 H4
  have hb := ((Below.refl w7.heap.size w7).alloc (by simp; try omega) (.cells #[.int .i64 3, .int .i64 1, .slice (some ⟨k5, 0, none⟩) 3 d5] 24))
  have LB8 := Lib.hid (LB7.out.trans (hb.mono LB7.out.size))
  have Z1 := Lib.hid (Z1.out.below hb Z1.out.lt)
  have Z2 := Lib.hid (Z2.out.below hb Z2.out.lt)
  have Z3 := Lib.hid (Z3.out.below hb Z3.out.lt)
  have H5 := Lib.hid (H5.out.below hb H5.out.lt)
  have X5 := Box.new w7 3 1 (.slice (some ⟨k5, 0, none⟩) 3 d5)
  have X5 := Lib.hid X5
  clear hb LB7
  go_upto_region 3 with (fail)
  obtain ⟨x5, hx5⟩ : ∃ z, w7.heap.size = z := ⟨_, rfl⟩
  rw [hx5] at X5
  try rw [hx5]
  clear hx5
  generalize w7.alloc (.cells #[.int .i64 3, .int .i64 1, .slice (some ⟨k5, 0, none⟩) 3 d5] 24) = w8 at *
  go_wp2_with fail
  with_reducible refine Calls.mono (cl_n4 _) ?_
  rintro e w9 ⟨k6, rfl, hk6, hrow, hb⟩
  have LB9 := Lib.hid (LB8.out.trans (hb.mono LB8.out.size))
  have Z1 := Lib.hid (Z1.out.below hb Z1.out.lt)
  have Z2 := Lib.hid (Z2.out.below hb Z2.out.lt)
  have Z3 := Lib.hid (Z3.out.below hb Z3.out.lt)
  have H5 := Lib.hid (H5.out.below hb H5.out.lt)
  have X5 := Lib.hid (X5.out.below hb X5.out.lt)
  have H6 := Lib.hid hrow
  clear hb LB8 hrow
  go_wp2_with fail
  with_reducible refine Calls.mono (bk_n _ k6 6 H6.out) ?_
  rintro e w10 ⟨k7, d7, rfl, hk7, hrow, hb⟩
  have LB10 := Lib.hid (LB9.out.trans (hb.mono LB9.out.size))
  have Z1 := Lib.hid (Z1.out.below hb Z1.out.lt)
  have Z2 := Lib.hid (Z2.out.below hb Z2.out.lt)
  have Z3 := Lib.hid (Z3.out.below hb Z3.out.lt)
  have H5 := Lib.hid (H5.out.below hb H5.out.lt)
  have X5 := Lib.hid (X5.out.below hb X5.out.lt)
  have H6 := Lib.hid (H6.out.below hb H6.out.lt)
  have H7 := Lib.hid hrow
  clear hb LB9 hrow
  clear H6
  have hb := ((Below.refl w10.heap.size w10).alloc (by simp; try omega) (.cells #[.int .i64 3, .int .i64 2, .slice (some ⟨k7, 0, none⟩) 6 d7] 24))
  have LB11 := Lib.hid (LB10.out.trans (hb.mono LB10.out.size))
  have Z1 := Lib.hid (Z1.out.below hb Z1.out.lt)
  have Z2 := Lib.hid (Z2.out.below hb Z2.out.lt)
  have Z3 := Lib.hid (Z3.out.below hb Z3.out.lt)
  have H5 := Lib.hid (H5.out.below hb H5.out.lt)
  have X5 := Lib.hid (X5.out.below hb X5.out.lt)
  have H7 := Lib.hid (H7.out.below hb H7.out.lt)
  have X7 := Box.new w10 3 2 (.slice (some ⟨k7, 0, none⟩) 6 d7)
  have X7 := Lib.hid X7
  clear hb LB10
  go_upto_region 4 with (fail)
  obtain ⟨x7, hx7⟩ : ∃ z, w10.heap.size = z := ⟨_, rfl⟩
  rw [hx7] at X7
  try rw [hx7]
  clear hx7
  generalize w10.alloc (.cells #[.int .i64 3, .int .i64 2, .slice (some ⟨k7, 0, none⟩) 6 d7] 24) = w11 at *
  go_wp2_with fail
  with_reducible refine Calls.mono (cl_xd _) ?_
  rintro e w12 ⟨k8, rfl, hk8, hrow, hb⟩
  have LB12 := Lib.hid (LB11.out.trans (hb.mono LB11.out.size))
  have Z1 := Lib.hid (Z1.out.below hb Z1.out.lt)
  have Z2 := Lib.hid (Z2.out.below hb Z2.out.lt)
  have Z3 := Lib.hid (Z3.out.below hb Z3.out.lt)
  have H5 := Lib.hid (H5.out.below hb H5.out.lt)
  have X5 := Lib.hid (X5.out.below hb X5.out.lt)
  have H7 := Lib.hid (H7.out.below hb H7.out.lt)
  have X7 := Lib.hid (X7.out.below hb X7.out.lt)
  have H8 := Lib.hid hrow
  clear hb LB11 hrow
  go_wp2_with fail
  with_reducible refine Calls.mono (tb_n _ k8 2 H8.out) ?_
  rintro e w13 ⟨k9, d9, rfl, hk9, hrow, hb⟩
  have LB13 := Lib.hid (LB12.out.trans (hb.mono LB12.out.size))
  have Z1 := Lib.hid (Z1.out.below hb Z1.out.lt)
  have Z2 := Lib.hid (Z2.out.below hb Z2.out.lt)
  have Z3 := Lib.hid (Z3.out.below hb Z3.out.lt)
  have H5 := Lib.hid (H5.out.below hb H5.out.lt)
  have X5 := Lib.hid (X5.out.below hb X5.out.lt)
  have H7 := Lib.hid (H7.out.below hb H7.out.lt)
  have X7 := Lib.hid (X7.out.below hb X7.out.lt)
  have H8 := Lib.hid (H8.out.below hb H8.out.lt)
  have H9 := Lib.hid hrow
  clear hb LB12 hrow
  clear H8
  have hb := ((Below.refl w13.heap.size w13).alloc (by simp; try omega) (.cells #[.int .i64 4, .int .i64 2, .slice (some ⟨k9, 0, none⟩) 8 d9] 24))
  have LB14 := Lib.hid (LB13.out.trans (hb.mono LB13.out.size))
  have Z1 := Lib.hid (Z1.out.below hb Z1.out.lt)
  have Z2 := Lib.hid (Z2.out.below hb Z2.out.lt)
  have Z3 := Lib.hid (Z3.out.below hb Z3.out.lt)
  have H5 := Lib.hid (H5.out.below hb H5.out.lt)
  have X5 := Lib.hid (X5.out.below hb X5.out.lt)
  have H7 := Lib.hid (H7.out.below hb H7.out.lt)
  have X7 := Lib.hid (X7.out.below hb X7.out.lt)
  have H9 := Lib.hid (H9.out.below hb H9.out.lt)
  have X9 := Box.new w13 4 2 (.slice (some ⟨k9, 0, none⟩) 8 d9)
  have X9 := Lib.hid X9
  clear hb LB13
  go_upto_region 5 with (fail)
  obtain ⟨x9, hx9⟩ : ∃ z, w13.heap.size = z := ⟨_, rfl⟩
  rw [hx9] at X9
  try rw [hx9]
  clear hx9
  generalize w13.alloc (.cells #[.int .i64 4, .int .i64 2, .slice (some ⟨k9, 0, none⟩) 8 d9] 24) = w14 at *
  obtain ⟨q0, q1, q2, q3, q4, q5, q6⟩ := Z1.out.all
  obtain ⟨q7, q8, q9, q10, q11, q12, q13⟩ := Z2.out.all
  obtain ⟨q14, q15, q16, q17, q18, q19, q20⟩ := Z3.out.all
  obtain ⟨q21, q22, q23, q24, q25, q26, q27⟩ := X5.out.all
  go_wp2_with fail
  clear q0 q1 q2 q3 q4 q5 q6 q7 q8 q9 q10 q11 q12 q13 q14 q15 q16 q17 q18 q19 q20 q21 q22 q23 q24 q25 q26 q27
  with_reducible refine Calls.mono (rd_f _ _ _ H5.out) ?_
  rintro e w15 ⟨rfl, hb⟩
  have LB15 := Lib.hid (LB14.out.trans (hb.mono LB14.out.size))
  have Z1 := Lib.hid (Z1.out.below hb Z1.out.lt)
  have Z2 := Lib.hid (Z2.out.below hb Z2.out.lt)
  have Z3 := Lib.hid (Z3.out.below hb Z3.out.lt)
  have H5 := Lib.hid (H5.out.below hb H5.out.lt)
  have X5 := Lib.hid (X5.out.below hb X5.out.lt)
  have H7 := Lib.hid (H7.out.below hb H7.out.lt)
  have X7 := Lib.hid (X7.out.below hb X7.out.lt)
  have H9 := Lib.hid (H9.out.below hb H9.out.lt)
  have X9 := Lib.hid (X9.out.below hb X9.out.lt)
  clear hb LB14 
  obtain ⟨q0, q1, q2, q3, q4, q5, q6⟩ := X7.out.all
  go_wp2_with fail
  clear q0 q1 q2 q3 q4 q5 q6
  with_reducible refine Calls.mono (rd_b _ _ _ H7.out) ?_
  rintro e w16 ⟨rfl, hb⟩
  have LB16 := Lib.hid (LB15.out.trans (hb.mono LB15.out.size))
  have Z1 := Lib.hid (Z1.out.below hb Z1.out.lt)
  have Z2 := Lib.hid (Z2.out.below hb Z2.out.lt)
  have Z3 := Lib.hid (Z3.out.below hb Z3.out.lt)
  have H5 := Lib.hid (H5.out.below hb H5.out.lt)
  have X5 := Lib.hid (X5.out.below hb X5.out.lt)
  have H7 := Lib.hid (H7.out.below hb H7.out.lt)
  have X7 := Lib.hid (X7.out.below hb X7.out.lt)
  have H9 := Lib.hid (H9.out.below hb H9.out.lt)
  have X9 := Lib.hid (X9.out.below hb X9.out.lt)
  clear hb LB15 
  obtain ⟨q0, q1, q2, q3, q4, q5, q6⟩ := X9.out.all
  go_wp2_with fail
  clear q0 q1 q2 q3 q4 q5 q6
  with_reducible refine Calls.mono (rd_t _ _ _ H9.out) ?_
  rintro e w17 ⟨rfl, hb⟩
  have LB17 := Lib.hid (LB16.out.trans (hb.mono LB16.out.size))
  have Z1 := Lib.hid (Z1.out.below hb Z1.out.lt)
  have Z2 := Lib.hid (Z2.out.below hb Z2.out.lt)
  have Z3 := Lib.hid (Z3.out.below hb Z3.out.lt)
  have H5 := Lib.hid (H5.out.below hb H5.out.lt)
  have X5 := Lib.hid (X5.out.below hb X5.out.lt)
  have H7 := Lib.hid (H7.out.below hb H7.out.lt)
  have X7 := Lib.hid (X7.out.below hb X7.out.lt)
  have H9 := Lib.hid (H9.out.below hb H9.out.lt)
  have X9 := Lib.hid (X9.out.below hb X9.out.lt)
  clear hb LB16 
  clear H5 H7 H9 X5 X7 X9 Z1 Z2 Z3
  have RB := Lib.hid (HR1.out w17)
  obtain ⟨pk, hpk⟩ : ∃ z, w17.heap.size = z := ⟨_, rfl⟩
  rw [hpk] at RB
  have RB := Lib.hid (RB.out.alloc (.cells #[.int .i64 33, .int .i64 1, .slice (some ⟨pk, 0, none⟩) 33 33] 24))
  have hb := ((Below.refl w17.heap.size w17).alloc (by simp) (.cells m1 4)).alloc (by simp) (.cells #[.int .i64 33, .int .i64 1, .slice (some ⟨pk, 0, none⟩) 33 33] 24)
  have LB18 := Lib.hid (LB17.out.trans (hb.mono LB17.out.size))
  have XB := Box.new (w17.alloc (.cells m1 4)) 33 1 (.slice (some ⟨pk, 0, none⟩) 33 33)
  rw [show (w17.alloc (.cells m1 4)).heap.size = w17.heap.size + 1 by simp, hpk] at XB
  have XB := Lib.hid XB
  clear hb LB17
  go_upto_region 7 with (fail)
  try rw [hpk]
  clear hpk
  generalize (w17.alloc (.cells m1 4)).alloc (.cells #[.int .i64 33, .int .i64 1, .slice (some ⟨pk, 0, none⟩) 33 33] 24) = w18 at *
  obtain ⟨pb, hpb⟩ : ∃ z, pk + 1 = z := ⟨_, rfl⟩
  rw [hpb] at XB ⊢
  clear hpb
  have RM := Lib.hid (HR2.out w18)
  obtain ⟨qk, hqk⟩ : ∃ z, w18.heap.size = z := ⟨_, rfl⟩
  rw [hqk] at RM
  have RM := Lib.hid (RM.out.alloc (.cells #[.int .i64 32, .int .i64 32, .slice (some ⟨qk, 0, none⟩) 1024 1024] 24))
  have hb := ((Below.refl w18.heap.size w18).alloc (by simp) (.cells m2 4)).alloc (by simp) (.cells #[.int .i64 32, .int .i64 32, .slice (some ⟨qk, 0, none⟩) 1024 1024] 24)
  have LB19 := Lib.hid (LB18.out.trans (hb.mono LB18.out.size))
  have XB := Lib.hid (XB.out.below hb XB.out.lt)
  have RB := Lib.hid (RB.out.below hb RB.out.lt)
  have XM := Box.new (w18.alloc (.cells m2 4)) 32 32 (.slice (some ⟨qk, 0, none⟩) 1024 1024)
  rw [show (w18.alloc (.cells m2 4)).heap.size = w18.heap.size + 1 by simp, hqk] at XM
  have XM := Lib.hid XM
  clear hb LB18
  go_upto_region 8 with (fail)
  try rw [hqk]
  clear hqk
  generalize (w18.alloc (.cells m2 4)).alloc (.cells #[.int .i64 32, .int .i64 32, .slice (some ⟨qk, 0, none⟩) 1024 1024] 24) = w19 at *
  obtain ⟨qb, hqb⟩ : ∃ z, qk + 1 = z := ⟨_, rfl⟩
  rw [hqb] at XM ⊢
  clear hqb
  obtain ⟨q0, q1, q2, q3, q4, q5, q6⟩ := XB.out.all
  go_wp2_with fail
  clear q0 q1 q2 q3 q4 q5 q6
  with_reducible refine Calls.mono (wv_big _ pk 33) ?_
  rintro e w20 ⟨rfl, hb⟩
  have LB20 := Lib.hid (LB19.out.trans (hb.mono LB19.out.size))
  have XB := Lib.hid (XB.out.below hb XB.out.lt)
  have RB := Lib.hid (RB.out.below hb RB.out.lt)
  have XM := Lib.hid (XM.out.below hb XM.out.lt)
  have RM := Lib.hid (RM.out.below hb RM.out.lt)
  clear hb LB19 
  have hb := ((Below.refl w20.heap.size w20).alloc (by simp; try omega) (.cells #[.int .i64 0, .int .i64 0, .slice none 0 0] 24))
  have LB21 := Lib.hid (LB20.out.trans (hb.mono LB20.out.size))
  have XB := Lib.hid (XB.out.below hb XB.out.lt)
  have RB := Lib.hid (RB.out.below hb RB.out.lt)
  have XM := Lib.hid (XM.out.below hb XM.out.lt)
  have RM := Lib.hid (RM.out.below hb RM.out.lt)
  clear hb LB20
  go_upto_region 9 with (fail)
  generalize w20.alloc (.cells #[.int .i64 0, .int .i64 0, .slice none 0 0] 24) = w21 at *
  obtain ⟨q0, q1, q2, q3, q4, q5, q6⟩ := XB.out.all
  go_wp2_with fail
  clear q0 q1 q2 q3 q4 q5 q6
  with_reducible refine Calls.mono (tb_big _ pk 33 RB.out) ?_
  rintro e w22 ⟨rfl, hb⟩
  have LB22 := Lib.hid (LB21.out.trans (hb.mono LB21.out.size))
  have XB := Lib.hid (XB.out.below hb XB.out.lt)
  have RB := Lib.hid (RB.out.below hb RB.out.lt)
  have XM := Lib.hid (XM.out.below hb XM.out.lt)
  have RM := Lib.hid (RM.out.below hb RM.out.lt)
  clear hb LB21 
  have hb := ((Below.refl w22.heap.size w22).alloc (by simp; try omega) (.cells #[.int .i64 0, .int .i64 0, .slice none 0 0] 24))
  have LB23 := Lib.hid (LB22.out.trans (hb.mono LB22.out.size))
  have XB := Lib.hid (XB.out.below hb XB.out.lt)
  have RB := Lib.hid (RB.out.below hb RB.out.lt)
  have XM := Lib.hid (XM.out.below hb XM.out.lt)
  have RM := Lib.hid (RM.out.below hb RM.out.lt)
  clear hb LB22
  go_upto_region 10 with (fail)
  generalize w22.alloc (.cells #[.int .i64 0, .int .i64 0, .slice none 0 0] 24) = w23 at *
  obtain ⟨q0, q1, q2, q3, q4, q5, q6⟩ := XB.out.all
  go_wp2_with fail
  clear q0 q1 q2 q3 q4 q5 q6
  with_reducible refine Calls.mono (fc_big _ pk 33 RB.out) ?_
  rintro e w24 ⟨ka, da, rfl, hka, hrow, hb⟩
  have LB24 := Lib.hid (LB23.out.trans (hb.mono LB23.out.size))
  have XB := Lib.hid (XB.out.below hb XB.out.lt)
  have RB := Lib.hid (RB.out.below hb RB.out.lt)
  have XM := Lib.hid (XM.out.below hb XM.out.lt)
  have RM := Lib.hid (RM.out.below hb RM.out.lt)
  clear hb LB23 
  clear hrow
  have hb := ((Below.refl w24.heap.size w24).alloc (by simp; try omega) (.cells #[.int .i64 33, .int .i64 1, .slice (some ⟨ka, 0, none⟩) 33 da] 24))
  have LB25 := Lib.hid (LB24.out.trans (hb.mono LB24.out.size))
  have XB := Lib.hid (XB.out.below hb XB.out.lt)
  have RB := Lib.hid (RB.out.below hb RB.out.lt)
  have XM := Lib.hid (XM.out.below hb XM.out.lt)
  have RM := Lib.hid (RM.out.below hb RM.out.lt)
  clear hb LB24
  go_upto_region 11 with (fail)
  generalize w24.alloc (.cells #[.int .i64 33, .int .i64 1, .slice (some ⟨ka, 0, none⟩) 33 da] 24) = w25 at *
  obtain ⟨q0, q1, q2, q3, q4, q5, q6⟩ := XM.out.all
  go_wp2_with fail
  clear q0 q1 q2 q3 q4 q5 q6
  with_reducible refine Calls.mono (wv_most _ qk 1024 RM.out) ?_
  rintro e w26 ⟨kb, db, rfl, hkb, hrow, hb⟩
  have LB26 := Lib.hid (LB25.out.trans (hb.mono LB25.out.size))
  have XB := Lib.hid (XB.out.below hb XB.out.lt)
  have RB := Lib.hid (RB.out.below hb RB.out.lt)
  have XM := Lib.hid (XM.out.below hb XM.out.lt)
  have RM := Lib.hid (RM.out.below hb RM.out.lt)
  clear hb LB25 
  clear hrow
  have hb := ((Below.refl w26.heap.size w26).alloc (by simp; try omega) (.cells #[.int .i64 64, .int .i64 64, .slice (some ⟨kb, 0, none⟩) 4096 db] 24))
  have LB27 := Lib.hid (LB26.out.trans (hb.mono LB26.out.size))
  have XB := Lib.hid (XB.out.below hb XB.out.lt)
  have RB := Lib.hid (RB.out.below hb RB.out.lt)
  have XM := Lib.hid (XM.out.below hb XM.out.lt)
  have RM := Lib.hid (RM.out.below hb RM.out.lt)
  clear hb LB26
  go_upto_region 12 with (fail)
  generalize w26.alloc (.cells #[.int .i64 64, .int .i64 64, .slice (some ⟨kb, 0, none⟩) 4096 db] 24) = w27 at *
  obtain ⟨q0, q1, q2, q3, q4, q5, q6⟩ := XM.out.all
  obtain ⟨q7, q8, q9, q10, q11, q12, q13⟩ := XB.out.all
  go_wp2_with fail
  clear q0 q1 q2 q3 q4 q5 q6 q7 q8 q9 q10 q11 q12 q13
  with_reducible refine Calls.mono (wv_two _ qk 1024 pk 33) ?_
  rintro e w28 ⟨rfl, hb⟩
  have LB28 := Lib.hid (LB27.out.trans (hb.mono LB27.out.size))
  have XB := Lib.hid (XB.out.below hb XB.out.lt)
  have RB := Lib.hid (RB.out.below hb RB.out.lt)
  have XM := Lib.hid (XM.out.below hb XM.out.lt)
  have RM := Lib.hid (RM.out.below hb RM.out.lt)
  clear hb LB27 
  have hb := ((Below.refl w28.heap.size w28).alloc (by simp; try omega) (.cells #[.int .i64 0, .int .i64 0, .slice none 0 0] 24))
  have LB29 := Lib.hid (LB28.out.trans (hb.mono LB28.out.size))
  have XB := Lib.hid (XB.out.below hb XB.out.lt)
  have RB := Lib.hid (RB.out.below hb RB.out.lt)
  have XM := Lib.hid (XM.out.below hb XM.out.lt)
  have RM := Lib.hid (RM.out.below hb RM.out.lt)
  clear hb LB28
  go_upto_region 13 with (fail)
  generalize w28.alloc (.cells #[.int .i64 0, .int .i64 0, .slice none 0 0] 24) = w29 at *
  obtain ⟨q0, q1, q2, q3, q4, q5, q6⟩ := XM.out.all
  go_wp2_with fail
  clear q0 q1 q2 q3 q4 q5 q6
  with_reducible refine Calls.mono (wv_z _ qk 1024) ?_
  rintro e w30 ⟨rfl, hb⟩
  have LB30 := Lib.hid (LB29.out.trans (hb.mono LB29.out.size))
  have XB := Lib.hid (XB.out.below hb XB.out.lt)
  have RB := Lib.hid (RB.out.below hb RB.out.lt)
  have XM := Lib.hid (XM.out.below hb XM.out.lt)
  have RM := Lib.hid (RM.out.below hb RM.out.lt)
  clear hb LB29 
  have hb := ((Below.refl w30.heap.size w30).alloc (by simp; try omega) (.cells #[.int .i64 0, .int .i64 0, .slice none 0 0] 24))
  have LB31 := Lib.hid (LB30.out.trans (hb.mono LB30.out.size))
  have XB := Lib.hid (XB.out.below hb XB.out.lt)
  have RB := Lib.hid (RB.out.below hb RB.out.lt)
  have XM := Lib.hid (XM.out.below hb XM.out.lt)
  have RM := Lib.hid (RM.out.below hb RM.out.lt)
  clear hb LB30
  go_upto_region 14 with (fail)
  generalize w30.alloc (.cells #[.int .i64 0, .int .i64 0, .slice none 0 0] 24) = w31 at *
  obtain ⟨q0, q1, q2, q3, q4, q5, q6⟩ := XM.out.all
  go_wp2_with fail
  clear q0 q1 q2 q3 q4 q5 q6
  with_reducible refine Calls.mono (fc_z _ qk 1024) ?_
  rintro e w32 ⟨rfl, hb⟩
  have LB32 := Lib.hid (LB31.out.trans (hb.mono LB31.out.size))
  have XB := Lib.hid (XB.out.below hb XB.out.lt)
  have RB := Lib.hid (RB.out.below hb RB.out.lt)
  have XM := Lib.hid (XM.out.below hb XM.out.lt)
  have RM := Lib.hid (RM.out.below hb RM.out.lt)
  clear hb LB31 
  have hb := ((Below.refl w32.heap.size w32).alloc (by simp; try omega) (.cells #[.int .i64 0, .int .i64 0, .slice none 0 0] 24))
  have LB33 := Lib.hid (LB32.out.trans (hb.mono LB32.out.size))
  have XB := Lib.hid (XB.out.below hb XB.out.lt)
  have RB := Lib.hid (RB.out.below hb RB.out.lt)
  have XM := Lib.hid (XM.out.below hb XM.out.lt)
  have RM := Lib.hid (RM.out.below hb RM.out.lt)
  clear hb LB32
  go_upto_region 15 with (fail)
  generalize w32.alloc (.cells #[.int .i64 0, .int .i64 0, .slice none 0 0] 24) = w33 at *
  go_wp2_with fail
  with_reducible refine Calls.mono (bk_z _) ?_
  rintro e w34 ⟨rfl, hb⟩
  have LB34 := Lib.hid (LB33.out.trans (hb.mono LB33.out.size))
  have XB := Lib.hid (XB.out.below hb XB.out.lt)
  have RB := Lib.hid (RB.out.below hb RB.out.lt)
  have XM := Lib.hid (XM.out.below hb XM.out.lt)
  have RM := Lib.hid (RM.out.below hb RM.out.lt)
  clear hb LB33 
  have hb := ((Below.refl w34.heap.size w34).alloc (by simp; try omega) (.cells #[.int .i64 0, .int .i64 0, .slice none 0 0] 24))
  have LB35 := Lib.hid (LB34.out.trans (hb.mono LB34.out.size))
  have XB := Lib.hid (XB.out.below hb XB.out.lt)
  have RB := Lib.hid (RB.out.below hb RB.out.lt)
  have XM := Lib.hid (XM.out.below hb XM.out.lt)
  have RM := Lib.hid (RM.out.below hb RM.out.lt)
  clear hb LB34
  go_upto_region 16 with (fail)
  generalize w34.alloc (.cells #[.int .i64 0, .int .i64 0, .slice none 0 0] 24) = w35 at *
  go_wp2_with fail
  with_reducible refine Calls.mono (ap_z _) ?_
  rintro e w36 ⟨rfl, hb⟩
  have LB36 := Lib.hid (LB35.out.trans (hb.mono LB35.out.size))
  have XB := Lib.hid (XB.out.below hb XB.out.lt)
  have RB := Lib.hid (RB.out.below hb RB.out.lt)
  have XM := Lib.hid (XM.out.below hb XM.out.lt)
  have RM := Lib.hid (RM.out.below hb RM.out.lt)
  clear hb LB35 
  have hb := ((((Below.refl w36.heap.size w36).alloc (by simp; try omega) (.cells #[.int .i64 0, .int .i64 0, .slice none 0 0] 24)).alloc (by simp; try omega) (.cells #[.int .i64 0, .int .i64 0, .slice none 0 0] 24)).alloc (by simp; try omega) (.cells #[.int .i64 0, .int .i64 0, .slice none 0 0] 24))
  have LB37 := Lib.hid (LB36.out.trans (hb.mono LB36.out.size))
  have XB := Lib.hid (XB.out.below hb XB.out.lt)
  have RB := Lib.hid (RB.out.below hb RB.out.lt)
  have XM := Lib.hid (XM.out.below hb XM.out.lt)
  have RM := Lib.hid (RM.out.below hb RM.out.lt)
  clear hb LB36
  go_upto_region 17 with (fail)
  generalize ((w36.alloc (.cells #[.int .i64 0, .int .i64 0, .slice none 0 0] 24)).alloc (.cells #[.int .i64 0, .int .i64 0, .slice none 0 0] 24)).alloc (.cells #[.int .i64 0, .int .i64 0, .slice none 0 0] 24) = w37 at *
  go_wp2_with fail
  with_reducible refine Calls.mono (tb_z _) ?_
  rintro e w38 ⟨rfl, hb⟩
  have LB38 := Lib.hid (LB37.out.trans (hb.mono LB37.out.size))
  have XB := Lib.hid (XB.out.below hb XB.out.lt)
  have RB := Lib.hid (RB.out.below hb RB.out.lt)
  have XM := Lib.hid (XM.out.below hb XM.out.lt)
  have RM := Lib.hid (RM.out.below hb RM.out.lt)
  clear hb LB37 
  have hb := ((Below.refl w38.heap.size w38).alloc (by simp; try omega) (.cells #[.int .i64 0, .int .i64 0, .slice none 0 0] 24))
  have LB39 := Lib.hid (LB38.out.trans (hb.mono LB38.out.size))
  have XB := Lib.hid (XB.out.below hb XB.out.lt)
  have RB := Lib.hid (RB.out.below hb RB.out.lt)
  have XM := Lib.hid (XM.out.below hb XM.out.lt)
  have RM := Lib.hid (RM.out.below hb RM.out.lt)
  clear hb LB38
  go_upto_region 18 with (fail)
  generalize w38.alloc (.cells #[.int .i64 0, .int .i64 0, .slice none 0 0] 24) = w39 at *
  go_wp2_with fail
  with_reducible refine Calls.mono (alive12_any _) ?_
  rintro e w40 ⟨rfl, hb⟩
  have LB40 := Lib.hid (LB39.out.trans (hb.mono LB39.out.size))
  have XB := Lib.hid (XB.out.below hb XB.out.lt)
  have RB := Lib.hid (RB.out.below hb RB.out.lt)
  have XM := Lib.hid (XM.out.below hb XM.out.lt)
  have RM := Lib.hid (RM.out.below hb RM.out.lt)
  clear hb LB39 
  go_wp2
  go_ret
  exact ⟨rfl, LB40.out⟩
end Go.Proofs.Ytgmcbdnfgdmmaaa
