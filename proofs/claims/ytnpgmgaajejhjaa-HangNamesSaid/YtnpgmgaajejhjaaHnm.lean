/- The walk of HangNames. -/
import Derived.Test.YtnpgmgaajejhjaaHal
import Derived.Test.YtnpgmgaajejhjaaHvv
import Derived.Deep.RegionHeld3
namespace Go.Proofs.Ytnpgmgaajejhjaa
open Go.RowKit
set_option maxRecDepth 100000
set_option linter.unusedVariables false
set_option linter.unusedSimpArgs false

def tw (i : Nat) : Bool := i == 0 || i == 4 || i == 8
theorem parse_tw (w : World) : Calls Try.prog 60 #[.string ⟨#[46, 46, 120, 10, 46, 120, 46, 10, 120, 46, 46, 10]⟩] w (PG w 3 3 9 tw) := by
  refine (parse_ok ⟨#[46, 46, 120, 10, 46, 120, 46, 10, 120, 46, 46, 10]⟩ 3 3 w (by decide) (by omega) (by omega) (by omega) (by omega) (by decide) ⟨by decide, ?_⟩ (fun W' => ?_)).mono fun e w' ⟨k, he, hk, hr, hb⟩ => ⟨k, he, hk, hr.congr ?_, hb⟩
  · have key : ∀ i (h : i < 12), okAt ⟨#[46, 46, 120, 10, 46, 120, 46, 10, 120, 46, 46, 10]⟩ 3 i h := by unfold okAt; decide +kernel
    exact key
  · exact (Try.strings_IndexByte _ 10 W').mono fun e w' h => by
      refine ⟨?_, h.2⟩
      rw [h.1]
      rfl
  · decide
theorem cl_tw (w : World) : Calls Try.prog 41 #[.string ⟨#[46, 46, 120, 10, 46, 120, 46, 10, 120, 46, 46, 10]⟩] w (CG w 3 3 9 tw) := cloth_any _ _ _ _ _ parse_tw w
def c4 (i : Nat) : Bool := i == 0 || i == 5 || i == 8 || i == 9 || i == 11 || i == 12 || i == 13 || i == 14
theorem parse_c4 (w : World) : Calls Try.prog 60 #[.string ⟨#[120, 120, 120, 46, 10, 120, 120, 46, 120, 10, 46, 120, 46, 46, 10, 120, 46, 46, 46, 10]⟩] w (PG w 4 4 16 c4) := by
  refine (parse_ok ⟨#[120, 120, 120, 46, 10, 120, 120, 46, 120, 10, 46, 120, 46, 46, 10, 120, 46, 46, 46, 10]⟩ 4 4 w (by decide) (by omega) (by omega) (by omega) (by omega) (by decide) ⟨by decide, ?_⟩ (fun W' => ?_)).mono fun e w' ⟨k, he, hk, hr, hb⟩ => ⟨k, he, hk, hr.congr ?_, hb⟩
  · have key : ∀ i (h : i < 20), okAt ⟨#[120, 120, 120, 46, 10, 120, 120, 46, 120, 10, 46, 120, 46, 46, 10, 120, 46, 46, 46, 10]⟩ 4 i h := by unfold okAt; decide +kernel
    exact key
  · exact (Try.strings_IndexByte _ 10 W').mono fun e w' h => by
      refine ⟨?_, h.2⟩
      rw [h.1]
      rfl
  · decide
theorem cl_c4 (w : World) : Calls Try.prog 41 #[.string ⟨#[120, 120, 120, 46, 10, 120, 120, 46, 120, 10, 46, 120, 46, 46, 10, 120, 46, 46, 46, 10]⟩] w (CG w 4 4 16 c4) := cloth_any _ _ _ _ _ parse_c4 w
def x1 (i : Nat) : Bool := i == 0
theorem parse_x1 (w : World) : Calls Try.prog 60 #[.string ⟨#[120, 10]⟩] w (PG w 1 1 1 x1) := by
  refine (parse_ok ⟨#[120, 10]⟩ 1 1 w (by decide) (by omega) (by omega) (by omega) (by omega) (by decide) ⟨by decide, ?_⟩ (fun W' => ?_)).mono fun e w' ⟨k, he, hk, hr, hb⟩ => ⟨k, he, hk, hr.congr ?_, hb⟩
  · have key : ∀ i (h : i < 2), okAt ⟨#[120, 10]⟩ 1 i h := by unfold okAt; decide +kernel
    exact key
  · exact (Try.strings_IndexByte _ 10 W').mono fun e w' h => by
      refine ⟨?_, h.2⟩
      rw [h.1]
      rfl
  · decide
theorem cl_x1 (w : World) : Calls Try.prog 41 #[.string ⟨#[120, 10]⟩] w (CG w 1 1 1 x1) := cloth_any _ _ _ _ _ parse_x1 w
theorem hn_tw (w : World) (k c : Nat) (h : Row w k 9 tw) : Calls Try.prog 40 #[.agg #[.int .i64 3, .int .i64 3, .slice (some ⟨k, 0, none⟩) 9 c]] w (BRet w true 0) :=
  phangs_core 3 3 6 rfl (some ⟨k, 0, none⟩) c tw w (h.holds h.lt) (by omega) (by omega) (by omega) (by omega) true (by decide +kernel)
theorem hn_c4 (w : World) (k c : Nat) (h : Row w k 16 c4) : Calls Try.prog 40 #[.agg #[.int .i64 4, .int .i64 4, .slice (some ⟨k, 0, none⟩) 16 c]] w (BRet w false 0) :=
  phangs_core 4 4 8 rfl (some ⟨k, 0, none⟩) c c4 w (h.holds h.lt) (by omega) (by omega) (by omega) (by omega) false (by decide +kernel)
theorem ap_c4 (w : World) (k c : Nat) (h : Row w k 16 c4) : Calls Try.prog 42 #[.agg #[.int .i64 4, .int .i64 4, .slice (some ⟨k, 0, none⟩) 16 c]] w (PLV w 4 [0, 1, 4, 5]) :=
  (papart_core 4 4 8 rfl (some ⟨k, 0, none⟩) c c4 w (h.holds h.lt) (by omega) (by omega) (by omega) (by omega) false (by decide +kernel) [0, 1, 4, 5] (by decide +kernel)).mono fun e w' z => plv rfl z
theorem nw_c4 (w : World) (k c : Nat) (h : Row w k 16 c4) : Calls Try.prog 46 #[.agg #[.int .i64 4, .int .i64 4, .slice (some ⟨k, 0, none⟩) 16 c]] w (PRet w [] 20) :=
  pwalk_no 4 4 8 rfl (some ⟨k, 0, none⟩) c c4 w (h.holds h.lt) (by omega) (by omega) (by omega) (by omega) (by decide +kernel)
theorem of1 (w : World) (k c : Nat) (h : Row w k 16 c4) : Calls Try.prog 43 #[.agg #[.int .i64 4, .int .i64 4, .slice (some ⟨k, 0, none⟩) 16 c], .slice (some ⟨w.heap.size, 0, none⟩) 4 4] (w.alloc (.cells #[.int .i64 0, .int .i64 1, .int .i64 4, .int .i64 5] 3)) (BRet (w.alloc (.cells #[.int .i64 0, .int .i64 1, .int .i64 4, .int .i64 5] 3)) true 0) := by
  have hr := (h.alloc (.cells #[.int .i64 0, .int .i64 1, .int .i64 4, .int .i64 5] 3)).holds (h.alloc (.cells #[.int .i64 0, .int .i64 1, .int .i64 4, .int .i64 5] 3)).lt
  have hl := (lv_lit w [0, 1, 4, 5] #[.int .i64 0, .int .i64 1, .int .i64 4, .int .i64 5] rfl).h
  have h1 := poff_t 4 4 (some ⟨k, 0, none⟩) c c4 (some ⟨w.heap.size, 0, none⟩) 4 4 (fun i => ([0, 1, 4, 5] : List Int).getD i 0) (w.alloc (.cells #[.int .i64 0, .int .i64 1, .int .i64 4, .int .i64 5] 3)) hr (by omega) (by omega) (by omega) (by omega) (by omega) hl (by decide +kernel)
  rw [show offB (ov 4 c4) (4 + 4) 4 (fun i => ([0, 1, 4, 5] : List Int).getD i 0) = true by decide +kernel] at h1
  exact h1
theorem of2 (w : World) (k c : Nat) (h : Row w k 16 c4) : Calls Try.prog 43 #[.agg #[.int .i64 4, .int .i64 4, .slice (some ⟨k, 0, none⟩) 16 c], .slice (some ⟨w.heap.size, 0, none⟩) 3 3] (w.alloc (.cells #[.int .i64 0, .int .i64 1, .int .i64 4] 3)) (BRet (w.alloc (.cells #[.int .i64 0, .int .i64 1, .int .i64 4] 3)) false 0) := by
  have hr := (h.alloc (.cells #[.int .i64 0, .int .i64 1, .int .i64 4] 3)).holds (h.alloc (.cells #[.int .i64 0, .int .i64 1, .int .i64 4] 3)).lt
  have hl := (lv_lit w [0, 1, 4] #[.int .i64 0, .int .i64 1, .int .i64 4] rfl).h
  have h1 := poff_t 4 4 (some ⟨k, 0, none⟩) c c4 (some ⟨w.heap.size, 0, none⟩) 3 3 (fun i => ([0, 1, 4] : List Int).getD i 0) (w.alloc (.cells #[.int .i64 0, .int .i64 1, .int .i64 4] 3)) hr (by omega) (by omega) (by omega) (by omega) (by omega) hl (by decide +kernel)
  rw [show offB (ov 4 c4) (4 + 4) 3 (fun i => ([0, 1, 4] : List Int).getD i 0) = false by decide +kernel] at h1
  exact h1
theorem of3 (w : World) (k c : Nat) (h : Row w k 16 c4) : Calls Try.prog 43 #[.agg #[.int .i64 4, .int .i64 4, .slice (some ⟨k, 0, none⟩) 16 c], .slice (some ⟨w.heap.size, 0, none⟩) 8 8] (w.alloc (.cells #[.int .i64 0, .int .i64 1, .int .i64 2, .int .i64 3, .int .i64 4, .int .i64 5, .int .i64 6, .int .i64 7] 3)) (BRet (w.alloc (.cells #[.int .i64 0, .int .i64 1, .int .i64 2, .int .i64 3, .int .i64 4, .int .i64 5, .int .i64 6, .int .i64 7] 3)) false 0) := by
  have hr := (h.alloc (.cells #[.int .i64 0, .int .i64 1, .int .i64 2, .int .i64 3, .int .i64 4, .int .i64 5, .int .i64 6, .int .i64 7] 3)).holds (h.alloc (.cells #[.int .i64 0, .int .i64 1, .int .i64 2, .int .i64 3, .int .i64 4, .int .i64 5, .int .i64 6, .int .i64 7] 3)).lt
  have hl := (lv_lit w [0, 1, 2, 3, 4, 5, 6, 7] #[.int .i64 0, .int .i64 1, .int .i64 2, .int .i64 3, .int .i64 4, .int .i64 5, .int .i64 6, .int .i64 7] rfl).h
  have h1 := poff_t 4 4 (some ⟨k, 0, none⟩) c c4 (some ⟨w.heap.size, 0, none⟩) 8 8 (fun i => ([0, 1, 2, 3, 4, 5, 6, 7] : List Int).getD i 0) (w.alloc (.cells #[.int .i64 0, .int .i64 1, .int .i64 2, .int .i64 3, .int .i64 4, .int .i64 5, .int .i64 6, .int .i64 7] 3)) hr (by omega) (by omega) (by omega) (by omega) (by omega) hl (by decide +kernel)
  rw [show offB (ov 4 c4) (4 + 4) 8 (fun i => ([0, 1, 2, 3, 4, 5, 6, 7] : List Int).getD i 0) = false by decide +kernel] at h1
  exact h1
theorem of5 (w : World) (k c : Nat) (h : Row w k 16 c4) : Calls Try.prog 43 #[.agg #[.int .i64 4, .int .i64 4, .slice (some ⟨k, 0, none⟩) 16 c], .slice (some ⟨w.heap.size, 0, none⟩) 2 2] (w.alloc (.cells #[.int .i64 1, .int .i64 0] 3)) (BRet (w.alloc (.cells #[.int .i64 1, .int .i64 0] 3)) false 2) := by
  have hr := (h.alloc (.cells #[.int .i64 1, .int .i64 0] 3)).holds (h.alloc (.cells #[.int .i64 1, .int .i64 0] 3)).lt
  have hl := (lv_lit w [1, 0] #[.int .i64 1, .int .i64 0] rfl).h
  exact poff_f 4 4 (some ⟨k, 0, none⟩) c c4 (some ⟨w.heap.size, 0, none⟩) 2 2 (fun i => ([1, 0] : List Int).getD i 0) (w.alloc (.cells #[.int .i64 1, .int .i64 0] 3)) hr (by omega) (by omega) (by omega) (by omega) (by omega) hl (by decide +kernel)
theorem of6 (w : World) (k c : Nat) (h : Row w k 16 c4) : Calls Try.prog 43 #[.agg #[.int .i64 4, .int .i64 4, .slice (some ⟨k, 0, none⟩) 16 c], .slice (some ⟨w.heap.size, 0, none⟩) 1 1] (w.alloc (.cells #[.int .i64 8] 3)) (BRet (w.alloc (.cells #[.int .i64 8] 3)) false 2) := by
  have hr := (h.alloc (.cells #[.int .i64 8] 3)).holds (h.alloc (.cells #[.int .i64 8] 3)).lt
  have hl := (lv_lit w [8] #[.int .i64 8] rfl).h
  exact poff_f 4 4 (some ⟨k, 0, none⟩) c c4 (some ⟨w.heap.size, 0, none⟩) 1 1 (fun i => ([8] : List Int).getD i 0) (w.alloc (.cells #[.int .i64 8] 3)) hr (by omega) (by omega) (by omega) (by omega) (by omega) hl (by decide +kernel)
theorem ac1 (w : World) (k c : Nat) (h : Row w k 4 ea) : Calls Try.prog 47 #[.agg #[.int .i64 2, .int .i64 2, .slice (some ⟨k, 0, none⟩) 4 c], .slice (some ⟨w.heap.size, 0, none⟩) 4 4] (w.alloc (.cells #[.int .i64 0, .int .i64 2, .int .i64 1, .int .i64 3] 3)) (BRet (w.alloc (.cells #[.int .i64 0, .int .i64 2, .int .i64 1, .int .i64 3] 3)) false 0) := by
  have hr := (h.alloc (.cells #[.int .i64 0, .int .i64 2, .int .i64 1, .int .i64 3] 3)).holds (h.alloc (.cells #[.int .i64 0, .int .i64 2, .int .i64 1, .int .i64 3] 3)).lt
  have hl := (lv_lit w [0, 2, 1, 3] #[.int .i64 0, .int .i64 2, .int .i64 1, .int .i64 3] rfl).h
  have h1 := paccept_ok 2 2 4 rfl (some ⟨k, 0, none⟩) c ea (some ⟨w.heap.size, 0, none⟩) 4 4 (fun i => ([0, 2, 1, 3] : List Int).getD i 0) (w.alloc (.cells #[.int .i64 0, .int .i64 2, .int .i64 1, .int .i64 3] 3)) hr (by omega) (by omega) (by omega) (by omega) (by omega) (by omega) hl (by omega)
  rw [show accB (ov 2 ea) 4 4 (fun i => ([0, 2, 1, 3] : List Int).getD i 0) = false by decide +kernel] at h1
  exact h1
theorem ac2 (w : World) (k c : Nat) (h : Row w k 4 ea) : Calls Try.prog 47 #[.agg #[.int .i64 2, .int .i64 2, .slice (some ⟨k, 0, none⟩) 4 c], .slice (some ⟨w.heap.size, 0, none⟩) 5 5] (w.alloc (.cells #[.int .i64 2, .int .i64 1, .int .i64 3, .int .i64 0, .int .i64 2] 3)) (BRet (w.alloc (.cells #[.int .i64 2, .int .i64 1, .int .i64 3, .int .i64 0, .int .i64 2] 3)) true 0) := by
  have hr := (h.alloc (.cells #[.int .i64 2, .int .i64 1, .int .i64 3, .int .i64 0, .int .i64 2] 3)).holds (h.alloc (.cells #[.int .i64 2, .int .i64 1, .int .i64 3, .int .i64 0, .int .i64 2] 3)).lt
  have hl := (lv_lit w [2, 1, 3, 0, 2] #[.int .i64 2, .int .i64 1, .int .i64 3, .int .i64 0, .int .i64 2] rfl).h
  have h1 := paccept_ok 2 2 4 rfl (some ⟨k, 0, none⟩) c ea (some ⟨w.heap.size, 0, none⟩) 5 5 (fun i => ([2, 1, 3, 0, 2] : List Int).getD i 0) (w.alloc (.cells #[.int .i64 2, .int .i64 1, .int .i64 3, .int .i64 0, .int .i64 2] 3)) hr (by omega) (by omega) (by omega) (by omega) (by omega) (by omega) hl (by omega)
  rw [show accB (ov 2 ea) 4 5 (fun i => ([2, 1, 3, 0, 2] : List Int).getD i 0) = true by decide +kernel] at h1
  exact h1
theorem ac3 (w : World) (k c : Nat) (h : Row w k 1 x1) : Calls Try.prog 47 #[.agg #[.int .i64 1, .int .i64 1, .slice (some ⟨k, 0, none⟩) 1 c], .slice (some ⟨w.heap.size, 0, none⟩) 3 3] (w.alloc (.cells #[.int .i64 0, .int .i64 1, .int .i64 0] 3)) (BRet (w.alloc (.cells #[.int .i64 0, .int .i64 1, .int .i64 0] 3)) false 0) := by
  have hr := (h.alloc (.cells #[.int .i64 0, .int .i64 1, .int .i64 0] 3)).holds (h.alloc (.cells #[.int .i64 0, .int .i64 1, .int .i64 0] 3)).lt
  have hl := (lv_lit w [0, 1, 0] #[.int .i64 0, .int .i64 1, .int .i64 0] rfl).h
  have h1 := paccept_ok 1 1 2 rfl (some ⟨k, 0, none⟩) c x1 (some ⟨w.heap.size, 0, none⟩) 3 3 (fun i => ([0, 1, 0] : List Int).getD i 0) (w.alloc (.cells #[.int .i64 0, .int .i64 1, .int .i64 0] 3)) hr (by omega) (by omega) (by omega) (by omega) (by omega) (by omega) hl (by omega)
  rw [show accB (ov 1 x1) 2 3 (fun i => ([0, 1, 0] : List Int).getD i 0) = false by decide +kernel] at h1
  exact h1
theorem of4 (w : World) (k c : Nat) (h : Row w k 16 c4) : Calls Try.prog 43 #[.agg #[.int .i64 4, .int .i64 4, .slice (some ⟨k, 0, none⟩) 16 c], .slice none 0 0] w (BRet w false 0) := by
  have h1 := poff_t 4 4 (some ⟨k, 0, none⟩) c c4 none 0 0 (fun _ => 0) w (h.holds h.lt) (by omega) (by omega) (by omega) (by omega) (by omega) L2.Holds.none_ (by decide +kernel)
  rw [show offB (ov 4 c4) (4 + 4) 0 (fun _ => 0) = false by decide +kernel] at h1
  exact h1
theorem ovr1 (w : World) (k c : Nat) (h : Row w k 16 c4) : Calls Try.prog 44 #[.agg #[.int .i64 4, .int .i64 4, .slice (some ⟨k, 0, none⟩) 16 c], .int .i64 0, .int .i64 6] w (BRet w true 0) := by
  have h1 := pover_t 4 4 (some ⟨k, 0, none⟩) c c4 0 6 w (h.holds h.lt) (by omega) (by omega) (by omega) (by omega) (by decide) (by decide)
  rw [show ov 4 c4 (Int.toNat 0) (Int.toNat 6) = true by decide +kernel] at h1
  exact h1
theorem ovr2 (w : World) (k c : Nat) (h : Row w k 16 c4) : Calls Try.prog 44 #[.agg #[.int .i64 4, .int .i64 4, .slice (some ⟨k, 0, none⟩) 16 c], .int .i64 6, .int .i64 0] w (BRet w false 0) := by
  have h1 := pover_t 4 4 (some ⟨k, 0, none⟩) c c4 6 0 w (h.holds h.lt) (by omega) (by omega) (by omega) (by omega) (by decide) (by decide)
  rw [show ov 4 c4 (Int.toNat 6) (Int.toNat 0) = false by decide +kernel] at h1
  exact h1
theorem ovr3 (w : World) (k c : Nat) (h : Row w k 16 c4) : Calls Try.prog 44 #[.agg #[.int .i64 4, .int .i64 4, .slice (some ⟨k, 0, none⟩) 16 c], .int .i64 0, .int .i64 1] w (BRet w false 0) := by
  have h1 := pover_t 4 4 (some ⟨k, 0, none⟩) c c4 0 1 w (h.holds h.lt) (by omega) (by omega) (by omega) (by omega) (by decide) (by decide)
  rw [show ov 4 c4 (Int.toNat 0) (Int.toNat 1) = false by decide +kernel] at h1
  exact h1
theorem ovr4 (w : World) (k c : Nat) (h : Row w k 16 c4) : Calls Try.prog 44 #[.agg #[.int .i64 4, .int .i64 4, .slice (some ⟨k, 0, none⟩) 16 c], .int .i64 0, .int .i64 8] w (BRet w false 2) :=
  pover_b 4 4 (some ⟨k, 0, none⟩) c c4 0 8 w (h.holds h.lt) (by omega) (by omega) (by omega) (by omega) (by decide) (by decide)
theorem ovr5 (w : World) (k c : Nat) (h : Row w k 16 c4) : Calls Try.prog 44 #[.agg #[.int .i64 4, .int .i64 4, .slice (some ⟨k, 0, none⟩) 16 c], .int .i64 (-1), .int .i64 0] w (BRet w false 2) :=
  pover_a 4 4 (some ⟨k, 0, none⟩) c c4 (-1) 0 w (h.holds h.lt) (by omega) (by omega) (by omega) (by omega) (by decide)
theorem ac_many (w : World) (k c : Nat) (D : Option Addr) (d : Nat) : Calls Try.prog 47 #[.agg #[.int .i64 4, .int .i64 4, .slice (some ⟨k, 0, none⟩) 16 c], .slice D 20001 d] w (BRet w false 4) :=
  paccept_many 4 4 (some ⟨k, 0, none⟩) c D 20001 d w (by omega) (by omega) (by omega) (by omega) (by omega)
theorem hn_zero (w : World) : Calls Try.prog 40 #[.agg #[.int .i64 0, .int .i64 0, .slice none 0 0]] w (BRet w false 8) := phangs_err 8 (by omega) (by decide) (by decide) w
theorem ap_wide (w : World) : Calls Try.prog 42 #[.agg #[.int .i64 65, .int .i64 0, .slice none 0 0]] w (PRet w [] 4) := papart_err 4 (by omega) (by decide) (by decide) w
theorem ac_zero (w : World) : Calls Try.prog 47 #[.agg #[.int .i64 0, .int .i64 0, .slice none 0 0], .slice none 0 0] w (BRet w false 8) := paccept_err none 0 0 8 (by omega) (by decide) (by decide) w
set_option maxHeartbeats 6400000 in
theorem names10_any (w0 : World) : Calls Try.prog 10 #[] w0 fun e w' => e = .returned (.bool true) ∧ Below w0.heap.size w0 w' := by
  obtain ⟨mc, hmc⟩ : ∃ mc, mc = madeCells #[.int .i64 0] 20001 := ⟨_, rfl⟩
  have hmk : ∀ w, (Instr.makeSlice 51 (.int .i64 20001) (.int .i64 20001)).run Try.prog w = .ok (.slice (some ⟨w.heap.size, 0, none⟩) 20001 20001) (w.alloc (.cells mc 3)) := by
    rw [hmc]
    exact fun w => run_make_row' (P := Try.prog) 51 3 (.int .i64 0) 8 Try.underlying51 Try.info3i rfl .i64 .i64 20001 (by omega) (by omega) w
  clear hmc
  have LB0 := Lib.hid (Below.refl w0.heap.size w0)
  go_enter Try.func10, Try.ntmps10
  go_wp2_with fail
  with_reducible refine Calls.mono (cl_tw _) ?_
  rintro e w1 ⟨kRa, rfl, _, hrow, hb⟩
  have LB1 := Lib.hid (LB0.out.trans (hb.mono LB0.out.size))
  have Ra := Lib.hid hrow
  clear hrow
  clear hb LB0
  go_wp2_with fail
  with_reducible refine Calls.mono (hn_tw _ _ _ Ra.out) ?_
  rintro e w2 ⟨rfl, hb⟩
  have LB2 := Lib.hid (LB1.out.trans (hb.mono LB1.out.size))
  have Ra := Lib.hid (Ra.out.below hb Ra.out.lt)
  clear hb LB1
  clear Ra
  go_wp2_with fail
  with_reducible refine Calls.mono (cl_c4 _) ?_
  rintro e w3 ⟨k4, rfl, _, hrow, hb⟩
  have hb := (show Below _ _ (w3.alloc (.cells #[.int .i64 4, .int .i64 4, .slice (some ⟨k4, 0, none⟩) 16 16] 24)) from hb.trans (((Below.refl _ _).alloc (Nat.le_refl _) _).mono hb.size))
  have LB3 := Lib.hid (LB2.out.trans (hb.mono LB2.out.size))
  have T := Lib.hid (Box.new w3 4 4 (.slice (some ⟨k4, 0, none⟩) 16 16))
  have R := Lib.hid (hrow.alloc (.cells #[.int .i64 4, .int .i64 4, .slice (some ⟨k4, 0, none⟩) 16 16] 24))
  clear hrow
  clear hb LB2
  obtain ⟨r0, r1, r2, r3, r4, r5, r6⟩ := T.out.all
  go_wp2_with fail
  clear r0 r1 r2 r3 r4 r5 r6
  with_reducible refine Calls.mono (hn_c4 _ _ _ R.out) ?_
  rintro e w4 ⟨rfl, hb⟩
  have LB4 := Lib.hid (LB3.out.trans (hb.mono LB3.out.size))
  have T := Lib.hid (T.out.below hb T.out.lt)
  have R := Lib.hid (R.out.below hb R.out.lt)
  clear hb LB3
  obtain ⟨r0, r1, r2, r3, r4, r5, r6⟩ := T.out.all
  go_wp2_with fail
  clear r0 r1 r2 r3 r4 r5 r6
  with_reducible refine Calls.mono (ap_c4 _ _ _ R.out) ?_
  rintro e w5 ⟨DP, dP, rfl, hl, hb⟩
  have LB5 := Lib.hid (LB4.out.trans (hb.mono LB4.out.size))
  have T := Lib.hid (T.out.below hb T.out.lt)
  have R := Lib.hid (R.out.below hb R.out.lt)
  have P := Lib.hid hl
  clear hl
  clear hb LB4
  obtain ⟨r0, r1, r2, r3, r4, r5, r6⟩ := T.out.all
  go_wp2_with fail
  clear r0 r1 r2 r3 r4 r5 r6
  with_reducible refine Calls.mono (of1 w5 _ _ R.out) ?_
  rintro e w6 ⟨rfl, hb⟩
  have hb := (show Below (w5).heap.size (w5) w6 from ((Below.refl _ _).alloc (Nat.le_refl _) _).trans (hb.mono (by simp)))
  have LB6 := Lib.hid (LB5.out.trans (hb.mono LB5.out.size))
  have T := Lib.hid (T.out.below hb T.out.lt)
  have R := Lib.hid (R.out.below hb R.out.lt)
  have P := Lib.hid (P.out.next hb)
  clear hb LB5
  obtain ⟨r0, r1, r2, r3, r4, r5, r6⟩ := T.out.all
  go_wp2_with fail
  clear r0 r1 r2 r3 r4 r5 r6
  with_reducible refine Calls.mono (of2 w6 _ _ R.out) ?_
  rintro e w7 ⟨rfl, hb⟩
  have hb := (show Below (w6).heap.size (w6) w7 from ((Below.refl _ _).alloc (Nat.le_refl _) _).trans (hb.mono (by simp)))
  have LB7 := Lib.hid (LB6.out.trans (hb.mono LB6.out.size))
  have T := Lib.hid (T.out.below hb T.out.lt)
  have R := Lib.hid (R.out.below hb R.out.lt)
  have P := Lib.hid (P.out.next hb)
  clear hb LB6
  obtain ⟨r0, r1, r2, r3, r4, r5, r6⟩ := T.out.all
  go_wp2_with fail
  clear r0 r1 r2 r3 r4 r5 r6
  with_reducible refine Calls.mono (of3 w7 _ _ R.out) ?_
  rintro e w8 ⟨rfl, hb⟩
  have hb := (show Below (w7).heap.size (w7) w8 from ((Below.refl _ _).alloc (Nat.le_refl _) _).trans (hb.mono (by simp)))
  have LB8 := Lib.hid (LB7.out.trans (hb.mono LB7.out.size))
  have T := Lib.hid (T.out.below hb T.out.lt)
  have R := Lib.hid (R.out.below hb R.out.lt)
  have P := Lib.hid (P.out.next hb)
  clear hb LB7
  obtain ⟨r0, r1, r2, r3, r4, r5, r6⟩ := T.out.all
  go_wp2_with fail
  clear r0 r1 r2 r3 r4 r5 r6
  with_reducible refine Calls.mono (of4 _ _ _ R.out) ?_
  rintro e w9 ⟨rfl, hb⟩
  have LB9 := Lib.hid (LB8.out.trans (hb.mono LB8.out.size))
  have T := Lib.hid (T.out.below hb T.out.lt)
  have R := Lib.hid (R.out.below hb R.out.lt)
  have P := Lib.hid (P.out.next hb)
  clear hb LB8
  obtain ⟨r0, r1, r2, r3, r4, r5, r6⟩ := T.out.all
  go_wp2_with fail
  clear r0 r1 r2 r3 r4 r5 r6
  with_reducible refine Calls.mono (ovr1 _ _ _ R.out) ?_
  rintro e w10 ⟨rfl, hb⟩
  have LB10 := Lib.hid (LB9.out.trans (hb.mono LB9.out.size))
  have T := Lib.hid (T.out.below hb T.out.lt)
  have R := Lib.hid (R.out.below hb R.out.lt)
  have P := Lib.hid (P.out.next hb)
  clear hb LB9
  obtain ⟨r0, r1, r2, r3, r4, r5, r6⟩ := T.out.all
  go_wp2_with fail
  clear r0 r1 r2 r3 r4 r5 r6
  with_reducible refine Calls.mono (ovr2 _ _ _ R.out) ?_
  rintro e w11 ⟨rfl, hb⟩
  have LB11 := Lib.hid (LB10.out.trans (hb.mono LB10.out.size))
  have T := Lib.hid (T.out.below hb T.out.lt)
  have R := Lib.hid (R.out.below hb R.out.lt)
  have P := Lib.hid (P.out.next hb)
  clear hb LB10
  obtain ⟨r0, r1, r2, r3, r4, r5, r6⟩ := T.out.all
  go_wp2_with fail
  clear r0 r1 r2 r3 r4 r5 r6
  with_reducible refine Calls.mono (ovr3 _ _ _ R.out) ?_
  rintro e w12 ⟨rfl, hb⟩
  have LB12 := Lib.hid (LB11.out.trans (hb.mono LB11.out.size))
  have T := Lib.hid (T.out.below hb T.out.lt)
  have R := Lib.hid (R.out.below hb R.out.lt)
  have P := Lib.hid (P.out.next hb)
  clear hb LB11
  obtain ⟨r0, r1, r2, r3, r4, r5, r6⟩ := T.out.all
  go_wp2_with fail
  clear r0 r1 r2 r3 r4 r5 r6
  with_reducible refine Calls.mono (lv_same (n := 4) (by omega) (P.out.next ((Below.refl _ _).alloc (Nat.le_refl _) (.cells #[.int .i64 0, .int .i64 1, .int .i64 4, .int .i64 5] 3))) (lv_lit (w12) [0, 1, 4, 5] #[.int .i64 0, .int .i64 1, .int .i64 4, .int .i64 5] rfl) dP 4 (fun _ _ => rfl)) ?_
  rintro e w13 ⟨rfl, hb⟩
  have hb := (show Below (w12).heap.size (w12) w13 from ((Below.refl _ _).alloc (Nat.le_refl _) _).trans (hb.mono (by simp)))
  have LB13 := Lib.hid (LB12.out.trans (hb.mono LB12.out.size))
  have T := Lib.hid (T.out.below hb T.out.lt)
  have R := Lib.hid (R.out.below hb R.out.lt)
  have P := Lib.hid (P.out.next hb)
  clear hb LB12
  clear P
  obtain ⟨r0, r1, r2, r3, r4, r5, r6⟩ := T.out.all
  go_wp2_with fail
  clear r0 r1 r2 r3 r4 r5 r6
  with_reducible refine Calls.mono (nw_c4 _ _ _ R.out) ?_
  rintro e w14 ⟨D2, d2, rfl, _, _, hb⟩
  have LB14 := Lib.hid (LB13.out.trans (hb.mono LB13.out.size))
  have T := Lib.hid (T.out.below hb T.out.lt)
  have R := Lib.hid (R.out.below hb R.out.lt)
  clear hb LB13
  obtain ⟨r0, r1, r2, r3, r4, r5, r6⟩ := T.out.all
  go_wp2_with fail
  clear r0 r1 r2 r3 r4 r5 r6
  with_reducible refine Calls.mono (of5 w14 _ _ R.out) ?_
  rintro e w15 ⟨rfl, hb⟩
  have hb := (show Below (w14).heap.size (w14) w15 from ((Below.refl _ _).alloc (Nat.le_refl _) _).trans (hb.mono (by simp)))
  have LB15 := Lib.hid (LB14.out.trans (hb.mono LB14.out.size))
  have T := Lib.hid (T.out.below hb T.out.lt)
  have R := Lib.hid (R.out.below hb R.out.lt)
  clear hb LB14
  obtain ⟨r0, r1, r2, r3, r4, r5, r6⟩ := T.out.all
  go_wp2_with fail
  clear r0 r1 r2 r3 r4 r5 r6
  with_reducible refine Calls.mono (of6 w15 _ _ R.out) ?_
  rintro e w16 ⟨rfl, hb⟩
  have hb := (show Below (w15).heap.size (w15) w16 from ((Below.refl _ _).alloc (Nat.le_refl _) _).trans (hb.mono (by simp)))
  have LB16 := Lib.hid (LB15.out.trans (hb.mono LB15.out.size))
  have T := Lib.hid (T.out.below hb T.out.lt)
  have R := Lib.hid (R.out.below hb R.out.lt)
  clear hb LB15
  obtain ⟨r0, r1, r2, r3, r4, r5, r6⟩ := T.out.all
  go_wp2_with fail
  clear r0 r1 r2 r3 r4 r5 r6
  with_reducible refine Calls.mono (ovr4 _ _ _ R.out) ?_
  rintro e w17 ⟨rfl, hb⟩
  have LB17 := Lib.hid (LB16.out.trans (hb.mono LB16.out.size))
  have T := Lib.hid (T.out.below hb T.out.lt)
  have R := Lib.hid (R.out.below hb R.out.lt)
  clear hb LB16
  obtain ⟨r0, r1, r2, r3, r4, r5, r6⟩ := T.out.all
  go_wp2_with fail
  clear r0 r1 r2 r3 r4 r5 r6
  with_reducible refine Calls.mono (ovr5 _ _ _ R.out) ?_
  rintro e w18 ⟨rfl, hb⟩
  have LB18 := Lib.hid (LB17.out.trans (hb.mono LB17.out.size))
  have T := Lib.hid (T.out.below hb T.out.lt)
  have R := Lib.hid (R.out.below hb R.out.lt)
  clear hb LB17
  go_upto_region 18 with (fail)
  obtain ⟨r0, r1, r2, r3, r4, r5, r6⟩ := T.out.all
  go_cut [33, 34] (fun p q wx => p = .bool false ∧ q = .int .i64 4 ∧ Below w18.heap.size w18 wx)
  case first =>
    have HS := Lib.hid (fun u (h : Below w18.heap.size w18 u) => (fun hT => (⟨hT.c0, hT.c1, hT.c2⟩ : u.cell? ⟨_, 0, none⟩ = some _ ∧ u.cell? ⟨_, 1, none⟩ = some _ ∧ u.cell? ⟨_, 2, none⟩ = some _)) (T.out.below h T.out.lt))
    go_region_held3 (fun u => u.cell? ⟨w3.heap.size, 0, none⟩ = some (.int .i64 4) ∧ u.cell? ⟨w3.heap.size, 1, none⟩ = some (.int .i64 4) ∧ u.cell? ⟨w3.heap.size, 2, none⟩ = some (.slice (some ⟨k4, 0, none⟩) 16 16))
      (exact HS.out _ (by (repeat' (first | assumption | exact Below.refl _ _ | refine Below.drew ?_ | refine blA ?_ (Nat.le_refl _) _))))
      ((go_at_call 47
        with_reducible refine Calls.mono (ac_many _ _ _ _ _) ?_
        rintro e u1 ⟨rfl, hb1⟩
        have hx1 : Below w18.heap.size w18 u1 := blT (by (repeat' (first | assumption | exact Below.refl _ _ | refine Below.drew ?_ | refine blA ?_ (Nat.le_refl _) _))) (Nat.le_refl _) hb1))
    all_goals
      go_wp2_with fail
      go_meet
      exact ⟨rfl, rfl, hx1⟩
  case rest =>
  obtain ⟨rfl, rfl, hb⟩ := hcut
  have LB19 := Lib.hid (LB18.out.trans (hb.mono LB18.out.size))
  clear hb LB18 T R r0 r1 r2 r3 r4 r5 r6
  go_wp2_with fail
  with_reducible refine Calls.mono (hn_zero _) ?_
  rintro e w20 ⟨rfl, hb⟩
  have LB20 := Lib.hid (LB19.out.trans (hb.mono LB19.out.size))
  clear hb LB19
  go_wp2_with fail
  with_reducible refine Calls.mono (ap_wide _) ?_
  rintro e w21 ⟨D3, d3, rfl, _, _, hb⟩
  have LB21 := Lib.hid (LB20.out.trans (hb.mono LB20.out.size))
  clear hb LB20
  go_wp2_with fail
  with_reducible refine Calls.mono (ac_zero _) ?_
  rintro e w22 ⟨rfl, hb⟩
  have LB22 := Lib.hid (LB21.out.trans (hb.mono LB21.out.size))
  clear hb LB21
  go_wp2_with fail
  with_reducible refine Calls.mono (cl_ea _) ?_
  rintro e w23 ⟨kRd, rfl, _, hrow, hb⟩
  have LB23 := Lib.hid (LB22.out.trans (hb.mono LB22.out.size))
  have Rd := Lib.hid hrow
  clear hrow
  clear hb LB22
  go_wp2_with fail
  with_reducible refine Calls.mono (ac1 w23 _ _ Rd.out) ?_
  rintro e w24 ⟨rfl, hb⟩
  have hb := (show Below (w23).heap.size (w23) w24 from ((Below.refl _ _).alloc (Nat.le_refl _) _).trans (hb.mono (by simp)))
  have LB24 := Lib.hid (LB23.out.trans (hb.mono LB23.out.size))
  have Rd := Lib.hid (Rd.out.below hb Rd.out.lt)
  clear hb LB23
  clear Rd
  go_wp2_with fail
  with_reducible refine Calls.mono (cl_ea _) ?_
  rintro e w25 ⟨kRe, rfl, _, hrow, hb⟩
  have LB25 := Lib.hid (LB24.out.trans (hb.mono LB24.out.size))
  have Re := Lib.hid hrow
  clear hrow
  clear hb LB24
  go_wp2_with fail
  with_reducible refine Calls.mono (ac2 w25 _ _ Re.out) ?_
  rintro e w26 ⟨rfl, hb⟩
  have hb := (show Below (w25).heap.size (w25) w26 from ((Below.refl _ _).alloc (Nat.le_refl _) _).trans (hb.mono (by simp)))
  have LB26 := Lib.hid (LB25.out.trans (hb.mono LB25.out.size))
  have Re := Lib.hid (Re.out.below hb Re.out.lt)
  clear hb LB25
  clear Re
  go_wp2_with fail
  with_reducible refine Calls.mono (cl_x1 _) ?_
  rintro e w27 ⟨kRf, rfl, _, hrow, hb⟩
  have LB27 := Lib.hid (LB26.out.trans (hb.mono LB26.out.size))
  have Rf := Lib.hid hrow
  clear hrow
  clear hb LB26
  go_wp2_with fail
  with_reducible refine Calls.mono (ac3 w27 _ _ Rf.out) ?_
  rintro e w28 ⟨rfl, hb⟩
  have hb := (show Below (w27).heap.size (w27) w28 from ((Below.refl _ _).alloc (Nat.le_refl _) _).trans (hb.mono (by simp)))
  have LB28 := Lib.hid (LB27.out.trans (hb.mono LB27.out.size))
  have Rf := Lib.hid (Rf.out.below hb Rf.out.lt)
  clear hb LB27
  clear Rf
  go_wp2_with fail
  with_reducible refine Calls.mono (alive10_any _) ?_
  rintro e w29 ⟨rfl, hb⟩
  have LB29 := Lib.hid (LB28.out.trans (hb.mono LB28.out.size))
  clear hb LB28
  go_wp2
  go_ret
  exact ⟨rfl, LB29.out⟩
end Go.Proofs.Ytnpgmgaajejhjaa
