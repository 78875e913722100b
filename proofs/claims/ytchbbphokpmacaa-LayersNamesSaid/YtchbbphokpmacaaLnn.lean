/- Contracts of LayersNames. -/
import Derived.Test.YtchbbphokpmacaaLav
import Derived.Test.YtchbbphokpmacaaLon
import Derived.Test.YtchbbphokpmacaaLhe
namespace Go.Proofs.Ytchbbphokpmacaa
open Go.RowKit
set_option maxRecDepth 100000
set_option linter.unusedVariables false
set_option linter.unusedSimpArgs false

def xx (i : Nat) : Bool := [true, true, true, true].getD i false
theorem parse_xx (w : World) : Calls Try.prog 68 #[.string ⟨#[120, 120, 10, 120, 120, 10]⟩] w (PG w 2 2 4 xx) := by
  refine (parse_ok ⟨#[120, 120, 10, 120, 120, 10]⟩ 2 2 w (by decide) (by omega) (by omega) (by omega) (by omega) (by decide) ⟨by decide, ?_⟩ (fun W' => ?_)).mono fun e w' ⟨k, he, hk, hr, hb⟩ => ⟨k, he, hk, hr.congr ?_, hb⟩
  · have key : ∀ i (h : i < 6), okAt ⟨#[120, 120, 10, 120, 120, 10]⟩ 2 i h := by unfold okAt; decide +kernel
    exact key
  · exact (Try.strings_IndexByte _ 10 W').mono fun e w' h => by
      refine ⟨?_, h.2⟩
      rw [h.1]
      rfl
  · decide
theorem cl_xx (w : World) : Calls Try.prog 43 #[.string ⟨#[120, 120, 10, 120, 120, 10]⟩] w (CG w 2 2 4 xx) := cloth_any _ _ _ _ _ parse_xx w
def x1 (i : Nat) : Bool := [true].getD i false
theorem parse_x1 (w : World) : Calls Try.prog 68 #[.string ⟨#[120, 10]⟩] w (PG w 1 1 1 x1) := by
  refine (parse_ok ⟨#[120, 10]⟩ 1 1 w (by decide) (by omega) (by omega) (by omega) (by omega) (by decide) ⟨by decide, ?_⟩ (fun W' => ?_)).mono fun e w' ⟨k, he, hk, hr, hb⟩ => ⟨k, he, hk, hr.congr ?_, hb⟩
  · have key : ∀ i (h : i < 2), okAt ⟨#[120, 10]⟩ 1 i h := by unfold okAt; decide +kernel
    exact key
  · exact (Try.strings_IndexByte _ 10 W').mono fun e w' h => by
      refine ⟨?_, h.2⟩
      rw [h.1]
      rfl
  · decide
theorem cl_x1 (w : World) : Calls Try.prog 43 #[.string ⟨#[120, 10]⟩] w (CG w 1 1 1 x1) := cloth_any _ _ _ _ _ parse_x1 w
theorem pt_xx (w : World) (k c : Nat) (h : Row w k 4 xx) : Calls Try.prog 42 #[.agg #[.int .i64 2, .int .i64 2, .slice (some ⟨k, 0, none⟩) 4 c]] w (PaV w 4 [[0], [1], [2], [3]]) :=
  (parts_n 2 2 4 rfl (some ⟨k, 0, none⟩) c xx w (h.holds h.lt) (by omega) (by omega) (by omega) (by omega)).mono fun e w' z => z.pav (by decide +kernel) (by decide +kernel)
theorem lls_lit4 (w : World) (l1 l2 l3 l4 : List Nat) (c1 c2 c3 c4 : Array Value) (h1 : c1 = (l1.map fun (x : Nat) => Value.int .i64 (x : Nat)).toArray) (h2 : c2 = (l2.map fun (x : Nat) => Value.int .i64 (x : Nat)).toArray) (h3 : c3 = (l3.map fun (x : Nat) => Value.int .i64 (x : Nat)).toArray) (h4 : c4 = (l4.map fun (x : Nat) => Value.int .i64 (x : Nat)).toArray) :
    LLs (((((w.alloc (.cells c1 3)).alloc (.cells c2 3)).alloc (.cells c3 3)).alloc (.cells c4 3)).alloc (.cells #[.slice (some ⟨w.heap.size, 0, none⟩) l1.length l1.length, .slice (some ⟨w.heap.size + 1, 0, none⟩) l2.length l2.length, .slice (some ⟨w.heap.size + 2, 0, none⟩) l3.length l3.length, .slice (some ⟨w.heap.size + 3, 0, none⟩) l4.length l4.length] 45)) (some ⟨w.heap.size + 4, 0, none⟩) 4 (fun i => [l1, l2, l3, l4].getD i []) := by
  have z := bel_alloc ((((w.alloc (.cells c1 3)).alloc (.cells c2 3)).alloc (.cells c3 3)).alloc (.cells c4 3)) (.cells #[.slice (some ⟨w.heap.size, 0, none⟩) l1.length l1.length, .slice (some ⟨w.heap.size + 1, 0, none⟩) l2.length l2.length, .slice (some ⟨w.heap.size + 2, 0, none⟩) l3.length l3.length, .slice (some ⟨w.heap.size + 3, 0, none⟩) l4.length l4.length] 45)
  have a1 := ((((ll_lit w l1 c1 h1).below (bel_alloc _ (.cells c2 3))).below (bel_alloc _ (.cells c3 3))).below (bel_alloc _ (.cells c4 3))).below z
  have a2 := (((ll_lit (w.alloc (.cells c1 3)) l2 c2 h2).below (bel_alloc _ (.cells c3 3))).below (bel_alloc _ (.cells c4 3))).below z
  have a3 := ((ll_lit ((w.alloc (.cells c1 3)).alloc (.cells c2 3)) l3 c3 h3).below (bel_alloc _ (.cells c4 3))).below z
  have a4 := (ll_lit (((w.alloc (.cells c1 3)).alloc (.cells c2 3)).alloc (.cells c3 3)) l4 c4 h4).below z
  rw [World.size_alloc] at a2
  rw [World.size_alloc, World.size_alloc] at a3
  rw [World.size_alloc, World.size_alloc, World.size_alloc] at a4
  have hn := World.alloc_heap_new ((((w.alloc (.cells c1 3)).alloc (.cells c2 3)).alloc (.cells c3 3)).alloc (.cells c4 3)) (.cells #[.slice (some ⟨w.heap.size, 0, none⟩) l1.length l1.length, .slice (some ⟨w.heap.size + 1, 0, none⟩) l2.length l2.length, .slice (some ⟨w.heap.size + 2, 0, none⟩) l3.length l3.length, .slice (some ⟨w.heap.size + 3, 0, none⟩) l4.length l4.length] 45)
  rw [World.size_alloc, World.size_alloc, World.size_alloc, World.size_alloc] at hn
  refine fun _ => ⟨w.heap.size + 4, 0, rfl, by simp, fun i hi => ?_⟩
  match i, hi with
  | 0, _ => exact ⟨_, _, (by rw [Lib.cell_of_heap hn]; rfl), ⟨(fun h => by cases h), Nat.le_refl _⟩, a1⟩
  | 1, _ => exact ⟨_, _, (by rw [Lib.cell_of_heap hn]; rfl), ⟨(fun h => by cases h), Nat.le_refl _⟩, a2⟩
  | 2, _ => exact ⟨_, _, (by rw [Lib.cell_of_heap hn]; rfl), ⟨(fun h => by cases h), Nat.le_refl _⟩, a3⟩
  | 3, _ => exact ⟨_, _, (by rw [Lib.cell_of_heap hn]; rfl), ⟨(fun h => by cases h), Nat.le_refl _⟩, a4⟩
def dg (i : Nat) : Bool := [false, true, true, false].getD i false
/-- The grid of two threads by two. -/
def DgV (w : World) (e : Ending) (w' : World) : Prop := ∃ A c, e = .returned (.tuple #[.agg #[.int .i64 2, .int .i64 2, .slice A 4 c], .int .i64 0]) ∧ Holds w' w'.heap.size A 4 dg ∧ Below w.heap.size w w'
theorem on1 (w : World) (k c : Nat) (h : Row w k 16 tf) : Calls Try.prog 44 #[.agg #[.int .i64 4, .int .i64 4, .slice (some ⟨k, 0, none⟩) 16 c], .slice (some ⟨w.heap.size, 0, none⟩) 4 4] (w.alloc (.cells #[.int .i64 2, .int .i64 3, .int .i64 6, .int .i64 7] 3)) (DgV (w.alloc (.cells #[.int .i64 2, .int .i64 3, .int .i64 6, .int .i64 7] 3))) := by
  have hr := (h.alloc (.cells #[.int .i64 2, .int .i64 3, .int .i64 6, .int .i64 7] 3)).holds (h.alloc (.cells #[.int .i64 2, .int .i64 3, .int .i64 6, .int .i64 7] 3)).lt
  have hl := ll_lit w [2, 3, 6, 7] #[.int .i64 2, .int .i64 3, .int .i64 6, .int .i64 7] rfl
  have h1 := ponly_n 4 4 (some ⟨k, 0, none⟩) c tf [2, 3, 6, 7] (some ⟨w.heap.size, 0, none⟩) 4 (w.alloc (.cells #[.int .i64 2, .int .i64 3, .int .i64 6, .int .i64 7] 3)) hr (by omega) (by omega) (by omega) (by omega) (by decide) hl (by decide) (by decide) (by decide +kernel) (by decide +kernel) (by decide +kernel)
  rw [show (lEn 4 [2, 3, 6, 7]).length = 2 by decide +kernel, show (lPi 4 [2, 3, 6, 7]).length = 2 by decide +kernel] at h1
  have key : ∀ i, i < 4 → onF 4 tf (lEn 4 [2, 3, 6, 7]) (lPi 4 [2, 3, 6, 7]) i = dg i := by decide +kernel
  refine h1.mono fun e w' ⟨A, c', he, _, hh, hb⟩ => ⟨A, c', he, fun h0 => ?_, hb⟩
  obtain ⟨b, o, e1, e2, e3⟩ := hh h0
  exact ⟨b, o, e1, e2, fun i hi => by rw [← key i hi]; exact e3 i hi⟩
theorem on2 (w : World) (k c : Nat) (h : Row w k 16 tf) : Calls Try.prog 44 #[.agg #[.int .i64 4, .int .i64 4, .slice (some ⟨k, 0, none⟩) 16 c], .slice (some ⟨w.heap.size, 0, none⟩) 2 2] (w.alloc (.cells #[.int .i64 0, .int .i64 1] 3)) (ErrGrid (w.alloc (.cells #[.int .i64 0, .int .i64 1] 3)) 22) := by
  have hr := (h.alloc (.cells #[.int .i64 0, .int .i64 1] 3)).holds (h.alloc (.cells #[.int .i64 0, .int .i64 1] 3)).lt
  have hl := ll_lit w [0, 1] #[.int .i64 0, .int .i64 1] rfl
  exact ponly_short 4 4 (some ⟨k, 0, none⟩) c tf [0, 1] (some ⟨w.heap.size, 0, none⟩) 2 (w.alloc (.cells #[.int .i64 0, .int .i64 1] 3)) hr (by omega) (by omega) (by omega) (by omega) (by decide) hl (by decide) (by decide +kernel) (by decide +kernel)
theorem on3 (w : World) (k c : Nat) (h : Row w k 16 tf) : Calls Try.prog 44 #[.agg #[.int .i64 4, .int .i64 4, .slice (some ⟨k, 0, none⟩) 16 c], .slice (some ⟨w.heap.size, 0, none⟩) 3 3] (w.alloc (.cells #[.int .i64 1, .int .i64 0, .int .i64 4] 3)) (ErrGrid (w.alloc (.cells #[.int .i64 1, .int .i64 0, .int .i64 4] 3)) 2) := by
  have hr := (h.alloc (.cells #[.int .i64 1, .int .i64 0, .int .i64 4] 3)).holds (h.alloc (.cells #[.int .i64 1, .int .i64 0, .int .i64 4] 3)).lt
  have hl := ll_lit w [1, 0, 4] #[.int .i64 1, .int .i64 0, .int .i64 4] rfl
  exact ponly_no 4 4 (some ⟨k, 0, none⟩) c tf (some ⟨w.heap.size, 0, none⟩) 3 3 (lf [1, 0, 4]) (w.alloc (.cells #[.int .i64 1, .int .i64 0, .int .i64 4] 3)) hr (by omega) (by omega) (by omega) (by omega) (by omega) hl (by decide +kernel)
theorem on5 (w : World) (k c : Nat) (h : Row w k 16 tf) : Calls Try.prog 44 #[.agg #[.int .i64 4, .int .i64 4, .slice (some ⟨k, 0, none⟩) 16 c], .slice (some ⟨w.heap.size, 0, none⟩) 3 3] (w.alloc (.cells #[.int .i64 0, .int .i64 4, .int .i64 8] 3)) (ErrGrid (w.alloc (.cells #[.int .i64 0, .int .i64 4, .int .i64 8] 3)) 2) := by
  have hr := (h.alloc (.cells #[.int .i64 0, .int .i64 4, .int .i64 8] 3)).holds (h.alloc (.cells #[.int .i64 0, .int .i64 4, .int .i64 8] 3)).lt
  have hl := ll_lit w [0, 4, 8] #[.int .i64 0, .int .i64 4, .int .i64 8] rfl
  exact ponly_no 4 4 (some ⟨k, 0, none⟩) c tf (some ⟨w.heap.size, 0, none⟩) 3 3 (lf [0, 4, 8]) (w.alloc (.cells #[.int .i64 0, .int .i64 4, .int .i64 8] 3)) hr (by omega) (by omega) (by omega) (by omega) (by omega) hl (by decide +kernel)
theorem on4 (w : World) (k c : Nat) (h : Row w k 16 tf) : Calls Try.prog 44 #[.agg #[.int .i64 4, .int .i64 4, .slice (some ⟨k, 0, none⟩) 16 c], .slice none 0 0] w (ErrGrid w 22) :=
  ponly_short 4 4 (some ⟨k, 0, none⟩) c tf [] none 0 w (h.holds h.lt) (by omega) (by omega) (by omega) (by omega) (by decide) (ll_nil _ _) (by decide) (by decide +kernel) (by decide +kernel)
theorem tx1 (A : Option Addr) (c : Nat) (w : World) (h : Holds w w.heap.size A 4 dg) : Calls Try.prog 46 #[.agg #[.int .i64 2, .int .i64 2, .slice A 4 c]] w fun e w' => e = .returned (.tuple #[.string ⟨#[120, 46, 10, 46, 120, 10]⟩, .int .i64 0]) ∧ Below w.heap.size w w' := by
  have h1 := text_ok 2 2 A c dg w h (by omega) (by omega) (by omega) (by omega)
  rw [show (rowsT 2 2 dg 2).toArray = #[120, 46, 10, 46, 120, 10] by decide +kernel] at h1
  exact h1
/-- Two lists and an error came back. -/
def SpV (w : World) (n1 n2 : Nat) (l1 l2 : List Nat) (z : Int) (e : Ending) (w' : World) : Prop :=
  ∃ D1 c1 D2 c2, e = .returned (.tuple #[.slice D1 n1 c1, .slice D2 n2 c2, .int .i64 z]) ∧ LL w' D1 l1 ∧ LL w' D2 l2 ∧ Below w.heap.size w w'
theorem sp1 (w : World) (k c : Nat) (h : Row w k 16 tf) : Calls Try.prog 47 #[.agg #[.int .i64 4, .int .i64 4, .slice (some ⟨k, 0, none⟩) 16 c], .int .i64 1] w (SpV w 4 4 [0, 1, 4, 5] [2, 3, 6, 7] 0) := by
  have h1 := psplit_n 4 4 8 rfl (some ⟨k, 0, none⟩) c tf 1 w (h.holds h.lt) (by omega) (by omega) (by omega) (by omega) (by decide +kernel)
  rw [show ofl (topS (ov 4 tf) 8 1) 8 = [0, 1, 4, 5] by decide +kernel, show ofl (out (ov 4 tf) 8 1) 8 = [2, 3, 6, 7] by decide +kernel] at h1
  exact h1.mono fun e w' ⟨D1, c1, D2, c2, he, ⟨_, a1⟩, a2, hb⟩ => ⟨D1, c1, D2, c2, he, a1, a2, hb⟩
theorem sp0 (w : World) (k c : Nat) (h : Row w k 16 tf) : Calls Try.prog 47 #[.agg #[.int .i64 4, .int .i64 4, .slice (some ⟨k, 0, none⟩) 16 c], .int .i64 0] w (SpV w 0 8 [] [0, 1, 2, 3, 4, 5, 6, 7] 0) := by
  have h1 := psplit_n 4 4 8 rfl (some ⟨k, 0, none⟩) c tf 0 w (h.holds h.lt) (by omega) (by omega) (by omega) (by omega) (by decide +kernel)
  rw [show ofl (topS (ov 4 tf) 8 0) 8 = [] by decide +kernel, show ofl (out (ov 4 tf) 8 0) 8 = [0, 1, 2, 3, 4, 5, 6, 7] by decide +kernel] at h1
  exact h1.mono fun e w' ⟨D1, c1, D2, c2, he, ⟨_, a1⟩, a2, hb⟩ => ⟨D1, c1, D2, c2, he, a1, a2, hb⟩
theorem sp3 (w : World) (k c : Nat) (h : Row w k 16 tf) : Calls Try.prog 47 #[.agg #[.int .i64 4, .int .i64 4, .slice (some ⟨k, 0, none⟩) 16 c], .int .i64 3] w (SpV w 0 0 [] [] 2) :=
  (psplit_no 4 4 (some ⟨k, 0, none⟩) c tf 3 w (h.holds h.lt) (by omega) (by omega) (by omega) (by omega) (by decide +kernel)).mono fun e w' ⟨D1, c1, D2, c2, he, ⟨_, a1⟩, a2, hb⟩ => ⟨D1, c1, D2, c2, he, a1, a2, hb⟩
theorem spm (w : World) (k c : Nat) (h : Row w k 16 tf) : Calls Try.prog 47 #[.agg #[.int .i64 4, .int .i64 4, .slice (some ⟨k, 0, none⟩) 16 c], .int .i64 (-1)] w (SpV w 0 0 [] [] 2) :=
  (psplit_no 4 4 (some ⟨k, 0, none⟩) c tf (-1) w (h.holds h.lt) (by omega) (by omega) (by omega) (by omega) (by decide +kernel)).mono fun e w' ⟨D1, c1, D2, c2, he, ⟨_, a1⟩, a2, hb⟩ => ⟨D1, c1, D2, c2, he, a1, a2, hb⟩
theorem he1 (w : World) (k c : Nat) (h : Row w k 16 tf) : Calls Try.prog 48 #[.agg #[.int .i64 4, .int .i64 4, .slice (some ⟨k, 0, none⟩) 16 c], .int .i64 2, .int .i64 0] w (BRet w true 0) := by
  have h1 := pheld_n 4 4 8 rfl (some ⟨k, 0, none⟩) c tf 2 0 w (h.holds h.lt) (by omega) (by omega) (by omega) (by omega) (by omega) (by omega)
  rw [show up (ov 4 tf) 8 2 0 = true by decide +kernel] at h1
  exact h1
theorem he2 (w : World) (k c : Nat) (h : Row w k 16 tf) : Calls Try.prog 48 #[.agg #[.int .i64 4, .int .i64 4, .slice (some ⟨k, 0, none⟩) 16 c], .int .i64 0, .int .i64 2] w (BRet w false 0) := by
  have h1 := pheld_n 4 4 8 rfl (some ⟨k, 0, none⟩) c tf 0 2 w (h.holds h.lt) (by omega) (by omega) (by omega) (by omega) (by omega) (by omega)
  rw [show up (ov 4 tf) 8 0 2 = false by decide +kernel] at h1
  exact h1
theorem he3 (w : World) (k c : Nat) (h : Row w k 1 x1) : Calls Try.prog 48 #[.agg #[.int .i64 1, .int .i64 1, .slice (some ⟨k, 0, none⟩) 1 c], .int .i64 1, .int .i64 1] w (BRet w true 0) := by
  have h1 := pheld_n 1 1 2 rfl (some ⟨k, 0, none⟩) c x1 1 1 w (h.holds h.lt) (by omega) (by omega) (by omega) (by omega) (by omega) (by omega)
  rw [show up (ov 1 x1) 2 1 1 = true by decide +kernel] at h1
  exact h1
theorem he4 (w : World) (k c : Nat) (h : Row w k 16 tf) : Calls Try.prog 48 #[.agg #[.int .i64 4, .int .i64 4, .slice (some ⟨k, 0, none⟩) 16 c], .int .i64 0, .int .i64 8] w (BRet w false 2) :=
  pheld_no 4 4 (some ⟨k, 0, none⟩) c tf 0 8 w (h.holds h.lt) (by omega) (by omega) (by omega) (by omega) (by decide +kernel)
theorem he5 (w : World) (k c : Nat) (h : Row w k 16 tf) : Calls Try.prog 48 #[.agg #[.int .i64 4, .int .i64 4, .slice (some ⟨k, 0, none⟩) 16 c], .int .i64 (-1), .int .i64 0] w (BRet w false 2) :=
  pheld_no 4 4 (some ⟨k, 0, none⟩) c tf (-1) 0 w (h.holds h.lt) (by omega) (by omega) (by omega) (by omega) (by decide +kernel)
theorem pt_zero (w : World) : Calls Try.prog 42 #[.agg #[.int .i64 0, .int .i64 0, .slice none 0 0]] w (PaR w (fun _ => []) 0 8) := parts_err 8 (by omega) (by decide) (by decide) w
theorem ly_wide (w : World) : Calls Try.prog 51 #[.agg #[.int .i64 65, .int .i64 0, .slice none 0 0]] w (LsR w (fun _ => []) (fun _ => []) 0 4) := players_err 4 (by omega) (by decide) (by decide) w
end Go.Proofs.Ytchbbphokpmacaa
