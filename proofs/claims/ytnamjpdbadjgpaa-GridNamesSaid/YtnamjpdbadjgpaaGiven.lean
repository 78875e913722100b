/- given: the grid of the chapter's examples. -/
import Derived.Test.YtnamjpdbadjgpaaOps
namespace Go.Proofs.Ytnamjpdbadjgpaa
open Go.RowKit
set_option linter.unusedVariables false
set_option linter.unusedSimpArgs false

theorem heap_new (w : World) (o : Obj) : (w.alloc o).heap[w.heap.size]? = some o := by
  show (w.heap.push o)[w.heap.size]? = some o
  simp
def givenF (i : Nat) : Bool := i == 0 || i == 4 || i == 5
theorem given_ok (W : World) :
    Calls Try.prog 11 #[] W fun e w' => ∃ k, e = .returned (.agg #[.int .i64 3, .int .i64 2, .slice (some ⟨k, 0, none⟩) 6 6]) ∧ W.heap.size ≤ k ∧ Row w' k 6 givenF ∧ Below W.heap.size W w' := by
  go_enter Try.func11, Try.ntmps11
  go_wp2_with fail
  refine bodyPost_ret (v := .agg #[.int .i64 3, .int .i64 2, .slice (some ⟨W.heap.size + 1, 0, none⟩) 6 6]) (by simp [results, Try.results11, go_sem]) rfl ⟨W.heap.size + 1, rfl, by omega, ?_, ?_⟩
  · refine ⟨#[.bool true, .bool false, .bool false, .bool false, .bool true, .bool true], ?_, by decide, ?_⟩
    · have e : W.heap.size + 1 = (W.alloc (.cells #[.int .i64 3, .int .i64 2, .slice (some ⟨W.heap.size + 1, 0, none⟩) 6 6] 24)).heap.size := by simp
      exact (congrArg _ e).trans (heap_new _ _)
    · intro i hi
      have : i = 0 ∨ i = 1 ∨ i = 2 ∨ i = 3 ∨ i = 4 ∨ i = 5 := by omega
      rcases this with rfl | rfl | rfl | rfl | rfl | rfl <;> rfl
  · exact ((Below.refl W.heap.size W).alloc (Nat.le_refl _) _).alloc (by simp) _
end Go.Proofs.Ytnamjpdbadjgpaa
