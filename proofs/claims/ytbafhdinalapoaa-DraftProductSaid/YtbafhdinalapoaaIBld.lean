/- The program's 'build': a new list, each element the answer of the function value that is handed over. -/
import Derived.Test.YtbafhdinalapoaaIBase
import Derived.Shelf.GgClosure.Gives
namespace Go.Proofs.Ytbafhdinalapoaa.L2
open Go.RowKit
set_option linter.unusedVariables false
set_option linter.unusedSimpArgs false

theorem TryI.infoI : (Try.prog.info? 3).map (fun i => (i.zero, i.size, i.bytes)) = some (some (.int .i64 0), 1, 8) := by kernel_rfl

theorem make_run (n : Nat) (hN : n ≤ 4096) (w : World) :
    (Instr.makeSlice 28 (.int .i64 n) (.int .i64 n)).run Try.prog w = .ok (.slice (some ⟨w.heap.size, 0, none⟩) n n) (w.alloc (.cells (madeCells #[.int .i64 0] n) 3)) :=
  run_make_row' (P := Try.prog) 28 3 (.int .i64 0) 8 Try.underlying28 TryI.infoI rfl .i64 .i64 n (by omega) (by omega) w

theorem Row.made (w : World) (n : Nat) : Row (w.alloc (.cells (madeCells #[.int .i64 0] n) 3)) w.heap.size n (fun _ => 0) := by
  refine ⟨madeCells #[.int .i64 0] n, ?_, Nat.le_of_eq (size_madeCells _ _).symm, fun i hi => ?_⟩
  · show (w.heap.push _)[w.heap.size]? = _
    rw [Array.getElem?_push, if_pos rfl]
  · simp [madeCells, hi, Nat.mod_one]

/-- What is asked of the function value that 'build' calls: at each place it answers 'F', and writes nothing that was there. -/
def Gives (g : Nat) (lb : Array Value) (w0 : World) (n : Nat) (F : Nat → Int) : Prop :=
  ∀ (w : World) (x : Nat), Below w0.heap.size w0 w → x < n → Calls Try.prog g (#[.int .i64 x] ++ lb) w fun e w' => e = .returned (.int .i64 (F x)) ∧ Below w.heap.size w w'

def part (F : Nat → Int) (m : Nat) : Nat → Int := fun i => if i < m then F i else 0
theorem part_zero (F : Nat → Int) : part F 0 = fun _ => 0 := by funext i; simp [part]
theorem part_succ (F : Nat → Int) (x : Nat) : (fun j => if j = x then F x else part F x j) = part F (x + 1) := by
  funext j
  unfold part
  by_cases e : j = x
  · subst e; simp
  · rw [if_neg e]
    by_cases h : j < x
    · rw [if_pos h, if_pos (by omega)]
    · rw [if_neg h, if_neg (by omega)]

end Go.Proofs.Ytbafhdinalapoaa.L2
