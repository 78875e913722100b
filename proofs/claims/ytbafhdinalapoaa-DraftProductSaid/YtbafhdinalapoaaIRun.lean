/- Straight and Pointed, the program's and the reference's. -/
import Derived.Test.YtbafhdinalapoaaIClo
import Derived.Test.YtbafhdinalapoaaIOwn
namespace Go.Proofs.Ytbafhdinalapoaa.L2
open Go.RowKit
set_option linter.unusedVariables false
set_option linter.unusedSimpArgs false

/-- A list and an error came back; the list's elements lie in a new row of the call's own. -/
def LOut (w : World) (n : Nat) (F : Nat → Int) (err : Int) (e : Ending) (w' : World) : Prop :=
  ∃ A c, e = .returned (.tuple #[.slice A n c, .int .i64 err]) ∧ (A = none → c = 0) ∧ (0 < n → ∃ k, A = some ⟨k, 0, none⟩ ∧ w.heap.size ≤ k ∧ Row w' k n F) ∧ Below w.heap.size w w'
theorem LOut.row {w w' : World} {n k c : Nat} {F : Nat → Int} (hk : w.heap.size ≤ k) (hr : Row w' k n F) (hb : Below w.heap.size w w') :
    LOut w n F 0 (.returned (.tuple #[.slice (some ⟨k, 0, none⟩) n c, .int .i64 0])) w' :=
  ⟨_, _, rfl, (fun h => by cases h), fun _ => ⟨k, rfl, hk, hr⟩, hb⟩
theorem LOut.err {w w' : World} {F : Nat → Int} {err : Int} (hb : Below w.heap.size w w') : LOut w 0 F err (.returned (.tuple #[.slice none 0 0, .int .i64 err])) w' :=
  ⟨_, _, rfl, fun _ => rfl, fun h => absurd h (by omega), hb⟩
theorem LOut.own {w w' : World} {n : Nat} {v : Value} {F : Nat → Int} (h : Own w' w.heap.size v n F) (hb : Below w.heap.size w w') : LOut w n F 0 (.returned (.tuple #[v, .int .i64 0])) w' := by
  obtain ⟨A, c, rfl, h1, h2⟩ := h.out
  exact ⟨A, c, rfl, h1, h2, hb⟩

/-- May a number and a length be those of a list? -/
def rn (n len : Int) : Bool := decide (1 ≤ n) && decide (n ≤ 400) && decide (0 ≤ len) && decide (len ≤ 400)

theorem mk_fn : ∀ (fn : Fn) (first cap : Array Value) (w : World), (Instr.makeFunc fn first cap).run Try.prog w = .ok (.func fn first cap) w := fun _ _ _ _ => rfl

theorem rn_nat {n len : Int} (h : rn n len = true) : ∃ N L : Nat, n = N ∧ len = L ∧ 1 ≤ N ∧ N ≤ 400 ∧ L ≤ 400 := by
  unfold rn at h
  simp at h
  exact ⟨n.toNat, len.toNat, by omega, by omega, by omega, by omega, by omega⟩

theorem below_box (w : World) (v : Value) (t : TypeId) : Below w.heap.size w (w.alloc (.cells #[v] t)) := (Below.refl _ _).alloc (Nat.le_refl _) _
theorem Num.new (w : World) (v : Int) : Num (w.alloc (.cells #[.int .i64 v] 3)) w.heap.size v := ⟨by simp only [World.cell?, heap_alloc_new]; rfl, by simp⟩

end Go.Proofs.Ytbafhdinalapoaa.L2
