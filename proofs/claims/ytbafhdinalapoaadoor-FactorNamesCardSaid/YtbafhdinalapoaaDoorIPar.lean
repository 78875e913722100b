/- What the program and the reference hand back, side by side. -/
import Derived.Test.YtbafhdinalapoaaDoorIa
import Derived.Test.YtbafhdinalapoaaDoorICat
namespace Go.Proofs.YtbafhdinalapoaaDoor.L2
open Go.RowKit
set_option linter.unusedVariables false
set_option linter.unusedSimpArgs false

/-- A function, called at any later world, hands this list and this error back. -/
def Gets (w : World) (k : Nat) (args : Array Value) (n : Nat) (F : Nat → Int) (err : Int) : Prop :=
  ∀ w', Below w.heap.size w w' → Calls Tryd.prog k args w' (LOut w' n F err)
/-- Two functions hand the same back. -/
def Both2 (w : World) (k l : Nat) (args : Array Value) : Prop := ∃ (n : Nat) (F : Nat → Int) (err : Int), n ≤ 420 ∧ Gets w k args n F err ∧ Gets w l args n F err

theorem later {w w' : World} {A : Option Addr} {n : Nat} {f : Nat → Int} (hr : Holds w w.heap.size A n f) (hb : Below w.heap.size w w') : Holds w' w'.heap.size A n f := (hr.below hb).more hb.size
/-- A list whose elements lie in a row of the call's own between lo and hi. -/
def LV (v : World) (lo hi : Nat) (A : Option Addr) (n : Nat) (F : Nat → Int) : Prop := 0 < n → ∃ k, A = some ⟨k, 0, none⟩ ∧ lo ≤ k ∧ k < hi ∧ Row v k n F
section
variable {v v' : World} {lo hi : Nat} {A : Option Addr} {n : Nat} {F : Nat → Int}
theorem LV.next (h : LV v lo hi A n F) (hb : Below v.heap.size v v') : LV v' lo hi A n F := fun hn => by
  obtain ⟨k, e, h1, h2, h3⟩ := h hn
  exact ⟨k, e, h1, h2, h3.below hb h3.lt⟩
theorem LV.drewN (h : LV v lo hi A n F) (m : Nat) : LV (v.drewN m) lo hi A n F := h
theorem LV.far (h : LV v lo hi A n F) {p : Addr} (hp : p.block < lo ∨ hi ≤ p.block) (u : Value) : LV (v.setCell p u) lo hi A n F := fun hn => by
  obtain ⟨k, e, h1, h2, h3⟩ := h hn
  exact ⟨k, e, h1, h2, h3.far (by omega) u⟩
theorem LV.set_ (h : LV v lo hi A n F) {k : Nat} (hk : A = some ⟨k, 0, none⟩) (hn : 0 < n) (i : Nat) (u : Int) : LV (v.setCell ⟨k, i, none⟩ (.int .i64 u)) lo hi A n (fun j => if j = i then u else F j) := fun _ => by
  obtain ⟨k', e, h1, h2, h3⟩ := h hn
  rw [hk] at e
  cases e
  exact ⟨k, hk, h1, h2, h3.set_ i u⟩
theorem LV.holds (h : LV v lo hi A n F) : Holds v v.heap.size A n F := fun hn => by
  obtain ⟨k, rfl, _, _, h3⟩ := h hn
  exact h3.holds h3.lt hn
theorem LV.of {w1 : World} (h : 0 < n → ∃ k, A = some ⟨k, 0, none⟩ ∧ lo ≤ k ∧ Row w1 k n F) : LV w1 lo w1.heap.size A n F := fun hn => by
  obtain ⟨k, e, h1, h3⟩ := h hn
  exact ⟨k, e, h1, h3.lt, h3⟩
theorem LV.own {w1 : World} {x : Value} (h : Own w1 lo x n F) : ∃ A c, x = .slice A n c ∧ LV w1 lo w1.heap.size A n F := by
  obtain ⟨A, c, e, _, h2⟩ := h.out
  exact ⟨A, c, e, LV.of h2⟩
end

/-- Two lists with the same elements are the same. -/
theorem rsame_eq (A D : Option Addr) (n c d : Nat) (f : Nat → Int) (w : World) (hn : n ≤ 5000) (hr : Holds w w.heap.size A n f) (hs : Holds w w.heap.size D n f) :
    Calls Tryd.prog 16 #[.slice A n c, .slice D n d] w fun e w' => e = .returned (.bool true) ∧ Below w.heap.size w w' := by
  have h := rsame_any A D n c d f f w hn hr hs
  have e : decide (∀ i, i < n → f i = f i) = true := by simp
  rw [e] at h
  exact h
theorem great_no {n : Nat} (h : decide (60 < n ∧ n ≤ 400 ∨ 420 < n) = false) : n ≤ 420 := by
  simp at h
  omega
end Go.Proofs.YtbafhdinalapoaaDoor.L2
