/- What the walks of this seat say of a grid's cells in memory, and small laws on it. -/
import Derived.Test.YtjbofdgdcnfmoaaProg
import Derived.WalkKit
import Derived.Below
import Derived.Lib.Hide
import Derived.Outline
import Derived.WalkSpells
import Derived.Deep.OwnRows
import Derived.Deep.Draws
namespace Go.Proofs.Ytjbofdgdcnfmoaa
open Go.RowKit
set_option maxRecDepth 100000
set_option linter.unusedVariables false
set_option linter.unusedSimpArgs false

/-- The slice at 'A' of 'n' elements holds the cells 'f 0', 'f 1', .., in a block below B. -/
def Holds (w : World) (B : Nat) (A : Option Addr) (n : Nat) (f : Nat → Bool) : Prop :=
  0 < n → ∃ b o, A = some ⟨b, o, none⟩ ∧ b < B ∧ ∀ i, i < n → w.cell? ⟨b, o + i, none⟩ = some (.bool (f i))

section
variable {w w' : World} {B B' n g : Nat} {A : Option Addr} {f : Nat → Bool}
theorem Holds.below (h : Holds w B A n f) (hb : Below B w w') : Holds w' B A n f := fun hn => by
  obtain ⟨b, o, e, hlt, hc⟩ := h hn
  exact ⟨b, o, e, hlt, fun i hi => (hb.cell (p := ⟨b, o + i, none⟩) hlt).trans (hc i hi)⟩
theorem Holds.more (h : Holds w B A n f) (hB : B ≤ B') : Holds w B' A n f := fun hn => by
  obtain ⟨b, o, e, hlt, hc⟩ := h hn
  exact ⟨b, o, e, by omega, hc⟩
theorem Holds.none_ : Holds w B A 0 f := fun h => absurd h (by omega)

/-- The block g is a row of n cells of the call's own: 'f 0', 'f 1', .. -/
def Row (w : World) (g n : Nat) (f : Nat → Bool) : Prop :=
  ∃ cs : Array Value, w.heap[g]? = some (.cells cs 4 (0, 0)) ∧ n ≤ cs.size ∧ ∀ i, i < n → cs[i]? = some (.bool (f i))

theorem Row.lt (h : Row w g n f) : g < w.heap.size := by
  obtain ⟨cs, hg, _⟩ := h
  rcases Nat.lt_or_ge g w.heap.size with hlt | hge
  · exact hlt
  · rw [Array.getElem?_eq_none hge] at hg; cases hg
theorem Row.cell (h : Row w g n f) {i : Nat} (hi : i < n) : w.cell? ⟨g, i, none⟩ = some (.bool (f i)) := by
  obtain ⟨cs, hg, _, hc⟩ := h
  simp [World.cell?, hg, hc i hi]
theorem Row.free (h : Row w g n f) (i : Nat) : w.frozen? ⟨g, i, none⟩ = false := by
  obtain ⟨cs, hg, _⟩ := h
  simp [World.frozen?, hg]
theorem Row.holds (h : Row w g n f) (hB : g < B) : Holds w B (some ⟨g, 0, none⟩) n f := fun _ =>
  ⟨g, 0, rfl, hB, fun i hi => by rw [Nat.zero_add]; exact h.cell hi⟩
theorem Row.below (h : Row w g n f) (hb : Below B w w') (hg : g < B) : Row w' g n f := by
  obtain ⟨cs, h1, h2⟩ := h
  exact ⟨cs, (hb.block g hg).trans h1, h2⟩
theorem Row.alloc (h : Row w g n f) (o : Obj) : Row (w.alloc o) g n f := by
  have hl := h.lt
  obtain ⟨cs, h1, h2⟩ := h
  exact ⟨cs, (Below.heap_alloc w o g hl).trans h1, h2⟩
theorem Row.drew (h : Row w g n f) : Row w.drew g n f := h
theorem Row.drewN (h : Row w g n f) (k : Nat) : Row (w.drewN k) g n f := h
theorem Row.far (h : Row w g n f) {p : Addr} (hp : g ≠ p.block) (u : Value) : Row (w.setCell p u) g n f := by
  obtain ⟨cs, h1, h2⟩ := h
  exact ⟨cs, (Below.heap_setCell w p u g hp).trans h1, h2⟩
theorem Row.set_ (h : Row w g n f) (i : Nat) (v : Bool) : Row (w.setCell ⟨g, i, none⟩ (.bool v)) g n (fun j => if j = i then v else f j) := by
  obtain ⟨cs, h1, h2, h3⟩ := h
  refine ⟨cs.setIfInBounds i (.bool v), by simp [World.setCell, Array.getElem?_modify, h1], by simpa using h2, fun j hj => ?_⟩
  rw [Array.getElem?_setIfInBounds]
  by_cases e : i = j
  · subst e; simp; omega
  · have e' : ¬ j = i := fun h => e h.symm
    simp [e, e', h3 j hj]
theorem Row.congr {f' : Nat → Bool} (h : Row w g n f) (e : ∀ i, i < n → f i = f' i) : Row w g n f' := by
  obtain ⟨cs, h1, h2, h3⟩ := h
  exact ⟨cs, h1, h2, fun i hi => by rw [h3 i hi, e i hi]⟩
end

/-- The block g is a variable of the grid type: its sides and its slice. -/
def Box (w : World) (g : Nat) (W H : Int) (v : Value) : Prop := w.heap[g]? = some (.cells #[.int .i64 W, .int .i64 H, v] 24 (0, 0))
section
variable {w w' : World} {B g : Nat} {W H : Int} {v : Value}
theorem Box.lt (h : Box w g W H v) : g < w.heap.size := by
  rcases Nat.lt_or_ge g w.heap.size with hlt | hge
  · exact hlt
  · unfold Box at h; rw [Array.getElem?_eq_none hge] at h; cases h
theorem Box.c0 (h : Box w g W H v) : w.cell? ⟨g, 0, none⟩ = some (.int .i64 W) := by unfold Box at h; simp [World.cell?, h]
theorem Box.c1 (h : Box w g W H v) : w.cell? ⟨g, 1, none⟩ = some (.int .i64 H) := by unfold Box at h; simp [World.cell?, h]
theorem Box.c2 (h : Box w g W H v) : w.cell? ⟨g, 2, none⟩ = some v := by unfold Box at h; simp [World.cell?, h]
theorem Box.free (h : Box w g W H v) (i : Nat) : w.frozen? ⟨g, i, none⟩ = false := by unfold Box at h; simp [World.frozen?, h]
theorem Box.below (h : Box w g W H v) (hb : Below B w w') (hg : g < B) : Box w' g W H v := (hb.block g hg).trans h
theorem Box.alloc (h : Box w g W H v) (o : Obj) : Box (w.alloc o) g W H v := (Below.heap_alloc w o g h.lt).trans h
theorem Box.drew (h : Box w g W H v) : Box w.drew g W H v := h
theorem Box.far (h : Box w g W H v) {p : Addr} (hp : g ≠ p.block) (u : Value) : Box (w.setCell p u) g W H v := (Below.heap_setCell w p u g hp).trans h
theorem Box.new (w : World) (W H : Int) (v : Value) : Box (w.alloc (.cells #[.int .i64 W, .int .i64 H, v] 24)) w.heap.size W H v := by
  show (w.heap.push _)[w.heap.size]? = _
  rw [Array.getElem?_push, if_pos rfl]
/-- All that a walk asks of a variable of the grid type. -/
theorem Box.all (h : Box w g W H v) : w.cell? ⟨g, 0, none⟩ = some (.int .i64 W) ∧ w.cell? ⟨g, 1, none⟩ = some (.int .i64 H) ∧ w.cell? ⟨g, 2, none⟩ = some v ∧ w.frozen? ⟨g, 0, none⟩ = false ∧ w.frozen? ⟨g, 1, none⟩ = false ∧ w.frozen? ⟨g, 2, none⟩ = false ∧ g < w.heap.size :=
  ⟨h.c0, h.c1, h.c2, h.free 0, h.free 1, h.free 2, h.lt⟩
end

theorem bcell {W w1 : World} {B : Nat} (hb : Below B W w1) : (∀ b o, b < B → w1.cell? ⟨b, o, none⟩ = W.cell? ⟨b, o, none⟩) ∧ (∀ b o, b < B → w1.frozen? ⟨b, o, none⟩ = W.frozen? ⟨b, o, none⟩) :=
  ⟨fun b o h => hb.cell (p := ⟨b, o, none⟩) h, fun b o h => hb.frozen (p := ⟨b, o, none⟩) h⟩

theorem mul_bd {W y : Int} (hW0 : 0 ≤ W) (hW : W ≤ 64) (hy0 : 0 ≤ y) (hy : y < 64) : 0 ≤ y * W ∧ y * W ≤ 4032 := by
  refine ⟨Int.mul_nonneg hy0 hW0, ?_⟩
  have := Int.mul_le_mul (show y ≤ 63 by omega) hW hW0 (by omega); simpa using this

theorem ret_bool {a b : Bool} (h : a = b) : Ending.returned (.bool a) = .returned (.bool b) := by rw [h]

set_option maxHeartbeats 400000 in
theorem cell_any (W H : Int) (A : Option Addr) (n c : Nat) (x y : Int) (f : Nat → Bool) (B : Nat) (w : World) (hr : Holds w B A n f) (hB : B ≤ w.heap.size) (hm : n ≤ 5000)
    (hW0 : 0 ≤ W) (hW : W ≤ 64) (hx0 : 0 ≤ x) (hx : x < 64) (hy0 : 0 ≤ y) (hy : y < 64) (hi : (y * W + x).toNat < n) :
    Calls Try.prog 88 #[.agg #[.int .i64 W, .int .i64 H, .slice A n c], .int .i64 x, .int .i64 y] w fun e w' => e = .returned (.bool (f (y * W + x).toNat)) ∧ Below w.heap.size w w' := by
  obtain ⟨b, o, rfl, hlt, hc⟩ := hr (by omega)
  obtain ⟨h1, h2⟩ := mul_bd hW0 hW hy0 hy
  have hc0 := hc _ hi
  have h3 : y * W + x < (n : Int) := by omega
  clear hc
  have hbw : b < w.heap.size := by omega
  go_enter Try.func88, Try.ntmps88
  go_wp2
  go_ret
  exact ⟨rfl, (Below.refl _ _).alloc (Nat.le_refl _) _⟩

set_option maxHeartbeats 400000 in
theorem at_any (W H : Int) (A : Option Addr) (n c : Nat) (x y : Int) (f : Nat → Bool) (B : Nat) (w : World) (hr : Holds w B A n f) (hB : B ≤ w.heap.size) (hm : n ≤ 5000)
    (hW0 : 0 ≤ W) (hW : W ≤ 64) (hx0 : 0 ≤ x) (hx : x < 64) (hy0 : 0 ≤ y) (hy : y < 64) (hi : (y * W + x).toNat < n) :
    Calls Try.prog 116 #[.agg #[.int .i64 W, .int .i64 H, .slice A n c], .int .i64 x, .int .i64 y] w fun e w' => e = .returned (.bool (f (y * W + x).toNat)) ∧ Below w.heap.size w w' := by
  obtain ⟨b, o, rfl, hlt, hc⟩ := hr (by omega)
  obtain ⟨h1, h2⟩ := mul_bd hW0 hW hy0 hy
  have hc0 := hc _ hi
  have h3 : y * W + x < (n : Int) := by omega
  clear hc
  have hbw : b < w.heap.size := by omega
  go_enter Try.func116, Try.ntmps116
  go_wp2
  go_ret
  exact ⟨rfl, (Below.refl _ _).alloc (Nat.le_refl _) _⟩
end Go.Proofs.Ytjbofdgdcnfmoaa
