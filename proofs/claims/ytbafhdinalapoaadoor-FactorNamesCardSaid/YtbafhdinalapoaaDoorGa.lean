/- Grids: what the walks say of their cells; the program's and the reference's contracts of layer 1 that this seat calls. -/
import Derived.Test.YtbafhdinalapoaaDoorProg
import Derived.WalkKit
import Derived.Below
import Derived.Lib.Hide
import Derived.Outline
import Derived.WalkSpells
import Derived.Deep.OwnRows
import Derived.Deep.Draws
import Derived.BigQuiet
import Derived.Shelf.GgClosure.Gives
import Derived.Lib.SmallJoins
import Derived.Deep.Grids
import Derived.Deep.RegionHeld3
import Derived.StillTailTactics
import Derived.Deep.QuietTactic
import Derived.Deep.RegionLawGrows
import Derived.Deep.AppendLies

/- What the walks of this seat say of a grid's cells in memory, and small laws on it. -/
namespace Go.Proofs.YtbafhdinalapoaaDoor
open Go.RowKit
set_option linter.unusedVariables false
set_option linter.unusedSimpArgs false

/-- The slice at 'A' of 'n' elements holds the cells 'f 0', 'f 1', .., in a block below B. -/
def Holds (w : World) (B : Nat) (A : Option Addr) (n : Nat) (f : Nat → Bool) : Prop :=
  0 < n → ∃ b o, A = some ⟨b, o, none⟩ ∧ b < B ∧ ∀ i, i < n → w.cell? ⟨b, o + i, none⟩ = some (.bool (f i))

section
variable {w w' : World} {B B' n g : Nat} {A : Option Addr} {f : Nat → Bool}
theorem Holds.below (h : Holds w B A n f) (hb : Below B w w') : Holds w' B A n f := fun hn => by
  obtain ⟨b, o, e, hlt, hc⟩ := h hn
  exact ⟨b, o, e, hlt, fun i hi => (hb.cell (p := ⟨b, o + i, none⟩) hlt).trans (hc i hi)⟩
theorem Holds.more (h : Holds w B A n f) (hB : B ≤ B') : Holds w B' A n f := fun hn => by
  obtain ⟨b, o, e, hlt, hc⟩ := h hn
  exact ⟨b, o, e, by omega, hc⟩
theorem Holds.none_ : Holds w B A 0 f := fun h => absurd h (by omega)

/-- The block g is a row of n cells of the call's own: 'f 0', 'f 1', .. -/
def Row (w : World) (g n : Nat) (f : Nat → Bool) : Prop :=
  ∃ cs : Array Value, w.heap[g]? = some (.cells cs 4 (0, 0)) ∧ n ≤ cs.size ∧ ∀ i, i < n → cs[i]? = some (.bool (f i))

theorem Row.lt (h : Row w g n f) : g < w.heap.size := by
  obtain ⟨cs, hg, _⟩ := h
  rcases Nat.lt_or_ge g w.heap.size with hlt | hge
  · exact hlt
  · rw [Array.getElem?_eq_none hge] at hg; cases hg
theorem Row.cell (h : Row w g n f) {i : Nat} (hi : i < n) : w.cell? ⟨g, i, none⟩ = some (.bool (f i)) := by
  obtain ⟨cs, hg, _, hc⟩ := h
  simp [World.cell?, hg, hc i hi]
theorem Row.free (h : Row w g n f) (i : Nat) : w.frozen? ⟨g, i, none⟩ = false := by
  obtain ⟨cs, hg, _⟩ := h
  simp [World.frozen?, hg]
theorem Row.holds (h : Row w g n f) (hB : g < B) : Holds w B (some ⟨g, 0, none⟩) n f := fun _ =>
  ⟨g, 0, rfl, hB, fun i hi => by rw [Nat.zero_add]; exact h.cell hi⟩
theorem Row.below (h : Row w g n f) (hb : Below B w w') (hg : g < B) : Row w' g n f := by
  obtain ⟨cs, h1, h2⟩ := h
  exact ⟨cs, (hb.block g hg).trans h1, h2⟩
theorem Row.alloc (h : Row w g n f) (o : Obj) : Row (w.alloc o) g n f := by
  have hl := h.lt
  obtain ⟨cs, h1, h2⟩ := h
  exact ⟨cs, (Below.heap_alloc w o g hl).trans h1, h2⟩
theorem Row.drew (h : Row w g n f) : Row w.drew g n f := h
theorem Row.drewN (h : Row w g n f) (k : Nat) : Row (w.drewN k) g n f := h
theorem Row.far (h : Row w g n f) {p : Addr} (hp : g ≠ p.block) (u : Value) : Row (w.setCell p u) g n f := by
  obtain ⟨cs, h1, h2⟩ := h
  exact ⟨cs, (Below.heap_setCell w p u g hp).trans h1, h2⟩
theorem Row.set_ (h : Row w g n f) (i : Nat) (v : Bool) : Row (w.setCell ⟨g, i, none⟩ (.bool v)) g n (fun j => if j = i then v else f j) := by
  obtain ⟨cs, h1, h2, h3⟩ := h
  refine ⟨cs.setIfInBounds i (.bool v), by simp [World.setCell, Array.getElem?_modify, h1], by simpa using h2, fun j hj => ?_⟩
  rw [Array.getElem?_setIfInBounds]
  by_cases e : i = j
  · subst e; simp; omega
  · have e' : ¬ j = i := fun h => e h.symm
    simp [e, e', h3 j hj]
theorem Row.congr {f' : Nat → Bool} (h : Row w g n f) (e : ∀ i, i < n → f i = f' i) : Row w g n f' := by
  obtain ⟨cs, h1, h2, h3⟩ := h
  exact ⟨cs, h1, h2, fun i hi => by rw [h3 i hi, e i hi]⟩
end

/-- The block g is a variable of the grid type: its sides and its slice. -/
def Box (w : World) (g : Nat) (W H : Int) (v : Value) : Prop := w.heap[g]? = some (.cells #[.int .i64 W, .int .i64 H, v] 25 (0, 0))
section
variable {w w' : World} {B g : Nat} {W H : Int} {v : Value}
theorem Box.lt (h : Box w g W H v) : g < w.heap.size := by
  rcases Nat.lt_or_ge g w.heap.size with hlt | hge
  · exact hlt
  · unfold Box at h; rw [Array.getElem?_eq_none hge] at h; cases h
theorem Box.c0 (h : Box w g W H v) : w.cell? ⟨g, 0, none⟩ = some (.int .i64 W) := by unfold Box at h; simp [World.cell?, h]
theorem Box.c1 (h : Box w g W H v) : w.cell? ⟨g, 1, none⟩ = some (.int .i64 H) := by unfold Box at h; simp [World.cell?, h]
theorem Box.c2 (h : Box w g W H v) : w.cell? ⟨g, 2, none⟩ = some v := by unfold Box at h; simp [World.cell?, h]
theorem Box.free (h : Box w g W H v) (i : Nat) : w.frozen? ⟨g, i, none⟩ = false := by unfold Box at h; simp [World.frozen?, h]
theorem Box.below (h : Box w g W H v) (hb : Below B w w') (hg : g < B) : Box w' g W H v := (hb.block g hg).trans h
theorem Box.alloc (h : Box w g W H v) (o : Obj) : Box (w.alloc o) g W H v := (Below.heap_alloc w o g h.lt).trans h
theorem Box.drew (h : Box w g W H v) : Box w.drew g W H v := h
theorem Box.far (h : Box w g W H v) {p : Addr} (hp : g ≠ p.block) (u : Value) : Box (w.setCell p u) g W H v := (Below.heap_setCell w p u g hp).trans h
theorem Box.new (w : World) (W H : Int) (v : Value) : Box (w.alloc (.cells #[.int .i64 W, .int .i64 H, v] 25)) w.heap.size W H v := by
  show (w.heap.push _)[w.heap.size]? = _
  rw [Array.getElem?_push, if_pos rfl]
/-- All that a walk asks of a variable of the grid type. -/
theorem Box.all (h : Box w g W H v) : w.cell? ⟨g, 0, none⟩ = some (.int .i64 W) ∧ w.cell? ⟨g, 1, none⟩ = some (.int .i64 H) ∧ w.cell? ⟨g, 2, none⟩ = some v ∧ w.frozen? ⟨g, 0, none⟩ = false ∧ w.frozen? ⟨g, 1, none⟩ = false ∧ w.frozen? ⟨g, 2, none⟩ = false ∧ g < w.heap.size :=
  ⟨h.c0, h.c1, h.c2, h.free 0, h.free 1, h.free 2, h.lt⟩
end

theorem bcell {W w1 : World} {B : Nat} (hb : Below B W w1) : (∀ b o, b < B → w1.cell? ⟨b, o, none⟩ = W.cell? ⟨b, o, none⟩) ∧ (∀ b o, b < B → w1.frozen? ⟨b, o, none⟩ = W.frozen? ⟨b, o, none⟩) :=
  ⟨fun b o h => hb.cell (p := ⟨b, o, none⟩) h, fun b o h => hb.frozen (p := ⟨b, o, none⟩) h⟩

theorem mul_bd {W y : Int} (hW0 : 0 ≤ W) (hW : W ≤ 64) (hy0 : 0 ≤ y) (hy : y < 64) : 0 ≤ y * W ∧ y * W ≤ 4032 := by
  refine ⟨Int.mul_nonneg hy0 hW0, ?_⟩
  have := Int.mul_le_mul (show y ≤ 63 by omega) hW hW0 (by omega); simpa using this

theorem ret_bool {a b : Bool} (h : a = b) : Ending.returned (.bool a) = .returned (.bool b) := by rw [h]

set_option maxHeartbeats 400000 in
theorem cell_any (W H : Int) (A : Option Addr) (n c : Nat) (x y : Int) (f : Nat → Bool) (B : Nat) (w : World) (hr : Holds w B A n f) (hB : B ≤ w.heap.size) (hm : n ≤ 5000)
    (hW0 : 0 ≤ W) (hW : W ≤ 64) (hx0 : 0 ≤ x) (hx : x < 64) (hy0 : 0 ≤ y) (hy : y < 64) (hi : (y * W + x).toNat < n) :
    Calls Tryd.prog 60 #[.agg #[.int .i64 W, .int .i64 H, .slice A n c], .int .i64 x, .int .i64 y] w fun e w' => e = .returned (.bool (f (y * W + x).toNat)) ∧ Below w.heap.size w w' := by
  obtain ⟨b, o, rfl, hlt, hc⟩ := hr (by omega)
  obtain ⟨h1, h2⟩ := mul_bd hW0 hW hy0 hy
  have hc0 := hc _ hi
  have h3 : y * W + x < (n : Int) := by omega
  clear hc
  have hbw : b < w.heap.size := by omega
  go_enter Tryd.func60, Tryd.ntmps60
  go_wp2
  go_ret
  exact ⟨rfl, (Below.refl _ _).alloc (Nat.le_refl _) _⟩

set_option maxHeartbeats 400000 in
theorem at_any (W H : Int) (A : Option Addr) (n c : Nat) (x y : Int) (f : Nat → Bool) (B : Nat) (w : World) (hr : Holds w B A n f) (hB : B ≤ w.heap.size) (hm : n ≤ 5000)
    (hW0 : 0 ≤ W) (hW : W ≤ 64) (hx0 : 0 ≤ x) (hx : x < 64) (hy0 : 0 ≤ y) (hy : y < 64) (hi : (y * W + x).toNat < n) :
    Calls Tryd.prog 50 #[.agg #[.int .i64 W, .int .i64 H, .slice A n c], .int .i64 x, .int .i64 y] w fun e w' => e = .returned (.bool (f (y * W + x).toNat)) ∧ Below w.heap.size w w' := by
  obtain ⟨b, o, rfl, hlt, hc⟩ := hr (by omega)
  obtain ⟨h1, h2⟩ := mul_bd hW0 hW hy0 hy
  have hc0 := hc _ hi
  have h3 : y * W + x < (n : Int) := by omega
  clear hc
  have hbw : b < w.heap.size := by omega
  go_enter Tryd.func50, Tryd.ntmps50
  go_wp2
  go_ret
  exact ⟨rfl, (Below.refl _ _).alloc (Nat.le_refl _) _⟩
end Go.Proofs.YtbafhdinalapoaaDoor

/- A region that draws its order, whose callees leave the old memory as it was: one walk in the text's order. -/
namespace Go.Proofs.YtbafhdinalapoaaDoor
open Go.RowKit
set_option linter.unusedVariables false
set_option linter.unusedSimpArgs false

theorem wp_region_fam {P : Program} {I : Type} (Wf : I → World) (i0 : I) {id : Nat} {Q : Exit → Act → World → Prop} {a : Act} {w : World} {l : List Oper} (h0 : Wf i0 = { w with drawn := w.drawn + 1 })
    (hm : P.follows .mixedOrders = true) (hB : Region.lexB .any l.toArray = true)
    (h : wpQuiet P l.toArray (fun w' => ∃ n, w' = Wf n) (fun a' => ∀ w', (∃ n, w' = Wf n) → Q .normal a' w') l a) : (Code.region id l.toArray true).wp P Q a w :=
  wp_region_quiet (C := fun w' => ∃ n, w' = Wf n) hm hB ⟨i0, h0.symm⟩ (by simpa using h)

/-- All the worlds in which nothing below the size of v0 has turned. -/
theorem family (v0 : World) : ∃ (I : Type) (Wf : I → World) (i0 : I), Wf i0 = { v0 with drawn := v0.drawn + 1 } ∧ (∀ n, Below v0.heap.size v0 (Wf n)) ∧
    (∀ n w', Below (Wf n).heap.size (Wf n) w' → ∃ m, w' = Wf m) :=
  ⟨{w' // Below v0.heap.size v0 w'}, Subtype.val, ⟨_, (Below.refl _ _).drew⟩, rfl, fun n => n.2, fun n w' h => ⟨⟨w', n.2.trans (h.mono n.2.size)⟩, rfl⟩⟩
end Go.Proofs.YtbafhdinalapoaaDoor

/- The checks of a grid, by the program and by the reference, and the guard on its number of cells. -/
namespace Go.Proofs.YtbafhdinalapoaaDoor
open Go.RowKit
set_option linter.unusedVariables false
set_option linter.unusedSimpArgs false

/-- What Check answers for sides W, H and n cells. -/
def chk (W H : Int) (n : Nat) : Int := if 64 < W ∨ 64 < H then 4 else if W < 1 ∨ H < 1 ∨ (n : Int) ≠ W * H then 8 else 0

theorem mul_pos_bd {W H : Int} (hW0 : 1 ≤ W) (hW : W ≤ 64) (hH0 : 1 ≤ H) (hH : H ≤ 64) : 1 ≤ W * H ∧ W * H ≤ 4096 := by
  have h1 : 1 * 1 ≤ W * H := Int.mul_le_mul hW0 hH0 (by omega) (by omega)
  have h2 : W * H ≤ 64 * 64 := Int.mul_le_mul hW hH (by omega) (by omega)
  omega

theorem chk_bd (W H : Int) (n : Nat) : 0 ≤ chk W H n ∧ chk W H n ≤ 8 := by unfold chk; split <;> (try split) <;> omega
theorem chk_ok {W H : Int} {n : Nat} (h : chk W H n = 0) : 1 ≤ W ∧ W ≤ 64 ∧ 1 ≤ H ∧ H ≤ 64 ∧ (n : Int) = W * H := by
  unfold chk at h
  split at h
  · omega
  · split at h
    · omega
    · rename_i h1 h2
      refine ⟨by omega, by omega, by omega, by omega, ?_⟩
      by_cases e : (n : Int) = W * H
      · exact e
      · exact absurd (Or.inr (Or.inr e)) h2

theorem ret_i64 {a b : Int} (h : a = b) : Ending.returned (.int .i64 a) = .returned (.int .i64 b) := by rw [h]

set_option maxHeartbeats 400000 in
theorem chk_any (W H : Int) (A : Option Addr) (n c : Nat) (w : World) (hn : n ≤ 4200) :
    Calls Tryd.prog 57 #[.agg #[.int .i64 W, .int .i64 H, .slice A n c]] w fun e w' => e = .returned (.int .i64 (chk W H n)) ∧ Below w.heap.size w w' := by
  by_cases h1 : 64 < W
  · have hr : chk W H n = 4 := by unfold chk; rw [if_pos (.inl h1)]
    have Hr := Lib.hid hr
    clear hr
    go_enter Tryd.func57, Tryd.ntmps57
    go_wp2
    go_ret
    exact ⟨ret_i64 Hr.out.symm, (Below.refl _ _).alloc (Nat.le_refl _) _⟩
  by_cases h2 : 64 < H
  · have hr : chk W H n = 4 := by unfold chk; rw [if_pos (.inr h2)]
    have Hr := Lib.hid hr
    clear hr
    go_enter Tryd.func57, Tryd.ntmps57
    go_wp2
    go_ret
    exact ⟨ret_i64 Hr.out.symm, (Below.refl _ _).alloc (Nat.le_refl _) _⟩
  by_cases h3 : W < 1
  · have hr : chk W H n = 8 := by unfold chk; rw [if_neg (by omega), if_pos (.inl h3)]
    have Hr := Lib.hid hr
    clear hr
    go_enter Tryd.func57, Tryd.ntmps57
    go_wp2
    go_ret
    exact ⟨ret_i64 Hr.out.symm, (Below.refl _ _).alloc (Nat.le_refl _) _⟩
  by_cases h4 : H < 1
  · have hr : chk W H n = 8 := by unfold chk; rw [if_neg (by omega), if_pos (.inr (.inl h4))]
    have Hr := Lib.hid hr
    clear hr
    go_enter Tryd.func57, Tryd.ntmps57
    go_wp2
    go_ret
    exact ⟨ret_i64 Hr.out.symm, (Below.refl _ _).alloc (Nat.le_refl _) _⟩
  obtain ⟨m1, m2⟩ := mul_pos_bd (W := W) (H := H) (by omega) (by omega) (by omega) (by omega)
  by_cases h5 : (n : Int) = W * H
  · have hr : chk W H n = 0 := by unfold chk; rw [if_neg (by omega), if_neg]; rintro (h | h | h) <;> first | omega | exact h h5
    have Hr := Lib.hid hr
    have h6 : ((n : Int) != W * H) = false := by simp [h5]
    clear hr h5
    go_enter Tryd.func57, Tryd.ntmps57
    go_wp2
    go_ret
    exact ⟨ret_i64 Hr.out.symm, (Below.refl _ _).alloc (Nat.le_refl _) _⟩
  · have hr : chk W H n = 8 := by unfold chk; rw [if_neg (by omega), if_pos (.inr (.inr h5))]
    have Hr := Lib.hid hr
    have h6 : ((n : Int) != W * H) = true := by simp [h5]
    clear hr h5
    go_enter Tryd.func57, Tryd.ntmps57
    go_wp2
    go_ret
    exact ⟨ret_i64 Hr.out.symm, (Below.refl _ _).alloc (Nat.le_refl _) _⟩

set_option maxHeartbeats 400000 in
theorem rchk_any (W H : Int) (A : Option Addr) (n c : Nat) (w : World) (hn : n ≤ 4200) :
    Calls Tryd.prog 28 #[.agg #[.int .i64 W, .int .i64 H, .slice A n c]] w fun e w' => e = .returned (.int .i64 (chk W H n)) ∧ Below w.heap.size w w' := by
  by_cases h1 : 64 < W
  · have hr : chk W H n = 4 := by unfold chk; rw [if_pos (.inl h1)]
    have Hr := Lib.hid hr
    clear hr
    go_enter Tryd.func28, Tryd.ntmps28
    go_wp2
    go_ret
    exact ⟨ret_i64 Hr.out.symm, (Below.refl _ _).alloc (Nat.le_refl _) _⟩
  by_cases h2 : 64 < H
  · have hr : chk W H n = 4 := by unfold chk; rw [if_pos (.inr h2)]
    have Hr := Lib.hid hr
    clear hr
    go_enter Tryd.func28, Tryd.ntmps28
    go_wp2
    go_ret
    exact ⟨ret_i64 Hr.out.symm, (Below.refl _ _).alloc (Nat.le_refl _) _⟩
  by_cases h3 : W < 1
  · have hr : chk W H n = 8 := by unfold chk; rw [if_neg (by omega), if_pos (.inl h3)]
    have Hr := Lib.hid hr
    clear hr
    go_enter Tryd.func28, Tryd.ntmps28
    go_wp2
    go_ret
    exact ⟨ret_i64 Hr.out.symm, (Below.refl _ _).alloc (Nat.le_refl _) _⟩
  by_cases h4 : H < 1
  · have hr : chk W H n = 8 := by unfold chk; rw [if_neg (by omega), if_pos (.inr (.inl h4))]
    have Hr := Lib.hid hr
    clear hr
    go_enter Tryd.func28, Tryd.ntmps28
    go_wp2
    go_ret
    exact ⟨ret_i64 Hr.out.symm, (Below.refl _ _).alloc (Nat.le_refl _) _⟩
  obtain ⟨m1, m2⟩ := mul_pos_bd (W := W) (H := H) (by omega) (by omega) (by omega) (by omega)
  by_cases h5 : (n : Int) = W * H
  · have hr : chk W H n = 0 := by unfold chk; rw [if_neg (by omega), if_neg]; rintro (h | h | h) <;> first | omega | exact h h5
    have Hr := Lib.hid hr
    have h6 : ((n : Int) != W * H) = false := by simp [h5]
    clear hr h5
    go_enter Tryd.func28, Tryd.ntmps28
    go_wp2
    go_ret
    exact ⟨ret_i64 Hr.out.symm, (Below.refl _ _).alloc (Nat.le_refl _) _⟩
  · have hr : chk W H n = 8 := by unfold chk; rw [if_neg (by omega), if_pos (.inr (.inr h5))]
    have Hr := Lib.hid hr
    have h6 : ((n : Int) != W * H) = true := by simp [h5]
    clear hr h5
    go_enter Tryd.func28, Tryd.ntmps28
    go_wp2
    go_ret
    exact ⟨ret_i64 Hr.out.symm, (Below.refl _ _).alloc (Nat.le_refl _) _⟩

set_option maxHeartbeats 400000 in
theorem great_no (W H : Int) (A : Option Addr) (n c : Nat) (w : World) (hn : n ≤ 4200) :
    Calls Tryd.prog 18 #[.agg #[.int .i64 W, .int .i64 H, .slice A n c]] w fun e w' => e = .returned (.bool false) ∧ Below w.heap.size w w' := by
  have h1 : decide (4200 < (n : Int)) = false := by simp; omega
  go_enter Tryd.func18, Tryd.ntmps18
  go_wp2
  go_ret
  exact ⟨ret_bool (by first | rfl | (simp; omega)), (Below.refl _ _).alloc (Nat.le_refl _) _⟩
set_option maxHeartbeats 400000 in
theorem great_yes (W H : Int) (A : Option Addr) (n c : Nat) (w : World) (hn : 4200 < n) :
    Calls Tryd.prog 18 #[.agg #[.int .i64 W, .int .i64 H, .slice A n c]] w fun e w' => e = .returned (.bool true) ∧ Below w.heap.size w w' := by
  go_enter Tryd.func18, Tryd.ntmps18
  go_wp2
  go_ret
  exact ⟨ret_bool (by simp; omega), (Below.refl _ _).alloc (Nat.le_refl _) _⟩
end Go.Proofs.YtbafhdinalapoaaDoor

/- The program's 'build': a new row of W * H cells, each the answer of the function value that is handed over. -/
namespace Go.Proofs.YtbafhdinalapoaaDoor
open Go.RowKit
set_option linter.unusedVariables false
set_option linter.unusedSimpArgs false

theorem Tryd.info4 : (Tryd.prog.info? 4).map (fun i => (i.zero, i.size, i.bytes)) = some (some (.bool false), 1, 1) := by kernel_rfl

theorem make_run (W H : Nat) (hN : W * H ≤ 4096) (w : World) :
    (Instr.makeSlice 23 (.int .i64 ((W : Int) * (H : Int))) (.int .i64 ((W : Int) * (H : Int)))).run Tryd.prog w = .ok (.slice (some ⟨w.heap.size, 0, none⟩) (W * H) (W * H)) (w.alloc (.cells (madeCells #[.bool false] (W * H)) 4)) := by
  have h := run_make_row' (P := Tryd.prog) 23 4 (.bool false) 1 Tryd.underlying23 Tryd.info4 rfl .i64 .i64 (W * H) (by omega) (by omega) w
  rw [Int.natCast_mul] at h
  exact h

theorem Row.made (w : World) (n : Nat) : Row (w.alloc (.cells (madeCells #[.bool false] n) 4)) w.heap.size n (fun _ => false) := by
  refine ⟨madeCells #[.bool false] n, ?_, Nat.le_of_eq (size_madeCells _ _).symm, fun i hi => ?_⟩
  · show (w.heap.push _)[w.heap.size]? = _
    rw [Array.getElem?_push, if_pos rfl]
  · simp [madeCells, hi, Nat.mod_one]

/-- What is asked of the function value that 'build' calls: at each place of the grid it answers 'F', and writes nothing that was there. -/
def Gives (g : Nat) (lb : Array Value) (w0 : World) (W H : Nat) (F : Nat → Nat → Bool) : Prop :=
  ∀ (w : World) (x y : Nat), Below w0.heap.size w0 w → x < W → y < H → Calls Tryd.prog g (#[.int .i64 x, .int .i64 y] ++ lb) w fun e w' => e = .returned (.bool (F x y)) ∧ Below w.heap.size w w'

/-- The cells that stand behind the first m of them have been written. -/
def part (W : Nat) (F : Nat → Nat → Bool) (m : Nat) : Nat → Bool := fun i => if i < m then F (i % W) (i / W) else false
theorem part_zero (W : Nat) (F : Nat → Nat → Bool) : part W F 0 = fun _ => false := by funext i; simp [part]
theorem part_succ {W : Nat} (F : Nat → Nat → Bool) (x y : Nat) (hx : x < W) : (fun j => if j = y * W + x then F x y else part W F (y * W + x) j) = part W F (y * W + x + 1) := by
  funext j
  unfold part
  by_cases e : j = y * W + x
  · subst e
    have h1 : (y * W + x) % W = x := by rw [Nat.mul_comm, Nat.mul_add_mod, Nat.mod_eq_of_lt hx]
    have h2 : (y * W + x) / W = y := by rw [Nat.mul_comm, Nat.mul_add_div (by omega), Nat.div_eq_of_lt hx]; omega
    simp [h1, h2]
  · rw [if_neg e]
    by_cases h : j < y * W + x
    · rw [if_pos h, if_pos (by omega)]
    · rw [if_neg h, if_neg (by omega)]

set_option maxHeartbeats 800000 in
theorem build_any (W H : Nat) (hW0 : 1 ≤ W) (hW : W ≤ 64) (hH0 : 1 ≤ H) (hH : H ≤ 64) (g : Nat) (lb : Array Value) (F : Nat → Nat → Bool) (w : World) (hG : Gives g lb w W H F)
    (eg : ∀ args w, (callFunc g args).run Tryd.prog w = .ok (.enter g args) w) :
    Calls Tryd.prog 58 #[.int .i64 W, .int .i64 H, .func (.func g) #[] lb] w fun e w' =>
      ∃ k, e = .returned (.agg #[.int .i64 W, .int .i64 H, .slice (some ⟨k, 0, none⟩) (W * H) (W * H)]) ∧ w.heap.size ≤ k ∧ Row w' k (W * H) (fun i => F (i % W) (i / W)) ∧ Below w.heap.size w w' := by
  have hN : W * H ≤ 4096 := Nat.mul_le_mul hW hH
  have hNi : (W : Int) * (H : Int) ≤ 4096 := by have := Int.ofNat_le.2 hN; simpa using this
  have hNi0 : 0 ≤ (W : Int) * (H : Int) := by have := Int.natCast_nonneg (W * H); simpa using this
  have hmk := make_run W H hN
  have HG := Lib.hid hG
  clear hG
  go_enter Tryd.func58, Tryd.ntmps58
  go_wp2
  go_loopw [15] (fun i wr => ∃ k : Nat, k ≤ H ∧ i = .int .i64 k ∧ Row wr (w.heap.size + 1) (W * H) (part W F (k * W)) ∧ Box wr w.heap.size 0 0 (.slice none 0 0) ∧ Below w.heap.size w wr) (fun i _ => H - (intOf i).toNat)
  case atStart =>
    refine ⟨0, Nat.zero_le _, rfl, ?_, (Box.new w 0 0 _).alloc _, (((Below.refl _ _).alloc (Nat.le_refl _) _).alloc (by simp) _)⟩
    rw [Nat.zero_mul, part_zero]
    have h := Row.made (w.alloc (Obj.cells #[Value.int IntKind.i64 0, Value.int IntKind.i64 0, Value.slice none 0 0] 25)) (W * H)
    simpa using h
  case round =>
    obtain ⟨k, hk, rfl, hrow, hbox, hbel⟩ := hrel
    obtain ⟨wo, rfl⟩ : ∃ wo : World, wo = wr := ⟨_, rfl⟩
    by_cases hlt : k < H
    · go_wp2
      go_loopw [19] (fun i wr => ∃ x : Nat, x ≤ W ∧ i = .int .i64 x ∧ Row wr (w.heap.size + 1) (W * H) (part W F (k * W + x)) ∧ Box wr w.heap.size 0 0 (.slice none 0 0) ∧ Below w.heap.size w wr) (fun i _ => W - (intOf i).toNat)
      case atStart => exact ⟨0, Nat.zero_le _, rfl, hrow, hbox, hbel⟩
      case round =>
        obtain ⟨x, hx, rfl, hrow2, hbox2, hbel2⟩ := hrel
        by_cases hltx : x < W
        · have b1 := mul_bd (W := (W : Int)) (y := (k : Int)) (by omega) (by omega) (by omega) (by omega)
          have b2 : k * W + x < W * H := by
            have h := Nat.mul_le_mul_right W (show k + 1 ≤ H by omega)
            rw [Nat.add_mul, Nat.one_mul, Nat.mul_comm H W] at h
            omega
          have b3 : (k : Int) * (W : Int) + (x : Int) < (W : Int) * (H : Int) := by have := Int.ofNat_lt.2 b2; simpa using this
          go_wp2_with (go_at_fn g; refine (HG.out _ x k hbel2 hltx hlt).mono ?_; rintro e w1 ⟨rfl, hb1⟩; have hrow3 := hrow2.below hb1 hrow2.lt; have hcl := hrow3.cell b2; have hfr := hrow3.free (k * W + x))
          go_roundw
          case rel => exact ⟨x + 1, by omega, by go_num, by have h := hrow3.set_ (k * W + x) (F x k); rw [part_succ F x k hltx] at h; exact h, (hbox2.below hb1 hbox2.lt).far (by simp) _, (hbel2.trans (hb1.mono hbel2.size)).setCell (by simp) _⟩
          case measure => simp [intOf]; omega
        · have e : x = W := by omega
          subst e
          go_wp2
          go_roundw
          case rel => exact ⟨k + 1, by omega, by go_num, by rw [Nat.add_mul, Nat.one_mul]; exact hrow2, hbox2, hbel2⟩
          case measure => simp [intOf]; omega
    · have e : k = H := by omega
      subst e
      obtain ⟨q0, q1, q2, q3, q4, q5, q6⟩ := hbox.all
      go_wp2
      refine bodyPost_ret (v := .agg #[.int .i64 W, .int .i64 k, .slice (some ⟨w.heap.size + 1, 0, none⟩) (W * k) (W * k)]) (by simp [results, Tryd.results58, go_sem, q0, q1, q2]) rfl ⟨_, rfl, by omega, ?_, ?_⟩
      · refine (((hrow.far (by simp) _).far (by simp) _).far (by simp) _).congr fun i hi => ?_
        unfold part
        rw [if_pos (by rw [Nat.mul_comm]; exact hi)]
      · exact ((hbel.setCell (by simp) _).setCell (by simp) _).setCell (by simp) _
end Go.Proofs.YtbafhdinalapoaaDoor

/- A parameter of the grid type, read as data, opened to its sides and its cells. -/
namespace Go.Proofs.YtbafhdinalapoaaDoor
open Go.ChangeShapes Go.WideShapes Go.RowKit Go.Deep Go.Joins
set_option linter.unusedVariables false
set_option linter.unusedSimpArgs false

theorem cells24 : Tryd.prog.cellsOf 25 = 3 := by kernel_rfl
theorem cells4 : Tryd.prog.cellsOf 4 = 1 := by kernel_rfl

set_option maxRecDepth 100000 in
theorem open_grid {H : Type} {enc : TypeId × Value → H} {w : World} {held : Bool} {r : Reach} {b0 : Nat} {v : Value} {d : DataW H} {p : List MemPlace}
    (hv : Value.okWide Tryd.prog w r b0 25 v) (h : DataW.Trod enc Tryd.prog w 0 (fun _ => true) held 25 v d p) :
    ∃ (W H : Int) (A : Option Addr) (n c : Nat) (f : Nat → Bool), v = .agg #[.int .i64 W, .int .i64 H, .slice A n c] ∧ (Lit.int .i64 W).wf = true ∧ (Lit.int .i64 H).wf = true ∧ Holds w w.heap.size A n f := by
  obtain ⟨v0, v1, v2, y0, y1, y2, n, rfl, _, _, h0, h1, h2⟩ := open_agg3 Tryd.underlying25 (by kernel_rfl) cells24 hv h
  obtain ⟨W, e0, _, w0⟩ := DataW.trod_int Tryd.underlying3 h0
  obtain ⟨H', e1, _, w1⟩ := DataW.trod_int Tryd.underlying3 h1
  simp at e0 e1
  subst e0 e1
  rcases open_bools Tryd.underlying23 Tryd.underlying4 cells4 h2 with ⟨e2, _⟩ | ⟨a, len, cap, B, e2, _, hl, _, _, hc⟩
  · simp at e2
    subst e2
    exact ⟨W, H', none, 0, 0, fun _ => false, rfl, w0, w1, Holds.none_⟩
  · simp at e2
    subst e2
    refine ⟨W, H', some a, len, cap, B, rfl, w0, w1, fun hn => ?_⟩
    have hc0 := hc 0 (by omega)
    obtain ⟨b, off, spot⟩ := a
    have hs : spot = none := by simpa [Addr.add] using World.cell?_spot hc0
    subst hs
    have e : ∀ i, Addr.add ⟨b, off, none⟩ i = ⟨b, off + i, none⟩ := fun i => by unfold Addr.add; by_cases h : i = 0 <;> simp [h]
    refine ⟨b, off, rfl, ?_, fun i hi => ?_⟩
    · rw [e] at hc0
      rcases Nat.lt_or_ge b w.heap.size with hb | hb
      · exact hb
      · simp [World.cell?, Array.getElem?_eq_none hb] at hc0
    · have := hc i (by omega)
      rwa [e] at this
end Go.Proofs.YtbafhdinalapoaaDoor

/- The function values that the program hands to 'build': what each one answers. -/
namespace Go.Proofs.YtbafhdinalapoaaDoor
open Go.RowKit
set_option linter.unusedVariables false
set_option linter.unusedSimpArgs false

theorem ix_bd {W H : Nat} {x y : Nat} (hx : x < W) (hy : y < H) : y * W + x < W * H := by
  have h := Nat.mul_le_mul_right W (show y + 1 ≤ H by omega)
  rw [Nat.add_mul, Nat.one_mul, Nat.mul_comm H W] at h
  omega

/-- A valid grid in a variable of its own: its box, its cells, its sides. -/
structure Grid (w : World) (gb : Nat) (W H : Nat) (A : Option Addr) (c : Nat) (f : Nat → Bool) : Prop where
  box : Box w gb W H (.slice A (W * H) c)
  cells : Holds w w.heap.size A (W * H) f
  w0 : 1 ≤ W
  w1 : W ≤ 64
  h0 : 1 ≤ H
  h1 : H ≤ 64

theorem Grid.below {w w' : World} {gb W H c : Nat} {A : Option Addr} {f : Nat → Bool} (h : Grid w gb W H A c f) (hb : Below w.heap.size w w') : Grid w' gb W H A c f :=
  ⟨h.box.below hb h.box.lt, (h.cells.below hb).more hb.size, h.w0, h.w1, h.h0, h.h1⟩

theorem cell_nat (W H : Nat) (A : Option Addr) (c : Nat) (x y : Int) (f : Nat → Bool) (w : World) (hr : Holds w w.heap.size A (W * H) f)
    (hW : W ≤ 64) (hH : H ≤ 64) (i j : Nat) (hx : x = i) (hy : y = j) (hi : i < W) (hj : j < H) :
    Calls Tryd.prog 60 #[.agg #[.int .i64 W, .int .i64 H, .slice A (W * H) c], .int .i64 x, .int .i64 y] w fun e w' => e = .returned (.bool (f (j * W + i))) ∧ Below w.heap.size w w' := by
  subst hx hy
  have h1 := ix_bd hi hj
  have h2 : W * H ≤ 4096 := Nat.mul_le_mul hW hH
  have e : ((j : Int) * (W : Int) + (i : Int)).toNat = j * W + i := by
    have : ((j : Int) * (W : Int) + (i : Int)) = ((j * W + i : Nat) : Int) := by simp
    rw [this, Int.toNat_natCast]
  have h := cell_any W H A (W * H) c i j f w.heap.size w hr (Nat.le_refl _) (by omega) (by omega) (by omega) (by omega) (by omega) (by omega) (by omega) (by rw [e]; exact h1)
  rw [e] at h
  exact h

set_option maxHeartbeats 400000 in
theorem turn_clo {w : World} {gb W H c : Nat} {A : Option Addr} {f : Nat → Bool} (h : Grid w gb W H A c f) :
    Gives 59 #[.pointer (some ⟨gb, 0, none⟩)] w H W (fun x y => f (x * W + y)) := by
  intro w1 x y hb hx hy
  have h1 := h.below hb
  obtain ⟨q0, q1, q2, q3, q4, q5, q6⟩ := h1.box.all
  obtain ⟨w0, w1', h0, h1'⟩ : 1 ≤ W ∧ W ≤ 64 ∧ 1 ≤ H ∧ H ≤ 64 := ⟨h.w0, h.w1, h.h0, h.h1⟩
  have HC := Lib.hid (cell_nat W H A c ((y : Int)) ((x : Int)) f w1 h1.cells h.w1 h.h1 (y) (x) (by omega) (by omega) (by omega) (by omega))
  go_enter Tryd.func59, Tryd.ntmps59
  go_wp2_with (go_at_call 60; refine HC.out.mono ?_; rintro e w2 ⟨rfl, hb2⟩)
  go_ret
  exact ⟨rfl, hb2⟩

/-- A captured number in a variable of its own. -/
def Num (w : World) (g : Nat) (v : Int) : Prop := w.cell? ⟨g, 0, none⟩ = some (.int .i64 v) ∧ g < w.heap.size
theorem Num.below {w w' : World} {g : Nat} {v : Int} (h : Num w g v) (hb : Below w.heap.size w w') : Num w' g v :=
  ⟨(hb.cell (p := ⟨g, 0, none⟩) h.2).trans h.1, Nat.lt_of_lt_of_le h.2 hb.size⟩

theorem mod_eq (v n : Int) (h0 : 1 ≤ n) : (v.tmod n + n) % n = v % n := by
  rw [Int.add_emod_right]
  rcases Int.le_total 0 v with h | h
  · rw [Int.tmod_eq_emod_of_nonneg h, Int.emod_emod]
  · have e : v.tmod n = v - n * v.tdiv n := by have := Int.mul_tdiv_add_tmod v n; omega
    rw [e, Int.sub_mul_emod_self_left]

end Go.Proofs.YtbafhdinalapoaaDoor

/- The function value that 'combine' hands to 'build', for 'and' and for 'or'. -/
namespace Go.Proofs.YtbafhdinalapoaaDoor
open Go.RowKit
set_option linter.unusedVariables false
set_option linter.unusedSimpArgs false

/-- A captured function value in a variable of its own. -/
def FnAt (w : World) (g k : Nat) : Prop := w.cell? ⟨g, 0, none⟩ = some (.func (.func k) #[] #[]) ∧ g < w.heap.size
theorem FnAt.below {w w' : World} {g k : Nat} (h : FnAt w g k) (hb : Below w.heap.size w w') : FnAt w' g k :=
  ⟨(hb.cell (p := ⟨g, 0, none⟩) h.2).trans h.1, Nat.lt_of_lt_of_le h.2 hb.size⟩

/-- What the region of 'combine''s function value reads. -/
theorem comb_keep {w w' : World} {ga gb go k W H c d : Nat} {A D : Option Addr} {f g : Nat → Bool} (ha : Grid w ga W H A c f) (hb : Grid w gb W H D d g) (ho : FnAt w go k) (h : Below w.heap.size w w') :
    w'.cell? ⟨go, 0, none⟩ = some (.func (.func k) #[] #[]) ∧ w'.cell? ⟨ga, 0, none⟩ = some (.int .i64 W) ∧ w'.cell? ⟨ga, 1, none⟩ = some (.int .i64 H) ∧ w'.cell? ⟨ga, 2, none⟩ = some (.slice A (W * H) c) ∧
    w'.cell? ⟨gb, 0, none⟩ = some (.int .i64 W) ∧ w'.cell? ⟨gb, 1, none⟩ = some (.int .i64 H) ∧ w'.cell? ⟨gb, 2, none⟩ = some (.slice D (W * H) d) :=
  ⟨(ho.below h).1, (ha.below h).box.c0, (ha.below h).box.c1, (ha.below h).box.c2, (hb.below h).box.c0, (hb.below h).box.c1, (hb.below h).box.c2⟩


end Go.Proofs.YtbafhdinalapoaaDoor

/- The program's operations on a grid: Not, Mirror, Turn, Tile, Part, Shift, And, Or. -/
namespace Go.Proofs.YtbafhdinalapoaaDoor
open Go.RowKit
set_option linter.unusedVariables false
set_option linter.unusedSimpArgs false

/-- A grid came back, in a new row, with no error. -/
def OkGrid (w : World) (W H : Nat) (F : Nat → Bool) (e : Ending) (w' : World) : Prop :=
  ∃ k, e = .returned (.tuple #[.agg #[.int .i64 W, .int .i64 H, .slice (some ⟨k, 0, none⟩) (W * H) (W * H)], .int .i64 0]) ∧ w.heap.size ≤ k ∧ Row w' k (W * H) F ∧ Below w.heap.size w w'
/-- The zero grid came back, with an error. -/
def ErrGrid (w : World) (err : Int) (e : Ending) (w' : World) : Prop :=
  e = .returned (.tuple #[.agg #[.int .i64 0, .int .i64 0, .slice none 0 0], .int .i64 err]) ∧ Below w.heap.size w w'

theorem chk_zero {W H : Nat} (hW0 : 1 ≤ W) (hW : W ≤ 64) (hH0 : 1 ≤ H) (hH : H ≤ 64) : chk W H (W * H) = 0 := by
  unfold chk
  rw [if_neg (by omega), if_neg]
  rintro (h | h | h)
  · omega
  · omega
  · exact h (by simp)

theorem chk_valid {W H : Nat} (A : Option Addr) (c : Nat) (w : World) (hW0 : 1 ≤ W) (hW : W ≤ 64) (hH0 : 1 ≤ H) (hH : H ≤ 64) :
    Calls Tryd.prog 57 #[.agg #[.int .i64 W, .int .i64 H, .slice A (W * H) c]] w fun e w' => e = .returned (.int .i64 0) ∧ Below w.heap.size w w' := by
  have h := chk_any W H A (W * H) c w (by have := Nat.mul_le_mul hW hH; omega)
  rw [chk_zero hW0 hW hH0 hH] at h
  exact h

theorem mk_fn : ∀ (fn : Fn) (first cap : Array Value) (w : World), (Instr.makeFunc fn first cap).run Tryd.prog w = .ok (.func fn first cap) w := fun _ _ _ _ => rfl

/-- A parameter's box and the result's box, behind the first call. -/
theorem after2 {w w1 : World} {W H : Int} {v : Value} (hb : Below ((w.alloc (.cells #[.int .i64 W, .int .i64 H, v] 25)).alloc (.cells #[.int .i64 0, .int .i64 0, .slice none 0 0] 25)).heap.size
      ((w.alloc (.cells #[.int .i64 W, .int .i64 H, v] 25)).alloc (.cells #[.int .i64 0, .int .i64 0, .slice none 0 0] 25)) w1) :
    Box w1 w.heap.size W H v ∧ Box w1 (w.heap.size + 1) 0 0 (.slice none 0 0) ∧ Below w.heap.size w w1 ∧ w.heap.size + 2 ≤ w1.heap.size := by
  have h1 := ((Box.new w W H v).alloc (.cells #[.int .i64 0, .int .i64 0, .slice none 0 0] 25)).below hb (by simp; omega)
  have h2 := (Box.new (w.alloc (.cells #[.int .i64 W, .int .i64 H, v] 25)) 0 0 (.slice none 0 0)).below hb (by simp)
  have h3 : Below w.heap.size w w1 := (((Below.refl _ _).alloc (Nat.le_refl _) _).alloc (by simp) _).trans (hb.mono (by simp; omega))
  have h4 := hb.size
  simp at h2 h4
  exact ⟨h1, h2, h3, by omega⟩

theorem fin_ok {w w2 : World} {W H k r : Nat} {F : Nat → Bool} {a b d : Value} (hr : w.heap.size ≤ r) (hk : r < k) (hrow : Row w2 k (W * H) F) (hb : Below w.heap.size w w2) :
    OkGrid w W H F (.returned (.tuple #[.agg #[.int .i64 W, .int .i64 H, .slice (some ⟨k, 0, none⟩) (W * H) (W * H)], .int .i64 0])) (((w2.setCell ⟨r, 0, none⟩ a).setCell ⟨r, 1, none⟩ b).setCell ⟨r, 2, none⟩ d) :=
  ⟨k, rfl, by omega, ((hrow.far (by simp; omega) _).far (by simp; omega) _).far (by simp; omega) _, ((hb.setCell hr _).setCell hr _).setCell hr _⟩

theorem fin_err {w w2 : World} {err : Int} {r : Nat} {a b d : Value} (hr : w.heap.size ≤ r) (hb : Below w.heap.size w w2) :
    ErrGrid w err (.returned (.tuple #[.agg #[.int .i64 0, .int .i64 0, .slice none 0 0], .int .i64 err])) (((w2.setCell ⟨r, 0, none⟩ a).setCell ⟨r, 1, none⟩ b).setCell ⟨r, 2, none⟩ d) :=
  ⟨rfl, ((hb.setCell hr _).setCell hr _).setCell hr _⟩
theorem chk_err {W H : Int} {A : Option Addr} {n c : Nat} {err : Int} (hn : n ≤ 4200) (hx : chk W H n = err) (w : World) :
    Calls Tryd.prog 57 #[.agg #[.int .i64 W, .int .i64 H, .slice A n c]] w fun e w' => e = .returned (.int .i64 err) ∧ Below w.heap.size w w' := by
  have h := chk_any W H A n c w hn
  rw [hx] at h
  exact h
theorem nat_div_mod (W i : Nat) : i / W * W + i % W = i := by rw [Nat.mul_comm, Nat.div_add_mod]


set_option maxHeartbeats 400000 in
theorem turn_err (W H : Int) (A : Option Addr) (n c : Nat) (w : World) (err : Int) (hn : n ≤ 4200) (hx : chk W H n = err) (hne : (err != 0) = true) :
    Calls Tryd.prog 32 #[.agg #[.int .i64 W, .int .i64 H, .slice A n c]] w (ErrGrid w err) := by
  have HC := Lib.hid (chk_err (A := A) (c := c) hn hx)
  clear hx
  go_enter Tryd.func32, Tryd.ntmps32
  go_wp2_with fail
  refine (HC.out _).mono ?_
  rintro e w1 ⟨rfl, hb1⟩
  obtain ⟨hbox1, hbox2, hbel1, hsz1⟩ := after2 hb1
  clear hb1
  obtain ⟨p0, p1, p2, p3, p4, p5, p6⟩ := hbox2.all
  go_wp2
  refine bodyPost_ret (v := .tuple #[.agg #[.int .i64 0, .int .i64 0, .slice none 0 0], .int .i64 err]) (by simp [results, Tryd.results32, go_sem, p0, p1, p2]) rfl ?_
  exact fin_err (by omega) hbel1

set_option maxHeartbeats 400000 in
theorem turn_ok (W H : Nat) (A : Option Addr) (c : Nat) (f : Nat → Bool) (w : World) (hr : Holds w w.heap.size A (W * H) f) (hW0 : 1 ≤ W) (hW : W ≤ 64) (hH0 : 1 ≤ H) (hH : H ≤ 64) :
    Calls Tryd.prog 32 #[.agg #[.int .i64 W, .int .i64 H, .slice A (W * H) c]] w (OkGrid w H W fun i => f (i % H * W + i / H)) := by
  have hmf := mk_fn
  have HR := Lib.hid hr
  clear hr
  go_enter Tryd.func32, Tryd.ntmps32
  go_wp2_with fail
  refine (chk_valid A c _ hW0 hW hH0 hH).mono ?_
  rintro e w1 ⟨rfl, hb1⟩
  obtain ⟨hbox1, hbox2, hbel1, hsz1⟩ := after2 hb1
  clear hb1
  obtain ⟨q0, q1, q2, q3, q4, q5, q6⟩ := hbox1.all
  go_wp2_with fail
  refine (build_any H W hH0 hH hW0 hW 59 _ _ _ (turn_clo ⟨hbox1, (HR.out.below hbel1).more hbel1.size, hW0, hW, hH0, hH⟩) (Go.Proofs.enters_of Tryd.func59 (by kernel_rfl) rfl)).mono ?_
  rintro e w2 ⟨k, rfl, hk, hrow, hb2⟩
  have hbox3 := hbox2.below hb2 (by omega)
  obtain ⟨p0, p1, p2, p3, p4, p5, p6⟩ := hbox3.all
  go_wp2
  refine bodyPost_ret (v := .tuple #[.agg #[.int .i64 H, .int .i64 W, .slice (some ⟨k, 0, none⟩) (H * W) (H * W)], .int .i64 0]) (by simp [results, Tryd.results32, go_sem, p0, p1, p2]) rfl ?_
  exact fin_ok (by omega) (by omega) (hrow.congr fun i hi => rfl) (hbel1.trans (hb2.mono hbel1.size))

end Go.Proofs.YtbafhdinalapoaaDoor

/- The program's Tile and Part. -/
namespace Go.Proofs.YtbafhdinalapoaaDoor
open Go.RowKit
set_option linter.unusedVariables false
set_option linter.unusedSimpArgs false

theorem build_int (Wi Hi : Int) (W H : Nat) (eW : Wi = W) (eH : Hi = H) (hW0 : 1 ≤ W) (hW : W ≤ 64) (hH0 : 1 ≤ H) (hH : H ≤ 64) (g : Nat) (lb : Array Value) (F : Nat → Nat → Bool) (w : World) (hG : Gives g lb w W H F)
    (eg : ∀ args w, (callFunc g args).run Tryd.prog w = .ok (.enter g args) w) :
    Calls Tryd.prog 58 #[.int .i64 Wi, .int .i64 Hi, .func (.func g) #[] lb] w fun e w' =>
      ∃ k, e = .returned (.agg #[.int .i64 W, .int .i64 H, .slice (some ⟨k, 0, none⟩) (W * H) (W * H)]) ∧ w.heap.size ≤ k ∧ Row w' k (W * H) (fun i => F (i % W) (i / W)) ∧ Below w.heap.size w w' := by
  subst eW eH
  exact build_any W H hW0 hW hH0 hH g lb F w hG eg

theorem quo_bd (W : Nat) (hW0 : 1 ≤ W) : (64 : Int).tdiv (W : Int) = (64 : Int) / (W : Int) ∧ 0 ≤ (64 : Int) / (W : Int) ∧ (64 : Int) / (W : Int) ≤ 64 := by
  have e : (64 : Int) / (W : Int) = ((64 / W : Nat) : Int) := by simp
  refine ⟨Int.tdiv_eq_ediv_of_nonneg (by omega), by rw [e]; exact Int.natCast_nonneg _, ?_⟩
  rw [e]
  exact Int.ofNat_le.2 (Nat.div_le_self 64 W)
theorem quo_le {W n : Nat} (hW0 : 1 ≤ W) : ¬ (64 : Int) / (W : Int) < (n : Int) ↔ n * W ≤ 64 := by
  have e : (64 : Int) / (W : Int) = ((64 / W : Nat) : Int) := by simp
  rw [e, Int.not_lt, Int.ofNat_le, Nat.le_div_iff_mul_le (by omega)]

theorem Num.new (w : World) (v : Int) : Num (w.alloc (.cells #[.int .i64 v] 3)) w.heap.size v := by
  refine ⟨?_, by simp⟩
  simp
/-- Part's parameters in boxes of their own, and the result's box, behind the first call. -/
theorem after4 {w w1 : World} {W H x y : Int} {v : Value} (hb : Below ((((w.alloc (.cells #[.int .i64 W, .int .i64 H, v] 25)).alloc (.cells #[.int .i64 x] 3)).alloc (.cells #[.int .i64 y] 3)).alloc (.cells #[.int .i64 0, .int .i64 0, .slice none 0 0] 25)).heap.size
      ((((w.alloc (.cells #[.int .i64 W, .int .i64 H, v] 25)).alloc (.cells #[.int .i64 x] 3)).alloc (.cells #[.int .i64 y] 3)).alloc (.cells #[.int .i64 0, .int .i64 0, .slice none 0 0] 25)) w1) :
    Box w1 w.heap.size W H v ∧ Num w1 (w.heap.size + 1) x ∧ Num w1 (w.heap.size + 2) y ∧ Box w1 (w.heap.size + 3) 0 0 (.slice none 0 0) ∧ Below w.heap.size w w1 ∧ w.heap.size + 4 ≤ w1.heap.size := by
  have h1 := ((((Box.new w W H v).alloc (.cells #[.int .i64 x] 3)).alloc (.cells #[.int .i64 y] 3)).alloc (.cells #[.int .i64 0, .int .i64 0, .slice none 0 0] 25)).below hb (by simp; omega)
  have h2 := (Box.new (((w.alloc (.cells #[.int .i64 W, .int .i64 H, v] 25)).alloc (.cells #[.int .i64 x] 3)).alloc (.cells #[.int .i64 y] 3)) 0 0 (.slice none 0 0)).below hb (by simp)
  have n1 := (((Num.new (w.alloc (.cells #[.int .i64 W, .int .i64 H, v] 25)) x).below ((Below.refl _ _).alloc (Nat.le_refl _) (.cells #[.int .i64 y] 3))).below ((Below.refl _ _).alloc (Nat.le_refl _) (.cells #[.int .i64 0, .int .i64 0, .slice none 0 0] 25))).below hb
  have n2 := ((Num.new ((w.alloc (.cells #[.int .i64 W, .int .i64 H, v] 25)).alloc (.cells #[.int .i64 x] 3)) y).below ((Below.refl _ _).alloc (Nat.le_refl _) (.cells #[.int .i64 0, .int .i64 0, .slice none 0 0] 25))).below hb
  have h3 : Below w.heap.size w w1 := (((((Below.refl _ _).alloc (Nat.le_refl _) _).alloc (by simp) _).alloc (by simp; omega) _).alloc (by simp; omega) _).trans (hb.mono (by simp; omega))
  have h4 := hb.size
  simp at h2 h4 n1 n2
  exact ⟨h1, n1, n2, h2, h3, by omega⟩

end Go.Proofs.YtbafhdinalapoaaDoor

/- Whether two grids are the same: by the reference. -/
namespace Go.Proofs.YtbafhdinalapoaaDoor
open Go.RowKit
set_option linter.unusedVariables false
set_option linter.unusedSimpArgs false

/-- The two grids that are compared: their boxes and their cells. -/
structure Two (w : World) (ga gb : Nat) (W H : Int) (A : Option Addr) (n c : Nat) (f : Nat → Bool) (X Y : Int) (D : Option Addr) (m d : Nat) (g : Nat → Bool) : Prop where
  boxa : Box w ga W H (.slice A n c)
  boxb : Box w gb X Y (.slice D m d)
  ca : Holds w w.heap.size A n f
  cb : Holds w w.heap.size D m g

theorem Two.below {w w' : World} {ga gb n c m d : Nat} {W H X Y : Int} {A D : Option Addr} {f g : Nat → Bool} (h : Two w ga gb W H A n c f X Y D m d g) (hb : Below w.heap.size w w') : Two w' ga gb W H A n c f X Y D m d g :=
  ⟨h.boxa.below hb h.boxa.lt, h.boxb.below hb h.boxb.lt, (h.ca.below hb).more hb.size, (h.cb.below hb).more hb.size⟩

theorem boxes2 (w : World) (W H X Y : Int) (v u : Value) :
    Box ((w.alloc (.cells #[.int .i64 W, .int .i64 H, v] 25)).alloc (.cells #[.int .i64 X, .int .i64 Y, u] 25)) w.heap.size W H v ∧
    Box ((w.alloc (.cells #[.int .i64 W, .int .i64 H, v] 25)).alloc (.cells #[.int .i64 X, .int .i64 Y, u] 25)) (w.heap.size + 1) X Y u ∧
    Below w.heap.size w ((w.alloc (.cells #[.int .i64 W, .int .i64 H, v] 25)).alloc (.cells #[.int .i64 X, .int .i64 Y, u] 25)) := by
  have h2 := Box.new (w.alloc (.cells #[.int .i64 W, .int .i64 H, v] 25)) X Y u
  simp only [World.size_alloc] at h2
  exact ⟨(Box.new w W H v).alloc _, h2, ((Below.refl _ _).alloc (Nat.le_refl _) _).alloc (by simp) _⟩

set_option maxHeartbeats 800000 in
theorem rsame_no0 (W H X Y : Int) (A D : Option Addr) (n m c d : Nat) (w : World) (h : ¬ (W = X ∧ H = Y ∧ n = m)) :
    Calls Tryd.prog 27 #[.agg #[.int .i64 W, .int .i64 H, .slice A n c], .agg #[.int .i64 X, .int .i64 Y, .slice D m d]] w fun e w' => e = .returned (.bool false) ∧ Below w.heap.size w w' := by
  have hcase : ((W != X) = true) ∨ ((W != X) = false ∧ (H != Y) = true) ∨ ((W != X) = false ∧ (H != Y) = false ∧ ((n : Int) != (m : Int)) = true) := by
    by_cases e : W = X
    · by_cases e' : H = Y
      · refine .inr (.inr ⟨by simp [e], by simp [e'], ?_⟩)
        simp
        intro h'
        exact h ⟨e, e', by omega⟩
      · exact .inr (.inl ⟨by simp [e], by simp [e']⟩)
    · exact .inl (by simp [e])
  clear h
  have hb := Lib.hid (boxes2 w W H X Y (.slice A n c) (.slice D m d)).2.2
  rcases hcase with h | ⟨h, h'⟩ | ⟨h, h', h''⟩
  all_goals
    go_enter Tryd.func27, Tryd.ntmps27
    go_wp2
    go_ret
    exact ⟨rfl, hb.out⟩

set_option maxHeartbeats 1600000 in
theorem rsame_loop (W H X Y : Int) (A D : Option Addr) (n c d : Nat) (f g : Nat → Bool) (w : World) (hn : n ≤ 5000) (eW : W = X) (eH : H = Y) (hr : Holds w w.heap.size A n f) (hs : Holds w w.heap.size D n g) :
    Calls Tryd.prog 27 #[.agg #[.int .i64 W, .int .i64 H, .slice A n c], .agg #[.int .i64 X, .int .i64 Y, .slice D n d]] w fun e w' => e = .returned (.bool (decide (∀ i, i < n → f i = g i))) ∧ Below w.heap.size w w' := by
  subst eW eH
  obtain ⟨hb1, hb2, hb3⟩ := boxes2 w W H W H (.slice A n c) (.slice D n d)
  have T0 := Lib.hid (⟨hb1, hb2, (hr.below hb3).more hb3.size, (hs.below hb3).more hb3.size⟩ : Two _ w.heap.size (w.heap.size + 1) W H A n c f W H D n d g)
  have B0 := Lib.hid hb3
  clear hb1 hb2 hb3 hr hs
  have z1 : (W != W) = false := by simp
  have z2 : (H != H) = false := by simp
  have z3 : ((n : Int) != (n : Int)) = false := by simp
  go_enter Tryd.func27, Tryd.ntmps27
  go_wp2
  go_loopw [5] (fun i wr => ∃ k : Nat, k ≤ n ∧ i = .int .i64 k ∧ Hid (∀ i, i < k → f i = g i) ∧ Two wr w.heap.size (w.heap.size + 1) W H A n c f W H D n d g ∧ Below w.heap.size w wr) (fun i _ => n - (intOf i).toNat)
  case atStart => exact ⟨0, Nat.zero_le _, rfl, fun i hi => absurd hi (by omega), T0.out, B0.out⟩
  case round =>
    obtain ⟨k, hk, rfl, hall, T, hbel⟩ := hrel
    obtain ⟨q0, q1, q2, q3, q4, q5, q6⟩ := T.boxa.all
    obtain ⟨p0, p1, p2, p3, p4, p5, p6⟩ := T.boxb.all
    by_cases hlt : k < n
    · obtain ⟨b, o, rfl, hbl, hc⟩ := T.ca (by omega)
      obtain ⟨b', o', rfl, hbl', hc'⟩ := T.cb (by omega)
      have c1 := hc k hlt
      have c2 := hc' k hlt
      clear hc hc'
      have hT := Lib.hid T
      clear T
      have y1 : (0 : Int) ≤ (k : Int) := by omega
      have y2 : (k : Int) < (n : Int) := by omega
      obtain ⟨u, hu⟩ : ∃ u, f k = u := ⟨_, rfl⟩
      obtain ⟨v, hv⟩ : ∃ v, g k = v := ⟨_, rfl⟩
      rw [hu] at c1
      rw [hv] at c2
      have HU := Lib.hid hu
      have HV := Lib.hid hv
      clear hu hv
      by_cases e : u = v
      · have E : f k = g k := by rw [HU.out, HV.out, e]
        have E := Lib.hid E
        subst e
        cases u
        all_goals
          go_wp2
          go_quiet (fail)
          go_wp2
          refine ⟨⟨k + 1, by omega, by go_num, fun i hi => ?_, hT.out.below (Go.Proofs.below_drewN' (Below.refl _ _) _), Go.Proofs.below_drewN' hbel _⟩, by simp [intOf]; omega⟩
          rcases Nat.lt_succ_iff_lt_or_eq.1 hi with h | rfl
          · exact hall.out i h
          · exact E.out
      · have E : ¬ f k = g k := by rw [HU.out, HV.out]; exact e
        have E := Lib.hid E
        cases u <;> cases v <;> first | exact absurd rfl e | skip
        all_goals
          clear e
          go_wp2
          go_quiet (fail)
          go_wp2
          go_ret
          exact ⟨ret_bool (by symm; rw [decide_eq_false_iff_not]; exact fun h => E.out (h k hlt)), Go.Proofs.below_drewN' hbel _⟩
    · have e : k = n := by omega
      subst e
      go_wp2
      go_ret
      exact ⟨ret_bool (by symm; rw [decide_eq_true_iff]; exact hall.out), hbel⟩
end Go.Proofs.YtbafhdinalapoaaDoor

/- The reference's copy of a grid. -/
namespace Go.Proofs.YtbafhdinalapoaaDoor
open Go.RowKit
set_option linter.unusedVariables false
set_option linter.unusedSimpArgs false

def news (n : Nat) (f : Nat → Bool) : List Value := (List.range n).map fun i => .bool (f i)
theorem news_length (n : Nat) (f : Nat → Bool) : (news n f).length = n := by simp [news]
theorem news_get {n : Nat} {f : Nat → Bool} {j : Nat} {u : Value} (h : (news n f)[j]? = some u) : j < n ∧ u = .bool (f j) := by
  have hj : j < n := by
    have := (List.getElem?_eq_some_iff.1 h).1
    rwa [news_length] at this
  refine ⟨hj, ?_⟩
  unfold news at h
  rw [List.getElem?_map, List.getElem?_range hj] at h
  exact (Option.some.inj h).symm
theorem news_one {n : Nat} {f : Nat → Bool} : ∀ u ∈ news n f, u.oneCell' = true := by
  intro u hu
  simp [news] at hu
  obtain ⟨i, _, rfl⟩ := hu
  rfl

theorem Row.of_own {w : World} {base g n cap : Nat} {f : Nat → Bool} (h : w.ownsRow base 4 1 (.slice (some ⟨g, 0, none⟩) n cap) n (news n f)) (hn : 0 < n) : Row w g n f := by
  rcases h.2 with ⟨h0, _⟩ | ⟨g', cap', cur, hv, _, hg, hc, _, hs, ht⟩
  · cases h0
  · cases hv
    refine ⟨cur, hg, by omega, fun i hi => ?_⟩
    have e : (cur.toList.take (n * 1))[i]? = some (.bool (f i)) := by
      rw [ht, news, List.getElem?_map, List.getElem?_range hi]; rfl
    rw [List.getElem?_take] at e
    rw [if_pos (by omega)] at e
    simpa using e

/-- append of nothing onto an empty slice that is not nil. -/
theorem append_none (g : Nat) (A : Option Addr) (c : Nat) (ty : TypeId) (w : World) : (Builtin.append_ #[23, 23] ty #[.slice (some ⟨g, 0, none⟩) 0 0, .slice A 0 c]).run Tryd.prog w = .ok (.slice (some ⟨g, 0, none⟩) 0 0) w := by
  obtain ⟨i0, hi, hz0, hz1, hz2⟩ := info_parts Tryd.info4
  cases A <;> simp [Builtin.append_, run_underlying Tryd.underlying23, sizeOf, typeInfo, hi, Builtin.lenOf, Builtin.firstCells, storeCells, loadCells, loadCellsFrom]

/-- .. at a step of a region that draws its order. -/
theorem step_none {ops : Array Oper} {o : Oper} {a : Act} {w : World} {K : Act → World → Prop} {Q : Exit → Act → World → Prop} {E : Prop} (hgd : o.guard = none) (s x : Operand)
    (ho : o.op = .call { callee := .builtin .append, args := #[s, x], argTypes := #[23, 23] }) (g : Nat) (A : Option Addr) (c : Nat) (hs : a.eval s = .slice (some ⟨g, 0, none⟩) 0 0) (hx : a.eval x = .slice A 0 c)
    (h : ∀ w', w = w' → K (a.put o.dst (.slice (some ⟨g, 0, none⟩) 0 0)) w') : if Region.wanted o (yielded ops a.tmps) = true then Oper.wp Tryd.prog o a w K Q else E := by
  have hw : Region.wanted o (yielded ops a.tmps) = true := by simp [Region.wanted, hgd]
  rw [if_pos hw]
  have hr := append_none g A c o.type w
  unfold Oper.wp execOp
  simp only [ho, resolve, invoke, builtin, Sem.run_bind, Sem.run_pure, Result.andThen_ok, List.map_toArray, List.map_cons, List.map_nil, hs, hx, hr]
  exact h w rfl

theorem twin_keep {W2 w' : World} {g : Nat} {W H : Int} {v : Value} (hb : Box W2 g W H v) (h : Below (g + 1) W2 w') :
    w'.cell? ⟨g, 0, none⟩ = some (.int .i64 W) ∧ w'.cell? ⟨g, 1, none⟩ = some (.int .i64 H) ∧ w'.cell? ⟨g, 2, none⟩ = some v :=
  have hx := hb.below h (by omega)
  ⟨hx.c0, hx.c1, hx.c2⟩

set_option maxHeartbeats 800000 in
theorem twin_some (W H : Int) (A : Option Addr) (n c : Nat) (f : Nat → Bool) (w : World) (hn : n ≤ 4200) (h0 : 0 < n) (hr : Holds w w.heap.size A n f) :
    Calls Tryd.prog 19 #[.agg #[.int .i64 W, .int .i64 H, .slice A n c]] w fun e w' => ∃ k d, e = .returned (.agg #[.int .i64 W, .int .i64 H, .slice (some ⟨k, 0, none⟩) n d]) ∧ w.heap.size ≤ k ∧ Row w' k n f ∧ Below w.heap.size w w' := by
  obtain ⟨b, o, rfl, hlt, hc⟩ := hr h0
  obtain ⟨i0, hi, hz0, hz1, hz2⟩ := info_parts Tryd.info4
  have HC := Lib.hid hc
  clear hc
  have hbox1 := (Box.new w W H (.slice (some ⟨b, o, none⟩) n c)).alloc (.cells #[.int .i64 0, .int .i64 0, .slice none 0 0] 25)
  have hbox2 := Box.new (w.alloc (.cells #[.int .i64 W, .int .i64 H, .slice (some ⟨b, o, none⟩) n c] 25)) 0 0 (.slice none 0 0)
  have hbel : Below w.heap.size w ((w.alloc (.cells #[.int .i64 W, .int .i64 H, .slice (some ⟨b, o, none⟩) n c] 25)).alloc (.cells #[.int .i64 0, .int .i64 0, .slice none 0 0] 25)) := ((Below.refl _ _).alloc (Nat.le_refl _) _).alloc (by simp) _
  have hsz : ((w.alloc (.cells #[.int .i64 W, .int .i64 H, .slice (some ⟨b, o, none⟩) n c] 25)).alloc (.cells #[.int .i64 0, .int .i64 0, .slice none 0 0] 25)).heap.size = w.heap.size + 2 := by simp
  go_enter Tryd.func19, Tryd.ntmps19
  go_wp2
  simp only [World.size_alloc] at hbox2
  generalize (w.alloc (.cells #[.int .i64 W, .int .i64 H, .slice (some ⟨b, o, none⟩) n c] 25)).alloc (.cells #[.int .i64 0, .int .i64 0, .slice none 0 0] 25) = W2 at *
  have HK := Lib.hid (fun w' (h : Below (w.heap.size + 1) W2 w') => twin_keep hbox1 h)
  have HN : Hid (∀ w', Below w.heap.size W2 w' → ∀ j u, (news n f)[j]? = some u → w'.cell? (Addr.add ⟨b, o, none⟩ j) = some u) := by
    intro w' hb' j u hj
    obtain ⟨hj', rfl⟩ := news_get hj
    have e : Addr.add ⟨b, o, none⟩ j = ⟨b, o + j, none⟩ := by unfold Addr.add; by_cases h : j = 0 <;> simp [h]
    rw [e]
    exact ((hbel.trans hb').cell (p := ⟨b, o + j, none⟩) hlt).trans (HC.out j hj')
  obtain ⟨q0, q1, q2, q3, q4, q5, q6⟩ := hbox1.all
  have HP := Lib.hid hbox2
  have HB := Lib.hid hbel
  clear hbox1 hbox2 hbel hr
  go_region_held3 (fun w' => w'.cell? ⟨w.heap.size, 0, none⟩ = some (.int .i64 W) ∧ w'.cell? ⟨w.heap.size, 1, none⟩ = some (.int .i64 H) ∧ w'.cell? ⟨w.heap.size, 2, none⟩ = some (.slice (some ⟨b, o, none⟩) n c))
    (first
      | exact HK.out _ (Below.refl _ _).drew
      | exact HK.out _ ((Below.refl _ _).drew.alloc (by simp; omega) _)
      | exact HK.out _ (hbx.mono (by omega))
      | exact HK.out _ ((((hbx.mono (by omega)).setCell (by simp) _).setCell (by simp) _).setCell (by simp) _))
    (first
      | (refine step_append_grows rfl (.tmp 7) (.tmp 9) 23 rfl 4 i0 (.bool false) 1 1 Tryd.underlying23 hi hz0 hz1 hz2 rfl Nat.one_pos (some ⟨w.heap.size + 2, 0, none⟩) 0 0 [] rfl ?_ rfl ?_ ⟨b, o, none⟩ n c (news n f) rfl ?_ ?_ news_one ?_ ?_ ?_ ?_
         intro h; cases h
         intro _ _ j u h; simp at h
         rw [news_length]; omega
         exact HN.out _ ((Below.refl _ _).drew.alloc (by simp; omega) _)
         omega
         unfold maxLen; omega
         omega
         intro v' w1 hown hgr
         have hbx : Below W2.heap.size W2 w1 := ((Below.refl _ _).drew.alloc (by simp) _).grown hgr (by simp) (by simp)
         obtain ⟨g, cap, hv, hg1, hg2⟩ := hown.form (by omega)
         subst hv
         obtain ⟨p0, p1, p2, p3, p4, p5, p6⟩ := (HP.out.below hbx (by omega)).all))
  simp only [Nat.zero_add, List.nil_append] at hown
  have hrow := Row.of_own hown h0
  have hgb : w.heap.size + 2 ≤ g := by simp at hg1; omega
  have hb2 := HB.out.trans (hbx.mono (by omega))
  go_wp2
  refine bodyPost_ret (v := .agg #[.int .i64 W, .int .i64 H, .slice (some ⟨g, 0, none⟩) n cap]) (by simp [results, Tryd.results19, go_sem, p0, p1, p2]) rfl ⟨g, cap, rfl, by omega, ?_, ?_⟩
  · exact ((hrow.far (by simp; omega) _).far (by simp; omega) _).far (by simp; omega) _
  · exact ((hb2.setCell (by simp) _).setCell (by simp) _).setCell (by simp) _

set_option maxHeartbeats 800000 in
theorem twin_none (W H : Int) (A : Option Addr) (c : Nat) (w : World) :
    Calls Tryd.prog 19 #[.agg #[.int .i64 W, .int .i64 H, .slice A 0 c]] w fun e w' => ∃ k, e = .returned (.agg #[.int .i64 W, .int .i64 H, .slice (some ⟨k, 0, none⟩) 0 0]) ∧ Below w.heap.size w w' := by
  have hbox1 := (Box.new w W H (.slice A 0 c)).alloc (.cells #[.int .i64 0, .int .i64 0, .slice none 0 0] 25)
  have hbox2 := Box.new (w.alloc (.cells #[.int .i64 W, .int .i64 H, .slice A 0 c] 25)) 0 0 (.slice none 0 0)
  have hbel : Below w.heap.size w ((w.alloc (.cells #[.int .i64 W, .int .i64 H, .slice A 0 c] 25)).alloc (.cells #[.int .i64 0, .int .i64 0, .slice none 0 0] 25)) := ((Below.refl _ _).alloc (Nat.le_refl _) _).alloc (by simp) _
  have hsz : ((w.alloc (.cells #[.int .i64 W, .int .i64 H, .slice A 0 c] 25)).alloc (.cells #[.int .i64 0, .int .i64 0, .slice none 0 0] 25)).heap.size = w.heap.size + 2 := by simp
  go_enter Tryd.func19, Tryd.ntmps19
  go_wp2
  simp only [World.size_alloc] at hbox2
  generalize (w.alloc (.cells #[.int .i64 W, .int .i64 H, .slice A 0 c] 25)).alloc (.cells #[.int .i64 0, .int .i64 0, .slice none 0 0] 25) = W2 at *
  have HK := Lib.hid (fun w' (h : Below (w.heap.size + 1) W2 w') => twin_keep hbox1 h)
  obtain ⟨q0, q1, q2, q3, q4, q5, q6⟩ := hbox1.all
  have HP := Lib.hid hbox2
  have HB := Lib.hid hbel
  clear hbox1 hbox2 hbel
  go_region_held3 (fun w' => w'.cell? ⟨w.heap.size, 0, none⟩ = some (.int .i64 W) ∧ w'.cell? ⟨w.heap.size, 1, none⟩ = some (.int .i64 H) ∧ w'.cell? ⟨w.heap.size, 2, none⟩ = some (.slice A 0 c))
    (first
      | exact HK.out _ (Below.refl _ _).drew
      | exact HK.out _ ((Below.refl _ _).drew.alloc (by simp; omega) _)
      | exact HK.out _ (hbx.mono (by omega))
      | exact HK.out _ ((((hbx.mono (by omega)).setCell (by simp) _).setCell (by simp) _).setCell (by simp) _))
    (first
      | (refine step_none rfl (.tmp 7) (.tmp 9) rfl (w.heap.size + 2) A c rfl rfl ?_
         intro w1 hw1
         have hbx : Below W2.heap.size W2 w1 := hw1 ▸ ((Below.refl _ _).drew.alloc (by simp) _)
         clear hw1
         obtain ⟨p0, p1, p2, p3, p4, p5, p6⟩ := (HP.out.below hbx (by omega)).all))
  go_wp2
  refine bodyPost_ret (v := .agg #[.int .i64 W, .int .i64 H, .slice (some ⟨w.heap.size + 2, 0, none⟩) 0 0]) (by simp [results, Tryd.results19, go_sem, p0, p1, p2]) rfl ⟨_, rfl, ?_⟩
  exact (((HB.out.trans (hbx.mono (by omega))).setCell (by simp) _).setCell (by simp) _).setCell (by simp) _
end Go.Proofs.YtbafhdinalapoaaDoor

/- slices.Equal of two rows of cells, and the program's Same. -/
namespace Go.Proofs.YtbafhdinalapoaaDoor
open Go.RowKit
set_option linter.unusedVariables false
set_option linter.unusedSimpArgs false

set_option maxHeartbeats 400000 in
theorem equal_len (A D : Option Addr) (n m c d : Nat) (w : World) (h : ¬ n = m) :
    Calls Tryd.prog 86 #[.slice A n c, .slice D m d] w fun e w' => e = .returned (.bool false) ∧ w' = w := by
  have z : ((n : Int) != (m : Int)) = true := by simp; omega
  clear h
  go_enter Tryd.func86, Tryd.ntmps86
  go_wp2
  go_ret
  exact ⟨rfl, rfl⟩

set_option maxHeartbeats 1600000 in
theorem equal_any (A D : Option Addr) (n c d : Nat) (f g : Nat → Bool) (w : World) (hn : n ≤ 5000) (hr : Holds w w.heap.size A n f) (hs : Holds w w.heap.size D n g) :
    Calls Tryd.prog 86 #[.slice A n c, .slice D n d] w fun e w' => e = .returned (.bool (decide (∀ i, i < n → f i = g i))) ∧ Below w.heap.size w w' := by
  have z3 : ((n : Int) != (n : Int)) = false := by simp
  have HR := Lib.hid hr
  have HS := Lib.hid hs
  clear hr hs
  go_enter Tryd.func86, Tryd.ntmps86
  go_wp2
  go_loopw [13] (fun i wr => ∃ k : Nat, k ≤ n ∧ i = .int .i64 k ∧ Hid (∀ i, i < k → f i = g i) ∧ Below w.heap.size w wr) (fun i _ => n - (intOf i).toNat)
  case atStart => exact ⟨0, Nat.zero_le _, rfl, fun i hi => absurd hi (by omega), Below.refl _ _⟩
  case round =>
    obtain ⟨k, hk, rfl, hall, hbel⟩ := hrel
    by_cases hlt : k < n
    · obtain ⟨b, o, rfl, hbl, hc⟩ := (HR.out.below hbel) (by omega)
      obtain ⟨b', o', rfl, hbl', hc'⟩ := (HS.out.below hbel) (by omega)
      have c1 := hc k hlt
      have c2 := hc' k hlt
      clear hc hc'
      have hbs := hbel.size
      have B1 := Lib.hid hbel
      clear hbel
      have y1 : (0 : Int) ≤ (k : Int) := by omega
      have y2 : (k : Int) < (n : Int) := by omega
      obtain ⟨u, hu⟩ : ∃ u, f k = u := ⟨_, rfl⟩
      obtain ⟨v, hv⟩ : ∃ v, g k = v := ⟨_, rfl⟩
      rw [hu] at c1
      rw [hv] at c2
      have HU := Lib.hid hu
      have HV := Lib.hid hv
      clear hu hv
      by_cases e : u = v
      · have E : f k = g k := by rw [HU.out, HV.out, e]
        have E := Lib.hid E
        subst e
        cases u
        all_goals
          go_wp2
          go_quiet (fail)
          go_wp2
          refine ⟨⟨k + 1, by omega, by go_num, fun i hi => ?_, Go.Proofs.below_drewN' B1.out _⟩, by simp [intOf]; omega⟩
          rcases Nat.lt_succ_iff_lt_or_eq.1 hi with h | rfl
          · exact hall.out i h
          · exact E.out
      · have E : ¬ f k = g k := by rw [HU.out, HV.out]; exact e
        have E := Lib.hid E
        cases u <;> cases v <;> first | exact absurd rfl e | skip
        all_goals
          clear e
          go_wp2
          go_quiet (fail)
          go_wp2
          go_ret
          exact ⟨ret_bool (by symm; rw [decide_eq_false_iff_not]; exact fun h => E.out (h k hlt)), Go.Proofs.below_drewN' B1.out _⟩
    · have e : k = n := by omega
      subst e
      go_wp2
      go_ret
      exact ⟨ret_bool (by symm; rw [decide_eq_true_iff]; exact hall.out), hbel⟩

/-- What Same answers: it reads the two grids' sides and cells. -/
theorem same_any (W H X Y : Int) (A D : Option Addr) (n m c d : Nat) (f g : Nat → Bool) (w : World) (hn : n ≤ 5000) (hr : Holds w w.heap.size A n f) (hs : Holds w w.heap.size D m g) :
    Calls Tryd.prog 74 #[.agg #[.int .i64 W, .int .i64 H, .slice A n c], .agg #[.int .i64 X, .int .i64 Y, .slice D m d]] w fun e w' => e = .returned (.bool (decide (W = X ∧ H = Y ∧ n = m ∧ ∀ i, i < n → f i = g i))) ∧ Below w.heap.size w w' := by
  obtain ⟨hb1, hb2, hb3⟩ := boxes2 w W H X Y (.slice A n c) (.slice D m d)
  have B0 := Lib.hid hb3
  have hr1 := (hr.below hb3).more hb3.size
  have hs1 := (hs.below hb3).more hb3.size
  clear hr hs
  by_cases eW : W = X
  · by_cases eH : H = Y
    · by_cases en : n = m
      · subst eW eH en
        have HE := Lib.hid (equal_any A D n c d f g _ hn hr1 hs1)
        have z1 : (W == W) = true := by simp
        have z2 : (H == H) = true := by simp
        have e : decide (W = W ∧ H = H ∧ n = n ∧ ∀ i, i < n → f i = g i) = decide (∀ i, i < n → f i = g i) := by simp
        rw [e]
        generalize decide (∀ i, i < n → f i = g i) = u at *
        clear hb1 hb2 hb3 hr1 hs1 e
        go_enter Tryd.func74, Tryd.ntmps74
        go_wp2_with fail
        refine HE.out.mono ?_
        rintro e w2 ⟨rfl, hb⟩
        have B1 := Lib.hid (B0.out.trans (hb.mono B0.out.size))
        clear hb HE B0
        go_wp2
        go_ret
        exact ⟨rfl, B1.out⟩
      · have HE := Lib.hid (equal_len A D n m c d ((w.alloc (.cells #[.int .i64 W, .int .i64 H, .slice A n c] 25)).alloc (.cells #[.int .i64 X, .int .i64 Y, .slice D m d] 25)) en)
        subst eW eH
        have z1 : (W == W) = true := by simp
        have z2 : (H == H) = true := by simp
        have e : decide (W = W ∧ H = H ∧ n = m ∧ ∀ i, i < n → f i = g i) = false := by simp [en]
        rw [e]
        clear hb1 hb2 hb3 hr1 hs1 e
        go_enter Tryd.func74, Tryd.ntmps74
        go_wp2_with fail
        refine HE.out.mono ?_
        rintro e w2 ⟨rfl, rfl⟩
        go_wp2
        go_ret
        exact ⟨rfl, B0.out⟩
    · have z1 : (W == X) = true := by simp [eW]
      have z2 : (H == Y) = false := by simp [eH]
      have e : decide (W = X ∧ H = Y ∧ n = m ∧ ∀ i, i < n → f i = g i) = false := by simp [eH]
      rw [e]
      clear hb1 hb2 hb3 hr1 hs1 e eW eH
      go_enter Tryd.func74, Tryd.ntmps74
      go_wp2
      go_ret
      exact ⟨rfl, B0.out⟩
  · have z1 : (W == X) = false := by simp [eW]
    have e : decide (W = X ∧ H = Y ∧ n = m ∧ ∀ i, i < n → f i = g i) = false := by simp [eW]
    rw [e]
    clear hb1 hb2 hb3 hr1 hs1 e eW
    go_enter Tryd.func74, Tryd.ntmps74
    go_wp2
    go_ret
    exact ⟨rfl, B0.out⟩
end Go.Proofs.YtbafhdinalapoaaDoor

/- The reference's Not, And and Or. -/
namespace Go.Proofs.YtbafhdinalapoaaDoor
open Go.RowKit
set_option linter.unusedVariables false
set_option linter.unusedSimpArgs false

/-- A grid came back, in a new row, with no error (its capacity is open). -/
def OkRef (w : World) (W H : Nat) (F : Nat → Bool) (e : Ending) (w' : World) : Prop :=
  ∃ k d, e = .returned (.tuple #[.agg #[.int .i64 W, .int .i64 H, .slice (some ⟨k, 0, none⟩) (W * H) d], .int .i64 0]) ∧ w.heap.size ≤ k ∧ Row w' k (W * H) F ∧ Below w.heap.size w w'
theorem fin_ref {w w2 : World} {W H k r d : Nat} {F : Nat → Bool} {a b u : Value} (hr : w.heap.size ≤ r) (hk : r < k) (hrow : Row w2 k (W * H) F) (hb : Below w.heap.size w w2) :
    OkRef w W H F (.returned (.tuple #[.agg #[.int .i64 W, .int .i64 H, .slice (some ⟨k, 0, none⟩) (W * H) d], .int .i64 0])) (((w2.setCell ⟨r, 0, none⟩ a).setCell ⟨r, 1, none⟩ b).setCell ⟨r, 2, none⟩ u) :=
  ⟨k, d, rfl, by omega, ((hrow.far (by simp; omega) _).far (by simp; omega) _).far (by simp; omega) _, ((hb.setCell hr _).setCell hr _).setCell hr _⟩

theorem rchk_valid {W H : Nat} (A : Option Addr) (c : Nat) (w : World) (hW0 : 1 ≤ W) (hW : W ≤ 64) (hH0 : 1 ≤ H) (hH : H ≤ 64) :
    Calls Tryd.prog 28 #[.agg #[.int .i64 W, .int .i64 H, .slice A (W * H) c]] w fun e w' => e = .returned (.int .i64 0) ∧ Below w.heap.size w w' := by
  have h := rchk_any W H A (W * H) c w (by have := Nat.mul_le_mul hW hH; omega)
  rw [chk_zero hW0 hW hH0 hH] at h
  exact h
theorem rchk_err {W H : Int} {A : Option Addr} {n c : Nat} {err : Int} (hn : n ≤ 4200) (hx : chk W H n = err) (w : World) :
    Calls Tryd.prog 28 #[.agg #[.int .i64 W, .int .i64 H, .slice A n c]] w fun e w' => e = .returned (.int .i64 err) ∧ Below w.heap.size w w' := by
  have h := rchk_any W H A n c w hn
  rw [hx] at h
  exact h

/-- The reference's Not behind k rounds. -/
structure NotRel (w wr : World) (W H : Nat) (f : Nat → Bool) (r o k d : Nat) (m : Nat) : Prop where
  out : Box wr o W H (.slice (some ⟨k, 0, none⟩) (W * H) d)
  res : Box wr r 0 0 (.slice none 0 0)
  row : Row wr k (W * H) (fun i => if i < m then !f i else f i)
  bel : Below w.heap.size w wr

end Go.Proofs.YtbafhdinalapoaaDoor

/- The reference's Zero and Set, and what its double loops keep. -/
namespace Go.Proofs.YtbafhdinalapoaaDoor
open Go.RowKit
set_option linter.unusedVariables false
set_option linter.unusedSimpArgs false

/-- Of what was there, block k alone may have turned. -/
structure But (k : Nat) (w w' : World) : Prop where
  os : w'.os = w.os
  tape : w'.tape = w.tape
  output : w'.output = w.output
  size : w.heap.size ≤ w'.heap.size
  block : ∀ b, b < w.heap.size → b ≠ k → w'.heap[b]? = w.heap[b]?
section
variable {w w' : World} {k g n : Nat} {A : Option Addr} {f : Nat → Bool} {W H : Int} {v : Value}
theorem But.below {w0 : World} (hb : But k w w') (h : Below w0.heap.size w0 w) (hk : w0.heap.size ≤ k) : Below w0.heap.size w0 w' :=
  h.trans ⟨hb.os, hb.tape, hb.output, hb.size, fun i hi => hb.block i (Nat.lt_of_lt_of_le hi h.size) (by omega)⟩
theorem But.box (hb : But k w w') (h : Box w g W H v) (hg : g ≠ k) : Box w' g W H v := (hb.block g h.lt hg).trans h
theorem But.holds {B : Nat} (hb : But k w w') (h : Holds w B A n f) (hB : B ≤ k) (hw : B ≤ w.heap.size) : Holds w' B A n f := fun hn => by
  obtain ⟨b, o, e, hlt, hc⟩ := h hn
  exact ⟨b, o, e, hlt, fun i hi => (World.cell?_of_block (w := w) (hb.block b (by omega) (by omega))).trans (hc i hi)⟩
end

set_option maxHeartbeats 400000 in
theorem set_any (W H : Int) (k n c : Nat) (x y : Int) (u : Bool) (F : Nat → Bool) (w : World) (hr : Row w k n F) (hm : n ≤ 5000) (hW0 : 0 ≤ W) (hW : W ≤ 64) (hx0 : 0 ≤ x) (hx : x < 64) (hy0 : 0 ≤ y) (hy : y < 64) (hi : (y * W + x).toNat < n) :
    Calls Tryd.prog 49 #[.agg #[.int .i64 W, .int .i64 H, .slice (some ⟨k, 0, none⟩) n c], .int .i64 x, .int .i64 y, .bool u] w fun e w' => e = .returned (.tuple #[]) ∧ Row w' k n (fun j => if j = (y * W + x).toNat then u else F j) ∧ But k w w' := by
  obtain ⟨h1, h2⟩ := mul_bd hW0 hW hy0 hy
  have h3 : y * W + x < (n : Int) := by omega
  have hc := hr.cell hi
  have hf := hr.free (y * W + x).toNat
  have hl := hr.lt
  have HR := Lib.hid hr
  clear hr
  go_enter Tryd.func49, Tryd.ntmps49
  go_wp2
  go_end0
  refine ⟨rfl, ?_, ?_⟩
  · exact (HR.out.set_ _ _).alloc _
  · refine ⟨rfl, rfl, rfl, by simp [World.setCell], fun b hb hne => ?_⟩
    rw [Below.heap_alloc _ _ _ (by simpa [World.setCell] using hb), Below.heap_setCell _ _ _ _ hne]

theorem set_nat (W H : Nat) (k c : Nat) (x y : Int) (u : Bool) (F : Nat → Bool) (w : World) (hr : Row w k (W * H) F) (hW : W ≤ 64) (hH : H ≤ 64) (i j : Nat) (hx : x = i) (hy : y = j) (hi : i < W) (hj : j < H) :
    Calls Tryd.prog 49 #[.agg #[.int .i64 W, .int .i64 H, .slice (some ⟨k, 0, none⟩) (W * H) c], .int .i64 x, .int .i64 y, .bool u] w fun e w' => e = .returned (.tuple #[]) ∧ Row w' k (W * H) (fun l => if l = j * W + i then u else F l) ∧ But k w w' := by
  subst hx hy
  have h1 := ix_bd hi hj
  have h2 : W * H ≤ 4096 := Nat.mul_le_mul hW hH
  have e : ((j : Int) * (W : Int) + (i : Int)).toNat = j * W + i := by
    have : ((j : Int) * (W : Int) + (i : Int)) = ((j * W + i : Nat) : Int) := by simp
    rw [this, Int.toNat_natCast]
  have h := set_any W H k (W * H) c i j u F w hr (by omega) (by omega) (by omega) (by omega) (by omega) (by omega) (by omega) (by rw [e]; exact h1)
  rw [e] at h
  exact h

theorem at_nat (W H : Nat) (A : Option Addr) (c : Nat) (x y : Int) (f : Nat → Bool) (w : World) (B : Nat) (hr : Holds w B A (W * H) f) (hB : B ≤ w.heap.size)
    (hW : W ≤ 64) (hH : H ≤ 64) (i j : Nat) (hx : x = i) (hy : y = j) (hi : i < W) (hj : j < H) :
    Calls Tryd.prog 50 #[.agg #[.int .i64 W, .int .i64 H, .slice A (W * H) c], .int .i64 x, .int .i64 y] w fun e w' => e = .returned (.bool (f (j * W + i))) ∧ Below w.heap.size w w' := by
  subst hx hy
  have h1 := ix_bd hi hj
  have h2 : W * H ≤ 4096 := Nat.mul_le_mul hW hH
  have e : ((j : Int) * (W : Int) + (i : Int)).toNat = j * W + i := by
    have : ((j : Int) * (W : Int) + (i : Int)) = ((j * W + i : Nat) : Int) := by simp
    rw [this, Int.toNat_natCast]
  have h := at_any W H A (W * H) c i j f B w hr hB (by omega) (by omega) (by omega) (by omega) (by omega) (by omega) (by omega) (by rw [e]; exact h1)
  rw [e] at h
  exact h

set_option maxHeartbeats 400000 in
theorem zero_int (Wi Hi : Int) (W H : Nat) (eW : Wi = W) (eH : Hi = H) (hW : W ≤ 64) (hH : H ≤ 64) (w : World) :
    Calls Tryd.prog 48 #[.int .i64 Wi, .int .i64 Hi] w fun e w' => ∃ k, e = .returned (.agg #[.int .i64 W, .int .i64 H, .slice (some ⟨k, 0, none⟩) (W * H) (W * H)]) ∧ w.heap.size ≤ k ∧ Row w' k (W * H) (fun _ => false) ∧ Below w.heap.size w w' := by
  subst eW eH
  have hN : W * H ≤ 4096 := Nat.mul_le_mul hW hH
  have hNi : (W : Int) * (H : Int) ≤ 4096 := by have := Int.ofNat_le.2 hN; simpa using this
  have hNi0 : 0 ≤ (W : Int) * (H : Int) := by have := Int.natCast_nonneg (W * H); simpa using this
  have hmk := make_run W H hN
  go_enter Tryd.func48, Tryd.ntmps48
  go_wp2
  refine bodyPost_ret (v := .agg #[.int .i64 W, .int .i64 H, .slice (some ⟨w.heap.size + 1, 0, none⟩) (W * H) (W * H)]) (by simp [results, Tryd.results48, go_sem]) rfl ⟨_, rfl, by omega, ?_, ?_⟩
  · have h := Row.made (w.alloc (.cells #[.int .i64 W, .int .i64 H, .slice (some ⟨w.heap.size + 1, 0, none⟩) (W * H) (W * H)] 25)) (W * H)
    simpa using h
  · exact ((Below.refl _ _).alloc (Nat.le_refl _) _).alloc (by simp) _

/-- What a double loop of the reference has written behind x columns and y cells: 'ax', 'ay' say for a cell from which round it comes. -/
def cp (ax ay : Nat → Nat) (G : Nat → Nat → Bool) (x y : Nat) : Nat → Bool := fun i => if ax i < x ∨ ax i = x ∧ ay i < y then G (ax i) (ay i) else false
theorem cp_zero (ax ay : Nat → Nat) (G : Nat → Nat → Bool) : cp ax ay G 0 0 = fun _ => false := by funext i; simp [cp]
theorem cp_succ {ax ay : Nat → Nat} {G : Nat → Nat → Bool} {x y t j : Nat} (h : j = t ↔ ax j = x ∧ ay j = y) : (if j = t then G x y else cp ax ay G x y j) = cp ax ay G x (y + 1) j := by
  unfold cp
  by_cases e : j = t
  · obtain ⟨e1, e2⟩ := h.1 e
    rw [if_pos e, if_pos (Or.inr ⟨e1, by omega⟩), e1, e2]
  · rw [if_neg e]
    have h' : ¬ (ax j = x ∧ ay j = y) := fun hh => e (h.2 hh)
    by_cases h1 : ax j < x ∨ ax j = x ∧ ay j < y
    · rw [if_pos h1, if_pos (by omega)]
    · rw [if_neg h1, if_neg (by omega)]
theorem cp_next {ax ay : Nat → Nat} {G : Nat → Nat → Bool} {x m j : Nat} (h : ay j < m) : cp ax ay G x m j = cp ax ay G (x + 1) 0 j := by
  unfold cp
  by_cases h1 : ax j < x ∨ ax j = x ∧ ay j < m
  · rw [if_pos h1, if_pos (by omega)]
  · rw [if_neg h1, if_neg (by omega)]
theorem cp_all {ax ay : Nat → Nat} {G : Nat → Nat → Bool} {m j : Nat} (h : ax j < m) : cp ax ay G m 0 j = G (ax j) (ay j) := by
  unfold cp; rw [if_pos (Or.inl h)]
theorem plain_at {W H x y j : Nat} (hx : x < W) (hj : j < W * H) : j = y * W + x ↔ j % W = x ∧ j / W = y := by
  constructor
  · rintro rfl
    exact ⟨by rw [Nat.mul_comm, Nat.mul_add_mod, Nat.mod_eq_of_lt hx], by rw [Nat.mul_comm, Nat.mul_add_div (by omega), Nat.div_eq_of_lt hx]; omega⟩
  · rintro ⟨rfl, rfl⟩
    exact (nat_div_mod W j).symm
theorem div_bd {W H j : Nat} (hj : j < W * H) : j / W < H := Nat.div_lt_of_lt_mul hj

/-- What a double loop keeps: the parameter, the grid that is written, the result's box. -/
structure DR (w wr : World) (W H : Nat) (A : Option Addr) (c : Nat) (f : Nat → Bool) (r o k V U : Nat) (F : Nat → Bool) : Prop where
  g : Box wr w.heap.size W H (.slice A (W * H) c)
  res : Box wr r 0 0 (.slice none 0 0)
  out : Box wr o V U (.slice (some ⟨k, 0, none⟩) (V * U) (V * U))
  row : Row wr k (V * U) F
  cells : Holds wr w.heap.size A (W * H) f
  bel : Below w.heap.size w wr
  s0 : w.heap.size < r
  s1 : r < k
  s2 : k < o
section
variable {w wr w' : World} {W H : Nat} {A : Option Addr} {c : Nat} {f : Nat → Bool} {r o k V U : Nat} {F F' : Nat → Bool}
theorem DR.next (h : DR w wr W H A c f r o k V U F) (hb : Below wr.heap.size wr w') : DR w w' W H A c f r o k V U F :=
  ⟨h.g.below hb h.g.lt, h.res.below hb h.res.lt, h.out.below hb h.out.lt, h.row.below hb h.row.lt, h.cells.below (hb.mono h.bel.size), h.bel.trans (hb.mono h.bel.size), h.s0, h.s1, h.s2⟩
theorem DR.but (h : DR w wr W H A c f r o k V U F) (hb : But k wr w') (hr : Row w' k (V * U) F') : DR w w' W H A c f r o k V U F' := by
  have s0 := h.s0
  have s1 := h.s1
  have s2 := h.s2
  exact ⟨hb.box h.g (by omega), hb.box h.res (by omega), hb.box h.out (by omega), hr, hb.holds h.cells (by omega) h.bel.size, hb.below h.bel (by omega), s0, s1, s2⟩
theorem DR.congr (h : DR w wr W H A c f r o k V U F) (e : ∀ i, i < V * U → F i = F' i) : DR w wr W H A c f r o k V U F' :=
  ⟨h.g, h.res, h.out, h.row.congr e, h.cells, h.bel, h.s0, h.s1, h.s2⟩
/-- The cells that a round reads. -/
theorem DR.six (h : DR w wr W H A c f r o k V U F) :
    wr.cell? ⟨w.heap.size, 0, none⟩ = some (.int .i64 W) ∧ wr.cell? ⟨w.heap.size, 1, none⟩ = some (.int .i64 H) ∧ wr.cell? ⟨w.heap.size, 2, none⟩ = some (.slice A (W * H) c) ∧
    wr.cell? ⟨o, 0, none⟩ = some (.int .i64 V) ∧ wr.cell? ⟨o, 1, none⟩ = some (.int .i64 U) ∧ wr.cell? ⟨o, 2, none⟩ = some (.slice (some ⟨k, 0, none⟩) (V * U) (V * U)) :=
  ⟨h.g.c0, h.g.c1, h.g.c2, h.out.c0, h.out.c1, h.out.c2⟩
end
end Go.Proofs.YtbafhdinalapoaaDoor

/- The reference's Turn. -/
namespace Go.Proofs.YtbafhdinalapoaaDoor
open Go.RowKit
set_option linter.unusedVariables false
set_option linter.unusedSimpArgs false

set_option maxHeartbeats 1600000 in
theorem turned_any (W H : Nat) (A : Option Addr) (c : Nat) (f : Nat → Bool) (w : World) (hr : Holds w w.heap.size A (W * H) f) (hW0 : 1 ≤ W) (hW : W ≤ 64) (hH0 : 1 ≤ H) (hH : H ≤ 64) :
    Calls Tryd.prog 47 #[.agg #[.int .i64 W, .int .i64 H, .slice A (W * H) c]] w fun e w' => ∃ k, e = .returned (.agg #[.int .i64 H, .int .i64 W, .slice (some ⟨k, 0, none⟩) (H * W) (H * W)]) ∧ w.heap.size ≤ k ∧ Row w' k (H * W) (fun i => f (i % H * W + i / H)) ∧ Below w.heap.size w w' := by
  have HR := Lib.hid hr
  clear hr
  have B1 := (Box.new w W H (.slice A (W * H) c)).alloc (.cells #[.int .i64 0, .int .i64 0, .slice none 0 0] 25)
  have B2 := Box.new (w.alloc (.cells #[.int .i64 W, .int .i64 H, .slice A (W * H) c] 25)) 0 0 (.slice none 0 0)
  have B3 : Below w.heap.size w ((w.alloc (.cells #[.int .i64 W, .int .i64 H, .slice A (W * H) c] 25)).alloc (.cells #[.int .i64 0, .int .i64 0, .slice none 0 0] 25)) := ((Below.refl _ _).alloc (Nat.le_refl _) _).alloc (by simp) _
  have B4 : w.heap.size + 2 ≤ ((w.alloc (.cells #[.int .i64 W, .int .i64 H, .slice A (W * H) c] 25)).alloc (.cells #[.int .i64 0, .int .i64 0, .slice none 0 0] 25)).heap.size := by simp
  simp only [World.size_alloc] at B2
  go_enter Tryd.func47, Tryd.ntmps47
  go_wp2_with fail
  generalize (w.alloc (.cells #[.int .i64 W, .int .i64 H, .slice A (W * H) c] 25)).alloc (.cells #[.int .i64 0, .int .i64 0, .slice none 0 0] 25) = w0 at *
  refine (zero_int _ _ H W rfl rfl hH hW _).mono ?_
  rintro e w1 ⟨k, rfl, hk, hrow, hb⟩
  have R0 := Lib.hid (⟨(B1.below hb (by omega)).alloc _, (B2.below hb (by omega)).alloc _, Box.new w1 H W _, (hrow.alloc _).congr (fun i _ => by rw [cp_zero]),
    HR.out.below ((B3.trans (hb.mono B3.size)).alloc (Nat.le_trans B3.size hb.size) _), (B3.trans (hb.mono B3.size)).alloc (Nat.le_trans B3.size hb.size) _, by omega, by omega, hrow.lt⟩ :
    DR w (w1.alloc (.cells #[.int .i64 H, .int .i64 W, .slice (some ⟨k, 0, none⟩) (H * W) (H * W)] 25)) W H A c f (w.heap.size + 1) w1.heap.size k H W (cp (· % H) (· / H) (fun x y => f (x * W + y)) 0 0))
  clear B1 B2 B3 B4 hb hrow
  go_wp2
  go_loopw [4] (fun i wr => ∃ x : Nat, x ≤ H ∧ i = .int .i64 x ∧ DR w wr W H A c f (w.heap.size + 1) w1.heap.size k H W (cp (· % H) (· / H) (fun x y => f (x * W + y)) x 0)) (fun i _ => H - (intOf i).toNat)
  case atStart => exact ⟨0, Nat.zero_le _, rfl, R0.out⟩
  case round =>
    obtain ⟨x, hx, rfl, R⟩ := hrel
    obtain ⟨wo, rfl⟩ : ∃ wo : World, wo = wr := ⟨_, rfl⟩
    obtain ⟨q0, q1, q2, q3, q4, q5⟩ := R.six
    by_cases hlx : x < H
    · have R1 := Lib.hid R
      clear R
      go_wp2
      clear q0 q1 q2 q3 q4 q5
      go_loopw [5] (fun i wr => ∃ y : Nat, y ≤ W ∧ i = .int .i64 y ∧ DR w wr W H A c f (w.heap.size + 1) w1.heap.size k H W (cp (· % H) (· / H) (fun x y => f (x * W + y)) x y)) (fun i _ => W - (intOf i).toNat)
      case atStart => exact ⟨0, Nat.zero_le _, rfl, R1.out⟩
      case round =>
        obtain ⟨y, hy, rfl, R⟩ := hrel
        obtain ⟨q0, q1, q2, q3, q4, q5⟩ := R.six
        have R2 := Lib.hid R
        clear R
        by_cases hly : y < W
        · have HK := Lib.hid (fun w' (h : Below wr.heap.size wr w') => (R2.out.next h).six)
          have HA := Lib.hid (fun w' (h : Below wr.heap.size wr w') => at_nat W H A c y x f w' w.heap.size (R2.out.next h).cells (Nat.le_trans R2.out.bel.size h.size) hW hH y x rfl rfl hly hlx)
          go_wp2
          go_region_held3 (fun w' => w'.cell? ⟨w.heap.size, 0, none⟩ = some (.int .i64 W) ∧ w'.cell? ⟨w.heap.size, 1, none⟩ = some (.int .i64 H) ∧ w'.cell? ⟨w.heap.size, 2, none⟩ = some (.slice A (W * H) c) ∧ w'.cell? ⟨w1.heap.size, 0, none⟩ = some (.int .i64 H) ∧ w'.cell? ⟨w1.heap.size, 1, none⟩ = some (.int .i64 W) ∧ w'.cell? ⟨w1.heap.size, 2, none⟩ = some (.slice (some ⟨k, 0, none⟩) (H * W) (H * W)))
            (first
              | exact hS3
              | exact HK.out _ hb2'
              | exact HK.out _ (Below.refl _ _).drew)
            (first
              | (go_at_call 50
                 refine (HA.out _ (Below.refl _ _).drew).mono ?_
                 rintro e w2 ⟨rfl, hb2⟩
                 have hb2' : Below wr.heap.size wr w2 := (Below.refl _ _).drew.trans hb2)
              | (go_at_call 49
                 refine (set_nat H W k (H * W) x y _ _ _ (R2.out.next hb2').row hH hW x y rfl rfl hlx hly).mono ?_
                 rintro e w3 ⟨rfl, hr3, hb3⟩
                 have hR3 := Lib.hid ((R2.out.next hb2').but hb3 hr3)
                 have hS3 := hR3.out.six))
          go_wp2
          exact ⟨⟨y + 1, by omega, by go_num, hR3.out.congr fun i hi => cp_succ (plain_at hlx hi)⟩, by simp [intOf]; omega⟩
        · have e : y = W := by omega
          subst e
          go_wp2
          exact ⟨⟨x + 1, by omega, by go_num, R2.out.congr fun i hi => cp_next (div_bd hi)⟩, by simp [intOf]; omega⟩
    · have e : x = H := by omega
      subst e
      obtain ⟨p0, p1, p2, p3, p4, p5, p6⟩ := R.res.all
      have R1 := Lib.hid R
      clear R
      go_wp2
      refine bodyPost_ret (v := .agg #[.int .i64 x, .int .i64 W, .slice (some ⟨k, 0, none⟩) (x * W) (x * W)]) (by simp [results, Tryd.results47, go_sem, p0, p1, p2]) rfl ⟨k, rfl, ?_, ?_, ?_⟩
      · have := R1.out.s0; have := R1.out.s1; omega
      · have s1 := R1.out.s1
        exact (((R1.out.row.far (by simp; omega) _).far (by simp; omega) _).far (by simp; omega) _).congr fun i hi => cp_all (Nat.mod_lt _ (by omega))
      · exact ((R1.out.bel.setCell (by simp) _).setCell (by simp) _).setCell (by simp) _
end Go.Proofs.YtbafhdinalapoaaDoor
