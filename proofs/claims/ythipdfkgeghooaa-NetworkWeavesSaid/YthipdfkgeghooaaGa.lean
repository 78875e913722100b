/- Merged: Base Fam Open Ogc Chk Build Clo Comb Ops Opt. -/
import Derived.Test.YthipdfkgeghooaaProg
import Derived.WalkKit
import Derived.Below
import Derived.Lib.Hide
import Derived.Outline
import Derived.WalkSpells
import Derived.Deep.OwnRows
import Derived.Deep.Draws
import Derived.BigQuiet
import Derived.Lib.SmallJoins
import Derived.Deep.Grids
import Derived.Shelf.GgClosure.Gives
import Derived.Deep.RegionHeld3
import Derived.StillTailTactics

/- What the walks of this seat say of a grid's cells in memory, and small laws on it. -/
namespace Go.Proofs.Ythipdfkgeghooaa
open Go.RowKit
set_option maxRecDepth 100000
set_option linter.unusedVariables false
set_option linter.unusedSimpArgs false

/-- The slice at 'A' of 'n' elements holds the cells 'f 0', 'f 1', .., in a block below B. -/
def Holds (w : World) (B : Nat) (A : Option Addr) (n : Nat) (f : Nat → Bool) : Prop :=
  0 < n → ∃ b o, A = some ⟨b, o, none⟩ ∧ b < B ∧ ∀ i, i < n → w.cell? ⟨b, o + i, none⟩ = some (.bool (f i))

section
variable {w w' : World} {B B' n g : Nat} {A : Option Addr} {f : Nat → Bool}
theorem Holds.below (h : Holds w B A n f) (hb : Below B w w') : Holds w' B A n f := fun hn => by
  obtain ⟨b, o, e, hlt, hc⟩ := h hn
  exact ⟨b, o, e, hlt, fun i hi => (hb.cell (p := ⟨b, o + i, none⟩) hlt).trans (hc i hi)⟩
theorem Holds.more (h : Holds w B A n f) (hB : B ≤ B') : Holds w B' A n f := fun hn => by
  obtain ⟨b, o, e, hlt, hc⟩ := h hn
  exact ⟨b, o, e, by omega, hc⟩
theorem Holds.none_ : Holds w B A 0 f := fun h => absurd h (by omega)

/-- The block g is a row of n cells of the call's own: 'f 0', 'f 1', .. -/
def Row (w : World) (g n : Nat) (f : Nat → Bool) : Prop :=
  ∃ cs : Array Value, w.heap[g]? = some (.cells cs 4 (0, 0)) ∧ n ≤ cs.size ∧ ∀ i, i < n → cs[i]? = some (.bool (f i))

theorem Row.lt (h : Row w g n f) : g < w.heap.size := by
  obtain ⟨cs, hg, _⟩ := h
  rcases Nat.lt_or_ge g w.heap.size with hlt | hge
  · exact hlt
  · rw [Array.getElem?_eq_none hge] at hg; cases hg
theorem Row.cell (h : Row w g n f) {i : Nat} (hi : i < n) : w.cell? ⟨g, i, none⟩ = some (.bool (f i)) := by
  obtain ⟨cs, hg, _, hc⟩ := h
  simp [World.cell?, hg, hc i hi]
theorem Row.free (h : Row w g n f) (i : Nat) : w.frozen? ⟨g, i, none⟩ = false := by
  obtain ⟨cs, hg, _⟩ := h
  simp [World.frozen?, hg]
theorem Row.holds (h : Row w g n f) (hB : g < B) : Holds w B (some ⟨g, 0, none⟩) n f := fun _ =>
  ⟨g, 0, rfl, hB, fun i hi => by rw [Nat.zero_add]; exact h.cell hi⟩
theorem Row.below (h : Row w g n f) (hb : Below B w w') (hg : g < B) : Row w' g n f := by
  obtain ⟨cs, h1, h2⟩ := h
  exact ⟨cs, (hb.block g hg).trans h1, h2⟩
theorem Row.alloc (h : Row w g n f) (o : Obj) : Row (w.alloc o) g n f := by
  have hl := h.lt
  obtain ⟨cs, h1, h2⟩ := h
  exact ⟨cs, (Below.heap_alloc w o g hl).trans h1, h2⟩
theorem Row.drew (h : Row w g n f) : Row w.drew g n f := h
theorem Row.drewN (h : Row w g n f) (k : Nat) : Row (w.drewN k) g n f := h
theorem Row.far (h : Row w g n f) {p : Addr} (hp : g ≠ p.block) (u : Value) : Row (w.setCell p u) g n f := by
  obtain ⟨cs, h1, h2⟩ := h
  exact ⟨cs, (Below.heap_setCell w p u g hp).trans h1, h2⟩
theorem Row.set_ (h : Row w g n f) (i : Nat) (v : Bool) : Row (w.setCell ⟨g, i, none⟩ (.bool v)) g n (fun j => if j = i then v else f j) := by
  obtain ⟨cs, h1, h2, h3⟩ := h
  refine ⟨cs.setIfInBounds i (.bool v), by simp [World.setCell, Array.getElem?_modify, h1], by simpa using h2, fun j hj => ?_⟩
  rw [Array.getElem?_setIfInBounds]
  by_cases e : i = j
  · subst e; simp; omega
  · have e' : ¬ j = i := fun h => e h.symm
    simp [e, e', h3 j hj]
theorem Row.congr {f' : Nat → Bool} (h : Row w g n f) (e : ∀ i, i < n → f i = f' i) : Row w g n f' := by
  obtain ⟨cs, h1, h2, h3⟩ := h
  exact ⟨cs, h1, h2, fun i hi => by rw [h3 i hi, e i hi]⟩
end

/-- The block g is a variable of the grid type: its sides and its slice. -/
def Box (w : World) (g : Nat) (W H : Int) (v : Value) : Prop := w.heap[g]? = some (.cells #[.int .i64 W, .int .i64 H, v] 57 (0, 0))
section
variable {w w' : World} {B g : Nat} {W H : Int} {v : Value}
theorem Box.lt (h : Box w g W H v) : g < w.heap.size := by
  rcases Nat.lt_or_ge g w.heap.size with hlt | hge
  · exact hlt
  · unfold Box at h; rw [Array.getElem?_eq_none hge] at h; cases h
theorem Box.c0 (h : Box w g W H v) : w.cell? ⟨g, 0, none⟩ = some (.int .i64 W) := by unfold Box at h; simp [World.cell?, h]
theorem Box.c1 (h : Box w g W H v) : w.cell? ⟨g, 1, none⟩ = some (.int .i64 H) := by unfold Box at h; simp [World.cell?, h]
theorem Box.c2 (h : Box w g W H v) : w.cell? ⟨g, 2, none⟩ = some v := by unfold Box at h; simp [World.cell?, h]
theorem Box.free (h : Box w g W H v) (i : Nat) : w.frozen? ⟨g, i, none⟩ = false := by unfold Box at h; simp [World.frozen?, h]
theorem Box.below (h : Box w g W H v) (hb : Below B w w') (hg : g < B) : Box w' g W H v := (hb.block g hg).trans h
theorem Box.alloc (h : Box w g W H v) (o : Obj) : Box (w.alloc o) g W H v := (Below.heap_alloc w o g h.lt).trans h
theorem Box.drew (h : Box w g W H v) : Box w.drew g W H v := h
theorem Box.far (h : Box w g W H v) {p : Addr} (hp : g ≠ p.block) (u : Value) : Box (w.setCell p u) g W H v := (Below.heap_setCell w p u g hp).trans h
theorem Box.new (w : World) (W H : Int) (v : Value) : Box (w.alloc (.cells #[.int .i64 W, .int .i64 H, v] 57)) w.heap.size W H v := by
  show (w.heap.push _)[w.heap.size]? = _
  rw [Array.getElem?_push, if_pos rfl]
/-- All that a walk asks of a variable of the grid type. -/
theorem Box.all (h : Box w g W H v) : w.cell? ⟨g, 0, none⟩ = some (.int .i64 W) ∧ w.cell? ⟨g, 1, none⟩ = some (.int .i64 H) ∧ w.cell? ⟨g, 2, none⟩ = some v ∧ w.frozen? ⟨g, 0, none⟩ = false ∧ w.frozen? ⟨g, 1, none⟩ = false ∧ w.frozen? ⟨g, 2, none⟩ = false ∧ g < w.heap.size :=
  ⟨h.c0, h.c1, h.c2, h.free 0, h.free 1, h.free 2, h.lt⟩
end

theorem bcell {W w1 : World} {B : Nat} (hb : Below B W w1) : (∀ b o, b < B → w1.cell? ⟨b, o, none⟩ = W.cell? ⟨b, o, none⟩) ∧ (∀ b o, b < B → w1.frozen? ⟨b, o, none⟩ = W.frozen? ⟨b, o, none⟩) :=
  ⟨fun b o h => hb.cell (p := ⟨b, o, none⟩) h, fun b o h => hb.frozen (p := ⟨b, o, none⟩) h⟩

theorem mul_bd {W y : Int} (hW0 : 0 ≤ W) (hW : W ≤ 64) (hy0 : 0 ≤ y) (hy : y < 64) : 0 ≤ y * W ∧ y * W ≤ 4032 := by
  refine ⟨Int.mul_nonneg hy0 hW0, ?_⟩
  have := Int.mul_le_mul (show y ≤ 63 by omega) hW hW0 (by omega); simpa using this

theorem ret_bool {a b : Bool} (h : a = b) : Ending.returned (.bool a) = .returned (.bool b) := by rw [h]

set_option maxHeartbeats 400000 in
theorem at_any (W H : Int) (A : Option Addr) (n c : Nat) (x y : Int) (f : Nat → Bool) (B : Nat) (w : World) (hr : Holds w B A n f) (hB : B ≤ w.heap.size) (hm : n ≤ 5000)
    (hW0 : 0 ≤ W) (hW : W ≤ 64) (hx0 : 0 ≤ x) (hx : x < 64) (hy0 : 0 ≤ y) (hy : y < 64) (hi : (y * W + x).toNat < n) :
    Calls Try.prog 35 #[.agg #[.int .i64 W, .int .i64 H, .slice A n c], .int .i64 x, .int .i64 y] w fun e w' => e = .returned (.bool (f (y * W + x).toNat)) ∧ Below w.heap.size w w' := by
  obtain ⟨b, o, rfl, hlt, hc⟩ := hr (by omega)
  obtain ⟨h1, h2⟩ := mul_bd hW0 hW hy0 hy
  have hc0 := hc _ hi
  have h3 : y * W + x < (n : Int) := by omega
  clear hc
  have hbw : b < w.heap.size := by omega
  go_enter Try.func35, Try.ntmps35
  go_wp2
  go_ret
  exact ⟨rfl, (Below.refl _ _).alloc (Nat.le_refl _) _⟩
end Go.Proofs.Ythipdfkgeghooaa

/- A region that draws its order, whose callees leave the old memory as it was: one walk in the text's order. -/
namespace Go.Proofs.Ythipdfkgeghooaa
open Go.RowKit
set_option maxRecDepth 100000
set_option linter.unusedVariables false
set_option linter.unusedSimpArgs false

theorem wp_region_fam {P : Program} {I : Type} (Wf : I → World) (i0 : I) {id : Nat} {Q : Exit → Act → World → Prop} {a : Act} {w : World} {l : List Oper} (h0 : Wf i0 = { w with drawn := w.drawn + 1 })
    (hm : P.follows .mixedOrders = true) (hB : Region.lexB .any l.toArray = true)
    (h : wpQuiet P l.toArray (fun w' => ∃ n, w' = Wf n) (fun a' => ∀ w', (∃ n, w' = Wf n) → Q .normal a' w') l a) : (Code.region id l.toArray true).wp P Q a w :=
  wp_region_quiet (C := fun w' => ∃ n, w' = Wf n) hm hB ⟨i0, h0.symm⟩ (by simpa using h)

/-- All the worlds in which nothing below the size of v0 has turned. -/
theorem family (v0 : World) : ∃ (I : Type) (Wf : I → World) (i0 : I), Wf i0 = { v0 with drawn := v0.drawn + 1 } ∧ (∀ n, Below v0.heap.size v0 (Wf n)) ∧
    (∀ n w', Below (Wf n).heap.size (Wf n) w' → ∃ m, w' = Wf m) :=
  ⟨{w' // Below v0.heap.size v0 w'}, Subtype.val, ⟨_, (Below.refl _ _).drew⟩, rfl, fun n => n.2, fun n w' h => ⟨⟨w', n.2.trans (h.mono n.2.size)⟩, rfl⟩⟩
end Go.Proofs.Ythipdfkgeghooaa

/- A parameter of the grid type, read as data, opened to its sides and its cells. -/
namespace Go.Proofs.Ythipdfkgeghooaa
open Go.ChangeShapes Go.WideShapes Go.RowKit Go.Deep Go.Joins
set_option maxRecDepth 100000
set_option linter.unusedVariables false
set_option linter.unusedSimpArgs false

theorem cells24 : Try.prog.cellsOf 57 = 3 := by kernel_rfl
theorem cells4 : Try.prog.cellsOf 4 = 1 := by kernel_rfl

theorem open_grid {H : Type} {enc : TypeId × Value → H} {w : World} {held : Bool} {r : Reach} {b0 : Nat} {v : Value} {d : DataW H} {p : List MemPlace}
    (hv : Value.okWide Try.prog w r b0 57 v) (h : DataW.Trod enc Try.prog w 0 (fun _ => true) held 57 v d p) :
    ∃ (W H : Int) (A : Option Addr) (n c : Nat) (f : Nat → Bool), v = .agg #[.int .i64 W, .int .i64 H, .slice A n c] ∧ (Lit.int .i64 W).wf = true ∧ (Lit.int .i64 H).wf = true ∧ Holds w w.heap.size A n f := by
  obtain ⟨v0, v1, v2, y0, y1, y2, n, rfl, _, _, h0, h1, h2⟩ := open_agg3 Try.underlying57 (by kernel_rfl) cells24 hv h
  obtain ⟨W, e0, _, w0⟩ := DataW.trod_int Try.underlying3 h0
  obtain ⟨H', e1, _, w1⟩ := DataW.trod_int Try.underlying3 h1
  simp at e0 e1
  subst e0 e1
  rcases open_bools Try.underlying55 Try.underlying4 cells4 h2 with ⟨e2, _⟩ | ⟨a, len, cap, B, e2, _, hl, _, _, hc⟩
  · simp at e2
    subst e2
    exact ⟨W, H', none, 0, 0, fun _ => false, rfl, w0, w1, Holds.none_⟩
  · simp at e2
    subst e2
    refine ⟨W, H', some a, len, cap, B, rfl, w0, w1, fun hn => ?_⟩
    have hc0 := hc 0 (by omega)
    obtain ⟨b, off, spot⟩ := a
    have hs : spot = none := by simpa [Addr.add] using World.cell?_spot hc0
    subst hs
    have e : ∀ i, Addr.add ⟨b, off, none⟩ i = ⟨b, off + i, none⟩ := fun i => by unfold Addr.add; by_cases h : i = 0 <;> simp [h]
    refine ⟨b, off, rfl, ?_, fun i hi => ?_⟩
    · rw [e] at hc0
      rcases Nat.lt_or_ge b w.heap.size with hb | hb
      · exact hb
      · simp [World.cell?, Array.getElem?_eq_none hb] at hc0
    · have := hc i (by omega)
      rwa [e] at this
end Go.Proofs.Ythipdfkgeghooaa

/- A drawn grid, with its room. -/
namespace Go.Proofs.Ythipdfkgeghooaa
open Go.ChangeShapes Go.WideShapes Go.RowKit Go.Deep Go.Joins
set_option linter.unusedVariables false
set_option linter.unusedSimpArgs false

set_option maxRecDepth 100000 in
theorem open_gridc {H : Type} {enc : TypeId × Value → H} {w : World} {held : Bool} {r : Reach} {b0 : Nat} {v : Value} {d : DataW H} {p : List MemPlace}
    (hv : Value.okWide Try.prog w r b0 57 v) (h : DataW.Trod enc Try.prog w 0 (fun _ => true) held 57 v d p) :
    ∃ (W H : Int) (A : Option Addr) (n c : Nat) (f : Nat → Bool), v = .agg #[.int .i64 W, .int .i64 H, .slice A n c] ∧ (Lit.int .i64 W).wf = true ∧ (Lit.int .i64 H).wf = true ∧ Holds w w.heap.size A n f ∧ n ≤ c := by
  obtain ⟨v0, v1, v2, y0, y1, y2, n, rfl, _, _, h0, h1, h2⟩ := open_agg3 Try.underlying57 (by kernel_rfl) cells24 hv h
  obtain ⟨W, e0, _, w0⟩ := DataW.trod_int Try.underlying3 h0
  obtain ⟨H', e1, _, w1⟩ := DataW.trod_int Try.underlying3 h1
  simp at e0 e1
  subst e0 e1
  rcases open_bools Try.underlying55 Try.underlying4 cells4 h2 with ⟨e2, _⟩ | ⟨a, len, cap, B, e2, _, hl, _, _, hc⟩
  · simp at e2
    subst e2
    exact ⟨W, H', none, 0, 0, fun _ => false, rfl, w0, w1, Holds.none_, Nat.le_refl _⟩
  · simp at e2
    subst e2
    refine ⟨W, H', some a, len, cap, B, rfl, w0, w1, fun hn => ?_, hl⟩
    have hc0 := hc 0 (by omega)
    obtain ⟨b, off, spot⟩ := a
    have hs : spot = none := by simpa [Addr.add] using World.cell?_spot hc0
    subst hs
    have e : ∀ i, Addr.add ⟨b, off, none⟩ i = ⟨b, off + i, none⟩ := fun i => by unfold Addr.add; by_cases h : i = 0 <;> simp [h]
    refine ⟨b, off, rfl, ?_, fun i hi => ?_⟩
    · rw [e] at hc0
      rcases Nat.lt_or_ge b w.heap.size with hb | hb
      · exact hb
      · simp [World.cell?, Array.getElem?_eq_none hb] at hc0
    · have := hc i (by omega)
      rwa [e] at this
set_option maxRecDepth 100000 in
theorem cells3' : Try.prog.cellsOf 3 = 1 := by kernel_rfl
end Go.Proofs.Ythipdfkgeghooaa

/- The checks of a grid, by the program and by the reference, and the guard on its number of cells. -/
namespace Go.Proofs.Ythipdfkgeghooaa
open Go.RowKit
set_option maxRecDepth 100000
set_option linter.unusedVariables false
set_option linter.unusedSimpArgs false

/-- What Check answers for sides W, H and n cells. -/
def chk (W H : Int) (n : Nat) : Int := if 64 < W ∨ 64 < H then 4 else if W < 1 ∨ H < 1 ∨ (n : Int) ≠ W * H then 8 else 0

theorem mul_pos_bd {W H : Int} (hW0 : 1 ≤ W) (hW : W ≤ 64) (hH0 : 1 ≤ H) (hH : H ≤ 64) : 1 ≤ W * H ∧ W * H ≤ 4096 := by
  have h1 : 1 * 1 ≤ W * H := Int.mul_le_mul hW0 hH0 (by omega) (by omega)
  have h2 : W * H ≤ 64 * 64 := Int.mul_le_mul hW hH (by omega) (by omega)
  omega

theorem chk_bd (W H : Int) (n : Nat) : 0 ≤ chk W H n ∧ chk W H n ≤ 8 := by unfold chk; split <;> (try split) <;> omega
theorem chk_ok {W H : Int} {n : Nat} (h : chk W H n = 0) : 1 ≤ W ∧ W ≤ 64 ∧ 1 ≤ H ∧ H ≤ 64 ∧ (n : Int) = W * H := by
  unfold chk at h
  split at h
  · omega
  · split at h
    · omega
    · rename_i h1 h2
      refine ⟨by omega, by omega, by omega, by omega, ?_⟩
      by_cases e : (n : Int) = W * H
      · exact e
      · exact absurd (Or.inr (Or.inr e)) h2

theorem ret_i64 {a b : Int} (h : a = b) : Ending.returned (.int .i64 a) = .returned (.int .i64 b) := by rw [h]

set_option maxHeartbeats 400000 in
theorem chk_any (W H : Int) (A : Option Addr) (n c : Nat) (w : World) (hn : n ≤ 4200) :
    Calls Try.prog 58 #[.agg #[.int .i64 W, .int .i64 H, .slice A n c]] w fun e w' => e = .returned (.int .i64 (chk W H n)) ∧ Below w.heap.size w w' := by
  by_cases h1 : 64 < W
  · have hr : chk W H n = 4 := by unfold chk; rw [if_pos (.inl h1)]
    have Hr := Lib.hid hr
    clear hr
    go_enter Try.func58, Try.ntmps58
    go_wp2
    go_ret
    exact ⟨ret_i64 Hr.out.symm, (Below.refl _ _).alloc (Nat.le_refl _) _⟩
  by_cases h2 : 64 < H
  · have hr : chk W H n = 4 := by unfold chk; rw [if_pos (.inr h2)]
    have Hr := Lib.hid hr
    clear hr
    go_enter Try.func58, Try.ntmps58
    go_wp2
    go_ret
    exact ⟨ret_i64 Hr.out.symm, (Below.refl _ _).alloc (Nat.le_refl _) _⟩
  by_cases h3 : W < 1
  · have hr : chk W H n = 8 := by unfold chk; rw [if_neg (by omega), if_pos (.inl h3)]
    have Hr := Lib.hid hr
    clear hr
    go_enter Try.func58, Try.ntmps58
    go_wp2
    go_ret
    exact ⟨ret_i64 Hr.out.symm, (Below.refl _ _).alloc (Nat.le_refl _) _⟩
  by_cases h4 : H < 1
  · have hr : chk W H n = 8 := by unfold chk; rw [if_neg (by omega), if_pos (.inr (.inl h4))]
    have Hr := Lib.hid hr
    clear hr
    go_enter Try.func58, Try.ntmps58
    go_wp2
    go_ret
    exact ⟨ret_i64 Hr.out.symm, (Below.refl _ _).alloc (Nat.le_refl _) _⟩
  obtain ⟨m1, m2⟩ := mul_pos_bd (W := W) (H := H) (by omega) (by omega) (by omega) (by omega)
  by_cases h5 : (n : Int) = W * H
  · have hr : chk W H n = 0 := by unfold chk; rw [if_neg (by omega), if_neg]; rintro (h | h | h) <;> first | omega | exact h h5
    have Hr := Lib.hid hr
    have h6 : ((n : Int) != W * H) = false := by simp [h5]
    clear hr h5
    go_enter Try.func58, Try.ntmps58
    go_wp2
    go_ret
    exact ⟨ret_i64 Hr.out.symm, (Below.refl _ _).alloc (Nat.le_refl _) _⟩
  · have hr : chk W H n = 8 := by unfold chk; rw [if_neg (by omega), if_pos (.inr (.inr h5))]
    have Hr := Lib.hid hr
    have h6 : ((n : Int) != W * H) = true := by simp [h5]
    clear hr h5
    go_enter Try.func58, Try.ntmps58
    go_wp2
    go_ret
    exact ⟨ret_i64 Hr.out.symm, (Below.refl _ _).alloc (Nat.le_refl _) _⟩

set_option maxHeartbeats 400000 in
theorem rchk_any (W H : Int) (A : Option Addr) (n c : Nat) (w : World) (hn : n ≤ 4200) :
    Calls Try.prog 34 #[.agg #[.int .i64 W, .int .i64 H, .slice A n c]] w fun e w' => e = .returned (.int .i64 (chk W H n)) ∧ Below w.heap.size w w' := by
  by_cases h1 : 64 < W
  · have hr : chk W H n = 4 := by unfold chk; rw [if_pos (.inl h1)]
    have Hr := Lib.hid hr
    clear hr
    go_enter Try.func34, Try.ntmps34
    go_wp2
    go_ret
    exact ⟨ret_i64 Hr.out.symm, (Below.refl _ _).alloc (Nat.le_refl _) _⟩
  by_cases h2 : 64 < H
  · have hr : chk W H n = 4 := by unfold chk; rw [if_pos (.inr h2)]
    have Hr := Lib.hid hr
    clear hr
    go_enter Try.func34, Try.ntmps34
    go_wp2
    go_ret
    exact ⟨ret_i64 Hr.out.symm, (Below.refl _ _).alloc (Nat.le_refl _) _⟩
  by_cases h3 : W < 1
  · have hr : chk W H n = 8 := by unfold chk; rw [if_neg (by omega), if_pos (.inl h3)]
    have Hr := Lib.hid hr
    clear hr
    go_enter Try.func34, Try.ntmps34
    go_wp2
    go_ret
    exact ⟨ret_i64 Hr.out.symm, (Below.refl _ _).alloc (Nat.le_refl _) _⟩
  by_cases h4 : H < 1
  · have hr : chk W H n = 8 := by unfold chk; rw [if_neg (by omega), if_pos (.inr (.inl h4))]
    have Hr := Lib.hid hr
    clear hr
    go_enter Try.func34, Try.ntmps34
    go_wp2
    go_ret
    exact ⟨ret_i64 Hr.out.symm, (Below.refl _ _).alloc (Nat.le_refl _) _⟩
  obtain ⟨m1, m2⟩ := mul_pos_bd (W := W) (H := H) (by omega) (by omega) (by omega) (by omega)
  by_cases h5 : (n : Int) = W * H
  · have hr : chk W H n = 0 := by unfold chk; rw [if_neg (by omega), if_neg]; rintro (h | h | h) <;> first | omega | exact h h5
    have Hr := Lib.hid hr
    have h6 : ((n : Int) != W * H) = false := by simp [h5]
    clear hr h5
    go_enter Try.func34, Try.ntmps34
    go_wp2
    go_ret
    exact ⟨ret_i64 Hr.out.symm, (Below.refl _ _).alloc (Nat.le_refl _) _⟩
  · have hr : chk W H n = 8 := by unfold chk; rw [if_neg (by omega), if_pos (.inr (.inr h5))]
    have Hr := Lib.hid hr
    have h6 : ((n : Int) != W * H) = true := by simp [h5]
    clear hr h5
    go_enter Try.func34, Try.ntmps34
    go_wp2
    go_ret
    exact ⟨ret_i64 Hr.out.symm, (Below.refl _ _).alloc (Nat.le_refl _) _⟩

end Go.Proofs.Ythipdfkgeghooaa

/- The program's 'build': a new row of W * H cells, each the answer of the function value that is handed over. -/
namespace Go.Proofs.Ythipdfkgeghooaa
open Go.RowKit
set_option maxRecDepth 100000
set_option linter.unusedVariables false
set_option linter.unusedSimpArgs false

theorem Try.info4 : (Try.prog.info? 4).map (fun i => (i.zero, i.size, i.bytes)) = some (some (.bool false), 1, 1) := by kernel_rfl

theorem make_run (W H : Nat) (hN : W * H ≤ 4096) (w : World) :
    (Instr.makeSlice 55 (.int .i64 ((W : Int) * (H : Int))) (.int .i64 ((W : Int) * (H : Int)))).run Try.prog w = .ok (.slice (some ⟨w.heap.size, 0, none⟩) (W * H) (W * H)) (w.alloc (.cells (madeCells #[.bool false] (W * H)) 4)) := by
  have h := run_make_row' (P := Try.prog) 55 4 (.bool false) 1 Try.underlying55 Try.info4 rfl .i64 .i64 (W * H) (by omega) (by omega) w
  rw [Int.natCast_mul] at h
  exact h

theorem Row.made (w : World) (n : Nat) : Row (w.alloc (.cells (madeCells #[.bool false] n) 4)) w.heap.size n (fun _ => false) := by
  refine ⟨madeCells #[.bool false] n, ?_, Nat.le_of_eq (size_madeCells _ _).symm, fun i hi => ?_⟩
  · show (w.heap.push _)[w.heap.size]? = _
    rw [Array.getElem?_push, if_pos rfl]
  · simp [madeCells, hi, Nat.mod_one]

/-- What is asked of the function value that 'build' calls: at each place of the grid it answers 'F', and writes nothing that was there. -/
def Gives (g : Nat) (lb : Array Value) (w0 : World) (W H : Nat) (F : Nat → Nat → Bool) : Prop :=
  ∀ (w : World) (x y : Nat), Below w0.heap.size w0 w → x < W → y < H → Calls Try.prog g (#[.int .i64 x, .int .i64 y] ++ lb) w fun e w' => e = .returned (.bool (F x y)) ∧ Below w.heap.size w w'

/-- The cells that stand behind the first m of them have been written. -/
def part (W : Nat) (F : Nat → Nat → Bool) (m : Nat) : Nat → Bool := fun i => if i < m then F (i % W) (i / W) else false
theorem part_zero (W : Nat) (F : Nat → Nat → Bool) : part W F 0 = fun _ => false := by funext i; simp [part]
theorem part_succ {W : Nat} (F : Nat → Nat → Bool) (x y : Nat) (hx : x < W) : (fun j => if j = y * W + x then F x y else part W F (y * W + x) j) = part W F (y * W + x + 1) := by
  funext j
  unfold part
  by_cases e : j = y * W + x
  · subst e
    have h1 : (y * W + x) % W = x := by rw [Nat.mul_comm, Nat.mul_add_mod, Nat.mod_eq_of_lt hx]
    have h2 : (y * W + x) / W = y := by rw [Nat.mul_comm, Nat.mul_add_div (by omega), Nat.div_eq_of_lt hx]; omega
    simp [h1, h2]
  · rw [if_neg e]
    by_cases h : j < y * W + x
    · rw [if_pos h, if_pos (by omega)]
    · rw [if_neg h, if_neg (by omega)]

end Go.Proofs.Ythipdfkgeghooaa

/- The function values that the program hands to 'build': what each one answers. -/
namespace Go.Proofs.Ythipdfkgeghooaa
open Go.RowKit
set_option maxRecDepth 100000
set_option linter.unusedVariables false
set_option linter.unusedSimpArgs false

theorem ix_bd {W H : Nat} {x y : Nat} (hx : x < W) (hy : y < H) : y * W + x < W * H := by
  have h := Nat.mul_le_mul_right W (show y + 1 ≤ H by omega)
  rw [Nat.add_mul, Nat.one_mul, Nat.mul_comm H W] at h
  omega

/-- A valid grid in a variable of its own: its box, its cells, its sides. -/
structure Grid (w : World) (gb : Nat) (W H : Nat) (A : Option Addr) (c : Nat) (f : Nat → Bool) : Prop where
  box : Box w gb W H (.slice A (W * H) c)
  cells : Holds w w.heap.size A (W * H) f
  w0 : 1 ≤ W
  w1 : W ≤ 64
  h0 : 1 ≤ H
  h1 : H ≤ 64

theorem Grid.below {w w' : World} {gb W H c : Nat} {A : Option Addr} {f : Nat → Bool} (h : Grid w gb W H A c f) (hb : Below w.heap.size w w') : Grid w' gb W H A c f :=
  ⟨h.box.below hb h.box.lt, (h.cells.below hb).more hb.size, h.w0, h.w1, h.h0, h.h1⟩

/-- A captured number in a variable of its own. -/
def Num (w : World) (g : Nat) (v : Int) : Prop := w.cell? ⟨g, 0, none⟩ = some (.int .i64 v) ∧ g < w.heap.size
theorem Num.below {w w' : World} {g : Nat} {v : Int} (h : Num w g v) (hb : Below w.heap.size w w') : Num w' g v :=
  ⟨(hb.cell (p := ⟨g, 0, none⟩) h.2).trans h.1, Nat.lt_of_lt_of_le h.2 hb.size⟩

theorem mod_eq (v n : Int) (h0 : 1 ≤ n) : (v.tmod n + n) % n = v % n := by
  rw [Int.add_emod_right]
  rcases Int.le_total 0 v with h | h
  · rw [Int.tmod_eq_emod_of_nonneg h, Int.emod_emod]
  · have e : v.tmod n = v - n * v.tdiv n := by have := Int.mul_tdiv_add_tmod v n; omega
    rw [e, Int.sub_mul_emod_self_left]

end Go.Proofs.Ythipdfkgeghooaa

/- The function value that 'combine' hands to 'build', for 'and' and for 'or'. -/
namespace Go.Proofs.Ythipdfkgeghooaa
open Go.RowKit
set_option maxRecDepth 100000
set_option linter.unusedVariables false
set_option linter.unusedSimpArgs false

/-- A captured function value in a variable of its own. -/
def FnAt (w : World) (g k : Nat) : Prop := w.cell? ⟨g, 0, none⟩ = some (.func (.func k) #[] #[]) ∧ g < w.heap.size
theorem FnAt.below {w w' : World} {g k : Nat} (h : FnAt w g k) (hb : Below w.heap.size w w') : FnAt w' g k :=
  ⟨(hb.cell (p := ⟨g, 0, none⟩) h.2).trans h.1, Nat.lt_of_lt_of_le h.2 hb.size⟩

/-- What the region of 'combine''s function value reads. -/
theorem comb_keep {w w' : World} {ga gb go k W H c d : Nat} {A D : Option Addr} {f g : Nat → Bool} (ha : Grid w ga W H A c f) (hb : Grid w gb W H D d g) (ho : FnAt w go k) (h : Below w.heap.size w w') :
    w'.cell? ⟨go, 0, none⟩ = some (.func (.func k) #[] #[]) ∧ w'.cell? ⟨ga, 0, none⟩ = some (.int .i64 W) ∧ w'.cell? ⟨ga, 1, none⟩ = some (.int .i64 H) ∧ w'.cell? ⟨ga, 2, none⟩ = some (.slice A (W * H) c) ∧
    w'.cell? ⟨gb, 0, none⟩ = some (.int .i64 W) ∧ w'.cell? ⟨gb, 1, none⟩ = some (.int .i64 H) ∧ w'.cell? ⟨gb, 2, none⟩ = some (.slice D (W * H) d) :=
  ⟨(ho.below h).1, (ha.below h).box.c0, (ha.below h).box.c1, (ha.below h).box.c2, (hb.below h).box.c0, (hb.below h).box.c1, (hb.below h).box.c2⟩


end Go.Proofs.Ythipdfkgeghooaa

/- The program's operations on a grid: Not, Mirror, Turn, Tile, Part, Shift, And, Or. -/
namespace Go.Proofs.Ythipdfkgeghooaa
open Go.RowKit
set_option maxRecDepth 100000
set_option linter.unusedVariables false
set_option linter.unusedSimpArgs false

/-- A grid came back, in a new row, with no error. -/
def OkGrid (w : World) (W H : Nat) (F : Nat → Bool) (e : Ending) (w' : World) : Prop :=
  ∃ k, e = .returned (.tuple #[.agg #[.int .i64 W, .int .i64 H, .slice (some ⟨k, 0, none⟩) (W * H) (W * H)], .int .i64 0]) ∧ w.heap.size ≤ k ∧ Row w' k (W * H) F ∧ Below w.heap.size w w'
/-- The zero grid came back, with an error. -/
def ErrGrid (w : World) (err : Int) (e : Ending) (w' : World) : Prop :=
  e = .returned (.tuple #[.agg #[.int .i64 0, .int .i64 0, .slice none 0 0], .int .i64 err]) ∧ Below w.heap.size w w'

theorem chk_zero {W H : Nat} (hW0 : 1 ≤ W) (hW : W ≤ 64) (hH0 : 1 ≤ H) (hH : H ≤ 64) : chk W H (W * H) = 0 := by
  unfold chk
  rw [if_neg (by omega), if_neg]
  rintro (h | h | h)
  · omega
  · omega
  · exact h (by simp)

theorem chk_valid {W H : Nat} (A : Option Addr) (c : Nat) (w : World) (hW0 : 1 ≤ W) (hW : W ≤ 64) (hH0 : 1 ≤ H) (hH : H ≤ 64) :
    Calls Try.prog 58 #[.agg #[.int .i64 W, .int .i64 H, .slice A (W * H) c]] w fun e w' => e = .returned (.int .i64 0) ∧ Below w.heap.size w w' := by
  have h := chk_any W H A (W * H) c w (by have := Nat.mul_le_mul hW hH; omega)
  rw [chk_zero hW0 hW hH0 hH] at h
  exact h

theorem mk_fn : ∀ (fn : Fn) (first cap : Array Value) (w : World), (Instr.makeFunc fn first cap).run Try.prog w = .ok (.func fn first cap) w := fun _ _ _ _ => rfl

/-- A parameter's box and the result's box, behind the first call. -/
theorem after2 {w w1 : World} {W H : Int} {v : Value} (hb : Below ((w.alloc (.cells #[.int .i64 W, .int .i64 H, v] 57)).alloc (.cells #[.int .i64 0, .int .i64 0, .slice none 0 0] 57)).heap.size
      ((w.alloc (.cells #[.int .i64 W, .int .i64 H, v] 57)).alloc (.cells #[.int .i64 0, .int .i64 0, .slice none 0 0] 57)) w1) :
    Box w1 w.heap.size W H v ∧ Box w1 (w.heap.size + 1) 0 0 (.slice none 0 0) ∧ Below w.heap.size w w1 ∧ w.heap.size + 2 ≤ w1.heap.size := by
  have h1 := ((Box.new w W H v).alloc (.cells #[.int .i64 0, .int .i64 0, .slice none 0 0] 57)).below hb (by simp; omega)
  have h2 := (Box.new (w.alloc (.cells #[.int .i64 W, .int .i64 H, v] 57)) 0 0 (.slice none 0 0)).below hb (by simp)
  have h3 : Below w.heap.size w w1 := (((Below.refl _ _).alloc (Nat.le_refl _) _).alloc (by simp) _).trans (hb.mono (by simp; omega))
  have h4 := hb.size
  simp at h2 h4
  exact ⟨h1, h2, h3, by omega⟩

theorem fin_ok {w w2 : World} {W H k r : Nat} {F : Nat → Bool} {a b d : Value} (hr : w.heap.size ≤ r) (hk : r < k) (hrow : Row w2 k (W * H) F) (hb : Below w.heap.size w w2) :
    OkGrid w W H F (.returned (.tuple #[.agg #[.int .i64 W, .int .i64 H, .slice (some ⟨k, 0, none⟩) (W * H) (W * H)], .int .i64 0])) (((w2.setCell ⟨r, 0, none⟩ a).setCell ⟨r, 1, none⟩ b).setCell ⟨r, 2, none⟩ d) :=
  ⟨k, rfl, by omega, ((hrow.far (by simp; omega) _).far (by simp; omega) _).far (by simp; omega) _, ((hb.setCell hr _).setCell hr _).setCell hr _⟩

theorem fin_err {w w2 : World} {err : Int} {r : Nat} {a b d : Value} (hr : w.heap.size ≤ r) (hb : Below w.heap.size w w2) :
    ErrGrid w err (.returned (.tuple #[.agg #[.int .i64 0, .int .i64 0, .slice none 0 0], .int .i64 err])) (((w2.setCell ⟨r, 0, none⟩ a).setCell ⟨r, 1, none⟩ b).setCell ⟨r, 2, none⟩ d) :=
  ⟨rfl, ((hb.setCell hr _).setCell hr _).setCell hr _⟩
theorem chk_err {W H : Int} {A : Option Addr} {n c : Nat} {err : Int} (hn : n ≤ 4200) (hx : chk W H n = err) (w : World) :
    Calls Try.prog 58 #[.agg #[.int .i64 W, .int .i64 H, .slice A n c]] w fun e w' => e = .returned (.int .i64 err) ∧ Below w.heap.size w w' := by
  have h := chk_any W H A n c w hn
  rw [hx] at h
  exact h
theorem nat_div_mod (W i : Nat) : i / W * W + i % W = i := by rw [Nat.mul_comm, Nat.div_add_mod]


end Go.Proofs.Ythipdfkgeghooaa

/- The program's Tile and Part. -/
namespace Go.Proofs.Ythipdfkgeghooaa
open Go.RowKit
set_option maxRecDepth 100000
set_option linter.unusedVariables false
set_option linter.unusedSimpArgs false

theorem quo_bd (W : Nat) (hW0 : 1 ≤ W) : (64 : Int).tdiv (W : Int) = (64 : Int) / (W : Int) ∧ 0 ≤ (64 : Int) / (W : Int) ∧ (64 : Int) / (W : Int) ≤ 64 := by
  have e : (64 : Int) / (W : Int) = ((64 / W : Nat) : Int) := by simp
  refine ⟨Int.tdiv_eq_ediv_of_nonneg (by omega), by rw [e]; exact Int.natCast_nonneg _, ?_⟩
  rw [e]
  exact Int.ofNat_le.2 (Nat.div_le_self 64 W)
theorem quo_le {W n : Nat} (hW0 : 1 ≤ W) : ¬ (64 : Int) / (W : Int) < (n : Int) ↔ n * W ≤ 64 := by
  have e : (64 : Int) / (W : Int) = ((64 / W : Nat) : Int) := by simp
  rw [e, Int.not_lt, Int.ofNat_le, Nat.le_div_iff_mul_le (by omega)]

theorem Num.new (w : World) (v : Int) : Num (w.alloc (.cells #[.int .i64 v] 3)) w.heap.size v := by
  refine ⟨?_, by simp⟩
  simp
/-- Part's parameters in boxes of their own, and the result's box, behind the first call. -/
theorem after4 {w w1 : World} {W H x y : Int} {v : Value} (hb : Below ((((w.alloc (.cells #[.int .i64 W, .int .i64 H, v] 57)).alloc (.cells #[.int .i64 x] 3)).alloc (.cells #[.int .i64 y] 3)).alloc (.cells #[.int .i64 0, .int .i64 0, .slice none 0 0] 57)).heap.size
      ((((w.alloc (.cells #[.int .i64 W, .int .i64 H, v] 57)).alloc (.cells #[.int .i64 x] 3)).alloc (.cells #[.int .i64 y] 3)).alloc (.cells #[.int .i64 0, .int .i64 0, .slice none 0 0] 57)) w1) :
    Box w1 w.heap.size W H v ∧ Num w1 (w.heap.size + 1) x ∧ Num w1 (w.heap.size + 2) y ∧ Box w1 (w.heap.size + 3) 0 0 (.slice none 0 0) ∧ Below w.heap.size w w1 ∧ w.heap.size + 4 ≤ w1.heap.size := by
  have h1 := ((((Box.new w W H v).alloc (.cells #[.int .i64 x] 3)).alloc (.cells #[.int .i64 y] 3)).alloc (.cells #[.int .i64 0, .int .i64 0, .slice none 0 0] 57)).below hb (by simp; omega)
  have h2 := (Box.new (((w.alloc (.cells #[.int .i64 W, .int .i64 H, v] 57)).alloc (.cells #[.int .i64 x] 3)).alloc (.cells #[.int .i64 y] 3)) 0 0 (.slice none 0 0)).below hb (by simp)
  have n1 := (((Num.new (w.alloc (.cells #[.int .i64 W, .int .i64 H, v] 57)) x).below ((Below.refl _ _).alloc (Nat.le_refl _) (.cells #[.int .i64 y] 3))).below ((Below.refl _ _).alloc (Nat.le_refl _) (.cells #[.int .i64 0, .int .i64 0, .slice none 0 0] 57))).below hb
  have n2 := ((Num.new ((w.alloc (.cells #[.int .i64 W, .int .i64 H, v] 57)).alloc (.cells #[.int .i64 x] 3)) y).below ((Below.refl _ _).alloc (Nat.le_refl _) (.cells #[.int .i64 0, .int .i64 0, .slice none 0 0] 57))).below hb
  have h3 : Below w.heap.size w w1 := (((((Below.refl _ _).alloc (Nat.le_refl _) _).alloc (by simp) _).alloc (by simp; omega) _).alloc (by simp; omega) _).trans (hb.mono (by simp; omega))
  have h4 := hb.size
  simp at h2 h4 n1 n2
  exact ⟨h1, n1, n2, h2, h3, by omega⟩

end Go.Proofs.Ythipdfkgeghooaa
