/- Images: their variables, their colours, what comes back. -/
import Derived.Test.YthipdfkgeghooaaKow
import Derived.Test.YthipdfkgeghooaaOpl
import Derived.Test.YthipdfkgeghooaaOpc
import Derived.Deep.RegionHeld3
namespace Go.Proofs.Ythipdfkgeghooaa
open Go.RowKit Go.ChangeShapes Go.WideShapes Go.ChangeAt Go.Deep Go.Joins
set_option maxRecDepth 100000
set_option linter.unusedVariables false
set_option linter.unusedSimpArgs false

/-- The block g is a variable of the image type: its sides and its slice. -/
def IBox (w : World) (g : Nat) (W H : Int) (v : Value) : Prop := w.heap[g]? = some (.cells #[.int .i64 W, .int .i64 H, v] 24 (0, 0))
section
variable {w w' : World} {B g : Nat} {W H : Int} {v : Value}
theorem IBox.lt (h : IBox w g W H v) : g < w.heap.size := by
  rcases Nat.lt_or_ge g w.heap.size with hlt | hge
  · exact hlt
  · unfold IBox at h; rw [Array.getElem?_eq_none hge] at h; cases h
theorem IBox.c0 (h : IBox w g W H v) : w.cell? ⟨g, 0, none⟩ = some (.int .i64 W) := by unfold IBox at h; simp [World.cell?, h]
theorem IBox.c1 (h : IBox w g W H v) : w.cell? ⟨g, 1, none⟩ = some (.int .i64 H) := by unfold IBox at h; simp [World.cell?, h]
theorem IBox.c2 (h : IBox w g W H v) : w.cell? ⟨g, 2, none⟩ = some v := by unfold IBox at h; simp [World.cell?, h]
theorem IBox.free (h : IBox w g W H v) (i : Nat) : w.frozen? ⟨g, i, none⟩ = false := by unfold IBox at h; simp [World.frozen?, h]
theorem IBox.below (h : IBox w g W H v) (hb : Below B w w') (hg : g < B) : IBox w' g W H v := (hb.block g hg).trans h
theorem IBox.alloc (h : IBox w g W H v) (o : Obj) : IBox (w.alloc o) g W H v := (Below.heap_alloc w o g h.lt).trans h
theorem IBox.drew (h : IBox w g W H v) : IBox w.drew g W H v := h
theorem IBox.far (h : IBox w g W H v) {p : Addr} (hp : g ≠ p.block) (u : Value) : IBox (w.setCell p u) g W H v := (Below.heap_setCell w p u g hp).trans h
theorem IBox.new (w : World) (W H : Int) (v : Value) : IBox (w.alloc (.cells #[.int .i64 W, .int .i64 H, v] 24)) w.heap.size W H v := by
  show (w.heap.push _)[w.heap.size]? = _
  rw [Array.getElem?_push, if_pos rfl]
/-- All that a walk asks of a variable of the image type. -/
theorem IBox.all (h : IBox w g W H v) : w.cell? ⟨g, 0, none⟩ = some (.int .i64 W) ∧ w.cell? ⟨g, 1, none⟩ = some (.int .i64 H) ∧ w.cell? ⟨g, 2, none⟩ = some v ∧ w.frozen? ⟨g, 0, none⟩ = false ∧ w.frozen? ⟨g, 1, none⟩ = false ∧ w.frozen? ⟨g, 2, none⟩ = false ∧ g < w.heap.size :=
  ⟨h.c0, h.c1, h.c2, h.free 0, h.free 1, h.free 2, h.lt⟩
end

/-- The block g is a variable that holds a list. -/
def SBox (w : World) (g : Nat) (v : Value) : Prop := w.heap[g]? = some (.cells #[v] 22 (0, 0))
section
variable {w w' : World} {B g : Nat} {v : Value}
theorem SBox.lt (h : SBox w g v) : g < w.heap.size := by
  rcases Nat.lt_or_ge g w.heap.size with hlt | hge
  · exact hlt
  · unfold SBox at h; rw [Array.getElem?_eq_none hge] at h; cases h
theorem SBox.below (h : SBox w g v) (hb : Below B w w') (hg : g < B) : SBox w' g v := (hb.block g hg).trans h
theorem SBox.alloc (h : SBox w g v) (o : Obj) : SBox (w.alloc o) g v := (Below.heap_alloc w o g h.lt).trans h
theorem SBox.far (h : SBox w g v) {p : Addr} (hp : g ≠ p.block) (u : Value) : SBox (w.setCell p u) g v := (Below.heap_setCell w p u g hp).trans h
theorem SBox.new (w : World) (v : Value) : SBox (w.alloc (.cells #[v] 22)) w.heap.size v := by
  show (w.heap.push _)[w.heap.size]? = _
  rw [Array.getElem?_push, if_pos rfl]
theorem SBox.all (h : SBox w g v) : w.cell? ⟨g, 0, none⟩ = some v ∧ w.frozen? ⟨g, 0, none⟩ = false ∧ g < w.heap.size :=
  ⟨by unfold SBox at h; simp [World.cell?, h], by unfold SBox at h; simp [World.frozen?, h], h.lt⟩
end
/-- The block g is a variable of the view type: its sides and its slice. -/
def VBox (w : World) (g : Nat) (W H : Int) (v : Value) : Prop := w.heap[g]? = some (.cells #[.int .i64 W, .int .i64 H, v] 99 (0, 0))
section
variable {w w' : World} {B g : Nat} {W H : Int} {v : Value}
theorem VBox.lt (h : VBox w g W H v) : g < w.heap.size := by
  rcases Nat.lt_or_ge g w.heap.size with hlt | hge
  · exact hlt
  · unfold VBox at h; rw [Array.getElem?_eq_none hge] at h; cases h
theorem VBox.c0 (h : VBox w g W H v) : w.cell? ⟨g, 0, none⟩ = some (.int .i64 W) := by unfold VBox at h; simp [World.cell?, h]
theorem VBox.c1 (h : VBox w g W H v) : w.cell? ⟨g, 1, none⟩ = some (.int .i64 H) := by unfold VBox at h; simp [World.cell?, h]
theorem VBox.c2 (h : VBox w g W H v) : w.cell? ⟨g, 2, none⟩ = some v := by unfold VBox at h; simp [World.cell?, h]
theorem VBox.free (h : VBox w g W H v) (i : Nat) : w.frozen? ⟨g, i, none⟩ = false := by unfold VBox at h; simp [World.frozen?, h]
theorem VBox.below (h : VBox w g W H v) (hb : Below B w w') (hg : g < B) : VBox w' g W H v := (hb.block g hg).trans h
theorem VBox.alloc (h : VBox w g W H v) (o : Obj) : VBox (w.alloc o) g W H v := (Below.heap_alloc w o g h.lt).trans h
theorem VBox.drew (h : VBox w g W H v) : VBox w.drew g W H v := h
theorem VBox.far (h : VBox w g W H v) {p : Addr} (hp : g ≠ p.block) (u : Value) : VBox (w.setCell p u) g W H v := (Below.heap_setCell w p u g hp).trans h
theorem VBox.new (w : World) (W H : Int) (v : Value) : VBox (w.alloc (.cells #[.int .i64 W, .int .i64 H, v] 99)) w.heap.size W H v := by
  show (w.heap.push _)[w.heap.size]? = _
  rw [Array.getElem?_push, if_pos rfl]
/-- All that a walk asks of a variable of the view type. -/
theorem VBox.all (h : VBox w g W H v) : w.cell? ⟨g, 0, none⟩ = some (.int .i64 W) ∧ w.cell? ⟨g, 1, none⟩ = some (.int .i64 H) ∧ w.cell? ⟨g, 2, none⟩ = some v ∧ w.frozen? ⟨g, 0, none⟩ = false ∧ w.frozen? ⟨g, 1, none⟩ = false ∧ w.frozen? ⟨g, 2, none⟩ = false ∧ g < w.heap.size :=
  ⟨h.c0, h.c1, h.c2, h.free 0, h.free 1, h.free 2, h.lt⟩
end

/-- All colours of a list are colours. -/
def fine (n : Nat) (f : Nat → Int) : Bool := decide (∀ i, i < n → 0 ≤ f i ∧ f i ≤ 15)
/-- What Check of an image answers. -/
def ick (W H : Int) (n : Nat) (f : Nat → Int) : Int := if 1 ≤ W ∧ W ≤ 64 ∧ 1 ≤ H ∧ H ≤ 64 ∧ (n : Int) = W * H ∧ fine n f = true then 0 else 8
theorem fine_yes {n : Nat} {f : Nat → Int} (h : ∀ i, i < n → 0 ≤ f i ∧ f i ≤ 15) : fine n f = true := decide_eq_true h
theorem fine_of {n : Nat} {f : Nat → Int} (h : fine n f = true) : ∀ i, i < n → 0 ≤ f i ∧ f i ≤ 15 := of_decide_eq_true h
theorem fine_congr {n : Nat} {f g : Nat → Int} (h : ∀ i, i < n → f i = g i) : fine n f = fine n g := by
  have : (∀ i, i < n → 0 ≤ f i ∧ f i ≤ 15) = (∀ i, i < n → 0 ≤ g i ∧ g i ≤ 15) := propext ⟨fun q i hi => h i hi ▸ q i hi, fun q i hi => (h i hi).symm ▸ q i hi⟩
  unfold fine
  exact decide_eq_decide.2 (this ▸ Iff.rfl)
theorem ick_or (W H : Int) (n : Nat) (f : Nat → Int) : ick W H n f = 0 ∨ ick W H n f = 8 := by unfold ick; split <;> simp
theorem ick_ok {W H : Int} {n : Nat} {f : Nat → Int} (h : ick W H n f = 0) : 1 ≤ W ∧ W ≤ 64 ∧ 1 ≤ H ∧ H ≤ 64 ∧ (n : Int) = W * H ∧ fine n f = true := by
  unfold ick at h
  split at h
  · assumption
  · cases h
theorem ick_nat {W H : Int} {n : Nat} {f : Nat → Int} (h : ick W H n f = 0) : ∃ P Q : Nat, W = P ∧ H = Q ∧ n = P * Q ∧ 1 ≤ P ∧ P ≤ 64 ∧ 1 ≤ Q ∧ Q ≤ 64 ∧ fine n f = true := by
  obtain ⟨a1, a2, a3, a4, a5, a6⟩ := ick_ok h
  obtain ⟨P, rfl⟩ := Int.eq_ofNat_of_zero_le (show 0 ≤ W by omega)
  obtain ⟨Q, rfl⟩ := Int.eq_ofNat_of_zero_le (show 0 ≤ H by omega)
  exact ⟨P, Q, rfl, rfl, by exact_mod_cast a5, by omega, by omega, by omega, by omega, a6⟩
theorem ick_zero {W H : Nat} {f : Nat → Int} (hW0 : 1 ≤ W) (hW : W ≤ 64) (hH0 : 1 ≤ H) (hH : H ≤ 64) (hf : fine (W * H) f = true) : ick W H (W * H) f = 0 :=
  if_pos ⟨by omega, by omega, by omega, by omega, by simp, hf⟩
/-- An image came back, and an error. -/
def RI (w : World) (X Y : Int) (N : Nat) (F : Nat → Int) (z : Int) (e : Ending) (w' : World) : Prop :=
  ∃ A c, e = .returned (.tuple #[.agg #[.int .i64 X, .int .i64 Y, .slice A N c], .int .i64 z]) ∧ L2.Holds w' w'.heap.size A N F ∧ Below w.heap.size w w'
/-- An image came back. -/
def RM (w : World) (X Y : Int) (N : Nat) (F : Nat → Int) (e : Ending) (w' : World) : Prop :=
  ∃ A c, e = .returned (.agg #[.int .i64 X, .int .i64 Y, .slice A N c]) ∧ L2.Holds w' w'.heap.size A N F ∧ Below w.heap.size w w'
/-- A list came back, and an error. -/
def RL (w : World) (N : Nat) (F : Nat → Int) (z : Int) (e : Ending) (w' : World) : Prop :=
  ∃ A c, e = .returned (.tuple #[.slice A N c, .int .i64 z]) ∧ L2.Holds w' w'.heap.size A N F ∧ Below w.heap.size w w'
/-- A grid came back, and an error. -/
def RG (w : World) (X Y : Int) (N : Nat) (F : Nat → Bool) (z : Int) (e : Ending) (w' : World) : Prop :=
  ∃ A c, e = .returned (.tuple #[.agg #[.int .i64 X, .int .i64 Y, .slice A N c], .int .i64 z]) ∧ Holds w' w'.heap.size A N F ∧ Below w.heap.size w w'
theorem L2.Holds.congr {w : World} {B n : Nat} {A : Option Addr} {f g : Nat → Int} (h : L2.Holds w B A n f) (e : ∀ i, i < n → f i = g i) : L2.Holds w B A n g := fun h0 => by
  obtain ⟨b, o, h1, h2, h3⟩ := h h0
  exact ⟨b, o, h1, h2, fun i hi => by rw [h3 i hi, e i hi]⟩
theorem RI.congr {w w' : World} {X Y : Int} {N : Nat} {F G : Nat → Int} {z : Int} {e : Ending} (h : RI w X Y N F z e w') (q : ∀ i, i < N → F i = G i) : RI w X Y N G z e w' := by
  obtain ⟨A, c, h1, h2, h3⟩ := h
  exact ⟨A, c, h1, h2.congr q, h3⟩
theorem RL.congr {w w' : World} {N : Nat} {F G : Nat → Int} {z : Int} {e : Ending} (h : RL w N F z e w') (q : ∀ i, i < N → F i = G i) : RL w N G z e w' := by
  obtain ⟨A, c, h1, h2, h3⟩ := h
  exact ⟨A, c, h1, h2.congr q, h3⟩
theorem RG.congr {w w' : World} {X Y : Int} {N : Nat} {F G : Nat → Bool} {z : Int} {e : Ending} (h : RG w X Y N F z e w') (q : ∀ i, i < N → F i = G i) : RG w X Y N G z e w' := by
  obtain ⟨A, c, h1, h2, h3⟩ := h
  exact ⟨A, c, h1, h2.congr q, h3⟩
/-- Ints of the call's own lie. -/
theorem L2.Own.holds {w : World} {base n : Nat} {A : Option Addr} {c : Nat} {f : Nat → Int} (h : L2.Own w base (.slice A n c) n f) : L2.Holds w w.heap.size A n f := fun hn => by
  obtain ⟨A', c', e, _, hr⟩ := h.out
  cases e
  obtain ⟨k, rfl, _, hk⟩ := hr hn
  exact hk.holds hk.lt hn
theorem L2.Holds.far {w : World} {A : Option Addr} {n : Nat} {f : Nat → Int} {B : Nat} (h : L2.Holds w B A n f) {p : Addr} (hne : 0 < n → ∀ b o, A = some ⟨b, o, none⟩ → b ≠ p.block) (u : Value) : L2.Holds (w.setCell p u) B A n f := fun h0 => by
  obtain ⟨b, o, e, hb, hc⟩ := h h0
  exact ⟨b, o, e, hb, fun i hi => (World.cell?_of_block (w := w) (w' := w.setCell p u) (a := ⟨b, o + i, none⟩) (Below.heap_setCell w p u b (hne h0 b o e))).trans (hc i hi)⟩
/-- A row of ints is no image's variable. -/
theorem ints_ne_ibox {w : World} {B g n k e : Nat} {A D : Option Addr} {f : Nat → Int} {W H : Int} {q : Nat} (h : L2.Row w q n f) (hx : IBox w g W H (.slice D k e)) : q ≠ g := by
  rintro rfl
  obtain ⟨cs, h1, _⟩ := h
  unfold IBox at hx
  rw [h1] at hx
  cases hx
theorem IBox.st3 {w : World} {g : Nat} {W H : Int} {v : Value} (h : IBox w g W H v) (V U : Int) (u : Value) : IBox (((w.setCell ⟨g, 0, none⟩ (.int .i64 V)).setCell ⟨g, 1, none⟩ (.int .i64 U)).setCell ⟨g, 2, none⟩ u) g V U u := by
  unfold IBox at h ⊢
  simp [World.setCell, Array.getElem?_modify, h]
theorem IBox.put2 {w : World} {g : Nat} {W H : Int} {v : Value} (h : IBox w g W H v) (u : Value) : IBox (w.setCell ⟨g, 2, none⟩ u) g W H u := by
  unfold IBox at h ⊢
  simp [World.setCell, Array.getElem?_modify, h]
theorem L2.Holds.st3 {w : World} {A : Option Addr} {n : Nat} {f : Nat → Int} {B g : Nat} (h : L2.Holds w B A n f) (hne : 0 < n → ∀ b o, A = some ⟨b, o, none⟩ → b ≠ g) (x y z : Value) : L2.Holds (((w.setCell ⟨g, 0, none⟩ x).setCell ⟨g, 1, none⟩ y).setCell ⟨g, 2, none⟩ z) B A n f :=
  ((h.far (p := ⟨g, 0, none⟩) hne x).far (p := ⟨g, 1, none⟩) hne y).far (p := ⟨g, 2, none⟩) hne z
/-- A list of ints lies in no image's variable. -/
theorem L2.Holds.ne {w : World} {B g n : Nat} {A : Option Addr} {f : Nat → Int} {W H : Int} {v : Value} (h : L2.Holds w B A n f) (hx : IBox w g W H v) (hv : ∀ i, v ≠ .int .i64 i) : 0 < n → ∀ b o, A = some ⟨b, o, none⟩ → b ≠ g ∨ (b = g ∧ o + n ≤ 2) := fun hn b o hA => by
  by_cases hb : b = g
  · refine .inr ⟨hb, ?_⟩
    obtain ⟨b', o', e1, _, hc⟩ := h hn
    rw [hA] at e1
    cases e1
    subst hb
    rcases Nat.lt_or_ge 2 (o + n) with h2 | h2
    · rcases Nat.lt_or_ge 2 o with h3 | h3
      · have h0 := hc 0 hn
        rw [Lib.cell_of_heap hx] at h0
        simp [show (o + 0) = (o - 3) + 3 by omega] at h0
      · have h0 := hc (2 - o) (by omega)
        rw [show o + (2 - o) = 2 by omega, hx.c2] at h0
        cases h0
        exact absurd rfl (hv _)
    · exact h2
  · exact .inl hb
set_option maxRecDepth 100000 in
theorem cells29 : Try.prog.cellsOf 24 = 3 := by kernel_rfl
theorem open_image {H : Type} {enc : TypeId × Value → H} {w : World} {held : Bool} {r : Reach} {b0 : Nat} {v : Value} {d : DataW H} {p : List MemPlace}
    (hv : Value.okWide Try.prog w r b0 24 v) (h : DataW.Trod enc Try.prog w 0 (fun _ => true) held 24 v d p) :
    ∃ (W H : Int) (A : Option Addr) (n c : Nat) (f : Nat → Int), v = .agg #[.int .i64 W, .int .i64 H, .slice A n c] ∧ (Lit.int .i64 W).wf = true ∧ (Lit.int .i64 H).wf = true ∧ L2.Holds w w.heap.size A n f ∧ (A = none → c = 0) := by
  obtain ⟨v0, v1, v2, y0, y1, y2, n, rfl, _, _, h0, h1, h2⟩ := open_agg3 Try.underlying24 (by kernel_rfl) cells29 hv h
  obtain ⟨W, e0, _, w0⟩ := DataW.trod_int Try.underlying3 h0
  obtain ⟨H', e1, _, w1⟩ := DataW.trod_int Try.underlying3 h1
  simp at e0 e1
  subst e0 e1
  rcases open_ints Try.underlying22 Try.underlying3 cells3' h2 with ⟨e2, _⟩ | ⟨a, len, cap, zs, e2, _, hl, hm, hz, hx, hc, _⟩
  · simp at e2
    subst e2
    exact ⟨W, H', none, 0, 0, fun _ => 0, rfl, w0, w1, L2.Holds.none_, fun _ => rfl⟩
  · simp at e2
    subst e2
    refine ⟨W, H', some a, len, cap, fun i => zs.getD i 0, rfl, w0, w1, fun hn => ?_, fun h => by cases h⟩
    have hzl : len ≤ zs.length := by rw [hz]; simp; omega
    have hc0 := hc 0 (by omega)
    obtain ⟨b, off, spot⟩ := a
    have hs : spot = none := by simpa [Addr.add] using World.cell?_spot hc0
    subst hs
    have e : ∀ i, Addr.add ⟨b, off, none⟩ i = ⟨b, off + i, none⟩ := fun i => by unfold Addr.add; by_cases h : i = 0 <;> simp [h]
    refine ⟨b, off, rfl, ?_, fun i hi => ?_⟩
    · rw [e] at hc0
      rcases Nat.lt_or_ge b w.heap.size with hb | hb
      · exact hb
      · simp [World.cell?, Array.getElem?_eq_none hb] at hc0
    · have := hc i (by omega)
      rwa [e] at this
end Go.Proofs.Ythipdfkgeghooaa
