/- A variable of the grid type whose cells are a row of the call's own; what a walk over many of them carries. -/
import Derived.Test.YtnamjpdbadjgpaaMovm
import Derived.Test.YtnamjpdbadjgpaaAlive
import Derived.Test.YtnamjpdbadjgpaaValid
import Derived.Test.YtnamjpdbadjgpaaCnt
namespace Go.Proofs.Ytnamjpdbadjgpaa
open Go.RowKit
set_option linter.unusedVariables false
set_option linter.unusedSimpArgs false

/-- The variable at block b has the sides X and Y, and its cells in the row k. -/
structure Gv (v : World) (b : Nat) (X Y : Nat) (k : Nat) (F : Nat → Bool) : Prop where
  box : Box v b X Y (.slice (some ⟨k, 0, none⟩) (X * Y) (X * Y))
  row : Row v k (X * Y) F
section
variable {w v v' : World} {b X Y k p X' Y' k' : Nat} {F F' : Nat → Bool}
theorem Gv.next (h : Gv v b X Y k F) (hb : Below v.heap.size v v') : Gv v' b X Y k F := ⟨h.box.below hb h.box.lt, h.row.below hb h.row.lt⟩
theorem Gv.alloc (h : Gv v b X Y k F) (o : Obj) : Gv (v.alloc o) b X Y k F := ⟨h.box.alloc o, h.row.alloc o⟩
theorem Gv.new (X Y : Nat) {k : Nat} {F : Nat → Bool} (hrow : Row v k (X * Y) F) : Gv (v.alloc (.cells #[.int .i64 X, .int .i64 Y, .slice (some ⟨k, 0, none⟩) (X * Y) (X * Y)] 24)) v.heap.size X Y k F :=
  ⟨Box.new v X Y _, hrow.alloc _⟩
theorem Gv.sto (h : Gv v b X Y k F) (h1 : b ≠ p) (h2 : k ≠ p) (x y z : Value) : Gv (((v.setCell ⟨p, 0, none⟩ x).setCell ⟨p, 1, none⟩ y).setCell ⟨p, 2, none⟩ z) b X Y k F :=
  ⟨((h.box.far (by simpa using h1) _).far (by simpa using h1) _).far (by simpa using h1) _, ((h.row.far (by simpa using h2) _).far (by simpa using h2) _).far (by simpa using h2) _⟩
theorem Box.put {W H : Int} {u : Value} (h : Box v b W H u) (x y z : Value) : (((v.setCell ⟨b, 0, none⟩ x).setCell ⟨b, 1, none⟩ y).setCell ⟨b, 2, none⟩ z).heap[b]? = some (.cells #[x, y, z] 24 (0, 0)) := by
  have h0 : v.heap[b]? = some (.cells #[.int .i64 W, .int .i64 H, u] 24 (0, 0)) := h
  simp [World.setCell, Array.getElem?_modify, h0]
theorem Gv.put {W H : Int} {u : Value} (h : Box v b W H u) (hrow : Row v k' (X' * Y') F') (hne : k' ≠ b) :
    Gv (((v.setCell ⟨b, 0, none⟩ (.int .i64 X')).setCell ⟨b, 1, none⟩ (.int .i64 Y')).setCell ⟨b, 2, none⟩ (.slice (some ⟨k', 0, none⟩) (X' * Y') (X' * Y'))) b X' Y' k' F' :=
  ⟨h.put _ _ _, ((hrow.far (by simpa using hne) _).far (by simpa using hne) _).far (by simpa using hne) _⟩
theorem LA.sto {W H : Int} {A : Option Addr} {n c : Nat} (h : LA w v W H A n c) (hp : w.heap.size < p) (x y z : Value) : LA w (((v.setCell ⟨p, 0, none⟩ x).setCell ⟨p, 1, none⟩ y).setCell ⟨p, 2, none⟩ z) W H A n c :=
  ((h.far (by simpa using hp) _).far (by simpa using hp) _).far (by simpa using hp) _
end
theorem OkGrid.congr {w : World} {X Y : Nat} {F G : Nat → Bool} (h : ∀ i, i < X * Y → F i = G i) {e : Ending} {w' : World} (o : OkGrid w X Y F e w') : OkGrid w X Y G e w' := by
  obtain ⟨k, he, hk, hr, hb⟩ := o
  exact ⟨k, he, hk, hr.congr h, hb⟩
end Go.Proofs.Ytnamjpdbadjgpaa
