/- What the walks of the statements keep: the old memory, drafts and grids in variables. -/
import Derived.Test.YtbafhdinalapoaaDsm
import Derived.Test.YtbafhdinalapoaaGre
import Derived.Test.YtbafhdinalapoaaFam
import Derived.Test.YtbafhdinalapoaaRwe
namespace Go.Proofs.Ytbafhdinalapoaa
open Go.RowKit
set_option linter.unusedVariables false
set_option linter.unusedSimpArgs false
set_option maxRecDepth 100000

/-- A variable of the grid type at block b, its cells in a row of the call's own between lo and b. -/
structure Var (v : World) (lo b : Nat) (W H : Int) (A : Option Addr) (n c : Nat) (F : Nat → Bool) : Prop where
  box : Box v b W H (.slice A n c)
  row : 0 < n → ∃ k, A = some ⟨k, 0, none⟩ ∧ lo ≤ k ∧ k < b ∧ Row v k n F
section
variable {v v' : World} {lo b : Nat} {W H : Int} {A : Option Addr} {n c : Nat} {F : Nat → Bool}
theorem Var.next (h : Var v lo b W H A n c F) (hb : Below v.heap.size v v') : Var v' lo b W H A n c F :=
  ⟨h.box.below hb h.box.lt, fun hn => by
    obtain ⟨k, e, h1, h2, h3⟩ := h.row hn
    exact ⟨k, e, h1, h2, h3.below hb h3.lt⟩⟩
theorem Var.alloc (h : Var v lo b W H A n c F) (o : Obj) : Var (v.alloc o) lo b W H A n c F := h.next ((Below.refl _ _).alloc (Nat.le_refl _) o)
theorem Var.drew (h : Var v lo b W H A n c F) : Var v.drew lo b W H A n c F := h.next ((Below.refl _ _).drew)
theorem Var.far (h : Var v lo b W H A n c F) {p : Addr} (hp : p.block < lo ∨ b < p.block) (hlo : lo ≤ b) (u : Value) : Var (v.setCell p u) lo b W H A n c F :=
  ⟨h.box.far (by omega) u, fun hn => by
    obtain ⟨k, e, h1, h2, h3⟩ := h.row hn
    exact ⟨k, e, h1, h2, h3.far (by omega) u⟩⟩
theorem Var.set_ (h : Var v lo b W H A n c F) {k : Nat} (hk : A = some ⟨k, 0, none⟩) (hn : 0 < n) (i : Nat) (u : Bool) : Var (v.setCell ⟨k, i, none⟩ (.bool u)) lo b W H A n c (fun j => if j = i then u else F j) := by
  obtain ⟨k', e, h1, h2, h3⟩ := h.row hn
  rw [hk] at e
  cases e
  exact ⟨h.box.far (by simp; omega) _, fun _ => ⟨k, hk, h1, h2, h3.set_ i u⟩⟩
theorem Var.new {w1 : World} (hrow : 0 < n → ∃ k, A = some ⟨k, 0, none⟩ ∧ lo ≤ k ∧ Row w1 k n F) : Var (w1.alloc (.cells #[.int .i64 W, .int .i64 H, .slice A n c] 24)) lo w1.heap.size W H A n c F :=
  ⟨Box.new w1 W H _, fun hn => by
    obtain ⟨k, e, h1, h3⟩ := hrow hn
    exact ⟨k, e, h1, h3.lt, h3.alloc _⟩⟩
theorem Var.holds (h : Var v lo b W H A n c F) : Holds v v.heap.size A n F := fun hn => by
  obtain ⟨k, rfl, _, _, h3⟩ := h.row hn
  exact h3.holds h3.lt hn
end


/-- Nothing that was there has turned. -/
structure Bl (w v : World) : Prop where
  bel : Below w.heap.size w v
theorem Bl.next {w v v' : World} (h : Bl w v) (hb : Below v.heap.size v v') : Bl w v' := ⟨h.bel.trans (hb.mono h.bel.size)⟩
theorem Bl.size {w v : World} (h : Bl w v) : w.heap.size ≤ v.heap.size := h.bel.size
/-- A draft in the variable at g, its elements below B. -/
structure DP (v : World) (g B : Nat) (D : Dr) : Prop where
  box : DBox v g D
  cells : D.In v B
  le : B ≤ v.heap.size
section
variable {v v' : World} {g B : Nat} {D : Dr}
theorem DP.next (h : DP v g B D) (hb : Below v.heap.size v v') : DP v' g B D := ⟨h.box.next hb, h.cells.below (hb.mono h.le), Nat.le_trans h.le hb.size⟩
theorem DP.in_ (h : DP v g B D) : D.In v v.heap.size := h.cells.more h.le
theorem DP.new (v : World) (h : D.In v v.heap.size) : DP (v.alloc (.cells #[.int .i64 D.S, .int .i64 D.T, .slice D.A D.n D.c, .slice D.B D.m D.d, .int .i64 D.W, .int .i64 D.H, .slice D.C D.k D.e] 30)) v.heap.size v.heap.size D :=
  ⟨DBox.new v D, h.below ((Below.refl _ _).alloc (Nat.le_refl _) _), by simp⟩
end
theorem dps2 (w : World) (D E : Dr) (hd : D.In w w.heap.size) (he : E.In w w.heap.size) :
    DP ((w.alloc (.cells #[.int .i64 D.S, .int .i64 D.T, .slice D.A D.n D.c, .slice D.B D.m D.d, .int .i64 D.W, .int .i64 D.H, .slice D.C D.k D.e] 30)).alloc (.cells #[.int .i64 E.S, .int .i64 E.T, .slice E.A E.n E.c, .slice E.B E.m E.d, .int .i64 E.W, .int .i64 E.H, .slice E.C E.k E.e] 30)) w.heap.size w.heap.size D ∧ DP ((w.alloc (.cells #[.int .i64 D.S, .int .i64 D.T, .slice D.A D.n D.c, .slice D.B D.m D.d, .int .i64 D.W, .int .i64 D.H, .slice D.C D.k D.e] 30)).alloc (.cells #[.int .i64 E.S, .int .i64 E.T, .slice E.A E.n E.c, .slice E.B E.m E.d, .int .i64 E.W, .int .i64 E.H, .slice E.C E.k E.e] 30)) (w.heap.size + 1) w.heap.size E ∧
    Bl w ((w.alloc (.cells #[.int .i64 D.S, .int .i64 D.T, .slice D.A D.n D.c, .slice D.B D.m D.d, .int .i64 D.W, .int .i64 D.H, .slice D.C D.k D.e] 30)).alloc (.cells #[.int .i64 E.S, .int .i64 E.T, .slice E.A E.n E.c, .slice E.B E.m E.d, .int .i64 E.W, .int .i64 E.H, .slice E.C E.k E.e] 30)) := by
  obtain ⟨h1, h2, h3⟩ := dboxes2 w D E
  exact ⟨⟨h1, hd.below h3, h3.size⟩, ⟨h2, he.below h3, h3.size⟩, ⟨h3⟩⟩
theorem dps1 (w : World) (D : Dr) (hd : D.In w w.heap.size) :
    DP (w.alloc (.cells #[.int .i64 D.S, .int .i64 D.T, .slice D.A D.n D.c, .slice D.B D.m D.d, .int .i64 D.W, .int .i64 D.H, .slice D.C D.k D.e] 30)) w.heap.size w.heap.size D ∧ Bl w (w.alloc (.cells #[.int .i64 D.S, .int .i64 D.T, .slice D.A D.n D.c, .slice D.B D.m D.d, .int .i64 D.W, .int .i64 D.H, .slice D.C D.k D.e] 30)) :=
  ⟨DP.new w hd, ⟨(Below.refl _ _).alloc (Nat.le_refl _) _⟩⟩
end Go.Proofs.Ytbafhdinalapoaa
