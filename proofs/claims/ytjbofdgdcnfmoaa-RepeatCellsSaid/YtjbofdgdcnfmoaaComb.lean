/- The function value that 'combine' hands to 'build', for 'and' and for 'or'. -/
import Derived.Test.YtjbofdgdcnfmoaaClo
namespace Go.Proofs.Ytjbofdgdcnfmoaa
open Go.RowKit
set_option maxRecDepth 100000
set_option linter.unusedVariables false
set_option linter.unusedSimpArgs false

/-- A captured function value in a variable of its own. -/
def FnAt (w : World) (g k : Nat) : Prop := w.cell? ⟨g, 0, none⟩ = some (.func (.func k) #[] #[]) ∧ g < w.heap.size
theorem FnAt.below {w w' : World} {g k : Nat} (h : FnAt w g k) (hb : Below w.heap.size w w') : FnAt w' g k :=
  ⟨(hb.cell (p := ⟨g, 0, none⟩) h.2).trans h.1, Nat.lt_of_lt_of_le h.2 hb.size⟩

/-- What the region of 'combine''s function value reads. -/
theorem comb_keep {w w' : World} {ga gb go k W H c d : Nat} {A D : Option Addr} {f g : Nat → Bool} (ha : Grid w ga W H A c f) (hb : Grid w gb W H D d g) (ho : FnAt w go k) (h : Below w.heap.size w w') :
    w'.cell? ⟨go, 0, none⟩ = some (.func (.func k) #[] #[]) ∧ w'.cell? ⟨ga, 0, none⟩ = some (.int .i64 W) ∧ w'.cell? ⟨ga, 1, none⟩ = some (.int .i64 H) ∧ w'.cell? ⟨ga, 2, none⟩ = some (.slice A (W * H) c) ∧
    w'.cell? ⟨gb, 0, none⟩ = some (.int .i64 W) ∧ w'.cell? ⟨gb, 1, none⟩ = some (.int .i64 H) ∧ w'.cell? ⟨gb, 2, none⟩ = some (.slice D (W * H) d) :=
  ⟨(ho.below h).1, (ha.below h).box.c0, (ha.below h).box.c1, (ha.below h).box.c2, (hb.below h).box.c0, (hb.below h).box.c1, (hb.below h).box.c2⟩


end Go.Proofs.Ytjbofdgdcnfmoaa
