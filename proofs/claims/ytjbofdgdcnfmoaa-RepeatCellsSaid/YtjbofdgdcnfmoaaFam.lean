/- A region that draws its order, whose callees leave the old memory as it was: one walk in the text's order. -/
import Derived.Test.YtjbofdgdcnfmoaaBase
import Derived.BigQuiet
namespace Go.Proofs.Ytjbofdgdcnfmoaa
open Go.RowKit
set_option maxRecDepth 100000
set_option linter.unusedVariables false
set_option linter.unusedSimpArgs false

theorem wp_region_fam {P : Program} {I : Type} (Wf : I → World) (i0 : I) {id : Nat} {Q : Exit → Act → World → Prop} {a : Act} {w : World} {l : List Oper} (h0 : Wf i0 = { w with drawn := w.drawn + 1 })
    (hm : P.follows .mixedOrders = true) (hB : Region.lexB .any l.toArray = true)
    (h : wpQuiet P l.toArray (fun w' => ∃ n, w' = Wf n) (fun a' => ∀ w', (∃ n, w' = Wf n) → Q .normal a' w') l a) : (Code.region id l.toArray true).wp P Q a w :=
  wp_region_quiet (C := fun w' => ∃ n, w' = Wf n) hm hB ⟨i0, h0.symm⟩ (by simpa using h)

/-- All the worlds in which nothing below the size of v0 has turned. -/
theorem family (v0 : World) : ∃ (I : Type) (Wf : I → World) (i0 : I), Wf i0 = { v0 with drawn := v0.drawn + 1 } ∧ (∀ n, Below v0.heap.size v0 (Wf n)) ∧
    (∀ n w', Below (Wf n).heap.size (Wf n) w' → ∃ m, w' = Wf m) :=
  ⟨{w' // Below v0.heap.size v0 w'}, Subtype.val, ⟨_, (Below.refl _ _).drew⟩, rfl, fun n => n.2, fun n w' h => ⟨⟨w', n.2.trans (h.mono n.2.size)⟩, rfl⟩⟩
end Go.Proofs.Ytjbofdgdcnfmoaa
