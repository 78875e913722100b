/- A parameter of the grid type, read as data, opened to its sides and its cells. -/
import Derived.Test.YtjbofdgdcnfmoaaBase
import Derived.Lib.SmallJoins
import Derived.Deep.Grids
namespace Go.Proofs.Ytjbofdgdcnfmoaa
open Go.ChangeShapes Go.WideShapes Go.RowKit Go.Deep Go.Joins
set_option maxRecDepth 100000
set_option linter.unusedVariables false
set_option linter.unusedSimpArgs false

theorem cells24 : Try.prog.cellsOf 24 = 3 := by kernel_rfl
theorem cells4 : Try.prog.cellsOf 4 = 1 := by kernel_rfl

theorem open_grid {H : Type} {enc : TypeId × Value → H} {w : World} {held : Bool} {r : Reach} {b0 : Nat} {v : Value} {d : DataW H} {p : List MemPlace}
    (hv : Value.okWide Try.prog w r b0 24 v) (h : DataW.Trod enc Try.prog w 0 (fun _ => true) held 24 v d p) :
    ∃ (W H : Int) (A : Option Addr) (n c : Nat) (f : Nat → Bool), v = .agg #[.int .i64 W, .int .i64 H, .slice A n c] ∧ (Lit.int .i64 W).wf = true ∧ (Lit.int .i64 H).wf = true ∧ Holds w w.heap.size A n f := by
  obtain ⟨v0, v1, v2, y0, y1, y2, n, rfl, _, _, h0, h1, h2⟩ := open_agg3 Try.underlying24 (by kernel_rfl) cells24 hv h
  obtain ⟨W, e0, _, w0⟩ := DataW.trod_int Try.underlying3 h0
  obtain ⟨H', e1, _, w1⟩ := DataW.trod_int Try.underlying3 h1
  simp at e0 e1
  subst e0 e1
  rcases open_bools Try.underlying22 Try.underlying4 cells4 h2 with ⟨e2, _⟩ | ⟨a, len, cap, B, e2, _, hl, _, _, hc⟩
  · simp at e2
    subst e2
    exact ⟨W, H', none, 0, 0, fun _ => false, rfl, w0, w1, Holds.none_⟩
  · simp at e2
    subst e2
    refine ⟨W, H', some a, len, cap, B, rfl, w0, w1, fun hn => ?_⟩
    have hc0 := hc 0 (by omega)
    obtain ⟨b, off, spot⟩ := a
    have hs : spot = none := by simpa [Addr.add] using World.cell?_spot hc0
    subst hs
    have e : ∀ i, Addr.add ⟨b, off, none⟩ i = ⟨b, off + i, none⟩ := fun i => by unfold Addr.add; by_cases h : i = 0 <;> simp [h]
    refine ⟨b, off, rfl, ?_, fun i hi => ?_⟩
    · rw [e] at hc0
      rcases Nat.lt_or_ge b w.heap.size with hb | hb
      · exact hb
      · simp [World.cell?, Array.getElem?_eq_none hb] at hc0
    · have := hc i (by omega)
      rwa [e] at this
end Go.Proofs.Ytjbofdgdcnfmoaa
