/- Parameters that are lists, read as data; lists that calls hand back. -/
import Derived.Test.YthipdfkgeghooaaIl
import Derived.Test.YthipdfkgeghooaaGa
import Derived.RangeFuncBox
import Derived.OpenShut
import Derived.ProofKit
import Derived.Lib.Builder
namespace Go.Proofs.Ythipdfkgeghooaa
open Go.RowKit Go.ChangeShapes Go.WideShapes Go.ChangeAt Go.Deep Go.Joins
set_option maxRecDepth 100000
set_option linter.unusedVariables false
set_option linter.unusedSimpArgs false

theorem open_list {H : Type} {enc : TypeId × Value → H} {w : World} {held : Bool} {r : Reach} {b0 : Nat} {v : Value} {d : DataW H} {p : List MemPlace}
    (hv : Value.okWide Try.prog w r b0 22 v) (h : DataW.Trod enc Try.prog w 0 (fun _ => true) held 22 v d p) :
    ∃ (A : Option Addr) (n c : Nat) (f : Nat → Int), v = .slice A n c ∧ L2.Holds w w.heap.size A n f ∧ (A = none → c = 0) := by
  obtain ⟨a0, len, cap, rfl⟩ := okWide_slice Try.underlying22 hv
  obtain ⟨fuel, hf⟩ := h
  rcases open_ints Try.underlying22 Try.underlying3 cells3' hf with ⟨hcs, hx⟩ | ⟨a, len', cap', zs, hcs, _, hl, hm, hz, hx, hcell, hwz⟩
  · simp [Value.cells] at hcs
    obtain ⟨rfl, rfl, rfl⟩ := hcs
    exact ⟨none, 0, 0, fun _ => 0, rfl, L2.Holds.none_, fun _ => rfl⟩
  · simp [Value.cells] at hcs
    obtain ⟨rfl, rfl, rfl⟩ := hcs
    refine ⟨some a, len, cap, fun i => zs.getD i 0, rfl, fun hn => ?_, fun h => by cases h⟩
    have hzl : len ≤ zs.length := by rw [hz]; simp; omega
    have hc0 := hcell 0 (by omega)
    obtain ⟨b, off, spot⟩ := a
    have hs : spot = none := by simpa [Addr.add] using World.cell?_spot hc0
    subst hs
    have e : ∀ i, Addr.add ⟨b, off, none⟩ i = ⟨b, off + i, none⟩ := fun i => by unfold Addr.add; by_cases h : i = 0 <;> simp [h]
    refine ⟨b, off, rfl, ?_, fun i hi => ?_⟩
    · rw [e] at hc0
      rcases Nat.lt_or_ge b w.heap.size with hb | hb
      · exact hb
      · simp [World.cell?, Array.getElem?_eq_none hb] at hc0
    · have := hcell i (by omega)
      rwa [e] at this
theorem open_blist {H : Type} {enc : TypeId × Value → H} {w : World} {held : Bool} {r : Reach} {b0 : Nat} {v : Value} {d : DataW H} {p : List MemPlace}
    (hv : Value.okWide Try.prog w r b0 55 v) (h : DataW.Trod enc Try.prog w 0 (fun _ => true) held 55 v d p) :
    ∃ (A : Option Addr) (n c : Nat) (f : Nat → Bool), v = .slice A n c ∧ Holds w w.heap.size A n f := by
  obtain ⟨a0, len, cap, rfl⟩ := okWide_slice Try.underlying55 hv
  obtain ⟨fuel, hf⟩ := h
  rcases open_bools Try.underlying55 Try.underlying4 cells4 hf with ⟨e2, _⟩ | ⟨a, len', cap', B, e2, _, hl, _, _, hc⟩
  · simp [Value.cells] at e2
    obtain ⟨rfl, rfl, rfl⟩ := e2
    exact ⟨none, 0, 0, fun _ => false, rfl, Holds.none_⟩
  · simp [Value.cells] at e2
    obtain ⟨rfl, rfl, rfl⟩ := e2
    refine ⟨some a, len, cap, B, rfl, fun hn => ?_⟩
    have hc0 := hc 0 (by omega)
    obtain ⟨b, off, spot⟩ := a
    have hs : spot = none := by simpa [Addr.add] using World.cell?_spot hc0
    subst hs
    have e : ∀ i, Addr.add ⟨b, off, none⟩ i = ⟨b, off + i, none⟩ := fun i => by unfold Addr.add; by_cases h : i = 0 <;> simp [h]
    refine ⟨b, off, rfl, ?_, fun i hi => ?_⟩
    · rw [e] at hc0
      rcases Nat.lt_or_ge b w.heap.size with hb | hb
      · exact hb
      · simp [World.cell?, Array.getElem?_eq_none hb] at hc0
    · have := hc i (by omega)
      rwa [e] at this
/-- A list that lies. -/
structure LV (v : World) (D : Option Addr) (n : Nat) (f : Nat → Int) : Prop where
  h : L2.Holds v v.heap.size D n f
theorem LV.next {v v' : World} {D : Option Addr} {n : Nat} {f : Nat → Int} (h : LV v D n f) (hb : Below v.heap.size v v') : LV v' D n f := ⟨(h.h.below hb).more hb.size⟩
theorem LV.of {v : World} {lo : Nat} {D : Option Addr} {n : Nat} {f : Nat → Int} (h : 0 < n → ∃ k, D = some ⟨k, 0, none⟩ ∧ lo ≤ k ∧ L2.Row v k n f) : LV v D n f :=
  ⟨fun hn => by obtain ⟨k, rfl, _, hr⟩ := h hn; exact hr.holds hr.lt hn⟩
theorem lv_lit (w : World) (l : List Int) (cs : Array Value) (hc : cs = (l.map fun x => Value.int .i64 x).toArray) : LV (w.alloc (.cells cs 3)) (some ⟨w.heap.size, 0, none⟩) l.length (fun i => l.getD i 0) := by
  refine ⟨fun _ => ⟨w.heap.size, 0, rfl, by simp, fun i hi => ?_⟩⟩
  rw [Lib.cell_of_heap (cs := cs) (World.alloc_heap_new w _), hc]
  show ((List.map (fun x => Value.int .i64 x) l).toArray)[0 + i]? = _
  rw [Nat.zero_add, List.getElem?_toArray, List.getElem?_map, List.getElem?_eq_getElem hi]
  simp [List.getD, List.getElem?_eq_getElem hi]
theorem lv_same {v : World} {D E : Option Addr} {n : Nat} {f g : Nat → Int} (hn : n ≤ 5000) (h : LV v D n f) (k : LV v E n g) (c d : Nat) (e : ∀ i, i < n → f i = g i) : Calls Try.prog 20 #[.slice D n c, .slice E n d] v fun e w' => e = .returned (.bool true) ∧ Below v.heap.size v w' := by
  have h1 := L2.rsame_any D E n c d f g v hn h.h k.h
  rwa [decide_eq_true e] at h1
end Go.Proofs.Ythipdfkgeghooaa
