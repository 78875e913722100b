/- A parameter of the draft type, read as data, opened to its numbers, its lists and its tie-up. -/
import Derived.Test.YtbafhdinalapoaaDoorDa
import Derived.Test.YtbafhdinalapoaaDoorGa
import Derived.Test.YtbafhdinalapoaaDoorIa
import Derived.OpenShut
import Derived.ProofKit
namespace Go.Proofs.YtbafhdinalapoaaDoor
open Go.RowKit
set_option linter.unusedVariables false
set_option linter.unusedSimpArgs false
set_option maxRecDepth 100000

open Go.ChangeShapes Go.WideShapes Go.Deep Go.Joins
theorem cells30 : Tryd.prog.cellsOf 27 = 7 := by kernel_rfl
theorem cells28 : Tryd.prog.cellsOf 22 = 1 := by kernel_rfl
theorem cells22 : Tryd.prog.cellsOf 23 = 1 := by kernel_rfl
theorem array7 {α : Type} {cs : Array α} (h : cs.size = 7) : ∃ c0 c1 c2 c3 c4 c5 c6, cs = #[c0, c1, c2, c3, c4, c5, c6] := by
  obtain ⟨l⟩ := cs
  match l, h with
  | [c0, c1, c2, c3, c4, c5, c6], _ => exact ⟨c0, c1, c2, c3, c4, c5, c6, rfl⟩

theorem open_ilist {H : Type} {enc : TypeId × Value → H} {w : World} {held : Bool} {v : Value} {y : DataW H × List MemPlace} {fuel : Nat}
    (h : DataW.trod enc Tryd.prog w 0 (fun _ => true) held fuel 22 [v] = some y) : ∃ (A : Option Addr) (n c : Nat) (f : Nat → Int), v = .slice A n c ∧ L2.Holds w w.heap.size A n f := by
  rcases open_ints Tryd.underlying22 Tryd.underlying3 L2.cells3 h with ⟨hcs, hx⟩ | ⟨a, len', cap', zs, hcs, _, hl, hm, hz, hx, hcell, hwz⟩
  · simp at hcs
    subst hcs
    exact ⟨none, 0, 0, fun _ => 0, rfl, L2.Holds.none_⟩
  · simp at hcs
    subst hcs
    refine ⟨some a, len', cap', fun i => zs.getD i 0, rfl, fun hn => ?_⟩
    have hzl : len' ≤ zs.length := by rw [hz]; simp; omega
    have hc0 := hcell 0 (by omega)
    obtain ⟨b, off, spot⟩ := a
    have hs : spot = none := by simpa [Addr.add] using World.cell?_spot hc0
    subst hs
    have e : ∀ i, Addr.add ⟨b, off, none⟩ i = ⟨b, off + i, none⟩ := fun i => by unfold Addr.add; by_cases h : i = 0 <;> simp [h]
    refine ⟨b, off, rfl, ?_, fun i hi => ?_⟩
    · rw [e] at hc0
      rcases Nat.lt_or_ge b w.heap.size with hb | hb
      · exact hb
      · simp [World.cell?, Array.getElem?_eq_none hb] at hc0
    · have := hcell i (by omega)
      rwa [e] at this

theorem open_blist {H : Type} {enc : TypeId × Value → H} {w : World} {held : Bool} {v : Value} {y : DataW H × List MemPlace} {fuel : Nat}
    (h : DataW.trod enc Tryd.prog w 0 (fun _ => true) held fuel 23 [v] = some y) : ∃ (A : Option Addr) (n c : Nat) (f : Nat → Bool), v = .slice A n c ∧ Holds w w.heap.size A n f := by
  rcases open_bools Tryd.underlying23 Tryd.underlying4 cells4 h with ⟨e2, _⟩ | ⟨a, len, cap, B, e2, _, hl, _, _, hc⟩
  · simp at e2
    subst e2
    exact ⟨none, 0, 0, fun _ => false, rfl, Holds.none_⟩
  · simp at e2
    subst e2
    refine ⟨some a, len, cap, B, rfl, fun hn => ?_⟩
    have hc0 := hc 0 (by omega)
    obtain ⟨b, off, spot⟩ := a
    have hs : spot = none := by simpa [Addr.add] using World.cell?_spot hc0
    subst hs
    have e : ∀ i, Addr.add ⟨b, off, none⟩ i = ⟨b, off + i, none⟩ := fun i => by unfold Addr.add; by_cases h : i = 0 <;> simp [h]
    refine ⟨b, off, rfl, ?_, fun i hi => ?_⟩
    · rw [e] at hc0
      rcases Nat.lt_or_ge b w.heap.size with hb | hb
      · exact hb
      · simp [World.cell?, Array.getElem?_eq_none hb] at hc0
    · have := hc i (by omega)
      rwa [e] at this

theorem open_draft {H : Type} {enc : TypeId × Value → H} {w : World} {held : Bool} {r : Reach} {b0 : Nat} {v : Value} {d : DataW H} {p : List MemPlace}
    (hv : Value.okWide Tryd.prog w r b0 27 v) (h : DataW.Trod enc Tryd.prog w 0 (fun _ => true) held 27 v d p) :
    ∃ D : Dr, v = .agg #[.int .i64 D.S, .int .i64 D.T, .slice D.A D.n D.c, .slice D.B D.m D.d, .int .i64 D.W, .int .i64 D.H, .slice D.C D.k D.e] ∧ D.In w w.heap.size := by
  obtain ⟨cs, rfl, hsz⟩ := okWide_struct Tryd.underlying27 hv
  obtain ⟨c0, c1, c2, c3, c4, c5, c6, rfl⟩ := array7 (hsz.trans cells30)
  obtain ⟨fuel, hf⟩ := h
  obtain ⟨xs, n, _, hx, hl, hlen, hfs⟩ := DataW.trod_struct Tryd.underlying27 hf
  match xs, hlen with
  | [y0, y1, y2, y3, y4], _ =>
    have f0 := hfs 0 _ rfl
    have f1 := hfs 1 _ rfl
    have f2 := hfs 2 _ rfl
    have f3 := hfs 3 _ rfl
    have f4 := hfs 4 _ rfl
    simp [Value.cells, L2.cells3, cells28, cells24] at f0 f1 f2 f3 f4
    obtain ⟨S, e0, _, _⟩ := DataW.trod_int Tryd.underlying3 f0
    obtain ⟨T, e1, _, _⟩ := DataW.trod_int Tryd.underlying3 f1
    obtain ⟨A, na, ca, fa, rfl, ha⟩ := open_ilist f2
    obtain ⟨B, nb, cb, fb, rfl, hb⟩ := open_ilist f3
    obtain ⟨xs', n', _, hx', hl', hlen', hfs'⟩ := DataW.trod_struct Tryd.underlying25 f4
    match xs', hlen' with
    | [z0, z1, z2], _ =>
      have g0 := hfs' 0 _ rfl
      have g1 := hfs' 1 _ rfl
      have g2 := hfs' 2 _ rfl
      simp [L2.cells3, cells22] at g0 g1 g2
      obtain ⟨W, e2, _, _⟩ := DataW.trod_int Tryd.underlying3 g0
      obtain ⟨H', e3, _, _⟩ := DataW.trod_int Tryd.underlying3 g1
      obtain ⟨C, nc, cc, fc, rfl, hc⟩ := open_blist g2
      simp at e0 e1 e2 e3
      subst e0 e1 e2 e3
      exact ⟨⟨S, T, A, na, ca, B, nb, cb, W, H', C, nc, cc, fa, fb, fc⟩, rfl, ha, hb, hc⟩
end Go.Proofs.YtbafhdinalapoaaDoor
