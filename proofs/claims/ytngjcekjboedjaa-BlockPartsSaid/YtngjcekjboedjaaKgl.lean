/- Layer 13: lists of grids and lists of lists, as they come in. -/
import Derived.Test.YtngjcekjboedjaaKmb
import Derived.Test.YtngjcekjboedjaaOpl
import Derived.Deep.Matrix
import Derived.Deep.Strs
namespace Go.Proofs.Ytngjcekjboedjaa
open Go.RowKit Go.ChangeShapes Go.WideShapes Go.ChangeAt Go.Deep Go.Joins
set_option maxRecDepth 100000
set_option linter.unusedVariables false
set_option linter.unusedSimpArgs false

/-- A grid without memory: its sides, its slice and its cells. -/
structure GV where
  (W H : Int)
  (A : Option Addr)
  (n c : Nat)
  (f : Nat → Bool)
instance : Inhabited GV := ⟨⟨0, 0, none, 0, 0, fun _ => false⟩⟩
/-- A list of grids lies in memory. -/
def GLs (w : World) (D : Option Addr) (m : Nat) (G : Nat → GV) : Prop :=
  0 < m → ∃ b o, D = some ⟨b, o, none⟩ ∧ b < w.heap.size ∧ ∀ i, i < m → w.cell? ⟨b, o + i * 3, none⟩ = some (.int .i64 (G i).W) ∧ w.cell? ⟨b, o + i * 3 + 1, none⟩ = some (.int .i64 (G i).H) ∧
    w.cell? ⟨b, o + i * 3 + 2, none⟩ = some (.slice (G i).A (G i).n (G i).c) ∧ Holds w w.heap.size (G i).A (G i).n (G i).f
/-- A list without memory. -/
structure IV where
  (A : Option Addr)
  (n c : Nat)
  (f : Nat → Int)
instance : Inhabited IV := ⟨⟨none, 0, 0, fun _ => 0⟩⟩
/-- A list of lists lies in memory. -/
def ILs (w : World) (D : Option Addr) (m : Nat) (L : Nat → IV) : Prop :=
  0 < m → ∃ b o, D = some ⟨b, o, none⟩ ∧ b < w.heap.size ∧ ∀ i, i < m → w.cell? ⟨b, o + i, none⟩ = some (.slice (L i).A (L i).n (L i).c) ∧ L2.Holds w w.heap.size (L i).A (L i).n (L i).f ∧ ((L i).A = none → (L i).c = 0) ∧ (L i).n ≤ (L i).c
section
variable {w w' : World} {D : Option Addr} {m : Nat} {G : Nat → GV} {L : Nat → IV}
theorem GLs.below (h : GLs w D m G) (hb : Below w.heap.size w w') : GLs w' D m G := fun h0 => by
  obtain ⟨b, o, e, hl, hc⟩ := h h0
  refine ⟨b, o, e, Nat.lt_of_lt_of_le hl hb.size, fun i hi => ?_⟩
  obtain ⟨h1, h2, h3, h4⟩ := hc i hi
  exact ⟨(hb.cell (p := ⟨b, _, none⟩) hl).trans h1, (hb.cell (p := ⟨b, _, none⟩) hl).trans h2, (hb.cell (p := ⟨b, _, none⟩) hl).trans h3, (h4.below hb).more hb.size⟩
theorem GLs.le {k : Nat} (h : GLs w D m G) (hk : k ≤ m) : GLs w D k G := fun h0 => by
  obtain ⟨b, o, e, hl, hc⟩ := h (by omega)
  exact ⟨b, o, e, hl, fun i hi => hc i (by omega)⟩
theorem ILs.below (h : ILs w D m L) (hb : Below w.heap.size w w') : ILs w' D m L := fun h0 => by
  obtain ⟨b, o, e, hl, hc⟩ := h h0
  refine ⟨b, o, e, Nat.lt_of_lt_of_le hl hb.size, fun i hi => ?_⟩
  obtain ⟨h1, h2, h3⟩ := hc i hi
  exact ⟨(hb.cell (p := ⟨b, _, none⟩) hl).trans h1, (h2.below hb).more hb.size, h3⟩
end
theorem addr_at {b off i : Nat} : Addr.add ⟨b, off, none⟩ i = ⟨b, off + i, none⟩ := by unfold Addr.add; by_cases h : i = 0 <;> simp [h]
theorem lt_of_cell {w : World} {b o : Nat} {u : Value} (h : w.cell? ⟨b, o, none⟩ = some u) : b < w.heap.size := by
  rcases Nat.lt_or_ge b w.heap.size with hb | hb
  · exact hb
  · simp [World.cell?, Array.getElem?_eq_none hb] at h
theorem open_cells3 {H : Type} {enc : TypeId × Value → H} {P : Program} {w : World} {base : Nat} {spare : Nat → Bool} {held : Bool} {t : TypeId} {f0 f1 f2 : Field} {fuel : Nat} {c0 c1 c2 : Value} {x : DataW H × List MemPlace} (hs : P.underlying t = some (.struct #[f0, f1, f2])) (hone : oneCellFields P #[f0, f1, f2] = true)
    (h : DataW.trod enc P w base spare held fuel t [c0, c1, c2] = some x) :
    ∃ (y0 y1 y2 : DataW H × List MemPlace) (n : Nat), DataW.trod enc P w base spare held n f0.type [c0] = some y0 ∧ DataW.trod enc P w base spare held n f1.type [c1] = some y1 ∧ DataW.trod enc P w base spare held n f2.type [c2] = some y2 := by
  obtain ⟨y0, y1, y2, n, hx, _, h0, h1, h2⟩ := trod_struct3 hs h
  obtain ⟨o0, k0⟩ := hone_of hone 0 f0 rfl
  obtain ⟨o1, k1⟩ := hone_of hone 1 f1 rfl
  obtain ⟨o2, k2⟩ := hone_of hone 2 f2 rfl
  exact ⟨y0, y1, y2, n, by simpa [o0, k0] using h0, by simpa [o1, k1] using h1, by simpa [o2, k2] using h2⟩
theorem open_grids {H : Type} {enc : TypeId × Value → H} {w : World} {held : Bool} {r : Reach} {b0 : Nat} {v : Value} {d : DataW H} {p : List MemPlace}
    (hv : Value.okWide Try.prog w r b0 64 v) (h : DataW.Trod enc Try.prog w 0 (fun _ => true) held 64 v d p) :
    ∃ (D : Option Addr) (m c : Nat) (G : Nat → GV), v = .slice D m c ∧ GLs w D m G := by
  obtain ⟨a0, len, cap, rfl⟩ := okWide_slice Try.underlying64 hv
  obtain ⟨fuel, hf⟩ := h
  rcases open_slice Try.underlying64 hf with ⟨hcs, hx⟩ | ⟨a, len', cap', m, n, D, Pl, hcs, hb, hl, hm, hmm, hx, he⟩
  · simp [Value.cells] at hcs
    obtain ⟨rfl, rfl, rfl⟩ := hcs
    exact ⟨none, 0, 0, fun _ => default, rfl, fun h => absurd h (Nat.lt_irrefl 0)⟩
  · simp [Value.cells] at hcs
    obtain ⟨rfl, rfl, rfl⟩ := hcs
    simp only [if_true] at hmm
    subst hmm
    rw [cells24] at he
    obtain ⟨b, off, spot⟩ := a
    have each : ∀ i, i < len → ∃ g : GV, w.cell? ((Addr.add ⟨b, off, spot⟩ (i * 3)).add 0) = some (.int .i64 g.W) ∧ w.cell? ((Addr.add ⟨b, off, spot⟩ (i * 3)).add 1) = some (.int .i64 g.H) ∧ w.cell? ((Addr.add ⟨b, off, spot⟩ (i * 3)).add 2) = some (.slice g.A g.n g.c) ∧ Holds w w.heap.size g.A g.n g.f := by
      intro i hi
      obtain ⟨cs', h1, h2⟩ := he i (by omega)
      obtain ⟨_, hlen, hc⟩ := World.cells?_some h1
      match cs', hlen with
      | [c0, c1, c2], _ =>
        have k0 := hc 0 (by omega)
        have k1 := hc 1 (by omega)
        have k2 := hc 2 (by omega)
        obtain ⟨y0, y1, y2, n2, e0, e1, e2⟩ := open_cells3 Try.underlying24 (by kernel_rfl) h2
        obtain ⟨W, e0, _, w0⟩ := DataW.trod_int Try.underlying3 e0
        obtain ⟨H', e1, _, w1⟩ := DataW.trod_int Try.underlying3 e1
        simp at e0 e1
        subst e0 e1
        rcases open_bools Try.underlying22 Try.underlying4 cells4 e2 with ⟨e2, _⟩ | ⟨a, len, cap, B, e2, _, hl, _, _, hcc⟩
        · simp at e2
          subst e2
          exact ⟨⟨W, H', none, 0, 0, fun _ => false⟩, k0, k1, k2, Holds.none_⟩
        · simp at e2
          subst e2
          refine ⟨⟨W, H', some a, len, cap, B⟩, k0, k1, k2, fun (hn : 0 < len) => ?_⟩
          have hc0 := hcc 0 (by omega)
          obtain ⟨b', off', spot'⟩ := a
          have hs : spot' = none := by simpa [Addr.add] using World.cell?_spot hc0
          subst hs
          rw [addr_at] at hc0
          refine ⟨b', off', rfl, lt_of_cell hc0, fun j (hj : j < len) => ?_⟩
          have := hcc j (by omega)
          rwa [addr_at] at this
    obtain ⟨G, hG⟩ := choose_lt each
    refine ⟨_, _, _, G, rfl, fun h0 => ?_⟩
    have hs : spot = none := by simpa [Addr.add] using World.cell?_spot (hG 0 h0).1
    subst hs
    have hl0 := (hG 0 h0).1
    rw [addr_at, addr_at] at hl0
    refine ⟨b, off, rfl, lt_of_cell hl0, fun i hi => ?_⟩
    obtain ⟨h1, h2, h3, h4⟩ := hG i hi
    rw [addr_at, addr_at] at h1 h2 h3
    exact ⟨h1, h2, h3, h4⟩
theorem cells45' : Try.prog.cellsOf 45 = 1 := by kernel_rfl
theorem open_lists {H : Type} {enc : TypeId × Value → H} {w : World} {held : Bool} {r : Reach} {b0 : Nat} {v : Value} {d : DataW H} {p : List MemPlace}
    (hv : Value.okWide Try.prog w r b0 75 v) (h : DataW.Trod enc Try.prog w 0 (fun _ => true) held 75 v d p) :
    ∃ (D : Option Addr) (m c : Nat) (L : Nat → IV), v = .slice D m c ∧ ILs w D m L := by
  obtain ⟨a0, len, cap, rfl⟩ := okWide_slice Try.underlying75 hv
  obtain ⟨fuel, hf⟩ := h
  rcases open_int_rows Try.underlying75 Try.underlying45 Try.underlying3 cells45' cells3' hf with ⟨hcs, hx⟩ | ⟨a, len', cap', A, L, C, Z, hcs, hb, hl, hm, hx, hr⟩
  · simp [Value.cells] at hcs
    obtain ⟨rfl, rfl, rfl⟩ := hcs
    exact ⟨none, 0, 0, fun _ => default, rfl, fun h => absurd h (Nat.lt_irrefl 0)⟩
  · simp [Value.cells] at hcs
    obtain ⟨rfl, rfl, rfl⟩ := hcs
    obtain ⟨b, off, spot⟩ := a
    refine ⟨_, _, _, fun i => ⟨A i, L i, C i, fun j => (Z i).getD j 0⟩, rfl, fun h0 => ?_⟩
    have hs : spot = none := by simpa [Addr.add] using World.cell?_spot (hr 0 (by omega)).1
    subst hs
    have hl0 := (hr 0 (by omega)).1
    rw [addr_at] at hl0
    refine ⟨b, off, rfl, lt_of_cell hl0, fun i hi => ?_⟩
    obtain ⟨h1, h2, h3, h4, h5, h6, h7⟩ := hr i (by omega)
    rw [addr_at] at h1
    refine ⟨h1, fun (hn : 0 < L i) => ?_, h6, h2⟩
    cases hA : A i with
    | none => have := h6 hA; omega
    | some a' =>
      obtain ⟨b', off', spot'⟩ := a'
      obtain ⟨_, hc⟩ := h7 _ hA
      have hs : spot' = none := by simpa [Addr.add] using World.cell?_spot (hc 0 (by omega))
      subst hs
      have hc0 := hc 0 (by omega)
      rw [addr_at] at hc0
      refine ⟨b', off', hA, lt_of_cell hc0, fun j (hj : j < L i) => ?_⟩
      have := hc j (by omega)
      rwa [addr_at] at this
end Go.Proofs.Ytngjcekjboedjaa
