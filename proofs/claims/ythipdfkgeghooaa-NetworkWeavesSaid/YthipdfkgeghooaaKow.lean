/- Rows of the call's own, of any cells; bools that are appended; three stores to a grid's variable. -/
import Derived.Test.YthipdfkgeghooaaIl
import Derived.Test.YthipdfkgeghooaaGc
import Derived.OwnWalk
import Derived.Laws.AppendOwnNone
import Derived.Maps.AppendAt
import Derived.Laws.OwnMore
import Derived.Deep.RegionLawGrows
import Derived.BigRegion
namespace Go.Proofs.Ythipdfkgeghooaa
open Go.RowKit
set_option maxRecDepth 100000
set_option linter.unusedVariables false
set_option linter.unusedSimpArgs false

/-- A slice's length and room. -/
def Cp (D : Option Addr) (n c : Nat) : Prop := (D = none → c = 0) ∧ n ≤ c
theorem cp_nil : Cp none 0 0 := ⟨fun _ => rfl, Nat.le_refl _⟩
theorem orow_keep {w w' : World} {base : Nat} {e : TypeId} {s n : Nat} {v : Value} {xs : List Value} (h : w.ownsRow base e s v n xs) (hb : ∀ k, base ≤ k → v.ownBlock = some k → w'.heap[k]? = w.heap[k]?) : w'.ownsRow base e s v n xs := by
  rcases h with ⟨hl, ⟨hv, hn⟩ | ⟨g, cap, cur, hv, hg, hc, r⟩⟩
  · exact ⟨hl, .inl ⟨hv, hn⟩⟩
  · exact ⟨hl, .inr ⟨g, cap, cur, hv, hg, (hb g hg (by rw [hv]; rfl)).trans hc, r⟩⟩
theorem orow_block {w : World} {base : Nat} {e : TypeId} {s n : Nat} {v : Value} {xs : List Value} (h : w.ownsRow base e s v n xs) {k : Nat} (hk : v.ownBlock = some k) : base ≤ k ∧ k < w.heap.size ∧ ∃ cur, w.heap[k]? = some (.cells cur e (0, 0)) := by
  rcases h with ⟨hl, ⟨hv, hn⟩ | ⟨g, cap, cur, hv, hg, hc, r⟩⟩
  · rw [hv] at hk; cases hk
  · rw [hv] at hk
    cases hk
    exact ⟨hg, (Array.getElem?_eq_some_iff.1 hc).1, cur, hc⟩
theorem orow_shape {w : World} {base : Nat} {e : TypeId} {s n : Nat} {v : Value} {xs : List Value} (h : w.ownsRow base e s v n xs) : ∃ A c, v = .slice A n c := by
  rcases h with ⟨hl, ⟨hv, hn⟩ | ⟨g, cap, cur, hv, _⟩⟩
  · exact ⟨none, 0, by rw [hv, hn]⟩
  · exact ⟨_, _, hv⟩
theorem orow_type {w : World} {base n k : Nat} {v : Value} {xs : List Value} {e : TypeId} {s : Nat} (h : w.ownsRow base e s v n xs) (hk : v.ownBlock = some k) : ∃ cs, w.heap[k]? = some (.cells cs e (0, 0)) := by
  obtain ⟨_, _, cur, hc⟩ := orow_block h hk
  exact ⟨cur, hc⟩
theorem orow_cp {w : World} {base n : Nat} {A : Option Addr} {c : Nat} {xs : List Value} {e : TypeId} (h : w.ownsRow base e 1 (.slice A n c) n xs) : Cp A n c := by
  rcases h with ⟨_, ⟨hv, hn⟩ | ⟨g, cap, cur, hv, _, _, hc, _⟩⟩
  · cases hv
    exact ⟨fun _ => rfl, Nat.le_refl _⟩
  · cases hv
    exact ⟨(fun h => by cases h), hc⟩
theorem bel_alloc (w : World) (o : Obj) : Below w.heap.size w (w.alloc o) := (Below.refl _ _).alloc (Nat.le_refl _) _
theorem newsb_succ (n : Nat) (f : Nat → Bool) : news (n + 1) f = news n f ++ [.bool (f n)] := by
  unfold news
  rw [List.range_succ, List.map_append]; rfl
/-- Bools of the call's own. -/
def OwB (w : World) (base : Nat) (v : Value) (n : Nat) (f : Nat → Bool) : Prop := w.ownsRow base 4 1 v n (news n f)
section
variable {w w' : World} {base n : Nat} {v : Value} {f : Nat → Bool}
theorem OwB.below (h : OwB w base v n f) (hb : Below w.heap.size w w') : OwB w' base v n f := orow_keep h fun k _ hk => hb.block k (orow_block h hk).2.1
theorem OwB.far (h : OwB w base v n f) {p : Addr} (hp : p.block < base) (u : Value) : OwB (w.setCell p u) base v n f :=
  orow_keep h fun k hk _ => Below.heap_setCell w p u k (by omega)
theorem OwB.alloc (h : OwB w base v n f) (o : Obj) : OwB (w.alloc o) base v n f := orow_keep h fun k _ hk => Below.heap_alloc w o k (orow_block h hk).2.1
theorem OwB.drew (h : OwB w base v n f) : OwB w.drew base v n f := h
theorem OwB.out (h : OwB w base v n f) : ∃ A c, v = .slice A n c ∧ Cp A n c ∧ Holds w w.heap.size A n f := by
  obtain ⟨A, c, e⟩ := orow_shape h
  subst e
  refine ⟨A, c, rfl, orow_cp h, fun hn => ?_⟩
  have h2 := h
  rcases h2.2 with ⟨e0, e1⟩ | ⟨g, cap, cur, e0, _⟩
  · omega
  · cases e0
    exact (Row.of_own h hn).holds (Row.of_own h hn).lt hn
end
/-- 'append(s, b)' at a step of a region that draws its order. -/
theorem step_appb {ops : Array Oper} {o : Oper} {a : Act} {w : World} {K : Act → World → Prop} {Q : Exit → Act → World → Prop} {E : Prop} (hgd : o.guard = none) (s x : Operand)
    (ho : o.op = .call { callee := .builtin .append, args := #[s, x], argTypes := #[55, 55] }) (base : Nat) {v : Value} {n : Nat} {f : Nat → Bool} (hs : a.eval s = v) (hown : OwB w base v n f)
    (y : Bool) (g : Nat) (hx : a.eval x = .slice (some ⟨g, 0, none⟩) 1 1) (hc : w.cell? ⟨g, 0, none⟩ = some (.bool y)) (hy : f n = y) (hn : n ≤ 100000) (hb : base ≤ w.heap.size)
    (h : ∀ v' w', OwB w' base v' (n + 1) f → Below base w w' → K (a.put o.dst v') w') : if Region.wanted o (yielded ops a.tmps) = true then Oper.wp Try.prog o a w K Q else E := by
  have hw : Region.wanted o (yielded ops a.tmps) = true := by simp [Region.wanted, hgd]
  rw [if_pos hw]
  obtain ⟨i0, hi, hz0, hz1, hz2⟩ := info_parts Try.info4
  obtain ⟨v', w', hrun, h1, h2, _, hat⟩ := run_append_own_at (P := Try.prog) w base 55 o.type 4 i0 (.bool false) 1 1 Try.underlying55 hi hz0 hz1 hz2 rfl (by decide) v n _ hown ⟨g, 0, none⟩ 1 1 [.bool y] rfl
    (by intro j u hj; match j, hj with | 0, hj => (simp at hj; subst hj; simpa [Addr.add] using hc)) (by intro u hu; simp at hu; rw [hu]; rfl) (by unfold maxLen; omega) (by omega) hb
  unfold Oper.wp
  simp [execOp, ho, resolve, invoke, builtin, hs, hx, hrun, Result.andThen]
  refine h v' w' ?_ ?_
  · unfold OwB
    rw [newsb_succ, hy]
    exact h1
  · exact Below.grown (Below.refl _ _) h2 hb fun k hk => (orow_block hown hk).1
/-- A grid came back. -/
def OkG (w : World) (W H : Nat) (F : Nat → Bool) (e : Ending) (w' : World) : Prop :=
  ∃ A c, e = .returned (.tuple #[.agg #[.int .i64 W, .int .i64 H, .slice A (W * H) c], .int .i64 0]) ∧ Cp A (W * H) c ∧ Holds w' w'.heap.size A (W * H) F ∧ Below w.heap.size w w'
theorem Box.put2 {w : World} {g : Nat} {W H : Int} {v : Value} (h : Box w g W H v) (u : Value) : Box (w.setCell ⟨g, 2, none⟩ u) g W H u := by
  unfold Box at h ⊢
  simp [World.setCell, Array.getElem?_modify, h]
theorem Row.ne_box {w : World} {k g n : Nat} {f : Nat → Bool} {X Y : Int} {v : Value} (h : Row w k n f) (hx : Box w g X Y v) : k ≠ g := by
  rintro rfl
  obtain ⟨cs, h1, _⟩ := h
  unfold Box at hx
  rw [h1] at hx
  cases hx
theorem Row.st3 {w : World} {k g n : Nat} {f : Nat → Bool} (h : Row w k n f) (hk : k ≠ g) (x y z : Value) : Row (((w.setCell ⟨g, 0, none⟩ x).setCell ⟨g, 1, none⟩ y).setCell ⟨g, 2, none⟩ z) k n f :=
  ((h.far (p := ⟨g, 0, none⟩) hk x).far (p := ⟨g, 1, none⟩) hk y).far (p := ⟨g, 2, none⟩) hk z
theorem Holds.far {w : World} {A : Option Addr} {n : Nat} {f : Nat → Bool} {B : Nat} (h : Holds w B A n f) {p : Addr} (hne : 0 < n → ∀ b o, A = some ⟨b, o, none⟩ → b ≠ p.block) (u : Value) : Holds (w.setCell p u) B A n f := fun h0 => by
  obtain ⟨b, o, e, hb, hc⟩ := h h0
  exact ⟨b, o, e, hb, fun i hi => (World.cell?_of_block (w := w) (w' := w.setCell p u) (a := ⟨b, o + i, none⟩) (Below.heap_setCell w p u b (hne h0 b o e))).trans (hc i hi)⟩
theorem Holds.congr {w : World} {B n : Nat} {A : Option Addr} {f g : Nat → Bool} (h : Holds w B A n f) (e : ∀ i, i < n → f i = g i) : Holds w B A n g := fun h0 => by
  obtain ⟨b, o, h1, h2, h3⟩ := h h0
  exact ⟨b, o, h1, h2, fun i hi => by rw [h3 i hi, e i hi]⟩
theorem Holds.drw {w : World} {A : Option Addr} {n : Nat} {f : Nat → Bool} {B : Nat} (h : Holds w B A n f) : Holds w.drew B A n f := h
theorem Holds.st3 {w : World} {A : Option Addr} {n : Nat} {f : Nat → Bool} {B g : Nat} (h : Holds w B A n f) (hne : 0 < n → ∀ b o, A = some ⟨b, o, none⟩ → b ≠ g) (x y z : Value) : Holds (((w.setCell ⟨g, 0, none⟩ x).setCell ⟨g, 1, none⟩ y).setCell ⟨g, 2, none⟩ z) B A n f :=
  ((h.far (p := ⟨g, 0, none⟩) hne x).far (p := ⟨g, 1, none⟩) hne y).far (p := ⟨g, 2, none⟩) hne z
theorem Box.st3 {w : World} {g : Nat} {X Y : Int} {v : Value} (h : Box w g X Y v) (V U : Int) (u : Value) : Box (((w.setCell ⟨g, 0, none⟩ (.int .i64 V)).setCell ⟨g, 1, none⟩ (.int .i64 U)).setCell ⟨g, 2, none⟩ u) g V U u := by
  unfold Box at h ⊢
  simp [World.setCell, Array.getElem?_modify, h]
theorem Box.st3f {w : World} {g k : Nat} {X Y : Int} {v : Value} (h : Box w g X Y v) (hk : g ≠ k) (x y z : Value) : Box (((w.setCell ⟨k, 0, none⟩ x).setCell ⟨k, 1, none⟩ y).setCell ⟨k, 2, none⟩ z) g X Y v :=
  ((h.far (p := ⟨k, 0, none⟩) hk x).far (p := ⟨k, 1, none⟩) hk y).far (p := ⟨k, 2, none⟩) hk z
theorem bel_st3 {B : Nat} {w u : World} (h : Below B w u) {g : Nat} (hg : B ≤ g) (a b d : Value) : Below B w (((u.setCell ⟨g, 0, none⟩ a).setCell ⟨g, 1, none⟩ b).setCell ⟨g, 2, none⟩ d) :=
  ((h.setCell (p := ⟨g, 0, none⟩) hg _).setCell (p := ⟨g, 1, none⟩) hg _).setCell (p := ⟨g, 2, none⟩) hg _
theorem halloc (w : World) (o : Obj) : (w.alloc o).heap[w.heap.size]? = some o := by
  show (w.heap.push o)[w.heap.size]? = some o
  simp
theorem addr_add (k j : Nat) : (⟨k, 0, none⟩ : Addr).add j = ⟨k, j, none⟩ := by
  unfold Addr.add; split <;> simp_all
end Go.Proofs.Ythipdfkgeghooaa
