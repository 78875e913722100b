/- Merged: Hst Hrf Hrg. -/
import Derived.Test.YtgmcbdnfgdmmaaaHvv
import Derived.Test.YtgmcbdnfgdmmaaaVra
import Derived.Deep.LoopGhost

/- The search of the reference: Steps and Upon. -/
namespace Go.Proofs.Ytgmcbdnfgdmmaaa
open Go.RowKit
set_option maxRecDepth 100000
set_option linter.unusedVariables false
set_option linter.unusedSimpArgs false

theorem Bf.bd {R : Nat → Nat → Bool} {N tt k j : Nat} {s : St} (h : Bf R N tt k j s) (a : Nat) : -1 ≤ s.far a ∧ s.far a ≤ (N : Nat) := by
  by_cases hm : ∃ m, m < s.q.length ∧ s.at m = a
  · obtain ⟨m, m1, m2⟩ := hm
    have := h.fq m m1
    have := h.len
    rw [m2] at *
    omega
  · have := h.neg a fun i hi e => hm ⟨i, hi, e⟩
    omega
theorem vis_yes {R : Nat → Nat → Bool} {c a : Nat} {s : St} (h : s.far a < 0) (hR : R a c = true) : vis R c s a = ⟨fun j => if j = a then s.far c + 1 else s.far j, s.q ++ [a]⟩ := by
  unfold vis
  rw [decide_eq_true h, hR]; rfl
theorem vis_old {R : Nat → Nat → Bool} {c a : Nat} {s : St} (h : ¬ s.far a < 0) : vis R c s a = s := by
  unfold vis
  rw [decide_eq_false h]; rfl
theorem vis_off {R : Nat → Nat → Bool} {c a : Nat} {s : St} (hR : R a c = false) : vis R c s a = s := by
  unfold vis
  rw [hR, Bool.and_false]; rfl
theorem lf_at (s : St) (i : Nat) : lf s.q i = (s.at i : Nat) := rfl
theorem own_one (w : World) {base : Nat} (hb : base ≤ w.heap.size) (y : Nat) : L2.Own (w.alloc (.cells #[.int .i64 (y : Nat)] 3)) base (.slice (some ⟨w.heap.size, 0, none⟩) 1 1) 1 (lf [y]) :=
  ⟨by rw [L2.news_length], .inr ⟨w.heap.size, 1, #[.int .i64 (y : Nat)], rfl, hb, World.alloc_heap_new w _, Nat.le_refl _, by unfold maxLen; omega, rfl, rfl⟩⟩
theorem own_app {w : World} {base : Nat} {v : Value} {l : List Nat} (h : L2.Own w base v l.length (lf l)) (y : Nat) : L2.Own w base v l.length (lf (l ++ [y])) := h.congr fun i hi => lf_app hi
end Go.Proofs.Ytgmcbdnfgdmmaaa

/- The reference: Upon, first, Hangs, Apart. -/
namespace Go.Proofs.Ytgmcbdnfgdmmaaa
open Go.RowKit
set_option maxRecDepth 100000
set_option linter.unusedVariables false
set_option linter.unusedSimpArgs false

/-- A list lies in memory. -/
def LL (w : World) (D : Option Addr) (l : List Nat) : Prop := L2.Holds w w.heap.size D l.length (lf l)
theorem LL.below {w w' : World} {D : Option Addr} {l : List Nat} (h : LL w D l) (hb : Below w.heap.size w w') : LL w' D l := (L2.Holds.below h hb).more hb.size
theorem LL.of {w : World} {lo : Nat} {D : Option Addr} {l : List Nat} (h : 0 < l.length → ∃ k, D = some ⟨k, 0, none⟩ ∧ lo ≤ k ∧ L2.Row w k l.length (lf l)) : LL w D l := fun hn => by
  obtain ⟨k, e, _, hr⟩ := h hn
  rw [e]
  exact hr.holds hr.lt hn
/-- A slice's length and room. -/
def Cp (D : Option Addr) (n c : Nat) : Prop := (D = none → c = 0) ∧ n ≤ c
theorem cp_nil : Cp none 0 0 := ⟨fun _ => rfl, Nat.le_refl _⟩
theorem own_cap {w : World} {base : Nat} {A : Option Addr} {n c : Nat} {f : Nat → Int} (h : L2.Own w base (.slice A n c) n f) : n ≤ c := by
  rcases h with ⟨_, ⟨hv, hn⟩ | ⟨g, cap, cur, hv, _, _, hc, _⟩⟩
  · omega
  · cases hv; exact hc
/-- A list came back. -/
def LR (w : World) (l : List Nat) (e : Ending) (w' : World) : Prop :=
  ∃ D c, e = .returned (.slice D l.length c) ∧ Cp D l.length c ∧ LL w' D l ∧ Below w.heap.size w w'
theorem lr_end {w w' : World} {l : List Nat} {v : Value} {base : Nat} (h : L2.Own w' base v l.length (lf l)) (hs : w.heap.size ≤ base) (hb : Below w.heap.size w w') : LR w l (.returned v) w' := by
  obtain ⟨A', c', rfl, h1, h2⟩ := h.out
  exact ⟨A', c', rfl, ⟨h1, own_cap h⟩, LL.of h2, hb⟩
/-- How the first set of the fewest is looked for. -/
structure FR (R : Nat → Nat → Bool) (N a b : Nat) : Prop where
  lt : b < N
  lo : a ≤ t0 R N → sz R N (t0 R N) < sz R N b
  hi : t0 R N < a → ofl (up R N b) N = ofl (up R N (t0 R N)) N
theorem FR.start {R : Nat → Nat → Bool} {N : Nat} (h : 0 < N) : FR R N 1 0 := by
  refine ⟨h, fun h1 => (t0_least h).2 (by omega), fun h1 => ?_⟩
  have e : t0 R N = 0 := by omega
  rw [e]
theorem FR.keep {R : Nat → Nat → Bool} {N a b : Nat} (h : FR R N a b) (ha : a < N) (h1 : ¬ sz R N a < sz R N b) : FR R N (a + 1) b := by
  refine ⟨h.lt, fun h2 => h.lo (by omega), fun h2 => ?_⟩
  rcases Nat.lt_or_ge (t0 R N) a with c | c
  · exact h.hi c
  · have e : t0 R N = a := by omega
    have := h.lo c
    rw [e] at this
    exact absurd this h1
theorem FR.less {R : Nat → Nat → Bool} {N a b : Nat} (h : FR R N a b) (ha : a < N) (h1 : sz R N a < sz R N b) : FR R N (a + 1) a := by
  refine ⟨ha, fun h2 => (t0_least ha).2 (by omega), fun h2 => ?_⟩
  rcases Nat.lt_or_ge (t0 R N) a with c | c
  · have e := h.hi c
    have h3 : sz R N b = sz R N (t0 R N) := by unfold sz; rw [e]
    have := (t0_least (R := R) ha).1
    omega
  · have e : t0 R N = a := by omega
    rw [e]
theorem FR.head {R : Nat → Nat → Bool} {N a b : Nat} (h : FR R N a b) (ha : a < N) (h1 : sz R N a = sz R N b) (h2 : lf (ofl (up R N a) N) 0 < lf (ofl (up R N b) N) 0) : FR R N (a + 1) a := by
  refine ⟨ha, fun h2 => (t0_least ha).2 (by omega), fun h3 => ?_⟩
  rcases Nat.lt_or_ge (t0 R N) a with c | c
  · have e := h.hi c
    have h4 : sz R N a = sz R N (t0 R N) := by rw [h1]; unfold sz; rw [e]
    have hh := t0_head (R := R) (N := N) (by omega)
    rw [e] at h2
    unfold lf at h2
    rw [List.getD_eq_getElem?_getD, List.getD_eq_getElem?_getD, hh] at h2
    cases hx : (ofl (up R N a) N)[0]? with
    | none =>
      have := up_self (R := R) ha
      obtain ⟨i, hi, _⟩ := ofl_ix ha this
      rw [List.getElem?_eq_none_iff] at hx
      omega
    | some u =>
      have := t0_other ha h4 hx
      rw [hx] at h2
      simp at h2
      omega
  · have e : t0 R N = a := by omega
    have := h.lo c
    rw [e] at this
    omega
theorem ofl_pos {R : Nat → Nat → Bool} {N a : Nat} (ha : a < N) : 0 < (ofl (up R N a) N).length := by
  obtain ⟨i, hi, _⟩ := ofl_ix ha (up_self (R := R) ha)
  omega
end Go.Proofs.Ytgmcbdnfgdmmaaa

/- The reference: Hangs, Apart, way, Walk. -/
namespace Go.Proofs.Ytgmcbdnfgdmmaaa
open Go.RowKit
set_option maxRecDepth 100000
set_option linter.unusedVariables false
set_option linter.unusedSimpArgs false

theorem hgs_int {R : Nat → Nat → Bool} {N L : Nat} (h : (ofl (up R N (t0 R N)) N).length = L) : ((L : Int) == (N : Int)) = hgs R N := by
  subst h
  unfold hgs sz
  rw [Bool.eq_iff_iff, beq_iff_eq, beq_iff_eq]
  omega
/-- A list and an error came back. -/
def PRet (w : World) (l : List Nat) (z : Int) (e : Ending) (w' : World) : Prop :=
  ∃ D c, e = .returned (.tuple #[.slice D l.length c, .int .i64 z]) ∧ Cp D l.length c ∧ LL w' D l ∧ Below w.heap.size w w'
/-- The set that comes off first. -/
def apL (R : Nat → Nat → Bool) (N : Nat) : List Nat := if hgs R N then [] else ofl (up R N (t0 R N)) N
theorem ll_nil (w : World) (D : Option Addr) : LL w D [] := L2.Holds.none_
end Go.Proofs.Ytgmcbdnfgdmmaaa
