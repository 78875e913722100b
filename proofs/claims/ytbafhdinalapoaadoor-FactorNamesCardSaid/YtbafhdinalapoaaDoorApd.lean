/- append where several slices of the call's own grow side by side. -/
import Derived.Test.YtbafhdinalapoaaDoorKa
import Derived.Maps.AppendAt
namespace Go.Proofs.YtbafhdinalapoaaDoor
open Go.RowKit
set_option linter.unusedVariables false
set_option linter.unusedSimpArgs false
set_option maxRecDepth 100000

/-- The two slices lie in different rows. -/
def Apart (u v : Value) : Prop := ∀ k, u.ownBlock = some k → v.ownBlock ≠ some k
theorem Apart.symm {u v : Value} (h : Apart u v) : Apart v u := fun k h1 h2 => h k h2 h1
theorem Apart.nil (u : Value) : Apart u (.slice none 0 0) := fun k _ h2 => by simp [Value.ownBlock] at h2
/-- What is seen of a world behind an append onto v, whose value is now v'. -/
structure Grew (w w' : World) (v v' : Value) : Prop where
  size : w.heap.size ≤ w'.heap.size
  block : ∀ k, k < w.heap.size → v.ownBlock ≠ some k → w'.heap[k]? = w.heap[k]?
  at_ : ∀ k, v'.ownBlock = some k → v.ownBlock = some k ∨ w.heap.size ≤ k
theorem Grew.own {w w' : World} {v v' u : Value} {base m : Nat} {g : Nat → Int} (h : Grew w w' v v') (hu : L2.Own w base u m g) (hp : Apart u v) : L2.Own w' base u m g ∧ Apart u v' := by
  have hk : ∀ k, u.ownBlock = some k → k < w.heap.size := fun k e => (hu.block e).2
  refine ⟨?_, fun k e1 e2 => ?_⟩
  · rcases hu.2 with ⟨h1, h2⟩ | ⟨g', cap', cur, h', hb, hg, h3, h4, h5, h6⟩
    · exact ⟨hu.1, .inl ⟨h1, h2⟩⟩
    · refine ⟨hu.1, .inr ⟨g', cap', cur, h', hb, ?_, h3, h4, h5, h6⟩⟩
      have e : u.ownBlock = some g' := by rw [h']; rfl
      rw [h.block g' (hk g' e) (hp g' e)]
      exact hg
  · rcases h.at_ k e2 with e3 | e3
    · exact hp k e1 e3
    · have := hk k e1; omega
/-- 'append(s, y)', and what it leaves alone. -/
theorem app2 {ops : Array Oper} {rest : List Oper} {o : Oper} {a : Act} {Q : Exit → Act → World → Prop} (w : World) (hgd : o.guard = none) (s x : Operand)
    (ho : o.op = .call { callee := .builtin .append, args := #[s, x], argTypes := #[22, 22] }) (base : Nat) {v : Value} {n : Nat} {f : Nat → Int} (hs : a.eval s = v) (hown : L2.Own w base v n f)
    (y : Int) (hx : a.eval x = .slice (some ⟨w.heap.size, 0, none⟩) 1 1) (hy : f n = y) (hn : n ≤ 100000) (hb : base ≤ w.heap.size)
    (h : ∀ v' w', L2.Own w' base v' (n + 1) f → Below base w w' → Grew w w' v v' → wpList Tryd.prog ops Q rest (a.put o.dst v') w') :
    wpList Tryd.prog ops Q (o :: rest) a (w.alloc (.cells #[.int .i64 y] 3)) := by
  obtain ⟨i0, hi, hz0, hz1, hz2⟩ := info_parts L2.TrydI.info3
  refine wpList_append_own_at _ hgd s x 22 ho base 3 i0 (.int .i64 0) 1 8 Tryd.underlying22 hi hz0 hz1 hz2 rfl (by decide) v n _ hs (hown.alloc _) ⟨w.heap.size, 0, none⟩ 1 1 [.int .i64 y] hx rfl (cell_one_new _ _ _) (ints_oneCell .i64 [y])
    (by unfold maxLen; omega) (by omega) (by simp; omega) ?_
  intro v' w' ho' hg _ hat
  refine h v' w' ?_ ?_ ⟨?_, ?_, ?_⟩
  · unfold L2.Own
    rw [L2.news_succ, hy]
    exact ho'
  · refine Below.grown ((Below.refl _ _).alloc hb _) hg (by simp; omega) fun k hk => (hown.block hk).1
  · have := hg.size; simp at this; omega
  · intro k hk hne
    exact (hg.block k (by simp; omega) (fun e => hne (by first | exact e.symm | exact e))).trans (Below.heap_alloc w _ k hk)
  · intro k e
    rcases hat with h1 | h1
    · exact .inl (h1.symm.trans e)
    · rw [h1] at e
      simp at e
      exact .inr (by omega)
end Go.Proofs.YtbafhdinalapoaaDoor
