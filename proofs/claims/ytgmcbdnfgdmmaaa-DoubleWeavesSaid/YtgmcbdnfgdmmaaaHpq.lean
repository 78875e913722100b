/- The search of the program: steps, reached; queues that lose their head. -/
import Derived.Test.YtgmcbdnfgdmmaaaHrx
import Derived.Test.YtgmcbdnfgdmmaaaRpt
import Derived.Deep.LoopGhost
import Derived.Deep.AppendSrc
namespace Go.Proofs.Ytgmcbdnfgdmmaaa
open Go.RowKit
set_option maxRecDepth 100000
set_option linter.unusedVariables false
set_option linter.unusedSimpArgs false

/-- A list of natural numbers lies in a row of the call's own, from some place on. -/
def Tl (w : World) (base : Nat) (v : Value) (l : List Nat) : Prop :=
  ∃ g o cap cur, v = .slice (some ⟨g, o, none⟩) l.length cap ∧ base ≤ g ∧ w.heap[g]? = some (.cells cur 3 (0, 0)) ∧ l.length ≤ cap ∧ o + cap ≤ cur.size ∧ ∀ i, i < l.length → cur[o + i]? = some (.int .i64 (lf l i))
section
variable {w w' : World} {base B : Nat} {v : Value} {l : List Nat}
theorem Tl.keep (h : Tl w base v l) (hb : ∀ k, base ≤ k → k < w.heap.size → w'.heap[k]? = w.heap[k]?) : Tl w' base v l := by
  obtain ⟨g, o, cap, cur, e, hg, hc, r⟩ := h
  refine ⟨g, o, cap, cur, e, hg, (hb g hg ?_).trans hc, r⟩
  exact (Array.getElem?_eq_some_iff.1 hc).1
theorem Tl.below (h : Tl w base v l) (hb : Below w.heap.size w w') : Tl w' base v l := h.keep fun k _ hk => hb.block k hk
theorem Tl.far (h : Tl w base v l) {p : Addr} (hp : p.block < base) (u : Value) : Tl (w.setCell p u) base v l := h.keep fun k hk _ => Below.heap_setCell w p u k (by omega)
end
theorem tl_one (w : World) {base : Nat} (hb : base ≤ w.heap.size) (y : Nat) : Tl (w.alloc (.cells #[.int .i64 (y : Nat)] 3)) base (.slice (some ⟨w.heap.size, 0, none⟩) 1 1) [y] :=
  ⟨w.heap.size, 0, 1, #[.int .i64 (y : Nat)], rfl, hb, World.alloc_heap_new w _, Nat.le_refl _, Nat.le_refl _, fun i hi => by
    obtain rfl : i = 0 := by simp at hi; exact hi
    rfl⟩
set_option maxHeartbeats 400000 in
theorem tapp1 {ops : Array Oper} {rest : List Oper} {o : Oper} {a : Act} {Q : Exit → Act → World → Prop} (w : World) (hgd : o.guard = none) (s x : Operand)
    (ho : o.op = .call { callee := .builtin .append, args := #[s, x], argTypes := #[45, 45] }) (base : Nat) {v : Value} {l : List Nat} (hs : a.eval s = v) (ht : Tl w base v l)
    (y : Nat) (hx : a.eval x = .slice (some ⟨w.heap.size, 0, none⟩) 1 1) (hn : l.length ≤ 100000) (hb : base ≤ w.heap.size)
    (h : ∀ v' w', Tl w' base v' (l ++ [y]) → Below base w w' → wpList Try.prog ops Q rest (a.put o.dst v') w') :
    wpList Try.prog ops Q (o :: rest) a (w.alloc (.cells #[.int .i64 (y : Nat)] 3)) := by
  obtain ⟨i0, hi, hz0, hz1, hz2⟩ := info_parts L2.TryI.info3
  obtain ⟨g, of, cap, cur, rfl, hg, hc, hcap, hsz, hcl⟩ := ht
  have hgl : g < w.heap.size := (Array.getElem?_eq_some_iff.1 hc).1
  have hc1 : (w.alloc (.cells #[.int .i64 (y : Nat)] 3)).heap[g]? = some (.cells cur 3 (0, 0)) := (Below.heap_alloc w _ g hgl).trans hc
  have hnew : ∀ j u, ([.int .i64 (y : Nat)] : List Value)[j]? = some u → (w.alloc (.cells #[.int .i64 (y : Nat)] 3)).cell? ((⟨w.heap.size, 0, none⟩ : Addr).add j) = some u := cell_one_new _ _ _
  have hlen : (l ++ [y]).length = l.length + 1 := by simp
  by_cases hroom : l.length + 1 ≤ cap
  · have hcell : ∀ j, j < ([.int .i64 (y : Nat)] : List Value).length → ((w.alloc (.cells #[.int .i64 (y : Nat)] 3)).cell? ⟨g, of + l.length * i0.size + j, none⟩).isSome = true := fun j hj => by
      have e : j = 0 := by simp at hj; exact hj
      rw [e, hz1, Lib.cell_of_heap hc1, Array.getElem?_eq_getElem (by omega)]
      rfl
    have hrun := run_append_room_src (P := Try.prog) (w := w.alloc (.cells #[.int .i64 (y : Nat)] 3)) 45 45 o.type 3 i0 Try.underlying45 hi g of l.length cap (.slice (some ⟨w.heap.size, 0, none⟩) 1 1) 1 [.int .i64 (y : Nat)]
      (Src.ofSlice (P := Try.prog) (w := w.alloc (.cells #[.int .i64 (y : Nat)] 3)) (size := i0.size) Try.underlying45 ⟨w.heap.size, 0, none⟩ 1 1 [.int .i64 (y : Nat)] (by rw [hz1]; rfl) hnew (ints_oneCell .i64 [y])) hroom hcell (fun j hj => Lib.frozen_of_heap hc1 _)
    have e1 : (w.alloc (.cells #[.int .i64 (y : Nat)] 3)).setCells g (of + l.length * i0.size) [.int .i64 (y : Nat)] = (w.alloc (.cells #[.int .i64 (y : Nat)] 3)).setCell ⟨g, of + l.length, none⟩ (.int .i64 (y : Nat)) := by rw [hz1, Nat.mul_one]; rfl
    rw [e1] at hrun
    refine wpList_plain hgd fun K hK => ?_
    unfold Oper.wp
    simp [execOp, ho, resolve, invoke, builtin, hs, hx, hrun, Result.andThen]
    refine hK _ _ (h _ _ ⟨g, of, cap, cur.setIfInBounds (of + l.length) (.int .i64 (y : Nat)), by rw [hlen], hg, ?_, by omega, by simpa using hsz, fun i hil => ?_⟩ ?_)
    · simp [World.setCell, Array.getElem?_modify, hc1]
    · rw [Array.getElem?_setIfInBounds]
      by_cases e : i = l.length
      · subst e
        rw [lf_last]
        simp
        omega
      · have h1 := hcl i (by omega)
        rw [← lf_app (by omega)]
        rw [if_neg (by omega)]
        exact h1
    · exact ((Below.refl _ _).alloc hb _).setCell (by exact hg) _
  · have hol : (L2.news l.length (lf l)).length = l.length * i0.size := by rw [hz1, L2.news_length, Nat.mul_one]
    have hrun := run_append_grow (P := Try.prog) (w := w.alloc (.cells #[.int .i64 (y : Nat)] 3)) 45 o.type 3 i0 (.int .i64 0) Try.underlying45 hi hz0 ⟨g, of, none⟩ l.length cap (L2.news l.length (lf l)) hol
      (fun j u hu => by
        obtain ⟨hj, rfl⟩ := L2.news_get hu
        have e : Addr.add ⟨g, of, none⟩ j = ⟨g, of + j, none⟩ := by unfold Addr.add; by_cases h : j = 0 <;> simp [h]
        rw [e, Lib.cell_of_heap hc1]
        exact hcl j hj)
      ⟨w.heap.size, 0, none⟩ 1 1 [.int .i64 (y : Nat)] (by rw [hz1]; rfl) hnew (by omega) (by omega) (growslice_fits (by omega) (by rw [hz2]; omega))
    refine wpList_plain hgd fun K hK => ?_
    unfold Oper.wp
    simp only [execOp, ho, resolve, invoke, builtin, Sem.run_bind, Sem.run_pure, Result.andThen_ok, List.map_toArray, List.map_cons, List.map_nil, hs, hx, hrun]
    refine hK _ _ (h _ _ ⟨_, 0, _, _, by rw [hlen]; rfl, ?_, World.alloc_heap_new _ _, ?_, ?_, fun i hil => ?_⟩ ?_)
    · simp; omega
    · rw [hlen]; exact grownCap_ge _ _ _ _
    · have := grownCap_ge (w.alloc (.cells #[.int .i64 (y : Nat)] 3)) (l.length + 1) cap 3
      simp [size_zeroCells, L2.news_length, Value.cells]
      omega
    · have e2 : (L2.news l.length (lf l)).toArray ++ ([.int .i64 (y : Nat)] : List Value).toArray = (L2.news (l.length + 1) (lf (l ++ [y]))).toArray := by
        rw [L2.news_succ, lf_last, L2.news_congr (fun i hi => lf_app (r := [y]) hi)]
        simp
      rw [e2, Array.getElem?_append_left (by simp [L2.news_length]; omega)]
      rw [Nat.zero_add, List.getElem?_toArray]
      unfold L2.news
      rw [List.getElem?_map, List.getElem?_range (by omega)]
      rfl
    · exact ((Below.refl _ _).alloc hb _).drew.alloc (by simp; omega) _
end Go.Proofs.Ytgmcbdnfgdmmaaa
