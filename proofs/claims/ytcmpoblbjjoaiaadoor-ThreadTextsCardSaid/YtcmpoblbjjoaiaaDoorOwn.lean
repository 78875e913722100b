/- Slices that the call itself appends to: one element, or the elements of another slice. -/
import Derived.Test.YtcmpoblbjjoaiaaDoorBase
import Derived.Maps.AppendAt
import Derived.Laws.OwnMore
namespace Go.Proofs.YtcmpoblbjjoaiaaDoor
open Go.RowKit
set_option linter.unusedVariables false
set_option linter.unusedSimpArgs false

theorem Tryd.info3 : (Tryd.prog.info? 3).map (fun i => (i.zero, i.size, i.bytes)) = some (some (.int .i64 0), 1, 8) := by kernel_rfl

def news (n : Nat) (f : Nat → Int) : List Value := (List.range n).map fun i => .int .i64 (f i)
theorem news_length (n : Nat) (f : Nat → Int) : (news n f).length = n := by simp [news]
theorem news_get {n : Nat} {f : Nat → Int} {j : Nat} {u : Value} (h : (news n f)[j]? = some u) : j < n ∧ u = .int .i64 (f j) := by
  have hj : j < n := by
    have := (List.getElem?_eq_some_iff.1 h).1
    rwa [news_length] at this
  refine ⟨hj, ?_⟩
  unfold news at h
  rw [List.getElem?_map, List.getElem?_range hj] at h
  exact (Option.some.inj h).symm
theorem news_one {n : Nat} {f : Nat → Int} : ∀ u ∈ news n f, u.oneCell' = true := by
  intro u hu
  simp [news] at hu
  obtain ⟨i, _, rfl⟩ := hu
  rfl
theorem news_succ (n : Nat) (f : Nat → Int) : news (n + 1) f = news n f ++ [.int .i64 (f n)] := by
  simp [news, List.range_succ]
theorem news_congr {n : Nat} {f g : Nat → Int} (h : ∀ i, i < n → f i = g i) : news n f = news n g := by
  unfold news
  exact List.map_congr_left fun i hi => by rw [h i (List.mem_range.1 hi)]
/-- f on the first n places, then g. -/
def both (n : Nat) (f g : Nat → Int) (i : Nat) : Int := if i < n then f i else g (i - n)
theorem news_both (n m : Nat) (f g : Nat → Int) : news n f ++ news m g = news (n + m) (both n f g) := by
  apply List.ext_getElem?
  intro i
  by_cases h : i < n
  · rw [List.getElem?_append_left (by rw [news_length]; exact h)]
    unfold news
    rw [List.getElem?_map, List.getElem?_map, List.getElem?_range h, List.getElem?_range (by omega)]
    simp [both, h]
  · rw [List.getElem?_append_right (by rw [news_length]; omega), news_length]
    unfold news
    by_cases h2 : i < n + m
    · rw [List.getElem?_map, List.getElem?_map, List.getElem?_range h2, List.getElem?_range (by omega)]
      simp [both, h]
    · rw [List.getElem?_eq_none (by simp; omega), List.getElem?_eq_none (by simp; omega)]

/-- v is a slice of n elements that the call itself has made: nil, or a row among the blocks from base on. -/
def Own (w : World) (base : Nat) (v : Value) (n : Nat) (f : Nat → Int) : Prop := w.ownsRow base 3 1 v n (news n f)
section
variable {w w' : World} {base B n : Nat} {v : Value} {f g : Nat → Int}
theorem Own.nil (w : World) (base : Nat) (f : Nat → Int) : Own w base (.slice none 0 0) 0 f := World.ownsRow_nil _ _ _ _
theorem Own.empty (w : World) (hb : base ≤ w.heap.size) (f : Nat → Int) : Own (w.alloc (.cells #[] 3)) base (.slice (some ⟨w.heap.size, 0, none⟩) 0 0) 0 f := World.ownsRow_made w #[] 0 hb (by unfold maxLen; omega) rfl
theorem Own.congr (h : Own w base v n f) (e : ∀ i, i < n → f i = g i) : Own w base v n g := by
  unfold Own at *
  rwa [← news_congr e]
theorem Own.block {k : Nat} (h : Own w base v n f) (hk : v.ownBlock = some k) : base ≤ k ∧ k < w.heap.size := World.ownsRow.lt h k hk
theorem Own.keep (h : Own w base v n f) (hb : ∀ k, base ≤ k → k < w.heap.size → w'.heap[k]? = w.heap[k]?) : Own w' base v n f := by
  rcases h with ⟨hl, ⟨hv, hn⟩ | ⟨g, cap, cur, hv, hg, hc, r⟩⟩
  · exact ⟨hl, .inl ⟨hv, hn⟩⟩
  · refine ⟨hl, .inr ⟨g, cap, cur, hv, hg, (hb g hg ?_).trans hc, r⟩⟩
    rcases Nat.lt_or_ge g w.heap.size with h | h
    · exact h
    · rw [Array.getElem?_eq_none h] at hc; cases hc
theorem Own.below (h : Own w base v n f) (hb : Below w.heap.size w w') : Own w' base v n f := h.keep fun k _ hk => hb.block k hk
theorem Own.drew (h : Own w base v n f) : Own w.drew base v n f := h
theorem Own.drewN (h : Own w base v n f) (k : Nat) : Own (w.drewN k) base v n f := h
theorem Own.alloc (h : Own w base v n f) (o : Obj) : Own (w.alloc o) base v n f := h.keep fun k _ hk => Below.heap_alloc w o k hk
theorem Own.far (h : Own w base v n f) {p : Addr} (hp : p.block < base) (u : Value) : Own (w.setCell p u) base v n f := h.keep fun k hk _ => Below.heap_setCell w p u k (by omega)
theorem Own.lower (h : Own w base v n f) (hB : B ≤ base) : Own w B v n f := by
  rcases h with ⟨hl, ⟨hv, hn⟩ | ⟨g, cap, cur, hv, hg, r⟩⟩
  · exact ⟨hl, .inl ⟨hv, hn⟩⟩
  · exact ⟨hl, .inr ⟨g, cap, cur, hv, by omega, r⟩⟩
/-- What a loop that has appended hands back. -/
theorem Own.out (h : Own w base v n f) : ∃ A c, v = .slice A n c ∧ (A = none → c = 0) ∧ (0 < n → ∃ k, A = some ⟨k, 0, none⟩ ∧ base ≤ k ∧ Row w k n f) := by
  rcases h with ⟨hl, ⟨rfl, rfl⟩ | ⟨g, cap, cur, rfl, hg, hc, hcap, _, hs, ht⟩⟩
  · exact ⟨none, 0, rfl, fun _ => rfl, fun h => absurd h (by omega)⟩
  · refine ⟨_, _, rfl, (fun h => by cases h), fun _ => ⟨g, rfl, hg, cur, hc, by omega, fun i hi => ?_⟩⟩
    have e : (cur.toList.take (n * 1))[i]? = some (.int .i64 (f i)) := by
      rw [ht, news, List.getElem?_map, List.getElem?_range hi]; rfl
    rw [List.getElem?_take] at e
    rw [if_pos (by omega)] at e
    simpa using e
end

/-- 'append(s, y)'. -/
theorem app1 {ops : Array Oper} {rest : List Oper} {o : Oper} {a : Act} {Q : Exit → Act → World → Prop} (w : World) (hgd : o.guard = none) (s x : Operand)
    (ho : o.op = .call { callee := .builtin .append, args := #[s, x], argTypes := #[22, 22] }) (base : Nat) {v : Value} {n : Nat} {f : Nat → Int} (hs : a.eval s = v) (hown : Own w base v n f)
    (y : Int) (hx : a.eval x = .slice (some ⟨w.heap.size, 0, none⟩) 1 1) (hy : f n = y) (hn : n ≤ 100000) (hb : base ≤ w.heap.size)
    (h : ∀ v' w', Own w' base v' (n + 1) f → Below base w w' → wpList Tryd.prog ops Q rest (a.put o.dst v') w') :
    wpList Tryd.prog ops Q (o :: rest) a (w.alloc (.cells #[.int .i64 y] 3)) := by
  obtain ⟨i0, hi, hz0, hz1, hz2⟩ := info_parts Tryd.info3
  refine wpList_append_own _ hgd s x 22 ho base 3 i0 (.int .i64 0) 1 8 Tryd.underlying22 hi hz0 hz1 hz2 rfl (by decide) v n _ hs (hown.alloc _) ⟨w.heap.size, 0, none⟩ 1 1 [.int .i64 y] hx rfl (cell_one_new _ _ _) (ints_oneCell .i64 [y])
    (by unfold maxLen; omega) (by omega) (by simp; omega) ?_
  intro v' w' ho' hg _
  refine h v' w' ?_ ?_
  · unfold Own
    rw [news_succ, hy]
    exact ho'
  · refine Below.grown ((Below.refl _ _).alloc hb _) hg (by simp; omega) fun k hk => (hown.block hk).1

/-- 'append(s, l...)', l's elements being g. -/
theorem appN {ops : Array Oper} {rest : List Oper} {o : Oper} {a : Act} {Q : Exit → Act → World → Prop} (w : World) (hgd : o.guard = none) (s x : Operand)
    (ho : o.op = .call { callee := .builtin .append, args := #[s, x], argTypes := #[22, 22] }) (base : Nat) {v : Value} {n : Nat} {f : Nat → Int} (hs : a.eval s = v) (hown : Own w base v n f)
    {B : Nat} {A : Option Addr} {m c : Nat} {g : Nat → Int} (hx : a.eval x = .slice A m c) (hA : A = none → c = 0) (hr : Holds w B A m g) (hn : n ≤ 100000) (hm : m ≤ 100000) (hb : base ≤ w.heap.size)
    (h : ∀ v' w', Own w' base v' (n + m) (both n f g) → Below base w w' → wpList Tryd.prog ops Q rest (a.put o.dst v') w') :
    wpList Tryd.prog ops Q (o :: rest) a w := by
  obtain ⟨i0, hi, hz0, hz1, hz2⟩ := info_parts Tryd.info3
  have key : ∀ ad, A = some ad → (∀ j u, (news m g)[j]? = some u → w.cell? (ad.add j) = some u) → wpList Tryd.prog ops Q (o :: rest) a w := by
    rintro ad rfl hc
    refine wpList_append_own _ hgd s x 22 ho base 3 i0 (.int .i64 0) 1 8 Tryd.underlying22 hi hz0 hz1 hz2 rfl (by decide) v n _ hs hown ad m c (news m g) hx (by rw [news_length]; omega) hc news_one
      (by unfold maxLen; omega) (by omega) hb ?_
    intro v' w' ho' hg _
    refine h v' w' ?_ ?_
    · unfold Own
      rw [← news_both]
      exact ho'
    · exact Below.grown (Below.refl _ _) hg hb fun k hk => (hown.block hk).1
  cases A with
  | none =>
    obtain rfl := hA rfl
    rcases Nat.eq_zero_or_pos m with h0 | h0
    · subst h0
      have hrun := run_append_owned_none (P := Tryd.prog) (w := w) base 22 o.type 3 i0 1 Tryd.underlying22 hi v n _ hown
      refine wpList_plain hgd fun K hK => ?_
      unfold Oper.wp
      simp [execOp, ho, resolve, invoke, builtin, hs, hx, hrun, Result.andThen]
      exact hK _ _ (h v w (hown.congr fun i hi => by simp [both, hi]) (Below.refl _ _))
    · obtain ⟨b, off, e, _⟩ := hr h0
      cases e
  | some ad =>
    refine key ad rfl fun j u hj => ?_
    obtain ⟨hj', rfl⟩ := news_get hj
    obtain ⟨b, off, e, _, hc⟩ := hr (by omega)
    cases e
    have e : Addr.add ⟨b, off, none⟩ j = ⟨b, off + j, none⟩ := by unfold Addr.add; by_cases h : j = 0 <;> simp [h]
    rw [e]
    exact hc j hj'
end Go.Proofs.YtcmpoblbjjoaiaaDoor
