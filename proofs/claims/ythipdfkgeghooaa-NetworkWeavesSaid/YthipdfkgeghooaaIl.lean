/- Lists of integers: what the walks say of their elements; the reference's contracts of layer 2 that this seat calls. -/
import Derived.Test.YthipdfkgeghooaaProg
import Derived.WalkKit
import Derived.Below
import Derived.Lib.Hide
import Derived.Outline
import Derived.WalkSpells
import Derived.Deep.OwnRows
import Derived.Deep.Draws
import Derived.Deep.QuietTactic
import Derived.BigQuiet
import Derived.Shelf.GgClosure.Gives
import Derived.Maps.AppendAt
import Derived.Laws.OwnMore
import Derived.Deep.RegionHeld3
import Derived.StillTailTactics
import Derived.Maps.OwnSet
import Derived.ProofKit
import Derived.OpenShut

/- What the walks of this seat say of a list's elements in memory, and the first contracts: Great, Check, Same. -/
set_option maxRecDepth 100000
namespace Go.Proofs.Ythipdfkgeghooaa.L2
open Go.RowKit
set_option linter.unusedVariables false
set_option linter.unusedSimpArgs false

/-- The slice at 'A' of 'n' elements holds 'f 0', 'f 1', .., in a block below B. -/
def Holds (w : World) (B : Nat) (A : Option Addr) (n : Nat) (f : Nat → Int) : Prop :=
  0 < n → ∃ b o, A = some ⟨b, o, none⟩ ∧ b < B ∧ ∀ i, i < n → w.cell? ⟨b, o + i, none⟩ = some (.int .i64 (f i))
section
variable {w w' : World} {B B' n g : Nat} {A : Option Addr} {f : Nat → Int}
theorem Holds.below (h : Holds w B A n f) (hb : Below B w w') : Holds w' B A n f := fun hn => by
  obtain ⟨b, o, e, hlt, hc⟩ := h hn
  exact ⟨b, o, e, hlt, fun i hi => (hb.cell (p := ⟨b, o + i, none⟩) hlt).trans (hc i hi)⟩
theorem Holds.more (h : Holds w B A n f) (hB : B ≤ B') : Holds w B' A n f := fun hn => by
  obtain ⟨b, o, e, hlt, hc⟩ := h hn
  exact ⟨b, o, e, by omega, hc⟩
theorem Holds.none_ : Holds w B A 0 f := fun h => absurd h (by omega)
/-- The block g is a row of n elements of the call's own. -/
def Row (w : World) (g n : Nat) (f : Nat → Int) : Prop :=
  ∃ cs : Array Value, w.heap[g]? = some (.cells cs 3 (0, 0)) ∧ n ≤ cs.size ∧ ∀ i, i < n → cs[i]? = some (.int .i64 (f i))
theorem Row.lt (h : Row w g n f) : g < w.heap.size := by
  obtain ⟨cs, hg, _⟩ := h
  rcases Nat.lt_or_ge g w.heap.size with hlt | hge
  · exact hlt
  · rw [Array.getElem?_eq_none hge] at hg; cases hg
theorem Row.cell (h : Row w g n f) {i : Nat} (hi : i < n) : w.cell? ⟨g, i, none⟩ = some (.int .i64 (f i)) := by
  obtain ⟨cs, hg, _, hc⟩ := h
  simp [World.cell?, hg, hc i hi]
theorem Row.free (h : Row w g n f) (i : Nat) : w.frozen? ⟨g, i, none⟩ = false := by
  obtain ⟨cs, hg, _⟩ := h
  simp [World.frozen?, hg]
theorem Row.holds (h : Row w g n f) (hB : g < B) : Holds w B (some ⟨g, 0, none⟩) n f := fun _ =>
  ⟨g, 0, rfl, hB, fun i hi => by rw [Nat.zero_add]; exact h.cell hi⟩
theorem Row.below (h : Row w g n f) (hb : Below B w w') (hg : g < B) : Row w' g n f := by
  obtain ⟨cs, h1, h2⟩ := h
  exact ⟨cs, (hb.block g hg).trans h1, h2⟩
theorem Row.alloc (h : Row w g n f) (o : Obj) : Row (w.alloc o) g n f := by
  have hl := h.lt
  obtain ⟨cs, h1, h2⟩ := h
  exact ⟨cs, (Below.heap_alloc w o g hl).trans h1, h2⟩
theorem Row.drewN (h : Row w g n f) (k : Nat) : Row (w.drewN k) g n f := h
theorem Row.far (h : Row w g n f) {p : Addr} (hp : g ≠ p.block) (u : Value) : Row (w.setCell p u) g n f := by
  obtain ⟨cs, h1, h2⟩ := h
  exact ⟨cs, (Below.heap_setCell w p u g hp).trans h1, h2⟩
theorem Row.set_ (h : Row w g n f) (i : Nat) (v : Int) : Row (w.setCell ⟨g, i, none⟩ (.int .i64 v)) g n (fun j => if j = i then v else f j) := by
  obtain ⟨cs, h1, h2, h3⟩ := h
  refine ⟨cs.setIfInBounds i (.int .i64 v), by simp [World.setCell, Array.getElem?_modify, h1], by simpa using h2, fun j hj => ?_⟩
  rw [Array.getElem?_setIfInBounds]
  by_cases e : i = j
  · subst e; simp; omega
  · have e' : ¬ j = i := fun h => e h.symm
    simp [e, e', h3 j hj]
theorem Row.congr {f' : Nat → Int} (h : Row w g n f) (e : ∀ i, i < n → f i = f' i) : Row w g n f' := by
  obtain ⟨cs, h1, h2, h3⟩ := h
  exact ⟨cs, h1, h2, fun i hi => by rw [h3 i hi, e i hi]⟩
end
theorem ret_bool {a b : Bool} (h : a = b) : Ending.returned (.bool a) = .returned (.bool b) := by rw [h]

/-- What Check answers. -/
def lchk (n : Nat) (f : Nat → Int) : Int := if 400 < n then 4 else if decide (∀ i, i < n → 0 ≤ f i ∧ f i < 400) then 0 else 8

end Go.Proofs.Ythipdfkgeghooaa.L2

/- The reference's Same, and the program's Check. -/
namespace Go.Proofs.Ythipdfkgeghooaa.L2
open Go.RowKit
set_option linter.unusedVariables false
set_option linter.unusedSimpArgs false

set_option maxHeartbeats 400000 in
theorem rsame_len (A D : Option Addr) (n m c d : Nat) (w : World) (h : ¬ n = m) :
    Calls Try.prog 20 #[.slice A n c, .slice D m d] w fun e w' => e = .returned (.bool false) ∧ w' = w := by
  have z : ((n : Int) != (m : Int)) = true := by simp; omega
  clear h
  go_enter Try.func20, Try.ntmps20
  go_wp2
  go_ret
  exact ⟨rfl, rfl⟩

set_option maxHeartbeats 1600000 in
theorem rsame_any (A D : Option Addr) (n c d : Nat) (f g : Nat → Int) (w : World) (hn : n ≤ 5000) (hr : Holds w w.heap.size A n f) (hs : Holds w w.heap.size D n g) :
    Calls Try.prog 20 #[.slice A n c, .slice D n d] w fun e w' => e = .returned (.bool (decide (∀ i, i < n → f i = g i))) ∧ Below w.heap.size w w' := by
  have z3 : ((n : Int) != (n : Int)) = false := by simp
  have HR := Lib.hid hr
  have HS := Lib.hid hs
  clear hr hs
  go_enter Try.func20, Try.ntmps20
  go_wp2
  go_loopw [5] (fun i wr => ∃ k : Nat, k ≤ n ∧ i = .int .i64 k ∧ Hid (∀ i, i < k → f i = g i) ∧ Below w.heap.size w wr) (fun i _ => n - (intOf i).toNat)
  case atStart => exact ⟨0, Nat.zero_le _, rfl, fun i hi => absurd hi (by omega), Below.refl _ _⟩
  case round =>
    obtain ⟨k, hk, rfl, hall, hbel⟩ := hrel
    by_cases hlt : k < n
    · obtain ⟨b, o, rfl, hbl, hc⟩ := (HR.out.below hbel) (by omega)
      obtain ⟨b', o', rfl, hbl', hc'⟩ := (HS.out.below hbel) (by omega)
      have c1 := hc k hlt
      have c2 := hc' k hlt
      clear hc hc'
      have hbs := hbel.size
      have B1 := Lib.hid hbel
      clear hbel
      have y1 : (0 : Int) ≤ (k : Int) := by omega
      have y2 : (k : Int) < (n : Int) := by omega
      obtain ⟨u, hu⟩ : ∃ u, f k = u := ⟨_, rfl⟩
      obtain ⟨v, hv⟩ : ∃ v, g k = v := ⟨_, rfl⟩
      rw [hu] at c1
      rw [hv] at c2
      have HU := Lib.hid hu
      have HV := Lib.hid hv
      clear hu hv
      by_cases e : u = v
      · have E := Lib.hid (show f k = g k by rw [HU.out, HV.out, e])
        subst e
        have z : (u != u) = false := by simp
        go_wp2
        go_quiet (fail)
        go_wp2
        refine ⟨⟨k + 1, by omega, by go_num, fun i hi => ?_, Go.Proofs.below_drewN' B1.out _⟩, by simp [intOf]; omega⟩
        rcases Nat.lt_succ_iff_lt_or_eq.1 hi with h | rfl
        · exact hall.out i h
        · exact E.out
      · have E := Lib.hid (show ¬ f k = g k by rw [HU.out, HV.out]; exact e)
        have z : (u != v) = true := by simp [e]
        clear e
        go_wp2
        go_quiet (fail)
        go_wp2
        go_ret
        exact ⟨ret_bool (by symm; rw [decide_eq_false_iff_not]; exact fun h => E.out (h k hlt)), Go.Proofs.below_drewN' B1.out _⟩
    · have e : k = n := by omega
      subst e
      go_wp2
      go_ret
      exact ⟨ret_bool (by symm; rw [decide_eq_true_iff]; exact hall.out), hbel⟩
end Go.Proofs.Ythipdfkgeghooaa.L2

/- Slices that the call itself appends to: one element, or the elements of another slice. -/
namespace Go.Proofs.Ythipdfkgeghooaa.L2
open Go.RowKit
set_option linter.unusedVariables false
set_option linter.unusedSimpArgs false

theorem TryI.info3 : (Try.prog.info? 3).map (fun i => (i.zero, i.size, i.bytes)) = some (some (.int .i64 0), 1, 8) := by kernel_rfl

def news (n : Nat) (f : Nat → Int) : List Value := (List.range n).map fun i => .int .i64 (f i)
theorem news_length (n : Nat) (f : Nat → Int) : (news n f).length = n := by simp [news]
theorem news_get {n : Nat} {f : Nat → Int} {j : Nat} {u : Value} (h : (news n f)[j]? = some u) : j < n ∧ u = .int .i64 (f j) := by
  have hj : j < n := by
    have := (List.getElem?_eq_some_iff.1 h).1
    rwa [news_length] at this
  refine ⟨hj, ?_⟩
  unfold news at h
  rw [List.getElem?_map, List.getElem?_range hj] at h
  exact (Option.some.inj h).symm
theorem news_one {n : Nat} {f : Nat → Int} : ∀ u ∈ news n f, u.oneCell' = true := by
  intro u hu
  simp [news] at hu
  obtain ⟨i, _, rfl⟩ := hu
  rfl
theorem news_succ (n : Nat) (f : Nat → Int) : news (n + 1) f = news n f ++ [.int .i64 (f n)] := by
  simp [news, List.range_succ]
theorem news_congr {n : Nat} {f g : Nat → Int} (h : ∀ i, i < n → f i = g i) : news n f = news n g := by
  unfold news
  exact List.map_congr_left fun i hi => by rw [h i (List.mem_range.1 hi)]
/-- f on the first n places, then g. -/
def both (n : Nat) (f g : Nat → Int) (i : Nat) : Int := if i < n then f i else g (i - n)
theorem news_both (n m : Nat) (f g : Nat → Int) : news n f ++ news m g = news (n + m) (both n f g) := by
  apply List.ext_getElem?
  intro i
  by_cases h : i < n
  · rw [List.getElem?_append_left (by rw [news_length]; exact h)]
    unfold news
    rw [List.getElem?_map, List.getElem?_map, List.getElem?_range h, List.getElem?_range (by omega)]
    simp [both, h]
  · rw [List.getElem?_append_right (by rw [news_length]; omega), news_length]
    unfold news
    by_cases h2 : i < n + m
    · rw [List.getElem?_map, List.getElem?_map, List.getElem?_range h2, List.getElem?_range (by omega)]
      simp [both, h]
    · rw [List.getElem?_eq_none (by simp; omega), List.getElem?_eq_none (by simp; omega)]

/-- v is a slice of n elements that the call itself has made: nil, or a row among the blocks from base on. -/
def Own (w : World) (base : Nat) (v : Value) (n : Nat) (f : Nat → Int) : Prop := w.ownsRow base 3 1 v n (news n f)
section
variable {w w' : World} {base B n : Nat} {v : Value} {f g : Nat → Int}
theorem Own.nil (w : World) (base : Nat) (f : Nat → Int) : Own w base (.slice none 0 0) 0 f := World.ownsRow_nil _ _ _ _
theorem Own.empty (w : World) (hb : base ≤ w.heap.size) (f : Nat → Int) : Own (w.alloc (.cells #[] 3)) base (.slice (some ⟨w.heap.size, 0, none⟩) 0 0) 0 f := World.ownsRow_made w #[] 0 hb (by unfold maxLen; omega) rfl
theorem Own.congr (h : Own w base v n f) (e : ∀ i, i < n → f i = g i) : Own w base v n g := by
  unfold Own at *
  rwa [← news_congr e]
theorem Own.block {k : Nat} (h : Own w base v n f) (hk : v.ownBlock = some k) : base ≤ k ∧ k < w.heap.size := World.ownsRow.lt h k hk
theorem Own.keep (h : Own w base v n f) (hb : ∀ k, base ≤ k → k < w.heap.size → w'.heap[k]? = w.heap[k]?) : Own w' base v n f := by
  rcases h with ⟨hl, ⟨hv, hn⟩ | ⟨g, cap, cur, hv, hg, hc, r⟩⟩
  · exact ⟨hl, .inl ⟨hv, hn⟩⟩
  · refine ⟨hl, .inr ⟨g, cap, cur, hv, hg, (hb g hg ?_).trans hc, r⟩⟩
    rcases Nat.lt_or_ge g w.heap.size with h | h
    · exact h
    · rw [Array.getElem?_eq_none h] at hc; cases hc
theorem Own.below (h : Own w base v n f) (hb : Below w.heap.size w w') : Own w' base v n f := h.keep fun k _ hk => hb.block k hk
theorem Own.drew (h : Own w base v n f) : Own w.drew base v n f := h
theorem Own.drewN (h : Own w base v n f) (k : Nat) : Own (w.drewN k) base v n f := h
theorem Own.alloc (h : Own w base v n f) (o : Obj) : Own (w.alloc o) base v n f := h.keep fun k _ hk => Below.heap_alloc w o k hk
theorem Own.far (h : Own w base v n f) {p : Addr} (hp : p.block < base) (u : Value) : Own (w.setCell p u) base v n f := h.keep fun k hk _ => Below.heap_setCell w p u k (by omega)
theorem Own.lower (h : Own w base v n f) (hB : B ≤ base) : Own w B v n f := by
  rcases h with ⟨hl, ⟨hv, hn⟩ | ⟨g, cap, cur, hv, hg, r⟩⟩
  · exact ⟨hl, .inl ⟨hv, hn⟩⟩
  · exact ⟨hl, .inr ⟨g, cap, cur, hv, by omega, r⟩⟩
/-- What a loop that has appended hands back. -/
theorem Own.out (h : Own w base v n f) : ∃ A c, v = .slice A n c ∧ (A = none → c = 0) ∧ (0 < n → ∃ k, A = some ⟨k, 0, none⟩ ∧ base ≤ k ∧ Row w k n f) := by
  rcases h with ⟨hl, ⟨rfl, rfl⟩ | ⟨g, cap, cur, rfl, hg, hc, hcap, _, hs, ht⟩⟩
  · exact ⟨none, 0, rfl, fun _ => rfl, fun h => absurd h (by omega)⟩
  · refine ⟨_, _, rfl, (fun h => by cases h), fun _ => ⟨g, rfl, hg, cur, hc, by omega, fun i hi => ?_⟩⟩
    have e : (cur.toList.take (n * 1))[i]? = some (.int .i64 (f i)) := by
      rw [ht, news, List.getElem?_map, List.getElem?_range hi]; rfl
    rw [List.getElem?_take] at e
    rw [if_pos (by omega)] at e
    simpa using e
end

/-- 'append(s, y)'. -/
theorem app1 {ops : Array Oper} {rest : List Oper} {o : Oper} {a : Act} {Q : Exit → Act → World → Prop} (w : World) (hgd : o.guard = none) (s x : Operand)
    (ho : o.op = .call { callee := .builtin .append, args := #[s, x], argTypes := #[22, 22] }) (base : Nat) {v : Value} {n : Nat} {f : Nat → Int} (hs : a.eval s = v) (hown : Own w base v n f)
    (y : Int) (hx : a.eval x = .slice (some ⟨w.heap.size, 0, none⟩) 1 1) (hy : f n = y) (hn : n ≤ 100000) (hb : base ≤ w.heap.size)
    (h : ∀ v' w', Own w' base v' (n + 1) f → Below base w w' → wpList Try.prog ops Q rest (a.put o.dst v') w') :
    wpList Try.prog ops Q (o :: rest) a (w.alloc (.cells #[.int .i64 y] 3)) := by
  obtain ⟨i0, hi, hz0, hz1, hz2⟩ := info_parts TryI.info3
  refine wpList_append_own _ hgd s x 22 ho base 3 i0 (.int .i64 0) 1 8 Try.underlying22 hi hz0 hz1 hz2 rfl (by decide) v n _ hs (hown.alloc _) ⟨w.heap.size, 0, none⟩ 1 1 [.int .i64 y] hx rfl (cell_one_new _ _ _) (ints_oneCell .i64 [y])
    (by unfold maxLen; omega) (by omega) (by simp; omega) ?_
  intro v' w' ho' hg _
  refine h v' w' ?_ ?_
  · unfold Own
    rw [news_succ, hy]
    exact ho'
  · refine Below.grown ((Below.refl _ _).alloc hb _) hg (by simp; omega) fun k hk => (hown.block hk).1

/-- 'append(s, l...)', l's elements being g. -/
theorem appN {ops : Array Oper} {rest : List Oper} {o : Oper} {a : Act} {Q : Exit → Act → World → Prop} (w : World) (hgd : o.guard = none) (s x : Operand)
    (ho : o.op = .call { callee := .builtin .append, args := #[s, x], argTypes := #[22, 22] }) (base : Nat) {v : Value} {n : Nat} {f : Nat → Int} (hs : a.eval s = v) (hown : Own w base v n f)
    {B : Nat} {A : Option Addr} {m c : Nat} {g : Nat → Int} (hx : a.eval x = .slice A m c) (hA : A = none → c = 0) (hr : Holds w B A m g) (hn : n ≤ 100000) (hm : m ≤ 100000) (hb : base ≤ w.heap.size)
    (h : ∀ v' w', Own w' base v' (n + m) (both n f g) → Below base w w' → wpList Try.prog ops Q rest (a.put o.dst v') w') :
    wpList Try.prog ops Q (o :: rest) a w := by
  obtain ⟨i0, hi, hz0, hz1, hz2⟩ := info_parts TryI.info3
  have key : ∀ ad, A = some ad → (∀ j u, (news m g)[j]? = some u → w.cell? (ad.add j) = some u) → wpList Try.prog ops Q (o :: rest) a w := by
    rintro ad rfl hc
    refine wpList_append_own _ hgd s x 22 ho base 3 i0 (.int .i64 0) 1 8 Try.underlying22 hi hz0 hz1 hz2 rfl (by decide) v n _ hs hown ad m c (news m g) hx (by rw [news_length]; omega) hc news_one
      (by unfold maxLen; omega) (by omega) hb ?_
    intro v' w' ho' hg _
    refine h v' w' ?_ ?_
    · unfold Own
      rw [← news_both]
      exact ho'
    · exact Below.grown (Below.refl _ _) hg hb fun k hk => (hown.block hk).1
  cases A with
  | none =>
    obtain rfl := hA rfl
    rcases Nat.eq_zero_or_pos m with h0 | h0
    · subst h0
      have hrun := run_append_owned_none (P := Try.prog) (w := w) base 22 o.type 3 i0 1 Try.underlying22 hi v n _ hown
      refine wpList_plain hgd fun K hK => ?_
      unfold Oper.wp
      simp [execOp, ho, resolve, invoke, builtin, hs, hx, hrun, Result.andThen]
      exact hK _ _ (h v w (hown.congr fun i hi => by simp [both, hi]) (Below.refl _ _))
    · obtain ⟨b, off, e, _⟩ := hr h0
      cases e
  | some ad =>
    refine key ad rfl fun j u hj => ?_
    obtain ⟨hj', rfl⟩ := news_get hj
    obtain ⟨b, off, e, _, hc⟩ := hr (by omega)
    cases e
    have e : Addr.add ⟨b, off, none⟩ j = ⟨b, off + j, none⟩ := by unfold Addr.add; by_cases h : j = 0 <;> simp [h]
    rw [e]
    exact hc j hj'
end Go.Proofs.Ythipdfkgeghooaa.L2
