/- Lists of integers: what the walks say of their elements; the reference's contracts of layer 2 that this seat calls. -/
import Derived.Test.YtbafhdinalapoaaDoorProg
import Derived.WalkKit
import Derived.Below
import Derived.Lib.Hide
import Derived.Outline
import Derived.WalkSpells
import Derived.Deep.OwnRows
import Derived.Deep.Draws
import Derived.Deep.QuietTactic
import Derived.BigQuiet
import Derived.Shelf.GgClosure.Gives
import Derived.Maps.AppendAt
import Derived.Laws.OwnMore
import Derived.Deep.RegionHeld3
import Derived.StillTailTactics
import Derived.Maps.OwnSet
import Derived.ProofKit
import Derived.OpenShut

/- What the walks of this seat say of a list's elements in memory, and the first contracts: Great, Check, Same. -/
namespace Go.Proofs.YtbafhdinalapoaaDoor.L2
open Go.RowKit
set_option linter.unusedVariables false
set_option linter.unusedSimpArgs false

/-- The slice at 'A' of 'n' elements holds 'f 0', 'f 1', .., in a block below B. -/
def Holds (w : World) (B : Nat) (A : Option Addr) (n : Nat) (f : Nat → Int) : Prop :=
  0 < n → ∃ b o, A = some ⟨b, o, none⟩ ∧ b < B ∧ ∀ i, i < n → w.cell? ⟨b, o + i, none⟩ = some (.int .i64 (f i))
section
variable {w w' : World} {B B' n g : Nat} {A : Option Addr} {f : Nat → Int}
theorem Holds.below (h : Holds w B A n f) (hb : Below B w w') : Holds w' B A n f := fun hn => by
  obtain ⟨b, o, e, hlt, hc⟩ := h hn
  exact ⟨b, o, e, hlt, fun i hi => (hb.cell (p := ⟨b, o + i, none⟩) hlt).trans (hc i hi)⟩
theorem Holds.more (h : Holds w B A n f) (hB : B ≤ B') : Holds w B' A n f := fun hn => by
  obtain ⟨b, o, e, hlt, hc⟩ := h hn
  exact ⟨b, o, e, by omega, hc⟩
theorem Holds.none_ : Holds w B A 0 f := fun h => absurd h (by omega)
/-- The block g is a row of n elements of the call's own. -/
def Row (w : World) (g n : Nat) (f : Nat → Int) : Prop :=
  ∃ cs : Array Value, w.heap[g]? = some (.cells cs 3 (0, 0)) ∧ n ≤ cs.size ∧ ∀ i, i < n → cs[i]? = some (.int .i64 (f i))
theorem Row.lt (h : Row w g n f) : g < w.heap.size := by
  obtain ⟨cs, hg, _⟩ := h
  rcases Nat.lt_or_ge g w.heap.size with hlt | hge
  · exact hlt
  · rw [Array.getElem?_eq_none hge] at hg; cases hg
theorem Row.cell (h : Row w g n f) {i : Nat} (hi : i < n) : w.cell? ⟨g, i, none⟩ = some (.int .i64 (f i)) := by
  obtain ⟨cs, hg, _, hc⟩ := h
  simp [World.cell?, hg, hc i hi]
theorem Row.free (h : Row w g n f) (i : Nat) : w.frozen? ⟨g, i, none⟩ = false := by
  obtain ⟨cs, hg, _⟩ := h
  simp [World.frozen?, hg]
theorem Row.holds (h : Row w g n f) (hB : g < B) : Holds w B (some ⟨g, 0, none⟩) n f := fun _ =>
  ⟨g, 0, rfl, hB, fun i hi => by rw [Nat.zero_add]; exact h.cell hi⟩
theorem Row.below (h : Row w g n f) (hb : Below B w w') (hg : g < B) : Row w' g n f := by
  obtain ⟨cs, h1, h2⟩ := h
  exact ⟨cs, (hb.block g hg).trans h1, h2⟩
theorem Row.alloc (h : Row w g n f) (o : Obj) : Row (w.alloc o) g n f := by
  have hl := h.lt
  obtain ⟨cs, h1, h2⟩ := h
  exact ⟨cs, (Below.heap_alloc w o g hl).trans h1, h2⟩
theorem Row.drewN (h : Row w g n f) (k : Nat) : Row (w.drewN k) g n f := h
theorem Row.far (h : Row w g n f) {p : Addr} (hp : g ≠ p.block) (u : Value) : Row (w.setCell p u) g n f := by
  obtain ⟨cs, h1, h2⟩ := h
  exact ⟨cs, (Below.heap_setCell w p u g hp).trans h1, h2⟩
theorem Row.set_ (h : Row w g n f) (i : Nat) (v : Int) : Row (w.setCell ⟨g, i, none⟩ (.int .i64 v)) g n (fun j => if j = i then v else f j) := by
  obtain ⟨cs, h1, h2, h3⟩ := h
  refine ⟨cs.setIfInBounds i (.int .i64 v), by simp [World.setCell, Array.getElem?_modify, h1], by simpa using h2, fun j hj => ?_⟩
  rw [Array.getElem?_setIfInBounds]
  by_cases e : i = j
  · subst e; simp; omega
  · have e' : ¬ j = i := fun h => e h.symm
    simp [e, e', h3 j hj]
theorem Row.congr {f' : Nat → Int} (h : Row w g n f) (e : ∀ i, i < n → f i = f' i) : Row w g n f' := by
  obtain ⟨cs, h1, h2, h3⟩ := h
  exact ⟨cs, h1, h2, fun i hi => by rw [h3 i hi, e i hi]⟩
end
theorem ret_bool {a b : Bool} (h : a = b) : Ending.returned (.bool a) = .returned (.bool b) := by rw [h]

/-- What Check answers. -/
def lchk (n : Nat) (f : Nat → Int) : Int := if 400 < n then 4 else if decide (∀ i, i < n → 0 ≤ f i ∧ f i < 400) then 0 else 8

end Go.Proofs.YtbafhdinalapoaaDoor.L2

/- The reference's Same, and the program's Check. -/
namespace Go.Proofs.YtbafhdinalapoaaDoor.L2
open Go.RowKit
set_option linter.unusedVariables false
set_option linter.unusedSimpArgs false

set_option maxHeartbeats 400000 in
theorem rsame_len (A D : Option Addr) (n m c d : Nat) (w : World) (h : ¬ n = m) :
    Calls Tryd.prog 16 #[.slice A n c, .slice D m d] w fun e w' => e = .returned (.bool false) ∧ w' = w := by
  have z : ((n : Int) != (m : Int)) = true := by simp; omega
  clear h
  go_enter Tryd.func16, Tryd.ntmps16
  go_wp2
  go_ret
  exact ⟨rfl, rfl⟩

set_option maxHeartbeats 1600000 in
theorem rsame_any (A D : Option Addr) (n c d : Nat) (f g : Nat → Int) (w : World) (hn : n ≤ 5000) (hr : Holds w w.heap.size A n f) (hs : Holds w w.heap.size D n g) :
    Calls Tryd.prog 16 #[.slice A n c, .slice D n d] w fun e w' => e = .returned (.bool (decide (∀ i, i < n → f i = g i))) ∧ Below w.heap.size w w' := by
  have z3 : ((n : Int) != (n : Int)) = false := by simp
  have HR := Lib.hid hr
  have HS := Lib.hid hs
  clear hr hs
  go_enter Tryd.func16, Tryd.ntmps16
  go_wp2
  go_loopw [5] (fun i wr => ∃ k : Nat, k ≤ n ∧ i = .int .i64 k ∧ Hid (∀ i, i < k → f i = g i) ∧ Below w.heap.size w wr) (fun i _ => n - (intOf i).toNat)
  case atStart => exact ⟨0, Nat.zero_le _, rfl, fun i hi => absurd hi (by omega), Below.refl _ _⟩
  case round =>
    obtain ⟨k, hk, rfl, hall, hbel⟩ := hrel
    by_cases hlt : k < n
    · obtain ⟨b, o, rfl, hbl, hc⟩ := (HR.out.below hbel) (by omega)
      obtain ⟨b', o', rfl, hbl', hc'⟩ := (HS.out.below hbel) (by omega)
      have c1 := hc k hlt
      have c2 := hc' k hlt
      clear hc hc'
      have hbs := hbel.size
      have B1 := Lib.hid hbel
      clear hbel
      have y1 : (0 : Int) ≤ (k : Int) := by omega
      have y2 : (k : Int) < (n : Int) := by omega
      obtain ⟨u, hu⟩ : ∃ u, f k = u := ⟨_, rfl⟩
      obtain ⟨v, hv⟩ : ∃ v, g k = v := ⟨_, rfl⟩
      rw [hu] at c1
      rw [hv] at c2
      have HU := Lib.hid hu
      have HV := Lib.hid hv
      clear hu hv
      by_cases e : u = v
      · have E := Lib.hid (show f k = g k by rw [HU.out, HV.out, e])
        subst e
        have z : (u != u) = false := by simp
        go_wp2
        go_quiet (fail)
        go_wp2
        refine ⟨⟨k + 1, by omega, by go_num, fun i hi => ?_, Go.Proofs.below_drewN' B1.out _⟩, by simp [intOf]; omega⟩
        rcases Nat.lt_succ_iff_lt_or_eq.1 hi with h | rfl
        · exact hall.out i h
        · exact E.out
      · have E := Lib.hid (show ¬ f k = g k by rw [HU.out, HV.out]; exact e)
        have z : (u != v) = true := by simp [e]
        clear e
        go_wp2
        go_quiet (fail)
        go_wp2
        go_ret
        exact ⟨ret_bool (by symm; rw [decide_eq_false_iff_not]; exact fun h => E.out (h k hlt)), Go.Proofs.below_drewN' B1.out _⟩
    · have e : k = n := by omega
      subst e
      go_wp2
      go_ret
      exact ⟨ret_bool (by symm; rw [decide_eq_true_iff]; exact hall.out), hbel⟩
end Go.Proofs.YtbafhdinalapoaaDoor.L2

/- Slices that the call itself appends to: one element, or the elements of another slice. -/
namespace Go.Proofs.YtbafhdinalapoaaDoor.L2
open Go.RowKit
set_option linter.unusedVariables false
set_option linter.unusedSimpArgs false

theorem TrydI.info3 : (Tryd.prog.info? 3).map (fun i => (i.zero, i.size, i.bytes)) = some (some (.int .i64 0), 1, 8) := by kernel_rfl

def news (n : Nat) (f : Nat → Int) : List Value := (List.range n).map fun i => .int .i64 (f i)
theorem news_length (n : Nat) (f : Nat → Int) : (news n f).length = n := by simp [news]
theorem news_get {n : Nat} {f : Nat → Int} {j : Nat} {u : Value} (h : (news n f)[j]? = some u) : j < n ∧ u = .int .i64 (f j) := by
  have hj : j < n := by
    have := (List.getElem?_eq_some_iff.1 h).1
    rwa [news_length] at this
  refine ⟨hj, ?_⟩
  unfold news at h
  rw [List.getElem?_map, List.getElem?_range hj] at h
  exact (Option.some.inj h).symm
theorem news_one {n : Nat} {f : Nat → Int} : ∀ u ∈ news n f, u.oneCell' = true := by
  intro u hu
  simp [news] at hu
  obtain ⟨i, _, rfl⟩ := hu
  rfl
theorem news_succ (n : Nat) (f : Nat → Int) : news (n + 1) f = news n f ++ [.int .i64 (f n)] := by
  simp [news, List.range_succ]
theorem news_congr {n : Nat} {f g : Nat → Int} (h : ∀ i, i < n → f i = g i) : news n f = news n g := by
  unfold news
  exact List.map_congr_left fun i hi => by rw [h i (List.mem_range.1 hi)]
/-- f on the first n places, then g. -/
def both (n : Nat) (f g : Nat → Int) (i : Nat) : Int := if i < n then f i else g (i - n)
theorem news_both (n m : Nat) (f g : Nat → Int) : news n f ++ news m g = news (n + m) (both n f g) := by
  apply List.ext_getElem?
  intro i
  by_cases h : i < n
  · rw [List.getElem?_append_left (by rw [news_length]; exact h)]
    unfold news
    rw [List.getElem?_map, List.getElem?_map, List.getElem?_range h, List.getElem?_range (by omega)]
    simp [both, h]
  · rw [List.getElem?_append_right (by rw [news_length]; omega), news_length]
    unfold news
    by_cases h2 : i < n + m
    · rw [List.getElem?_map, List.getElem?_map, List.getElem?_range h2, List.getElem?_range (by omega)]
      simp [both, h]
    · rw [List.getElem?_eq_none (by simp; omega), List.getElem?_eq_none (by simp; omega)]

/-- v is a slice of n elements that the call itself has made: nil, or a row among the blocks from base on. -/
def Own (w : World) (base : Nat) (v : Value) (n : Nat) (f : Nat → Int) : Prop := w.ownsRow base 3 1 v n (news n f)
section
variable {w w' : World} {base B n : Nat} {v : Value} {f g : Nat → Int}
theorem Own.nil (w : World) (base : Nat) (f : Nat → Int) : Own w base (.slice none 0 0) 0 f := World.ownsRow_nil _ _ _ _
theorem Own.empty (w : World) (hb : base ≤ w.heap.size) (f : Nat → Int) : Own (w.alloc (.cells #[] 3)) base (.slice (some ⟨w.heap.size, 0, none⟩) 0 0) 0 f := World.ownsRow_made w #[] 0 hb (by unfold maxLen; omega) rfl
theorem Own.congr (h : Own w base v n f) (e : ∀ i, i < n → f i = g i) : Own w base v n g := by
  unfold Own at *
  rwa [← news_congr e]
theorem Own.block {k : Nat} (h : Own w base v n f) (hk : v.ownBlock = some k) : base ≤ k ∧ k < w.heap.size := World.ownsRow.lt h k hk
theorem Own.keep (h : Own w base v n f) (hb : ∀ k, base ≤ k → k < w.heap.size → w'.heap[k]? = w.heap[k]?) : Own w' base v n f := by
  rcases h with ⟨hl, ⟨hv, hn⟩ | ⟨g, cap, cur, hv, hg, hc, r⟩⟩
  · exact ⟨hl, .inl ⟨hv, hn⟩⟩
  · refine ⟨hl, .inr ⟨g, cap, cur, hv, hg, (hb g hg ?_).trans hc, r⟩⟩
    rcases Nat.lt_or_ge g w.heap.size with h | h
    · exact h
    · rw [Array.getElem?_eq_none h] at hc; cases hc
theorem Own.below (h : Own w base v n f) (hb : Below w.heap.size w w') : Own w' base v n f := h.keep fun k _ hk => hb.block k hk
theorem Own.drew (h : Own w base v n f) : Own w.drew base v n f := h
theorem Own.drewN (h : Own w base v n f) (k : Nat) : Own (w.drewN k) base v n f := h
theorem Own.alloc (h : Own w base v n f) (o : Obj) : Own (w.alloc o) base v n f := h.keep fun k _ hk => Below.heap_alloc w o k hk
theorem Own.far (h : Own w base v n f) {p : Addr} (hp : p.block < base) (u : Value) : Own (w.setCell p u) base v n f := h.keep fun k hk _ => Below.heap_setCell w p u k (by omega)
theorem Own.lower (h : Own w base v n f) (hB : B ≤ base) : Own w B v n f := by
  rcases h with ⟨hl, ⟨hv, hn⟩ | ⟨g, cap, cur, hv, hg, r⟩⟩
  · exact ⟨hl, .inl ⟨hv, hn⟩⟩
  · exact ⟨hl, .inr ⟨g, cap, cur, hv, by omega, r⟩⟩
/-- What a loop that has appended hands back. -/
theorem Own.out (h : Own w base v n f) : ∃ A c, v = .slice A n c ∧ (A = none → c = 0) ∧ (0 < n → ∃ k, A = some ⟨k, 0, none⟩ ∧ base ≤ k ∧ Row w k n f) := by
  rcases h with ⟨hl, ⟨rfl, rfl⟩ | ⟨g, cap, cur, rfl, hg, hc, hcap, _, hs, ht⟩⟩
  · exact ⟨none, 0, rfl, fun _ => rfl, fun h => absurd h (by omega)⟩
  · refine ⟨_, _, rfl, (fun h => by cases h), fun _ => ⟨g, rfl, hg, cur, hc, by omega, fun i hi => ?_⟩⟩
    have e : (cur.toList.take (n * 1))[i]? = some (.int .i64 (f i)) := by
      rw [ht, news, List.getElem?_map, List.getElem?_range hi]; rfl
    rw [List.getElem?_take] at e
    rw [if_pos (by omega)] at e
    simpa using e
end

/-- 'append(s, y)'. -/
theorem app1 {ops : Array Oper} {rest : List Oper} {o : Oper} {a : Act} {Q : Exit → Act → World → Prop} (w : World) (hgd : o.guard = none) (s x : Operand)
    (ho : o.op = .call { callee := .builtin .append, args := #[s, x], argTypes := #[22, 22] }) (base : Nat) {v : Value} {n : Nat} {f : Nat → Int} (hs : a.eval s = v) (hown : Own w base v n f)
    (y : Int) (hx : a.eval x = .slice (some ⟨w.heap.size, 0, none⟩) 1 1) (hy : f n = y) (hn : n ≤ 100000) (hb : base ≤ w.heap.size)
    (h : ∀ v' w', Own w' base v' (n + 1) f → Below base w w' → wpList Tryd.prog ops Q rest (a.put o.dst v') w') :
    wpList Tryd.prog ops Q (o :: rest) a (w.alloc (.cells #[.int .i64 y] 3)) := by
  obtain ⟨i0, hi, hz0, hz1, hz2⟩ := info_parts TrydI.info3
  refine wpList_append_own _ hgd s x 22 ho base 3 i0 (.int .i64 0) 1 8 Tryd.underlying22 hi hz0 hz1 hz2 rfl (by decide) v n _ hs (hown.alloc _) ⟨w.heap.size, 0, none⟩ 1 1 [.int .i64 y] hx rfl (cell_one_new _ _ _) (ints_oneCell .i64 [y])
    (by unfold maxLen; omega) (by omega) (by simp; omega) ?_
  intro v' w' ho' hg _
  refine h v' w' ?_ ?_
  · unfold Own
    rw [news_succ, hy]
    exact ho'
  · refine Below.grown ((Below.refl _ _).alloc hb _) hg (by simp; omega) fun k hk => (hown.block hk).1

/-- 'append(s, l...)', l's elements being g. -/
theorem appN {ops : Array Oper} {rest : List Oper} {o : Oper} {a : Act} {Q : Exit → Act → World → Prop} (w : World) (hgd : o.guard = none) (s x : Operand)
    (ho : o.op = .call { callee := .builtin .append, args := #[s, x], argTypes := #[22, 22] }) (base : Nat) {v : Value} {n : Nat} {f : Nat → Int} (hs : a.eval s = v) (hown : Own w base v n f)
    {B : Nat} {A : Option Addr} {m c : Nat} {g : Nat → Int} (hx : a.eval x = .slice A m c) (hA : A = none → c = 0) (hr : Holds w B A m g) (hn : n ≤ 100000) (hm : m ≤ 100000) (hb : base ≤ w.heap.size)
    (h : ∀ v' w', Own w' base v' (n + m) (both n f g) → Below base w w' → wpList Tryd.prog ops Q rest (a.put o.dst v') w') :
    wpList Tryd.prog ops Q (o :: rest) a w := by
  obtain ⟨i0, hi, hz0, hz1, hz2⟩ := info_parts TrydI.info3
  have key : ∀ ad, A = some ad → (∀ j u, (news m g)[j]? = some u → w.cell? (ad.add j) = some u) → wpList Tryd.prog ops Q (o :: rest) a w := by
    rintro ad rfl hc
    refine wpList_append_own _ hgd s x 22 ho base 3 i0 (.int .i64 0) 1 8 Tryd.underlying22 hi hz0 hz1 hz2 rfl (by decide) v n _ hs hown ad m c (news m g) hx (by rw [news_length]; omega) hc news_one
      (by unfold maxLen; omega) (by omega) hb ?_
    intro v' w' ho' hg _
    refine h v' w' ?_ ?_
    · unfold Own
      rw [← news_both]
      exact ho'
    · exact Below.grown (Below.refl _ _) hg hb fun k hk => (hown.block hk).1
  cases A with
  | none =>
    obtain rfl := hA rfl
    rcases Nat.eq_zero_or_pos m with h0 | h0
    · subst h0
      have hrun := run_append_owned_none (P := Tryd.prog) (w := w) base 22 o.type 3 i0 1 Tryd.underlying22 hi v n _ hown
      refine wpList_plain hgd fun K hK => ?_
      unfold Oper.wp
      simp [execOp, ho, resolve, invoke, builtin, hs, hx, hrun, Result.andThen]
      exact hK _ _ (h v w (hown.congr fun i hi => by simp [both, hi]) (Below.refl _ _))
    · obtain ⟨b, off, e, _⟩ := hr h0
      cases e
  | some ad =>
    refine key ad rfl fun j u hj => ?_
    obtain ⟨hj', rfl⟩ := news_get hj
    obtain ⟨b, off, e, _, hc⟩ := hr (by omega)
    cases e
    have e : Addr.add ⟨b, off, none⟩ j = ⟨b, off + j, none⟩ := by unfold Addr.add; by_cases h : j = 0 <;> simp [h]
    rw [e]
    exact hc j hj'
end Go.Proofs.YtbafhdinalapoaaDoor.L2

/- The program's 'build': a new list, each element the answer of the function value that is handed over. -/
namespace Go.Proofs.YtbafhdinalapoaaDoor.L2
open Go.RowKit
set_option linter.unusedVariables false
set_option linter.unusedSimpArgs false

theorem TrydI.infoI : (Tryd.prog.info? 3).map (fun i => (i.zero, i.size, i.bytes)) = some (some (.int .i64 0), 1, 8) := by kernel_rfl

theorem make_run (n : Nat) (hN : n ≤ 4096) (w : World) :
    (Instr.makeSlice 22 (.int .i64 n) (.int .i64 n)).run Tryd.prog w = .ok (.slice (some ⟨w.heap.size, 0, none⟩) n n) (w.alloc (.cells (madeCells #[.int .i64 0] n) 3)) :=
  run_make_row' (P := Tryd.prog) 22 3 (.int .i64 0) 8 Tryd.underlying22 TrydI.infoI rfl .i64 .i64 n (by omega) (by omega) w

theorem Row.made (w : World) (n : Nat) : Row (w.alloc (.cells (madeCells #[.int .i64 0] n) 3)) w.heap.size n (fun _ => 0) := by
  refine ⟨madeCells #[.int .i64 0] n, ?_, Nat.le_of_eq (size_madeCells _ _).symm, fun i hi => ?_⟩
  · show (w.heap.push _)[w.heap.size]? = _
    rw [Array.getElem?_push, if_pos rfl]
  · simp [madeCells, hi, Nat.mod_one]

/-- What is asked of the function value that 'build' calls: at each place it answers 'F', and writes nothing that was there. -/
def Gives (g : Nat) (lb : Array Value) (w0 : World) (n : Nat) (F : Nat → Int) : Prop :=
  ∀ (w : World) (x : Nat), Below w0.heap.size w0 w → x < n → Calls Tryd.prog g (#[.int .i64 x] ++ lb) w fun e w' => e = .returned (.int .i64 (F x)) ∧ Below w.heap.size w w'

def part (F : Nat → Int) (m : Nat) : Nat → Int := fun i => if i < m then F i else 0
theorem part_zero (F : Nat → Int) : part F 0 = fun _ => 0 := by funext i; simp [part]
theorem part_succ (F : Nat → Int) (x : Nat) : (fun j => if j = x then F x else part F x j) = part F (x + 1) := by
  funext j
  unfold part
  by_cases e : j = x
  · subst e; simp
  · rw [if_neg e]
    by_cases h : j < x
    · rw [if_pos h, if_pos (by omega)]
    · rw [if_neg h, if_neg (by omega)]

end Go.Proofs.YtbafhdinalapoaaDoor.L2

/- The program's Check of a list. -/
namespace Go.Proofs.YtbafhdinalapoaaDoor.L2
open Go.RowKit
set_option linter.unusedVariables false
set_option linter.unusedSimpArgs false

set_option maxHeartbeats 1600000 in
theorem check_any (A : Option Addr) (n c : Nat) (f : Nat → Int) (w : World) (hn : n ≤ 420) (hr : Holds w w.heap.size A n f) :
    Calls Tryd.prog 84 #[.slice A n c] w fun e w' => e = .returned (.int .i64 (lchk n f)) ∧ Below w.heap.size w w' := by
  have HR := Lib.hid hr
  clear hr
  by_cases h1 : 400 < n
  · have b1 : decide ((400 : Int) < (n : Int)) = true := by simp; omega
    have e : lchk n f = 4 := by unfold lchk; rw [if_pos h1]
    rw [e]
    go_enter Tryd.func84, Tryd.ntmps84
    go_wp2
    go_ret
    exact ⟨rfl, Below.refl _ _⟩
  · have b1 : decide ((400 : Int) < (n : Int)) = false := by simp; omega
    have e : lchk n f = if decide (∀ i, i < n → 0 ≤ f i ∧ f i < 400) then 0 else 8 := by unfold lchk; rw [if_neg h1]
    have HE := Lib.hid e
    clear e
    go_enter Tryd.func84, Tryd.ntmps84
    go_wp2
    go_loopw [10] (fun i wr => ∃ k : Nat, k ≤ n ∧ i = .int .i64 k ∧ Hid (∀ i, i < k → 0 ≤ f i ∧ f i < 400) ∧ Below w.heap.size w wr) (fun i _ => n - (intOf i).toNat)
    case atStart => exact ⟨0, Nat.zero_le _, rfl, Lib.hid fun i hi => absurd hi (by omega), Below.refl _ _⟩
    case round =>
      obtain ⟨k, hk, rfl, hall, hbel⟩ := hrel
      by_cases hlt : k < n
      · obtain ⟨b, o, rfl, hbl, hc⟩ := (HR.out.below hbel) (by omega)
        have c1 := hc k hlt
        clear hc
        have B1 := Lib.hid hbel
        clear hbel
        have y1 : (0 : Int) ≤ (k : Int) := by omega
        have y2 : (k : Int) < (n : Int) := by omega
        obtain ⟨v, hv⟩ : ∃ v, f k = v := ⟨_, rfl⟩
        rw [hv] at c1
        have HV := Lib.hid hv
        clear hv
        by_cases g1 : v < 0
        · have d1 : decide (v < 0) = true := by simp [g1]
          have hbad : lchk n f = 8 := by
            rw [HE.out, if_neg]
            simp only [decide_eq_true_eq]
            intro h
            have := h k hlt
            rw [HV.out] at this
            omega
          have HB := Lib.hid hbad
          clear hbad
          go_wp2
          go_ret
          exact ⟨by rw [HB.out]; rfl, B1.out⟩
        · have d1 : decide (v < 0) = false := by simp [g1]
          by_cases g2 : 400 ≤ v
          · have d2 : decide (400 ≤ v) = true := by simp [g2]
            have hbad : lchk n f = 8 := by
              rw [HE.out, if_neg]
              simp only [decide_eq_true_eq]
              intro h
              have := h k hlt
              rw [HV.out] at this
              omega
            have HB := Lib.hid hbad
            clear hbad
            go_wp2
            go_ret
            exact ⟨by rw [HB.out]; rfl, B1.out⟩
          · have d2 : decide (400 ≤ v) = false := by simp [g2]
            have HK := Lib.hid (show 0 ≤ f k ∧ f k < 400 by rw [HV.out]; omega)
            go_wp2
            refine ⟨⟨k + 1, by omega, by go_num, fun i hi => ?_, B1.out⟩, by simp [intOf]; omega⟩
            rcases Nat.lt_succ_iff_lt_or_eq.1 hi with h | rfl
            · exact hall.out i h
            · exact HK.out
      · have e : k = n := by omega
        subst e
        have hok : lchk k f = 0 := by
          rw [HE.out, if_pos]
          simp only [decide_eq_true_eq]
          exact hall.out
        have HO := Lib.hid hok
        clear hok
        go_wp2
        go_ret
        exact ⟨by rw [HO.out]; rfl, hbel⟩
end Go.Proofs.YtbafhdinalapoaaDoor.L2

/- The function values that the program hands to 'build': what each one answers. -/
namespace Go.Proofs.YtbafhdinalapoaaDoor.L2
open Go.RowKit
set_option linter.unusedVariables false
set_option linter.unusedSimpArgs false

/-- A captured number in a variable of its own. -/
def Num (w : World) (g : Nat) (v : Int) : Prop := w.cell? ⟨g, 0, none⟩ = some (.int .i64 v) ∧ g < w.heap.size
theorem Num.below {w w' : World} {g : Nat} {v : Int} (h : Num w g v) (hb : Below w.heap.size w w') : Num w' g v :=
  ⟨(hb.cell (p := ⟨g, 0, none⟩) h.2).trans h.1, Nat.lt_of_lt_of_le h.2 hb.size⟩
/-- A captured list in a variable of its own. -/
structure Lst (w : World) (g : Nat) (A : Option Addr) (n c : Nat) (f : Nat → Int) : Prop where
  box : w.cell? ⟨g, 0, none⟩ = some (.slice A n c)
  lt : g < w.heap.size
  cells : Holds w w.heap.size A n f
theorem Lst.below {w w' : World} {g n c : Nat} {A : Option Addr} {f : Nat → Int} (h : Lst w g A n c f) (hb : Below w.heap.size w w') : Lst w' g A n c f :=
  ⟨(hb.cell (p := ⟨g, 0, none⟩) h.lt).trans h.box, Nat.lt_of_lt_of_le h.lt hb.size, (h.cells.below hb).more hb.size⟩

/-- The place in a pointed list. -/
def ptd (p : Nat) (x : Nat) : Int := min ((x % p : Nat) : Int) ((p : Int) - ((x % p : Nat) : Int))

end Go.Proofs.YtbafhdinalapoaaDoor.L2

/- Straight and Pointed, the program's and the reference's. -/
namespace Go.Proofs.YtbafhdinalapoaaDoor.L2
open Go.RowKit
set_option linter.unusedVariables false
set_option linter.unusedSimpArgs false

/-- A list and an error came back; the list's elements lie in a new row of the call's own. -/
def LOut (w : World) (n : Nat) (F : Nat → Int) (err : Int) (e : Ending) (w' : World) : Prop :=
  ∃ A c, e = .returned (.tuple #[.slice A n c, .int .i64 err]) ∧ (A = none → c = 0) ∧ (0 < n → ∃ k, A = some ⟨k, 0, none⟩ ∧ w.heap.size ≤ k ∧ Row w' k n F) ∧ Below w.heap.size w w'
theorem LOut.row {w w' : World} {n k c : Nat} {F : Nat → Int} (hk : w.heap.size ≤ k) (hr : Row w' k n F) (hb : Below w.heap.size w w') :
    LOut w n F 0 (.returned (.tuple #[.slice (some ⟨k, 0, none⟩) n c, .int .i64 0])) w' :=
  ⟨_, _, rfl, (fun h => by cases h), fun _ => ⟨k, rfl, hk, hr⟩, hb⟩
theorem LOut.err {w w' : World} {F : Nat → Int} {err : Int} (hb : Below w.heap.size w w') : LOut w 0 F err (.returned (.tuple #[.slice none 0 0, .int .i64 err])) w' :=
  ⟨_, _, rfl, fun _ => rfl, fun h => absurd h (by omega), hb⟩
theorem LOut.own {w w' : World} {n : Nat} {v : Value} {F : Nat → Int} (h : Own w' w.heap.size v n F) (hb : Below w.heap.size w w') : LOut w n F 0 (.returned (.tuple #[v, .int .i64 0])) w' := by
  obtain ⟨A, c, rfl, h1, h2⟩ := h.out
  exact ⟨A, c, rfl, h1, h2, hb⟩

/-- May a number and a length be those of a list? -/
def rn (n len : Int) : Bool := decide (1 ≤ n) && decide (n ≤ 400) && decide (0 ≤ len) && decide (len ≤ 400)

theorem mk_fn : ∀ (fn : Fn) (first cap : Array Value) (w : World), (Instr.makeFunc fn first cap).run Tryd.prog w = .ok (.func fn first cap) w := fun _ _ _ _ => rfl

theorem rn_nat {n len : Int} (h : rn n len = true) : ∃ N L : Nat, n = N ∧ len = L ∧ 1 ≤ N ∧ N ≤ 400 ∧ L ≤ 400 := by
  unfold rn at h
  simp at h
  exact ⟨n.toNat, len.toNat, by omega, by omega, by omega, by omega, by omega⟩

theorem below_box (w : World) (v : Value) (t : TypeId) : Below w.heap.size w (w.alloc (.cells #[v] t)) := (Below.refl _ _).alloc (Nat.le_refl _) _
theorem Num.new (w : World) (v : Int) : Num (w.alloc (.cells #[.int .i64 v] 3)) w.heap.size v := ⟨by simp only [World.cell?, heap_alloc_new]; rfl, by simp⟩

end Go.Proofs.YtbafhdinalapoaaDoor.L2

/- Reverse and Tile, the program's and the reference's. -/
namespace Go.Proofs.YtbafhdinalapoaaDoor.L2
open Go.RowKit
set_option linter.unusedVariables false
set_option linter.unusedSimpArgs false

theorem chk_is {A : Option Addr} {n : Nat} (c : Nat) {f : Nat → Int} {err : Int} (hn : n ≤ 420) (hx : lchk n f = err) (w : World) (hr : Holds w w.heap.size A n f) :
    Calls Tryd.prog 84 #[.slice A n c] w fun e w' => e = .returned (.int .i64 err) ∧ Below w.heap.size w w' := by
  subst hx
  exact check_any A n c f w hn hr
theorem lchk_le {n : Nat} {f : Nat → Int} (h : lchk n f = 0) : n ≤ 400 := by
  unfold lchk at h
  split at h
  · cases h
  · omega
theorem Lst.new {w : World} {A : Option Addr} {n c : Nat} {f : Nat → Int} (h : Holds w w.heap.size A n f) : Lst (w.alloc (.cells #[.slice A n c] 22)) w.heap.size A n c f :=
  ⟨by simp only [World.cell?, heap_alloc_new]; rfl, by simp, (h.below (below_box w _ _)).more (by simp)⟩

/-- The error of Tile, or 0. -/
def tchk (n : Nat) (f : Nat → Int) (t : Int) : Int := if lchk n f ≠ 0 then lchk n f else if t < 0 then 2 else if 0 < n ∧ 400 / (n : Int) < t then 4 else 0

theorem tile_le {n : Nat} {f : Nat → Int} {t : Int} (h : tchk n f t = 0) : lchk n f = 0 ∧ 0 ≤ t ∧ (0 < n → t ≤ 400 / (n : Int)) := by
  unfold tchk at h
  split at h
  · exact absurd h (by assumption)
  · rename_i h1
    split at h
    · cases h
    · split at h
      · cases h
      · exact ⟨by omega, by omega, fun hn => by omega⟩

theorem tile_mul {n T : Nat} (h : 0 < n → (T : Int) ≤ 400 / (n : Int)) : n * T ≤ 400 := by
  rcases Nat.eq_zero_or_pos n with h0 | h0
  · subst h0; simp
  · have h1 := h h0
    have h2 : T ≤ 400 / n := Int.ofNat_le.1 (by rw [Int.natCast_ediv]; exact h1)
    calc n * T ≤ n * (400 / n) := Nat.mul_le_mul_left _ h2
      _ ≤ 400 := Nat.mul_div_le 400 n

end Go.Proofs.YtbafhdinalapoaaDoor.L2

/- The first places of a list's elements, and the map of the program that numbers them. -/
namespace Go.Proofs.YtbafhdinalapoaaDoor.L2
open Go.RowKit Go.Maps
set_option linter.unusedVariables false
set_option linter.unusedSimpArgs false

/-- The first place below n that holds x, or n. -/
def fst (f : Nat → Int) (x : Int) : Nat → Nat
  | 0 => 0
  | n + 1 => if fst f x n < n then fst f x n else if f n = x then n else n + 1
/-- How many different elements the first n are. -/
def nd (f : Nat → Int) : Nat → Nat
  | 0 => 0
  | n + 1 => nd f n + (if fst f (f n) n < n then 0 else 1)
/-- The renumbered list. -/
def ren (f : Nat → Int) (i : Nat) : Int := (nd f (fst f (f i) i) : Nat)

theorem fst_le (f : Nat → Int) (x : Int) (n : Nat) : fst f x n ≤ n := by
  induction n with
  | zero => simp [fst]
  | succ n ih =>
    unfold fst
    split
    · omega
    · split <;> omega
theorem fst_at (f : Nat → Int) (x : Int) (n : Nat) (h : fst f x n < n) : f (fst f x n) = x := by
  induction n with
  | zero => omega
  | succ n ih =>
    unfold fst at h ⊢
    by_cases h1 : fst f x n < n
    · rw [if_pos h1]; exact ih h1
    · rw [if_neg h1] at h ⊢
      by_cases h2 : f n = x
      · rw [if_pos h2]; exact h2
      · rw [if_neg h2] at h; omega
theorem fst_no (f : Nat → Int) (x : Int) (n : Nat) : ∀ j, j < fst f x n → f j ≠ x := by
  induction n with
  | zero => intro j hj; simp [fst] at hj
  | succ n ih =>
    intro j hj
    unfold fst at hj
    have hle := fst_le f x n
    by_cases h1 : fst f x n < n
    · rw [if_pos h1] at hj; exact ih j hj
    · rw [if_neg h1] at hj
      by_cases h2 : f n = x
      · rw [if_pos h2] at hj; exact ih j (by omega)
      · rw [if_neg h2] at hj
        rcases Nat.lt_or_ge j n with h3 | h3
        · exact ih j (by omega)
        · obtain rfl : j = n := by omega
          exact h2
theorem fst_keep {f : Nat → Int} {x : Int} {n : Nat} (h : fst f x n < n) : fst f x (n + 1) = fst f x n := by
  rw [fst, if_pos h]
theorem fst_succ_hit {f : Nat → Int} {x : Int} {n : Nat} (h : ¬ fst f x n < n) (e : f n = x) : fst f x (n + 1) = n := by
  rw [fst, if_neg h, if_pos e]
theorem fst_succ_miss {f : Nat → Int} {x : Int} {n : Nat} (h : ¬ fst f x n < n) (e : ¬ f n = x) : fst f x (n + 1) = n + 1 := by
  rw [fst, if_neg h, if_neg e]
theorem fst_end {f : Nat → Int} {x : Int} {n : Nat} (h : ¬ fst f x n < n) : fst f x n = n := by have := fst_le f x n; omega
theorem nd_le (f : Nat → Int) (n : Nat) : nd f n ≤ n := by
  induction n with
  | zero => simp [nd]
  | succ n ih => unfold nd; split <;> omega

/-- D is the map behind k elements. -/
structure MapIs (D : DataW Unit) (f : Nat → Int) (k : Nat) : Prop where
  tidy : Tidy D
  has : ∀ x, Maps.has D (.int .i64 x) = decide (fst f x k < k)
  val : ∀ x, fst f x k < k → D.atKey (.int .i64 x) (.lit (.int .i64 0)) = .lit (.int .i64 (nd f (fst f x k) : Nat))
  size : Maps.size D = nd f k

theorem isKey (x : Int) : WideAt.IsKeyLit (.int .i64 x) := by simp [WideAt.IsKeyLit]
theorem MapIs.zero (f : Nat → Int) : MapIs (.map []) f 0 :=
  ⟨tidy_empty, fun x => by simp [Maps.has], fun x h => absurd h (by omega), rfl⟩
theorem MapIs.seen {D : DataW Unit} {f : Nat → Int} {k : Nat} (h : MapIs D f k) (hs : fst f (f k) k < k) : MapIs D f (k + 1) := by
  have e : ∀ x, fst f x (k + 1) < k + 1 ↔ fst f x k < k := by
    intro x
    by_cases h1 : fst f x k < k
    · rw [fst_keep h1]; omega
    · have h2 : ¬ f k = x := fun e => h1 (e ▸ hs)
      rw [fst_succ_miss h1 h2]; omega
  refine ⟨h.tidy, fun x => by rw [h.has x]; simp only [e x], fun x hx => ?_, ?_⟩
  · have h1 := (e x).1 hx
    rw [fst_keep h1]
    exact h.val x h1
  · rw [h.size, nd, if_pos hs]; rfl
theorem MapIs.new {D : DataW Unit} {f : Nat → Int} {k : Nat} (h : MapIs D f k) (hs : ¬ fst f (f k) k < k) : MapIs (D.put (.int .i64 (f k)) (.lit (.int .i64 (nd f k : Nat)))) f (k + 1) := by
  have hk := isKey (f k)
  have he := fst_end hs
  refine ⟨h.tidy.put hk _, fun x => ?_, fun x hx => ?_, ?_⟩
  · by_cases e : x = f k
    · subst e
      rw [has_put_same h.tidy.isMap hk, fst_succ_hit hs rfl]
      simp
    · rw [has_put_other (by simpa using e), h.has x]
      by_cases h1 : fst f x k < k
      · rw [fst_keep h1]; simp; omega
      · rw [fst_succ_miss h1 (fun e' => e e'.symm)]; simp; omega
  · by_cases e : x = f k
    · subst e
      rw [atKey_put_same h.tidy.isMap hk, fst_succ_hit hs rfl]
    · rw [atKey_put_other (by simpa using e)]
      by_cases h1 : fst f x k < k
      · rw [fst_keep h1]; exact h.val x h1
      · rw [fst_succ_miss h1 (fun e' => e e'.symm)] at hx; omega
  · rw [size_put h.tidy, h.has, if_neg (by simpa using hs), h.size, nd, if_neg hs]

theorem law3 : Keyed Tryd.prog 3 := int_keyed Tryd.underlying3
theorem zero3 (w : World) : (zeroValue 3).run Tryd.prog w = .ok (.int .i64 0) w := by kernel_rfl

/-- Block B is the map of the numbering, behind k elements of f. -/
def NumSt (w : World) (B : Nat) (f : Nat → Int) (k : Nat) : Prop := ∃ D : DataW Unit, w.ownsMap Tryd.prog 3 (plainElem Tryd.prog 3) B k D ∧ MapIs D f k
theorem NumSt.lt {w : World} {B k : Nat} {f : Nat → Int} (h : NumSt w B f k) : B < w.heap.size := by
  obtain ⟨D, ho, _⟩ := h
  exact ho.lt
theorem NumSt.zero (w : World) (f : Nat → Int) : NumSt (w.alloc (.map #[] 0)) w.heap.size f 0 := ⟨_, World.ownsMap_made _ _ _ _, MapIs.zero f⟩
theorem NumSt.block {w w' : World} {B k : Nat} {f : Nat → Int} (h : NumSt w B f k) (e : w'.heap[B]? = w.heap[B]?) : NumSt w' B f k := by
  obtain ⟨D, ⟨es, clock, hb, r⟩, hM⟩ := h
  exact ⟨D, ⟨es, clock, e.trans hb, r⟩, hM⟩

/-- What a call of the method leaves. -/
def NumOut (w : World) (B : Nat) (f : Nat → Int) (k : Nat) (e : Ending) (w' : World) : Prop :=
  e = .returned (.int .i64 (ren f k)) ∧ NumSt w' B f (k + 1) ∧ w.grownBy w' (some B)

set_option maxHeartbeats 1600000 in
theorem number_any (B k : Nat) (f : Nat → Int) (x : Int) (w : World) (hk : k ≤ 1000) (h : NumSt w B f k) (hx : f k = x) (h0 : 0 ≤ x) (h1 : x < 400) :
    Calls Tryd.prog 85 #[.map (some B), .int .i64 x] w (NumOut w B f k) := by
  obtain ⟨D, hown, hM⟩ := h
  have hkey : keyOf Tryd.prog 3 (.int .i64 x) = some (.int .i64 x) := keyOf_int_mk Tryd.underlying3 (WalkArith.wf_i64 (by omega))
  have hhas := hM.has x
  have hnd := nd_le f k
  by_cases hs : fst f x k < k
  · have hval := hM.val x hs
    have hh : Maps.has D (.int .i64 x) = true := by rw [hhas]; simp [hs]
    have HM := Lib.hid (hM.seen (by rw [hx]; exact hs))
    have HR := Lib.hid (show ren f k = (nd f (fst f x k) : Nat) by unfold ren; rw [hx])
    obtain ⟨c, hc⟩ : ∃ c : Int, (nd f (fst f x k) : Nat) = c := ⟨_, rfl⟩
    rw [hc] at hval
    have HC := Lib.hid hc
    have HO := Lib.hid hown
    have HV := Lib.hid hval
    clear hown hM hhas hval hc hx hs
    unfold NumOut
    go_enter Tryd.func85, Tryd.ntmps85
    go_wp2_with (first
      | (at_lookup; refine wpList_lookup_own_ok_int _ rfl _ _ 123 rfl 3 3 .i64 law3 Tryd.underlying123 Tryd.underlying3 (zero3 _) B k D rfl HO.out _ _ rfl hkey ?_; intro c' hat hwc; rw [hh]; have e := HV.out.symm.trans hat; simp only [DataW.lit.injEq, Lit.int.injEq, true_and] at e; subst e; clear hat hwc))
    go_ret
    exact ⟨by rw [HR.out, HC.out]; rfl, ⟨D, HO.out.mono (Nat.le_succ _), HM.out⟩, World.grownBy.refl _ _⟩
  · have hh : Maps.has D (.int .i64 x) = false := by rw [hhas]; simp [hs]
    have HM := Lib.hid (hM.new (by rw [hx]; exact hs))
    have HR := Lib.hid (show ren f k = (nd f k : Nat) by unfold ren; rw [hx, fst_end hs])
    have hsz := hM.size
    obtain ⟨m, hm⟩ : ∃ m : Nat, nd f k = m := ⟨_, rfl⟩
    rw [hm] at hsz HM HR hnd
    rw [hx] at HM
    have HO := Lib.hid hown
    have HS := Lib.hid hsz
    clear hown hM hhas hsz hm hx hs
    unfold NumOut
    go_enter Tryd.func85, Tryd.ntmps85
    go_wp2_with (first
      | (at_lookup; refine wpList_lookup_own_ok_int _ rfl _ _ 123 rfl 3 3 .i64 law3 Tryd.underlying123 Tryd.underlying3 (zero3 _) B k D rfl HO.out _ _ rfl hkey ?_; intro c' hat hwc; rw [hh]; clear hat hwc)
      | (at_len; refine wpList_len_own _ rfl _ 123 rfl 3 3 Tryd.underlying123 _ B k D rfl HO.out ?_; rw [HS.out])
      | (at_mapUpdate; refine wpList_mapUpdate_own _ rfl _ _ _ 123 rfl 3 3 law3 Tryd.underlying123 _ B k D rfl HO.out (by unfold maxLen; omega) _ _ _ rfl rfl hkey (.lit (.int .i64 (m : Int))) [] (plainElem_int Tryd.underlying3 (WalkArith.wf_i64 (by omega))) ?_; intro w1 hown1 hgrow1; have HO1 := Lib.hid hown1; have HG1 := Lib.hid hgrow1; clear hown1 hgrow1))
    go_ret
    exact ⟨by rw [HR.out]; rfl, ⟨_, HO1.out, HM.out⟩, HG1.out⟩
end Go.Proofs.YtbafhdinalapoaaDoor.L2

/- The reference's Place, Numbered and Renumber. -/
namespace Go.Proofs.YtbafhdinalapoaaDoor.L2
open Go.RowKit
set_option linter.unusedVariables false
set_option linter.unusedSimpArgs false

/-- What Place answers. -/
def plc (f : Nat → Int) (x : Int) (k : Nat) : Int := if fst f x k < k then (fst f x k : Nat) else -1
theorem fst_mono {f : Nat → Int} {x : Int} {j : Nat} (h : fst f x j < j) : ∀ k, j ≤ k → fst f x k = fst f x j := by
  intro k hk
  induction k with
  | zero => obtain rfl : j = 0 := by omega
            rfl
  | succ k ih =>
    rcases Nat.eq_or_lt_of_le hk with e | hlt
    · rw [e]
    · have := ih (by omega)
      rw [fst_keep (by omega), this]
theorem plc_hit {f : Nat → Int} {x : Int} {j k : Nat} (h : ¬ fst f x j < j) (e : f j = x) (hk : j < k) : plc f x k = j := by
  have h1 := fst_succ_hit h e
  have h2 := fst_mono (f := f) (x := x) (j := j + 1) (by omega) k hk
  unfold plc
  rw [if_pos (by omega), h2, h1]
theorem plc_miss {f : Nat → Int} {x : Int} {k : Nat} (h : ¬ fst f x k < k) : plc f x k = -1 := by unfold plc; rw [if_neg h]

set_option maxHeartbeats 800000 in
theorem place_any (A : Option Addr) (m c k : Nat) (f : Nat → Int) (x : Int) (B : Nat) (w : World) (hr : Holds w B A m f) (hk : k ≤ m) (hm : m ≤ 5000) :
    Calls Tryd.prog 56 #[.slice A m c, .int .i64 k, .int .i64 x] w fun e w' => e = .returned (.int .i64 (plc f x k)) ∧ w = w' := by
  have HR := Lib.hid hr
  clear hr
  go_enter Tryd.func56, Tryd.ntmps56
  go_wp2
  go_loop [7] (fun i => ∃ j : Nat, j ≤ k ∧ i = .int .i64 j ∧ Hid (¬ fst f x j < j)) (fun i => k - (intOf i).toNat)
  case atStart => exact ⟨0, Nat.zero_le _, rfl, Lib.hid (by omega)⟩
  case round =>
    obtain ⟨j, hj, rfl, hno⟩ := hrel
    by_cases hlt : j < k
    · obtain ⟨b, o, rfl, hbl, hc⟩ := HR.out (by omega)
      have c1 := hc j (by omega)
      clear hc
      have y1 : (j : Int) < (k : Int) := by omega
      have y2 : (j : Int) < (m : Int) := by omega
      obtain ⟨u, hu⟩ : ∃ u, f j = u := ⟨_, rfl⟩
      rw [hu] at c1
      have HU := Lib.hid hu
      clear hu
      by_cases e : u = x
      · have z : (u == x) = true := by simp [e]
        have HP := Lib.hid (plc_hit hno.out (HU.out.trans e) hlt)
        clear e
        go_wp2
        go_ret
        exact ⟨by rw [HP.out]; rfl, rfl⟩
      · have z : (u == x) = false := by simp [e]
        have HN := Lib.hid (show ¬ fst f x (j + 1) < j + 1 by rw [fst_succ_miss hno.out (by rw [HU.out]; exact e)]; omega)
        clear e
        go_wp2
        exact ⟨⟨j + 1, by omega, by go_num, HN⟩, by simp [intOf]; omega⟩
    · have e : j = k := by omega
      subst e
      have HP := Lib.hid (plc_miss hno.out)
      go_wp2
      go_ret
      exact ⟨by rw [HP.out]; rfl, rfl⟩

theorem ren_seen {f : Nat → Int} {k : Nat} (h : fst f (f k) k < k) : ren f (fst f (f k) k) = ren f k := by
  have h1 := fst_at f (f k) k h
  unfold ren
  rw [h1]
  congr 2
  have h2 := fst_no f (f k) k
  rcases Nat.lt_or_ge (fst f (f k) (fst f (f k) k)) (fst f (f k) k) with h3 | h3
  · exact absurd (fst_at _ _ _ h3) (h2 _ h3)
  · have := fst_le f (f k) (fst f (f k) k); omega
theorem ren_new {f : Nat → Int} {k : Nat} (h : ¬ fst f (f k) k < k) : ren f k = (nd f k : Nat) := by unfold ren; rw [fst_end h]

/-- The renumbered list, and how many numbers it has. -/
def NbOut (w : World) (n : Nat) (f : Nat → Int) (e : Ending) (w' : World) : Prop :=
  ∃ A c, e = .returned (.tuple #[.slice A n c, .int .i64 (nd f n : Nat)]) ∧ (A = none → c = 0) ∧ (0 < n → ∃ k, A = some ⟨k, 0, none⟩ ∧ w.heap.size ≤ k ∧ Row w' k n (ren f)) ∧ Below w.heap.size w w'

set_option maxHeartbeats 3200000 in
theorem numbered_any (A : Option Addr) (n c : Nat) (f : Nat → Int) (w : World) (hn : n ≤ 5000) (hr : Holds w w.heap.size A n f) :
    Calls Tryd.prog 31 #[.slice A n c] w (NbOut w n f) := by
  have HR := Lib.hid hr
  clear hr
  go_enter Tryd.func31, Tryd.ntmps31
  go_wp2
  go_loopw [4, 5, 6] (fun v t i wr => ∃ k : Nat, k ≤ n ∧ i = .int .i64 k ∧ t = .int .i64 (nd f k : Nat) ∧ Own wr w.heap.size v k (ren f) ∧ Below w.heap.size w wr) (fun _ _ i _ => n - (intOf i).toNat)
  case atStart => exact ⟨0, Nat.zero_le _, rfl, rfl, Own.nil _ _ _, Below.refl _ _⟩
  case round =>
    obtain ⟨k, hk, rfl, rfl, hown, hbel⟩ := hrel
    by_cases hlt : k < n
    · have hsz := hbel.size
      have HP := Lib.hid (fun x => place_any A n c k f x w.heap.size wr (HR.out.below hbel) (by omega) hn)
      obtain ⟨b, o, rfl, hbl, hc⟩ := (HR.out.below hbel) (by omega)
      have c1 := hc k hlt
      have y1 : (k : Int) < (n : Int) := by omega
      have hnd := nd_le f k
      have HB := Lib.hid hbel
      clear hc hbel
      obtain ⟨A', c', rfl, _, hrow⟩ := hown.out
      have HO := Lib.hid hown
      clear hown
      by_cases hs : fst f (f k) k < k
      · have HS := Lib.hid (ren_seen hs)
        have HN := Lib.hid (show nd f (k + 1) = nd f k by rw [nd, if_pos hs]; rfl)
        have HQ := Lib.hid (show plc f (f k) k = (fst f (f k) k : Nat) by unfold plc; rw [if_pos hs])
        obtain ⟨g, rfl, hg, row⟩ := hrow (by omega)
        have c2 := row.cell hs
        rw [HS.out] at c2
        obtain ⟨p, hp⟩ : ∃ p, fst f (f k) k = p := ⟨_, rfl⟩
        rw [hp] at c2 hs HQ
        clear row hp HS
        obtain ⟨u, hu⟩ : ∃ u, f k = u := ⟨_, rfl⟩
        rw [hu] at c1 HQ
        obtain ⟨z, hz⟩ : ∃ z, ren f k = z := ⟨_, rfl⟩
        rw [hz] at c2
        have HZ := Lib.hid hz
        obtain ⟨m, hm⟩ : ∃ m, nd f k = m := ⟨_, rfl⟩
        rw [hm] at hnd HN ⊢
        have y3 : (p : Int) < (k : Int) := by omega
        clear hu hz hm hrow
        go_wp2_with fail
        refine (HP.out _).mono ?_
        rintro e w1 ⟨rfl, rfl⟩
        rw [HQ.out]
        go_wp2_with (at_builtin; refine app1 _ rfl _ _ (by rfl) w.heap.size (by rfl) HO.out z (by rfl) HZ.out (by omega) hsz ?_; intro v' w1 hown1 hb1; have HO1 := Lib.hid hown1; have HB1 := Lib.hid hb1; clear hown1 hb1)
        exact ⟨⟨k + 1, by omega, by go_num, by rw [HN.out], HO1.out, HB.out.trans HB1.out⟩, by simp [intOf]; omega⟩
      · have HN := Lib.hid (show nd f (k + 1) = nd f k + 1 by rw [nd, if_neg hs])
        have HQ := Lib.hid (plc_miss hs)
        have HZ := Lib.hid (ren_new hs)
        obtain ⟨u, hu⟩ : ∃ u, f k = u := ⟨_, rfl⟩
        rw [hu] at c1 HQ
        obtain ⟨m, hm⟩ : ∃ m, nd f k = m := ⟨_, rfl⟩
        rw [hm] at hnd HN HZ ⊢
        clear hu hm hrow hs
        go_wp2_with fail
        refine (HP.out _).mono ?_
        rintro e w1 ⟨rfl, rfl⟩
        rw [HQ.out]
        go_wp2_with (at_builtin; refine app1 _ rfl _ _ (by rfl) w.heap.size (by rfl) HO.out (m : Int) (by rfl) HZ.out (by omega) hsz ?_; intro v' w1 hown1 hb1; have HO1 := Lib.hid hown1; have HB1 := Lib.hid hb1; clear hown1 hb1)
        exact ⟨⟨k + 1, by omega, by go_num, by rw [HN.out]; go_num, HO1.out, HB.out.trans HB1.out⟩, by simp [intOf]; omega⟩
    · have e : k = n := by omega
      subst e
      obtain ⟨A', c', rfl, h1, h2⟩ := hown.out
      have HF : Hid (NbOut w k f (.returned (.tuple #[.slice A' k c', .int .i64 (nd f k : Nat)])) wr) := Lib.hid ⟨A', c', rfl, h1, h2, hbel⟩
      clear hown hbel h1 h2
      generalize nd f k = m at *
      go_wp2
      go_ret2
      exact HF.out

end Go.Proofs.YtbafhdinalapoaaDoor.L2

/- A parameter that is a list of integers, read as data, opened to its elements. -/
namespace Go.Proofs.YtbafhdinalapoaaDoor.L2
open Go.ChangeShapes Go.WideShapes Go.RowKit
set_option linter.unusedVariables false
set_option linter.unusedSimpArgs false

theorem cells3 : Tryd.prog.cellsOf 3 = 1 := by kernel_rfl

set_option maxRecDepth 100000 in
theorem open_list {H : Type} {enc : TypeId × Value → H} {w : World} {held : Bool} {r : Reach} {b0 : Nat} {v : Value} {d : DataW H} {p : List MemPlace}
    (hv : Value.okWide Tryd.prog w r b0 22 v) (h : DataW.Trod enc Tryd.prog w 0 (fun _ => true) held 22 v d p) :
    ∃ (A : Option Addr) (n c : Nat) (f : Nat → Int), v = .slice A n c ∧ Holds w w.heap.size A n f ∧ (A = none → c = 0) := by
  obtain ⟨a0, len, cap, rfl⟩ := okWide_slice Tryd.underlying22 hv
  obtain ⟨fuel, hf⟩ := h
  rcases open_ints Tryd.underlying22 Tryd.underlying3 cells3 hf with ⟨hcs, hx⟩ | ⟨a, len', cap', zs, hcs, _, hl, hm, hz, hx, hcell, hwz⟩
  · simp [Value.cells] at hcs
    obtain ⟨rfl, rfl, rfl⟩ := hcs
    exact ⟨none, 0, 0, fun _ => 0, rfl, Holds.none_, fun _ => rfl⟩
  · simp [Value.cells] at hcs
    obtain ⟨rfl, rfl, rfl⟩ := hcs
    refine ⟨some a, len, cap, fun i => zs.getD i 0, rfl, fun hn => ?_, fun h => by cases h⟩
    have hzl : len ≤ zs.length := by rw [hz]; simp; omega
    have hc0 := hcell 0 (by omega)
    obtain ⟨b, off, spot⟩ := a
    have hs : spot = none := by simpa [Addr.add] using World.cell?_spot hc0
    subst hs
    have e : ∀ i, Addr.add ⟨b, off, none⟩ i = ⟨b, off + i, none⟩ := fun i => by unfold Addr.add; by_cases h : i = 0 <;> simp [h]
    refine ⟨b, off, rfl, ?_, fun i hi => ?_⟩
    · rw [e] at hc0
      rcases Nat.lt_or_ge b w.heap.size with hb | hb
      · exact hb
      · simp [World.cell?, Array.getElem?_eq_none hb] at hc0
    · have := hcell i (by omega)
      rwa [e] at this
end Go.Proofs.YtbafhdinalapoaaDoor.L2

/- When two lists match, and the list that then leads from one to the other; the greatest element. -/
namespace Go.Proofs.YtbafhdinalapoaaDoor.L2
open Go.RowKit
set_option linter.unusedVariables false
set_option linter.unusedSimpArgs false

/-- What stands at x of the match, behind k elements. -/
def mt (a b : Nat → Int) : Nat → Int → Int
  | 0, _ => -1
  | k + 1, x => if a k = x then b k else mt a b k x
/-- The first k elements of both are equal at the same places. -/
def Cons (a b : Nat → Int) (k : Nat) : Prop := ∀ i j, i < k → j < i → (a i = a j ↔ b i = b j)
/-- The greatest of the first k elements, or -1. -/
def mxs (a : Nat → Int) : Nat → Int
  | 0 => -1
  | k + 1 => max (mxs a k) (a k)
/-- Is v among the first k elements? -/
def tk (b : Nat → Int) (k : Nat) (v : Nat) : Bool := decide (∃ i, i < k ∧ b i = (v : Int))

section
variable {a b : Nat → Int} {k : Nat}
theorem mt_neg (hb : ∀ i, i < k → 0 ≤ b i) {x : Int} (h : mt a b k x = -1) : ∀ i, i < k → a i ≠ x := by
  induction k with
  | zero => intro i hi; omega
  | succ k ih =>
    intro i hi
    unfold mt at h
    by_cases e : a k = x
    · rw [if_pos e] at h
      have := hb k (by omega)
      omega
    · rw [if_neg e] at h
      rcases Nat.lt_or_ge i k with h1 | h1
      · exact ih (fun j hj => hb j (by omega)) h i h1
      · obtain rfl : i = k := by omega
        exact e
theorem mt_pos {x : Int} (h : mt a b k x ≠ -1) : ∃ i, i < k ∧ a i = x ∧ b i = mt a b k x := by
  induction k with
  | zero => exact absurd rfl h
  | succ k ih =>
    unfold mt at h ⊢
    by_cases e : a k = x
    · exact ⟨k, by omega, e, by rw [if_pos e]⟩
    · rw [if_neg e] at h ⊢
      obtain ⟨i, h1, h2, h3⟩ := ih h
      exact ⟨i, by omega, h2, h3⟩
theorem mt_bd (hb : ∀ i, i < k → 0 ≤ b i ∧ b i < 400) (x : Int) : -1 ≤ mt a b k x ∧ mt a b k x < 400 := by
  induction k with
  | zero => simp [mt]
  | succ k ih =>
    unfold mt
    split
    · have := hb k (by omega); omega
    · exact ih fun j hj => hb j (by omega)
theorem Cons.mono {n : Nat} (h : Cons a b n) (hk : k ≤ n) : Cons a b k := fun i j hi hj => h i j (by omega) hj
theorem Cons.sym (h : Cons a b k) {i j : Nat} (hi : i < k) (hj : j < k) : a i = a j ↔ b i = b j := by
  rcases Nat.lt_trichotomy i j with h1 | h1 | h1
  · have := h j i hj h1
    constructor
    · intro e; exact (this.1 e.symm).symm
    · intro e; exact (this.2 e.symm).symm
  · subst h1; simp
  · exact h i j hi h1
/-- The element is known. -/
theorem cons_known (hb : 0 ≤ b k) (h : Cons a b k) (e : mt a b k (a k) = b k) : Cons a b (k + 1) ∧ (∀ x, mt a b (k + 1) x = mt a b k x) ∧ ∀ v, tk b (k + 1) v = tk b k v := by
  obtain ⟨i, hi, h1, h2⟩ := mt_pos (a := a) (b := b) (k := k) (x := a k) (by omega)
  rw [e] at h2
  refine ⟨fun p q hp hq => ?_, fun x => ?_, fun v => ?_⟩
  · rcases Nat.lt_or_ge p k with h3 | h3
    · exact h p q h3 hq
    · obtain rfl : p = k := by omega
      rw [← h1, ← h2]
      exact h.sym hi hq
  · rw [mt]
    split
    · rename_i e2; rw [← e2, e]
    · rfl
  · unfold tk
    congr 1
    apply propext
    constructor
    · rintro ⟨p, hp, e3⟩
      rcases Nat.lt_or_ge p k with h3 | h3
      · exact ⟨p, h3, e3⟩
      · obtain rfl : p = k := by omega
        exact ⟨i, hi, h2.trans e3⟩
    · rintro ⟨p, hp, e3⟩
      exact ⟨p, by omega, e3⟩
/-- The element stands for another one. -/
theorem cons_other {n : Nat} (hk : k < n) (h1 : mt a b k (a k) ≠ b k) (h2 : mt a b k (a k) ≠ -1) : ¬ Cons a b n := by
  obtain ⟨i, hi, e1, e2⟩ := mt_pos h2
  intro h
  have := (h k i hk hi).1 e1.symm
  exact h1 (by rw [← e2, this])
/-- Another element stands for it. -/
theorem cons_taken {n v : Nat} (hb : ∀ i, i < k → 0 ≤ b i) (hk : k < n) (hv : b k = v) (h1 : mt a b k (a k) = -1) (h2 : tk b k v = true) : ¬ Cons a b n := by
  obtain ⟨i, hi, e1⟩ := of_decide_eq_true h2
  intro h
  have := (h k i hk hi).2 (by rw [hv, e1])
  exact mt_neg hb h1 i hi this.symm
/-- The element is new. -/
theorem cons_new {v : Nat} (hb : ∀ i, i < k → 0 ≤ b i) (hv : b k = v) (h : Cons a b k) (h1 : mt a b k (a k) = -1) (h2 : tk b k v = false) :
    Cons a b (k + 1) ∧ ∀ u, tk b (k + 1) u = if u = v then true else tk b k u := by
  have h2' : ∀ i, i < k → b i ≠ (v : Int) := fun i hi e => of_decide_eq_false h2 ⟨i, hi, e⟩
  refine ⟨fun p q hp hq => ?_, fun u => ?_⟩
  · rcases Nat.lt_or_ge p k with h3 | h3
    · exact h p q h3 hq
    · obtain rfl : p = k := by omega
      constructor
      · intro e; exact absurd e.symm (mt_neg hb h1 q hq)
      · intro e; exact absurd (e.symm.trans hv) (h2' q hq)
  · unfold tk
    by_cases e : u = v
    · subst e
      rw [if_pos rfl]
      exact decide_eq_true ⟨k, by omega, hv⟩
    · rw [if_neg e]
      congr 1
      apply propext
      constructor
      · rintro ⟨p, hp, e3⟩
        rcases Nat.lt_or_ge p k with h3 | h3
        · exact ⟨p, h3, e3⟩
        · obtain rfl : p = k := by omega
          exact absurd (by omega) e
      · rintro ⟨p, hp, e3⟩
        exact ⟨p, by omega, e3⟩
theorem mxs_ge (a : Nat → Int) (k : Nat) : -1 ≤ mxs a k := by
  induction k with
  | zero => simp [mxs]
  | succ k ih => unfold mxs; omega
theorem mxs_lt (ha : ∀ i, i < k → a i < 400) : mxs a k < 400 := by
  induction k with
  | zero => simp [mxs]
  | succ k ih => unfold mxs; have := ih fun i hi => ha i (by omega); have := ha k (by omega); omega
theorem mxs_le (a : Nat → Int) (k : Nat) : ∀ i, i < k → a i ≤ mxs a k := by
  induction k with
  | zero => intro i hi; omega
  | succ k ih =>
    intro i hi
    unfold mxs
    rcases Nat.lt_or_ge i k with h | h
    · have := ih i h; omega
    · obtain rfl : i = k := by omega
      omega
end
end Go.Proofs.YtbafhdinalapoaaDoor.L2
