/- The program's used: the numbers that a list has, sorted, once each. -/
import Derived.Test.YtbafhdinalapoaaSrt
import Derived.Test.YtbafhdinalapoaaPmt
import Derived.Lib.OwnBridge
namespace Go.Proofs.Ytbafhdinalapoaa
open Go.RowKit
set_option linter.unusedVariables false
set_option linter.unusedSimpArgs false
set_option maxRecDepth 100000

open L2 (plc fst fst_at fst_no fst_le)
/-- Two strictly increasing lists with the same elements are the same. -/
theorem incr_ext : ∀ (a b : List Int), a.Pairwise (· < ·) → b.Pairwise (· < ·) → (∀ x, x ∈ a ↔ x ∈ b) → a = b
  | [], [], _, _, _ => rfl
  | [], y :: b, _, _, h => absurd ((h y).2 (by simp)) (by simp)
  | x :: a, [], _, _, h => absurd ((h x).1 (by simp)) (by simp)
  | x :: a, y :: b, ha, hb, h => by
    rw [List.pairwise_cons] at ha hb
    have e : x = y := by
      have h1 := (h x).1 (by simp)
      have h2 := (h y).2 (by simp)
      rw [List.mem_cons] at h1 h2
      rcases h1 with h1 | h1
      · exact h1
      · rcases h2 with h2 | h2
        · exact h2.symm
        · have := hb.1 x h1
          have := ha.1 y h2
          omega
    subst e
    rw [incr_ext a b ha.2 hb.2 fun z => ?_]
    constructor
    · intro hz
      have h1 := (h z).1 (List.mem_cons_of_mem _ hz)
      rw [List.mem_cons] at h1
      rcases h1 with h1 | h1
      · have := ha.1 z hz; omega
      · exact h1
    · intro hz
      have h1 := (h z).2 (List.mem_cons_of_mem _ hz)
      rw [List.mem_cons] at h1
      rcases h1 with h1 | h1
      · have := hb.1 z hz; omega
      · exact h1
theorem compact_upto (d : Array Int) (hd : ∀ i j, i ≤ j → j < d.size → d[i]! ≤ d[j]!) : ∀ m, m ≤ d.size → (Lib.compactUpTo d m).Pairwise (· < ·) ∧ ∀ x, x ∈ Lib.compactUpTo d m ↔ ∃ j, j < m ∧ d[j]! = x := by
  intro m
  induction m with
  | zero =>
    intro _
    have e : Lib.compactUpTo d 0 = [] := rfl
    rw [e]
    exact ⟨List.Pairwise.nil, fun x => ⟨fun h => by simp at h, fun ⟨j, h, _⟩ => by omega⟩⟩
  | succ m ih =>
    intro hm
    obtain ⟨ih1, ih2⟩ := ih (by omega)
    rw [Lib.compactUpTo_succ]
    by_cases hk : Lib.keeps d m = true
    · rw [if_pos hk]
      have hk' : m = 0 ∨ d[m]! ≠ d[m - 1]! := by unfold Lib.keeps at hk; rw [decide_eq_true_iff] at hk; exact hk
      refine ⟨?_, fun x => ?_⟩
      · rw [List.pairwise_append]
        refine ⟨ih1, List.pairwise_singleton _ _, fun a ha b hb => ?_⟩
        rw [List.mem_singleton] at hb
        subst hb
        obtain ⟨j, hj, rfl⟩ := (ih2 a).1 ha
        rcases hk' with h | h
        · omega
        · have h1 := hd j (m - 1) (by omega) (by omega)
          have h2 := hd (m - 1) m (by omega) (by omega)
          omega
      · rw [List.mem_append, List.mem_singleton, ih2]
        constructor
        · rintro (⟨j, hj, rfl⟩ | rfl)
          · exact ⟨j, by omega, rfl⟩
          · exact ⟨m, by omega, rfl⟩
        · rintro ⟨j, hj, rfl⟩
          rcases Nat.lt_succ_iff_lt_or_eq.1 hj with h | rfl
          · exact .inl ⟨j, h, rfl⟩
          · exact .inr rfl
    · rw [if_neg hk, List.append_nil]
      have hk' : m ≠ 0 ∧ d[m]! = d[m - 1]! := by
        unfold Lib.keeps at hk
        rw [decide_eq_true_iff] at hk
        refine ⟨fun e => hk (.inl e), ?_⟩
        rcases Int.lt_trichotomy d[m]! d[m - 1]! with h | h | h
        · exact absurd (.inr (by omega)) hk
        · exact h
        · exact absurd (.inr (by omega)) hk
      refine ⟨ih1, fun x => ?_⟩
      rw [ih2]
      constructor
      · rintro ⟨j, hj, e⟩; exact ⟨j, by omega, e⟩
      · rintro ⟨j, hj, e⟩
        rcases Nat.lt_succ_iff_lt_or_eq.1 hj with h | rfl
        · exact ⟨j, h, e⟩
        · exact ⟨j - 1, by omega, hk'.2.symm.trans e⟩
/-- The numbers below N that are among the first m, in order. -/
def kl (f : Nat → Int) (m : Nat) : Nat → List Int
  | 0 => []
  | k + 1 => kl f m k ++ if fst f k m < m then [(k : Int)] else []
theorem kl_len (f : Nat → Int) (m N : Nat) : (kl f m N).length = kc f m N := by
  induction N with
  | zero => rfl
  | succ k ih =>
    have h1 : kl f m (k + 1) = kl f m k ++ if fst f k m < m then [(k : Int)] else [] := rfl
    have h2 : kc f m (k + 1) = kc f m k + if fst f k m < m then 1 else 0 := rfl
    rw [h1, h2, List.length_append, ih]
    split <;> rfl
theorem kl_get (f : Nat → Int) (m N i : Nat) (hi : i < kc f m N) : (kl f m N)[i]? = some (kf f m N i) := by
  induction N with
  | zero => exact absurd hi (Nat.not_lt_zero _)
  | succ k ih =>
    have h1 : kl f m (k + 1) = kl f m k ++ if fst f k m < m then [(k : Int)] else [] := rfl
    have h2 : kc f m (k + 1) = kc f m k + if fst f k m < m then 1 else 0 := rfl
    have h3 : kf f m (k + 1) i = if i = kc f m k then (k : Int) else kf f m k i := rfl
    rw [h2] at hi
    rw [h1, h3]
    by_cases hs : fst f (k : Int) m < m
    · rw [if_pos hs] at hi
      rw [if_pos hs]
      by_cases e : i = kc f m k
      · rw [if_pos e, List.getElem?_append_right (by rw [kl_len]; omega), kl_len, e]
        simp
      · rw [if_neg e, List.getElem?_append_left (by rw [kl_len]; omega)]
        exact ih (by omega)
    · rw [if_neg hs] at hi
      rw [if_neg hs, if_neg (by omega), List.append_nil]
      exact ih (by omega)
theorem kl_props (f : Nat → Int) (m N : Nat) : (kl f m N).Pairwise (· < ·) ∧ ∀ x, x ∈ kl f m N ↔ ∃ k : Nat, k < N ∧ x = k ∧ fst f k m < m := by
  induction N with
  | zero => exact ⟨List.Pairwise.nil, fun x => ⟨fun h => by simp [kl] at h, fun ⟨k, h, _⟩ => by omega⟩⟩
  | succ N ih =>
    have h1 : kl f m (N + 1) = kl f m N ++ if fst f N m < m then [(N : Int)] else [] := rfl
    rw [h1]
    by_cases hs : fst f (N : Int) m < m
    · rw [if_pos hs]
      refine ⟨?_, fun x => ?_⟩
      · rw [List.pairwise_append]
        refine ⟨ih.1, List.pairwise_singleton _ _, fun a ha b hb => ?_⟩
        rw [List.mem_singleton] at hb
        obtain ⟨k, hk, rfl, _⟩ := (ih.2 a).1 ha
        omega
      · rw [List.mem_append, List.mem_singleton, ih.2]
        constructor
        · rintro (⟨k, hk, e, h⟩ | rfl)
          · exact ⟨k, by omega, e, h⟩
          · exact ⟨N, by omega, rfl, hs⟩
        · rintro ⟨k, hk, e, h⟩
          rcases Nat.lt_succ_iff_lt_or_eq.1 hk with h' | rfl
          · exact .inl ⟨k, h', e, h⟩
          · exact .inr e
    · rw [if_neg hs, List.append_nil]
      refine ⟨ih.1, fun x => ?_⟩
      rw [ih.2]
      constructor
      · rintro ⟨k, hk, e, h⟩; exact ⟨k, by omega, e, h⟩
      · rintro ⟨k, hk, e, h⟩
        rcases Nat.lt_succ_iff_lt_or_eq.1 hk with h' | rfl
        · exact ⟨k, h', e, h⟩
        · exact absurd h hs
/-- What sorting and compacting leaves. -/
theorem compact_sort (f : Nat → Int) (n N : Nat) (h : ∀ i, i < n → 0 ≤ f i ∧ f i < N) : Lib.compact (((List.range n).map f).mergeSort fun x y => decide (x ≤ y)) = kl f n N := by
  generalize hs : ((List.range n).map f).mergeSort (fun x y => decide (x ≤ y)) = ss
  have hp : ss.Pairwise (fun x y => decide (x ≤ y) = true) := by
    rw [← hs]
    exact List.pairwise_mergeSort (fun a b c h1 h2 => by simp only [decide_eq_true_eq] at *; omega) (fun a b => by simp only [Bool.or_eq_true, decide_eq_true_eq]; omega) _
  have hm : ∀ x, x ∈ ss ↔ ∃ i, i < n ∧ f i = x := by
    intro x
    rw [← hs, (List.mergeSort_perm _ _).mem_iff, List.mem_map]
    constructor
    · rintro ⟨i, hi, e⟩; exact ⟨i, List.mem_range.1 hi, e⟩
    · rintro ⟨i, hi, e⟩; exact ⟨i, List.mem_range.2 hi, e⟩
  have hd : ∀ i j, i ≤ j → j < ss.toArray.size → ss.toArray[i]! ≤ ss.toArray[j]! := by
    intro i j hij hj
    have hj' : j < ss.length := by simpa using hj
    rcases Nat.lt_or_eq_of_le hij with hlt | rfl
    · have := List.pairwise_iff_getElem.1 hp i j (by omega) hj' hlt
      simp only [decide_eq_true_eq] at this
      simpa [getElem!_pos, hj', show i < ss.length by omega] using this
    · exact Int.le_refl _
  have hc := compact_upto ss.toArray hd ss.length (by simp)
  refine incr_ext _ _ hc.1 (kl_props f n N).1 fun x => ?_
  show x ∈ Lib.compactUpTo ss.toArray ss.length ↔ _
  rw [hc.2, (kl_props f n N).2]
  have h1 : (∃ j, j < ss.length ∧ ss.toArray[j]! = x) ↔ x ∈ ss := by
    rw [List.mem_iff_getElem]
    constructor
    · rintro ⟨j, hj, e⟩; exact ⟨j, hj, by simpa [getElem!_pos, hj] using e⟩
    · rintro ⟨j, hj, e⟩; exact ⟨j, hj, by simpa [getElem!_pos, hj] using e⟩
  rw [h1, hm]
  constructor
  · rintro ⟨i, hi, rfl⟩
    obtain ⟨a, b⟩ := h i hi
    exact ⟨(f i).toNat, by omega, (Int.toNat_of_nonneg a).symm, by rw [Int.toNat_of_nonneg a]; exact fst_lt_of hi rfl⟩
  · rintro ⟨k, hk, rfl, hs⟩
    exact ⟨_, hs, fst_at f k n hs⟩
theorem kc_ge (f : Nat → Int) (n N : Nat) : kc f n N ≤ n := (kc_full f N n).1
theorem own_row {w : World} {base n : Nat} {v : Value} {F : Nat → Int} {l : List Int} (h : w.ownsRow base 3 1 v n (l.map (Value.int .i64))) (hF : ∀ i, i < n → l[i]? = some (F i)) : L2.Own w base v n F := by
  have hl : l.length = n := by have := h.1; simpa using this
  have e : l.map (Value.int .i64) = L2.news n F := by
    apply List.ext_getElem?
    intro i
    rw [List.getElem?_map]
    by_cases hi : i < n
    · rw [hF i hi]
      simp [L2.news, hi]
    · rw [List.getElem?_eq_none (by omega), List.getElem?_eq_none (by rw [L2.news_length]; omega)]
      rfl
  unfold L2.Own
  rw [← e]
  exact h

set_option maxHeartbeats 800000 in
theorem used_any (A : Option Addr) (n c N : Nat) (f : Nat → Int) (w : World) (hr : L2.Holds w w.heap.size A n f) (h0 : 0 < n) (hn : n ≤ 5000) (hf : ∀ i, i < n → 0 ≤ f i ∧ f i < N) :
    Calls Try.prog 60 #[.slice A n c] w fun e w' => ∃ b d, e = .returned (.slice (some ⟨b, 0, none⟩) (kc f n N) d) ∧ w.heap.size ≤ b ∧ L2.Row w' b (kc f n N) (kf f n N) ∧ Below w.heap.size w w' := by
  obtain ⟨ba, o, rfl, hb, hc⟩ := hr h0
  have hz : ∀ j, j < ((List.range n).map f).length → w.cell? ⟨ba, o + j, none⟩ = some (.int .i64 (((List.range n).map f).getD j 0)) := by
    intro j hj
    have hj' : j < n := by simpa using hj
    rw [hc j hj']
    simp [List.getD, hj']
  have HC := Lib.hid (Try.slices_Clone_int ba o n c ((List.range n).map f) w (by simp) (by omega) hz)
  have HF := Lib.hid hf
  have hkp : 0 < kc f n N := by
    have h1 := hf 0 h0
    have h2 := (kl_props f n N).2 (f 0)
    have h3 : f 0 ∈ kl f n N := h2.2 ⟨(f 0).toNat, by omega, (Int.toNat_of_nonneg h1.1).symm, by rw [Int.toNat_of_nonneg h1.1]; exact fst_lt_of h0 rfl⟩
    have h4 := List.length_pos_of_mem h3
    rw [kl_len] at h4
    exact h4
  have HKP := Lib.hid hkp
  clear hr hc hz hf hkp
  go_enter Try.func60, Try.ntmps60
  go_wp2_with fail
  refine HC.out.mono ?_
  rintro e w1 ⟨v', rfl, hown, hv, hb1⟩
  rw [show ((List.range n).map f).take n = (List.range n).map f by rw [List.take_of_length_le (by simp)]] at hown
  obtain ⟨g, cap, rfl, hg, hgl, hncap, hcm, hlen, hH⟩ := Lib.holds_of_ownsRow (enc := Value.int .i64) hown hv
  have HO := Lib.hid hown
  have HB1 := Lib.hid hb1
  have HH := Lib.hid hH
  have hlz : ((List.range n).map f).length = n := by simp
  have hS := Try.slices_Sort_int g 0 cap ((List.range n).map f) w1 hH hgl (by rw [hlz]; omega)
  rw [hlz] at hS
  have HS := Lib.hid hS
  clear hown hv hb1 hH hS
  go_wp2_with fail
  refine HS.out.mono ?_
  rintro e w2 ⟨rfl, q, os, rfl⟩
  obtain ⟨ss, hss⟩ : ∃ ss, ((List.range n).map f).mergeSort (fun x y => decide (x ≤ y)) = ss := ⟨_, rfl⟩
  have hsl : ss.length = n := by rw [← hss, List.length_mergeSort, hlz]
  have hcs := compact_sort f n N HF.out
  rw [hss] at hcs ⊢
  have hO2 := Lib.ownsRow_putRow (q := q) (k := n) (ys := ss) HO.out hsl (Nat.le_refl _)
  rw [show ss.take n = ss by rw [List.take_of_length_le (by omega)]] at hO2
  have hO3 : (Go.Sort.grow (Go.Sort.putRow (Value.int .i64) (Go.Sort.ahead w1 q) g 0 ss.toArray) os).ownsRow w.heap.size 3 1 (.slice (some ⟨g, 0, none⟩) n cap) n (ss.map (Value.int .i64)) := by
    refine ⟨hO2.1, ?_⟩
    rcases hO2.2 with ⟨e0, _⟩ | ⟨g', cap', cur, e0, h1, h2, h3⟩
    · cases e0
    · refine .inr ⟨g', cap', cur, e0, h1, ?_, h3⟩
      have hlt : g' < (Go.Sort.putRow (Value.int .i64) (Go.Sort.ahead w1 q) g 0 ss.toArray).heap.size := by
        rcases Nat.lt_or_ge g' (Go.Sort.putRow (Value.int .i64) (Go.Sort.ahead w1 q) g 0 ss.toArray).heap.size with h' | h'
        · exact h'
        · rw [Array.getElem?_eq_none h'] at h2; cases h2
      rw [Go.Sort.heap_grow_old _ _ hlt]
      exact h2
  have hB2 : Below w.heap.size w (Go.Sort.grow (Go.Sort.putRow (Value.int .i64) (Go.Sort.ahead w1 q) g 0 ss.toArray) os) := by
    have h1 := Lib.below_putRow (enc := Value.int .i64) (q := q) (d := ss.toArray) HB1.out hg
    exact ⟨h1.os, h1.tape, h1.output, by have := h1.size; simp; omega, fun k hk => (Go.Sort.heap_grow_old _ _ (Nat.lt_of_lt_of_le hk h1.size)).trans (h1.block k hk)⟩
  generalize Go.Sort.grow (Go.Sort.putRow (Value.int .i64) (Go.Sort.ahead w1 q) g 0 ss.toArray) os = w2 at *
  obtain ⟨_, _, e1, _, _, hncap', _, _, hH2⟩ := Lib.holds_of_ownsRow (enc := Value.int .i64) hO3 (by intro h; cases h)
  injection e1 with e2 _ e3
  injection e2 with e2
  injection e2 with e2
  subst e2 e3
  have hC := Try.slices_Compact_int g 0 cap ss w2 hH2 (by omega) (by omega)
  rw [hsl, hcs, kl_len] at hC
  have HC2 := Lib.hid hC
  have HO3 := Lib.hid hO3
  have HB2 := Lib.hid hB2
  have HCS := Lib.hid hcs
  have hkn := kc_ge f n N
  clear hC hO2 hO3 hB2 hcs hH2 hss
  go_wp2_with fail
  refine HC2.out.mono ?_
  rintro e w3 ⟨rfl, q', rfl⟩
  have hO4 := Lib.ownsRow_putRow (q := q') (k := kc f n N) (ys := kl f n N ++ List.replicate (n - kc f n N) 0) HO3.out (by rw [List.length_append, kl_len, List.length_replicate]; omega) hkn
  rw [List.take_left' (kl_len f n N)] at hO4
  have hown := own_row (F := kf f n N) hO4 fun i hi => kl_get f n N i hi
  have hB3 := Lib.below_putRow (enc := Value.int .i64) (q := q') (d := (kl f n N ++ List.replicate (n - kc f n N) 0).toArray) HB2.out hg
  have HO4 := Lib.hid hown
  have HB3 := Lib.hid hB3
  clear hO4 hown hB3
  generalize Go.Sort.putRow (Value.int .i64) (Go.Sort.ahead w2 q') g 0 (kl f n N ++ List.replicate (n - kc f n N) 0).toArray = w3 at *
  go_wp2
  go_ret
  obtain ⟨A', c', e, _, hrow⟩ := HO4.out.out
  obtain ⟨k, hk, hk2, hk3⟩ := hrow HKP.out
  injection e with e1 _ _
  rw [hk] at e1
  injection e1 with e1
  injection e1 with e1
  subst e1
  exact ⟨g, cap, rfl, hg, hk3, HB3.out⟩
end Go.Proofs.Ytbafhdinalapoaa
