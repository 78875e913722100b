/- Texts and lists are inverse. No program. -/
import Derived.Test.YtcmpoblbjjoaiaaDoorTxm
namespace Go.Proofs.YtcmpoblbjjoaiaaDoor
set_option linter.unusedVariables false
set_option linter.unusedSimpArgs false

theorem join_two (x y : List UInt8) (r : List (List UInt8)) : Lib.join (x :: y :: r) [32] = x ++ 32 :: Lib.join (y :: r) [32] := by
  simp [Lib.join, List.intercalate, List.intersperse_cons_cons]
theorem join_head (c : UInt8) (w : List UInt8) (r : List (List UInt8)) : Lib.join ((c :: w) :: r) [32] = c :: Lib.join (w :: r) [32] := by
  cases r with
  | nil => simp [join_one]
  | cons y r => simp [join_two]
theorem join_words (l : List UInt8) : Lib.join (words l) [32] = l := by
  induction l with
  | nil => simp [words, spl, join_one]
  | cons c l ih =>
    by_cases h : c = 32
    · subst h
      have e : words (32 :: l) = [] :: (spl l).1 :: (spl l).2 := by simp [words, spl]
      rw [e, join_two]
      simp only [List.nil_append]
      congr 1
    · have e : words (c :: l) = (c :: (spl l).1) :: (spl l).2 := by simp [words, spl, h]
      rw [e, join_head]
      congr 1
theorem spl_plain (w : List UInt8) (h : ∀ c ∈ w, c ≠ 32) : spl w = (w, []) := by
  induction w with
  | nil => rfl
  | cons c w ih =>
    have := ih fun x hx => h x (List.mem_cons_of_mem _ hx)
    simp [spl, h c (by simp), this]
theorem spl_sep (w r : List UInt8) (h : ∀ c ∈ w, c ≠ 32) : spl (w ++ 32 :: r) = (w, words r) := by
  induction w with
  | nil => simp [spl, words]
  | cons c w ih =>
    have := ih fun x hx => h x (List.mem_cons_of_mem _ hx)
    simp [spl, h c (by simp), this]
theorem words_join (ws : List (List UInt8)) (h0 : ws ≠ []) (h : ∀ w ∈ ws, ∀ c ∈ w, c ≠ 32) : words (Lib.join ws [32]) = ws := by
  induction ws with
  | nil => exact absurd rfl h0
  | cons w ws ih =>
    cases ws with
    | nil =>
      rw [join_one, words, spl_plain w (h w (by simp))]
    | cons y r =>
      rw [join_two, words, spl_sep w _ (h w (by simp))]
      simp only
      rw [ih (by simp) fun x hx => h x (List.mem_cons_of_mem _ hx)]
theorem dd_plain (n : Nat) : ∀ c ∈ dd n, c ≠ 32 := by
  induction n using Nat.strongRecOn with
  | ind n ih =>
    have key : ∀ k, k < 10 → UInt8.ofNat (48 + k) ≠ 32 := by
      intro k hk e
      have := toNat_digit hk
      rw [e] at this
      have : (32 : UInt8).toNat = 32 := rfl
      omega
    by_cases h : n < 10
    · rw [dd_small h]
      intro c hc
      simp only [List.mem_singleton] at hc
      subst hc
      exact key n h
    · rw [dd_big (by omega)]
      intro c hc
      rcases List.mem_append.1 hc with hc | hc
      · exact ih (n / 10) (by omega) c hc
      · simp only [List.mem_singleton] at hc
        subst hc
        exact key _ (Nat.mod_lt _ (by omega))

/-- The text of a valid list is accepted, and read back. -/
theorem tx_back {f : Nat → Int} {n : Nat} (hn : n ≤ 400) (hv : ∀ i, i < n → 0 ≤ f i ∧ f i < 400) :
    (tx f n = [] ∨ psOk (tx f n)) ∧ psVals (tx f n) = (List.range n).map fun i => (f i).toNat := by
  rcases Nat.eq_zero_or_pos n with h0 | h0
  · subst h0
    rw [tx_zero]
    refine ⟨.inl rfl, ?_⟩
    have : wd [] = none := by
      cases h : wd [] with
      | none => rfl
      | some v =>
        obtain ⟨_, h2⟩ := wd_spec h
        obtain ⟨c, r, e, _⟩ := dd_cons (v + 1)
        rw [h2] at e
        cases e
    simp [psVals, words, spl, this]
  · have hw : words (tx f n) = (List.range n).map fun i => wo (f i) := by
      unfold tx
      refine words_join _ (fun e => ?_) fun w hw => ?_
      · have := congrArg List.length e
        simp at this
        omega
      · obtain ⟨i, _, rfl⟩ := List.mem_map.1 hw
        exact dd_plain _
    have hmap : ((List.range n).map fun i => wo (f i)).map wd = ((List.range n).map fun i => (f i).toNat).map some := by
      rw [List.map_map, List.map_map]
      refine List.map_congr_left fun i hi => ?_
      have := hv i (List.mem_range.1 hi)
      show wd (wo (f i)) = some (f i).toNat
      exact wd_of (by omega) rfl
    refine ⟨.inr ⟨by rw [hw]; simpa using hn, fun w h => mem_all hmap w (by rw [← hw]; exact h)⟩, ?_⟩
    unfold psVals
    rw [hw]
    exact filterMap_all hmap

theorem filterMap_wo {ws : List (List UInt8)} (h : ∀ w ∈ ws, ∃ v, wd w = some v) : (ws.filterMap wd).length = ws.length ∧ (∀ v ∈ ws.filterMap wd, v < 400) ∧ (ws.filterMap wd).map (fun v : Nat => wo (v : Int)) = ws := by
  induction ws with
  | nil => exact ⟨rfl, (fun v hv => by cases hv), rfl⟩
  | cons w ws ih =>
    obtain ⟨h1, h2, h3⟩ := ih fun x hx => h x (List.mem_cons_of_mem _ hx)
    obtain ⟨v, hv⟩ := h w (by simp)
    obtain ⟨h4, h5⟩ := wd_spec hv
    rw [List.filterMap_cons, hv]
    refine ⟨by simp [h1], fun u hu => ?_, ?_⟩
    · rcases List.mem_cons.1 hu with rfl | hu
      · exact h4
      · exact h2 u hu
    · simp only [List.map_cons, h3]
      congr 1
/-- The list of an accepted text is valid, and has this text. -/
theorem ps_back {l : List UInt8} (h : l = [] ∨ psOk l) : (psVals l).length ≤ 400 ∧ (∀ i, i < (psVals l).length → ((psVals l).getD i 0) < 400) ∧ tx (fun i => ((psVals l).getD i 0 : Nat)) (psVals l).length = l := by
  rcases h with rfl | ⟨h1, h2⟩
  · obtain ⟨_, e⟩ := tx_back (f := fun _ => 0) (n := 0) (by omega) (fun i hi => by omega)
    rw [tx_zero] at e
    rw [e]
    exact ⟨by simp, fun i hi => by simp at hi, by simp [tx_zero]⟩
  · obtain ⟨h3, h4, h5⟩ := filterMap_wo h2
    have hlen : (psVals l).length = (words l).length := h3
    refine ⟨by omega, fun i hi => ?_, ?_⟩
    · have : (psVals l).getD i 0 = (psVals l)[i] := by simp [List.getD, hi]
      rw [this]
      exact h4 _ (List.getElem_mem hi)
    · have e : (List.range (psVals l).length).map (fun i => wo (((psVals l).getD i 0 : Nat) : Int)) = words l := by
        rw [← h5]
        apply List.ext_getElem
        · simp [psVals]
        · intro i hi1 hi2
          simp at hi1
          simp only [List.getElem_map, List.getElem_range]
          congr 2
          simp [List.getD, psVals] at hi1 ⊢
          rw [List.getElem?_eq_getElem (by simpa using hi1)]
          rfl
      unfold tx
      rw [e, join_words]
end Go.Proofs.YtcmpoblbjjoaiaaDoor
