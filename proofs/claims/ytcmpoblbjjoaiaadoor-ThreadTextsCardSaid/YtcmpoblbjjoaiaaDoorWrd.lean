/- Words: numbers as decimal digits, a text cut at its spaces, and what Parse makes of it. No program. -/
import Derived.Lib.ItoaMem
import Derived.Lib.AtoiAll
import Derived.Lib.IndexMore
import Derived.Lib.Join
namespace Go.Proofs.YtcmpoblbjjoaiaaDoor
set_option linter.unusedVariables false
set_option linter.unusedSimpArgs false

/-- The decimal digits of a number. -/
def dd (n : Nat) : List UInt8 := Lib.decDigits n
theorem dd_small {n : Nat} (h : n < 10) : dd n = [UInt8.ofNat (48 + n)] := Lib.decDigits_one h
theorem dd_big {n : Nat} (h : 10 ≤ n) : dd n = dd (n / 10) ++ [UInt8.ofNat (48 + n % 10)] := by
  unfold dd
  conv => lhs; rw [Lib.decDigits, dif_neg (by omega)]
theorem toNat_digit {k : Nat} (h : k < 10) : (UInt8.ofNat (48 + k)).toNat = 48 + k := by
  rw [UInt8.toNat_ofNat']
  omega
theorem dd_cons (n : Nat) : ∃ c r, dd n = c :: r ∧ 48 ≤ c.toNat ∧ c.toNat ≤ 57 ∧ (1 ≤ n → 49 ≤ c.toNat) := by
  induction n using Nat.strongRecOn with
  | ind n ih =>
    by_cases h : n < 10
    · exact ⟨_, _, dd_small h, by rw [toNat_digit h]; omega, by rw [toNat_digit h]; omega, fun h1 => by rw [toNat_digit h]; omega⟩
    · obtain ⟨c, r, e, h1, h2, h3⟩ := ih (n / 10) (by omega)
      exact ⟨c, r ++ [UInt8.ofNat (48 + n % 10)], by rw [dd_big (by omega), e]; rfl, h1, h2, fun _ => h3 (by omega)⟩
theorem dd_parse (n : Nat) : ∀ r, n ≤ 100000 → Lib.parseUint10 0 (dd n ++ r) = Lib.parseUint10 n r := by
  induction n using Nat.strongRecOn with
  | ind n ih =>
    intro r hn
    by_cases h : n < 10
    · rw [dd_small h]
      simp only [List.cons_append, List.nil_append, Lib.parseUint10, toNat_digit h]
      rw [if_pos (by omega), if_neg (by omega), if_neg (by omega)]
      congr 1
      omega
    · rw [dd_big (by omega), List.append_assoc, ih (n / 10) (by omega) _ (by omega)]
      have hm : n % 10 < 10 := Nat.mod_lt _ (by omega)
      simp only [List.cons_append, List.nil_append, Lib.parseUint10, toNat_digit hm]
      rw [if_pos (by omega), if_neg (by omega), if_neg (by omega)]
      congr 1
      omega
theorem dd_inj {a b : Nat} (ha : a ≤ 100000) (hb : b ≤ 100000) (h : dd a = dd b) : a = b := by
  have h1 := dd_parse a [] ha
  have h2 := dd_parse b [] hb
  rw [h] at h1
  rw [h1] at h2
  simp only [Lib.parseUint10] at h2
  injection h2
theorem dd_atoi {n : Nat} (hn : n ≤ 100000) : Lib.atoiAll (dd n) = .ok (n : Int) := by
  obtain ⟨c, r, e, h1, h2, _⟩ := dd_cons n
  have hp := dd_parse n [] hn
  rw [List.append_nil] at hp
  have hm : Lib.parseMag (dd n) = .ok n := by
    unfold Lib.parseMag
    rw [if_neg (by rw [e]; simp), hp]
    rfl
  rw [e] at hm ⊢
  unfold Lib.atoiAll
  simp only
  rw [if_neg (by omega), hm]
  simp only
  rw [if_neg (by omega), if_neg (by omega), if_neg (by omega)]

/-- The element that a word writes. -/
def wd (l : List UInt8) : Option Nat := (List.range 400).find? fun k => dd (k + 1) == l
theorem wd_spec {l : List UInt8} {v : Nat} (h : wd l = some v) : v < 400 ∧ dd (v + 1) = l := by
  unfold wd at h
  have h1 := List.find?_some h
  have h2 := List.mem_of_find?_eq_some h
  exact ⟨List.mem_range.1 h2, by simpa using h1⟩
theorem wd_of {l : List UInt8} {v : Nat} (h : v < 400) (e : dd (v + 1) = l) : wd l = some v := by
  cases hw : wd l with
  | none =>
    unfold wd at hw
    have := List.find?_eq_none.1 hw v (List.mem_range.2 h)
    simp [e] at this
  | some u =>
    obtain ⟨h1, h2⟩ := wd_spec hw
    have := dd_inj (by omega) (by omega) (e.trans h2.symm)
    congr 1
    omega

/-- A text's first word, and the others. -/
def spl : List UInt8 → List UInt8 × List (List UInt8)
  | [] => ([], [])
  | c :: l => if c = 32 then ([], (spl l).1 :: (spl l).2) else (c :: (spl l).1, (spl l).2)
def words (l : List UInt8) : List (List UInt8) := (spl l).1 :: (spl l).2

theorem spl_index (l : List UInt8) : ((spl l).2 = [] ∧ Lib.index l [32] = -1 ∧ (spl l).1 = l) ∨ ∃ r, Lib.index l [32] = ((spl l).1.length : Int) ∧ l = (spl l).1 ++ 32 :: r ∧ words r = (spl l).2 := by
  induction l with
  | nil => exact .inl ⟨rfl, rfl, rfl⟩
  | cons c l ih =>
    by_cases h : c = 32
    · subst h
      refine .inr ⟨l, ?_, ?_, ?_⟩
      · simp [Lib.index, spl]
      · simp [spl]
      · simp [spl, words]
    · have hp : ([32] : List UInt8).isPrefixOf (c :: l) = false := by
        simp [List.isPrefixOf]
        exact fun e => h e.symm
      rcases ih with ⟨h1, h2, h3⟩ | ⟨r, h1, h2, h3⟩
      · refine .inl ⟨?_, ?_, ?_⟩
        · simp [spl, h, h1]
        · simp [Lib.index, hp, h2]
        · simp [spl, h, h3]
      · refine .inr ⟨r, ?_, ?_, ?_⟩
        · rw [Lib.index, hp]
          simp only [Bool.false_eq_true, if_false]
          rw [h1, if_neg (by simp)]
          simp [spl, h]
        · simp only [spl, h, if_false, List.cons_append]
          rw [← h2]
        · simp [spl, h, h3]

theorem cut_last {l : List UInt8} (h : (spl l).2 = []) : Lib.cut l [32] = (l, [], false) ∧ words l = [l] := by
  rcases spl_index l with ⟨h1, h2, h3⟩ | ⟨r, h1, h2, h3⟩
  · refine ⟨?_, by rw [words, h1, h3]⟩
    unfold Lib.cut
    rw [if_neg (by omega)]
  · rw [h] at h3
    cases h3
theorem cut_more {l : List UInt8} (h : (spl l).2 ≠ []) : ∃ r, Lib.cut l [32] = ((spl l).1, r, true) ∧ words l = (spl l).1 :: words r ∧ r.length < l.length := by
  rcases spl_index l with ⟨h1, h2, h3⟩ | ⟨r, h1, h2, h3⟩
  · exact absurd h1 h
  · refine ⟨r, ?_, by rw [words, h3], by have := congrArg List.length h2; simp at this; omega⟩
    unfold Lib.cut
    rw [if_pos (by omega), h1]
    obtain ⟨w, hw⟩ : ∃ w, w = (spl l).1 := ⟨_, rfl⟩
    rw [← hw] at h2 ⊢
    simp only [Int.toNat_natCast, List.length_cons, List.length_nil]
    congr 1
    · rw [h2]; simp
    · congr 1
      rw [h2]
      simp

/-- Does Parse accept a text that is not empty? -/
def psOk (l : List UInt8) : Prop := (words l).length ≤ 400 ∧ ∀ w ∈ words l, ∃ v, wd w = some v
/-- The elements. -/
def psVals (l : List UInt8) : List Nat := (words l).filterMap wd

theorem filterMap_all {P : List (List UInt8)} {vs : List Nat} (h : P.map wd = vs.map some) : P.filterMap wd = vs := by
  induction P generalizing vs with
  | nil => cases vs with
    | nil => rfl
    | cons v vs => cases h
  | cons w P ih =>
    cases vs with
    | nil => cases h
    | cons v vs =>
      simp only [List.map_cons, List.cons.injEq] at h
      rw [List.filterMap_cons, h.1, ih h.2]
theorem mem_all {P : List (List UInt8)} {vs : List Nat} (h : P.map wd = vs.map some) : ∀ w ∈ P, ∃ v, wd w = some v := by
  induction P generalizing vs with
  | nil => intro w hw; cases hw
  | cons w P ih =>
    cases vs with
    | nil => cases h
    | cons v vs =>
      simp only [List.map_cons, List.cons.injEq] at h
      intro u hu
      rcases List.mem_cons.1 hu with rfl | hu
      · exact ⟨v, h.1⟩
      · exact ih h.2 u hu
end Go.Proofs.YtcmpoblbjjoaiaaDoor
