/- The reference's Parse: what its loop keeps (no program). -/
import Derived.Test.YtcmpoblbjjoaiaaDoorPrs
import Derived.Test.YtcmpoblbjjoaiaaDoorTxm
namespace Go.Proofs.YtcmpoblbjjoaiaaDoor
open Go.RowKit
set_option linter.unusedVariables false
set_option linter.unusedSimpArgs false

theorem dd_digits (n : Nat) : ∀ c ∈ dd n, 48 ≤ c.toNat ∧ c.toNat ≤ 57 := by
  induction n using Nat.strongRecOn with
  | _ n ih =>
    intro c hc
    by_cases h : n < 10
    · rw [dd_small h] at hc
      rw [List.mem_singleton.1 hc, toNat_digit h]; omega
    · rw [dd_big (by omega)] at hc
      rcases List.mem_append.1 hc with h1 | h1
      · exact ih _ (by omega) c h1
      · rw [List.mem_singleton.1 h1, toNat_digit (Nat.mod_lt _ (by omega))]; omega
theorem dd_len3 {n : Nat} (h : 100 ≤ n) : 3 ≤ (dd n).length := by
  rw [dd_big (by omega), dd_big (n := n / 10) (by omega)]
  obtain ⟨c, r, e, _⟩ := dd_cons (n / 10 / 10)
  rw [e]
  simp
theorem wd_pre {n : Nat} {r : List UInt8} (h1 : 400 < n) (h2 : n ≤ 100000) : wd (dd n ++ r) = none := by
  cases e : wd (dd n ++ r) with
  | none => rfl
  | some v =>
    obtain ⟨hv, he⟩ := wd_spec e
    have l1 := dd_len (n := v + 1) (by omega)
    have l2 := dd_len3 (n := n) (by omega)
    rw [he, List.length_append] at l1
    have hr : r = [] := List.eq_nil_of_length_eq_zero (by omega)
    subst hr
    rw [List.append_nil] at he
    have := dd_inj (by omega) h2 he
    omega
theorem wd_bad {p r : List UInt8} {c : UInt8} (h : c.toNat < 48 ∨ 57 < c.toNat) : wd (p ++ c :: r) = none := by
  cases e : wd (p ++ c :: r) with
  | none => rfl
  | some v =>
    obtain ⟨hv, he⟩ := wd_spec e
    have := dd_digits (v + 1) c (by rw [he]; simp)
    omega
theorem wd_lead {r : List UInt8} {c : UInt8} (h : c.toNat = 48) : wd (c :: r) = none := by
  cases e : wd (c :: r) with
  | none => rfl
  | some v =>
    obtain ⟨hv, he⟩ := wd_spec e
    obtain ⟨c', r', e', _, _, h3⟩ := dd_cons (v + 1)
    rw [e'] at he
    have := h3 (by omega)
    have : c' = c := by injection he
    subst this
    omega
theorem nps_mem {L w : List UInt8} (hne : L ≠ []) (hw : w ∈ words L) (h : wd w = none) : ¬ psAll L := by
  rintro (h1 | ⟨_, h2⟩)
  · exact hne h1
  · obtain ⟨v, hv⟩ := h2 w hw
    rw [h] at hv
    cases hv
theorem ps_done {L : List UInt8} {Q : List (List UInt8)} {us : List Nat} (e : words L = Q) (h : Q.map wd = us.map some) (hl : us.length ≤ 400) : psOk L ∧ psVals L = us := by
  have hq : Q.length = us.length := by simpa using congrArg List.length h
  exact ⟨⟨by rw [e]; omega, by rw [e]; exact mem_all h⟩, by unfold psVals; rw [e]; exact filterMap_all h⟩
/-- What the loop keeps in front of the place k: the words P, their elements vs, and the word p that is being read, with its number n. -/
structure RSt (L : List UInt8) (k : Nat) (P : List (List UInt8)) (vs : List Nat) (n : Nat) (p : List UInt8) : Prop where
  maps : P.map wd = vs.map some
  len : vs.length ≤ 400
  wrd : words L = P ++ ((p ++ (spl (L.drop k)).1) :: (spl (L.drop k)).2)
  cur : (n = 0 ∧ p = []) ∨ (1 ≤ n ∧ n ≤ 400 ∧ p = dd n)
theorem RSt.zero (L : List UInt8) : RSt L 0 [] [] 0 [] := ⟨rfl, by simp, by simp [words], Or.inl ⟨rfl, rfl⟩⟩
section
variable {L : List UInt8} {k : Nat} {P : List (List UInt8)} {vs : List Nat} {n : Nat} {p : List UInt8}
theorem RSt.small (h : RSt L k P vs n p) : n ≤ 400 ∧ p.length ≤ 3 ∧ (p.length = 0 ↔ n = 0) := by
  rcases h.cur with ⟨h1, h2⟩ | ⟨h1, h2, h3⟩
  · subst h1 h2; simp
  · obtain ⟨c, r, e, _⟩ := dd_cons n
    refine ⟨h2, by rw [h3]; exact dd_len (by omega), ?_⟩
    rw [h3, e]; simp; omega
theorem RSt.word (h : RSt L k P vs n p) (hn : 0 < n) : wd p = some (n - 1) ∧ n ≤ 400 := by
  rcases h.cur with ⟨h1, h2⟩ | ⟨h1, h2, h3⟩
  · omega
  · exact ⟨wd_of (by omega) (by rw [h3, Nat.sub_add_cancel h1]), h2⟩
/-- A word ends here: what the words are then. -/
theorem RSt.stop (h : RSt L k P vs n p) {ws : List (List UInt8)} (he : spl (L.drop k) = ([], ws)) : words L = P ++ p :: ws := by
  have := h.wrd
  rw [he] at this
  simpa using this
theorem RSt.plen (h : RSt L k P vs n p) : P.length = vs.length := by simpa using congrArg List.length h.maps
theorem RSt.none_ (h : RSt L k P vs n p) (hne : L ≠ []) {ws : List (List UInt8)} (he : spl (L.drop k) = ([], ws)) (hn : n = 0) : ¬ psAll L := by
  rcases h.cur with ⟨_, h2⟩ | ⟨h1, _, _⟩
  · exact nps_mem hne (w := p) (by rw [h.stop he]; simp) (by rw [h2]; exact wd_nil)
  · omega
theorem RSt.many (h : RSt L k P vs n p) (hne : L ≠ []) {ws : List (List UInt8)} (he : spl (L.drop k) = ([], ws)) (hl : vs.length = 400) : ¬ psAll L := by
  rintro (h1 | ⟨h1, _⟩)
  · exact hne h1
  · rw [h.stop he] at h1
    have := h.plen
    simp at h1
    omega
theorem RSt.next (h : RSt L k P vs n p) {ws : List (List UInt8)} (he : spl (L.drop k) = ([], words (L.drop (k + 1)))) (hn : 0 < n) (hl : vs.length < 400) : RSt L (k + 1) (P ++ [p]) (vs ++ [n - 1]) 0 [] := by
  refine ⟨?_, by simp; omega, ?_, Or.inl ⟨rfl, rfl⟩⟩
  · rw [List.map_append, List.map_append, h.maps]
    simp [(h.word hn).1]
  · rw [h.stop he]
    simp [words]
theorem RSt.fin (h : RSt L k P vs n p) (he : spl (L.drop k) = ([], [])) (hn : 0 < n) (hl : vs.length < 400) : psOk L ∧ psVals L = vs ++ [n - 1] :=
  ps_done (h.stop he) (by
    rw [List.map_append, h.maps]
    simp [(h.word hn).1]) (by simp; omega)
theorem spl_end (h : k = L.length) : spl (L.drop k) = ([], []) := by
  rw [h, List.drop_length]; rfl
theorem spl_space (h : k < L.length) (hc : L[k] = 32) : spl (L.drop k) = ([], words (L.drop (k + 1))) := by
  rw [List.drop_eq_getElem_cons h, spl, if_pos hc]
  rfl
theorem RSt.wrd' (h : RSt L k P vs n p) (hk : k < L.length) (hc : L[k] ≠ 32) : words L = P ++ ((p ++ L[k] :: (spl (L.drop (k + 1))).1) :: (spl (L.drop (k + 1))).2) := by
  have := h.wrd
  rw [List.drop_eq_getElem_cons hk, spl, if_neg hc] at this
  exact this
theorem RSt.bad (h : RSt L k P vs n p) (hk : k < L.length) (hc : L[k] ≠ 32) (hb : L[k].toNat < 48 ∨ 57 < L[k].toNat) : ¬ psAll L :=
  nps_mem (by rintro rfl; simp at hk) (by rw [h.wrd' hk hc]; exact List.mem_append_right _ (List.mem_cons_self ..)) (wd_bad hb)
theorem RSt.lead (h : RSt L k P vs n p) (hk : k < L.length) (hc : L[k] ≠ 32) (hn : n = 0) (hb : L[k].toNat = 48) : ¬ psAll L := by
  rcases h.cur with ⟨_, h2⟩ | ⟨h1, _, _⟩
  · subst h2
    exact nps_mem (by rintro rfl; simp at hk) (by rw [h.wrd' hk hc]; exact List.mem_append_right _ (List.mem_cons_self ..)) (wd_lead hb)
  · omega
theorem RSt.digits (h : RSt L k P vs n p) (hk : k < L.length) (h1 : 48 ≤ L[k].toNat) (h2 : L[k].toNat ≤ 57) (h3 : n = 0 → L[k].toNat ≠ 48) : p ++ [L[k]] = dd (10 * n + (L[k].toNat - 48)) ∧ 1 ≤ 10 * n + (L[k].toNat - 48) := by
  have e : UInt8.ofNat (48 + (L[k].toNat - 48)) = L[k] := by
    rw [show 48 + (L[k].toNat - 48) = L[k].toNat by omega]
    exact UInt8.ofNat_toNat
  rcases h.cur with ⟨a, b⟩ | ⟨a, b, c⟩
  · subst a b
    have := h3 rfl
    refine ⟨?_, by omega⟩
    rw [dd_small (by omega), show 48 + (10 * 0 + (L[k].toNat - 48)) = 48 + (L[k].toNat - 48) by omega, e]
    rfl
  · refine ⟨?_, by omega⟩
    rw [dd_big (by omega), show (10 * n + (L[k].toNat - 48)) / 10 = n by omega, show (10 * n + (L[k].toNat - 48)) % 10 = L[k].toNat - 48 by omega, e, c]
theorem RSt.big (h : RSt L k P vs n p) (hk : k < L.length) (hc : L[k] ≠ 32) (h1 : 48 ≤ L[k].toNat) (h2 : L[k].toNat ≤ 57) (h3 : n = 0 → L[k].toNat ≠ 48) (hb : 400 < 10 * n + (L[k].toNat - 48)) : ¬ psAll L := by
  have hd := (h.digits hk h1 h2 h3).1
  have hs := h.small
  refine nps_mem (by rintro rfl; simp at hk) (by rw [h.wrd' hk hc]; exact List.mem_append_right _ (List.mem_cons_self ..)) ?_
  rw [show p ++ L[k] :: (spl (L.drop (k + 1))).1 = (p ++ [L[k]]) ++ (spl (L.drop (k + 1))).1 by simp, hd]
  exact wd_pre hb (by omega)
theorem RSt.more (h : RSt L k P vs n p) (hk : k < L.length) (hc : L[k] ≠ 32) (h1 : 48 ≤ L[k].toNat) (h2 : L[k].toNat ≤ 57) (h3 : n = 0 → L[k].toNat ≠ 48) (hb : 10 * n + (L[k].toNat - 48) ≤ 400) :
    RSt L (k + 1) P vs (10 * n + (L[k].toNat - 48)) (p ++ [L[k]]) := by
  obtain ⟨hd, hp⟩ := h.digits hk h1 h2 h3
  refine ⟨h.maps, h.len, ?_, Or.inr ⟨hp, hb, hd⟩⟩
  rw [h.wrd' hk hc]
  simp
end
end Go.Proofs.YtcmpoblbjjoaiaaDoor
