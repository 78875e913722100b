/- Searches in breadth: how far each thread is from one, the sets that come off, walks; no program. -/
namespace Go.Proofs.Ytgmcbdnfgdmmaaa
set_option linter.unusedVariables false
set_option linter.unusedSimpArgs false
theorem pigeon : ∀ (N len : Nat) (q : Nat → Nat), (∀ i, i < len → q i < N) → (∀ i j, i < len → j < len → q i = q j → i = j) → len ≤ N := by
  intro N
  induction N with
  | zero =>
    intro len q h _
    rcases Nat.eq_zero_or_pos len with e | e
    · omega
    · exact absurd (h 0 e) (by omega)
  | succ N ih =>
    intro len q h inj
    by_cases hx : ∃ i, i < len ∧ q i = N
    · obtain ⟨i0, hi0, e0⟩ := hx
      have := ih (len - 1) (fun i => if i < i0 then q i else q (i + 1)) (by
        intro i hi
        show (if i < i0 then q i else q (i + 1)) < N
        by_cases hc : i < i0
        · rw [if_pos hc]
          have h1 := h i (by omega)
          rcases Nat.lt_or_ge (q i) N with a | a
          · exact a
          · exact absurd (inj i i0 (by omega) hi0 (by omega)) (by omega)
        · rw [if_neg hc]
          have h1 := h (i + 1) (by omega)
          rcases Nat.lt_or_ge (q (i + 1)) N with a | a
          · exact a
          · exact absurd (inj (i + 1) i0 (by omega) hi0 (by omega)) (by omega)) (by
        intro i j hi hj he
        have he' : (if i < i0 then q i else q (i + 1)) = (if j < i0 then q j else q (j + 1)) := he
        by_cases hc : i < i0 <;> by_cases hd : j < i0
        · rw [if_pos hc, if_pos hd] at he'; exact inj i j (by omega) (by omega) he'
        · rw [if_pos hc, if_neg hd] at he'; have := inj i (j + 1) (by omega) (by omega) he'; omega
        · rw [if_neg hc, if_pos hd] at he'; have := inj (i + 1) j (by omega) (by omega) he'; omega
        · rw [if_neg hc, if_neg hd] at he'; have := inj (i + 1) (j + 1) (by omega) (by omega) he'; omega)
      omega
    · have := ih len q (by
        intro i hi
        have h1 := h i hi
        rcases Nat.lt_or_ge (q i) N with a | a
        · exact a
        · exact absurd ⟨i, hi, by omega⟩ hx) inj
      omega
/-- How far each thread is, and those that have been found, in their order. -/
structure St where
  far : Nat → Int
  q : List Nat
/-- The i-th that has been found. -/
def St.at (s : St) (i : Nat) : Nat := s.q.getD i 0
/-- The thread a is looked at from c. -/
def vis (R : Nat → Nat → Bool) (c : Nat) (s : St) (a : Nat) : St :=
  if decide (s.far a < 0) && R a c then ⟨fun j => if j = a then s.far c + 1 else s.far j, s.q ++ [a]⟩ else s
def rndk (R : Nat → Nat → Bool) (c : Nat) (s : St) (j : Nat) : St := (List.range j).foldl (vis R c) s
theorem rndk_zero (R : Nat → Nat → Bool) (c : Nat) (s : St) : rndk R c s 0 = s := rfl
theorem rndk_succ (R : Nat → Nat → Bool) (c : Nat) (s : St) (j : Nat) : rndk R c s (j + 1) = vis R c (rndk R c s j) j := by
  unfold rndk
  rw [List.range_succ, List.foldl_append]
  rfl
def ini (tt : Nat) : St := ⟨fun j => if j = tt then 0 else -1, [tt]⟩
def bst (R : Nat → Nat → Bool) (N tt : Nat) : Nat → St
  | 0 => ini tt
  | k + 1 => if k < (bst R N tt k).q.length then rndk R ((bst R N tt k).at k) (bst R N tt k) N else bst R N tt k
theorem bst_go {R : Nat → Nat → Bool} {N tt k : Nat} (h : k < (bst R N tt k).q.length) : bst R N tt (k + 1) = rndk R ((bst R N tt k).at k) (bst R N tt k) N := if_pos h
theorem bst_stop {R : Nat → Nat → Bool} {N tt k : Nat} (h : (bst R N tt k).q.length ≤ k) : ∀ d, bst R N tt (k + d) = bst R N tt k := by
  intro d
  induction d with
  | zero => rfl
  | succ d ih => exact (show (if k + d < (bst R N tt (k + d)).q.length then _ else _) = _ from by rw [ih, if_neg (by omega)]; exact ih)
theorem at_app {s : List Nat} {a i : Nat} : (s ++ [a]).getD i 0 = if i < s.length then s.getD i 0 else if i = s.length then a else 0 := by
  rw [List.getD_eq_getElem?_getD, List.getD_eq_getElem?_getD]
  by_cases h : i < s.length
  · rw [if_pos h, List.getElem?_append_left h]
  · rw [if_neg h, List.getElem?_append_right (by omega)]
    by_cases e : i = s.length
    · rw [if_pos e, e, Nat.sub_self]; rfl
    · rw [if_neg e, List.getElem?_eq_none (by simp; omega)]; rfl
/-- What holds when k have been gone through, and j threads been looked at from the next one. -/
structure Bf (R : Nat → Nat → Bool) (N tt k j : Nat) (s : St) : Prop where
  pos : 0 < s.q.length
  kle : k ≤ s.q.length
  head : s.at 0 = tt
  lt : ∀ i, i < s.q.length → s.at i < N
  inj : ∀ i j, i < s.q.length → j < s.q.length → s.at i = s.at j → i = j
  fq : ∀ i, i < s.q.length → 0 ≤ s.far (s.at i) ∧ s.far (s.at i) ≤ (i : Nat)
  neg : ∀ a, (∀ i, i < s.q.length → s.at i ≠ a) → s.far a = -1
  zero : ∀ i, i < s.q.length → s.far (s.at i) = 0 → i = 0
  mono : ∀ i j, i ≤ j → j < s.q.length → s.far (s.at i) ≤ s.far (s.at j)
  near : ∀ i, i < s.q.length → k < s.q.length → s.far (s.at i) ≤ s.far (s.at k) + 1
  par : ∀ i, i < s.q.length → 0 < i → ∃ m, m < s.q.length ∧ R (s.at i) (s.at m) = true ∧ s.far (s.at m) = s.far (s.at i) - 1
  done : ∀ i a, i < k → a < N → R a (s.at i) = true → ∃ m, m < s.q.length ∧ s.at m = a ∧ s.far a ≤ s.far (s.at i) + 1
  doing : k < s.q.length → ∀ a, a < j → a < N → R a (s.at k) = true → ∃ m, m < s.q.length ∧ s.at m = a ∧ s.far a ≤ s.far (s.at k) + 1
  least : ∀ S : Nat → Prop, S tt → (∀ c a, S c → a < N → R a c = true → S a) → ∀ i, i < s.q.length → S (s.at i)
theorem Bf.len {R : Nat → Nat → Bool} {N tt k j : Nat} {s : St} (h : Bf R N tt k j s) : s.q.length ≤ N := pigeon N _ s.at h.lt h.inj
theorem Bf.ini {R : Nat → Nat → Bool} {N tt : Nat} (h : tt < N) : Bf R N tt 0 0 (ini tt) := by
  have e : ∀ i, i < (Go.Proofs.Ytgmcbdnfgdmmaaa.ini tt).q.length → i = 0 := fun i hi => by simp [Go.Proofs.Ytgmcbdnfgdmmaaa.ini] at hi; exact hi
  have a0 : (Go.Proofs.Ytgmcbdnfgdmmaaa.ini tt).at 0 = tt := rfl
  have f0 : (Go.Proofs.Ytgmcbdnfgdmmaaa.ini tt).far tt = 0 := if_pos rfl
  refine ⟨by simp [Go.Proofs.Ytgmcbdnfgdmmaaa.ini], Nat.zero_le _, a0, ?_, ?_, ?_, ?_, ?_, ?_, ?_, ?_, ?_, ?_, ?_⟩
  · intro i hi; rw [e i hi, a0]; exact h
  · intro i j hi hj _; rw [e i hi, e j hj]
  · intro i hi; rw [e i hi, a0, f0]; omega
  · intro a ha; exact if_neg fun e => ha 0 (by simp [Go.Proofs.Ytgmcbdnfgdmmaaa.ini]) (by rw [a0, e])
  · intro i hi _; exact e i hi
  · intro i j hij hj; rw [e j hj, e i (by omega)]; exact Int.le_refl _
  · intro i hi _; rw [e i hi]; omega
  · intro i hi h0; exact absurd (e i hi) (by omega)
  · intro i a hi; omega
  · intro _ a ha; omega
  · intro S hS _ i hi; rw [e i hi, a0]; exact hS
/-- One thread more is looked at. -/
theorem Bf.vis {R : Nat → Nat → Bool} {N tt k j : Nat} {s : St} (h : Bf R N tt k j s) (hk : k < s.q.length) (hj : j < N) : Bf R N tt k (j + 1) (vis R (s.at k) s j) := by
  by_cases hf : s.far j < 0
  · have hnew : ∀ i, i < s.q.length → s.at i ≠ j := fun i hi e => by have := (h.fq i hi).1; rw [e] at this; omega
    by_cases hR : R j (s.at k) = true
    · have ev : Go.Proofs.Ytgmcbdnfgdmmaaa.vis R (s.at k) s j = ⟨fun x => if x = j then s.far (s.at k) + 1 else s.far x, s.q ++ [j]⟩ := by
        unfold Go.Proofs.Ytgmcbdnfgdmmaaa.vis
        rw [decide_eq_true hf, hR]; rfl
      rw [ev]
      obtain ⟨s', hs'⟩ : ∃ s', s' = (⟨fun x => if x = j then s.far (s.at k) + 1 else s.far x, s.q ++ [j]⟩ : St) := ⟨_, rfl⟩
      have hl : s'.q.length = s.q.length + 1 := by rw [hs']; simp
      have ha : ∀ i, i < s.q.length → s'.at i = s.at i := fun i hi => by rw [hs']; show (s.q ++ [j]).getD i 0 = _; rw [at_app, if_pos hi]; rfl
      have hn : s'.at s.q.length = j := by rw [hs']; show (s.q ++ [j]).getD s.q.length 0 = _; rw [at_app, if_neg (by omega), if_pos rfl]
      have fj : s'.far j = s.far (s.at k) + 1 := by rw [hs']; exact if_pos rfl
      have fo : ∀ x, x ≠ j → s'.far x = s.far x := fun x hx => by rw [hs']; exact if_neg hx
      have fa : ∀ i, i < s.q.length → s'.far (s'.at i) = s.far (s.at i) := fun i hi => by rw [ha i hi]; exact fo _ (hnew i hi)
      have fk := h.fq k hk
      rw [← hs']
      clear hs' ev
      have cs : ∀ i, i < s'.q.length → i < s.q.length ∨ i = s.q.length := fun i hi => by omega
      refine ⟨by omega, by have := h.kle; omega, by rw [ha 0 h.pos]; exact h.head, ?_, ?_, ?_, ?_, ?_, ?_, ?_, ?_, ?_, ?_, ?_⟩
      · intro i hi
        rcases cs i hi with c | c
        · rw [ha i c]; exact h.lt i c
        · rw [c, hn]; exact hj
      · intro i m hi hm e
        rcases cs i hi with c | c <;> rcases cs m hm with d | d
        · rw [ha i c, ha m d] at e; exact h.inj i m c d e
        · rw [ha i c, d, hn] at e; exact absurd e (hnew i c)
        · rw [ha m d, c, hn] at e; exact absurd e.symm (hnew m d)
        · omega
      · intro i hi
        rcases cs i hi with c | c
        · rw [fa i c]; exact h.fq i c
        · rw [c, hn, fj]; omega
      · intro a hall
        have hne : a ≠ j := fun e => hall s.q.length (by omega) (by rw [hn, e])
        rw [fo a hne]
        exact h.neg a fun i hi e => hall i (by omega) (by rw [ha i hi, e])
      · intro i hi e
        rcases cs i hi with c | c
        · rw [fa i c] at e; exact h.zero i c e
        · rw [c, hn, fj] at e; omega
      · intro i m him hm
        rcases cs m hm with d | d
        · rw [fa m d, fa i (by omega)]; exact h.mono i m him d
        · rcases cs i (by omega) with c | c
          · rw [fa i c, d, hn, fj]; exact h.near i c hk
          · rw [c, d]; exact Int.le_refl _
      · intro i hi _
        rw [fa k hk]
        rcases cs i hi with c | c
        · rw [fa i c]; exact h.near i c hk
        · rw [c, hn, fj]; exact Int.le_refl _
      · intro i hi h0
        rcases cs i hi with c | c
        · obtain ⟨m, m1, m2, m3⟩ := h.par i c h0
          exact ⟨m, by omega, by rw [ha i c, ha m m1]; exact m2, by rw [fa i c, fa m m1]; exact m3⟩
        · exact ⟨k, by omega, by rw [c, hn, ha k hk]; exact hR, by rw [c, hn, fj, fa k hk]; omega⟩
      · intro i a hi haN hRa
        have hi' : i < s.q.length := by omega
        rw [ha i hi'] at hRa
        obtain ⟨m, m1, m2, m3⟩ := h.done i a hi haN hRa
        exact ⟨m, by omega, by rw [ha m m1]; exact m2, by rw [fa i hi', fo a (by rw [← m2]; exact hnew m m1)]; exact m3⟩
      · intro _ a haj haN hRa
        rw [ha k hk] at hRa
        by_cases e : a = j
        · subst e
          exact ⟨s.q.length, by omega, hn, by rw [fa k hk, fj]; exact Int.le_refl _⟩
        · obtain ⟨m, m1, m2, m3⟩ := h.doing hk a (by omega) haN hRa
          exact ⟨m, by omega, by rw [ha m m1]; exact m2, by rw [fa k hk, fo a (by rw [← m2]; exact hnew m m1)]; exact m3⟩
      · intro S hS hc i hi
        rcases cs i hi with c | c
        · rw [ha i c]; exact h.least S hS hc i c
        · rw [c, hn]; exact hc _ _ (h.least S hS hc k hk) hj hR
    · have ev : Go.Proofs.Ytgmcbdnfgdmmaaa.vis R (s.at k) s j = s := by
        unfold Go.Proofs.Ytgmcbdnfgdmmaaa.vis
        rw [decide_eq_true hf]
        simp [hR]
      rw [ev]
      have hd : k < s.q.length → ∀ a, a < j + 1 → a < N → R a (s.at k) = true → ∃ m, m < s.q.length ∧ s.at m = a ∧ s.far a ≤ s.far (s.at k) + 1 := by
        intro _ a haj haN hRa
        by_cases e : a = j
        · subst e; exact absurd hRa hR
        · exact h.doing hk a (by omega) haN hRa
      exact { h with doing := hd }
  · have ev : Go.Proofs.Ytgmcbdnfgdmmaaa.vis R (s.at k) s j = s := by
      unfold Go.Proofs.Ytgmcbdnfgdmmaaa.vis
      rw [decide_eq_false hf]; rfl
    rw [ev]
    have hd : k < s.q.length → ∀ a, a < j + 1 → a < N → R a (s.at k) = true → ∃ m, m < s.q.length ∧ s.at m = a ∧ s.far a ≤ s.far (s.at k) + 1 := by
      intro _ a haj haN hRa
      by_cases e : a = j
      · subst e
        by_cases hm : ∃ m, m < s.q.length ∧ s.at m = a
        · obtain ⟨m, m1, m2⟩ := hm
          exact ⟨m, m1, m2, by rw [← m2]; exact h.near m m1 hk⟩
        · exact absurd (h.neg a fun i hi e => hm ⟨i, hi, e⟩) (by omega)
      · exact h.doing hk a (by omega) haN hRa
    exact { h with doing := hd }
theorem vis_at {R : Nat → Nat → Bool} {c a k : Nat} {s : St} (hk : k < s.q.length) : (vis R c s a).at k = s.at k := by
  unfold vis
  split
  · show (s.q ++ [a]).getD k 0 = _
    rw [at_app, if_pos hk]; rfl
  · rfl
theorem vis_len {R : Nat → Nat → Bool} {c a : Nat} {s : St} : s.q.length ≤ (vis R c s a).q.length := by
  unfold vis
  split
  · simp
  · exact Nat.le_refl _
theorem rndk_at {R : Nat → Nat → Bool} {c k : Nat} {s : St} (hk : k < s.q.length) : ∀ j, (rndk R c s j).at k = s.at k ∧ s.q.length ≤ (rndk R c s j).q.length := by
  intro j
  induction j with
  | zero => exact ⟨rfl, Nat.le_refl _⟩
  | succ j ih =>
    rw [rndk_succ]
    have h2 := vis_len (R := R) (c := c) (a := j) (s := rndk R c s j)
    exact ⟨(vis_at (by omega)).trans ih.1, by omega⟩
theorem Bf.rnd {R : Nat → Nat → Bool} {N tt k : Nat} {s : St} (h : Bf R N tt k 0 s) (hk : k < s.q.length) : ∀ j, j ≤ N → Bf R N tt k j (rndk R (s.at k) s j) := by
  intro j
  induction j with
  | zero => intro _; exact h
  | succ j ih =>
    intro hj
    have h1 := ih (by omega)
    obtain ⟨e1, e2⟩ := rndk_at (R := R) (c := s.at k) hk j
    rw [rndk_succ]
    have h2 := h1.vis (by omega) (by omega : j < N)
    rwa [e1] at h2
theorem Bf.next {R : Nat → Nat → Bool} {N tt k : Nat} {s : St} (h : Bf R N tt k N s) (hk : k < s.q.length) : Bf R N tt (k + 1) 0 s := by
  have hn : ∀ i, i < s.q.length → k + 1 < s.q.length → s.far (s.at i) ≤ s.far (s.at (k + 1)) + 1 := fun i hi hk1 => by
    have a := h.near i hi hk
    have b := h.mono k (k + 1) (by omega) hk1
    omega
  have hd : ∀ i a, i < k + 1 → a < N → R a (s.at i) = true → ∃ m, m < s.q.length ∧ s.at m = a ∧ s.far a ≤ s.far (s.at i) + 1 := by
    intro i a hi haN hRa
    rcases Nat.lt_succ_iff_lt_or_eq.1 hi with c | c
    · exact h.done i a c haN hRa
    · subst c; exact h.doing hk a haN haN hRa
  exact { h with kle := hk, near := hn, done := hd, doing := fun _ a ha => absurd ha (by omega) }
theorem Bf.st {R : Nat → Nat → Bool} {N tt : Nat} (hto : tt < N) : ∀ k, k ≤ (bst R N tt k).q.length → Bf R N tt k 0 (bst R N tt k) := by
  intro k
  induction k with
  | zero => intro _; exact Bf.ini hto
  | succ k ih =>
    intro hk
    by_cases hl : k < (bst R N tt k).q.length
    · rw [bst_go hl]
      have h1 := (ih (by omega)).rnd hl N (Nat.le_refl _)
      obtain ⟨e1, e2⟩ := rndk_at (R := R) (c := (bst R N tt k).at k) hl N
      exact h1.next (by omega)
    · have e : bst R N tt (k + 1) = bst R N tt k := bst_stop (by omega) 1
      rw [e] at hk
      omega
theorem bst_more {R : Nat → Nat → Bool} {N tt k : Nat} : (bst R N tt k).q.length ≤ (bst R N tt (k + 1)).q.length := by
  by_cases hl : k < (bst R N tt k).q.length
  · rw [bst_go hl]; exact (rndk_at hl N).2
  · rw [bst_stop (by omega) 1]; exact Nat.le_refl _
/-- The search ends: there is a round at which all that were found have been gone through. -/
theorem bst_end {R : Nat → Nat → Bool} {N tt : Nat} (hto : tt < N) : ∃ k, k ≤ N ∧ (bst R N tt k).q.length = k ∧ bst R N tt N = bst R N tt k ∧ Bf R N tt k 0 (bst R N tt k) := by
  have key : ∀ d k, k + d = N → k ≤ (bst R N tt k).q.length → ∃ m, m ≤ N ∧ (bst R N tt m).q.length = m ∧ Bf R N tt m 0 (bst R N tt m) := by
    intro d
    induction d with
    | zero =>
      intro k hk hl
      have h := Bf.st hto k hl
      have := h.len
      exact ⟨k, by omega, by omega, h⟩
    | succ d ih =>
      intro k hk hl
      by_cases hlt : k < (bst R N tt k).q.length
      · exact ih (k + 1) (by omega) (by have := bst_more (R := R) (N := N) (tt := tt) (k := k); omega)
      · exact ⟨k, by omega, by omega, Bf.st hto k hl⟩
  obtain ⟨m, h1, h2, h3⟩ := key N 0 (by omega) (Nat.zero_le _)
  refine ⟨m, h1, h2, ?_, h3⟩
  have := bst_stop (R := R) (N := N) (tt := tt) (k := m) (by omega) (N - m)
  rwa [show m + (N - m) = N by omega] at this

/-- How far each thread is in the end. -/
def far (R : Nat → Nat → Bool) (N tt : Nat) : Nat → Int := (bst R N tt N).far
theorem far_all {R : Nat → Nat → Bool} {N tt : Nat} (hto : tt < N) :
    (∀ a, -1 ≤ far R N tt a ∧ far R N tt a < N) ∧ (∀ a, 0 ≤ far R N tt a → a < N) ∧ (∀ c a, 0 ≤ far R N tt c → a < N → R a c = true → 0 ≤ far R N tt a ∧ far R N tt a ≤ far R N tt c + 1) ∧
    (∀ S : Nat → Prop, S tt → (∀ c a, S c → a < N → R a c = true → S a) → ∀ a, 0 ≤ far R N tt a → S a) ∧ far R N tt tt = 0 ∧ (∀ a, far R N tt a = 0 → a = tt) ∧
    (∀ a, 0 < far R N tt a → ∃ c, c < N ∧ R a c = true ∧ far R N tt c = far R N tt a - 1) := by
  obtain ⟨k, hk, hl, he, h⟩ := bst_end (R := R) hto
  unfold far
  rw [he]
  obtain ⟨s, hs⟩ : ∃ s, s = bst R N tt k := ⟨_, rfl⟩
  rw [← hs] at h hl ⊢
  clear hs he
  have inq : ∀ a, 0 ≤ s.far a → ∃ i, i < s.q.length ∧ s.at i = a := fun a ha => by
    by_cases hm : ∃ m, m < s.q.length ∧ s.at m = a
    · exact hm
    · exact absurd (h.neg a fun i hi e => hm ⟨i, hi, e⟩) (by omega)
  refine ⟨fun a => ?_, fun a ha => ?_, fun c a hc ha hR => ?_, fun S hS hcl a ha => ?_, ?_, fun a ha => ?_, fun a ha => ?_⟩
  · by_cases ha : 0 ≤ s.far a
    · obtain ⟨i, hi, e⟩ := inq a ha
      have := (h.fq i hi).2
      rw [e] at this
      have hlen := h.len
      omega
    · by_cases hm : ∃ m, m < s.q.length ∧ s.at m = a
      · obtain ⟨m, m1, m2⟩ := hm
        have := (h.fq m m1).1
        rw [m2] at this
        omega
      · have := h.neg a fun i hi e => hm ⟨i, hi, e⟩
        omega
  · obtain ⟨i, hi, e⟩ := inq a ha
    rw [← e]; exact h.lt i hi
  · obtain ⟨i, hi, e⟩ := inq c hc
    rw [← e] at hR ⊢
    obtain ⟨m, m1, m2, m3⟩ := h.done i a (by omega) ha hR
    exact ⟨by rw [← m2]; exact (h.fq m m1).1, m3⟩
  · obtain ⟨i, hi, e⟩ := inq a ha
    rw [← e]
    exact h.least S hS hcl i hi
  · have h0 := h.fq 0 h.pos
    rw [h.head] at h0
    omega
  · obtain ⟨i, hi, e⟩ := inq a (by omega)
    rw [← e] at ha
    have := h.zero i hi ha
    rw [← e, this, h.head]
  · obtain ⟨i, hi, e⟩ := inq a (by omega)
    rw [← e] at ha ⊢
    have h0 : 0 < i := by
      rcases Nat.eq_zero_or_pos i with c | c
      · subst c
        have := (h.fq 0 hi).2
        omega
      · exact c
    obtain ⟨m, m1, m2, m3⟩ := h.par i hi h0
    exact ⟨s.at m, h.lt m m1, m2, m3⟩
/-- The numbers below k that are chosen. -/
def ofl (T : Nat → Bool) (k : Nat) : List Nat := (List.range k).filter T
theorem ofl_yes {T : Nat → Bool} {k : Nat} (h : T k = true) : ofl T (k + 1) = ofl T k ++ [k] := by
  unfold ofl
  rw [List.range_succ, List.filter_append]
  simp [h]
theorem ofl_no {T : Nat → Bool} {k : Nat} (h : T k = false) : ofl T (k + 1) = ofl T k := by
  unfold ofl
  rw [List.range_succ, List.filter_append]
  simp [h]
theorem ofl_len (T : Nat → Bool) (k : Nat) : (ofl T k).length ≤ k := by
  have h := List.length_filter_le T (List.range k)
  rwa [List.length_range] at h
theorem ofl_mem {T : Nat → Bool} {k a : Nat} : a ∈ ofl T k ↔ a < k ∧ T a = true := by
  unfold ofl
  rw [List.mem_filter, List.mem_range]
theorem ofl_congr {A B : Nat → Bool} {k : Nat} (h : ∀ a, a < k → A a = B a) : ofl A k = ofl B k := by
  induction k with
  | zero => rfl
  | succ k ih =>
    have e := ih fun a ha => h a (by omega)
    have hk := h k (by omega)
    cases hA : A k
    · rw [ofl_no hA, ofl_no (by rw [← hk, hA]), e]
    · rw [ofl_yes hA, ofl_yes (by rw [← hk, hA]), e]
theorem ofl_mono {A B : Nat → Bool} {k : Nat} (h : ∀ a, a < k → A a = true → B a = true) : (ofl A k).length ≤ (ofl B k).length ∧ ((ofl A k).length = (ofl B k).length → ∀ a, a < k → A a = B a) := by
  induction k with
  | zero => exact ⟨Nat.le_refl _, fun _ a ha => absurd ha (by omega)⟩
  | succ k ih =>
    obtain ⟨h1, h2⟩ := ih fun a ha => h a (by omega)
    cases hA : A k
    · cases hB : B k
      · rw [ofl_no hA, ofl_no hB]
        refine ⟨h1, fun e a ha => ?_⟩
        rcases Nat.lt_succ_iff_lt_or_eq.1 ha with c | c
        · exact h2 e a c
        · rw [c, hA, hB]
      · rw [ofl_no hA, ofl_yes hB, List.length_append, List.length_singleton]
        exact ⟨by omega, fun e => by omega⟩
    · rw [ofl_yes hA, ofl_yes (h k (by omega) hA), List.length_append, List.length_append, List.length_singleton]
      refine ⟨by omega, fun e a ha => ?_⟩
      rcases Nat.lt_succ_iff_lt_or_eq.1 ha with c | c
      · exact h2 (by omega) a c
      · rw [c, hA, h k (by omega) hA]
theorem ofl_all {A : Nat → Bool} {k : Nat} : (ofl A k).length = k ↔ ∀ a, a < k → A a = true := by
  have e : (ofl (fun _ => true) k).length = k := by
    induction k with
    | zero => rfl
    | succ k ih => rw [ofl_yes rfl, List.length_append, ih]; rfl
  obtain ⟨h1, h2⟩ := ofl_mono (A := A) (B := fun _ => true) (k := k) fun _ _ _ => rfl
  constructor
  · intro h; exact h2 (by omega)
  · intro h
    obtain ⟨h3, _⟩ := ofl_mono (A := fun _ => true) (B := A) (k := k) fun a ha _ => h a ha
    omega
theorem ofl_head {A : Nat → Bool} {k i : Nat} (hi : i < k) (h : A i = true) (h0 : ∀ j, j < i → A j = false) : (ofl A k)[0]? = some i := by
  induction k with
  | zero => omega
  | succ k ih =>
    by_cases e : i = k
    · subst e
      have : ∀ m, m ≤ i → ofl A m = [] := by
        intro m
        induction m with
        | zero => intro _; rfl
        | succ m ihm => intro hm; rw [ofl_no (h0 m (by omega)), ihm (by omega)]
      rw [ofl_yes h, this i (Nat.le_refl _)]; rfl
    · have h1 := ih (by omega)
      cases hA : A k
      · rw [ofl_no hA]; exact h1
      · rw [ofl_yes hA, List.getElem?_append_left]
        · exact h1
        · rcases Nat.eq_zero_or_pos (ofl A k).length with c | c
          · rw [List.getElem?_eq_none (by omega)] at h1; cases h1
          · exact c
/-- What is in a list of chosen numbers, by its index. -/
theorem ofl_get {A : Nat → Bool} {k i : Nat} (hi : i < (ofl A k).length) : (ofl A k).getD i 0 < k ∧ A ((ofl A k).getD i 0) = true := by
  have : (ofl A k).getD i 0 ∈ ofl A k := by
    rw [List.getD_eq_getElem?_getD, List.getElem?_eq_getElem hi]
    exact List.getElem_mem hi
  exact ofl_mem.1 this
theorem ofl_ix {A : Nat → Bool} {k a : Nat} (ha : a < k) (h : A a = true) : ∃ i, i < (ofl A k).length ∧ (ofl A k).getD i 0 = a := by
  obtain ⟨i, hi, e⟩ := List.mem_iff_getElem.1 (ofl_mem.2 ⟨ha, h⟩)
  exact ⟨i, hi, by rw [List.getD_eq_getElem?_getD, List.getElem?_eq_getElem hi, e]; rfl⟩
theorem ofl_lt {A : Nat → Bool} {k i j : Nat} (hij : i < j) (hj : j < (ofl A k).length) : (ofl A k).getD i 0 < (ofl A k).getD j 0 := by
  induction k with
  | zero => exact absurd hj (by simp [ofl])
  | succ k ih =>
    cases hA : A k
    · rw [ofl_no hA] at hj ⊢; exact ih hj
    · rw [ofl_yes hA] at hj ⊢
      rw [List.length_append, List.length_singleton] at hj
      rw [List.getD_eq_getElem?_getD, List.getD_eq_getElem?_getD, List.getElem?_append_left (by omega)]
      by_cases e : j = (ofl A k).length
      · rw [e, List.getElem?_append_right (by omega), Nat.sub_self]
        have := (ofl_get (A := A) (k := k) (i := i) (by omega)).1
        rw [List.getD_eq_getElem?_getD] at this
        exact this
      · rw [List.getElem?_append_left (by omega)]
        have := ih (by omega)
        rwa [List.getD_eq_getElem?_getD, List.getD_eq_getElem?_getD] at this
/-- The threads from which lists lead tt a thread. -/
def up (R : Nat → Nat → Bool) (N tt : Nat) (a : Nat) : Bool := decide (0 ≤ far R N tt a)
def sz (R : Nat → Nat → Bool) (N tt : Nat) : Nat := (ofl (up R N tt) N).length
theorem up_iff {R : Nat → Nat → Bool} {N tt a : Nat} : up R N tt a = true ↔ 0 ≤ far R N tt a := by unfold up; exact decide_eq_true_iff
theorem up_self {R : Nat → Nat → Bool} {N tt : Nat} (h : tt < N) : up R N tt tt = true := up_iff.2 (by rw [(far_all h).2.2.2.2.1]; exact Int.le_refl _)
theorem up_closed {R : Nat → Nat → Bool} {N tt c a : Nat} (h : tt < N) (hc : up R N tt c = true) (ha : a < N) (hR : R a c = true) : up R N tt a = true :=
  up_iff.2 ((far_all h).2.2.1 c a (up_iff.1 hc) ha hR).1
theorem up_least {R : Nat → Nat → Bool} {N tt a : Nat} (h : tt < N) (S : Nat → Prop) (h0 : S tt) (hS : ∀ c a, S c → a < N → R a c = true → S a) (ha : up R N tt a = true) : S a :=
  (far_all h).2.2.2.1 S h0 hS a (up_iff.1 ha)
theorem up_lt {R : Nat → Nat → Bool} {N tt a : Nat} (h : tt < N) (ha : up R N tt a = true) : a < N := (far_all h).2.1 a (up_iff.1 ha)
theorem up_sub {R : Nat → Nat → Bool} {N t x : Nat} (ht : t < N) (hx : up R N t x = true) : ∀ a, a < N → up R N x a = true → up R N t a = true := fun a _ ha =>
  up_least (up_lt ht hx) (fun a => up R N t a = true) hx (fun c a hc ha hR => up_closed ht hc ha hR) ha
/-- The first of the least ones of the numbers 0 tt k. -/
def fm (z : Nat → Nat) : Nat → Nat
  | 0 => 0
  | k + 1 => if z (k + 1) < z (fm z k) then k + 1 else fm z k
theorem fm_le (z : Nat → Nat) : ∀ k, fm z k ≤ k := by
  intro k
  induction k with
  | zero => exact Nat.le_refl _
  | succ k ih => unfold fm; split <;> omega
theorem fm_least (z : Nat → Nat) : ∀ k i, i ≤ k → z (fm z k) ≤ z i ∧ (i < fm z k → z (fm z k) < z i) := by
  intro k
  induction k with
  | zero => intro i hi; obtain rfl : i = 0 := by omega
            exact ⟨Nat.le_refl _, fun h => absurd h (by unfold fm; omega)⟩
  | succ k ih =>
    intro i hi
    unfold fm
    by_cases h : z (k + 1) < z (fm z k)
    · rw [if_pos h]
      rcases Nat.lt_or_ge i (k + 1) with c | c
      · have := (ih i (by omega)).1
        exact ⟨by omega, fun _ => by omega⟩
      · obtain rfl : i = k + 1 := by omega
        exact ⟨Nat.le_refl _, fun h => absurd h (by omega)⟩
    · rw [if_neg h]
      rcases Nat.lt_or_ge i (k + 1) with c | c
      · exact ih i (by omega)
      · obtain rfl : i = k + 1 := by omega
        have := fm_le z k
        exact ⟨by omega, fun h => absurd h (by omega)⟩
/-- The thread whose set comes off first, or has all. -/
def t0 (R : Nat → Nat → Bool) (N : Nat) : Nat := fm (sz R N) (N - 1)
def hgs (R : Nat → Nat → Bool) (N : Nat) : Bool := sz R N (t0 R N) == N
theorem t0_lt {R : Nat → Nat → Bool} {N : Nat} (h : 0 < N) : t0 R N < N := by have := fm_le (sz R N) (N - 1); unfold t0; omega
theorem t0_least {R : Nat → Nat → Bool} {N i : Nat} (hi : i < N) : sz R N (t0 R N) ≤ sz R N i ∧ (i < t0 R N → sz R N (t0 R N) < sz R N i) := fm_least (sz R N) (N - 1) i (by omega)
theorem t0_same {R : Nat → Nat → Bool} {N x : Nat} (h : 0 < N) (hx : up R N (t0 R N) x = true) : ∀ a, a < N → up R N x a = up R N (t0 R N) a := by
  have hs := up_sub (t0_lt h) hx
  obtain ⟨h1, h2⟩ := ofl_mono hs
  have := (t0_least (R := R) (up_lt (t0_lt h) hx)).1
  exact h2 (Nat.le_antisymm h1 this)
theorem t0_head {R : Nat → Nat → Bool} {N : Nat} (h : 0 < N) : (ofl (up R N (t0 R N)) N)[0]? = some (t0 R N) := by
  refine ofl_head (t0_lt h) (up_self (t0_lt h)) fun j hj => ?_
  cases hu : up R N (t0 R N) j
  · rfl
  · have e : sz R N j = sz R N (t0 R N) := by unfold sz; rw [ofl_congr (t0_same h hu)]
    have := (t0_least (R := R) (N := N) (i := j) (by have := t0_lt (R := R) h; omega)).2 hj
    omega
/-- Another one as small begins not before. -/
theorem t0_other {R : Nat → Nat → Bool} {N t u : Nat} (ht : t < N) (he : sz R N t = sz R N (t0 R N)) (hu : (ofl (up R N t) N)[0]? = some u) : t0 R N ≤ u := by
  have hm : u ∈ ofl (up R N t) N := List.mem_of_getElem? hu
  obtain ⟨hu1, hu2⟩ := ofl_mem.1 hm
  obtain ⟨h1, _⟩ := ofl_mono (up_sub ht hu2)
  rcases Nat.lt_or_ge u (t0 R N) with c | c
  · have := (t0_least hu1).2 c
    have h1' : sz R N u ≤ sz R N t := h1
    omega
  · exact c
theorem hgs_iff {R : Nat → Nat → Bool} {N : Nat} (h : 0 < N) : hgs R N = true ↔ ∀ t a, t < N → a < N → up R N t a = true := by
  unfold hgs
  rw [beq_iff_eq]
  constructor
  · intro e t a ht ha
    have h1 := (t0_least (R := R) ht).1
    have h2 := ofl_len (up R N t) N
    exact ofl_all.1 (show (ofl (up R N t) N).length = N by have : sz R N t = (ofl (up R N t) N).length := rfl; omega) a ha
  · intro hall
    exact ofl_all.2 fun a ha => hall _ a (t0_lt h) ha
/-- The way's next thread. -/
def nxt (R : Nat → Nat → Bool) (N tt a : Nat) : Nat := ((List.range N).find? fun b => decide (far R N tt b = far R N tt a - 1) && R a b).getD 0
theorem nxt_all {R : Nat → Nat → Bool} {N tt a : Nat} (hto : tt < N) (h : 0 < far R N tt a) :
    nxt R N tt a < N ∧ far R N tt (nxt R N tt a) = far R N tt a - 1 ∧ R a (nxt R N tt a) = true ∧ ∀ b, b < nxt R N tt a → ¬ (far R N tt b = far R N tt a - 1 ∧ R a b = true) := by
  obtain ⟨c, hc, hR, hf⟩ := (far_all hto).2.2.2.2.2.2 a h
  unfold nxt
  cases hfi : (List.range N).find? fun b => decide (far R N tt b = far R N tt a - 1) && R a b with
  | none =>
    have := List.find?_eq_none.1 hfi c (List.mem_range.2 hc)
    rw [decide_eq_true hf, hR] at this
    exact absurd rfl this
  | some b =>
    rw [List.find?_range_eq_some] at hfi
    obtain ⟨h1, h2, h3⟩ := hfi
    rw [Bool.and_eq_true, decide_eq_true_iff] at h1
    refine ⟨List.mem_range.1 h2, h1.1, h1.2, fun b' hb' hh => ?_⟩
    have := h3 b' hb'
    rw [decide_eq_true hh.1, hh.2] at this
    cases this
/-- Where the way is behind k steps. -/
def wat (R : Nat → Nat → Bool) (N tt a : Nat) : Nat → Nat
  | 0 => a
  | k + 1 => nxt R N tt (wat R N tt a k)
def wal (R : Nat → Nat → Bool) (N tt a k : Nat) : List Nat := (List.range k).map fun i => wat R N tt a (i + 1)
theorem wal_succ (R : Nat → Nat → Bool) (N tt a k : Nat) : wal R N tt a (k + 1) = wal R N tt a k ++ [wat R N tt a (k + 1)] := by
  unfold wal
  rw [List.range_succ, List.map_append]; rfl
theorem wal_len (R : Nat → Nat → Bool) (N tt a k : Nat) : (wal R N tt a k).length = k := by unfold wal; simp
theorem wat_all {R : Nat → Nat → Bool} {N tt a : Nat} (hto : tt < N) (ha : a < N) (h0 : 0 ≤ far R N tt a) : ∀ k : Nat, (k : Int) ≤ far R N tt a → far R N tt (wat R N tt a k) = far R N tt a - k ∧ wat R N tt a k < N := by
  intro k
  induction k with
  | zero => intro _; exact ⟨by show far R N tt a = _; omega, ha⟩
  | succ k ih =>
    intro hk
    obtain ⟨h1, h2⟩ := ih (by omega)
    obtain ⟨n1, n2, n3, n4⟩ := nxt_all (R := R) (a := wat R N tt a k) hto (by omega)
    exact ⟨by show far R N tt (nxt R N tt (wat R N tt a k)) = _; omega, n1⟩
/-- A thread lies over another one. -/
def ov (W : Nat) (g : Nat → Bool) (a b : Nat) : Bool := if a < W then (if b < W then false else g ((b - W) * W + a)) else (if b < W then !g ((a - W) * W + b) else false)
/-- A list of numbers is a set of threads. -/
def setB (N n : Nat) (f : Nat → Int) : Bool := decide (∀ i, i < n → (0 ≤ f i ∧ f i < (N : Int)) ∧ (0 < i → f (i - 1) < f i))
def mem (n : Nat) (f : Nat → Int) (a : Nat) : Bool := (List.range n).any fun i => f i == (a : Int)
theorem mem_iff {n : Nat} {f : Nat → Int} {a : Nat} : mem n f a = true ↔ ∃ i, i < n ∧ f i = (a : Int) := by
  unfold mem
  rw [List.any_eq_true]
  constructor
  · rintro ⟨i, hi, e⟩
    exact ⟨i, List.mem_range.1 hi, eq_of_beq e⟩
  · rintro ⟨i, hi, e⟩
    exact ⟨i, List.mem_range.2 hi, beq_iff_eq.2 e⟩
def offB (R : Nat → Nat → Bool) (N n : Nat) (f : Nat → Int) : Bool := decide (0 < n) && decide (n < N) && ((List.range N).all fun a => mem n f a || (List.range n).all fun i => !R a (f i).toNat)
theorem offB_iff {R : Nat → Nat → Bool} {N n : Nat} {f : Nat → Int} : offB R N n f = true ↔ 0 < n ∧ n < N ∧ ∀ a, a < N → mem n f a = false → ∀ i, i < n → R a (f i).toNat = false := by
  unfold offB
  rw [Bool.and_eq_true, Bool.and_eq_true, decide_eq_true_iff, decide_eq_true_iff, List.all_eq_true, and_assoc]
  constructor
  · rintro ⟨h1, h2, h3⟩
    refine ⟨h1, h2, fun a ha hm i hi => ?_⟩
    have := h3 a (List.mem_range.2 ha)
    rw [hm, Bool.false_or, List.all_eq_true] at this
    simpa using this i (List.mem_range.2 hi)
  · rintro ⟨h1, h2, h3⟩
    refine ⟨h1, h2, fun a ha => ?_⟩
    cases hm : mem n f a
    · rw [Bool.false_or, List.all_eq_true]
      intro i hi
      simp [h3 a (List.mem_range.1 ha) hm i (List.mem_range.1 hi)]
    · rfl
/-- A list of numbers is a whole walk. -/
def accB (R : Nat → Nat → Bool) (N n : Nat) (l : Nat → Int) : Bool :=
  decide (2 ≤ n) && (l 0 == l (n - 1)) && ((List.range n).all fun i => decide (0 ≤ l i) && decide (l i < (N : Int))) && ((List.range (n - 1)).all fun i => R (l i).toNat (l (i + 1)).toNat) && (List.range N).all fun t => mem n l t
theorem accB_iff {R : Nat → Nat → Bool} {N n : Nat} {l : Nat → Int} : accB R N n l = true ↔
    2 ≤ n ∧ l 0 = l (n - 1) ∧ (∀ i, i < n → 0 ≤ l i ∧ l i < (N : Int)) ∧ (∀ i, i + 1 < n → R (l i).toNat (l (i + 1)).toNat = true) ∧ ∀ t, t < N → mem n l t = true := by
  unfold accB
  rw [Bool.and_eq_true, Bool.and_eq_true, Bool.and_eq_true, Bool.and_eq_true, decide_eq_true_iff, List.all_eq_true, List.all_eq_true, List.all_eq_true, and_assoc, and_assoc, and_assoc]
  constructor
  · rintro ⟨h1, h2, h3, h4, h5⟩
    refine ⟨h1, eq_of_beq h2, fun i hi => ?_, fun i hi => h4 i (List.mem_range.2 (by omega)), fun t ht => h5 t (List.mem_range.2 ht)⟩
    have := h3 i (List.mem_range.2 hi)
    simpa using this
  · rintro ⟨h1, h2, h3, h4, h5⟩
    refine ⟨h1, beq_iff_eq.2 h2, fun i hi => ?_, fun i hi => h4 i (by have := List.mem_range.1 hi; omega), fun t ht => h5 t (List.mem_range.1 ht)⟩
    have := h3 i (List.mem_range.1 hi)
    simpa using this
/-- The list as a function tt integers. -/
def lf (l : List Nat) (i : Nat) : Int := ((l.getD i 0 : Nat) : Int)
theorem lf_app {l r : List Nat} {i : Nat} (h : i < l.length) : lf l i = lf (l ++ r) i := by
  unfold lf
  rw [List.getD_eq_getElem?_getD, List.getD_eq_getElem?_getD, List.getElem?_append_left h]
theorem lf_last (l : List Nat) (k : Nat) : lf (l ++ [k]) l.length = (k : Int) := by
  unfold lf
  rw [List.getD_eq_getElem?_getD]
  simp
theorem mem_ofl {A : Nat → Bool} {N a : Nat} : mem (ofl A N).length (lf (ofl A N)) a = true ↔ a < N ∧ A a = true := by
  rw [mem_iff]
  constructor
  · rintro ⟨i, hi, e⟩
    have h := ofl_get hi
    have e' : (ofl A N).getD i 0 = a := by unfold lf at e; omega
    rw [e'] at h
    exact h
  · rintro ⟨h1, h2⟩
    obtain ⟨i, hi, e⟩ := ofl_ix h1 h2
    exact ⟨i, hi, by unfold lf; rw [e]⟩
theorem setB_ofl {A : Nat → Bool} {N : Nat} : setB N (ofl A N).length (lf (ofl A N)) = true := by
  unfold setB
  rw [decide_eq_true_iff]
  intro i hi
  have h := ofl_get hi
  refine ⟨⟨by unfold lf; omega, by unfold lf; omega⟩, fun h0 => ?_⟩
  have := ofl_lt (A := A) (k := N) (i := i - 1) (j := i) (by omega) hi
  unfold lf
  omega
theorem setB_at {N n : Nat} {f : Nat → Int} (h : setB N n f = true) {i : Nat} (hi : i < n) : ∃ a, a < N ∧ f i = (a : Nat) := by
  unfold setB at h
  rw [decide_eq_true_iff] at h
  have := (h i hi).1
  exact ⟨(f i).toNat, by omega, by omega⟩
/-- What comes off has at least so many threads. -/
theorem off_sz {R : Nat → Nat → Bool} {N n : Nat} {f : Nat → Int} (hs : setB N n f = true) (ho : offB R N n f = true) : sz R N (t0 R N) ≤ n := by
  obtain ⟨h0, hn, hc⟩ := offB_iff.1 ho
  obtain ⟨s, hs1, hs2⟩ := setB_at hs h0
  have hsub : ∀ a, up R N s a = true → mem n f a = true := fun a ha => by
    refine up_least hs1 (fun a => mem n f a = true) (mem_iff.2 ⟨0, h0, hs2⟩) (fun c a hmc haN hR => ?_) ha
    obtain ⟨i, hi, e⟩ := mem_iff.1 hmc
    cases hm : mem n f a
    · have := hc a haN hm i hi
      rw [e, Int.toNat_natCast, hR] at this
      cases this
    · rfl
  have h1 := (t0_least (R := R) hs1).1
  have key : ∀ i, i < sz R N s → ∃ j, j < n ∧ f j = (((ofl (up R N s) N).getD i 0 : Nat) : Int) := fun i hi => mem_iff.1 (hsub _ (ofl_get hi).2)
  have : sz R N s ≤ n := by
    refine pigeon n (sz R N s) (fun i => if h : i < sz R N s then (key i h).choose else 0) (fun i hi => ?_) fun i j hi hj e => ?_
    · simp only [dif_pos hi]
      exact (key i hi).choose_spec.1
    · simp only [dif_pos hi, dif_pos hj] at e
      have e1 := (key i hi).choose_spec.2
      have e2 := (key j hj).choose_spec.2
      rw [e] at e1
      rcases Nat.lt_trichotomy i j with c | c | c
      · have := ofl_lt c hj; omega
      · exact c
      · have := ofl_lt c hi; omega
  omega
theorem off_not {R : Nat → Nat → Bool} {N n : Nat} {f : Nat → Int} (hs : setB N n f = true) (hh : hgs R N = true) : offB R N n f = false := by
  cases ho : offB R N n f
  · rfl
  · have h1 := off_sz hs ho
    have h2 := (offB_iff.1 ho).2.1
    unfold hgs at hh
    rw [beq_iff_eq] at hh
    omega
theorem off_t0 {R : Nat → Nat → Bool} {N : Nat} (hN : 0 < N) (hh : hgs R N = false) : offB R N (ofl (up R N (t0 R N)) N).length (lf (ofl (up R N (t0 R N)) N)) = true := by
  have hl := ofl_len (up R N (t0 R N)) N
  have hne : ¬ sz R N (t0 R N) = N := fun e => by unfold hgs at hh; rw [beq_iff_eq.2 e] at hh; cases hh
  have hsz : (ofl (up R N (t0 R N)) N).length = sz R N (t0 R N) := rfl
  obtain ⟨i, hi, _⟩ := ofl_ix (t0_lt (R := R) hN) (up_self (R := R) (t0_lt (R := R) hN))
  refine offB_iff.2 ⟨Nat.lt_of_le_of_lt (Nat.zero_le i) hi, by omega, fun a ha hm i hi => ?_⟩
  have hg := ofl_get hi
  cases hR : R a (lf (ofl (up R N (t0 R N)) N) i).toNat
  · rfl
  · have : up R N (t0 R N) a = true := up_closed (t0_lt hN) hg.2 ha (by unfold lf at hR; rwa [Int.toNat_natCast] at hR)
    rw [mem_ofl.2 ⟨ha, this⟩] at hm
    cases hm
theorem acc_not {R : Nat → Nat → Bool} {N n : Nat} {l : Nat → Int} (hN : 0 < N) (hh : hgs R N = false) : accB R N n l = false := by
  cases ha : accB R N n l
  · rfl
  obtain ⟨h2, he, hr, hc, hm⟩ := accB_iff.1 ha
  have back : ∀ d i, i + d < n → up R N (t0 R N) (l (i + d)).toNat = true → up R N (t0 R N) (l i).toNat = true := by
    intro d
    induction d with
    | zero => intro i _ h; exact h
    | succ d ih =>
      intro i hi h
      refine ih i (by omega) ?_
      have hb := hr (i + d) (by omega)
      exact up_closed (t0_lt hN) h (by omega) (hc (i + d) (by omega))
  obtain ⟨k, hk, hke⟩ := mem_iff.1 (hm (t0 R N) (t0_lt hN))
  have hu : up R N (t0 R N) (l k).toNat = true := by rw [hke, Int.toNat_natCast]; exact up_self (t0_lt hN)
  have h0 : up R N (t0 R N) (l 0).toNat = true := back k 0 (by omega) (by rw [Nat.zero_add]; exact hu)
  have hall : ∀ i, i < n → up R N (t0 R N) (l i).toNat = true := fun i hi => back (n - 1 - i) i (by omega) (by rw [show i + (n - 1 - i) = n - 1 by omega, ← he]; exact h0)
  have : sz R N (t0 R N) = N := ofl_all.2 fun a ha => by
    obtain ⟨i, hi, e⟩ := mem_iff.1 (hm a ha)
    have := hall i hi
    rwa [e, Int.toNat_natCast] at this
  unfold hgs at hh
  rw [beq_iff_eq.2 this] at hh
  cases hh
/-- The walk behind t ways. -/
def wlk (R : Nat → Nat → Bool) (N : Nat) : Nat → List Nat
  | 0 => [0]
  | t + 1 => wlk R N t ++ wal R N ((t + 1) % N) t (far R N ((t + 1) % N) t).toNat
/-- A list that goes from 0 tt x. -/
structure Goes (R : Nat → Nat → Bool) (N : Nat) (l : List Nat) (x : Nat) : Prop where
  pos : 0 < l.length
  last : l.getD (l.length - 1) 0 = x
  head : l.getD 0 0 = 0
  chain : ∀ i, i + 1 < l.length → R (l.getD i 0) (l.getD (i + 1) 0) = true
  lt : ∀ i, i < l.length → l.getD i 0 < N
theorem Goes.snoc {R : Nat → Nat → Bool} {N x y : Nat} {l : List Nat} (h : Goes R N l x) (hy : y < N) (hR : R x y = true) : Goes R N (l ++ [y]) y := by
  have hp := h.pos
  have hl : (l ++ [y]).length = l.length + 1 := by simp
  refine ⟨by omega, by rw [hl, at_app, if_neg (by omega), if_pos (by omega)], by rw [at_app, if_pos hp]; exact h.head, fun i hi => ?_, fun i hi => ?_⟩
  · rw [at_app, at_app, if_pos (by omega)]
    by_cases e : i + 1 < l.length
    · rw [if_pos e]; exact h.chain i e
    · rw [if_neg e, if_pos (by omega)]
      have := h.last
      rw [show l.length - 1 = i by omega] at this
      rw [this]; exact hR
  · rw [at_app]
    by_cases e : i < l.length
    · rw [if_pos e]; exact h.lt i e
    · rw [if_neg e, if_pos (by omega)]; exact hy
theorem Goes.way {R : Nat → Nat → Bool} {N x tt : Nat} {l : List Nat} (h : Goes R N l x) (hto : tt < N) (hx : x < N) (h0 : 0 ≤ far R N tt x) : ∀ k : Nat, (k : Int) ≤ far R N tt x → Goes R N (l ++ wal R N tt x k) (wat R N tt x k) := by
  intro k
  induction k with
  | zero => intro _; show Goes R N (l ++ []) x; rw [List.append_nil]; exact h
  | succ k ih =>
    intro hk
    obtain ⟨w1, w2⟩ := wat_all hto hx h0 k (by omega)
    obtain ⟨n1, n2, n3, n4⟩ := nxt_all (R := R) (a := wat R N tt x k) hto (by omega)
    rw [wal_succ, ← List.append_assoc]
    exact (ih (by omega)).snoc n1 n3
theorem wat_end {R : Nat → Nat → Bool} {N tt a : Nat} (hto : tt < N) (ha : a < N) (h0 : 0 ≤ far R N tt a) : wat R N tt a (far R N tt a).toNat = tt := by
  have h := (wat_all hto ha h0 (far R N tt a).toNat (by omega)).1
  exact (far_all (R := R) hto).2.2.2.2.2.1 _ (by omega)
theorem wlk_go {R : Nat → Nat → Bool} {N : Nat} (hN : 0 < N) (hh : hgs R N = true) : ∀ t, t ≤ N → Goes R N (wlk R N t) (t % N) := by
  intro t
  induction t with
  | zero => intro _; rw [Nat.zero_mod]; exact ⟨by simp [wlk], rfl, rfl, fun i hi => absurd hi (by simp [wlk]), fun i hi => by simp [wlk] at hi; rw [hi]; exact hN⟩
  | succ t ih =>
    intro ht
    have h := ih (by omega)
    rw [Nat.mod_eq_of_lt (show t < N by omega)] at h
    have hto : (t + 1) % N < N := Nat.mod_lt _ hN
    have h0 : 0 ≤ far R N ((t + 1) % N) t := up_iff.1 ((hgs_iff hN).1 hh _ t hto (by omega))
    have := h.way hto (by omega) h0 (far R N ((t + 1) % N) t).toNat (by omega)
    rwa [wat_end hto (by omega) h0] at this
theorem wlk_pre {R : Nat → Nat → Bool} {N : Nat} : ∀ d t i, i < (wlk R N t).length → (wlk R N (t + d)).getD i 0 = (wlk R N t).getD i 0 ∧ i < (wlk R N (t + d)).length := by
  intro d
  induction d with
  | zero => intro t i hi; exact ⟨rfl, hi⟩
  | succ d ih =>
    intro t i hi
    obtain ⟨h1, h2⟩ := ih t i hi
    show (wlk R N (t + d) ++ _).getD i 0 = _ ∧ i < (wlk R N (t + d) ++ _).length
    rw [List.getD_eq_getElem?_getD, List.getElem?_append_left h2, ← List.getD_eq_getElem?_getD, List.length_append]
    exact ⟨h1, by omega⟩
theorem wlk_len {R : Nat → Nat → Bool} {N : Nat} (hN : 0 < N) : ∀ t, t ≤ N → (wlk R N t).length ≤ 1 + t * N := by
  intro t
  induction t with
  | zero => intro _; simp [wlk]
  | succ t ih =>
    intro ht
    have h := ih (by omega)
    have hf := (far_all (R := R) (Nat.mod_lt (t + 1) hN)).1 t
    show (wlk R N t ++ _).length ≤ _
    rw [List.length_append, wal_len, Nat.succ_mul]
    omega
theorem acc_walk {R : Nat → Nat → Bool} {N : Nat} (hN : 2 ≤ N) (hh : hgs R N = true) : accB R N (wlk R N N).length (lf (wlk R N N)) = true := by
  have h := wlk_go (by omega) hh N (Nat.le_refl _)
  rw [Nat.mod_self] at h
  have hat : ∀ t, t < N → ∃ i, i < (wlk R N N).length ∧ (wlk R N N).getD i 0 = t := fun t ht => by
    have g := wlk_go (by omega) hh t (by omega)
    rw [Nat.mod_eq_of_lt ht] at g
    obtain ⟨p1, p2⟩ := wlk_pre (R := R) (N := N) (N - t) t ((wlk R N t).length - 1) (by have := g.pos; omega)
    rw [show t + (N - t) = N by omega] at p1 p2
    exact ⟨_, p2, by rw [p1]; exact g.last⟩
  have h2 : 2 ≤ (wlk R N N).length := by
    obtain ⟨i, hi, e⟩ := hat 1 (by omega)
    rcases Nat.eq_zero_or_pos i with c | c
    · rw [c, h.head] at e; omega
    · omega
  refine accB_iff.2 ⟨h2, ?_, fun i hi => ?_, fun i hi => ?_, fun t ht => ?_⟩
  · unfold lf; rw [h.head, h.last]
  · have := h.lt i hi; unfold lf; omega
  · unfold lf; rw [Int.toNat_natCast, Int.toNat_natCast]; exact h.chain i hi
  · obtain ⟨i, hi, e⟩ := hat t ht
    exact mem_iff.2 ⟨i, hi, by unfold lf; rw [e]⟩
end Go.Proofs.Ytgmcbdnfgdmmaaa
