/- Merged: Lpa Lpb. -/
import Derived.Test.YtgmcbdnfgdmmaaaBfs
import Derived.Test.YtgmcbdnfgdmmaaaHom

/- The parts of a cloth: arithmetic alone. -/
namespace Go.Proofs.Ytgmcbdnfgdmmaaa
set_option maxRecDepth 100000
set_option linter.unusedVariables false
set_option linter.unusedSimpArgs false

theorem up_trans {R : Nat → Nat → Bool} {N a b c : Nat} (ha : a < N) (h1 : up R N a b = true) (h2 : up R N b c = true) : up R N a c = true := up_sub ha h1 c (up_lt (up_lt ha h1) h2) h2
/-- Two threads hold one another. -/
def cls (R : Nat → Nat → Bool) (N a b : Nat) : Bool := up R N a b && up R N b a
theorem cls_iff {R : Nat → Nat → Bool} {N a b : Nat} : cls R N a b = true ↔ up R N a b = true ∧ up R N b a = true := by unfold cls; rw [Bool.and_eq_true]
theorem cls_self {R : Nat → Nat → Bool} {N a : Nat} (h : a < N) : cls R N a a = true := cls_iff.2 ⟨up_self h, up_self h⟩
theorem cls_symm {R : Nat → Nat → Bool} {N a b : Nat} (h : cls R N a b = true) : cls R N b a = true := cls_iff.2 ⟨(cls_iff.1 h).2, (cls_iff.1 h).1⟩
theorem cls_trans {R : Nat → Nat → Bool} {N a b c : Nat} (ha : a < N) (h1 : cls R N a b = true) (h2 : cls R N b c = true) : cls R N a c = true := by
  obtain ⟨x1, x2⟩ := cls_iff.1 h1
  obtain ⟨y1, y2⟩ := cls_iff.1 h2
  have hb := up_lt ha x1
  have hc := up_lt hb y1
  exact cls_iff.2 ⟨up_trans ha x1 y1, up_trans hc y2 x2⟩
theorem cls_lt {R : Nat → Nat → Bool} {N a b : Nat} (ha : a < N) (h : cls R N a b = true) : b < N := up_lt ha (cls_iff.1 h).1
/-- None of those that are left holds a thread but those that it holds, too. -/
def fre (R : Nat → Nat → Bool) (N : Nat) (l : List Nat) (a : Nat) : Bool := l.all fun b => !up R N a b || up R N b a
/-- The first such thread. -/
def lhd (R : Nat → Nat → Bool) (N : Nat) (l : List Nat) : Nat := (l.find? (fre R N l)).getD 0
/-- What is left behind k parts. -/
def lef (R : Nat → Nat → Bool) (N : Nat) : Nat → List Nat
  | 0 => List.range N
  | k + 1 => (lef R N k).filter fun b => !cls R N (lhd R N (lef R N k)) b
/-- The first thread of part k. -/
def pfi (R : Nat → Nat → Bool) (N k : Nat) : Nat := lhd R N (lef R N k)
/-- Part k. -/
def prt (R : Nat → Nat → Bool) (N k : Nat) : List Nat := (lef R N k).filter (cls R N (pfi R N k))
/-- A thread is in none of the first k parts. -/
def out (R : Nat → Nat → Bool) (N k a : Nat) : Bool := (List.range k).all fun i => !cls R N (pfi R N i) a
theorem out_zero (R : Nat → Nat → Bool) (N a : Nat) : out R N 0 a = true := rfl
theorem out_succ {R : Nat → Nat → Bool} {N k a : Nat} : out R N (k + 1) a = (out R N k a && !cls R N (pfi R N k) a) := by
  unfold out
  rw [List.range_succ, List.all_append]
  simp
theorem out_iff {R : Nat → Nat → Bool} {N k a : Nat} : out R N k a = true ↔ ∀ i, i < k → cls R N (pfi R N i) a = false := by
  unfold out
  simp
theorem out_down {R : Nat → Nat → Bool} {N i k a : Nat} (h : i ≤ k) (ho : out R N k a = true) : out R N i a = true := out_iff.2 fun j hj => out_iff.1 ho j (by omega)
theorem lef_eq (R : Nat → Nat → Bool) (N : Nat) : ∀ k, lef R N k = ofl (out R N k) N := by
  intro k
  induction k with
  | zero => 
    unfold lef ofl
    rw [List.filter_eq_self.2]
    intro a _; rfl
  | succ k ih =>
    show (lef R N k).filter (fun b => !cls R N (pfi R N k) b) = _
    rw [ih]
    unfold ofl
    rw [List.filter_filter]
    refine List.filter_congr fun a _ => ?_
    rw [out_succ, Bool.and_comm]
theorem lef_mem {R : Nat → Nat → Bool} {N k a : Nat} : a ∈ lef R N k ↔ a < N ∧ out R N k a = true := by rw [lef_eq, ofl_mem]
theorem fre_iff {R : Nat → Nat → Bool} {N a : Nat} {l : List Nat} : fre R N l a = true ↔ ∀ b, b ∈ l → up R N a b = true → up R N b a = true := by
  unfold fre
  rw [List.all_eq_true]
  constructor
  · intro h b hb hu
    have := h b hb
    rw [hu] at this
    simpa using this
  · intro h b hb
    cases hu : up R N a b
    · rfl
    · rw [h b hb hu]; rfl
theorem len_sub {l : List Nat} {P Q : Nat → Bool} (h : ∀ a, a ∈ l → P a = true → Q a = true) {x : Nat} (hx : x ∈ l) (hp : P x = false) (hq : Q x = true) : (l.filter P).length < (l.filter Q).length := by
  induction l with
  | nil => cases hx
  | cons a l ih =>
    have hle : (l.filter P).length ≤ (l.filter Q).length := by
      clear ih hx
      induction l with
      | nil => simp
      | cons b l ih2 =>
        have := ih2 fun c hc => h c (by rcases List.mem_cons.1 hc with e | e <;> simp [e])
        have hb := h b (by simp)
        simp only [List.filter_cons]
        cases hpb : P b <;> cases hqb : Q b <;> simp_all <;> omega
    rcases List.mem_cons.1 hx with e | e
    · subst e
      simp only [List.filter_cons, hp, hq, if_true]
      simp
      omega
    · have := ih (fun c hc => h c (by simp [hc])) e
      have ha := h a (by simp)
      simp only [List.filter_cons]
      cases hpb : P a <;> cases hqb : Q a <;> simp_all <;> omega
theorem fre_some {R : Nat → Nat → Bool} {N : Nat} : ∀ (n : Nat) (l : List Nat) (a : Nat), (∀ b, b ∈ l → b < N) → a ∈ l → (l.filter (up R N a)).length ≤ n → ∃ b, b ∈ l ∧ fre R N l b = true := by
  intro n
  induction n with
  | zero =>
    intro l a hl ha hn
    have : a ∈ l.filter (up R N a) := List.mem_filter.2 ⟨ha, up_self (hl a ha)⟩
    have e : l.filter (up R N a) = [] := List.length_eq_zero_iff.1 (by omega)
    rw [e] at this
    cases this
  | succ n ih =>
    intro l a hl ha hn
    cases hf : fre R N l a
    · have : ¬ ∀ b, b ∈ l → up R N a b = true → up R N b a = true := fun h => by rw [fre_iff.2 h] at hf; cases hf
      obtain ⟨b, hb⟩ := Classical.not_forall.1 this
      obtain ⟨hb1, hb2⟩ := Classical.not_imp.1 hb
      obtain ⟨hb3, hb4⟩ := Classical.not_imp.1 hb2
      refine ih l b hl hb1 ?_
      have := len_sub (l := l) (P := up R N b) (Q := up R N a) (fun c hc hu => up_trans (hl a ha) hb3 hu) ha (by simpa using hb4) (up_self (hl a ha))
      omega
    · exact ⟨a, ha, hf⟩
theorem lhd_all {R : Nat → Nat → Bool} {N : Nat} {l : List Nat} (hl : ∀ b, b ∈ l → b < N) (h : l ≠ []) : lhd R N l ∈ l ∧ fre R N l (lhd R N l) = true := by
  obtain ⟨a, ha⟩ := List.exists_mem_of_ne_nil l h
  obtain ⟨b, hb, hf⟩ := fre_some (l.filter (up R N a)).length l a hl ha (Nat.le_refl _)
  unfold lhd
  cases hq : l.find? (fre R N l) with
  | none => have := List.find?_eq_none.1 hq b hb; exact absurd hf this
  | some c => exact ⟨List.mem_of_find?_eq_some hq, List.find?_some hq⟩
/-- The first free one by its place. -/
theorem lhd_at {R : Nat → Nat → Bool} {N i : Nat} {l : List Nat} (hi : i < l.length) (hf : fre R N l (l.getD i 0) = true) (h0 : ∀ j, j < i → fre R N l (l.getD j 0) = false) : lhd R N l = l.getD i 0 := by
  unfold lhd
  have hg : ∀ j (h : j < l.length), l.getD j 0 = l[j] := fun j h => by rw [List.getD_eq_getElem?_getD, List.getElem?_eq_getElem h]; rfl
  rw [List.find?_eq_some_iff_getElem.2 ⟨hf, i, hi, (hg i hi).symm, fun j hj => by have := h0 j hj; rw [hg j (by omega)] at this; simp [this]⟩]
  rfl
theorem lef_lt {R : Nat → Nat → Bool} {N k a : Nat} (h : a ∈ lef R N k) : a < N := (lef_mem.1 h).1
theorem pfi_in {R : Nat → Nat → Bool} {N k : Nat} (h : lef R N k ≠ []) : pfi R N k ∈ lef R N k ∧ fre R N (lef R N k) (pfi R N k) = true := lhd_all (fun _ h => lef_lt h) h
theorem pfi_lt {R : Nat → Nat → Bool} {N k : Nat} (h : lef R N k ≠ []) : pfi R N k < N := lef_lt (pfi_in h).1
/-- The parts are left whole. -/
theorem out_cls {R : Nat → Nat → Bool} {N k a b : Nat} (hk : ∀ i, i < k → pfi R N i < N) (ha : a < N) (h : out R N k a = true) (hc : cls R N a b = true) : out R N k b = true := by
  rw [out_iff] at h ⊢
  intro i hi
  cases hb : cls R N (pfi R N i) b
  · rfl
  · have := cls_trans (hk i hi) hb (cls_symm hc)
    rw [h i hi] at this; cases this
theorem lef_ne {R : Nat → Nat → Bool} {N i k : Nat} (h : lef R N k ≠ []) (hi : i ≤ k) : lef R N i ≠ [] := by
  obtain ⟨a, ha⟩ := List.exists_mem_of_ne_nil _ h
  obtain ⟨h1, h2⟩ := lef_mem.1 ha
  intro e
  have : a ∈ lef R N i := lef_mem.2 ⟨h1, out_down hi h2⟩
  rw [e] at this; cases this
/-- A part by the numbers of its threads. -/
theorem prt_eq {R : Nat → Nat → Bool} {N k : Nat} (h : lef R N k ≠ []) : prt R N k = ofl (cls R N (pfi R N k)) N := by
  unfold prt
  rw [lef_eq]
  unfold ofl
  rw [List.filter_filter]
  refine List.filter_congr fun a ha => ?_
  rw [List.mem_range] at ha
  cases hc : cls R N (pfi R N k) a
  · rfl
  · rw [out_cls (fun i hi => pfi_lt (lef_ne h (by omega))) (pfi_lt h) (lef_mem.1 (pfi_in h).1).2 hc]; rfl
theorem prt_pos {R : Nat → Nat → Bool} {N k : Nat} (h : lef R N k ≠ []) : 0 < (prt R N k).length := by
  have : pfi R N k ∈ prt R N k := List.mem_filter.2 ⟨(pfi_in h).1, cls_self (pfi_lt h)⟩
  exact List.length_pos_of_mem this
theorem lef_len {R : Nat → Nat → Bool} {N k : Nat} : (lef R N (k + 1)).length + (prt R N k).length = (lef R N k).length := by
  show ((lef R N k).filter fun b => !cls R N (pfi R N k) b).length + ((lef R N k).filter (cls R N (pfi R N k))).length = _
  generalize lef R N k = l
  induction l with
  | nil => rfl
  | cons a l ih =>
    simp only [List.filter_cons]
    cases h : cls R N (pfi R N k) a <;> simp <;> omega
theorem lef_le (R : Nat → Nat → Bool) (N : Nat) : ∀ k, lef R N k ≠ [] → (lef R N k).length + k ≤ N := by
  intro k
  induction k with
  | zero => intro _; show (List.range N).length + 0 ≤ N; simp
  | succ k ih =>
    intro h
    have h1 := lef_ne h (Nat.le_succ k)
    have h2 := ih h1
    have h3 := lef_len (R := R) (N := N) (k := k)
    have h4 := prt_pos h1
    omega
theorem lef_end (R : Nat → Nat → Bool) (N : Nat) : lef R N N = [] := by
  by_cases h : lef R N N = []
  · exact h
  · have h1 := lef_le R N N h
    have h2 : 0 < (lef R N N).length := List.length_pos_iff.2 h
    omega
/-- How many parts there are. -/
def pno (R : Nat → Nat → Bool) (N : Nat) : Nat := ((List.range (N + 1)).find? fun k => (lef R N k).isEmpty).getD 0
theorem pno_all (R : Nat → Nat → Bool) (N : Nat) : pno R N ≤ N ∧ lef R N (pno R N) = [] ∧ ∀ k, k < pno R N → lef R N k ≠ [] := by
  unfold pno
  cases hq : (List.range (N + 1)).find? fun k => (lef R N k).isEmpty with
  | none => have := List.find?_eq_none.1 hq N (by simp); rw [lef_end] at this; simp at this
  | some c =>
    obtain ⟨h1, i, hi, h2, h3⟩ := List.find?_eq_some_iff_getElem.1 hq
    rw [List.getElem_range] at h2
    subst h2
    have hi' : i < N + 1 := by rw [List.length_range] at hi; exact hi
    refine ⟨by show i ≤ N; omega, List.isEmpty_iff.1 h1, fun k hk => ?_⟩
    have := h3 k hk
    rw [List.getElem_range] at this
    intro e
    rw [e] at this; simp at this
theorem pno_is {R : Nat → Nat → Bool} {N k : Nat} (h1 : lef R N k = []) (h2 : ∀ i, i < k → lef R N i ≠ []) : pno R N = k := by
  obtain ⟨p1, p2, p3⟩ := pno_all R N
  rcases Nat.lt_trichotomy (pno R N) k with h | h | h
  · exact absurd p2 (h2 _ h)
  · exact h
  · exact absurd h1 (p3 _ h)
theorem pno_ne {R : Nat → Nat → Bool} {N k : Nat} (h : k < pno R N) : lef R N k ≠ [] := (pno_all R N).2.2 k h
theorem pno_pos {R : Nat → Nat → Bool} {N : Nat} (h : 0 < N) : 0 < pno R N := by
  rcases Nat.eq_zero_or_pos (pno R N) with e | e
  · have := (pno_all R N).2.1
    rw [e] at this
    have h2 : (lef R N 0).length = N := List.length_range
    rw [this] at h2
    simp at h2
    omega
  · exact e
/-- The part of a thread. -/
def pix (R : Nat → Nat → Bool) (N a : Nat) : Nat := ((List.range N).find? fun i => cls R N (pfi R N i) a).getD 0
theorem pix_some {R : Nat → Nat → Bool} {N a : Nat} (ha : a < N) : ∃ i, i < pno R N ∧ cls R N (pfi R N i) a = true := by
  obtain ⟨p1, p2, p3⟩ := pno_all R N
  have h : ¬ a ∈ lef R N (pno R N) := by rw [p2]; simp
  rw [lef_mem] at h
  have h2 : ¬ out R N (pno R N) a = true := fun e => h ⟨ha, e⟩
  rw [out_iff] at h2
  obtain ⟨i, hi⟩ := Classical.not_forall.1 h2
  obtain ⟨h3, h4⟩ := Classical.not_imp.1 hi
  exact ⟨i, h3, by simpa using h4⟩
theorem prt_one {R : Nat → Nat → Bool} {N a i j : Nat} (hi : i < pno R N) (hj : j < pno R N) (h1 : cls R N (pfi R N i) a = true) (h2 : cls R N (pfi R N j) a = true) : i = j := by
  have key : ∀ i j, i < j → j < pno R N → cls R N (pfi R N i) a = true → cls R N (pfi R N j) a = true → False := fun i j hij hj h1 h2 => by
    have hn := pno_ne (R := R) (N := N) hj
    have h3 := (lef_mem.1 (pfi_in hn).1).2
    have h4 := out_iff.1 h3 i hij
    have h5 := cls_trans (pfi_lt (pno_ne (R := R) (N := N) (by omega))) h1 (cls_symm h2)
    rw [h4] at h5; cases h5
  rcases Nat.lt_trichotomy i j with h | h | h
  · exact (key i j h hj h1 h2).elim
  · exact h
  · exact (key j i h hi h2 h1).elim
theorem pix_all {R : Nat → Nat → Bool} {N a : Nat} (ha : a < N) : pix R N a < pno R N ∧ cls R N (pfi R N (pix R N a)) a = true := by
  obtain ⟨i, h1, h2⟩ := pix_some (R := R) ha
  have hN := (pno_all R N).1
  unfold pix
  cases hq : (List.range N).find? fun i => cls R N (pfi R N i) a with
  | none => have := List.find?_eq_none.1 hq i (by rw [List.mem_range]; omega); exact absurd h2 this
  | some c =>
    obtain ⟨h3, j, hj, h4, h5⟩ := List.find?_eq_some_iff_getElem.1 hq
    rw [List.getElem_range] at h4
    subst h4
    refine ⟨?_, h3⟩
    show j < pno R N
    rcases Nat.lt_or_ge i j with h | h
    · have := h5 i h
      rw [List.getElem_range] at this
      rw [h2] at this; cases this
    · omega
theorem pix_is {R : Nat → Nat → Bool} {N a i : Nat} (ha : a < N) (hi : i < pno R N) (h : cls R N (pfi R N i) a = true) : pix R N a = i := prt_one (pix_all ha).1 hi (pix_all ha).2 h
theorem mem_prt {R : Nat → Nat → Bool} {N a i : Nat} (hi : i < pno R N) : a ∈ prt R N i ↔ a < N ∧ cls R N (pfi R N i) a = true := by rw [prt_eq (pno_ne hi), ofl_mem]
/-- What has been listed behind k parts: those whose part comes before. -/
theorem out_pix {R : Nat → Nat → Bool} {N a k : Nat} (ha : a < N) (hk : k ≤ pno R N) : out R N k a = decide (k ≤ pix R N a) := by
  obtain ⟨h1, h2⟩ := pix_all (R := R) ha
  rw [Bool.eq_iff_iff, out_iff, decide_eq_true_iff]
  constructor
  · intro h
    rcases Nat.lt_or_ge (pix R N a) k with h3 | h3
    · rw [h _ h3] at h2; cases h2
    · exact h3
  · intro h i hi
    cases hc : cls R N (pfi R N i) a
    · rfl
    · have := pix_is ha (by omega) hc
      omega
/-- A thread is held by none of a later part. -/
theorem pix_le {R : Nat → Nat → Bool} {N a b : Nat} (ha : a < N) (h : up R N a b = true) : pix R N b ≤ pix R N a := by
  have hb := up_lt ha h
  obtain ⟨a1, a2⟩ := pix_all (R := R) ha
  rcases Nat.lt_or_ge (pix R N a) (pix R N b) with hlt | hge
  · have hn := pno_ne (R := R) (N := N) a1
    have hin : b ∈ lef R N (pix R N a) := lef_mem.2 ⟨hb, by rw [out_pix hb (by omega)]; exact decide_eq_true (by omega)⟩
    have h1 := up_trans (pfi_lt hn) (cls_iff.1 a2).1 h
    have h2 := fre_iff.1 (pfi_in hn).2 b hin h1
    have := pix_is hb a1 (cls_iff.2 ⟨h1, h2⟩)
    omega
  · exact hge
theorem pix_same {R : Nat → Nat → Bool} {N a b : Nat} (ha : a < N) (hb : b < N) : cls R N a b = decide (pix R N a = pix R N b) := by
  obtain ⟨a1, a2⟩ := pix_all (R := R) ha
  obtain ⟨b1, b2⟩ := pix_all (R := R) hb
  rw [Bool.eq_iff_iff, decide_eq_true_iff]
  constructor
  · intro h
    exact (pix_is hb a1 (cls_trans (pfi_lt (pno_ne a1)) a2 h)).symm
  · intro h
    rw [h] at a2
    exact cls_trans ha (cls_symm a2) b2
/-- The cloth hangs together exactly if there is one part. -/
theorem pno_hangs {R : Nat → Nat → Bool} {N : Nat} (h : 0 < N) : hgs R N = decide (pno R N = 1) := by
  rw [Bool.eq_iff_iff, hgs_iff h, decide_eq_true_iff]
  constructor
  · intro ha
    refine pno_is ?_ fun i hi => ?_
    · refine List.eq_nil_iff_forall_not_mem.2 fun a hm => ?_
      obtain ⟨h1, h2⟩ := lef_mem.1 hm
      have h3 := out_iff.1 h2 0 (by omega)
      have h4 := pfi_lt (pno_ne (R := R) (pno_pos h))
      rw [cls_iff.2 ⟨ha _ _ h4 h1, ha _ _ h1 h4⟩] at h3
      cases h3
    · rw [show i = 0 by omega]; exact pno_ne (pno_pos h)
  · intro h1 t a ht ha
    have h2 := (pix_all (R := R) ht).1
    have h3 := (pix_all (R := R) ha).1
    have h4 := pix_same (R := R) ht ha
    rw [decide_eq_true (by omega)] at h4
    exact (cls_iff.1 h4).1
end Go.Proofs.Ytgmcbdnfgdmmaaa

/- What is said of the parts: arithmetic. -/
namespace Go.Proofs.Ytgmcbdnfgdmmaaa
open Go.RowKit
set_option maxRecDepth 100000
set_option linter.unusedVariables false
set_option linter.unusedSimpArgs false

/-- The threads of the first n parts. -/
def topS (R : Nat → Nat → Bool) (N n a : Nat) : Bool := !out R N n a
/-- The first parts come off, unless there are none or all. -/
theorem top_off {R : Nat → Nat → Bool} {N n : Nat} (h0 : 0 < n) (hn : n < pno R N) : offP R N (topS R N n) := by
  have hne := pno_ne (R := R) (N := N) hn
  have hn0 := pno_ne (R := R) (N := N) (show 0 < pno R N by omega)
  refine ⟨⟨pfi R N 0, pfi_lt hn0, ?_⟩, ⟨pfi R N n, pfi_lt hne, ?_⟩, fun a b ha hb p q => ?_⟩
  · unfold topS
    rw [out_pix (pfi_lt hn0) (by omega), pix_is (pfi_lt hn0) (by omega) (cls_self (pfi_lt hn0)), decide_eq_false (by omega)]; rfl
  · unfold topS
    rw [(lef_mem.1 (pfi_in hne).1).2]; rfl
  · unfold topS at p q
    rw [out_pix ha (by omega)] at p
    rw [out_pix hb (by omega)] at q
    have p' : n ≤ pix R N a := by simpa using p
    have q' : pix R N b < n := by simpa using q
    cases hR : R a b
    · rfl
    · have := pix_le hb (up_closed hb (up_self hb) ha hR)
      omega
theorem top_none (R : Nat → Nat → Bool) (N : Nat) : ofl (topS R N 0) N = [] := by
  unfold ofl topS
  rw [List.filter_eq_nil_iff]
  intro a _; rw [out_zero]; simp
/-- What comes off is made of whole parts. -/
theorem off_whole {R : Nat → Nat → Bool} {N : Nat} {P : Nat → Bool} (h : offP R N P) {a b : Nat} (ha : a < N) (hc : cls R N a b = true) : P a = P b := by
  have key : ∀ a b, a < N → up R N a b = true → P a = true → P b = true := fun a b ha hu hp =>
    (up_least ha (fun x => x < N ∧ P x = true) ⟨ha, hp⟩ (fun c x hc hx hR => ⟨hx, by
      cases hpx : P x
      · have := h.2.2 x c hx hc.1 hpx hc.2
        rw [hR] at this; cases this
      · rfl⟩) hu).2
  have hb := cls_lt ha hc
  obtain ⟨h1, h2⟩ := cls_iff.1 hc
  cases hpa : P a
  · cases hpb : P b
    · rfl
    · rw [key b a hb h2 hpb] at hpa; cases hpa
  · exact (key a b ha h1 hpa).symm
/-- The set that comes off first is a part. -/
theorem t0_part {R : Nat → Nat → Bool} {N : Nat} (h : 0 < N) : ofl (up R N (t0 R N)) N = prt R N (pix R N (t0 R N)) := by
  have ht := t0_lt (R := R) h
  have hx := pix_all (R := R) ht
  rw [prt_eq (pno_ne hx.1)]
  refine ofl_congr fun a ha => ?_
  have h1 : cls R N (pfi R N (pix R N (t0 R N))) a = cls R N (t0 R N) a := by
    rw [Bool.eq_iff_iff]
    exact ⟨fun k => cls_trans ht (cls_symm hx.2) k, fun k => cls_trans (pfi_lt (pno_ne hx.1)) hx.2 k⟩
  rw [h1]
  rw [Bool.eq_iff_iff, cls_iff]
  refine ⟨fun k => ⟨k, ?_⟩, fun k => k.1⟩
  rw [t0_same h k _ ht]
  exact up_self ht
/-- A part, taken alone, hangs together. -/
theorem sub_up {R R' : Nat → Nat → Bool} {N n : Nat} {σ : Nat → Nat} (hs : ∀ i, i < n → σ i < N) (hP : ∀ i j, i < n → j < n → cls R N (σ i) (σ j) = true) (hall : ∀ i x, i < n → x < N → cls R N (σ i) x = true → ∃ j, j < n ∧ σ j = x)
    (hR : ∀ i j, i < n → j < n → R' i j = R (σ i) (σ j)) (hinj : ∀ i j, i < n → j < n → σ i = σ j → i = j) {t a : Nat} (ht : t < n) (ha : a < n) : up R' n t a = true := by
  have key := up_least (R := R) (hs t ht) (fun x => up R N (σ t) x = true ∧ (cls R N (σ t) x = true → ∃ i, i < n ∧ σ i = x ∧ up R' n t i = true)) ⟨up_self (hs t ht), fun _ => ⟨t, ht, rfl, up_self ht⟩⟩
    (fun c x hc hx hR1 => by
      have hcN := up_lt (hs t ht) hc.1
      have h1 := up_closed (hs t ht) hc.1 hx hR1
      refine ⟨h1, fun hcl => ?_⟩
      have h2 : up R N c x = true := up_closed hcN (up_self hcN) hx hR1
      have h3 : cls R N (σ t) c = true := cls_iff.2 ⟨hc.1, up_trans hcN h2 (cls_iff.1 hcl).2⟩
      obtain ⟨i, hi, e1, e2⟩ := hc.2 h3
      obtain ⟨j, hj, e3⟩ := hall t x ht hx hcl
      refine ⟨j, hj, e3, up_closed ht e2 hj ?_⟩
      rw [hR j i hj hi, e1, e3]
      exact hR1) (cls_iff.1 (hP t a ht ha)).1
  obtain ⟨i, hi, e1, e2⟩ := key.2 (hP t a ht ha)
  rw [← hinj i a hi ha e1]
  exact e2
/-- A part with two threads has two of which one lies over the other one. -/
theorem prt_two {R : Nat → Nat → Bool} {N a b : Nat} (ha : a < N) (hne : a ≠ b) (hc : cls R N a b = true) : ∃ c, c < N ∧ cls R N a c = true ∧ R b c = true := by
  obtain ⟨h1, h2⟩ := cls_iff.1 hc
  have hf := far_all (R := R) ha
  have h0 := up_iff.1 h1
  have h3 : 0 < far R N a b := by
    rcases Int.lt_or_eq_of_le h0 with k | k
    · exact k
    · exact absurd (hf.2.2.2.2.2.1 b k.symm) (fun e => hne e.symm)
  obtain ⟨c, c1, c2, c3⟩ := hf.2.2.2.2.2.2 b h3
  refine ⟨c, c1, cls_iff.2 ⟨up_iff.2 (by omega), ?_⟩, c2⟩
  exact up_trans c1 (up_closed c1 (up_self c1) (up_lt ha h1) c2) h2
/-- Threads that are moved keep what they hold. -/
theorem up_map {R R2 : Nat → Nat → Bool} {N : Nat} {π : Nat → Nat} (hp : ∀ a, a < N → π a < N) (h : ∀ a b, a < N → b < N → R a b = true → R2 (π a) (π b) = true) {a b : Nat} (ha : a < N) (hu : up R N a b = true) : up R2 N (π a) (π b) = true :=
  (up_least ha (fun x => x < N ∧ up R2 N (π a) (π x) = true) ⟨ha, up_self (hp a ha)⟩ (fun c x hc hx hR => ⟨hx, up_closed (hp a ha) hc.2 (hp x hx) (h x c hx hc.1 hR)⟩) hu).2
/-- What lies over is exchanged: what is held is, too. -/
theorem up_back {R R2 : Nat → Nat → Bool} {N : Nat} (h : ∀ a b, a < N → b < N → R a b = true → R2 b a = true) {a b : Nat} (ha : a < N) (hu : up R N a b = true) : up R2 N b a = true :=
  (up_least ha (fun x => x < N ∧ up R2 N x a = true) ⟨ha, up_self ha⟩ (fun c x hc hx hR => ⟨hx, up_trans hx (up_closed hx (up_self hx) hc.1 (h x c hx hc.1 hR)) hc.2⟩) hu).2
theorem pno_le {R R2 : Nat → Nat → Bool} {N : Nat} (π : Nat → Nat) (hp : ∀ a, a < N → π a < N) (h : ∀ a b, a < N → b < N → cls R2 N (π a) (π b) = true → cls R N a b = true) : pno R N ≤ pno R2 N := by
  refine pigeon (pno R2 N) (pno R N) (fun i => pix R2 N (π (pfi R N i))) (fun i hi => (pix_all (hp _ (pfi_lt (pno_ne hi)))).1) fun i j hi hj e => ?_
  have hi' := pfi_lt (pno_ne (R := R) (N := N) hi)
  have hj' := pfi_lt (pno_ne (R := R) (N := N) hj)
  have h1 : cls R2 N (π (pfi R N i)) (π (pfi R N j)) = true := by rw [pix_same (hp _ hi') (hp _ hj')]; exact decide_eq_true e
  exact prt_one hi hj (h _ _ hi' hj' h1) (cls_self hj')
/-- The back: the same parts. -/
theorem cls_back {R R2 : Nat → Nat → Bool} {N : Nat} (h : ∀ a b, a < N → b < N → R2 a b = R b a) {a b : Nat} (ha : a < N) (hb : b < N) : cls R2 N a b = cls R N a b := by
  have k1 : ∀ a b, a < N → cls R N a b = true → cls R2 N a b = true := fun a b ha hc => cls_iff.2 ⟨up_back (R := R) (fun x y hx hy hR => by rw [h y x hy hx]; exact hR) (up_lt ha (cls_iff.1 hc).1) (cls_iff.1 hc).2, up_back (R := R) (fun x y hx hy hR => by rw [h y x hy hx]; exact hR) ha (cls_iff.1 hc).1⟩
  have k2 : ∀ a b, a < N → cls R2 N a b = true → cls R N a b = true := fun a b ha hc => cls_iff.2 ⟨up_back (R := R2) (fun x y hx hy hR => by rw [h x y hx hy] at hR; exact hR) (up_lt ha (cls_iff.1 hc).1) (cls_iff.1 hc).2, up_back (R := R2) (fun x y hx hy hR => by rw [h x y hx hy] at hR; exact hR) ha (cls_iff.1 hc).1⟩
  rw [Bool.eq_iff_iff]
  exact ⟨k2 a b ha, k1 a b ha⟩
theorem back_no {R R2 : Nat → Nat → Bool} {N : Nat} (h : ∀ a b, a < N → b < N → R2 a b = R b a) : pno R2 N = pno R N :=
  Nat.le_antisymm (pno_le id (fun _ h => h) fun a b ha hb hc => by rw [cls_back h ha hb]; exact hc) (pno_le id (fun _ h => h) fun a b ha hb hc => by rw [← cls_back h ha hb]; exact hc)
theorem back_prt {R R2 : Nat → Nat → Bool} {N i : Nat} (h : ∀ a b, a < N → b < N → R2 a b = R b a) (hi : i < pno R N) : prt R2 N (pix R2 N (pfi R N i)) = prt R N i := by
  have hf := pfi_lt (pno_ne (R := R) (N := N) hi)
  obtain ⟨h1, h2⟩ := pix_all (R := R2) hf
  rw [prt_eq (pno_ne h1), prt_eq (pno_ne hi)]
  refine ofl_congr fun a ha => ?_
  rw [Bool.eq_iff_iff]
  constructor
  · intro k
    have := cls_trans hf (cls_symm h2) k
    rwa [cls_back h hf ha] at this
  · intro k
    rw [← cls_back h hf ha] at k
    exact cls_trans (pfi_lt (pno_ne h1)) h2 k
/-- Threads that are moved to and fro: as many parts. -/
theorem moved_no {R R2 : Nat → Nat → Bool} {N : Nat} (π ρ : Nat → Nat) (hp : ∀ a, a < N → π a < N) (hr : ∀ a, a < N → ρ a < N) (h1 : ∀ a, a < N → ρ (π a) = a) (h2 : ∀ a, a < N → π (ρ a) = a) (h : ∀ a b, a < N → b < N → R2 (π a) (π b) = R a b) : pno R2 N = pno R N := by
  have h' : ∀ a b, a < N → b < N → R (ρ a) (ρ b) = R2 a b := fun a b ha hb => by rw [← h _ _ (hr a ha) (hr b hb), h2 a ha, h2 b hb]
  refine Nat.le_antisymm (pno_le ρ hr fun a b ha hb hc => ?_) (pno_le π hp fun a b ha hb hc => ?_)
  · obtain ⟨c1, c2⟩ := cls_iff.1 hc
    have d1 := up_map (R := R) (R2 := R2) hp (fun x y hx hy k => by rw [h x y hx hy]; exact k) (hr a ha) c1
    have d2 := up_map (R := R) (R2 := R2) hp (fun x y hx hy k => by rw [h x y hx hy]; exact k) (hr b hb) c2
    rw [h2 a ha, h2 b hb] at d1 d2
    exact cls_iff.2 ⟨d1, d2⟩
  · obtain ⟨c1, c2⟩ := cls_iff.1 hc
    have d1 := up_map (R := R2) (R2 := R) hr (fun x y hx hy k => by rw [h' x y hx hy]; exact k) (hp a ha) c1
    have d2 := up_map (R := R2) (R2 := R) hr (fun x y hx hy k => by rw [h' x y hx hy]; exact k) (hp b hb) c2
    rw [h1 a ha, h1 b hb] at d1 d2
    exact cls_iff.2 ⟨d1, d2⟩
end Go.Proofs.Ytgmcbdnfgdmmaaa
