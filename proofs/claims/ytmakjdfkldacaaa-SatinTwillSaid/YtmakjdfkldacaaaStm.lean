/- Satins, twills and runs as arithmetic: no program. -/
import Derived.Below
namespace Go.Proofs.Ytmakjdfkldacaaa

set_option maxRecDepth 100000
set_option linter.unusedVariables false
set_option linter.unusedSimpArgs false

/-- How many numbers below n have p. -/
def cnt (p : Nat → Bool) : Nat → Nat
  | 0 => 0
  | n + 1 => cnt p n + if p n = true then 1 else 0
theorem cnt_s (p : Nat → Bool) (n : Nat) : cnt p (n + 1) = cnt p n + if p n = true then 1 else 0 := rfl
theorem cnt_yes {p : Nat → Bool} {n : Nat} (h : p n = true) : cnt p (n + 1) = cnt p n + 1 := by rw [cnt_s, if_pos h]
theorem cnt_no {p : Nat → Bool} {n : Nat} (h : p n = false) : cnt p (n + 1) = cnt p n := by rw [cnt_s, if_neg (by rw [h]; decide)]; rfl
theorem cnt_le (p : Nat → Bool) (n : Nat) : cnt p n ≤ n := by
  induction n with
  | zero => exact Nat.le_refl 0
  | succ n ih => rw [cnt_s]; split <;> omega
theorem cnt_imp {p q : Nat → Bool} {n : Nat} (h : ∀ j, j < n → p j = true → q j = true) : cnt p n ≤ cnt q n := by
  induction n with
  | zero => exact Nat.le_refl 0
  | succ n ih =>
    have := ih fun j hj => h j (by omega)
    rw [cnt_s, cnt_s]
    by_cases e : p n = true
    · rw [if_pos e, if_pos (h n (by omega) e)]; omega
    · rw [if_neg e]; omega
theorem cnt_congr {p q : Nat → Bool} {n : Nat} (h : ∀ j, j < n → p j = q j) : cnt p n = cnt q n :=
  Nat.le_antisymm (cnt_imp fun j hj e => by rw [← h j hj]; exact e) (cnt_imp fun j hj e => by rw [h j hj]; exact e)
theorem cnt_mono (p : Nat → Bool) {m n : Nat} (h : m ≤ n) : cnt p m ≤ cnt p n := by
  induction n with
  | zero => rw [Nat.le_zero.1 h]; exact Nat.le_refl _
  | succ n ih =>
    by_cases e : m = n + 1
    · rw [e]; exact Nat.le_refl _
    · have := ih (by omega)
      rw [cnt_s]; omega
theorem cnt_none {p : Nat → Bool} {n : Nat} (h : ∀ j, j < n → p j = false) : cnt p n = 0 := by
  induction n with
  | zero => rfl
  | succ n ih => rw [cnt_no (h n (by omega)), ih fun j hj => h j (by omega)]
theorem cnt_lt (i n : Nat) : cnt (fun j => decide (j < i)) n = min i n := by
  induction n with
  | zero => simp [cnt]
  | succ n ih =>
    rw [cnt_s, ih]
    by_cases e : n < i
    · simp [e]; omega
    · simp [e]; omega
theorem cnt_seg (a b n : Nat) (h : a ≤ b) : cnt (fun j => decide (a ≤ j ∧ j < b)) n = min b n - min a n := by
  induction n with
  | zero => simp [cnt]
  | succ n ih =>
    rw [cnt_s, ih]
    by_cases e : a ≤ n ∧ n < b
    · simp [e]; omega
    · rw [if_neg (by simpa using e)]; omega
theorem cnt_add {p q r : Nat → Bool} {n : Nat} (h : ∀ j, j < n → (if r j = true then 1 else 0) = (if p j = true then 1 else 0) + if q j = true then 1 else 0) : cnt r n = cnt p n + cnt q n := by
  induction n with
  | zero => rfl
  | succ n ih =>
    have := ih fun j hj => h j (by omega)
    have := h n (by omega)
    rw [cnt_s, cnt_s, cnt_s]; omega
theorem cnt_pos {p : Nat → Bool} {n j : Nat} (hj : j < n) (h : p j = true) : 1 ≤ cnt p n := by
  have := cnt_mono p (show j + 1 ≤ n by omega)
  rw [cnt_yes h] at this
  omega

/-- m is a move of n. -/
def mv (n m : Int) : Bool := decide (5 ≤ n ∧ n ≤ 64 ∧ 2 ≤ m ∧ m ≤ n - 2) && (Nat.gcd n.toNat m.toNat == 1)
theorem mv_nat {n m : Int} (h : mv n m = true) : ∃ a b : Nat, n = a ∧ m = b ∧ 5 ≤ a ∧ a ≤ 64 ∧ 2 ≤ b ∧ b + 2 ≤ a ∧ Nat.gcd a b = 1 := by
  unfold mv at h
  rw [Bool.and_eq_true] at h
  obtain ⟨h1, h2, h3, h4⟩ := of_decide_eq_true h.1
  exact ⟨n.toNat, m.toNat, by omega, by omega, by omega, by omega, by omega, by omega, by simpa using h.2⟩

/-- The cell i of a row begins a run. -/
def bgn (g : Nat → Bool) (i : Nat) : Bool := decide (i = 0) || (g i != g (i - 1))
/-- How many runs begin among the first n cells. -/
def cn (g : Nat → Bool) (n : Nat) : Nat := cnt (bgn g) n
/-- How many of the first n cells are of the run number k. -/
def rl (g : Nat → Bool) (n k : Nat) : Nat := cnt (fun j => decide (cn g (j + 1) = k + 1)) n
theorem cn_step (g : Nat → Bool) (n : Nat) : cn g (n + 1) = cn g n ∨ cn g (n + 1) = cn g n + 1 := by
  unfold cn; rw [cnt_s]; split <;> omega
theorem cn_one (g : Nat → Bool) : cn g 1 = 1 := rfl
theorem cn_mono (g : Nat → Bool) {m n : Nat} (h : m ≤ n) : cn g m ≤ cn g n := cnt_mono _ h
theorem cn_pos (g : Nat → Bool) (n : Nat) : 1 ≤ cn g (n + 1) := cn_mono g (show 1 ≤ n + 1 by omega)
theorem rl_s (g : Nat → Bool) (n k : Nat) : rl g (n + 1) k = rl g n k + if cn g (n + 1) = k + 1 then 1 else 0 := by
  unfold rl; rw [cnt_s]; simp
theorem rl_new (g : Nat → Bool) (n k : Nat) (h : cn g n ≤ k) : rl g n k = 0 := cnt_none fun j hj => decide_eq_false (by have := cn_mono g (show j + 1 ≤ n by omega); omega)
theorem rl_le (g : Nat → Bool) (n k : Nat) : rl g n k ≤ n := cnt_le _ _
/-- Whether a cell is up is told by the runs. -/
theorem cn_par (g : Nat → Bool) (h0 : g 0 = true) (i : Nat) : g i = decide (cn g (i + 1) % 2 = 1) := by
  induction i with
  | zero => rw [h0, cn_one]; rfl
  | succ i ih =>
    by_cases e : g (i + 1) = g i
    · have : cn g (i + 1 + 1) = cn g (i + 1) := cnt_no (by unfold bgn; simp [e])
      rw [this, e, ih]
    · have h1 : cn g (i + 1 + 1) = cn g (i + 1) + 1 := cnt_yes (by unfold bgn; simp [e])
      rw [h1]
      have h2 : g (i + 1) = !(g i) := by cases ha : g (i + 1) <;> cases hb : g i <;> simp_all
      rw [h2, ih]
      rcases Nat.mod_two_eq_zero_or_one (cn g (i + 1)) with h3 | h3
      · have h4 : (cn g (i + 1) + 1) % 2 = 1 := by omega
        rw [h3, h4]; rfl
      · have h4 : (cn g (i + 1) + 1) % 2 = 0 := by omega
        rw [h3, h4]; rfl
/-- Each run has a cell. -/
theorem cn_hit (g : Nat → Bool) {n k : Nat} (h : k < cn g n) : ∃ j, j < n ∧ cn g (j + 1) = k + 1 := by
  induction n with
  | zero => exact absurd h (by simp [cn, cnt])
  | succ n ih =>
    by_cases e : k < cn g n
    · obtain ⟨j, h1, h2⟩ := ih e
      exact ⟨j, by omega, h2⟩
    · exact ⟨n, by omega, by have := cn_step g n; omega⟩
theorem rl_pos (g : Nat → Bool) {n k : Nat} (h : k < cn g n) : 1 ≤ rl g n k := by
  obtain ⟨j, h1, h2⟩ := cn_hit g h
  exact cnt_pos h1 (decide_eq_true h2)

/-- The sum of the first k runs. -/
def sm (f : Nat → Int) : Nat → Nat
  | 0 => 0
  | k + 1 => sm f k + (f k).toNat
theorem sm_mono (f : Nat → Int) {j k : Nat} (h : j ≤ k) : sm f j ≤ sm f k := by
  induction k with
  | zero => rw [Nat.le_zero.1 h]; exact Nat.le_refl _
  | succ k ih =>
    by_cases e : j = k + 1
    · rw [e]; exact Nat.le_refl _
    · have := ih (by omega); simp only [sm]; omega
theorem sm_ge {f : Nat → Int} {k : Nat} (h : ∀ j, j < k → 1 ≤ f j) : k ≤ sm f k := by
  induction k with
  | zero => exact Nat.le_refl 0
  | succ k ih =>
    have := ih fun j hj => h j (by omega)
    have := h k (by omega)
    simp only [sm]; omega
theorem sm_congr {f g : Nat → Int} {k : Nat} (h : ∀ j, j < k → f j = g j) : sm f k = sm g k := by
  induction k with
  | zero => rfl
  | succ k ih => simp only [sm]; rw [ih fun j hj => h j (by omega), h k (by omega)]
/-- The list is runs. -/
def vr (f : Nat → Int) (N : Nat) : Bool := decide (2 ≤ N ∧ N % 2 = 0 ∧ (∀ k, k < N → 1 ≤ f k) ∧ sm f N ≤ 64)
structure VR (f : Nat → Int) (N : Nat) : Prop where
  n2 : 2 ≤ N
  ev : N % 2 = 0
  ge : ∀ k, k < N → 1 ≤ f k
  le : sm f N ≤ 64
theorem vr_iff {f : Nat → Int} {N : Nat} : vr f N = true ↔ VR f N := by
  unfold vr
  rw [decide_eq_true_iff]
  exact ⟨fun ⟨a, b, c, d⟩ => ⟨a, b, c, d⟩, fun ⟨a, b, c, d⟩ => ⟨a, b, c, d⟩⟩
theorem VR.nle {f : Nat → Int} {N : Nat} (h : VR f N) : N ≤ 64 := Nat.le_trans (sm_ge h.ge) h.le
theorem VR.sge {f : Nat → Int} {N : Nat} (h : VR f N) : 2 ≤ sm f N := Nat.le_trans h.n2 (sm_ge h.ge)
theorem VR.one {f : Nat → Int} {N k : Nat} (h : VR f N) (hk : k < N) : f k ≤ 64 - sm f k := by
  have h1 := sm_mono f (show k + 1 ≤ N by omega)
  have h2 := h.le
  have h3 := h.ge k hk
  simp only [sm] at h1; omega
theorem VR.congr {f g : Nat → Int} {N : Nat} (h : VR f N) (e : ∀ j, j < N → f j = g j) : VR g N := ⟨h.n2, h.ev, fun k hk => by rw [← e k hk]; exact h.ge k hk, by rw [← sm_congr e]; exact h.le⟩
/-- The row of some runs. -/
def rowf (f : Nat → Int) (N i : Nat) : Bool := decide (cnt (fun k => decide (sm f (k + 1) ≤ i)) N % 2 = 0)
theorem rowf_at {f : Nat → Int} {N k i : Nat} (hk : k < N) (h0 : sm f k ≤ i) (h1 : i < sm f (k + 1)) : rowf f N i = decide (k % 2 = 0) := by
  unfold rowf
  have e : cnt (fun j => decide (sm f (j + 1) ≤ i)) N = k := by
    rw [cnt_congr (q := fun j => decide (j < k)) fun j hj => ?_, cnt_lt]
    · omega
    · by_cases e : j < k
      · have := sm_mono f (show j + 1 ≤ k by omega)
        rw [decide_eq_true (by omega), decide_eq_true e]
      · have := sm_mono f (show k + 1 ≤ j + 1 by omega)
        rw [decide_eq_false (by omega), decide_eq_false e]
  rw [e]
theorem sm_find {f : Nat → Int} {N i : Nat} (h : i < sm f N) : ∃ k, k < N ∧ sm f k ≤ i ∧ i < sm f (k + 1) := by
  induction N with
  | zero => exact absurd h (by simp [sm])
  | succ N ih =>
    by_cases e : i < sm f N
    · obtain ⟨k, h1, h2⟩ := ih e
      exact ⟨k, by omega, h2⟩
    · exact ⟨N, by omega, by omega, h⟩
theorem rowf_congr {f g : Nat → Int} {N i : Nat} (e : ∀ j, j < N → f j = g j) : rowf f N i = rowf g N i := by
  unfold rowf
  rw [cnt_congr fun j hj => by rw [sm_congr (fun t ht => e t (show t < N by omega))]]
theorem rowf_zero {f : Nat → Int} {N : Nat} (h : VR f N) : rowf f N 0 = true := by
  have h2 := h.n2
  have h3 := h.ge 0 (by omega)
  have e := rowf_at (f := f) (N := N) (k := 0) (i := 0) (by omega) (Nat.le_refl _) (by simp only [sm]; omega)
  rw [e]; rfl
theorem rowf_last {f : Nat → Int} {N : Nat} (h : VR f N) : rowf f N (sm f N - 1) = false := by
  have h2 := h.n2
  have h3 := h.ge (N - 1) (by omega)
  have h4 : sm f N = sm f (N - 1) + (f (N - 1)).toNat := by rw [show N = N - 1 + 1 by omega]; rfl
  rw [rowf_at (k := N - 1) (by omega) (by omega) (by rw [show N - 1 + 1 = N by omega]; omega)]
  have := h.ev
  rw [decide_eq_false (by omega)]
/-- The runs of the row of runs: each cell is of its run. -/
theorem cn_rowf {f : Nat → Int} {N : Nat} (h : VR f N) : ∀ i k, k < N → sm f k ≤ i → i < sm f (k + 1) → cn (rowf f N) (i + 1) = k + 1 := by
  intro i
  induction i with
  | zero =>
    intro k hk h0 h1
    have : k = 0 := by
      by_cases e : k = 0
      · exact e
      · have := sm_ge (f := f) (k := k) fun j hj => h.ge j (by omega)
        omega
    subst this; rfl
  | succ i ih =>
    intro k hk h0 h1
    by_cases e : sm f k ≤ i
    · have h2 := ih k hk e (by omega)
      have : cn (rowf f N) (i + 1 + 1) = cn (rowf f N) (i + 1) := cnt_no (by
        unfold bgn
        rw [show i + 1 - 1 = i from rfl, rowf_at hk h0 h1, rowf_at hk e (by omega)]; simp)
      rw [this, h2]
    · have k0 : k ≠ 0 := fun e' => by subst e'; simp [sm] at e
      obtain ⟨q, rfl⟩ : ∃ q, k = q + 1 := ⟨k - 1, by omega⟩
      have hq := h.ge q (by omega)
      have hs : sm f (q + 1) = sm f q + (f q).toNat := rfl
      have h2 := ih q (by omega) (by omega) (by omega)
      have : cn (rowf f N) (i + 1 + 1) = cn (rowf f N) (i + 1) + 1 := cnt_yes (by
        unfold bgn
        rw [show i + 1 - 1 = i from rfl, rowf_at hk h0 h1, rowf_at (k := q) (by omega) (by omega) (by omega)]
        rcases Nat.mod_two_eq_zero_or_one q with e1 | e1 <;> simp [e1] <;> omega)
      rw [this, h2]
theorem cn_all {f : Nat → Int} {N : Nat} (h : VR f N) : cn (rowf f N) (sm f N) = N := by
  have h2 := h.n2
  have h3 := h.ge (N - 1) (by omega)
  have h4 : sm f N = sm f (N - 1) + (f (N - 1)).toNat := by rw [show N = N - 1 + 1 by omega]; rfl
  have := cn_rowf h (sm f N - 1) (N - 1) (by omega) (by omega) (by rw [show N - 1 + 1 = N by omega]; omega)
  rwa [show sm f N - 1 + 1 = sm f N by omega, show N - 1 + 1 = N by omega] at this
theorem rl_rowf {f : Nat → Int} {N k : Nat} (h : VR f N) (hk : k < N) : (rl (rowf f N) (sm f N) k : Int) = f k := by
  have hs : sm f (k + 1) = sm f k + (f k).toNat := rfl
  have hl := sm_mono f (show k + 1 ≤ N by omega)
  have hg := h.ge k hk
  unfold rl
  rw [cnt_congr (q := fun j => decide (sm f k ≤ j ∧ j < sm f (k + 1))) fun j hj => ?_, cnt_seg _ _ _ (by omega)]
  · omega
  · obtain ⟨q, h1, h2, h3⟩ := sm_find hj
    rw [cn_rowf h j q h1 h2 h3]
    by_cases e : q = k
    · subst e; simp [h2, h3]
    · rw [decide_eq_false (by omega), decide_eq_false]
      rintro ⟨h4, h5⟩
      rcases Nat.lt_or_gt_of_ne e with e1 | e1
      · have := sm_mono f (show q + 1 ≤ k by omega); omega
      · have := sm_mono f (show k + 1 ≤ q by omega); omega
/-- The runs of a row, as a list. -/
def rlI (g : Nat → Bool) (n : Nat) (k : Nat) : Int := (rl g n k : Nat)
theorem sm_rl (g : Nat → Bool) (n k : Nat) : sm (rlI g n) k = cnt (fun j => decide (cn g (j + 1) ≤ k)) n := by
  induction k with
  | zero => exact (cnt_none fun j hj => decide_eq_false (by have := cn_pos g j; omega)).symm
  | succ k ih =>
    show sm (rlI g n) k + (rlI g n k).toNat = _
    rw [ih, show (rlI g n k).toNat = rl g n k from Int.toNat_natCast _]
    unfold rl
    refine (cnt_add fun j hj => ?_).symm
    by_cases e1 : cn g (j + 1) ≤ k
    · have e2 : ¬ cn g (j + 1) = k + 1 := by omega
      have e3 : cn g (j + 1) ≤ k + 1 := by omega
      simp [e1, e2, e3]
    · by_cases e2 : cn g (j + 1) = k + 1
      · simp [e2]
      · have e3 : ¬ cn g (j + 1) ≤ k + 1 := by omega
        simp [e1, e2, e3]
theorem sm_rl_all (g : Nat → Bool) (n : Nat) : sm (rlI g n) (cn g n) = n := by
  rw [sm_rl, cnt_congr (q := fun j => decide (j < n)) fun j hj => ?_, cnt_lt]
  · omega
  · rw [decide_eq_true (cn_mono g (show j + 1 ≤ n by omega)), decide_eq_true hj]
/-- A row that has runs. -/
def rok (g : Nat → Bool) (n : Nat) : Bool := decide (2 ≤ n) && g 0 && !g (n - 1)
theorem vr_rl {g : Nat → Bool} {n : Nat} (hn : 2 ≤ n) (hn2 : n ≤ 64) (h0 : g 0 = true) (h1 : g (n - 1) = false) : VR (rlI g n) (cn g n) := by
  have hp := cn_par g h0 (n - 1)
  rw [show n - 1 + 1 = n by omega, h1] at hp
  have hpos := cn_pos g (n - 1)
  rw [show n - 1 + 1 = n by omega] at hpos
  have hev : cn g n % 2 = 0 := by
    have := of_decide_eq_false hp.symm
    omega
  exact ⟨by omega, hev, fun k hk => by have := rl_pos g hk; unfold rlI; omega, by rw [sm_rl_all]; exact hn2⟩
theorem rowf_rl {g : Nat → Bool} {n i : Nat} (hi : i < n) (h0 : g 0 = true) : rowf (rlI g n) (cn g n) i = g i := by
  have hc := cn_pos g i
  have hm := cn_mono g (show i + 1 ≤ n by omega)
  rw [rowf_at (k := cn g (i + 1) - 1) (by omega), cn_par g h0 i]
  · congr 1
    apply propext
    omega
  · rw [sm_rl]
    refine Nat.le_trans (cnt_imp (q := fun j => decide (j < i)) fun j hj e => ?_) (by rw [cnt_lt]; omega)
    have e := of_decide_eq_true e
    refine decide_eq_true ?_
    by_cases e2 : j < i
    · exact e2
    · have := cn_mono g (show i + 1 ≤ j + 1 by omega); omega
  · rw [sm_rl, show cn g (i + 1) - 1 + 1 = cn g (i + 1) by omega]
    have := cnt_imp (p := fun j => decide (j < i + 1)) (q := fun j => decide (cn g (j + 1) ≤ cn g (i + 1))) (n := n) fun j hj e => decide_eq_true (cn_mono g (by have := of_decide_eq_true e; omega))
    rw [cnt_lt] at this
    omega
end Go.Proofs.Ytmakjdfkldacaaa
