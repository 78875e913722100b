/- Layer 13, arithmetic alone: rows of cells as lists, units and places, joined grids. -/
import Derived.Test.YtngjcekjboedjaaGb
namespace Go.Proofs.Ytngjcekjboedjaa
open Go.RowKit
set_option maxRecDepth 100000
set_option linter.unusedVariables false
set_option linter.unusedSimpArgs false

/-- The first n cells as a list. -/
def bl (n : Nat) (f : Nat → Bool) : List Bool := (List.range n).map f
section
variable {n : Nat} {f g : Nat → Bool}
theorem bl_len : (bl n f).length = n := by simp [bl]
theorem bl_get {i : Nat} (h : i < n) : (bl n f).getD i false = f i := by simp [bl, h]
theorem bl_eq : bl n f = bl n g ↔ ∀ i, i < n → f i = g i := by
  unfold bl
  rw [List.map_inj_left]
  simp
theorem bl_beq : (bl n f == bl n g) = decide (∀ i, i < n → f i = g i) := by
  rw [Bool.eq_iff_iff, beq_iff_eq, bl_eq, decide_eq_true_iff]
end
/-- The first place before n at which Q holds, or n. -/
def fst (Q : Nat → Bool) : Nat → Nat
  | 0 => 0
  | n + 1 => if fst Q n < n then fst Q n else if Q n then n else n + 1
section
variable {Q : Nat → Bool} {n : Nat}
theorem fst_le : ∀ n, fst Q n ≤ n
  | 0 => Nat.le_refl _
  | n + 1 => by
    have := fst_le n
    unfold fst
    split
    · omega
    · split <;> omega
theorem fst_spec : ∀ n, (∀ j, j < fst Q n → Q j = false) ∧ (fst Q n < n → Q (fst Q n) = true)
  | 0 => ⟨fun j h => by simp [fst] at h, fun h => by simp [fst] at h⟩
  | n + 1 => by
    obtain ⟨h1, h2⟩ := fst_spec n
    have h3 := fst_le (Q := Q) n
    unfold fst
    by_cases ha : fst Q n < n
    · rw [if_pos ha]; exact ⟨h1, fun _ => h2 ha⟩
    · have e : fst Q n = n := by omega
      rw [if_neg ha]
      cases hb : Q n
      · rw [if_neg (by decide)]
        refine ⟨fun j hj => ?_, fun h => by omega⟩
        by_cases h4 : j = n
        · rw [h4]; exact hb
        · exact h1 j (by omega)
      · rw [if_pos rfl]
        exact ⟨fun j hj => h1 j (by omega), fun _ => hb⟩
theorem fst_uniq {r : Nat} (hr : r ≤ n) (h1 : ∀ j, j < r → Q j = false) (h2 : r < n → Q r = true) : fst Q n = r := by
  obtain ⟨k1, k2⟩ := fst_spec (Q := Q) n
  have k3 := fst_le (Q := Q) n
  rcases Nat.lt_trichotomy (fst Q n) r with h | h | h
  · have a := k2 (by omega)
    rw [h1 _ h] at a; cases a
  · exact h
  · have a := k1 r h
    rw [h2 (by omega)] at a; cases a
theorem fst_congr {P : Nat → Bool} (h : ∀ j, j < n → P j = Q j) : fst P n = fst Q n := by
  have k3 := fst_le (Q := Q) n
  exact fst_uniq k3 (fun j hj => by rw [h j (by omega)]; exact (fst_spec n).1 j hj) (fun hl => by rw [h _ hl]; exact (fst_spec n).2 hl)
end
/-- The different ones of the first k, in the order of their first places. -/
def us (P : Nat → List Bool) : Nat → List (List Bool)
  | 0 => []
  | k + 1 => if fst (fun i => (us P k).getD i [] == P k) (us P k).length < (us P k).length then us P k else us P k ++ [P k]
/-- Which of them the one at the place k is. -/
def ua (P : Nat → List Bool) (k : Nat) : Nat := fst (fun i => (us P k).getD i [] == P k) (us P k).length
section
variable {P : Nat → List Bool} {k m : Nat}
theorem us_old (h : ua P k < (us P k).length) : us P (k + 1) = us P k := by rw [us]; exact if_pos h
theorem us_new (h : ¬ ua P k < (us P k).length) : us P (k + 1) = us P k ++ [P k] := by rw [us]; exact if_neg h
theorem ua_le : ua P k ≤ (us P k).length := fst_le _
theorem us_step : us P (k + 1) = us P k ∧ ua P k < (us P k).length ∨ us P (k + 1) = us P k ++ [P k] ∧ ua P k = (us P k).length := by
  have := ua_le (P := P) (k := k)
  by_cases h : ua P k < (us P k).length
  · exact .inl ⟨us_old h, h⟩
  · exact .inr ⟨us_new h, by omega⟩
theorem us_le : ∀ k, (us P k).length ≤ k
  | 0 => Nat.le_refl _
  | k + 1 => by
    have := us_le k
    rcases us_step (P := P) (k := k) with ⟨e, _⟩ | ⟨e, _⟩ <;> rw [e]
    · omega
    · simp; omega
theorem us_pre : ∀ m, k ≤ m → ∃ r, us P m = us P k ++ r
  | 0, h => ⟨[], by rw [show k = 0 by omega]; rfl⟩
  | m + 1, h => by
    by_cases e : k = m + 1
    · exact ⟨[], by rw [e, List.append_nil]⟩
    · obtain ⟨r, hr⟩ := us_pre m (by omega)
      rcases us_step (P := P) (k := m) with ⟨e, _⟩ | ⟨e, _⟩
      · exact ⟨r, by rw [e, hr]⟩
      · exact ⟨r ++ [P m], by rw [e, hr, List.append_assoc]⟩
theorem us_mono (h : k ≤ m) : (us P k).length ≤ (us P m).length := by
  obtain ⟨r, hr⟩ := us_pre (P := P) m h
  rw [hr, List.length_append]; omega
theorem us_keep (h : k ≤ m) {i : Nat} (hi : i < (us P k).length) : (us P m).getD i [] = (us P k).getD i [] := by
  obtain ⟨r, hr⟩ := us_pre (P := P) m h
  rw [hr, List.getD_eq_getElem?_getD, List.getElem?_append_left hi, ← List.getD_eq_getElem?_getD]
theorem ua_lt1 : ua P k < (us P (k + 1)).length := by
  rcases us_step (P := P) (k := k) with ⟨e, h⟩ | ⟨e, h⟩ <;> rw [e]
  · exact h
  · simp; omega
theorem ua_get1 : (us P (k + 1)).getD (ua P k) [] = P k := by
  rcases us_step (P := P) (k := k) with ⟨e, h⟩ | ⟨e, h⟩ <;> rw [e]
  · exact eq_of_beq ((fst_spec (Q := fun i => (us P k).getD i [] == P k) _).2 h)
  · rw [h, List.getD_eq_getElem?_getD, List.getElem?_append_right (Nat.le_refl _)]; simp
theorem ua_lt (h : k < m) : ua P k < (us P m).length := Nat.lt_of_lt_of_le ua_lt1 (us_mono (P := P) (show k + 1 ≤ m from h))
theorem ua_get (h : k < m) : (us P m).getD (ua P k) [] = P k := by rw [us_keep (show k + 1 ≤ m from h) ua_lt1, ua_get1]
theorem us_diff : ∀ m i j, i < j → j < (us P m).length → (us P m).getD i [] ≠ (us P m).getD j []
  | 0, i, j, h, hj => by simp [us] at hj
  | m + 1, i, j, h, hj => by
    rcases us_step (P := P) (k := m) with ⟨e, h1⟩ | ⟨e, h1⟩
    · rw [e] at hj ⊢; exact us_diff m i j h hj
    · rw [e, List.length_append, List.length_singleton] at hj
      by_cases h2 : j < (us P m).length
      · rw [us_keep (show m ≤ m + 1 by omega) h2, us_keep (show m ≤ m + 1 by omega) (show i < (us P m).length by omega)]
        exact us_diff m i j h h2
      · have h3 : j = (us P m).length := by omega
        have h4 : (us P (m + 1)).getD j [] = P m := by rw [e, h3, List.getD_eq_getElem?_getD, List.getElem?_append_right (Nat.le_refl _)]; simp
        rw [h4, us_keep (show m ≤ m + 1 by omega) (show i < (us P m).length by omega)]
        have h5 := (fst_spec (Q := fun i => (us P m).getD i [] == P m) (us P m).length).1 i (by unfold ua at h1; omega)
        simpa using h5
theorem us_has : ∀ m i, i < (us P m).length → ∃ k, k < m ∧ (us P m).getD i [] = P k
  | 0, i, h => by simp [us] at h
  | m + 1, i, hi => by
    rcases us_step (P := P) (k := m) with ⟨e, h1⟩ | ⟨e, h1⟩
    · rw [e] at hi ⊢
      obtain ⟨k, hk, h⟩ := us_has m i hi
      exact ⟨k, by omega, h⟩
    · by_cases h2 : i < (us P m).length
      · obtain ⟨k, hk, h⟩ := us_has m i h2
        exact ⟨k, by omega, by rw [us_keep (show m ≤ m + 1 by omega) h2, h]⟩
      · rw [e, List.length_append, List.length_singleton] at hi
        have h3 : i = (us P m).length := by omega
        exact ⟨m, by omega, by rw [e, h3, List.getD_eq_getElem?_getD, List.getElem?_append_right (Nat.le_refl _)]; simp⟩
theorem us_len : ∀ m i, i < (us P m).length → ∀ {N}, (∀ k, (P k).length = N) → ((us P m).getD i []).length = N := fun m i hi N h => by
  obtain ⟨k, _, e⟩ := us_has m i hi
  rw [e, h]
theorem us_congr {Q : Nat → List Bool} : ∀ {m}, (∀ k, k < m → P k = Q k) → us P m = us Q m
  | 0, _ => rfl
  | m + 1, h => by rw [us, us, us_congr (fun k hk => h k (by omega)), h m (by omega)]
theorem ua_congr {Q : Nat → List Bool} (h : ∀ j, j ≤ k → P j = Q j) : ua P k = ua Q k := by
  unfold ua; rw [us_congr (m := k) (fun j hj => h j (by omega)), h k (Nat.le_refl _)]
end
/-- The first error of m, or 0. -/
def fe (z : Nat → Int) : Nat → Int
  | 0 => 0
  | m + 1 => if fe z m ≠ 0 then fe z m else z m
section
variable {z : Nat → Int} {m : Nat}
theorem fe_zero : fe z m = 0 ↔ ∀ i, i < m → z i = 0 := by
  induction m with
  | zero => exact ⟨fun _ i h => by omega, fun _ => rfl⟩
  | succ m ih =>
    unfold fe
    by_cases h : fe z m = 0
    · rw [if_neg (by simpa using h)]
      refine ⟨fun hz i hi => ?_, fun hz => hz m (by omega)⟩
      by_cases e : i = m
      · rw [e]; exact hz
      · exact ih.1 h i (by omega)
    · rw [if_pos h]
      exact ⟨fun hz => absurd hz h, fun hz => absurd (ih.2 fun i hi => hz i (by omega)) h⟩
theorem fe_first {k : Nat} (hk : k < m) (h0 : ∀ i, i < k → z i = 0) (hne : z k ≠ 0) : fe z m = z k := by
  induction m with
  | zero => omega
  | succ m ih =>
    unfold fe
    by_cases e : k = m
    · subst e
      rw [if_neg (by simpa using fe_zero.2 h0)]
    · have := ih (by omega)
      rw [if_pos (by rw [this]; exact hne), this]
end
/-- The cells of a joined grid: units of u by v, w of them in a row, at the places p. -/
def joF (u v w : Nat) (F : Nat → Nat → Bool) (p : Nat → Nat) (k : Nat) : Bool :=
  F (p (k / (w * u) / v * w + k % (w * u) / u)) (k / (w * u) % v * u + k % (w * u) % u)
theorem jo_at {u v w x y : Nat} {F : Nat → Nat → Bool} {p : Nat → Nat} (hx : x < w * u) : joF u v w F p (y * (w * u) + x) = F (p (y / v * w + x / u)) (y % v * u + x % u) := by
  unfold joF; rw [(co y hx).1, (co y hx).2]
/-- The cells of the part number k of a grid with W columns, for units of w by h, nx of them in a row. -/
def ptF (W w h nx : Nat) (g : Nat → Bool) (k : Nat) : Nat → Bool := fPart W w (k % nx * w) (k / nx * h) g
theorem pt_at {W w h nx k x y : Nat} {g : Nat → Bool} (hx : x < w) : ptF W w h nx g k (y * w + x) = g ((k / nx * h + y) * W + (k % nx * w + x)) := by
  unfold ptF fPart; rw [(co y hx).1, (co y hx).2]
section
variable {w h nx ny x y k : Nat}
theorem quo_lt (hx : x < nx * w) : x / w < nx := Nat.div_lt_of_lt_mul (by rwa [Nat.mul_comm])
theorem rem_lt (hx : x < nx * w) : x % w < w := by
  rcases Nat.eq_zero_or_pos w with h | h
  · subst h; simp at hx
  · exact Nat.mod_lt _ h
theorem place_lt (hx : x < nx * w) (hy : y < ny * h) : y / h * nx + x / w < nx * ny := in_grid (quo_lt hx) (quo_lt hy)
theorem cell_lt (hx : x < nx * w) (hy : y < ny * h) : y % h * w + x % w < w * h := in_grid (rem_lt hx) (rem_lt hy)
/-- The part of the joined grid at a place is the unit there. -/
theorem pt_jo {F : Nat → Nat → Bool} {p : Nat → Nat} (hw : 1 ≤ w) (hh : 1 ≤ h) (hk : k < nx * ny) {i : Nat} (hi : i < w * h) : ptF (nx * w) w h nx (joF w h nx F p) k i = F (p k) i := by
  have h1 : i % w < w := Nat.mod_lt _ (by omega)
  have h2 : i / w < h := Nat.div_lt_of_lt_mul hi
  have h0 : 0 < nx := by
    rcases Nat.eq_zero_or_pos nx with h | h
    · subst h; simp at hk
    · exact h
  have h3 : k % nx < nx := Nat.mod_lt _ h0
  have e1 : i = i / w * w + i % w := (nat_div_mod w i).symm
  have e2 : k % nx * w + i % w < nx * w := by have := Nat.mul_le_mul_right w (show k % nx + 1 ≤ nx from h3); rw [Nat.add_mul, Nat.one_mul] at this; omega
  have e3 : (k % nx * w + i % w) / w = k % nx ∧ (k % nx * w + i % w) % w = i % w := co (k % nx) h1
  have e4 : (k / nx * h + i / w) / h = k / nx ∧ (k / nx * h + i / w) % h = i / w := co (k / nx) h2
  conv => lhs; rw [e1]
  rw [pt_at h1, jo_at e2, e3.1, e3.2, e4.1, e4.2, nat_div_mod, nat_div_mod]
/-- A grid joined of its parts. -/
theorem jo_pt {F : Nat → Nat → Bool} {p : Nat → Nat} {g : Nat → Bool} (hF : ∀ k, k < nx * ny → ∀ i, i < w * h → F (p k) i = ptF (nx * w) w h nx g k i) : ∀ i, i < nx * w * (ny * h) → joF w h nx F p i = g i := by
  refine cells_all fun x y hx hy => ?_
  rw [jo_at hx, hF _ (place_lt hx hy) _ (cell_lt hx hy), pt_at (rem_lt hx), (co (y / h) (quo_lt hx)).1, (co (y / h) (quo_lt hx)).2, nat_div_mod, nat_div_mod]
end
end Go.Proofs.Ytngjcekjboedjaa
