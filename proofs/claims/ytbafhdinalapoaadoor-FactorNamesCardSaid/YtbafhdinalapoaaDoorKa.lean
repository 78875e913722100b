/- The kinds of the rows of a grid, by the program. -/
import Derived.Test.YtbafhdinalapoaaDoorGa
import Derived.Test.YtbafhdinalapoaaDoorDa
import Derived.Test.YtbafhdinalapoaaDoorIa

/- A row of a grid, cut out of its cells; whether two rows are the same. -/
namespace Go.Proofs.YtbafhdinalapoaaDoor
open Go.RowKit
set_option linter.unusedVariables false
set_option linter.unusedSimpArgs false
set_option maxRecDepth 100000

/-- The rows y and z have the same cells. -/
def rsm (W : Nat) (f : Nat → Bool) (y z : Nat) : Bool := decide (∀ i, i < W → f (y * W + i) = f (z * W + i))
theorem row_holds {w : World} {B b o W H : Nat} {f : Nat → Bool} (h : Holds w B (some ⟨b, o, none⟩) (W * H) f) {y : Nat} (hW : 1 ≤ W) (hy : y < H) : Holds w B (some ⟨b, o + y * W, none⟩) W (fun i => f (y * W + i)) := fun _ => by
  have h0 : 0 < W * H := Nat.mul_pos (by omega) (by omega)
  obtain ⟨b', o', e, hlt, hc⟩ := h h0
  cases e
  refine ⟨b, o + y * W, rfl, hlt, fun i hi => ?_⟩
  rw [Nat.add_assoc]
  exact hc _ (ix_bd hi hy)

/-- The first place below n at which B holds, or n. -/
def fib (B : Nat → Bool) : Nat → Nat
  | 0 => 0
  | n + 1 => if fib B n < n then fib B n else if B n then n else n + 1
theorem fib_le (B : Nat → Bool) (n : Nat) : fib B n ≤ n := by
  induction n with
  | zero => simp [fib]
  | succ n ih => unfold fib; split <;> (try split) <;> omega
/-- What IndexFunc answers. -/
def ixf (B : Nat → Bool) (n : Nat) : Int := if fib B n < n then (fib B n : Nat) else -1

end Go.Proofs.YtbafhdinalapoaaDoor

/- The kinds of the rows of a grid, and their first rows. -/
namespace Go.Proofs.YtbafhdinalapoaaDoor
open Go.RowKit
set_option linter.unusedVariables false
set_option linter.unusedSimpArgs false
set_option maxRecDepth 100000

open L2 (fst nd ren fst_le fst_at fst_no fst_end nd_le)
/-- A row as a number. -/
def rcode (W : Nat) (f : Nat → Bool) (y : Nat) : Nat → Nat
  | 0 => 0
  | k + 1 => rcode W f y k + if f (y * W + k) then 2 ^ k else 0
theorem rcode_lt (W : Nat) (f : Nat → Bool) (y k : Nat) : rcode W f y k < 2 ^ k := by
  induction k with
  | zero => simp [rcode]
  | succ k ih => unfold rcode; rw [Nat.pow_succ]; split <;> omega
theorem rcode_eq (W : Nat) (f : Nat → Bool) (y z k : Nat) : rcode W f y k = rcode W f z k ↔ ∀ i, i < k → f (y * W + i) = f (z * W + i) := by
  induction k with
  | zero => simp [rcode]
  | succ k ih =>
    have h1 := rcode_lt W f y k
    have h2 := rcode_lt W f z k
    unfold rcode
    constructor
    · intro h
      have hk : f (y * W + k) = f (z * W + k) := by
        cases e1 : f (y * W + k) <;> cases e2 : f (z * W + k) <;> simp only [e1, e2] at h ⊢ <;> simp at h <;> omega
      rw [hk] at h
      have h3 := ih.1 (by omega)
      intro i hi
      rcases Nat.lt_succ_iff_lt_or_eq.1 hi with h4 | rfl
      · exact h3 i h4
      · exact hk
    · intro h
      rw [ih.2 fun i hi => h i (by omega), h k (by omega)]
def rc (W : Nat) (f : Nat → Bool) (y : Nat) : Int := (rcode W f y W : Nat)
theorem rc_eq (W : Nat) (f : Nat → Bool) (y z : Nat) : rc W f y = rc W f z ↔ rsm W f y z = true := by
  unfold rc rsm
  rw [decide_eq_true_iff, ← rcode_eq W f y z W]
  omega
/-- The first place, among the first m, of the kind k. -/
def frn (c : Nat → Int) : Nat → Nat → Nat
  | 0, _ => 0
  | m + 1, k => if ¬ fst c (c m) m < m ∧ nd c m = k then m else frn c m k
theorem nd_succ_new {c : Nat → Int} {m : Nat} (h : ¬ fst c (c m) m < m) : nd c (m + 1) = nd c m + 1 := by
  simp [nd, h]
theorem nd_succ_old {c : Nat → Int} {m : Nat} (h : fst c (c m) m < m) : nd c (m + 1) = nd c m := by
  simp [nd, h]
theorem nd_mono (c : Nat → Int) {a b : Nat} (h : a ≤ b) : nd c a ≤ nd c b := by
  induction b with
  | zero => obtain rfl : a = 0 := by omega
            exact Nat.le_refl _
  | succ b ih =>
    rcases Nat.lt_or_eq_of_le h with h1 | rfl
    · have := ih (by omega)
      by_cases h2 : fst c (c b) b < b
      · rw [nd_succ_old h2]; exact this
      · rw [nd_succ_new h2]; omega
    · exact Nat.le_refl _
theorem frn_spec (c : Nat → Int) (m k : Nat) (hk : k < nd c m) : frn c m k < m ∧ nd c (frn c m k) = k ∧ ¬ fst c (c (frn c m k)) (frn c m k) < frn c m k := by
  induction m with
  | zero => simp [nd] at hk
  | succ m ih =>
    unfold frn
    by_cases h : ¬ fst c (c m) m < m ∧ nd c m = k
    · rw [if_pos h]
      exact ⟨by omega, h.2, h.1⟩
    · rw [if_neg h]
      have hk' : k < nd c m := by
        by_cases h2 : fst c (c m) m < m
        · rw [nd_succ_old h2] at hk; exact hk
        · rw [nd_succ_new h2] at hk
          have : ¬ nd c m = k := fun e => h ⟨h2, e⟩
          omega
      obtain ⟨a, b, d⟩ := ih hk'
      exact ⟨by omega, b, d⟩
theorem frn_keep (c : Nat → Int) {m k : Nat} (hk : k < nd c m) : frn c (m + 1) k = frn c m k := by
  show (if ¬ fst c (c m) m < m ∧ nd c m = k then m else frn c m k) = _
  rw [if_neg]
  rintro ⟨_, e⟩
  omega
theorem frn_new {c : Nat → Int} {m : Nat} (h : ¬ fst c (c m) m < m) : frn c (m + 1) (nd c m) = m := by
  show (if ¬ fst c (c m) m < m ∧ nd c m = nd c m then m else frn c m (nd c m)) = _
  rw [if_pos ⟨h, rfl⟩]
/-- A place that is the first of its kind is the first place of its number. -/
theorem frn_of (c : Nat → Int) (m j : Nat) (hj : j < m) (h : ¬ fst c (c j) j < j) : frn c m (nd c j) = j := by
  induction m with
  | zero => omega
  | succ m ih =>
    rcases Nat.lt_succ_iff_lt_or_eq.1 hj with h1 | rfl
    · have := ih h1
      have h2 : nd c j < nd c m := by
        have := nd_mono c (show j + 1 ≤ m by omega)
        rw [nd_succ_new h] at this
        omega
      rw [frn_keep c h2]; exact this
    · exact frn_new h
theorem fst_first (c : Nat → Int) (y : Nat) (h : fst c (c y) y < y) : c (fst c (c y) y) = c y ∧ ¬ fst c (c (fst c (c y) y)) (fst c (c y) y) < fst c (c y) y := by
  have e := fst_at c (c y) y h
  refine ⟨e, fun h2 => ?_⟩
  have h3 := fst_at c _ _ h2
  rw [e] at h2 h3
  exact fst_no c (c y) y _ h2 h3
/-- The kind of a row is a kind that there is, and its first row is the same. -/
theorem ren_at (c : Nat → Int) (m y : Nat) (hy : y < m) : ∃ k, ren c y = (k : Nat) ∧ k < nd c m ∧ c (frn c m k) = c y := by
  by_cases h : fst c (c y) y < y
  · obtain ⟨e, h2⟩ := fst_first c y h
    refine ⟨nd c (fst c (c y) y), rfl, ?_, ?_⟩
    · have := nd_mono c (show fst c (c y) y + 1 ≤ m by omega)
      rw [nd_succ_new h2] at this
      omega
    · rw [frn_of c m _ (by omega) h2, e]
  · have e := fst_end h
    refine ⟨nd c y, by unfold ren; rw [e], ?_, ?_⟩
    · have := nd_mono c (show y + 1 ≤ m by omega)
      rw [nd_succ_new h] at this
      omega
    · rw [frn_of c m y hy h]
/-- What IndexFunc finds among the first rows. -/
theorem ixf_kind (c : Nat → Int) (y : Nat) (B : Nat → Bool) (hB : ∀ k, k < nd c y → (B k = true ↔ c (frn c y k) = c y)) :
    (fst c (c y) y < y → ixf B (nd c y) = ren c y) ∧ (¬ fst c (c y) y < y → ixf B (nd c y) = -1) := by
  have hfib : ∀ n, (∀ k, k < fib B n → k < n → B k = false) ∧ (fib B n < n → B (fib B n) = true) := by
    intro n
    induction n with
    | zero => exact ⟨fun k _ h => by omega, fun h => by omega⟩
    | succ n ih =>
      have hle := fib_le B n
      have eq : fib B (n + 1) = if fib B n < n then fib B n else if B n then n else n + 1 := rfl
      by_cases h1 : fib B n < n
      · rw [eq, if_pos h1]
        exact ⟨fun k hk _ => ih.1 k hk (by omega), fun _ => ih.2 h1⟩
      · rw [eq, if_neg h1]
        by_cases h2 : B n = true
        · rw [if_pos h2]
          exact ⟨fun k hk _ => ih.1 k (by omega) hk, fun _ => h2⟩
        · rw [if_neg h2]
          refine ⟨fun k hk hk2 => ?_, fun h => by omega⟩
          rcases Nat.lt_succ_iff_lt_or_eq.1 hk2 with h3 | rfl
          · exact ih.1 k (by omega) h3
          · simpa using h2
  obtain ⟨g1, g2⟩ := hfib (nd c y)
  have hle := fib_le B (nd c y)
  constructor
  · intro h
    obtain ⟨e, h2⟩ := fst_first c y h
    have hlt : nd c (fst c (c y) y) < nd c y := by
      have := nd_mono c (show fst c (c y) y + 1 ≤ y by omega)
      rw [nd_succ_new h2] at this
      omega
    have hBk : B (nd c (fst c (c y) y)) = true := (hB _ hlt).2 (by rw [frn_of c y _ h h2, e])
    have hfl : fib B (nd c y) < nd c y := by
      rcases Nat.lt_or_ge (fib B (nd c y)) (nd c y) with h3 | h3
      · exact h3
      · rw [g1 _ (by omega) hlt] at hBk; cases hBk
    have hBf := (hB _ hfl).1 (g2 hfl)
    obtain ⟨s1, s2, s3⟩ := frn_spec c y _ hfl
    have e2 : fst c (c y) y = frn c y (fib B (nd c y)) := by
      rcases Nat.lt_trichotomy (fst c (c y) y) (frn c y (fib B (nd c y))) with h4 | h4 | h4
      · exfalso
        apply s3
        have h5 := fst_no c (c (frn c y (fib B (nd c y)))) (frn c y (fib B (nd c y)))
        rcases Nat.lt_or_ge (fst c (c (frn c y (fib B (nd c y)))) (frn c y (fib B (nd c y)))) (frn c y (fib B (nd c y))) with h6 | h6
        · exact h6
        · exact absurd (e.trans hBf.symm) (h5 _ (by omega))
      · exact h4
      · exact absurd hBf (fst_no c (c y) y _ h4)
    unfold ixf
    rw [if_pos hfl]
    unfold ren
    rw [e2, s2]
  · intro h
    unfold ixf
    rw [if_neg]
    intro hfl
    have hBf := (hB _ hfl).1 (g2 hfl)
    obtain ⟨s1, s2, s3⟩ := frn_spec c y _ hfl
    have h5 := fst_no c (c y) y _ (show frn c y (fib B (nd c y)) < fst c (c y) y by have := fst_end h; omega)
    exact h5 hBf
end Go.Proofs.YtbafhdinalapoaaDoor

/- The kinds of the rows of a grid, by the program. -/
namespace Go.Proofs.YtbafhdinalapoaaDoor
open Go.RowKit
set_option linter.unusedVariables false
set_option linter.unusedSimpArgs false
set_option maxRecDepth 100000

open L2 (fst nd ren nd_le)
/-- 'append(s, y)', and what it leaves alone. -/
theorem app1' {ops : Array Oper} {rest : List Oper} {o : Oper} {a : Act} {Q : Exit → Act → World → Prop} (w : World) (hgd : o.guard = none) (s x : Operand)
    (ho : o.op = .call { callee := .builtin .append, args := #[s, x], argTypes := #[22, 22] }) (base : Nat) {v : Value} {n : Nat} {f : Nat → Int} (hs : a.eval s = v) (hown : L2.Own w base v n f)
    (y : Int) (hx : a.eval x = .slice (some ⟨w.heap.size, 0, none⟩) 1 1) (hy : f n = y) (hn : n ≤ 100000) (hb : base ≤ w.heap.size)
    (h : ∀ v' w', L2.Own w' base v' (n + 1) f → Below base w w' → (∀ k, k < w.heap.size → v.ownBlock ≠ some k → w'.heap[k]? = w.heap[k]?) → wpList Tryd.prog ops Q rest (a.put o.dst v') w') :
    wpList Tryd.prog ops Q (o :: rest) a (w.alloc (.cells #[.int .i64 y] 3)) := by
  obtain ⟨i0, hi, hz0, hz1, hz2⟩ := info_parts L2.TrydI.info3
  refine wpList_append_own _ hgd s x 22 ho base 3 i0 (.int .i64 0) 1 8 Tryd.underlying22 hi hz0 hz1 hz2 rfl (by decide) v n _ hs (hown.alloc _) ⟨w.heap.size, 0, none⟩ 1 1 [.int .i64 y] hx rfl (cell_one_new _ _ _) (ints_oneCell .i64 [y])
    (by unfold maxLen; omega) (by omega) (by simp; omega) ?_
  intro v' w' ho' hg _
  refine h v' w' ?_ ?_ ?_
  · unfold L2.Own
    rw [L2.news_succ, hy]
    exact ho'
  · refine Below.grown ((Below.refl _ _).alloc hb _) hg (by simp; omega) fun k hk => (hown.block hk).1
  · intro k hk hne
    exact (hg.block k (by simp; omega) (fun e => hne (by first | exact e.symm | exact e))).trans (Below.heap_alloc w _ k hk)
/-- What kinds hands back: the kind of each row, and the first row of each kind. -/
def KOut (w : World) (H : Nat) (c : Nat → Int) (e : Ending) (w' : World) : Prop :=
  ∃ k A' c', e = .returned (.tuple #[.slice (some ⟨k, 0, none⟩) H H, .slice A' (nd c H) c']) ∧ w.heap.size ≤ k ∧ L2.Row w' k H (ren c) ∧ (0 < nd c H → ∃ q, A' = some ⟨q, 0, none⟩ ∧ w.heap.size ≤ q ∧ L2.Row w' q (nd c H) (fun k => (frn c H k : Nat))) ∧ Below w.heap.size w w'

end Go.Proofs.YtbafhdinalapoaaDoor
