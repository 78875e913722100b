/- Networks: arithmetic alone: what Check answers, the nearest shaft, the heights of a line. -/
import Derived.Test.YthipdfkgeghooaaCim
namespace Go.Proofs.Ythipdfkgeghooaa
open Go.RowKit
set_option maxRecDepth 100000
set_option linter.unusedVariables false
set_option linter.unusedSimpArgs false

/-- All elements are from 0 to m. -/
def upTo (m : Int) (n : Nat) (f : Nat → Int) : Bool := decide (∀ i, i < n → 0 ≤ f i ∧ f i ≤ m)
theorem upTo_congr {m : Int} {n : Nat} {f g : Nat → Int} (h : ∀ i, i < n → f i = g i) : upTo m n f = upTo m n g := by
  have : (∀ i, i < n → 0 ≤ f i ∧ f i ≤ m) = (∀ i, i < n → 0 ≤ g i ∧ g i ≤ m) := propext ⟨fun q i hi => h i hi ▸ q i hi, fun q i hi => (h i hi).symm ▸ q i hi⟩
  unfold upTo
  exact decide_eq_decide.2 (this ▸ Iff.rfl)
theorem upTo_of {m : Int} {n : Nat} {f : Nat → Int} (h : upTo m n f = true) : ∀ i, i < n → 0 ≤ f i ∧ f i ≤ m := of_decide_eq_true h
/-- Whether a number may be a length. -/
def len64 (n : Nat) : Bool := decide (1 ≤ n ∧ n ≤ 64)
/-- What Check of a network answers. -/
def nck (S N : Int) (n : Nat) (f : Nat → Int) : Int := if 1 ≤ N ∧ N ≤ S ∧ S ≤ 40 ∧ S.tmod N = 0 ∧ 1 ≤ n ∧ n ≤ 64 ∧ upTo (N - 1) n f = true then 0 else 8
theorem nck_or (S N : Int) (n : Nat) (f : Nat → Int) : nck S N n f = 0 ∨ nck S N n f = 8 := by unfold nck; split <;> simp
theorem nck_congr {S N : Int} {n : Nat} {f g : Nat → Int} (h : ∀ i, i < n → f i = g i) : nck S N n f = nck S N n g := by unfold nck; rw [upTo_congr h]
/-- A valid network, in natural numbers. -/
structure NOk (S N n : Nat) (b : Nat → Nat) : Prop where
  n0 : 1 ≤ N
  ns : N ≤ S
  s1 : S ≤ 40
  dv : S % N = 0
  l0 : 1 ≤ n
  l1 : n ≤ 64
  b : ∀ i, i < n → b i < N
theorem nck_ok {S N : Int} {n : Nat} {f : Nat → Int} (h : nck S N n f = 0) : ∃ (P Q : Nat) (b : Nat → Nat), S = P ∧ N = Q ∧ NOk P Q n b ∧ (∀ i, i < n → f i = (b i : Nat)) := by
  unfold nck at h
  split at h
  · rename_i hh
    obtain ⟨a1, a2, a3, a4, a5, a6, a7⟩ := hh
    have hu := upTo_of a7
    obtain ⟨Q, rfl⟩ := Int.eq_ofNat_of_zero_le (show 0 ≤ N by omega)
    obtain ⟨P, rfl⟩ := Int.eq_ofNat_of_zero_le (show 0 ≤ S by omega)
    have a4' : P % Q = 0 := by have : ((P : Int).tmod Q) = ((P % Q : Nat) : Int) := rfl; omega
    exact ⟨P, Q, fun i => (f i).toNat, rfl, rfl, ⟨by omega, by omega, by omega, a4', a5, a6, fun i hi => (by have := hu i hi; show (f i).toNat < Q; omega)⟩, fun i hi => (by have := hu i hi; show f i = (((f i).toNat : Nat) : Int); omega)⟩
  · cases h
theorem nck_zero {S N n : Nat} {b : Nat → Nat} {f : Nat → Int} (h : NOk S N n b) (hf : ∀ i, i < n → f i = (b i : Nat)) : nck S N n f = 0 :=
  if_pos ⟨by have := h.n0; omega, by have := h.ns; omega, by have := h.s1; omega, by have := h.dv; show ((S % N : Nat) : Int) = 0; omega, h.l0, h.l1, decide_eq_true fun i hi => by have := h.b i hi; have := hf i hi; omega⟩
/-- How far a shaft is from a height. -/
def aw (a b : Int) : Int := if a < b then b - a else a - b
/-- The nearest shaft with this rest, of two the lower one. -/
def Nst (S N r : Nat) (h : Int) (v : Nat) : Prop := v < S ∧ v % N = r ∧ ∀ s, s < S → s % N = r → aw v h < aw s h ∨ (aw v h = aw s h ∧ v ≤ s)
theorem Nst.same {S N r : Nat} {h : Int} {v u : Nat} (p : Nst S N r h v) (q : Nst S N r h u) : v = u := by
  have h1 := p.2.2 u q.1 q.2.1
  have h2 := q.2.2 v p.1 p.2.1
  omega
theorem cls_sum {N r k : Nat} (hr : r < N) : (r + N * k) % N = r := by rw [Nat.add_mul_mod_self_left, Nat.mod_eq_of_lt hr]
/-- The shafts of a class: r, r + N, .. -/
theorem cls_ix {S N r s : Nat} (hd : S % N = 0) (hN : 1 ≤ N) (hs : s < S) (h : s % N = r) : s / N < S / N ∧ s = r + N * (s / N) := by
  have h1 := Nat.div_add_mod s N
  have h2 := Nat.div_add_mod S N
  refine ⟨?_, by omega⟩
  rw [Nat.div_lt_iff_lt_mul hN, Nat.mul_comm]
  omega
theorem cls_lt {S N r k : Nat} (hd : S % N = 0) (hr : r < N) (hk : k < S / N) : r + N * k < S := by
  have h2 := Nat.div_add_mod S N
  have h3 : N * (k + 1) ≤ N * (S / N) := Nat.mul_le_mul_left _ hk
  rw [Nat.mul_add, Nat.mul_one] at h3
  omega
theorem cls_ge {S N r k : Nat} (hd : S % N = 0) (hk : S / N ≤ k) : S ≤ r + N * k := by
  have h2 := Nat.div_add_mod S N
  have h3 : N * (S / N) ≤ N * k := Nat.mul_le_mul_left _ hk
  omega
/-- The first one of the least far ones is the nearest. -/
theorem nst_of {S N r j : Nat} {h : Int} (hd : S % N = 0) (hN : 1 ≤ N) (hr : r < N) (hj : j < S / N) (h1 : ∀ i, i < S / N → aw ((r + N * j : Nat) : Int) h ≤ aw ((r + N * i : Nat) : Int) h)
    (h2 : ∀ i, i < j → aw ((r + N * j : Nat) : Int) h < aw ((r + N * i : Nat) : Int) h) : Nst S N r h (r + N * j) := by
  refine ⟨cls_lt hd hr hj, cls_sum hr, fun s hs hm => ?_⟩
  obtain ⟨q1, q2⟩ := cls_ix hd hN hs hm
  generalize s / N = i at *
  subst q2
  have h3 := h1 i q1
  rcases Nat.lt_or_ge i j with hij | hij
  · exact .inl (h2 i hij)
  · have : N * j ≤ N * i := Nat.mul_le_mul_left _ hij
    omega
/-- Points: strictly increasing from 0, within the limits. -/
structure PtOk (n : Nat) (X Y : Nat → Nat) : Prop where
  n0 : 1 ≤ n
  x0 : X 0 = 0
  xs : ∀ i, i < n → X i < 64
  ys : ∀ i, i < n → Y i ≤ 1000
  up : ∀ i, i + 1 < n → X i < X (i + 1)
def ptB (n : Nat) (X Y : Nat → Int) : Bool := decide (1 ≤ n ∧ X 0 = 0 ∧ ∀ i, i < n → X i < 64 ∧ 0 ≤ Y i ∧ Y i ≤ 1000 ∧ (0 < i → X (i - 1) < X i))
theorem inc_ge {n : Nat} {X : Nat → Int} (h : ∀ i, i + 1 < n → X i < X (i + 1)) (h0 : X 0 = 0) : ∀ i, i < n → (i : Int) ≤ X i := by
  intro i
  induction i with
  | zero => intro _; omega
  | succ i ih => intro hi; have := h i hi; have := ih (by omega); omega
theorem pt_ok {n : Nat} {X Y : Nat → Int} (h : ptB n X Y = true) : ∃ P Q : Nat → Nat, PtOk n P Q ∧ (∀ i, i < n → X i = (P i : Nat)) ∧ (∀ i, i < n → Y i = (Q i : Nat)) := by
  obtain ⟨h1, h2, h3⟩ := of_decide_eq_true h
  have h4 : ∀ i, i + 1 < n → X i < X (i + 1) := fun i hi => (h3 (i + 1) hi).2.2.2 (by omega)
  have h5 := inc_ge h4 h2
  refine ⟨fun i => (X i).toNat, fun i => (Y i).toNat, ⟨h1, by simp [h2], fun i hi => (by have := h3 i hi; have := h5 i hi; show (X i).toNat < 64; omega), fun i hi => (by have := h3 i hi; show (Y i).toNat ≤ 1000; omega), fun i hi => ?_⟩, fun i hi => (by have := h5 i hi; show X i = (((X i).toNat : Nat) : Int); omega), fun i hi => (by have := h3 i hi; show Y i = (((Y i).toNat : Nat) : Int); omega)⟩
  have := h4 i hi; have := h5 i (by omega); show (X i).toNat < (X (i + 1)).toNat; omega
/-- The height of the line between two points. -/
def hgt (x0 y0 x1 y1 x : Nat) : Nat := (2 * (y0 * (x1 - x) + y1 * (x - x0)) + (x1 - x0)) / (2 * (x1 - x0))
theorem hgt_left {x0 y0 x1 y1 : Nat} (h : x0 < x1) : hgt x0 y0 x1 y1 x0 = y0 := by
  unfold hgt
  rw [Nat.sub_self, Nat.mul_zero, Nat.add_zero]
  obtain ⟨d, hd⟩ : ∃ d, x1 - x0 = d := ⟨_, rfl⟩
  rw [hd]
  rw [show 2 * (y0 * d) + d = d + 2 * d * y0 by rw [Nat.mul_assoc, Nat.mul_comm d y0]; omega, Nat.add_mul_div_left _ _ (by omega), Nat.div_eq_of_lt (by omega), Nat.zero_add]
theorem hgt_right {x0 y0 x1 y1 : Nat} (h : x0 < x1) : hgt x0 y0 x1 y1 x1 = y1 := by
  unfold hgt
  rw [Nat.sub_self, Nat.mul_zero, Nat.zero_add]
  obtain ⟨d, hd⟩ : ∃ d, x1 - x0 = d := ⟨_, rfl⟩
  rw [hd]
  rw [show 2 * (y1 * d) + d = d + 2 * d * y1 by rw [Nat.mul_assoc, Nat.mul_comm d y1]; omega, Nat.add_mul_div_left _ _ (by omega), Nat.div_eq_of_lt (by omega), Nat.zero_add]
theorem hgt_iff {x0 y0 x1 y1 x y : Nat} (h : x0 < x1) : y ≤ hgt x0 y0 x1 y1 x ↔ 2 * y * (x1 - x0) ≤ 2 * (y0 * (x1 - x) + y1 * (x - x0)) + (x1 - x0) := by
  unfold hgt
  rw [Nat.le_div_iff_mul_le (by omega)]
  rw [show y * (2 * (x1 - x0)) = 2 * y * (x1 - x0) by rw [← Nat.mul_assoc, Nat.mul_comm y 2]]
/-- The line of some points. -/
structure LineR (n : Nat) (X Y : Nat → Nat) (f : Nat → Int) : Prop where
  at' : ∀ i, i + 1 < n → ∀ x, X i ≤ x → x ≤ X (i + 1) → f x = ((hgt (X i) (Y i) (X (i + 1)) (Y (i + 1)) x : Nat) : Int)
  last : f (X (n - 1)) = ((Y (n - 1) : Nat) : Int)
theorem PtOk.find {n : Nat} {X Y : Nat → Nat} (h : PtOk n X Y) : ∀ x, x < X (n - 1) → ∃ i, i + 1 < n ∧ X i ≤ x ∧ x < X (i + 1) := by
  intro x hx
  have key : ∀ m, m < n → x < X m → ∃ i, i + 1 < n ∧ X i ≤ x ∧ x < X (i + 1) := by
    intro m
    induction m with
    | zero => intro _ h1; have := h.x0; omega
    | succ m ih =>
      intro hm h1
      rcases Nat.lt_or_ge x (X m) with h2 | h2
      · exact ih (by omega) h2
      · exact ⟨m, hm, h2, h1⟩
  exact key (n - 1) (by have := h.n0; omega) hx
theorem LineR.same {n : Nat} {X Y : Nat → Nat} {f g : Nat → Int} (hp : PtOk n X Y) (h : LineR n X Y f) (k : LineR n X Y g) : ∀ x, x < X (n - 1) + 1 → f x = g x := by
  intro x hx
  rcases Nat.lt_or_ge x (X (n - 1)) with h1 | h1
  · obtain ⟨i, h2, h3, h4⟩ := hp.find x h1
    rw [h.at' i h2 x h3 (by omega), k.at' i h2 x h3 (by omega)]
  · obtain rfl : x = X (n - 1) := by omega
    rw [h.last, k.last]
end Go.Proofs.Ythipdfkgeghooaa
