/- Merged: Lat Lin. -/
import Derived.Test.YtmakjdfkldacaaaPa
import Derived.Test.YtmakjdfkldacaaaGa

/- The lattices: Check by the program and by the reference. -/
namespace Go.Proofs.Ytmakjdfkldacaaa
open Go.RowKit
set_option maxRecDepth 100000
set_option linter.unusedVariables false
set_option linter.unusedSimpArgs false

/-- What Check answers for the lattice (a, b, c). -/
def lchk (a b c : Int) : Int := if a < 1 ∨ 64 < a ∨ c < 1 ∨ 64 < c ∨ b < 0 ∨ a ≤ b then 8 else 0
theorem lchk_bd (a b c : Int) : 0 ≤ lchk a b c ∧ lchk a b c ≤ 8 := by unfold lchk; split <;> omega
theorem lchk_ok {a b c : Int} (h : lchk a b c = 0) : 1 ≤ a ∧ a ≤ 64 ∧ 1 ≤ c ∧ c ≤ 64 ∧ 0 ≤ b ∧ b < a := by
  unfold lchk at h
  split at h <;> omega
end Go.Proofs.Ytmakjdfkldacaaa

/- In by the program and by the reference. -/
namespace Go.Proofs.Ytmakjdfkldacaaa
open Go.RowKit
set_option maxRecDepth 100000
set_option linter.unusedVariables false
set_option linter.unusedSimpArgs false

/-- Is the step in the lattice? -/
def inn (a b c dx dy : Int) : Bool := decide (dy % c = 0 ∧ (dx - dy / c * b) % a = 0)
theorem tm_bd (x : Int) {n : Int} (h0 : 1 ≤ n) : -n < x.tmod n ∧ x.tmod n < n := by
  have b1 : x.tmod n < n := Int.tmod_lt_of_pos x (by omega)
  have h := Int.tmod_lt_of_pos (-x) (show 0 < n by omega)
  rw [Int.neg_tmod] at h
  omega
theorem tm_zero (x n : Int) : x.tmod n = 0 ↔ x % n = 0 := by
  rw [← Int.dvd_iff_tmod_eq_zero, ← Int.dvd_iff_emod_eq_zero]
theorem tm_cong (x : Int) {n : Int} : ∃ k, x.tmod n = x - n * k := ⟨x.tdiv n, by have := Int.mul_tdiv_add_tmod x n; omega⟩
theorem td_exact {x n : Int} (h : x % n = 0) : x.tdiv n = x / n := Int.tdiv_eq_ediv_of_dvd (Int.dvd_of_emod_eq_zero h)
theorem td_bd (x : Int) {n : Int} (h0 : 1 ≤ n) (hx0 : -9223372036854775808 ≤ x) (hx1 : x ≤ 9223372036854775807) : -9223372036854775808 ≤ x.tdiv n ∧ x.tdiv n ≤ 9223372036854775807 := by
  have h := Int.mul_tdiv_add_tmod x n
  have hb := tm_bd x h0
  rcases Int.le_total 0 x with h1 | h1
  · have h2 : 0 ≤ x.tdiv n := Int.tdiv_nonneg h1 (by omega)
    have h3 : x.tdiv n ≤ x := Int.tdiv_le_self n h1
    omega
  · have h2 : 0 ≤ (-x).tdiv n := Int.tdiv_nonneg (by omega) (by omega)
    have h3 : (-x).tdiv n ≤ -x := Int.tdiv_le_self n (by omega)
    rw [Int.neg_tdiv] at h2 h3
    omega
theorem mulb_bd {p b : Int} (h0 : -64 < p) (h1 : p < 64) (h2 : 0 ≤ b) (h3 : b < 64) : -4096 ≤ p * b ∧ p * b ≤ 4096 := by
  have e1 : p * b ≤ 64 * b := Int.mul_le_mul_of_nonneg_right (by omega) h2
  have e2 : (-64) * b ≤ p * b := Int.mul_le_mul_of_nonneg_right (by omega) h2
  omega
/-- The program's test is the lattice's. -/
theorem inn_p {a b c dx dy : Int} (hr : dy % c = 0) : (dx.tmod a - (dy.tdiv c).tmod a * b).tmod a = 0 ↔ (dx - dy / c * b) % a = 0 := by
  rw [tm_zero, td_exact hr]
  obtain ⟨k, hk⟩ := tm_cong dx (n := a)
  obtain ⟨j, hj⟩ := tm_cong (dy / c) (n := a)
  rw [hk, hj]
  have : dx - a * k - (dy / c - a * j) * b = dx - dy / c * b + a * (j * b - k) := by
    rw [Int.sub_mul, Int.mul_sub, Int.mul_assoc]; omega
  rw [this, Int.add_mul_emod_self_left]
theorem inn_r {a b c dx dy : Int} (hr : dy % c = 0) (ha : 1 ≤ a) (hb : 0 ≤ b) : dx % a = ((dy.tdiv c) % a * b).tmod a ↔ (dx - dy / c * b) % a = 0 := by
  rw [td_exact hr]
  have h0 : 0 ≤ (dy / c) % a * b := Int.mul_nonneg (Int.emod_nonneg _ (by omega)) hb
  rw [Int.tmod_eq_emod_of_nonneg h0, Int.mul_emod, Int.emod_emod, ← Int.mul_emod]
  exact Int.emod_eq_emod_iff_emod_sub_eq_zero
/-- What In answers: an error, or the test. -/
def IOut (w : World) (a b c dx dy : Int) (e : Ending) (w' : World) : Prop := e = .returned (.tuple #[.bool (decide (lchk a b c = 0) && inn a b c dx dy), .int .i64 (lchk a b c)]) ∧ Below w.heap.size w w'
theorem ret_bi {x y : Bool} {m n : Int} (h : x = y) (k : m = n) : Ending.returned (.tuple #[.bool x, .int .i64 m]) = .returned (.tuple #[.bool y, .int .i64 n]) := by rw [h, k]
/-- A lattice lies in a block. -/
def Tri (w : World) (g : Nat) (a b c : Int) : Prop := w.heap[g]? = some (.cells #[.int .i64 a, .int .i64 b, .int .i64 c] 68 (0, 0))
theorem Tri.lt {w : World} {g : Nat} {a b c : Int} (h : Tri w g a b c) : g < w.heap.size := (Array.getElem?_eq_some_iff.1 h).1
theorem Tri.all {w : World} {g : Nat} {a b c : Int} (h : Tri w g a b c) : w.cell? ⟨g, 0, none⟩ = some (.int .i64 a) ∧ w.cell? ⟨g, 1, none⟩ = some (.int .i64 b) ∧ w.cell? ⟨g, 2, none⟩ = some (.int .i64 c) ∧ w.frozen? ⟨g, 0, none⟩ = false ∧ w.frozen? ⟨g, 1, none⟩ = false ∧ w.frozen? ⟨g, 2, none⟩ = false := by
  unfold Tri at h
  simp [World.cell?, World.frozen?, h]
theorem Tri.below {w w' : World} {g B : Nat} {a b c : Int} (h : Tri w g a b c) (hb : Below B w w') (hg : g < B) : Tri w' g a b c := (hb.block g hg).trans h
theorem Tri.new (w : World) (a b c : Int) : Tri (w.alloc (.cells #[.int .i64 a, .int .i64 b, .int .i64 c] 68)) w.heap.size a b c := World.alloc_heap_new w _
/-- The letters of a good step. -/
structure SL (a b c dx dy q p r d m z q' m' d' : Int) : Prop where
  hq : dy.tdiv c = q
  hp : q.tmod a = p
  hr : dy.tmod c = r
  hd : dx.tmod a = d
  hm : p * b = m
  hz : (d - m).tmod a = z
  hq' : q % a = q'
  hm' : q' * b = m'
  hd' : dx % a = d'
end Go.Proofs.Ytmakjdfkldacaaa
