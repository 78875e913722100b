/- Merged: Lat Lin. -/
import Derived.Test.YtjbofdgdcnfmoaaPa
import Derived.Test.YtjbofdgdcnfmoaaGa

/- The lattices: Check by the program and by the reference. -/
namespace Go.Proofs.Ytjbofdgdcnfmoaa
open Go.RowKit
set_option maxRecDepth 100000
set_option linter.unusedVariables false
set_option linter.unusedSimpArgs false

/-- What Check answers for the lattice (a, b, c). -/
def lchk (a b c : Int) : Int := if a < 1 ∨ 64 < a ∨ c < 1 ∨ 64 < c ∨ b < 0 ∨ a ≤ b then 8 else 0
theorem lchk_bd (a b c : Int) : 0 ≤ lchk a b c ∧ lchk a b c ≤ 8 := by unfold lchk; split <;> omega
theorem lchk_ok {a b c : Int} (h : lchk a b c = 0) : 1 ≤ a ∧ a ≤ 64 ∧ 1 ≤ c ∧ c ≤ 64 ∧ 0 ≤ b ∧ b < a := by
  unfold lchk at h
  split at h <;> omega
theorem side_t {n : Int} (h0 : 1 ≤ n) (h1 : n ≤ 64) (w : World) : Calls Try.prog 74 #[.int .i64 n] w fun e w' => e = .returned (.bool true) ∧ w' = w := by
  have h := side_any n w
  rwa [decide_eq_true ⟨h0, h1⟩] at h
theorem side_f {n : Int} (h0 : ¬ (1 ≤ n ∧ n ≤ 64)) (w : World) : Calls Try.prog 74 #[.int .i64 n] w fun e w' => e = .returned (.bool false) ∧ w' = w := by
  have h := side_any n w
  rwa [decide_eq_false h0] at h
set_option maxHeartbeats 400000 in
theorem lc_a (a b c : Int) (w : World) (h : ¬ (1 ≤ a ∧ a ≤ 64)) : Calls Try.prog 26 #[.agg #[.int .i64 a, .int .i64 b, .int .i64 c]] w fun e w' => e = .returned (.int .i64 8) ∧ Below w.heap.size w w' := by
  go_enter Try.func26, Try.ntmps26
  go_wp2_with (go_at_call 74; refine (side_f (by omega) _).mono ?_; rintro e w2 ⟨rfl, rfl⟩)
  go_ret
  exact ⟨rfl, (Below.refl _ _).alloc (Nat.le_refl _) _⟩
set_option maxHeartbeats 400000 in
theorem lc_c (a b c : Int) (w : World) (h0 : 1 ≤ a) (h1 : a ≤ 64) (h : ¬ (1 ≤ c ∧ c ≤ 64)) : Calls Try.prog 26 #[.agg #[.int .i64 a, .int .i64 b, .int .i64 c]] w fun e w' => e = .returned (.int .i64 8) ∧ Below w.heap.size w w' := by
  have HA := Lib.hid (fun w => side_t h0 h1 w)
  have HC := Lib.hid (fun w => side_f h w)
  clear h0 h1 h
  go_enter Try.func26, Try.ntmps26
  go_wp2_with (go_at_call 74; first | (with_reducible refine (HA.out _).mono ?_; rintro e w2 ⟨rfl, rfl⟩) | (with_reducible refine (HC.out _).mono ?_; rintro e w2 ⟨rfl, rfl⟩))
  go_ret
  exact ⟨rfl, (Below.refl _ _).alloc (Nat.le_refl _) _⟩
set_option maxHeartbeats 400000 in
theorem lc_b (a b c : Int) (w : World) (h0 : 1 ≤ a) (h1 : a ≤ 64) (c0 : 1 ≤ c) (c1 : c ≤ 64) (hb : b < 0) : Calls Try.prog 26 #[.agg #[.int .i64 a, .int .i64 b, .int .i64 c]] w fun e w' => e = .returned (.int .i64 8) ∧ Below w.heap.size w w' := by
  have HA := Lib.hid (fun w => side_t h0 h1 w)
  have HC := Lib.hid (fun w => side_t c0 c1 w)
  clear h0 h1 c0 c1
  go_enter Try.func26, Try.ntmps26
  go_wp2_with (go_at_call 74; first | (with_reducible refine (HA.out _).mono ?_; rintro e w2 ⟨rfl, rfl⟩) | (with_reducible refine (HC.out _).mono ?_; rintro e w2 ⟨rfl, rfl⟩))
  go_ret
  exact ⟨rfl, (Below.refl _ _).alloc (Nat.le_refl _) _⟩
set_option maxHeartbeats 400000 in
theorem lc_g (a b c : Int) (w : World) (h0 : 1 ≤ a) (h1 : a ≤ 64) (c0 : 1 ≤ c) (c1 : c ≤ 64) (hb : 0 ≤ b) (hg : a ≤ b) : Calls Try.prog 26 #[.agg #[.int .i64 a, .int .i64 b, .int .i64 c]] w fun e w' => e = .returned (.int .i64 8) ∧ Below w.heap.size w w' := by
  have HA := Lib.hid (fun w => side_t h0 h1 w)
  have HC := Lib.hid (fun w => side_t c0 c1 w)
  clear h0 h1 c0 c1
  go_enter Try.func26, Try.ntmps26
  go_wp2_with (go_at_call 74; first | (with_reducible refine (HA.out _).mono ?_; rintro e w2 ⟨rfl, rfl⟩) | (with_reducible refine (HC.out _).mono ?_; rintro e w2 ⟨rfl, rfl⟩))
  go_ret
  exact ⟨rfl, (Below.refl _ _).alloc (Nat.le_refl _) _⟩
set_option maxHeartbeats 400000 in
theorem lc_o (a b c : Int) (w : World) (h0 : 1 ≤ a) (h1 : a ≤ 64) (c0 : 1 ≤ c) (c1 : c ≤ 64) (hb : 0 ≤ b) (hg : b < a) : Calls Try.prog 26 #[.agg #[.int .i64 a, .int .i64 b, .int .i64 c]] w fun e w' => e = .returned (.int .i64 0) ∧ Below w.heap.size w w' := by
  have HA := Lib.hid (fun w => side_t h0 h1 w)
  have HC := Lib.hid (fun w => side_t c0 c1 w)
  clear h0 h1 c0 c1
  go_enter Try.func26, Try.ntmps26
  go_wp2_with (go_at_call 74; first | (with_reducible refine (HA.out _).mono ?_; rintro e w2 ⟨rfl, rfl⟩) | (with_reducible refine (HC.out _).mono ?_; rintro e w2 ⟨rfl, rfl⟩))
  go_ret
  exact ⟨rfl, (Below.refl _ _).alloc (Nat.le_refl _) _⟩
theorem lchk_any (a b c : Int) (w : World) : Calls Try.prog 26 #[.agg #[.int .i64 a, .int .i64 b, .int .i64 c]] w fun e w' => e = .returned (.int .i64 (lchk a b c)) ∧ Below w.heap.size w w' := by
  have e8 : a < 1 ∨ 64 < a ∨ c < 1 ∨ 64 < c ∨ b < 0 ∨ a ≤ b → lchk a b c = 8 := fun h => if_pos h
  by_cases h : 1 ≤ a ∧ a ≤ 64
  · by_cases hc : 1 ≤ c ∧ c ≤ 64
    · by_cases hb : b < 0
      · rw [e8 (by omega)]; exact lc_b a b c w h.1 h.2 hc.1 hc.2 hb
      · by_cases hg : a ≤ b
        · rw [e8 (by omega)]; exact lc_g a b c w h.1 h.2 hc.1 hc.2 (by omega) hg
        · rw [show lchk a b c = 0 from if_neg (by omega)]; exact lc_o a b c w h.1 h.2 hc.1 hc.2 (by omega) (by omega)
    · rw [e8 (by omega)]; exact lc_c a b c w h.1 h.2 hc
  · rw [e8 (by omega)]; exact lc_a a b c w h
set_option maxHeartbeats 400000 in
theorem lr_a0 (a b c : Int) (w : World) (h : a < 1) : Calls Try.prog 32 #[.agg #[.int .i64 a, .int .i64 b, .int .i64 c]] w fun e w' => e = .returned (.int .i64 8) ∧ Below w.heap.size w w' := by
  go_enter Try.func32, Try.ntmps32
  go_wp2
  go_ret
  exact ⟨rfl, (Below.refl _ _).alloc (Nat.le_refl _) _⟩
set_option maxHeartbeats 400000 in
theorem lr_a1 (a b c : Int) (w : World) (h0 : 1 ≤ a) (h : 64 < a) : Calls Try.prog 32 #[.agg #[.int .i64 a, .int .i64 b, .int .i64 c]] w fun e w' => e = .returned (.int .i64 8) ∧ Below w.heap.size w w' := by
  go_enter Try.func32, Try.ntmps32
  go_wp2
  go_ret
  exact ⟨rfl, (Below.refl _ _).alloc (Nat.le_refl _) _⟩
set_option maxHeartbeats 400000 in
theorem lr_c0 (a b c : Int) (w : World) (h0 : 1 ≤ a) (h1 : a ≤ 64) (h : c < 1) : Calls Try.prog 32 #[.agg #[.int .i64 a, .int .i64 b, .int .i64 c]] w fun e w' => e = .returned (.int .i64 8) ∧ Below w.heap.size w w' := by
  go_enter Try.func32, Try.ntmps32
  go_wp2
  go_ret
  exact ⟨rfl, (Below.refl _ _).alloc (Nat.le_refl _) _⟩
set_option maxHeartbeats 400000 in
theorem lr_c1 (a b c : Int) (w : World) (h0 : 1 ≤ a) (h1 : a ≤ 64) (h2 : 1 ≤ c) (h : 64 < c) : Calls Try.prog 32 #[.agg #[.int .i64 a, .int .i64 b, .int .i64 c]] w fun e w' => e = .returned (.int .i64 8) ∧ Below w.heap.size w w' := by
  go_enter Try.func32, Try.ntmps32
  go_wp2
  go_ret
  exact ⟨rfl, (Below.refl _ _).alloc (Nat.le_refl _) _⟩
set_option maxHeartbeats 400000 in
theorem lr_b0 (a b c : Int) (w : World) (h0 : 1 ≤ a) (h1 : a ≤ 64) (h2 : 1 ≤ c) (h3 : c ≤ 64) (h : b < 0) : Calls Try.prog 32 #[.agg #[.int .i64 a, .int .i64 b, .int .i64 c]] w fun e w' => e = .returned (.int .i64 8) ∧ Below w.heap.size w w' := by
  go_enter Try.func32, Try.ntmps32
  go_wp2
  go_ret
  exact ⟨rfl, (Below.refl _ _).alloc (Nat.le_refl _) _⟩
set_option maxHeartbeats 400000 in
theorem lr_g (a b c : Int) (w : World) (h0 : 1 ≤ a) (h1 : a ≤ 64) (h2 : 1 ≤ c) (h3 : c ≤ 64) (h4 : 0 ≤ b) (h : a ≤ b) : Calls Try.prog 32 #[.agg #[.int .i64 a, .int .i64 b, .int .i64 c]] w fun e w' => e = .returned (.int .i64 8) ∧ Below w.heap.size w w' := by
  go_enter Try.func32, Try.ntmps32
  go_wp2
  go_ret
  exact ⟨rfl, (Below.refl _ _).alloc (Nat.le_refl _) _⟩
set_option maxHeartbeats 400000 in
theorem lr_o (a b c : Int) (w : World) (h0 : 1 ≤ a) (h1 : a ≤ 64) (h2 : 1 ≤ c) (h3 : c ≤ 64) (h4 : 0 ≤ b) (h : b < a) : Calls Try.prog 32 #[.agg #[.int .i64 a, .int .i64 b, .int .i64 c]] w fun e w' => e = .returned (.int .i64 0) ∧ Below w.heap.size w w' := by
  go_enter Try.func32, Try.ntmps32
  go_wp2
  go_ret
  exact ⟨rfl, (Below.refl _ _).alloc (Nat.le_refl _) _⟩
theorem rlchk_any (a b c : Int) (w : World) : Calls Try.prog 32 #[.agg #[.int .i64 a, .int .i64 b, .int .i64 c]] w fun e w' => e = .returned (.int .i64 (lchk a b c)) ∧ Below w.heap.size w w' := by
  have e8 : a < 1 ∨ 64 < a ∨ c < 1 ∨ 64 < c ∨ b < 0 ∨ a ≤ b → lchk a b c = 8 := fun h => if_pos h
  by_cases h : a < 1
  · rw [e8 (by omega)]; exact lr_a0 a b c w h
  by_cases h1 : 64 < a
  · rw [e8 (by omega)]; exact lr_a1 a b c w (by omega) h1
  by_cases h2 : c < 1
  · rw [e8 (by omega)]; exact lr_c0 a b c w (by omega) (by omega) h2
  by_cases h3 : 64 < c
  · rw [e8 (by omega)]; exact lr_c1 a b c w (by omega) (by omega) (by omega) h3
  by_cases h4 : b < 0
  · rw [e8 (by omega)]; exact lr_b0 a b c w (by omega) (by omega) (by omega) (by omega) h4
  by_cases h5 : a ≤ b
  · rw [e8 (by omega)]; exact lr_g a b c w (by omega) (by omega) (by omega) (by omega) (by omega) h5
  · rw [show lchk a b c = 0 from if_neg (by omega)]; exact lr_o a b c w (by omega) (by omega) (by omega) (by omega) (by omega) (by omega)
end Go.Proofs.Ytjbofdgdcnfmoaa

/- In by the program and by the reference. -/
namespace Go.Proofs.Ytjbofdgdcnfmoaa
open Go.RowKit
set_option maxRecDepth 100000
set_option linter.unusedVariables false
set_option linter.unusedSimpArgs false

/-- Is the step in the lattice? -/
def inn (a b c dx dy : Int) : Bool := decide (dy % c = 0 ∧ (dx - dy / c * b) % a = 0)
theorem tm_bd (x : Int) {n : Int} (h0 : 1 ≤ n) : -n < x.tmod n ∧ x.tmod n < n := by
  have b1 : x.tmod n < n := Int.tmod_lt_of_pos x (by omega)
  have h := Int.tmod_lt_of_pos (-x) (show 0 < n by omega)
  rw [Int.neg_tmod] at h
  omega
theorem tm_zero (x n : Int) : x.tmod n = 0 ↔ x % n = 0 := by
  rw [← Int.dvd_iff_tmod_eq_zero, ← Int.dvd_iff_emod_eq_zero]
theorem tm_cong (x : Int) {n : Int} : ∃ k, x.tmod n = x - n * k := ⟨x.tdiv n, by have := Int.mul_tdiv_add_tmod x n; omega⟩
theorem td_exact {x n : Int} (h : x % n = 0) : x.tdiv n = x / n := Int.tdiv_eq_ediv_of_dvd (Int.dvd_of_emod_eq_zero h)
theorem td_bd (x : Int) {n : Int} (h0 : 1 ≤ n) (hx0 : -9223372036854775808 ≤ x) (hx1 : x ≤ 9223372036854775807) : -9223372036854775808 ≤ x.tdiv n ∧ x.tdiv n ≤ 9223372036854775807 := by
  have h := Int.mul_tdiv_add_tmod x n
  have hb := tm_bd x h0
  rcases Int.le_total 0 x with h1 | h1
  · have h2 : 0 ≤ x.tdiv n := Int.tdiv_nonneg h1 (by omega)
    have h3 : x.tdiv n ≤ x := Int.tdiv_le_self n h1
    omega
  · have h2 : 0 ≤ (-x).tdiv n := Int.tdiv_nonneg (by omega) (by omega)
    have h3 : (-x).tdiv n ≤ -x := Int.tdiv_le_self n (by omega)
    rw [Int.neg_tdiv] at h2 h3
    omega
theorem mulb_bd {p b : Int} (h0 : -64 < p) (h1 : p < 64) (h2 : 0 ≤ b) (h3 : b < 64) : -4096 ≤ p * b ∧ p * b ≤ 4096 := by
  have e1 : p * b ≤ 64 * b := Int.mul_le_mul_of_nonneg_right (by omega) h2
  have e2 : (-64) * b ≤ p * b := Int.mul_le_mul_of_nonneg_right (by omega) h2
  omega
/-- The program's test is the lattice's. -/
theorem inn_p {a b c dx dy : Int} (hr : dy % c = 0) : (dx.tmod a - (dy.tdiv c).tmod a * b).tmod a = 0 ↔ (dx - dy / c * b) % a = 0 := by
  rw [tm_zero, td_exact hr]
  obtain ⟨k, hk⟩ := tm_cong dx (n := a)
  obtain ⟨j, hj⟩ := tm_cong (dy / c) (n := a)
  rw [hk, hj]
  have : dx - a * k - (dy / c - a * j) * b = dx - dy / c * b + a * (j * b - k) := by
    rw [Int.sub_mul, Int.mul_sub, Int.mul_assoc]; omega
  rw [this, Int.add_mul_emod_self_left]
theorem inn_r {a b c dx dy : Int} (hr : dy % c = 0) (ha : 1 ≤ a) (hb : 0 ≤ b) : dx % a = ((dy.tdiv c) % a * b).tmod a ↔ (dx - dy / c * b) % a = 0 := by
  rw [td_exact hr]
  have h0 : 0 ≤ (dy / c) % a * b := Int.mul_nonneg (Int.emod_nonneg _ (by omega)) hb
  rw [Int.tmod_eq_emod_of_nonneg h0, Int.mul_emod, Int.emod_emod, ← Int.mul_emod]
  exact Int.emod_eq_emod_iff_emod_sub_eq_zero
/-- What In answers: an error, or the test. -/
def IOut (w : World) (a b c dx dy : Int) (e : Ending) (w' : World) : Prop := e = .returned (.tuple #[.bool (decide (lchk a b c = 0) && inn a b c dx dy), .int .i64 (lchk a b c)]) ∧ Below w.heap.size w w'
theorem ret_bi {x y : Bool} {m n : Int} (h : x = y) (k : m = n) : Ending.returned (.tuple #[.bool x, .int .i64 m]) = .returned (.tuple #[.bool y, .int .i64 n]) := by rw [h, k]
set_option maxHeartbeats 400000 in
theorem pin_err (a b c dx dy : Int) (w : World) (h : ¬ lchk a b c = 0) : Calls Try.prog 22 #[.agg #[.int .i64 a, .int .i64 b, .int .i64 c], .int .i64 dx, .int .i64 dy] w (IOut w a b c dx dy) := by
  have hc := Lib.hid (fun w => lchk_any a b c w)
  have hv : (decide (lchk a b c = 0) && inn a b c dx dy) = false := by rw [decide_eq_false h]; rfl
  have HV := Lib.hid hv
  have x1 : (lchk a b c != 0) = true := by simpa using h
  obtain ⟨z, hz⟩ : ∃ z, lchk a b c = z := ⟨_, rfl⟩
  rw [hz] at x1 hc
  have HZ := Lib.hid hz
  clear hv h hz
  go_enter Try.func22, Try.ntmps22
  go_wp2_with (go_at_call 26; refine (hc.out _).mono ?_; rintro e w2 ⟨rfl, hb2⟩)
  go_ret2
  exact ⟨ret_bi HV.out.symm HZ.out.symm, (Below.refl _ w).alloc (Nat.le_refl _) _ |>.trans (hb2.mono (by simp))⟩
/-- A lattice lies in a block. -/
def Tri (w : World) (g : Nat) (a b c : Int) : Prop := w.heap[g]? = some (.cells #[.int .i64 a, .int .i64 b, .int .i64 c] 27 (0, 0))
theorem Tri.lt {w : World} {g : Nat} {a b c : Int} (h : Tri w g a b c) : g < w.heap.size := (Array.getElem?_eq_some_iff.1 h).1
theorem Tri.all {w : World} {g : Nat} {a b c : Int} (h : Tri w g a b c) : w.cell? ⟨g, 0, none⟩ = some (.int .i64 a) ∧ w.cell? ⟨g, 1, none⟩ = some (.int .i64 b) ∧ w.cell? ⟨g, 2, none⟩ = some (.int .i64 c) ∧ w.frozen? ⟨g, 0, none⟩ = false ∧ w.frozen? ⟨g, 1, none⟩ = false ∧ w.frozen? ⟨g, 2, none⟩ = false := by
  unfold Tri at h
  simp [World.cell?, World.frozen?, h]
theorem Tri.below {w w' : World} {g B : Nat} {a b c : Int} (h : Tri w g a b c) (hb : Below B w w') (hg : g < B) : Tri w' g a b c := (hb.block g hg).trans h
theorem Tri.new (w : World) (a b c : Int) : Tri (w.alloc (.cells #[.int .i64 a, .int .i64 b, .int .i64 c] 27)) w.heap.size a b c := World.alloc_heap_new w _
set_option maxHeartbeats 400000 in
theorem rin_err (a b c dx dy : Int) (w : World) (h : ¬ lchk a b c = 0) : Calls Try.prog 31 #[.agg #[.int .i64 a, .int .i64 b, .int .i64 c], .int .i64 dx, .int .i64 dy] w (IOut w a b c dx dy) := by
  have hv : (decide (lchk a b c = 0) && inn a b c dx dy) = false := by rw [decide_eq_false h]; rfl
  have HV := Lib.hid hv
  have x1 : (lchk a b c != 0) = true := by simpa using h
  have hT := Tri.new w a b c
  have hB : Below w.heap.size w (w.alloc (.cells #[.int .i64 a, .int .i64 b, .int .i64 c] 27)) := (Below.refl _ w).alloc (Nat.le_refl _) _
  have hc := Lib.hid (fun w (hb : Tri w w.heap.size a b c → True) => rlchk_any a b c w)
  have H1 := Lib.hid (show ∀ u, (Tri u w.heap.size a b c ∧ Below w.heap.size w u) → Calls Try.prog 32 #[.agg #[.int .i64 a, .int .i64 b, .int .i64 c]] u fun e w' => e = .returned (.int .i64 (lchk a b c)) ∧ (Tri w' w.heap.size a b c ∧ Below w.heap.size w w') from fun u hu => (rlchk_any a b c u).mono fun e w' ⟨h1, h2⟩ => ⟨h1, hu.1.below h2 hu.1.lt, hu.2.trans (h2.mono hu.2.size)⟩)
  obtain ⟨z, hz⟩ : ∃ z, lchk a b c = z := ⟨_, rfl⟩
  rw [hz] at x1 H1
  have HZ := Lib.hid hz
  have h0 := And.intro hT hB
  clear hv h hz hc hT hB
  go_enter Try.func31, Try.ntmps31
  go_wp2_with (go_at_call 32; refine (H1.out _ h0).mono ?_; rintro e w2 ⟨rfl, h0⟩; obtain ⟨q0, q1, q2, -⟩ := h0.1.all)
  go_ret2
  exact ⟨ret_bi HV.out.symm HZ.out.symm, h0.2⟩
/-- The letters of a good step. -/
structure SL (a b c dx dy q p r d m z q' m' d' : Int) : Prop where
  hq : dy.tdiv c = q
  hp : q.tmod a = p
  hr : dy.tmod c = r
  hd : dx.tmod a = d
  hm : p * b = m
  hz : (d - m).tmod a = z
  hq' : q % a = q'
  hm' : q' * b = m'
  hd' : dx % a = d'
set_option maxHeartbeats 800000 in
theorem pin_ok (a b c dx dy : Int) (w : World) (h : lchk a b c = 0) (hx0 : -9223372036854775808 ≤ dx) (hx1 : dx ≤ 9223372036854775807) (hy0 : -9223372036854775808 ≤ dy) (hy1 : dy ≤ 9223372036854775807) : Calls Try.prog 22 #[.agg #[.int .i64 a, .int .i64 b, .int .i64 c], .int .i64 dx, .int .i64 dy] w (IOut w a b c dx dy) := by
  have hT := Tri.new w a b c
  have hB : Below w.heap.size w (w.alloc (.cells #[.int .i64 a, .int .i64 b, .int .i64 c] 27)) := (Below.refl _ w).alloc (Nat.le_refl _) _
  have H1 := Lib.hid (show ∀ u, (Tri u w.heap.size a b c ∧ Below w.heap.size w u) → Calls Try.prog 26 #[.agg #[.int .i64 a, .int .i64 b, .int .i64 c]] u fun e w' => e = .returned (.int .i64 0) ∧ (Tri w' w.heap.size a b c ∧ Below w.heap.size w w') from fun u hu => by
    have hk := lchk_any a b c u
    rw [h] at hk
    exact hk.mono fun e w' ⟨h1, h2⟩ => ⟨h1, hu.1.below h2 hu.1.lt, hu.2.trans (h2.mono hu.2.size)⟩)
  obtain ⟨a0, a1, c0, c1, b0, b1⟩ := lchk_ok h
  have HZ := Lib.hid h
  have h0 := And.intro hT hB
  have hi : inn a b c dx dy = (decide (dy.tmod c = 0) && decide ((dx.tmod a - (dy.tdiv c).tmod a * b).tmod a = 0)) := by
    unfold inn
    by_cases hr : dy % c = 0
    · have e1 := inn_p (a := a) (b := b) (dx := dx) hr
      by_cases he : (dx - dy / c * b) % a = 0
      · rw [decide_eq_true ⟨hr, he⟩, decide_eq_true ((tm_zero _ _).2 hr), decide_eq_true (e1.2 he)]; rfl
      · rw [decide_eq_false (fun h => he h.2), decide_eq_false (fun h => he (e1.1 h)), Bool.and_false]
    · rw [decide_eq_false (fun h => hr h.1), decide_eq_false (fun h => hr ((tm_zero _ _).1 h)), Bool.false_and]
  have qb := td_bd dy c0 hy0 hy1
  have pb := tm_bd (dy.tdiv c) a0
  have rb := tm_bd dy c0
  have db := tm_bd dx a0
  have mb := mulb_bd (p := (dy.tdiv c).tmod a) (b := b) (by omega) (by omega) b0 (by omega)
  have zb := tm_bd (dx.tmod a - (dy.tdiv c).tmod a * b) a0
  obtain ⟨q, hq⟩ : ∃ q, dy.tdiv c = q := ⟨_, rfl⟩
  rw [hq] at hi qb pb mb zb
  obtain ⟨p, hp⟩ : ∃ p, q.tmod a = p := ⟨_, rfl⟩
  rw [hp] at hi pb mb zb
  obtain ⟨r, hr⟩ : ∃ r, dy.tmod c = r := ⟨_, rfl⟩
  rw [hr] at hi rb
  obtain ⟨d, hd⟩ : ∃ d, dx.tmod a = d := ⟨_, rfl⟩
  rw [hd] at hi db zb
  obtain ⟨m, hm⟩ : ∃ m, p * b = m := ⟨_, rfl⟩
  rw [hm] at hi mb zb
  obtain ⟨z, hz⟩ : ∃ z, (d - m).tmod a = z := ⟨_, rfl⟩
  rw [hz] at hi zb
  have x1 : ¬ c = 0 := by omega
  have x2 : ¬ a = 0 := by omega
  have y1 : IntKind.i64.wrap q = q := IntWalk.i64_in _ (by omega)
  have y2 : IntKind.i64.wrap m = m := IntWalk.i64_in _ (by omega)
  have y3 : IntKind.i64.wrap (d - m) = d - m := IntWalk.i64_in _ (by omega)
  have y4 : IntKind.i64.wrap (p * b) = m := by rw [hm]; exact y2
  have HI := Lib.hid hi
  clear hi h hT hB qb mb zb pb
  by_cases hr0 : r = 0
  · subst hr0
    by_cases hz0 : z = 0
    · subst hz0
      go_enter Try.func22, Try.ntmps22
      go_wp2_with (go_at_call 26; refine (H1.out _ h0).mono ?_; rintro e w2 ⟨rfl, h0⟩; obtain ⟨q0, q1, q2, -⟩ := h0.1.all)
      go_quiet (fail)
      go_wp2_with fail
      go_quiet (fail)
      go_wp2
      go_ret2
      exact ⟨ret_bi (by rw [HZ.out, HI.out]; rfl) HZ.out.symm, Go.Proofs.below_drewN' (Go.Proofs.below_drewN' h0.2 _) _⟩
    · have g1 : (z == 0) = false := by simpa using hz0
      go_enter Try.func22, Try.ntmps22
      go_wp2_with (go_at_call 26; refine (H1.out _ h0).mono ?_; rintro e w2 ⟨rfl, h0⟩; obtain ⟨q0, q1, q2, -⟩ := h0.1.all)
      go_quiet (fail)
      go_wp2_with fail
      go_quiet (fail)
      go_wp2
      go_ret2
      exact ⟨ret_bi (by rw [HZ.out, HI.out, decide_eq_false (show ¬ z = 0 by simpa using g1)]; rfl) HZ.out.symm, Go.Proofs.below_drewN' (Go.Proofs.below_drewN' h0.2 _) _⟩
  · have g1 : (r == 0) = false := by simpa using hr0
    go_enter Try.func22, Try.ntmps22
    go_wp2_with (go_at_call 26; refine (H1.out _ h0).mono ?_; rintro e w2 ⟨rfl, h0⟩; obtain ⟨q0, q1, q2, -⟩ := h0.1.all)
    go_quiet (fail)
    go_wp2_with fail
    go_quiet (fail)
    go_wp2
    go_ret2
    exact ⟨ret_bi (by rw [HZ.out, HI.out, decide_eq_false (show ¬ r = 0 by simpa using g1), Bool.false_and, Bool.and_false]) HZ.out.symm, Go.Proofs.below_drewN' (Go.Proofs.below_drewN' h0.2 _) _⟩
set_option maxHeartbeats 800000 in
theorem rin_ok (a b c dx dy : Int) (w : World) (h : lchk a b c = 0) (hx0 : -9223372036854775808 ≤ dx) (hx1 : dx ≤ 9223372036854775807) (hy0 : -9223372036854775808 ≤ dy) (hy1 : dy ≤ 9223372036854775807) : Calls Try.prog 31 #[.agg #[.int .i64 a, .int .i64 b, .int .i64 c], .int .i64 dx, .int .i64 dy] w (IOut w a b c dx dy) := by
  have hT := Tri.new w a b c
  have hB : Below w.heap.size w (w.alloc (.cells #[.int .i64 a, .int .i64 b, .int .i64 c] 27)) := (Below.refl _ w).alloc (Nat.le_refl _) _
  have H1 := Lib.hid (show ∀ u, (Tri u w.heap.size a b c ∧ Below w.heap.size w u) → Calls Try.prog 32 #[.agg #[.int .i64 a, .int .i64 b, .int .i64 c]] u fun e w' => e = .returned (.int .i64 0) ∧ (Tri w' w.heap.size a b c ∧ Below w.heap.size w w') from fun u hu => by
    have hk := rlchk_any a b c u
    rw [h] at hk
    exact hk.mono fun e w' ⟨h1, h2⟩ => ⟨h1, hu.1.below h2 hu.1.lt, hu.2.trans (h2.mono hu.2.size)⟩)
  obtain ⟨a0, a1, c0, c1, b0, b1⟩ := lchk_ok h
  have HZ := Lib.hid h
  have h0 := And.intro hT hB
  have hi : inn a b c dx dy = (decide (dy.tmod c = 0) && decide (dx % a = ((dy.tdiv c) % a * b).tmod a)) := by
    unfold inn
    by_cases hr : dy % c = 0
    · have e1 := inn_r (a := a) (b := b) (dx := dx) hr a0 b0
      by_cases he : (dx - dy / c * b) % a = 0
      · rw [decide_eq_true ⟨hr, he⟩, decide_eq_true ((tm_zero _ _).2 hr), decide_eq_true (e1.2 he)]; rfl
      · rw [decide_eq_false (fun h => he h.2), decide_eq_false (fun h => he (e1.1 h)), Bool.and_false]
    · rw [decide_eq_false (fun h => hr h.1), decide_eq_false (fun h => hr ((tm_zero _ _).1 h)), Bool.false_and]
  have qb := td_bd dy c0 hy0 hy1
  have pb0 := Int.emod_nonneg (dy.tdiv c) (show a ≠ 0 by omega)
  have pb1 := Int.emod_lt_of_pos (dy.tdiv c) (show 0 < a by omega)
  have rb := tm_bd dy c0
  have db0 := Int.emod_nonneg dx (show a ≠ 0 by omega)
  have db1 := Int.emod_lt_of_pos dx (show 0 < a by omega)
  have mb := mulb_bd (p := (dy.tdiv c) % a) (b := b) (by omega) (by omega) b0 (by omega)
  have zb := tm_bd ((dy.tdiv c) % a * b) a0
  have HM1 := Lib.hid (fun u => mod_any dx a u a0 a1 hx0 hx1)
  have HM2 := Lib.hid (fun u => mod_any (dy.tdiv c) a u a0 a1 qb.1 qb.2)
  obtain ⟨q, hq⟩ : ∃ q, dy.tdiv c = q := ⟨_, rfl⟩
  rw [hq] at hi qb pb0 pb1 mb zb HM2
  obtain ⟨p, hp⟩ : ∃ p, q % a = p := ⟨_, rfl⟩
  rw [hp] at hi pb0 pb1 mb zb HM2
  obtain ⟨r, hr⟩ : ∃ r, dy.tmod c = r := ⟨_, rfl⟩
  rw [hr] at hi rb
  obtain ⟨d, hd⟩ : ∃ d, dx % a = d := ⟨_, rfl⟩
  rw [hd] at hi db0 db1 HM1
  obtain ⟨m, hm⟩ : ∃ m, p * b = m := ⟨_, rfl⟩
  rw [hm] at hi mb zb
  obtain ⟨z, hz⟩ : ∃ z, m.tmod a = z := ⟨_, rfl⟩
  rw [hz] at hi zb
  have x1 : ¬ c = 0 := by omega
  have x2 : ¬ a = 0 := by omega
  have y1 : IntKind.i64.wrap q = q := IntWalk.i64_in _ (by omega)
  have y2 : IntKind.i64.wrap m = m := IntWalk.i64_in _ (by omega)
  have y4 : IntKind.i64.wrap (p * b) = m := by rw [hm]; exact y2
  have HI := Lib.hid hi
  clear hi h hT hB qb mb zb pb0 pb1 hp hd
  by_cases hr0 : r = 0
  · subst hr0
    obtain ⟨t, ht⟩ : ∃ t, (d == z) = t := ⟨_, rfl⟩
    have HT := Lib.hid (show decide (d = z) = t by rw [← ht]; rfl)
    go_enter Try.func31, Try.ntmps31
    go_wp2_with (go_at_call 32; refine (H1.out _ h0).mono ?_; rintro e w2 ⟨rfl, h0⟩; obtain ⟨q0, q1, q2, -⟩ := h0.1.all)
    go_quiet ((go_at_call 78; with_reducible exact Calls.quiet_of_same (HM2.out _)))
    go_wp2_with fail
    generalize hw3 : World.drewN w2 _ = w3
    have h3 : Tri w3 w.heap.size a b c ∧ Below w.heap.size w w3 := by rw [← hw3]; exact ⟨h0.1, Go.Proofs.below_drewN' h0.2 _⟩
    clear hw3 q0 q1 q2
    obtain ⟨q0, q1, q2, -⟩ := h3.1.all
    go_quiet ((go_at_call 78; with_reducible exact Calls.quiet_of_same (HM1.out _)))
    go_wp2
    go_ret2
    exact ⟨ret_bi (by rw [HZ.out, HI.out, HT.out]; rfl) HZ.out.symm, Go.Proofs.below_drewN' h3.2 _⟩
  · have g1 : (r != 0) = true := by simpa using hr0
    go_enter Try.func31, Try.ntmps31
    go_wp2_with (go_at_call 32; refine (H1.out _ h0).mono ?_; rintro e w2 ⟨rfl, h0⟩; obtain ⟨q0, q1, q2, -⟩ := h0.1.all)
    go_ret2
    exact ⟨ret_bi (by rw [HZ.out, HI.out, decide_eq_false (show ¬ r = 0 by simpa using g1), Bool.false_and, Bool.and_false]) HZ.out.symm, h0.2⟩
theorem pin_any (a b c dx dy : Int) (w : World) (hx0 : -9223372036854775808 ≤ dx) (hx1 : dx ≤ 9223372036854775807) (hy0 : -9223372036854775808 ≤ dy) (hy1 : dy ≤ 9223372036854775807) : Calls Try.prog 22 #[.agg #[.int .i64 a, .int .i64 b, .int .i64 c], .int .i64 dx, .int .i64 dy] w (IOut w a b c dx dy) := by
  by_cases h : lchk a b c = 0
  · exact pin_ok a b c dx dy w h hx0 hx1 hy0 hy1
  · exact pin_err a b c dx dy w h
theorem rin_any (a b c dx dy : Int) (w : World) (hx0 : -9223372036854775808 ≤ dx) (hx1 : dx ≤ 9223372036854775807) (hy0 : -9223372036854775808 ≤ dy) (hy1 : dy ≤ 9223372036854775807) : Calls Try.prog 31 #[.agg #[.int .i64 a, .int .i64 b, .int .i64 c], .int .i64 dx, .int .i64 dy] w (IOut w a b c dx dy) := by
  by_cases h : lchk a b c = 0
  · exact rin_ok a b c dx dy w h hx0 hx1 hy0 hy1
  · exact rin_err a b c dx dy w h
end Go.Proofs.Ytjbofdgdcnfmoaa
