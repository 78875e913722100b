/- Is by the reference; Great. -/
import Derived.Test.YtjbofdgdcnfmoaaRis
import Derived.Test.YtjbofdgdcnfmoaaSyd
namespace Go.Proofs.Ytjbofdgdcnfmoaa
open Go.RowKit
set_option maxRecDepth 100000
set_option linter.unusedVariables false
set_option linter.unusedSimpArgs false

set_option maxHeartbeats 400000 in
theorem great6_any (W H : Int) (A : Option Addr) (n c : Nat) (w : World) (hn : n ≤ maxLen) : Calls Try.prog 28 #[.agg #[.int .i64 W, .int .i64 H, .slice A n c]] w fun e w' => e = .returned (.bool (decide (100 < n))) ∧ Below w.heap.size w w' := by
  by_cases h : 100 < n
  · have hd : decide (100 < n) = true := decide_eq_true h
    have HD := Lib.hid hd
    have x1 : (100 : Int) < (n : Int) := by omega
    clear hd
    go_enter Try.func28, Try.ntmps28
    go_wp2
    go_ret
    exact ⟨by first | rfl | exact ret_bool HD.out.symm, (Below.refl _ _).alloc (Nat.le_refl _) _⟩
  · have hd : decide (100 < n) = false := decide_eq_false h
    have HD := Lib.hid hd
    have x1 : ¬ (100 : Int) < (n : Int) := by omega
    clear hd
    go_enter Try.func28, Try.ntmps28
    go_wp2
    go_ret
    exact ⟨by first | rfl | exact ret_bool HD.out.symm, (Below.refl _ _).alloc (Nat.le_refl _) _⟩
set_option maxHeartbeats 400000 in
theorem ris_err (W H : Int) (A : Option Addr) (n c : Nat) (dx dy : Int) (w : World) (hn : n ≤ 4200) (z : Int) (hx : chk W H n = z) (hne : (z != 0) = true) :
    Calls Try.prog 29 #[.agg #[.int .i64 W, .int .i64 H, .slice A n c], .int .i64 dx, .int .i64 dy] w fun e w' => e = .returned (.tuple #[.bool false, .int .i64 z]) ∧ Below w.heap.size w w' := by
  have H1 := Lib.hid (show ∀ u, (Box u w.heap.size W H (.slice A n c) ∧ Below w.heap.size w u) → Calls Try.prog 75 #[.agg #[.int .i64 W, .int .i64 H, .slice A n c]] u fun e w' => e = .returned (.int .i64 z) ∧ (Box w' w.heap.size W H (.slice A n c) ∧ Below w.heap.size w w') from fun u hu => by
    have h := rchk_any W H A n c u hn
    rw [hx] at h
    exact h.mono fun e w' ⟨h1, h2⟩ => ⟨h1, hu.1.below h2 hu.1.lt, hu.2.trans (h2.mono hu.2.size)⟩)
  have h0 := And.intro (Box.new w W H (.slice A n c)) ((Below.refl w.heap.size w).alloc (Nat.le_refl _) (.cells #[.int .i64 W, .int .i64 H, .slice A n c] 24))
  clear hx
  go_enter Try.func29, Try.ntmps29
  go_wp2_with (go_at_call 75; refine (H1.out _ h0).mono ?_; rintro e w2 ⟨rfl, h0⟩; obtain ⟨q0, q1, q2, -⟩ := h0.1.all)
  go_ret2
  exact ⟨rfl, h0.2⟩
set_option maxHeartbeats 400000 in
theorem ris_ok (W H : Nat) (A : Option Addr) (c : Nat) (f : Nat → Bool) (dx dy : Int) (a b : Nat) (w : World) (hr : Holds w w.heap.size A (W * H) f) (hW0 : 1 ≤ W) (hW : W ≤ 64) (hH0 : 1 ≤ H) (hH : H ≤ 64)
    (hx0 : -9223372036854775808 ≤ dx) (hx1 : dx ≤ 9223372036854775807) (hy0 : -9223372036854775808 ≤ dy) (hy1 : dy ≤ 9223372036854775807) (ha : dx % (W : Int) = (a : Int)) (hb : dy % (H : Int) = (b : Int)) :
    Calls Try.prog 29 #[.agg #[.int .i64 (W : Nat), .int .i64 (H : Nat), .slice A (W * H) c], .int .i64 dx, .int .i64 dy] w fun e w' => e = .returned (.tuple #[.bool (decide (rep W H f a b)), .int .i64 0]) ∧ Below w.heap.size w w' := by
  have hWH : W * H ≤ 4096 := Nat.mul_le_mul hW hH
  have H1 := Lib.hid (show ∀ u, (Box u w.heap.size (W : Nat) (H : Nat) (.slice A (W * H) c) ∧ Below w.heap.size w u) → Calls Try.prog 75 #[.agg #[.int .i64 (W : Nat), .int .i64 (H : Nat), .slice A (W * H) c]] u fun e w' => e = .returned (.int .i64 0) ∧ (Box w' w.heap.size (W : Nat) (H : Nat) (.slice A (W * H) c) ∧ Below w.heap.size w w') from fun u hu => by
    have h := rchk_any W H A (W * H) c u (by omega)
    rw [chk_zero hW0 hW hH0 hH] at h
    exact h.mono fun e w' ⟨h1, h2⟩ => ⟨h1, hu.1.below h2 hu.1.lt, hu.2.trans (h2.mono hu.2.size)⟩)
  have H2 := Lib.hid (show ∀ u, (Box u w.heap.size (W : Nat) (H : Nat) (.slice A (W * H) c) ∧ Below w.heap.size w u) → Calls Try.prog 76 #[.agg #[.int .i64 (W : Nat), .int .i64 (H : Nat), .slice A (W * H) c], .int .i64 dx, .int .i64 dy] u fun e w' => e = .returned (.bool (decide (rep W H f a b))) ∧ (Box w' w.heap.size (W : Nat) (H : Nat) (.slice A (W * H) c) ∧ Below w.heap.size w w') from fun u hu =>
    (ris6_core W H A c f dx dy a b u ((hr.below hu.2).more hu.2.size) hW0 hW hH0 hH hx0 hx1 hy0 hy1 ha hb).mono fun e w' ⟨h1, h2⟩ => ⟨h1, hu.1.below h2 hu.1.lt, hu.2.trans (h2.mono hu.2.size)⟩)
  have h0 := And.intro (Box.new w (W : Nat) (H : Nat) (.slice A (W * H) c)) ((Below.refl w.heap.size w).alloc (Nat.le_refl _) (.cells #[.int .i64 (W : Nat), .int .i64 (H : Nat), .slice A (W * H) c] 24))
  obtain ⟨t, ht⟩ : ∃ t, decide (rep W H f a b) = t := ⟨_, rfl⟩
  rw [ht] at H2
  have HT := Lib.hid ht
  clear ht hr ha hb
  go_enter Try.func29, Try.ntmps29
  go_wp2_with (first
    | (go_at_call 75; refine (H1.out _ h0).mono ?_; rintro e w2 ⟨rfl, h0⟩; obtain ⟨q0, q1, q2, -⟩ := h0.1.all)
    | (go_at_call 76; refine (H2.out _ h0).mono ?_; rintro e w3 ⟨rfl, h0⟩))
  go_ret2
  exact ⟨by rw [HT.out]; rfl, h0.2⟩
end Go.Proofs.Ytjbofdgdcnfmoaa
