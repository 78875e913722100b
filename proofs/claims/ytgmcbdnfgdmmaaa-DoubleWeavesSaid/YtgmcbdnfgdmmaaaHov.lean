/- isThread, isOver of the program; Is, Threads, Above of the reference. -/
import Derived.Test.YtgmcbdnfgdmmaaaGa
import Derived.Test.YtgmcbdnfgdmmaaaGb
import Derived.Test.YtgmcbdnfgdmmaaaBfs
namespace Go.Proofs.Ytgmcbdnfgdmmaaa
open Go.RowKit
set_option maxRecDepth 100000
set_option linter.unusedVariables false
set_option linter.unusedSimpArgs false

theorem isthr_any (W H : Nat) (A : Option Addr) (n c : Nat) (t : Int) (w : World) (hW : W ≤ 64) (hH : H ≤ 64) :
    Calls Try.prog 123 #[.agg #[.int .i64 (W : Nat), .int .i64 (H : Nat), .slice A n c], .int .i64 t] w fun e w' => e = .returned (.bool (decide (0 ≤ t ∧ t < ((W + H : Nat) : Int)))) ∧ Below w.heap.size w w' := by
  by_cases h0 : 0 ≤ t
  · by_cases h1 : t < (W : Int) + (H : Int)
    all_goals
      go_enter Try.func123, Try.ntmps123
      go_wp2
      go_ret
      exact ⟨ret_bool (by simp; omega), (Below.refl _ _).alloc (Nat.le_refl _) _⟩
  · go_enter Try.func123, Try.ntmps123
    go_wp2
    go_ret
    exact ⟨ret_bool (by simp; omega), (Below.refl _ _).alloc (Nat.le_refl _) _⟩
theorem rthr_any (W H : Nat) (A : Option Addr) (n c : Nat) (w : World) (hW : W ≤ 64) (hH : H ≤ 64) :
    Calls Try.prog 87 #[.agg #[.int .i64 (W : Nat), .int .i64 (H : Nat), .slice A n c]] w fun e w' => e = .returned (.int .i64 ((W + H : Nat) : Int)) ∧ Below w.heap.size w w' := by
  go_enter Try.func87, Try.ntmps87
  go_wp2
  go_ret
  exact ⟨ret_i64 (by omega), (Below.refl _ _).alloc (Nat.le_refl _) _⟩
theorem ris_any (W H : Nat) (A : Option Addr) (n c : Nat) (t : Int) (w : World) (hW : W ≤ 64) (hH : H ≤ 64) :
    Calls Try.prog 41 #[.agg #[.int .i64 (W : Nat), .int .i64 (H : Nat), .slice A n c], .int .i64 t] w fun e w' => e = .returned (.bool (decide (0 ≤ t ∧ t < ((W + H : Nat) : Int)))) ∧ Below w.heap.size w w' := by
  by_cases h0 : 0 ≤ t
  · have HT := Lib.hid (fun u => rthr_any W H A n c u hW hH)
    have HB0 := Lib.hid ((Below.refl w.heap.size w).alloc (Nat.le_refl _) (.cells #[.int .i64 (W : Nat), .int .i64 (H : Nat), .slice A n c] 24))
    by_cases h1 : t < ((W + H : Nat) : Int)
    all_goals
      go_enter Try.func41, Try.ntmps41
      go_wp2_with fail
      with_reducible refine Calls.mono (HT.out _) ?_
      rintro e w1 ⟨rfl, hb⟩
      have HB1 := Lib.hid (HB0.out.trans (hb.mono HB0.out.size))
      clear hb
      go_wp2
      go_ret
      exact ⟨ret_bool (by simp; omega), HB1.out⟩
  · go_enter Try.func41, Try.ntmps41
    go_wp2
    go_ret
    exact ⟨ret_bool (by simp; omega), (Below.refl _ _).alloc (Nat.le_refl _) _⟩
theorem ov_ee {W : Nat} {f : Nat → Bool} {a b : Nat} (h : a < W) (k : b < W) : ov W f a b = false := by unfold ov; rw [if_pos h, if_pos k]
theorem ov_pp {W : Nat} {f : Nat → Bool} {a b : Nat} (h : ¬ a < W) (k : ¬ b < W) : ov W f a b = false := by unfold ov; rw [if_neg h, if_neg k]
theorem ov_ep {W : Nat} {f : Nat → Bool} {a b : Nat} (h : a < W) (k : ¬ b < W) : ov W f a b = f ((b - W) * W + a) := by unfold ov; rw [if_pos h, if_neg k]
theorem ov_pe {W : Nat} {f : Nat → Bool} {a b : Nat} (h : ¬ a < W) (k : b < W) : ov W f a b = !f ((a - W) * W + b) := by unfold ov; rw [if_neg h, if_pos k]
theorem at_int {W a b : Nat} (k : ¬ b < W) : (((b : Int) - (W : Int)) * (W : Int) + (a : Int)).toNat = (b - W) * W + a := by
  have : ((b : Int) - (W : Int)) * (W : Int) + (a : Int) = (((b - W) * W + a : Nat) : Int) := by
    rw [Int.natCast_add, Int.natCast_mul, Int.ofNat_sub (by omega)]
  rw [this, Int.toNat_natCast]
theorem at_lt {W H a b : Nat} (h : a < W) (k : ¬ b < W) (hb : b < W + H) : (b - W) * W + a < W * H := ix_bd h (by omega)
set_option maxHeartbeats 800000 in
theorem isover_any (W H : Nat) (A : Option Addr) (c : Nat) (f : Nat → Bool) (a b : Nat) (w : World) (hr : Holds w w.heap.size A (W * H) f) (hW : W ≤ 64) (hH : H ≤ 64) (ha : a < W + H) (hb : b < W + H) :
    Calls Try.prog 127 #[.agg #[.int .i64 (W : Nat), .int .i64 (H : Nat), .slice A (W * H) c], .int .i64 (a : Nat), .int .i64 (b : Nat)] w fun e w' => e = .returned (.bool (ov W f a b)) ∧ Below w.heap.size w w' := by
  have hWH : W * H ≤ 4096 := Nat.mul_le_mul hW hH
  by_cases h : a < W <;> by_cases k : b < W
  · have E := Lib.hid (ov_ee (f := f) h k)
    go_enter Try.func127, Try.ntmps127
    go_wp2
    go_ret
    exact ⟨ret_bool E.out.symm, (Below.refl _ _).alloc (Nat.le_refl _) _⟩
  · have E := Lib.hid (ov_ep (f := f) h k)
    have hi := at_lt h k hb
    have e1 := at_int (a := a) k
    obtain ⟨m1, m2⟩ := mul_bd (W := (W : Int)) (y := (b : Int) - (W : Int)) (by omega) (by omega) (by omega) (by omega)
    obtain ⟨bb, o, rfl, hlt, hc⟩ := hr (by omega)
    have hc0 := hc _ hi
    rw [← e1] at hi
    have i1 : 0 ≤ ((b : Int) - (W : Int)) * (W : Int) + (a : Int) := by omega
    have i2 : ((b : Int) - (W : Int)) * (W : Int) + (a : Int) < ((W * H : Nat) : Int) := by omega
    clear hc e1 hi hr
    generalize W * H = N at *
    go_enter Try.func127, Try.ntmps127
    go_wp2
    go_ret
    exact ⟨ret_bool E.out.symm, (Below.refl _ _).alloc (Nat.le_refl _) _⟩
  · have E := Lib.hid (ov_pe (f := f) h k)
    have hi := at_lt k h ha
    have e1 := at_int (a := b) h
    obtain ⟨m1, m2⟩ := mul_bd (W := (W : Int)) (y := (a : Int) - (W : Int)) (by omega) (by omega) (by omega) (by omega)
    obtain ⟨bb, o, rfl, hlt, hc⟩ := hr (by omega)
    have hc0 := hc _ hi
    rw [← e1] at hi
    have i1 : 0 ≤ ((a : Int) - (W : Int)) * (W : Int) + (b : Int) := by omega
    have i2 : ((a : Int) - (W : Int)) * (W : Int) + (b : Int) < ((W * H : Nat) : Int) := by omega
    clear hc e1 hi hr
    generalize W * H = N at *
    go_enter Try.func127, Try.ntmps127
    go_wp2
    go_ret
    exact ⟨ret_bool E.out.symm, (Below.refl _ _).alloc (Nat.le_refl _) _⟩
  · have E := Lib.hid (ov_pp (f := f) h k)
    go_enter Try.func127, Try.ntmps127
    go_wp2
    go_ret
    exact ⟨ret_bool E.out.symm, (Below.refl _ _).alloc (Nat.le_refl _) _⟩
end Go.Proofs.Ytgmcbdnfgdmmaaa
