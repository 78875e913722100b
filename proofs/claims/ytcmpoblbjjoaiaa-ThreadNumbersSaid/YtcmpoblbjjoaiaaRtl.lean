/- The reference's Tile. -/
import Derived.Test.YtcmpoblbjjoaiaaRev
namespace Go.Proofs.Ytcmpoblbjjoaiaa
open Go.RowKit
set_option linter.unusedVariables false
set_option linter.unusedSimpArgs false

set_option maxHeartbeats 1600000 in
theorem rtile_err (A : Option Addr) (n c : Nat) (f F : Nat → Int) (t : Int) (w : World) (err : Int) (hn : n ≤ 420) (hr : Holds w w.heap.size A n f) (ht0 : -9223372036854775808 ≤ t) (ht1 : t ≤ 9223372036854775807) (hx : tchk n f t = err) (hne : (err != 0) = true) :
    Calls Try.prog 18 #[.slice A n c, .int .i64 t] w (LOut w 0 F err) := by
  have HR := Lib.hid hr
  obtain ⟨e1, he1⟩ : ∃ e1, lchk n f = e1 := ⟨_, rfl⟩
  have HC := Lib.hid (rchk_is (A := A) c hn he1)
  have hx' : (if e1 ≠ 0 then e1 else if t < 0 then 2 else if 0 < n ∧ 400 / (n : Int) < t then 4 else 0) = err := by rw [← hx, ← he1]; rfl
  clear hx hr he1
  by_cases g1 : e1 = 0
  · subst g1
    rw [if_neg (by simp)] at hx'
    by_cases g2 : t < 0
    · have d2 : decide (t < 0) = true := by simp [g2]
      rw [if_pos g2] at hx'
      subst hx'
      go_enter Try.func18, Try.ntmps18
      go_wp2_with fail
      refine (HC.out _ HR.out).mono ?_
      rintro e w1 ⟨rfl, hb⟩
      have HF := Lib.hid hb
      clear hb
      go_wp2
      go_ret2
      exact LOut.err HF.out
    · have d2 : decide (t < 0) = false := by simp [g2]
      rw [if_neg g2] at hx'
      by_cases g3 : 0 < n ∧ 400 / (n : Int) < t
      · rw [if_pos g3] at hx'
        subst hx'
        obtain ⟨g3, g4⟩ := g3
        have z1 : ¬ n = 0 := by omega
        obtain ⟨q, hq⟩ : ∃ q, 400 / (n : Int) = q := ⟨_, rfl⟩
        have q0 : 0 ≤ q := by rw [← hq]; exact Int.ediv_nonneg (by omega) (by omega)
        have q1 : q ≤ 400 := by rw [← hq]; exact Int.ediv_le_self _ (by omega)
        rw [hq] at g4
        have z3 : (400 : Int).tdiv (n : Int) = q := by rw [Int.tdiv_eq_ediv_of_nonneg (by omega)]; exact hq
        have d4 : decide (q < t) = true := by simp [g4]
        have d3 : decide ((0 : Int) < (n : Int)) = true := by simp; omega
        go_enter Try.func18, Try.ntmps18
        go_wp2_with fail
        refine (HC.out _ HR.out).mono ?_
        rintro e w1 ⟨rfl, hb⟩
        have HF := Lib.hid hb
        clear hb
        go_wp2
        go_ret2
        exact LOut.err HF.out
      · rw [if_neg g3] at hx'
        subst hx'
        simp at hne
  · have g1' : (e1 != 0) = true := by simp [g1]
    rw [if_pos g1] at hx'
    subst hx'
    clear hne
    go_enter Try.func18, Try.ntmps18
    go_wp2_with fail
    refine (HC.out _ HR.out).mono ?_
    rintro e w1 ⟨rfl, hb⟩
    have HB := Lib.hid hb
    clear hb
    go_wp2_with fail
    refine (HC.out _ ((HR.out.below HB.out).more HB.out.size)).mono ?_
    rintro e w2 ⟨rfl, hb⟩
    have HF := Lib.hid (HB.out.trans (hb.mono HB.out.size))
    clear hb
    go_wp2
    go_ret2
    exact LOut.err HF.out


theorem tile_step {n k : Nat} {f : Nat → Int} (hn : 0 < n) : ∀ i, i < k * n + n → both (k * n) (fun x => f (x % n)) f i = f (i % n) := by
  intro i hi
  unfold both
  by_cases h : i < k * n
  · rw [if_pos h]
  · rw [if_neg h]
    congr 1
    have e : i = n * k + (i - k * n) := by rw [Nat.mul_comm]; omega
    conv => rhs; rw [e]
    rw [Nat.mul_add_mod, Nat.mod_eq_of_lt (by omega)]

set_option maxHeartbeats 3200000 in
theorem rtile_ok (A : Option Addr) (n c : Nat) (f : Nat → Int) (T : Nat) (w : World) (hA : A = none → c = 0) (hr : Holds w w.heap.size A n f) (hT : T ≤ 9223372036854775807) (hx : lchk n f = 0) (hq : 0 < n → (T : Int) ≤ 400 / (n : Int)) :
    Calls Try.prog 18 #[.slice A n c, .int .i64 T] w (LOut w (n * T) (fun x => f (x % n)) 0) := by
  have hn := lchk_le hx
  have hmul := tile_mul hq
  have HR := Lib.hid hr
  have HA := Lib.hid hA
  have HC := Lib.hid (rchk_is (A := A) c (by omega) hx)
  have d2 : decide ((T : Int) < 0) = false := by simp
  clear hx hr hA
  rcases Nat.eq_zero_or_pos n with h0 | h0
  · subst h0
    clear hq hmul
    rw [Nat.zero_mul]
    cases d6 : decide (0 < T)
    all_goals
      go_enter Try.func18, Try.ntmps18
      go_wp2_with fail
      refine (HC.out _ HR.out).mono ?_
      rintro e w1 ⟨rfl, hb⟩
      have HF := Lib.hid hb
      clear hb
      go_wp2
      go_loopw [6, 7] (fun v i wr => v = .slice none 0 0 ∧ i = .int .i64 0 ∧ wr = w1) (fun _ _ _ => 0)
      case atStart => exact ⟨rfl, rfl, rfl⟩
      case round =>
        obtain ⟨rfl, rfl, rfl⟩ := hrel
        go_wp2
        go_ret2
        exact LOut.err HF.out
  · have z1 : ¬ n = 0 := by omega
    have hq := hq h0
    obtain ⟨q, hqe⟩ : ∃ q, 400 / (n : Int) = q := ⟨_, rfl⟩
    have q0 : 0 ≤ q := by rw [← hqe]; exact Int.ediv_nonneg (by omega) (by omega)
    have q1 : q ≤ 400 := by rw [← hqe]; exact Int.ediv_le_self _ (by omega)
    rw [hqe] at hq
    have z3 : (400 : Int).tdiv (n : Int) = q := by rw [Int.tdiv_eq_ediv_of_nonneg (by omega)]; exact hqe
    have d4 : decide (q < (T : Int)) = false := by simp; omega
    have d3 : decide ((0 : Int) < (n : Int)) = true := by simp; omega
    clear hqe
    go_enter Try.func18, Try.ntmps18
    go_wp2_with fail
    refine (HC.out _ HR.out).mono ?_
    rintro e w1 ⟨rfl, hb⟩
    have HF := Lib.hid hb
    clear hb
    go_wp2
    go_loopw [6, 7] (fun v i wr => ∃ k : Nat, k ≤ T ∧ i = .int .i64 k ∧ Own wr w.heap.size v (k * n) (fun x => f (x % n)) ∧ Below w.heap.size w wr) (fun _ i _ => T - (intOf i).toNat)
    case atStart => exact ⟨0, Nat.zero_le _, rfl, by rw [Nat.zero_mul]; exact Own.nil _ _ _, HF.out⟩
    case round =>
      obtain ⟨k, hk, rfl, hown, hbel⟩ := hrel
      by_cases hlt : k < T
      · have hsz := hbel.size
        have y1 : decide ((k : Int) < (T : Int)) = true := by simp; omega
        have hkn : k * n ≤ 400 := by have := Nat.mul_le_mul_left n (show k ≤ T by omega); rw [Nat.mul_comm k n]; omega
        have HO := Lib.hid hown
        have HB1 := Lib.hid hbel
        clear hown hbel
        go_wp2_with (at_builtin; refine appN _ rfl _ _ (by rfl) w.heap.size (by rfl) HO.out (by rfl) HA.out (HR.out.below HB1.out) (by omega) (by omega) hsz ?_; intro v' w1 hown1 hb1; have HO1 := Lib.hid hown1; have HB2 := Lib.hid hb1; clear hown1 hb1)
        refine ⟨⟨k + 1, by omega, by go_num, ?_, HB1.out.trans HB2.out⟩, by simp [intOf]; omega⟩
        rw [Nat.add_mul, Nat.one_mul]
        exact HO1.out.congr (tile_step h0)
      · have e : k = T := by omega
        subst e
        have y1 : decide ((k : Int) < (k : Int)) = false := by simp
        rw [Nat.mul_comm] at hown
        have HG := Lib.hid (LOut.own hown hbel)
        clear hown hbel
        go_wp2
        go_ret2
        exact HG.out
end Go.Proofs.Ytcmpoblbjjoaiaa
