/- The greatest common divisor by both sides. -/
import Derived.Test.YtjbofdgdcnfmoaaBase
import Derived.Test.YtjbofdgdcnfmoaaFam
namespace Go.Proofs.Ytjbofdgdcnfmoaa
open Go.RowKit
set_option maxRecDepth 100000
set_option linter.unusedVariables false
set_option linter.unusedSimpArgs false

set_option maxHeartbeats 400000 in
theorem pgcd_any (a b : Nat) (w : World) (ha : a ≤ 64) (hb : b ≤ 64) : Calls Try.prog 72 #[.int .i64 (a : Nat), .int .i64 (b : Nat)] w fun e w' => e = .returned (.int .i64 (Nat.gcd a b : Nat)) ∧ ∃ m, w' = w.drewN m := by
  go_enter Try.func72, Try.ntmps72
  go_wp2_with fail
  go_loopw [0, 1] (fun s t wr => ∃ x y : Nat, x ≤ 64 ∧ y ≤ 64 ∧ s = .int .i64 x ∧ t = .int .i64 y ∧ Hid (Nat.gcd x y = Nat.gcd a b) ∧ Hid (∃ m, wr = w.drewN m)) (fun _ t _ => (intOf t).toNat)
  case atStart => exact ⟨a, b, ha, hb, rfl, rfl, rfl, 0, rfl⟩
  case round =>
    obtain ⟨x, y, hx, hy, rfl, rfl, hg, hm⟩ := hrel
    by_cases h0 : y = 0
    · subst h0
      have e1 : Nat.gcd x 0 = x := Nat.gcd_zero_right x
      have HE := Lib.hid (show x = Nat.gcd a b from e1.symm.trans hg.out)
      clear e1 hg
      go_wp2
      go_ret
      exact ⟨by rw [HE.out]; rfl, hm.out⟩
    · have h1 : y ≠ 0 := h0
      have x1 : ((y : Int) != 0) = true := by simp; omega
      have e1 : (x : Int).tmod (y : Int) = ((x % y : Nat) : Int) := by rw [Int.tmod_eq_emod_of_nonneg (by omega)]; omega
      have e3 : x % y < y := Nat.mod_lt _ (by omega)
      have e2 : ¬ (y : Int) = 0 := by omega
      have HG := Lib.hid (show Nat.gcd y (x % y) = Nat.gcd a b by rw [← hg.out, Nat.gcd_comm x y, Nat.gcd_rec y x, Nat.gcd_comm])
      generalize x % y = r at *
      go_wp2
      go_quiet (fail)
      go_wp2
      obtain ⟨m, hm⟩ := hm.out
      exact ⟨⟨y, r, hy, by omega, rfl, rfl, HG, Lib.hid ⟨m + nq, by rw [hm]; show World.drewN (World.drewN w m) nq = _; unfold World.drewN; rw [← Nat.add_assoc]⟩⟩, by simp [intOf]; omega⟩
set_option maxHeartbeats 400000 in
theorem rgcd_any (a b : Nat) (w : World) (ha : a ≤ 64) (hb : b ≤ 64) : Calls Try.prog 82 #[.int .i64 (a : Nat), .int .i64 (b : Nat)] w fun e w' => e = .returned (.int .i64 (Nat.gcd a b : Nat)) ∧ ∃ m, w' = w.drewN m := by
  go_enter Try.func82, Try.ntmps82
  go_wp2_with fail
  go_loopw [0, 1] (fun s t wr => ∃ x y : Nat, x ≤ 64 ∧ y ≤ 64 ∧ s = .int .i64 x ∧ t = .int .i64 y ∧ Hid (Nat.gcd x y = Nat.gcd a b) ∧ Hid (∃ m, wr = w.drewN m)) (fun _ t _ => (intOf t).toNat)
  case atStart => exact ⟨a, b, ha, hb, rfl, rfl, rfl, 0, rfl⟩
  case round =>
    obtain ⟨x, y, hx, hy, rfl, rfl, hg, hm⟩ := hrel
    by_cases h0 : y = 0
    · subst h0
      have e1 : Nat.gcd x 0 = x := Nat.gcd_zero_right x
      have HE := Lib.hid (show x = Nat.gcd a b from e1.symm.trans hg.out)
      clear e1 hg
      go_wp2
      go_ret
      exact ⟨by rw [HE.out]; rfl, hm.out⟩
    · have h1 : y ≠ 0 := h0
      have x1 : decide ((y : Int) > 0) = true := by simp; omega
      have e1 : (x : Int).tmod (y : Int) = ((x % y : Nat) : Int) := by rw [Int.tmod_eq_emod_of_nonneg (by omega)]; omega
      have e3 : x % y < y := Nat.mod_lt _ (by omega)
      have e2 : ¬ (y : Int) = 0 := by omega
      have HG := Lib.hid (show Nat.gcd y (x % y) = Nat.gcd a b by rw [← hg.out, Nat.gcd_comm x y, Nat.gcd_rec y x, Nat.gcd_comm])
      generalize x % y = r at *
      go_wp2
      go_quiet (fail)
      go_wp2
      obtain ⟨m, hm⟩ := hm.out
      exact ⟨⟨y, r, hy, by omega, rfl, rfl, HG, Lib.hid ⟨m + nq, by rw [hm]; show World.drewN (World.drewN w m) nq = _; unfold World.drewN; rw [← Nat.add_assoc]⟩⟩, by simp [intOf]; omega⟩
theorem drewN_two (w : World) (m n : Nat) : (w.drewN m).drewN n = w.drewN (m + n) := by
  show World.drewN (World.drewN w m) n = _; unfold World.drewN; rw [← Nat.add_assoc]
theorem pgcd_q (a b : Nat) (w : World) (n : Nat) (ha : a ≤ 64) (hb : b ≤ 64) : Calls Try.prog 72 #[.int .i64 (a : Nat), .int .i64 (b : Nat)] (w.drewN n) fun e w' => e = .returned (.int .i64 (Nat.gcd a b : Nat)) ∧ ∃ m, w' = w.drewN m :=
  (pgcd_any a b _ ha hb).mono fun e w' ⟨h, m, k⟩ => ⟨h, n + m, by rw [k, drewN_two]⟩
theorem rgcd_q (a b : Nat) (w : World) (n : Nat) (ha : a ≤ 64) (hb : b ≤ 64) : Calls Try.prog 82 #[.int .i64 (a : Nat), .int .i64 (b : Nat)] (w.drewN n) fun e w' => e = .returned (.int .i64 (Nat.gcd a b : Nat)) ∧ ∃ m, w' = w.drewN m :=
  (rgcd_any a b _ ha hb).mono fun e w' ⟨h, m, k⟩ => ⟨h, n + m, by rw [k, drewN_two]⟩
end Go.Proofs.Ytjbofdgdcnfmoaa
