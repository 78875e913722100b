/- Whether a list has numbers below N, by the program and by the reference. -/
import Derived.Test.YtbafhdinalapoaaDft
namespace Go.Proofs.Ytbafhdinalapoaa
open Go.RowKit
set_option linter.unusedVariables false
set_option linter.unusedSimpArgs false

set_option maxHeartbeats 1600000 in
theorem hasn_any (A : Option Addr) (n c : Nat) (f : Nat → Int) (N : Int) (B : Nat) (w : World) (hn : n ≤ 5000) (hr : L2.Holds w B A n f) :
    Calls Try.prog 53 #[.slice A n c, .int .i64 N] w fun e w' => e = .returned (.bool (wi n f N)) ∧ w = w' := by
  have HR := Lib.hid hr
  clear hr
  go_enter Try.func53, Try.ntmps53
  go_wp2
  go_loopw [9] (fun i wr => ∃ k : Nat, k ≤ n ∧ i = .int .i64 k ∧ Hid (∀ i, i < k → 0 ≤ f i ∧ f i < N) ∧ w = wr) (fun i _ => n - (intOf i).toNat)
  case atStart => exact ⟨0, Nat.zero_le _, rfl, Lib.hid fun i hi => absurd hi (by omega), rfl⟩
  case round =>
    obtain ⟨k, hk, rfl, hall, rfl⟩ := hrel
    by_cases hlt : k < n
    · obtain ⟨b, o, rfl, hbl, hc⟩ := HR.out (by omega)
      have c1 := hc k hlt
      clear hc
      have y1 : (0 : Int) ≤ (k : Int) := by omega
      have y2 : (k : Int) < (n : Int) := by omega
      obtain ⟨v, hv⟩ : ∃ v, f k = v := ⟨_, rfl⟩
      rw [hv] at c1
      have HV := Lib.hid hv
      clear hv
      by_cases g1 : v < 0
      · have d1 : decide (v < 0) = true := by simp [g1]
        have hbad : wi n f N = false := by
          unfold wi
          rw [decide_eq_false_iff_not]
          rintro ⟨_, h⟩
          have := h k hlt
          rw [HV.out] at this
          omega
        have HB := Lib.hid hbad
        clear hbad
        go_wp2
        go_ret
        exact ⟨by rw [HB.out]; rfl, rfl⟩
      · have d1 : decide (v < 0) = false := by simp [g1]
        by_cases g2 : N ≤ v
        · have d2 : decide (N ≤ v) = true := by simp [g2]
          have hbad : wi n f N = false := by
            unfold wi
            rw [decide_eq_false_iff_not]
            rintro ⟨_, h⟩
            have := h k hlt
            rw [HV.out] at this
            omega
          have HB := Lib.hid hbad
          clear hbad
          go_wp2
          go_ret
          exact ⟨by rw [HB.out]; rfl, rfl⟩
        · have d2 : decide (N ≤ v) = false := by simp [g2]
          have HK := Lib.hid (show 0 ≤ f k ∧ f k < N by rw [HV.out]; omega)
          go_wp2
          refine ⟨⟨k + 1, by omega, by go_num, fun i hi => ?_, trivial⟩, by simp [intOf]; omega⟩
          rcases Nat.lt_succ_iff_lt_or_eq.1 hi with h | rfl
          · exact hall.out i h
          · exact HK.out
    · have e : k = n := by omega
      subst e
      have hok : wi k f N = decide (0 < k) := by
        unfold wi
        apply decide_eq_decide.2
        constructor
        · rintro ⟨h, _⟩; exact h
        · intro h; exact ⟨h, hall.out⟩
      have HO := Lib.hid hok
      clear hok
      go_wp2
      go_ret
      exact ⟨ret_bool HO.out.symm, rfl⟩

set_option maxHeartbeats 1600000 in
theorem within_any (A : Option Addr) (n c : Nat) (f : Nat → Int) (N : Int) (B : Nat) (w : World) (hn : n ≤ 5000) (hr : L2.Holds w B A n f) :
    Calls Try.prog 71 #[.slice A n c, .int .i64 N] w fun e w' => e = .returned (.bool (wi n f N)) ∧ w = w' := by
  have HR := Lib.hid hr
  clear hr
  go_enter Try.func71, Try.ntmps71
  go_wp2
  go_loopw [5] (fun i wr => ∃ k : Nat, k ≤ n ∧ i = .int .i64 k ∧ Hid (∀ i, i < k → 0 ≤ f i ∧ f i < N) ∧ w = wr) (fun i _ => n - (intOf i).toNat)
  case atStart => exact ⟨0, Nat.zero_le _, rfl, Lib.hid fun i hi => absurd hi (by omega), rfl⟩
  case round =>
    obtain ⟨k, hk, rfl, hall, rfl⟩ := hrel
    by_cases hlt : k < n
    · obtain ⟨b, o, rfl, hbl, hc⟩ := HR.out (by omega)
      have c1 := hc k hlt
      clear hc
      have y1 : (0 : Int) ≤ (k : Int) := by omega
      have y2 : (k : Int) < (n : Int) := by omega
      obtain ⟨v, hv⟩ : ∃ v, f k = v := ⟨_, rfl⟩
      rw [hv] at c1
      have HV := Lib.hid hv
      clear hv
      by_cases g1 : v < 0
      · have d1 : decide (v < 0) = true := by simp [g1]
        have hbad : wi n f N = false := by
          unfold wi
          rw [decide_eq_false_iff_not]
          rintro ⟨_, h⟩
          have := h k hlt
          rw [HV.out] at this
          omega
        have HB := Lib.hid hbad
        clear hbad
        go_wp2
        go_ret
        exact ⟨by rw [HB.out]; rfl, rfl⟩
      · have d1 : decide (v < 0) = false := by simp [g1]
        by_cases g2 : N ≤ v
        · have d2 : decide (N ≤ v) = true := by simp [g2]
          have hbad : wi n f N = false := by
            unfold wi
            rw [decide_eq_false_iff_not]
            rintro ⟨_, h⟩
            have := h k hlt
            rw [HV.out] at this
            omega
          have HB := Lib.hid hbad
          clear hbad
          go_wp2
          go_ret
          exact ⟨by rw [HB.out]; rfl, rfl⟩
        · have d2 : decide (N ≤ v) = false := by simp [g2]
          have HK := Lib.hid (show 0 ≤ f k ∧ f k < N by rw [HV.out]; omega)
          go_wp2
          refine ⟨⟨k + 1, by omega, by go_num, fun i hi => ?_, trivial⟩, by simp [intOf]; omega⟩
          rcases Nat.lt_succ_iff_lt_or_eq.1 hi with h | rfl
          · exact hall.out i h
          · exact HK.out
    · have e : k = n := by omega
      subst e
      have hok : wi k f N = decide (0 < k) := by
        unfold wi
        apply decide_eq_decide.2
        constructor
        · rintro ⟨h, _⟩; exact h
        · intro h; exact ⟨h, hall.out⟩
      have HO := Lib.hid hok
      clear hok
      go_wp2
      go_ret
      exact ⟨ret_bool HO.out.symm, rfl⟩

theorem grid_chk (nm : Nat) (W H : Int) (A : Option Addr) (n c : Nat) (w : World) : True := trivial
end Go.Proofs.Ytbafhdinalapoaa
