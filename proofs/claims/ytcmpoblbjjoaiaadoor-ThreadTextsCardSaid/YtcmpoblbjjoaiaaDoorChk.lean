/- The program's Check of a list. -/
import Derived.Test.YtcmpoblbjjoaiaaDoorBase
namespace Go.Proofs.YtcmpoblbjjoaiaaDoor
open Go.RowKit
set_option linter.unusedVariables false
set_option linter.unusedSimpArgs false

set_option maxHeartbeats 1600000 in
theorem check_any (A : Option Addr) (n c : Nat) (f : Nat → Int) (w : World) (hn : n ≤ 420) (hr : Holds w w.heap.size A n f) :
    Calls Tryd.prog 18 #[.slice A n c] w fun e w' => e = .returned (.int .i64 (lchk n f)) ∧ Below w.heap.size w w' := by
  have HR := Lib.hid hr
  clear hr
  by_cases h1 : 400 < n
  · have b1 : decide ((400 : Int) < (n : Int)) = true := by simp; omega
    have e : lchk n f = 4 := by unfold lchk; rw [if_pos h1]
    rw [e]
    go_enter Tryd.func18, Tryd.ntmps18
    go_wp2
    go_ret
    exact ⟨rfl, Below.refl _ _⟩
  · have b1 : decide ((400 : Int) < (n : Int)) = false := by simp; omega
    have e : lchk n f = if decide (∀ i, i < n → 0 ≤ f i ∧ f i < 400) then 0 else 8 := by unfold lchk; rw [if_neg h1]
    have HE := Lib.hid e
    clear e
    go_enter Tryd.func18, Tryd.ntmps18
    go_wp2
    go_loopw [10] (fun i wr => ∃ k : Nat, k ≤ n ∧ i = .int .i64 k ∧ Hid (∀ i, i < k → 0 ≤ f i ∧ f i < 400) ∧ Below w.heap.size w wr) (fun i _ => n - (intOf i).toNat)
    case atStart => exact ⟨0, Nat.zero_le _, rfl, Lib.hid fun i hi => absurd hi (by omega), Below.refl _ _⟩
    case round =>
      obtain ⟨k, hk, rfl, hall, hbel⟩ := hrel
      by_cases hlt : k < n
      · obtain ⟨b, o, rfl, hbl, hc⟩ := (HR.out.below hbel) (by omega)
        have c1 := hc k hlt
        clear hc
        have B1 := Lib.hid hbel
        clear hbel
        have y1 : (0 : Int) ≤ (k : Int) := by omega
        have y2 : (k : Int) < (n : Int) := by omega
        obtain ⟨v, hv⟩ : ∃ v, f k = v := ⟨_, rfl⟩
        rw [hv] at c1
        have HV := Lib.hid hv
        clear hv
        by_cases g1 : v < 0
        · have d1 : decide (v < 0) = true := by simp [g1]
          have hbad : lchk n f = 8 := by
            rw [HE.out, if_neg]
            simp only [decide_eq_true_eq]
            intro h
            have := h k hlt
            rw [HV.out] at this
            omega
          have HB := Lib.hid hbad
          clear hbad
          go_wp2
          go_ret
          exact ⟨by rw [HB.out]; rfl, B1.out⟩
        · have d1 : decide (v < 0) = false := by simp [g1]
          by_cases g2 : 400 ≤ v
          · have d2 : decide (400 ≤ v) = true := by simp [g2]
            have hbad : lchk n f = 8 := by
              rw [HE.out, if_neg]
              simp only [decide_eq_true_eq]
              intro h
              have := h k hlt
              rw [HV.out] at this
              omega
            have HB := Lib.hid hbad
            clear hbad
            go_wp2
            go_ret
            exact ⟨by rw [HB.out]; rfl, B1.out⟩
          · have d2 : decide (400 ≤ v) = false := by simp [g2]
            have HK := Lib.hid (show 0 ≤ f k ∧ f k < 400 by rw [HV.out]; omega)
            go_wp2
            refine ⟨⟨k + 1, by omega, by go_num, fun i hi => ?_, B1.out⟩, by simp [intOf]; omega⟩
            rcases Nat.lt_succ_iff_lt_or_eq.1 hi with h | rfl
            · exact hall.out i h
            · exact HK.out
      · have e : k = n := by omega
        subst e
        have hok : lchk k f = 0 := by
          rw [HE.out, if_pos]
          simp only [decide_eq_true_eq]
          exact hall.out
        have HO := Lib.hid hok
        clear hok
        go_wp2
        go_ret
        exact ⟨by rw [HO.out]; rfl, hbel⟩
end Go.Proofs.YtcmpoblbjjoaiaaDoor
