/- slices.Equal of two rows of cells, and the program's Same. -/
import Derived.Test.YtjbofdgdcnfmoaaSame
import Derived.Test.YtjbofdgdcnfmoaaOps
namespace Go.Proofs.Ytjbofdgdcnfmoaa
open Go.RowKit
set_option maxRecDepth 100000
set_option linter.unusedVariables false
set_option linter.unusedSimpArgs false

set_option maxHeartbeats 400000 in
theorem equal_len (A D : Option Addr) (n m c d : Nat) (w : World) (h : ¬ n = m) :
    Calls Try.prog 115 #[.slice A n c, .slice D m d] w fun e w' => e = .returned (.bool false) ∧ w' = w := by
  have z : ((n : Int) != (m : Int)) = true := by simp; omega
  clear h
  go_enter Try.func115, Try.ntmps115
  go_wp2
  go_ret
  exact ⟨rfl, rfl⟩

set_option maxHeartbeats 1600000 in
theorem equal_any (A D : Option Addr) (n c d : Nat) (f g : Nat → Bool) (w : World) (hn : n ≤ 5000) (hr : Holds w w.heap.size A n f) (hs : Holds w w.heap.size D n g) :
    Calls Try.prog 115 #[.slice A n c, .slice D n d] w fun e w' => e = .returned (.bool (decide (∀ i, i < n → f i = g i))) ∧ Below w.heap.size w w' := by
  have z3 : ((n : Int) != (n : Int)) = false := by simp
  have HR := Lib.hid hr
  have HS := Lib.hid hs
  clear hr hs
  go_enter Try.func115, Try.ntmps115
  go_wp2
  go_loopw [13] (fun i wr => ∃ k : Nat, k ≤ n ∧ i = .int .i64 k ∧ Hid (∀ i, i < k → f i = g i) ∧ Below w.heap.size w wr) (fun i _ => n - (intOf i).toNat)
  case atStart => exact ⟨0, Nat.zero_le _, rfl, fun i hi => absurd hi (by omega), Below.refl _ _⟩
  case round =>
    obtain ⟨k, hk, rfl, hall, hbel⟩ := hrel
    by_cases hlt : k < n
    · obtain ⟨b, o, rfl, hbl, hc⟩ := (HR.out.below hbel) (by omega)
      obtain ⟨b', o', rfl, hbl', hc'⟩ := (HS.out.below hbel) (by omega)
      have c1 := hc k hlt
      have c2 := hc' k hlt
      clear hc hc'
      have hbs := hbel.size
      have B1 := Lib.hid hbel
      clear hbel
      have y1 : (0 : Int) ≤ (k : Int) := by omega
      have y2 : (k : Int) < (n : Int) := by omega
      obtain ⟨u, hu⟩ : ∃ u, f k = u := ⟨_, rfl⟩
      obtain ⟨v, hv⟩ : ∃ v, g k = v := ⟨_, rfl⟩
      rw [hu] at c1
      rw [hv] at c2
      have HU := Lib.hid hu
      have HV := Lib.hid hv
      clear hu hv
      by_cases e : u = v
      · have E : f k = g k := by rw [HU.out, HV.out, e]
        have E := Lib.hid E
        subst e
        cases u
        all_goals
          go_wp2
          go_quiet (fail)
          go_wp2
          refine ⟨⟨k + 1, by omega, by go_num, fun i hi => ?_, Go.Proofs.below_drewN' B1.out _⟩, by simp [intOf]; omega⟩
          rcases Nat.lt_succ_iff_lt_or_eq.1 hi with h | rfl
          · exact hall.out i h
          · exact E.out
      · have E : ¬ f k = g k := by rw [HU.out, HV.out]; exact e
        have E := Lib.hid E
        cases u <;> cases v <;> first | exact absurd rfl e | skip
        all_goals
          clear e
          go_wp2
          go_quiet (fail)
          go_wp2
          go_ret
          exact ⟨ret_bool (by symm; rw [decide_eq_false_iff_not]; exact fun h => E.out (h k hlt)), Go.Proofs.below_drewN' B1.out _⟩
    · have e : k = n := by omega
      subst e
      go_wp2
      go_ret
      exact ⟨ret_bool (by symm; rw [decide_eq_true_iff]; exact hall.out), hbel⟩

end Go.Proofs.Ytjbofdgdcnfmoaa
