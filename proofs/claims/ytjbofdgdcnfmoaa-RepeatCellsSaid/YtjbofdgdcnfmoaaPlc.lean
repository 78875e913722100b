/- Equal without writing; a row of the plane; fits$1. -/
import Derived.Test.YtjbofdgdcnfmoaaPlb
import Derived.Test.YtjbofdgdcnfmoaaEq
namespace Go.Proofs.Ytjbofdgdcnfmoaa
open Go.RowKit
set_option maxRecDepth 100000
set_option linter.unusedVariables false
set_option linter.unusedSimpArgs false

set_option maxHeartbeats 1600000 in
theorem equal_quiet (b o b' o' n c d : Nat) (f g : Nat → Bool) (w : World) (hn : n ≤ 5000) (hr : ∀ i, i < n → w.cell? ⟨b, o + i, none⟩ = some (.bool (f i))) (hs : ∀ i, i < n → w.cell? ⟨b', o' + i, none⟩ = some (.bool (g i))) :
    Calls Try.prog 115 #[.slice (some ⟨b, o, none⟩) n c, .slice (some ⟨b', o', none⟩) n d] w fun e w' => e = .returned (.bool (decide (∀ i, i < n → f i = g i))) ∧ ∃ m, w' = w.drewN m := by
  have z3 : ((n : Int) != (n : Int)) = false := by simp
  have HR := Lib.hid hr
  have HS := Lib.hid hs
  clear hr hs
  go_enter Try.func115, Try.ntmps115
  go_wp2
  go_loopw [13] (fun i wr => ∃ k : Nat, k ≤ n ∧ i = .int .i64 k ∧ Hid (∀ i, i < k → f i = g i) ∧ ∃ m, wr = w.drewN m) (fun i _ => n - (intOf i).toNat)
  case atStart => exact ⟨0, Nat.zero_le _, rfl, fun i hi => absurd hi (by omega), 0, by first | rfl | exact (World.drewN_zero _).symm⟩
  case round =>
    obtain ⟨k, hk, rfl, hall, m, rfl⟩ := hrel
    by_cases hlt : k < n
    · have c1 : (w.drewN m).cell? ⟨b, o + k, none⟩ = some (.bool (f k)) := HR.out k hlt
      have c2 : (w.drewN m).cell? ⟨b', o' + k, none⟩ = some (.bool (g k)) := HS.out k hlt
      have y1 : (0 : Int) ≤ (k : Int) := by omega
      have y2 : (k : Int) < (n : Int) := by omega
      obtain ⟨u, hu⟩ : ∃ u, f k = u := ⟨_, rfl⟩
      obtain ⟨v, hv⟩ : ∃ v, g k = v := ⟨_, rfl⟩
      rw [hu] at c1
      rw [hv] at c2
      have HU := Lib.hid hu
      have HV := Lib.hid hv
      clear hu hv
      obtain ⟨w1, hw1⟩ : ∃ w1, w.drewN m = w1 := ⟨_, rfl⟩
      rw [hw1] at c1 c2 ⊢
      have HW := Lib.hid hw1
      clear hw1
      by_cases e : u = v
      · have E : f k = g k := by rw [HU.out, HV.out, e]
        have E := Lib.hid E
        subst e
        cases u
        all_goals
          go_wp2
          go_quiet (fail)
          go_wp2
          refine ⟨⟨k + 1, by omega, by go_num, fun i hi => ?_, _, by rw [← HW.out, World.drewN_drewN]⟩, by simp [intOf]; omega⟩
          rcases Nat.lt_succ_iff_lt_or_eq.1 hi with h | rfl
          · exact hall.out i h
          · exact E.out
      · have E : ¬ f k = g k := by rw [HU.out, HV.out]; exact e
        have E := Lib.hid E
        cases u <;> cases v <;> first | exact absurd rfl e | skip
        all_goals
          clear e
          go_wp2
          go_quiet (fail)
          go_wp2
          go_ret
          exact ⟨ret_bool (by symm; rw [decide_eq_false_iff_not]; exact fun h => E.out (h k hlt)), _, by rw [← HW.out, World.drewN_drewN]⟩
    · have e : k = n := by omega
      subst e
      go_wp2
      go_ret
      exact ⟨ret_bool (by symm; rw [decide_eq_true_iff]; exact hall.out), m, rfl⟩
/-- A cell of a plane. -/
def pc (W H : Nat) (f : Nat → Bool) (x y : Nat) : Bool := f (y % H * W + x % W)
theorem PL.cells {v : World} {lo g t W H k d : Nat} {s : Value} {f : Nat → Bool} (h : PL v lo g t W H k d s f) (hW0 : 1 ≤ W) (hH0 : 1 ≤ H) (x y n : Nat) (hn : n ≤ W) : ∀ i, i < n → v.cell? ⟨k, 2 * W * (y % H) + x % W + i, none⟩ = some (.bool (pc W H f (x + i) y)) := by
  intro i hi
  have m1 : y % H < H := Nat.mod_lt _ (by omega)
  have m2 : x % W < W := Nat.mod_lt _ (by omega)
  have e0 : 2 * W * (y % H) + 2 * W ≤ H * (2 * W) := by
    rw [← Nat.mul_succ, Nat.mul_comm H]; exact Nat.mul_le_mul_left _ m1
  rw [h.row.cell (by omega)]
  congr 2
  unfold tw2 pc
  rw [Nat.add_assoc, Nat.mul_add_div (by omega), Nat.mul_add_mod, Nat.div_eq_of_lt (by omega), Nat.mod_eq_of_lt (show x % W + i < 2 * W by omega), Nat.mod_add_mod]
  rfl
end Go.Proofs.Ytjbofdgdcnfmoaa
