/- slices.Index of a list, and the program's places. -/
import Derived.Test.YtbafhdinalapoaaDoorIa
namespace Go.Proofs.YtbafhdinalapoaaDoor
open Go.RowKit
set_option linter.unusedVariables false
set_option linter.unusedSimpArgs false
set_option maxRecDepth 100000

open L2 (plc fst fst_end fst_succ_miss plc_hit plc_miss)
set_option maxHeartbeats 800000 in
theorem index_any (A : Option Addr) (k c : Nat) (f : Nat → Int) (x : Int) (B : Nat) (w : World) (hr : L2.Holds w B A k f) (hm : k ≤ 5000) :
    Calls Tryd.prog 83 #[.slice A k c, .int .i64 x] w fun e w' => e = .returned (.int .i64 (plc f x k)) ∧ w = w' := by
  have HR := Lib.hid hr
  clear hr
  go_enter Tryd.func83, Tryd.ntmps83
  go_wp2
  go_loop [8] (fun i => ∃ j : Nat, j ≤ k ∧ i = .int .i64 j ∧ Hid (¬ fst f x j < j)) (fun i => k - (intOf i).toNat)
  case atStart => exact ⟨0, Nat.zero_le _, rfl, Lib.hid (by omega)⟩
  case round =>
    obtain ⟨j, hj, rfl, hno⟩ := hrel
    by_cases hlt : j < k
    · obtain ⟨b, o, rfl, hbl, hc⟩ := HR.out (by omega)
      have c1 := hc j (by omega)
      clear hc
      have y0 : (0 : Int) ≤ (j : Int) := by omega
      have y1 : (j : Int) < (k : Int) := by omega
      obtain ⟨u, hu⟩ : ∃ u, f j = u := ⟨_, rfl⟩
      rw [hu] at c1
      have HU := Lib.hid hu
      clear hu
      by_cases e : u = x
      · have z1 : (u == x) = true := by simp [e]
        have z2 : (x == u) = true := by simp [e]
        have HP := Lib.hid (plc_hit hno.out (HU.out.trans e) hlt)
        clear e
        go_wp2
        go_ret
        exact ⟨by rw [HP.out]; rfl, rfl⟩
      · have z1 : (u == x) = false := by simp [e]
        have z2 : (x == u) = false := by simp [Ne.symm e]
        have HN := Lib.hid (show ¬ fst f x (j + 1) < j + 1 by rw [fst_succ_miss hno.out (by rw [HU.out]; exact e)]; omega)
        clear e
        go_wp2
        exact ⟨⟨j + 1, by omega, by go_num, HN⟩, by simp [intOf]; omega⟩
    · have e : j = k := by omega
      subst e
      have HP := Lib.hid (plc_miss hno.out)
      go_wp2
      go_ret
      exact ⟨by rw [HP.out]; rfl, rfl⟩
end Go.Proofs.YtbafhdinalapoaaDoor
