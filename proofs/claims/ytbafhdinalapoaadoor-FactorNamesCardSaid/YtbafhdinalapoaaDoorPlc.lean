/- The program's places: where each number of a list is in another. -/
import Derived.Test.YtbafhdinalapoaaDoorIdx
namespace Go.Proofs.YtbafhdinalapoaaDoor
open Go.RowKit
set_option linter.unusedVariables false
set_option linter.unusedSimpArgs false
set_option maxRecDepth 100000

open L2 (plc)
set_option maxHeartbeats 1600000 in
theorem places_any (A D : Option Addr) (n k c d : Nat) (f g : Nat → Int) (w : World) (hr : L2.Holds w w.heap.size A n f) (hs : L2.Holds w w.heap.size D k g) (hn : n ≤ 4096) (hk : k ≤ 5000) :
    Calls Tryd.prog 68 #[.slice A n c, .slice D k d] w fun e w' => ∃ b, e = .returned (.slice (some ⟨b, 0, none⟩) n n) ∧ w.heap.size ≤ b ∧ L2.Row w' b n (fun i => plc g (f i) k) ∧ Below w.heap.size w w' := by
  have HR := Lib.hid hr
  have HS := Lib.hid hs
  have hmk := L2.make_run n hn
  obtain ⟨F, hF⟩ : ∃ F : Nat → Int, (fun i => plc g (f i) k) = F := ⟨_, rfl⟩
  have HF := Lib.hid hF
  rw [hF]
  clear hr hs hF
  go_enter Tryd.func68, Tryd.ntmps68
  go_wp2
  go_loopw [13] (fun i wr => ∃ y : Nat, y ≤ n ∧ i = .int .i64 y ∧ L2.Row wr w.heap.size n (L2.part F y) ∧ Below w.heap.size w wr) (fun i _ => n - (intOf i).toNat)
  case atStart =>
    refine ⟨0, Nat.zero_le _, rfl, ?_, (Below.refl _ _).alloc (Nat.le_refl _) _⟩
    rw [L2.part_zero]
    exact L2.Row.made w n
  case round =>
    obtain ⟨y, hy, rfl, hrow, hbel⟩ := hrel
    by_cases hlt : y < n
    · obtain ⟨b, o, rfl, hbl, hc⟩ := (HR.out.below hbel) (by omega)
      have c1 := hc y hlt
      clear hc
      have y0 : (0 : Int) ≤ (y : Int) := by omega
      have y1 : (y : Int) < (n : Int) := by omega
      have hx := index_any D k d g (f y) w.heap.size wr (HS.out.below hbel) hk
      have e : plc g (f y) k = F y := by rw [← HF.out]
      rw [e] at hx
      have HX := Lib.hid hx
      have hcl := hrow.cell hlt
      have hfr := hrow.free y
      have hgl := hrow.lt
      have HW := Lib.hid hrow
      have HB := Lib.hid hbel
      clear hx e hrow hbel
      go_wp2_with (go_at_call 83; refine HX.out.mono ?_; rintro e w1 ⟨rfl, rfl⟩)
      go_roundw
      case rel => exact ⟨y + 1, by omega, by go_num, by have h := HW.out.set_ y (F y); rw [L2.part_succ F y] at h; exact h, HB.out.setCell (by simp) _⟩
      case measure => simp [intOf]; omega
    · have e : y = n := by omega
      subst e
      have HW := Lib.hid hrow
      have HB := Lib.hid hbel
      clear hrow hbel
      go_wp2
      go_ret
      exact ⟨_, rfl, Nat.le_refl _, HW.out.congr fun i hi => by unfold L2.part; rw [if_pos hi], HB.out⟩
end Go.Proofs.YtbafhdinalapoaaDoor
