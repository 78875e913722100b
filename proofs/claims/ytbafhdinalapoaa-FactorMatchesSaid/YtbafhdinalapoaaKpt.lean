/- The reference's kept and Each. -/
import Derived.Test.YtbafhdinalapoaaInv
namespace Go.Proofs.Ytbafhdinalapoaa
open Go.RowKit
set_option linter.unusedVariables false
set_option linter.unusedSimpArgs false
set_option maxRecDepth 100000

open L2 (plc fst fst_end fst_succ_miss fst_succ_hit plc_hit plc_miss fst_mono fst_at fst_no fst_le fst_keep)
/-- How many numbers below k are in a list, and which. -/
def kc (f : Nat → Int) (m : Nat) : Nat → Nat
  | 0 => 0
  | k + 1 => kc f m k + if fst f k m < m then 1 else 0
def kf (f : Nat → Int) (m : Nat) : Nat → Nat → Int
  | 0, _ => 0
  | k + 1, i => if i = kc f m k then k else kf f m k i
theorem kc_le (f : Nat → Int) (m k : Nat) : kc f m k ≤ k := by
  induction k with
  | zero => exact Nat.le_refl _
  | succ k ih => unfold kc; split <;> omega

set_option maxHeartbeats 1600000 in
theorem kept_any (A : Option Addr) (m c N : Nat) (f : Nat → Int) (w : World) (hr : L2.Holds w w.heap.size A m f) (hm : m ≤ 5000) (hN : N ≤ 1000) :
    Calls Try.prog 73 #[.slice A m c, .int .i64 N] w fun e w' => ∃ v, e = .returned v ∧ L2.Own w' w.heap.size v (kc f m N) (kf f m N) ∧ Below w.heap.size w w' := by
  have HR := Lib.hid hr
  clear hr
  go_enter Try.func73, Try.ntmps73
  go_wp2
  go_loopw [5, 6] (fun v i wr => ∃ k : Nat, k ≤ N ∧ i = .int .i64 k ∧ L2.Own wr w.heap.size v (kc f m k) (kf f m k) ∧ Hid (Below w.heap.size w wr)) (fun _ i _ => N - (intOf i).toNat)
  case atStart => exact ⟨0, Nat.zero_le _, rfl, L2.Own.nil _ _ _, Lib.hid (Below.refl _ _)⟩
  case round =>
    obtain ⟨k, hk, rfl, hown, hbel⟩ := hrel
    obtain ⟨A', c', rfl, _, hrow⟩ := hown.out
    have HO := Lib.hid hown
    clear hown hrow
    have hkc := kc_le f m k
    by_cases hlt : k < N
    · have y1 : decide ((k : Int) < (N : Int)) = true := by simp; omega
      have hbs : w.heap.size ≤ wr.heap.size := hbel.out.size
      have hp := L2.place_any A m c m f (k : Int) w.heap.size wr (HR.out.below hbel.out) (Nat.le_refl _) hm
      by_cases hs : fst f (k : Int) m < m
      · have e : plc f (k : Int) m = (fst f (k : Int) m : Nat) := by unfold plc; rw [if_pos hs]
        rw [e] at hp
        have HP := Lib.hid hp
        have HC := Lib.hid (show kc f m (k + 1) = kc f m k + 1 by show kc f m k + _ = _; rw [if_pos hs])
        obtain ⟨q, hq⟩ : ∃ q, fst f (k : Int) m = q := ⟨_, rfl⟩
        rw [hq] at HP
        have z1 : decide ((0 : Int) ≤ (q : Int)) = true := by simp
        clear hp e hs hq
        have HO2 := Lib.hid (HO.out.congr (g := kf f m (k + 1)) fun i hi => by show _ = if i = kc f m k then _ else _; rw [if_neg (by omega)])
        have hyv : kf f m (k + 1) (kc f m k) = (k : Int) := by show (if kc f m k = kc f m k then _ else _) = _; rw [if_pos rfl]
        go_wp2_with fail
        refine HP.out.mono ?_
        rintro e w1 ⟨rfl, rfl⟩
        go_wp2_with (at_builtin; refine L2.app1 _ rfl _ _ (by rfl) w.heap.size (by rfl) HO2.out (k : Int) (by rfl) hyv (by omega) hbs ?_; intro v' w3 hown3 hb3; have HO3 := Lib.hid hown3; have HB3 := Lib.hid hb3; clear hown3 hb3)
        refine ⟨⟨k + 1, by omega, by go_num, ?_, ?_⟩, by simp [intOf]; omega⟩
        · rw [HC.out]
          exact HO3.out
        · exact Lib.hid (hbel.out.trans HB3.out)
      · have e : plc f (k : Int) m = -1 := plc_miss hs
        rw [e] at hp
        have HP := Lib.hid hp
        have HC := Lib.hid (show kc f m (k + 1) = kc f m k by show kc f m k + _ = _; rw [if_neg hs]; rfl)
        have z1 : decide ((0 : Int) ≤ (-1 : Int)) = false := by decide
        clear hp e hs
        go_wp2_with (go_at_call 79; refine HP.out.mono ?_; rintro e w1 ⟨rfl, rfl⟩)
        refine ⟨⟨k + 1, by omega, by go_num, ?_, hbel⟩, by simp [intOf]; omega⟩
        rw [HC.out]
        refine HO.out.congr fun i hi => ?_
        show _ = if i = kc f m k then _ else _
        rw [if_neg (by omega)]
    · have e : k = N := by omega
      subst e
      have y1 : decide ((k : Int) < (k : Int)) = false := by simp
      go_wp2
      go_ret
      exact ⟨_, rfl, HO.out, hbel.out⟩
end Go.Proofs.Ytbafhdinalapoaa
