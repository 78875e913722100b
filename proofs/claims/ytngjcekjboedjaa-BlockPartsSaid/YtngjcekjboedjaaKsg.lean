/- Layer 13 of the reference: lists of grids. -/
import Derived.Test.YtngjcekjboedjaaKam
import Derived.Test.YtngjcekjboedjaaKpf
import Derived.StillTailTactics
import Derived.Deep.RegionHeld3
import Derived.Deep.DeepCutAuto
import Derived.BigQuiet
namespace Go.Proofs.Ytngjcekjboedjaa
open Go.RowKit
set_option maxRecDepth 100000
set_option linter.unusedVariables false
set_option linter.unusedSimpArgs false

/-- More grids, or greater ones, than the statements consider. -/
def grg (m : Nat) (G : Nat → GV) : Bool := decide ((∃ i, i < m ∧ 4200 < (G i).n) ∨ 20 < m)
theorem grg_no {m : Nat} {G : Nat → GV} (h : grg m G = false) : m ≤ 20 ∧ ∀ i, i < m → (G i).n ≤ 4200 := by
  have h := of_decide_eq_false h
  exact ⟨Nat.le_of_not_lt fun q => h (.inr q), fun i hi => Nat.le_of_not_lt fun q => h (.inl ⟨i, hi, q⟩)⟩
set_option maxHeartbeats 1600000 in
theorem rgg_any (D : Option Addr) (m c : Nat) (G : Nat → GV) (w : World) (hm : m ≤ 9223372036854775807) (h : GLs w D m G) :
    Calls Try.prog 50 #[.slice D m c] w fun e w' => e = .returned (.bool (grg m G)) ∧ Below w.heap.size w w' := by
  have HG := Lib.hid h
  clear h
  go_enter Try.func50, Try.ntmps50
  go_wp2
  go_loopw [3] (fun i wr => ∃ j : Nat, j ≤ m ∧ i = .int .i64 j ∧ Hid (∀ s, s < j → (G s).n ≤ 4200) ∧ Hid (Below w.heap.size w wr)) (fun i _ => m - (intOf i).toNat)
  case atStart => exact ⟨0, Nat.zero_le _, rfl, Lib.hid (fun s h => by omega), Lib.hid (Below.refl _ _)⟩
  case round =>
    obtain ⟨j, hj, rfl, HN, HB⟩ := hrel
    by_cases hlt : j < m
    · have z1 : (j : Int) < (m : Int) := by omega
      have z2 : (0 : Int) ≤ (j : Int) := by omega
      obtain ⟨b3, o3, e3, hl3, hc3⟩ := HG.out (by omega)
      obtain ⟨g0, g1, g2, g3⟩ := hc3 j hlt
      have g0 := (HB.out.cell (p := ⟨b3, o3 + j * 3, none⟩) hl3).trans g0
      have g1 := (HB.out.cell (p := ⟨b3, o3 + j * 3 + 1, none⟩) hl3).trans g1
      have g2 := (HB.out.cell (p := ⟨b3, o3 + j * 3 + 2, none⟩) hl3).trans g2
      have HC := Lib.hid (rgreat_any (G j).W (G j).H (G j).A (G j).n (G j).c wr)
      by_cases hq : 4200 < (G j).n
      · have HR := Lib.hid (show grg m G = true from decide_eq_true (.inl ⟨j, hlt, hq⟩))
        rw [decide_eq_true hq] at HC
        subst e3
        clear hq hc3 g3
        go_wp2_with fail
        with_reducible refine Calls.mono HC.out ?_
        rintro e wa ⟨rfl, hb⟩
        have HB3 := Lib.hid (HB.out.trans (hb.mono HB.out.size))
        go_wp2
        go_ret
        exact ⟨by rw [HR.out]; rfl, HB3.out⟩
      · have HR := Lib.hid (fun s (hs : s < j + 1) => (if e : s = j then (e ▸ Nat.le_of_not_lt hq : (G s).n ≤ 4200) else HN.out s (by omega)))
        rw [decide_eq_false hq] at HC
        subst e3
        clear hq hc3 g3
        go_wp2_with fail
        with_reducible refine Calls.mono HC.out ?_
        rintro e wa ⟨rfl, hb⟩
        have HB3 := Lib.hid (HB.out.trans (hb.mono HB.out.size))
        go_wp2
        go_roundw
        case rel => exact ⟨j + 1, by omega, by go_num, HR, HB3⟩
        case measure => simp [intOf]; omega
    · have e' : j = m := by omega
      have z1 : ¬ (j : Int) < (m : Int) := by omega
      have HR := Lib.hid (show grg m G = decide (20 < m) by
        unfold grg
        rw [Bool.eq_iff_iff, decide_eq_true_iff, decide_eq_true_iff]
        exact ⟨fun h => h.elim (fun ⟨i, hi, h2⟩ => absurd h2 (Nat.not_lt.2 (HN.out i (by omega)))) id, .inr⟩)
      clear e'
      by_cases h20 : 20 < m
      · have z3 : (20 : Int) < (m : Int) := by omega
        have HR2 := Lib.hid (HR.out.trans (decide_eq_true h20))
        clear h20
        go_wp2
        go_ret
        exact ⟨by rw [HR2.out]; rfl, HB.out⟩
      · have z3 : ¬ (20 : Int) < (m : Int) := by omega
        have HR2 := Lib.hid (HR.out.trans (decide_eq_false h20))
        clear h20
        go_wp2
        go_ret
        exact ⟨by rw [HR2.out]; rfl, HB.out⟩
set_option maxHeartbeats 1600000 in
/-- SameGrids of two lists of the same grids. -/
theorem rsg_true (D E : Option Addr) (m c d : Nat) (G K : Nat → GV) (w : World) (hm : m ≤ 100000) (h : GLs w D m G) (h2 : GLs w E m K)
    (he : ∀ i, i < m → (G i).W = (K i).W ∧ (G i).H = (K i).H ∧ (G i).n = (K i).n ∧ (G i).n ≤ 5000 ∧ ∀ j, j < (G i).n → (G i).f j = (K i).f j) :
    Calls Try.prog 55 #[.slice D m c, .slice E m d] w fun e w' => e = .returned (.bool true) ∧ Below w.heap.size w w' := by
  have HG := Lib.hid h
  have HK := Lib.hid h2
  have HE := Lib.hid he
  have y1 : ((m : Int) != (m : Int)) = false := by simp
  clear h h2 he
  go_enter Try.func55, Try.ntmps55
  go_wp2
  go_loopw [5] (fun i wr => ∃ j : Nat, j ≤ m ∧ i = .int .i64 j ∧ Hid (Below w.heap.size w wr)) (fun i _ => m - (intOf i).toNat)
  case atStart => exact ⟨0, Nat.zero_le _, rfl, Lib.hid (Below.refl _ _)⟩
  case round =>
    obtain ⟨j, hj, rfl, HB⟩ := hrel
    by_cases hlt : j < m
    · have z1 : (j : Int) < (m : Int) := by omega
      have z2 : (0 : Int) ≤ (j : Int) := by omega
      obtain ⟨b3, o3, e3, hl3, hc3⟩ := HG.out (by omega)
      obtain ⟨g0, g1, g2, g3⟩ := hc3 j hlt
      obtain ⟨b4, o4, e4, hl4, hc4⟩ := HK.out (by omega)
      obtain ⟨k0, k1, k2, k3⟩ := hc4 j hlt
      obtain ⟨s0, s1, s2, s3, s4⟩ := HE.out j hlt
      have g0 := (HB.out.cell (p := ⟨b3, o3 + j * 3, none⟩) hl3).trans g0
      have g1 := (HB.out.cell (p := ⟨b3, o3 + j * 3 + 1, none⟩) hl3).trans g1
      have g2 := (HB.out.cell (p := ⟨b3, o3 + j * 3 + 2, none⟩) hl3).trans g2
      have k0 := (HB.out.cell (p := ⟨b4, o4 + j * 3, none⟩) hl4).trans k0
      have k1 := (HB.out.cell (p := ⟨b4, o4 + j * 3 + 1, none⟩) hl4).trans k1
      have k2 := (HB.out.cell (p := ⟨b4, o4 + j * 3 + 2, none⟩) hl4).trans k2
      have g3 := ((g3.below HB.out).more HB.out.size).drw
      have k3 := ((k3.below HB.out).more HB.out.size).drw
      rw [← s0] at k0
      rw [← s1] at k1
      rw [← s2] at k2 k3
      have HSM := Lib.hid (rsame_t (W := (G j).W) (H := (G j).H) (c := (G j).c) (d := (K j).c) s3 s4 wr.drew g3 k3)
      subst e3 e4
      clear g3 k3 s0 s1 s2 s3 s4 hc3 hc4 hl3 hl4
      generalize (G j).W = gw at *
      generalize (G j).H = gh at *
      generalize (G j).n = gn at *
      generalize (G j).A = ga at *
      generalize (G j).c = gc at *
      generalize (K j).A = ka at *
      generalize (K j).c = kc at *
      go_upto_region 6 with (fail)
      go_still_tail 8, (by kernel_rfl)
      change wpList _ _ _ _ _ wr.drew
      go_wp2_with (go_at_call 49; (with_reducible refine Calls.mono HSM.out ?_); rintro e wa ⟨rfl, hb⟩)
      have HB3 := Lib.hid (HB.out.trans (((Below.refl wr.heap.size wr).drew.trans hb).mono HB.out.size))
      go_roundw
      case rel => exact ⟨j + 1, by omega, by go_num, HB3⟩
      case measure => simp [intOf]; omega
    · have e' : j = m := by omega
      have z1 : ¬ (j : Int) < (m : Int) := by omega
      clear e'
      go_wp2
      go_ret
      exact ⟨rfl, HB.out⟩
end Go.Proofs.Ytngjcekjboedjaa
