/- Layer 13 of the program: checkAll of grids, haveOneSize, areIndices. -/
import Derived.Test.YtngjcekjboedjaaKgl
namespace Go.Proofs.Ytngjcekjboedjaa
open Go.RowKit
set_option maxRecDepth 100000
set_option linter.unusedVariables false
set_option linter.unusedSimpArgs false

theorem bel_dn {B : Nat} {w w' : World} (h : Below B w w') (n : Nat) : Below B w (w'.drewN n) := ⟨h.os, h.tape, h.output, h.size, h.block⟩
/-- All grids of a list have the sides of its first one. -/
def one (m : Nat) (G : Nat → GV) : Bool := decide (∀ i, i < m → (G i).W = (G 0).W ∧ (G i).H = (G 0).H)
theorem one_no {m k : Nat} {G : Nat → GV} (hk : k < m) (h : ¬ ((G k).W = (G 0).W ∧ (G k).H = (G 0).H)) : one m G = false := decide_eq_false fun q => h (q k hk)
/-- The first error of a list of grids. -/
def gfe (m : Nat) (G : Nat → GV) : Int := fe (fun i => chk (G i).W (G i).H (G i).n) m
theorem checkg_any (D : Option Addr) (m c : Nat) (G : Nat → GV) (w : World) (hm : m ≤ 5000) (hn : ∀ i, i < m → (G i).n ≤ 4200) (h : GLs w D m G) :
    Calls Try.prog 96 #[.func (.func 74) #[] #[], .slice D m c] w fun e w' => e = .returned (.int .i64 (gfe m G)) ∧ Below w.heap.size w w' := by
  have HG := Lib.hid h
  have HN := Lib.hid hn
  clear h hn
  go_enter Try.func96, Try.ntmps96
  go_wp2
  go_loopw [10] (fun i wr => ∃ k : Nat, k ≤ m ∧ i = .int .i64 k ∧ Hid (∀ j, j < k → chk (G j).W (G j).H (G j).n = 0) ∧ Hid (Below w.heap.size w wr)) (fun i _ => m - (intOf i).toNat)
  case atStart => exact ⟨0, Nat.zero_le _, rfl, Lib.hid (fun j h => by omega), Lib.hid (Below.refl _ _)⟩
  case round =>
    obtain ⟨k, hk, rfl, HA, HB⟩ := hrel
    by_cases hlt : k < m
    · have y1 : (k : Int) < (m : Int) := by omega
      have y2 : (0 : Int) ≤ (k : Int) := by omega
      obtain ⟨b, o, e, hl, hc⟩ := (HG.out.below HB.out) (by omega)
      obtain ⟨a0, a1, a2, _⟩ := hc k hlt
      have hn := HN.out k hlt
      have HF := Lib.hid (fun hz => fe_first (z := fun i => chk (G i).W (G i).H (G i).n) hlt HA.out hz)
      have HS := Lib.hid (fun hz j (hj : j < k + 1) => if e : j = k then (show chk (G j).W (G j).H (G j).n = 0 by rw [e]; exact hz) else HA.out j (by omega))
      have HC := Lib.hid (fun u => chk_any (G k).W (G k).H (G k).A (G k).n (G k).c u hn)
      subst e
      have HB2 := Lib.hid (HB.out.alloc HB.out.size (.cells #[.int .i64 (G k).W, .int .i64 (G k).H, .slice (G k).A (G k).n (G k).c] 24))
      clear hc HA
      obtain ⟨z, hz⟩ : ∃ z, chk (G k).W (G k).H (G k).n = z := ⟨_, rfl⟩
      simp only [hz] at HC HF HS
      clear hz
      generalize (G k).W = Wk at *
      generalize (G k).H = Hk at *
      generalize (G k).A = Ak at *
      generalize (G k).n = nk at *
      generalize (G k).c = ck at *
      by_cases hz0 : z = 0
      · have y3 : (z != 0) = false := by rw [hz0]; rfl
        go_wp2_with (go_at_call 74; (with_reducible refine Calls.mono (HC.out _) ?_); rintro e w1 ⟨rfl, hb1⟩; have HB3 := Lib.hid (HB2.out.trans (hb1.mono HB2.out.size)); clear hb1)
        go_roundw
        case rel => exact ⟨k + 1, by omega, by go_num, Lib.hid (HS.out hz0), HB3⟩
        case measure => simp [intOf]; omega
      · have y3 : (z != 0) = true := by rw [bne_iff_ne]; exact hz0
        go_wp2_with (go_at_call 74; (with_reducible refine Calls.mono (HC.out _) ?_); rintro e w1 ⟨rfl, hb1⟩; have HB3 := Lib.hid (HB2.out.trans (hb1.mono HB2.out.size)); clear hb1)
        go_ret
        exact ⟨by unfold gfe; rw [HF.out hz0]; rfl, HB3.out⟩
    · have e : k = m := by omega
      have HE := Lib.hid (show gfe m G = 0 from fe_zero.2 (fun i hi => HA.out i (by omega)))
      subst e
      go_wp2
      go_ret
      exact ⟨by rw [HE.out]; rfl, HB.out⟩
theorem onesize_any (D : Option Addr) (m c : Nat) (G : Nat → GV) (w : World) (hm : m ≤ 5000) (h : GLs w D m G) :
    Calls Try.prog 97 #[.slice D m c] w fun e w' => e = .returned (.bool (one m G)) ∧ Below w.heap.size w w' := by
  have HG := Lib.hid h
  clear h
  go_enter Try.func97, Try.ntmps97
  go_wp2
  go_loopw [7] (fun i wr => ∃ k : Nat, k ≤ m ∧ i = .int .i64 k ∧ Hid (∀ j, j < k → (G j).W = (G 0).W ∧ (G j).H = (G 0).H) ∧ Hid (Below w.heap.size w wr)) (fun i _ => m - (intOf i).toNat)
  case atStart => exact ⟨0, Nat.zero_le _, rfl, Lib.hid (fun j h => by omega), Lib.hid (Below.refl _ _)⟩
  case round =>
    obtain ⟨k, hk, rfl, HA, HB⟩ := hrel
    by_cases hlt : k < m
    · have y1 : (k : Int) < (m : Int) := by omega
      have y2 : (0 : Int) ≤ (k : Int) := by omega
      have y4 : (0 : Int) < (m : Int) := by omega
      obtain ⟨b, o, e, hl, hc⟩ := (HG.out.below HB.out) (by omega)
      obtain ⟨a0, a1, a2, _⟩ := hc k hlt
      obtain ⟨b0, b1, _, _⟩ := hc 0 (by omega)
      rw [Nat.zero_mul, Nat.add_zero] at b0 b1
      have HF := Lib.hid (fun hz => one_no (G := G) hlt hz)
      have HS := Lib.hid (fun hz j (hj : j < k + 1) => if e : j = k then (show (G j).W = (G 0).W ∧ (G j).H = (G 0).H by rw [e]; exact hz) else HA.out j (by omega))
      subst e
      have HB2 := Lib.hid (HB.out.alloc HB.out.size (.cells #[.int .i64 (G k).W, .int .i64 (G k).H, .slice (G k).A (G k).n (G k).c] 24))
      have b0' : (wr.alloc (.cells #[.int .i64 (G k).W, .int .i64 (G k).H, .slice (G k).A (G k).n (G k).c] 24)).cell? ⟨b, o, none⟩ = some (.int .i64 (G 0).W) := ((Below.refl wr.heap.size wr).alloc (Nat.le_refl _) _ |>.cell (p := ⟨b, o, none⟩) hl).trans b0
      have b1' : (wr.alloc (.cells #[.int .i64 (G k).W, .int .i64 (G k).H, .slice (G k).A (G k).n (G k).c] 24)).cell? ⟨b, o + 1, none⟩ = some (.int .i64 (G 0).H) := ((Below.refl wr.heap.size wr).alloc (Nat.le_refl _) _ |>.cell (p := ⟨b, o + 1, none⟩) hl).trans b1
      obtain ⟨q0, q1, q2, q3, q4, q5, q6⟩ := (Box.new wr (G k).W (G k).H (.slice (G k).A (G k).n (G k).c)).all
      clear hc HA
      generalize (G k).W = Wk at *
      generalize (G k).H = Hk at *
      generalize (G k).A = Ak at *
      generalize (G k).n = nk at *
      generalize (G k).c = ck at *
      generalize (G 0).W = W0 at *
      generalize (G 0).H = H0 at *
      by_cases hz0 : Wk = W0
      · by_cases hz1 : Hk = H0
        · have y3 : (Wk != W0) = false := by rw [hz0]; simp
          have y5 : (Hk != H0) = false := by rw [hz1]; simp
          have HS1 := Lib.hid (HS.out ⟨hz0, hz1⟩)
          clear hz0 hz1
          go_upto_region 4 with (fail)
          clear a0 a1 a2 b0 b1
          go_quiet (fail)
          go_wp2
          go_roundw
          case rel => exact ⟨k + 1, by omega, by go_num, HS1, Lib.hid (bel_dn HB2.out _)⟩
          case measure => simp [intOf]; omega
        · have y3 : (Wk != W0) = false := by rw [hz0]; simp
          have y5 : (Hk != H0) = true := by rw [bne_iff_ne]; exact hz1
          have HS1 := Lib.hid (HF.out fun h => hz1 h.2)
          clear hz0 hz1
          go_upto_region 4 with (fail)
          clear a0 a1 a2 b0 b1
          go_quiet (fail)
          go_wp2
          go_ret
          exact ⟨by rw [HS1.out]; rfl, bel_dn HB2.out _⟩
      · have y3 : (Wk != W0) = true := by rw [bne_iff_ne]; exact hz0
        have HS1 := Lib.hid (HF.out fun h => hz0 h.1)
        clear hz0
        go_upto_region 4 with (fail)
        clear a0 a1 a2 b0 b1
        go_quiet (fail)
        go_wp2
        go_ret
        exact ⟨by rw [HS1.out]; rfl, bel_dn HB2.out _⟩
    · have e : k = m := by omega
      have HE := Lib.hid (show one m G = true from decide_eq_true (fun i hi => HA.out i (by omega)))
      subst e
      go_wp2
      go_ret
      exact ⟨by rw [HE.out]; rfl, HB.out⟩
/-- Each number of a list is an index of n. -/
def inds (k : Nat) (f : Nat → Int) (n : Int) : Bool := decide (∀ i, i < k → 0 ≤ f i ∧ f i < n)
theorem inds_any (A : Option Addr) (k c : Nat) (f : Nat → Int) (n : Int) (w : World) (hk : k ≤ 100000) (h : L2.Holds w w.heap.size A k f) :
    Calls Try.prog 103 #[.slice A k c, .int .i64 n] w fun e w' => e = .returned (.bool (inds k f n)) ∧ w' = w := by
  have HG := Lib.hid h
  clear h
  go_enter Try.func103, Try.ntmps103
  go_wp2
  go_loopw [9] (fun i wr => ∃ j : Nat, j ≤ k ∧ i = .int .i64 j ∧ Hid (∀ i, i < j → 0 ≤ f i ∧ f i < n) ∧ wr = w) (fun i _ => k - (intOf i).toNat)
  case atStart => exact ⟨0, Nat.zero_le _, rfl, Lib.hid (fun j h => by omega), rfl⟩
  case round =>
    obtain ⟨j, hj, rfl, HA, rfl⟩ := hrel
    by_cases hlt : j < k
    · have y1 : (j : Int) < (k : Int) := by omega
      have y2 : (0 : Int) ≤ (j : Int) := by omega
      obtain ⟨b, o, e, hl, hc⟩ := HG.out (by omega)
      have a0 := hc j hlt
      have HF := Lib.hid (fun (hz : ¬ (0 ≤ f j ∧ f j < n)) => (show inds k f n = false from decide_eq_false fun q => hz (q j hlt)))
      have HS := Lib.hid (fun (hz : 0 ≤ f j ∧ f j < n) i (hi : i < j + 1) => if e : i = j then (show 0 ≤ f i ∧ f i < n by rw [e]; exact hz) else HA.out i (by omega))
      subst e
      clear hc HA
      generalize f j = x at *
      by_cases h1 : x < 0
      · have y3 : decide (x < 0) = true := decide_eq_true h1
        go_wp2
        go_ret
        exact ⟨by rw [HF.out (by omega)]; rfl, rfl⟩
      · have y3 : decide (x < 0) = false := decide_eq_false h1
        by_cases h2 : n ≤ x
        · go_wp2
          go_ret
          exact ⟨by rw [HF.out (by omega)]; rfl, rfl⟩
        · go_wp2
          go_roundw
          case rel => exact ⟨j + 1, by omega, by go_num, Lib.hid (HS.out (by omega)), trivial⟩
          case measure => simp [intOf]; omega
    · have e : j = k := by omega
      have HE := Lib.hid (show inds k f n = true from decide_eq_true (fun i hi => HA.out i (by omega)))
      subst e
      go_wp2
      go_ret
      exact ⟨by rw [HE.out]; rfl, rfl⟩
end Go.Proofs.Ytngjcekjboedjaa
