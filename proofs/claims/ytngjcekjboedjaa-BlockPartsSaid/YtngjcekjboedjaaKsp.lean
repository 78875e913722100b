/- Layer 13 of the program: lists: Check, checkThreading, Spell. -/
import Derived.Test.YtngjcekjboedjaaKui
namespace Go.Proofs.Ytngjcekjboedjaa
open Go.RowKit
set_option maxRecDepth 100000
set_option linter.unusedVariables false
set_option linter.unusedSimpArgs false

theorem lcheck_any (A : Option Addr) (n c : Nat) (f : Nat → Int) (w : World) (h : L2.Holds w w.heap.size A n f) :
    Calls Try.prog 104 #[.slice A n c] w fun e w' => e = .returned (.int .i64 (L2.lchk n f)) ∧ w' = w := by
  have HG := Lib.hid h
  clear h
  by_cases hb : 400 < n
  · have HL := Lib.hid (show L2.lchk n f = 4 by unfold L2.lchk; rw [if_pos hb])
    have y1 : (400 : Int) < (n : Int) := by omega
    go_enter Try.func104, Try.ntmps104
    go_wp2
    go_ret
    exact ⟨by rw [HL.out]; rfl, rfl⟩
  · have y1 : ¬ (400 : Int) < (n : Int) := by omega
    have HF := Lib.hid (fun j (hj : j < n) (hz : ¬ (0 ≤ f j ∧ f j < 400)) => (show L2.lchk n f = 8 by unfold L2.lchk; rw [if_neg hb, if_neg (by rw [decide_eq_true_iff]; exact fun q => hz (q j hj))]))
    go_enter Try.func104, Try.ntmps104
    go_wp2
    go_loopw [10] (fun i wr => ∃ j : Nat, j ≤ n ∧ i = .int .i64 j ∧ Hid (∀ i, i < j → 0 ≤ f i ∧ f i < 400) ∧ wr = w) (fun i _ => n - (intOf i).toNat)
    case atStart => exact ⟨0, Nat.zero_le _, rfl, Lib.hid (fun j h => by omega), rfl⟩
    case round =>
      obtain ⟨j, hj, rfl, HA, rfl⟩ := hrel
      by_cases hlt : j < n
      · have y2 : (j : Int) < (n : Int) := by omega
        have y3 : (0 : Int) ≤ (j : Int) := by omega
        obtain ⟨b, o, e, hl, hc⟩ := HG.out (by omega)
        have a0 := hc j hlt
        have HFj := Lib.hid (HF.out j hlt)
        have HS := Lib.hid (fun (hz : 0 ≤ f j ∧ f j < 400) i (hi : i < j + 1) => if e : i = j then (show 0 ≤ f i ∧ f i < 400 by rw [e]; exact hz) else HA.out i (by omega))
        subst e
        clear hc HA
        generalize f j = x at *
        by_cases h1 : x < 0
        · have y4 : decide (x < 0) = true := decide_eq_true h1
          go_wp2
          go_ret
          exact ⟨by rw [HFj.out (by omega)]; rfl, rfl⟩
        · have y4 : decide (x < 0) = false := decide_eq_false h1
          by_cases h2 : 400 ≤ x
          · go_wp2
            go_ret
            exact ⟨by rw [HFj.out (by omega)]; rfl, rfl⟩
          · go_wp2
            go_roundw
            case rel => exact ⟨j + 1, by omega, by go_num, Lib.hid (HS.out (by omega)), trivial⟩
            case measure => simp [intOf]; omega
      · have e : j = n := by omega
        have HE := Lib.hid (show L2.lchk n f = 0 by unfold L2.lchk; rw [if_neg hb, if_pos (decide_eq_true (fun i hi => HA.out i (by omega)))])
        subst e
        go_wp2
        go_ret
        exact ⟨by rw [HE.out]; rfl, rfl⟩
/-- The first error of a list of lists. -/
def lfe (m : Nat) (L : Nat → IV) : Int := fe (fun i => L2.lchk (L i).n (L i).f) m
theorem checkl_any (D : Option Addr) (m c : Nat) (L : Nat → IV) (w : World) (hm : m ≤ 5000) (h : ILs w D m L) :
    Calls Try.prog 135 #[.func (.func 104) #[] #[], .slice D m c] w fun e w' => e = .returned (.int .i64 (lfe m L)) ∧ w' = w := by
  have HG := Lib.hid h
  clear h
  go_enter Try.func135, Try.ntmps135
  go_wp2
  go_loopw [10] (fun i wr => ∃ k : Nat, k ≤ m ∧ i = .int .i64 k ∧ Hid (∀ j, j < k → L2.lchk (L j).n (L j).f = 0) ∧ wr = w) (fun i _ => m - (intOf i).toNat)
  case atStart => exact ⟨0, Nat.zero_le _, rfl, Lib.hid (fun j h => by omega), rfl⟩
  case round =>
    obtain ⟨k, hk, rfl, HA, rfl⟩ := hrel
    by_cases hlt : k < m
    · have y1 : (k : Int) < (m : Int) := by omega
      have y2 : (0 : Int) ≤ (k : Int) := by omega
      obtain ⟨b, o, e, hl, hc⟩ := HG.out (by omega)
      obtain ⟨a0, a1, _⟩ := hc k hlt
      have HF := Lib.hid (fun hz => fe_first (z := fun i => L2.lchk (L i).n (L i).f) hlt HA.out hz)
      have HS := Lib.hid (fun hz j (hj : j < k + 1) => if e : j = k then (show L2.lchk (L j).n (L j).f = 0 by rw [e]; exact hz) else HA.out j (by omega))
      have HC := Lib.hid (lcheck_any (L k).A (L k).n (L k).c (L k).f wr a1)
      subst e
      clear hc HA a1
      obtain ⟨z, hz⟩ : ∃ z, L2.lchk (L k).n (L k).f = z := ⟨_, rfl⟩
      simp only [hz] at HC HF HS
      clear hz
      generalize (L k).A = Ak at *
      generalize (L k).n = nk at *
      generalize (L k).c = ck at *
      by_cases hz0 : z = 0
      · have y3 : (z != 0) = false := by rw [hz0]; rfl
        go_wp2_with (go_at_call 104; (with_reducible refine Calls.mono HC.out ?_); rintro e w1 ⟨rfl, rfl⟩)
        go_roundw
        case rel => exact ⟨k + 1, by omega, by go_num, Lib.hid (HS.out hz0), trivial⟩
        case measure => simp [intOf]; omega
      · have y3 : (z != 0) = true := by rw [bne_iff_ne]; exact hz0
        go_wp2_with (go_at_call 104; (with_reducible refine Calls.mono HC.out ?_); rintro e w1 ⟨rfl, rfl⟩)
        go_ret
        exact ⟨by unfold lfe; rw [HF.out hz0]; rfl, rfl⟩
    · have e : k = m := by omega
      have HE := Lib.hid (show lfe m L = 0 from fe_zero.2 (fun i hi => HA.out i (by omega)))
      subst e
      go_wp2
      go_ret
      exact ⟨by rw [HE.out]; rfl, rfl⟩
/-- The lists have one length that is not 0. -/
def lon (m : Nat) (L : Nat → IV) : Bool := decide (∀ i, i < m → (L i).n ≠ 0 ∧ (L i).n = (L 0).n)
/-- What checkThreading answers. -/
def ctz (m : Nat) (L : Nat → IV) : Int := if m < 1 ∨ 400 < m then 2 else if lfe m L ≠ 0 then lfe m L else if lon m L then 0 else 26
theorem cthread_any (D : Option Addr) (m c : Nat) (L : Nat → IV) (w : World) (hm : m ≤ 1000) (h : ILs w D m L) :
    Calls Try.prog 105 #[.slice D m c] w fun e w' => e = .returned (.int .i64 (ctz m L)) ∧ w' = w := by
  have HG := Lib.hid h
  have HK := Lib.hid (checkl_any D m c L w (by omega) h)
  clear h
  by_cases h1 : m < 1
  · have HE := Lib.hid (show ctz m L = 2 by unfold ctz; rw [if_pos (.inl h1)])
    have y1 : decide ((m : Int) < 1) = true := decide_eq_true (by omega)
    go_enter Try.func105, Try.ntmps105
    go_wp2
    go_ret
    exact ⟨by rw [HE.out]; rfl, rfl⟩
  have y1 : decide ((m : Int) < 1) = false := decide_eq_false (by omega)
  by_cases h2 : 400 < m
  · have HE := Lib.hid (show ctz m L = 2 by unfold ctz; rw [if_pos (.inr h2)])
    have y2 : (400 : Int) < (m : Int) := by omega
    go_enter Try.func105, Try.ntmps105
    go_wp2
    go_ret
    exact ⟨by rw [HE.out]; rfl, rfl⟩
  have y2 : ¬ (400 : Int) < (m : Int) := by omega
  by_cases h3 : lfe m L = 0
  · rw [h3] at HK
    have y3 : ((0 : Int) != 0) = false := rfl
    have HE := Lib.hid (show ∀ b, lon m L = b → ctz m L = if b then 0 else 26 from fun b hb => by unfold ctz; rw [if_neg (by omega), if_neg (by rw [h3]; simp), hb])
    clear h3
    go_enter Try.func105, Try.ntmps105
    go_wp2_with fail
    with_reducible refine Calls.mono HK.out ?_
    rintro e w1 ⟨rfl, hw1⟩
    subst w1
    go_wp2
    go_loopw [21] (fun i wr => ∃ k : Nat, k ≤ m ∧ i = .int .i64 k ∧ Hid (∀ j, j < k → (L j).n ≠ 0 ∧ (L j).n = (L 0).n) ∧ wr = w) (fun i _ => m - (intOf i).toNat)
    case atStart => exact ⟨0, Nat.zero_le _, rfl, Lib.hid (fun j h => by omega), rfl⟩
    case round =>
      obtain ⟨k, hk, rfl, HA, rfl⟩ := hrel
      by_cases hlt : k < m
      · have y4 : (k : Int) < (m : Int) := by omega
        have y5 : (0 : Int) ≤ (k : Int) := by omega
        have y6 : (0 : Int) < (m : Int) := by omega
        obtain ⟨b, o, e, hl, hc⟩ := HG.out (by omega)
        obtain ⟨a0, _, _⟩ := hc k hlt
        obtain ⟨b0, _, _⟩ := hc 0 (by omega)
        rw [Nat.add_zero] at b0
        have HF := Lib.hid (fun (hz : ¬ ((L k).n ≠ 0 ∧ (L k).n = (L 0).n)) => HE.out false (decide_eq_false fun q => hz (q k hlt)))
        have HS := Lib.hid (fun hz j (hj : j < k + 1) => if e : j = k then (show (L j).n ≠ 0 ∧ (L j).n = (L 0).n by rw [e]; exact hz) else HA.out j (by omega))
        subst e
        clear hc HA
        generalize (L k).A = Ak at *
        generalize (L k).n = nk at *
        generalize (L k).c = ck at *
        generalize (L 0).A = A0 at *
        generalize (L 0).n = n0 at *
        generalize (L 0).c = c0 at *
        by_cases hz0 : nk = 0
        · have y7 : ((nk : Int) == 0) = true := by rw [hz0]; rfl
          have HS1 := Lib.hid (HF.out fun h => h.1 hz0)
          clear hz0
          go_wp2
          go_ret
          exact ⟨by rw [HS1.out]; rfl, rfl⟩
        · have y7 : ((nk : Int) == 0) = false := by rw [beq_eq_false_iff_ne]; omega
          by_cases hz1 : nk = n0
          · have y8 : ((nk : Int) != (n0 : Int)) = false := by rw [hz1]; simp
            have HS1 := Lib.hid (HS.out ⟨hz0, hz1⟩)
            clear hz0 hz1
            go_wp2
            go_roundw
            case rel => exact ⟨k + 1, by omega, by go_num, HS1, trivial⟩
            case measure => simp [intOf]; omega
          · have y8 : ((nk : Int) != (n0 : Int)) = true := by rw [bne_iff_ne]; omega
            have HS1 := Lib.hid (HF.out fun h => hz1 h.2)
            clear hz0 hz1
            go_wp2
            go_ret
            exact ⟨by rw [HS1.out]; rfl, rfl⟩
      · have e : k = m := by omega
        have HE2 := Lib.hid (HE.out true (decide_eq_true (fun i hi => HA.out i (by omega))))
        subst e
        go_wp2
        go_ret
        exact ⟨by rw [HE2.out]; rfl, rfl⟩
  · have y3 : (lfe m L != 0) = true := by rw [bne_iff_ne]; exact h3
    have HE := Lib.hid (show ctz m L = lfe m L by unfold ctz; rw [if_neg (by omega), if_pos h3])
    generalize lfe m L = z at *
    clear h3
    go_enter Try.func105, Try.ntmps105
    go_wp2_with fail
    with_reducible refine Calls.mono HK.out ?_
    rintro e w1 ⟨rfl, hw1⟩
    subst w1
    go_wp2
    go_ret
    exact ⟨by rw [HE.out]; rfl, rfl⟩
end Go.Proofs.Ytngjcekjboedjaa
