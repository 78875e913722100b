/- slices.Equal of two rows of cells, and the program's Same. -/
import Derived.Test.YtbafhdinalapoaaSame
import Derived.Test.YtbafhdinalapoaaOps
namespace Go.Proofs.Ytbafhdinalapoaa
open Go.RowKit
set_option linter.unusedVariables false
set_option linter.unusedSimpArgs false

set_option maxHeartbeats 400000 in
theorem equal_len (A D : Option Addr) (n m c d : Nat) (w : World) (h : ¬ n = m) :
    Calls Try.prog 89 #[.slice A n c, .slice D m d] w fun e w' => e = .returned (.bool false) ∧ w' = w := by
  have z : ((n : Int) != (m : Int)) = true := by simp; omega
  clear h
  go_enter Try.func89, Try.ntmps89
  go_wp2
  go_ret
  exact ⟨rfl, rfl⟩

set_option maxHeartbeats 1600000 in
theorem equal_any (A D : Option Addr) (n c d : Nat) (f g : Nat → Bool) (w : World) (hn : n ≤ 5000) (hr : Holds w w.heap.size A n f) (hs : Holds w w.heap.size D n g) :
    Calls Try.prog 89 #[.slice A n c, .slice D n d] w fun e w' => e = .returned (.bool (decide (∀ i, i < n → f i = g i))) ∧ Below w.heap.size w w' := by
  have z3 : ((n : Int) != (n : Int)) = false := by simp
  have HR := Lib.hid hr
  have HS := Lib.hid hs
  clear hr hs
  go_enter Try.func89, Try.ntmps89
  go_wp2
  go_loopw [13] (fun i wr => ∃ k : Nat, k ≤ n ∧ i = .int .i64 k ∧ Hid (∀ i, i < k → f i = g i) ∧ Below w.heap.size w wr) (fun i _ => n - (intOf i).toNat)
  case atStart => exact ⟨0, Nat.zero_le _, rfl, fun i hi => absurd hi (by omega), Below.refl _ _⟩
  case round =>
    obtain ⟨k, hk, rfl, hall, hbel⟩ := hrel
    by_cases hlt : k < n
    · obtain ⟨b, o, rfl, hbl, hc⟩ := (HR.out.below hbel) (by omega)
      obtain ⟨b', o', rfl, hbl', hc'⟩ := (HS.out.below hbel) (by omega)
      have c1 := hc k hlt
      have c2 := hc' k hlt
      clear hc hc'
      have hbs := hbel.size
      have B1 := Lib.hid hbel
      clear hbel
      have y1 : (0 : Int) ≤ (k : Int) := by omega
      have y2 : (k : Int) < (n : Int) := by omega
      obtain ⟨u, hu⟩ : ∃ u, f k = u := ⟨_, rfl⟩
      obtain ⟨v, hv⟩ : ∃ v, g k = v := ⟨_, rfl⟩
      rw [hu] at c1
      rw [hv] at c2
      have HU := Lib.hid hu
      have HV := Lib.hid hv
      clear hu hv
      by_cases e : u = v
      · have E : f k = g k := by rw [HU.out, HV.out, e]
        have E := Lib.hid E
        subst e
        cases u
        all_goals
          go_wp2
          go_quiet (fail)
          go_wp2
          refine ⟨⟨k + 1, by omega, by go_num, fun i hi => ?_, Go.Proofs.below_drewN' B1.out _⟩, by simp [intOf]; omega⟩
          rcases Nat.lt_succ_iff_lt_or_eq.1 hi with h | rfl
          · exact hall.out i h
          · exact E.out
      · have E : ¬ f k = g k := by rw [HU.out, HV.out]; exact e
        have E := Lib.hid E
        cases u <;> cases v <;> first | exact absurd rfl e | skip
        all_goals
          clear e
          go_wp2
          go_quiet (fail)
          go_wp2
          go_ret
          exact ⟨ret_bool (by symm; rw [decide_eq_false_iff_not]; exact fun h => E.out (h k hlt)), Go.Proofs.below_drewN' B1.out _⟩
    · have e : k = n := by omega
      subst e
      go_wp2
      go_ret
      exact ⟨ret_bool (by symm; rw [decide_eq_true_iff]; exact hall.out), hbel⟩

/-- What Same answers: it reads the two grids' sides and cells. -/
theorem same_any (W H X Y : Int) (A D : Option Addr) (n m c d : Nat) (f g : Nat → Bool) (w : World) (hn : n ≤ 5000) (hr : Holds w w.heap.size A n f) (hs : Holds w w.heap.size D m g) :
    Calls Try.prog 64 #[.agg #[.int .i64 W, .int .i64 H, .slice A n c], .agg #[.int .i64 X, .int .i64 Y, .slice D m d]] w fun e w' => e = .returned (.bool (decide (W = X ∧ H = Y ∧ n = m ∧ ∀ i, i < n → f i = g i))) ∧ Below w.heap.size w w' := by
  obtain ⟨hb1, hb2, hb3⟩ := boxes2 w W H X Y (.slice A n c) (.slice D m d)
  have B0 := Lib.hid hb3
  have hr1 := (hr.below hb3).more hb3.size
  have hs1 := (hs.below hb3).more hb3.size
  clear hr hs
  by_cases eW : W = X
  · by_cases eH : H = Y
    · by_cases en : n = m
      · subst eW eH en
        have HE := Lib.hid (equal_any A D n c d f g _ hn hr1 hs1)
        have z1 : (W == W) = true := by simp
        have z2 : (H == H) = true := by simp
        have e : decide (W = W ∧ H = H ∧ n = n ∧ ∀ i, i < n → f i = g i) = decide (∀ i, i < n → f i = g i) := by simp
        rw [e]
        generalize decide (∀ i, i < n → f i = g i) = u at *
        clear hb1 hb2 hb3 hr1 hs1 e
        go_enter Try.func64, Try.ntmps64
        go_wp2_with fail
        refine HE.out.mono ?_
        rintro e w2 ⟨rfl, hb⟩
        have B1 := Lib.hid (B0.out.trans (hb.mono B0.out.size))
        clear hb HE B0
        go_wp2
        go_ret
        exact ⟨rfl, B1.out⟩
      · have HE := Lib.hid (equal_len A D n m c d ((w.alloc (.cells #[.int .i64 W, .int .i64 H, .slice A n c] 24)).alloc (.cells #[.int .i64 X, .int .i64 Y, .slice D m d] 24)) en)
        subst eW eH
        have z1 : (W == W) = true := by simp
        have z2 : (H == H) = true := by simp
        have e : decide (W = W ∧ H = H ∧ n = m ∧ ∀ i, i < n → f i = g i) = false := by simp [en]
        rw [e]
        clear hb1 hb2 hb3 hr1 hs1 e
        go_enter Try.func64, Try.ntmps64
        go_wp2_with fail
        refine HE.out.mono ?_
        rintro e w2 ⟨rfl, rfl⟩
        go_wp2
        go_ret
        exact ⟨rfl, B0.out⟩
    · have z1 : (W == X) = true := by simp [eW]
      have z2 : (H == Y) = false := by simp [eH]
      have e : decide (W = X ∧ H = Y ∧ n = m ∧ ∀ i, i < n → f i = g i) = false := by simp [eH]
      rw [e]
      clear hb1 hb2 hb3 hr1 hs1 e eW eH
      go_enter Try.func64, Try.ntmps64
      go_wp2
      go_ret
      exact ⟨rfl, B0.out⟩
  · have z1 : (W == X) = false := by simp [eW]
    have e : decide (W = X ∧ H = Y ∧ n = m ∧ ∀ i, i < n → f i = g i) = false := by simp [eW]
    rw [e]
    clear hb1 hb2 hb3 hr1 hs1 e eW
    go_enter Try.func64, Try.ntmps64
    go_wp2
    go_ret
    exact ⟨rfl, B0.out⟩
end Go.Proofs.Ytbafhdinalapoaa
