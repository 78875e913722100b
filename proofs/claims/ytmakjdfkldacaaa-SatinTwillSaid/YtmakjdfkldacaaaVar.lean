/- areRuns, Valid, rowOf, Row: runs and their rows, by contracts. -/
import Derived.Test.YtmakjdfkldacaaaCou
import Derived.Test.YtmakjdfkldacaaaCa
import Derived.Test.YtmakjdfkldacaaaStm
namespace Go.Proofs.Ytmakjdfkldacaaa
open Go.RowKit
set_option maxRecDepth 100000
set_option linter.unusedVariables false
set_option linter.unusedSimpArgs false

theorem li_cells {w : World} {B : Nat} {A : Option Addr} {n : Nat} {f : Nat → Int} (h : L2.Holds w B A n f) (h0 : 0 < n) : ∃ b o, A = some ⟨b, o, none⟩ ∧ b < B ∧ ∀ i, i < n → w.cell? ⟨b, o + i, none⟩ = some (.int .i64 (f i)) := h h0
theorem tm2 (n : Nat) : (n : Int).tmod 2 = ((n % 2 : Nat) : Int) := by rw [Int.tmod_eq_emod_of_nonneg (by omega)]; omega
theorem vr_zero (f : Nat → Int) : vr f 0 = false := decide_eq_false fun h => by have := h.1; omega
theorem vr_low {f : Nat → Int} {n k : Nat} (hk : k < n) (h : f k < 1) : vr f n = false := decide_eq_false fun e => by have := e.2.2.1 k hk; omega
theorem vr_big {f : Nat → Int} {n k : Nat} (hk : k < n) (h : (64 : Int) - (sm f k : Nat) < f k) : vr f n = false := by
  cases e : vr f n
  · rfl
  · have := (vr_iff.1 e).one hk
    omega
theorem vr_odd {f : Nat → Int} {n : Nat} (h : n % 2 = 1) : vr f n = false := decide_eq_false fun e => by have := e.2.1; omega
theorem vr_many {f : Nat → Int} {n : Nat} (h : 64 < n) : vr f n = false := by
  cases e : vr f n
  · rfl
  · have := (vr_iff.1 e).nle
    omega
theorem vr_small {f : Nat → Int} {n : Nat} (h : n < 2) : vr f n = false := decide_eq_false fun e => by have := e.1; omega
theorem vr_yes {f : Nat → Int} {n : Nat} (h0 : n ≠ 0) (h1 : n % 2 = 0) (h2 : ∀ k, k < n → 1 ≤ f k) (h3 : sm f n ≤ 64) : vr f n = true := decide_eq_true ⟨by omega, h1, h2, h3⟩
theorem sm_next {f : Nat → Int} {k : Nat} (h : 1 ≤ f k) : ((sm f (k + 1) : Nat) : Int) = (sm f k : Nat) + f k := by show ((sm f k + (f k).toNat : Nat) : Int) = _; omega
set_option maxHeartbeats 800000 in
theorem pvr_any (A : Option Addr) (n c : Nat) (f : Nat → Int) (w : World) (hn : n ≤ 5000) (hr : L2.Holds w w.heap.size A n f) : Calls Try.prog 43 #[.slice A n c] w fun e w' => e = .returned (.bool (vr f n)) ∧ w' = w := by
  rcases Nat.eq_zero_or_pos n with rfl | h0
  · have HE := Lib.hid (vr_zero f)
    go_enter Try.func43, Try.ntmps43
    go_wp2
    go_loopw [3, 8] (fun l i wr => l = .int .i64 64 ∧ i = .int .i64 0 ∧ wr = w) (fun _ i _ => 0)
    case atStart => exact ⟨rfl, rfl, rfl⟩
    case round =>
      obtain ⟨rfl, rfl, rfl⟩ := hrel
      go_wp2
      go_ret
      exact ⟨ret_bool HE.out.symm, rfl⟩
  obtain ⟨b, o, rfl, hb, hc⟩ := li_cells hr h0
  have HC := Lib.hid hc
  clear hc hr
  go_enter Try.func43, Try.ntmps43
  go_wp2
  go_loopw [3, 8] (fun l i wr => ∃ k : Nat, k ≤ n ∧ i = .int .i64 k ∧ l = .int .i64 (64 - (sm f k : Nat)) ∧ sm f k ≤ 64 ∧ Hid (∀ j, j < k → 1 ≤ f j) ∧ wr = w) (fun _ i _ => n - (intOf i).toNat)
  case atStart => exact ⟨0, by omega, rfl, rfl, by simp [sm], Lib.hid (fun j h => absurd h (by omega)), rfl⟩
  case round =>
    obtain ⟨k, hk, rfl, rfl, hs, hge, rfl⟩ := hrel
    by_cases hlk : k < n
    · have x1 : (k : Int) < (n : Int) := by omega
      have c1 := HC.out k hlk
      have HL := Lib.hid (fun h => vr_low (f := f) (n := n) (k := k) hlk h)
      have HB := Lib.hid (fun h => vr_big (f := f) (n := n) (k := k) hlk h)
      have HN := Lib.hid (fun h => sm_next (f := f) (k := k) h)
      have HK := Lib.hid (fun (h : 1 ≤ f k) j (hj : j < k + 1) => show 1 ≤ f j by
        by_cases e : j = k
        · rw [e]; exact h
        · exact hge.out j (by omega))
      obtain ⟨y, hy⟩ : ∃ y, f k = y := ⟨_, rfl⟩
      rw [hy] at c1 HL HB HN HK
      clear hy
      generalize sm f k = s at *
      by_cases g1 : y < 1
      · have E := Lib.hid (HL.out g1)
        go_wp2
        go_ret
        exact ⟨ret_bool E.out.symm, rfl⟩
      · by_cases g2 : 64 - (s : Int) < y
        · have E := Lib.hid (HB.out g2)
          go_wp2
          go_ret
          exact ⟨ret_bool E.out.symm, rfl⟩
        · have g3 : ¬ y > 64 - (s : Int) := by omega
          have e1 : IntKind.i64.wrap (64 - (s : Int) - y) = 64 - (s : Int) - y := IntWalk.i64_in _ (by omega)
          have H3 := Lib.hid (HK.out (by omega))
          have H4 := Lib.hid (HN.out (by omega))
          clear HL HB HN HK
          go_wp2
          exact ⟨⟨k + 1, by omega, by go_num, congrArg (Value.int .i64) (by rw [H4.out]; omega), by have := H4.out; omega, H3, trivial⟩, by simp [intOf]; omega⟩
    · have e : k = n := by omega
      subst e
      have x0 : (0 : Int) < (k : Int) := by omega
      have x1 : ¬ (k : Int) < (k : Int) := by omega
      have e1 := tm2 k
      rcases Nat.mod_two_eq_zero_or_one k with h2 | h2
      · rw [h2] at e1
        have E := Lib.hid (vr_yes (f := f) (by omega) h2 hge.out hs)
        go_wp2
        go_ret
        exact ⟨ret_bool E.out.symm, rfl⟩
      · rw [h2] at e1
        have E := Lib.hid (vr_odd (f := f) h2)
        go_wp2
        go_ret
        exact ⟨ret_bool E.out.symm, rfl⟩
set_option maxHeartbeats 800000 in
theorem rvr_any (A : Option Addr) (n c : Nat) (f : Nat → Int) (w : World) (hn : n ≤ 5000) (hr : L2.Holds w w.heap.size A n f) : Calls Try.prog 37 #[.slice A n c] w fun e w' => e = .returned (.bool (vr f n)) ∧ w' = w := by
  by_cases n2 : n < 2
  · have x1 : (n : Int) < 2 := by omega
    have E := Lib.hid (vr_small (f := f) n2)
    clear hr
    go_enter Try.func37, Try.ntmps37
    go_wp2
    go_ret
    exact ⟨ret_bool E.out.symm, rfl⟩
  by_cases n3 : 64 < n
  · have x1 : ¬ (n : Int) < 2 := by omega
    have x2 : 64 < (n : Int) := by omega
    have E := Lib.hid (vr_many (f := f) n3)
    clear hr
    go_enter Try.func37, Try.ntmps37
    go_wp2
    go_ret
    exact ⟨ret_bool E.out.symm, rfl⟩
  have x1 : ¬ (n : Int) < 2 := by omega
  have x2 : ¬ 64 < (n : Int) := by omega
  have e1 := tm2 n
  rcases Nat.mod_two_eq_zero_or_one n with h2 | h2
  case inr =>
    rw [h2] at e1
    have E := Lib.hid (vr_odd (f := f) h2)
    clear hr
    go_enter Try.func37, Try.ntmps37
    go_wp2
    go_ret
    exact ⟨ret_bool E.out.symm, rfl⟩
  rw [h2] at e1
  obtain ⟨b, o, rfl, hb, hc⟩ := li_cells hr (by omega)
  have HC := Lib.hid hc
  clear hc hr
  go_enter Try.func37, Try.ntmps37
  go_wp2
  go_loopw [3, 4] (fun l i wr => ∃ k : Nat, k ≤ n ∧ i = .int .i64 k ∧ l = .int .i64 (sm f k : Nat) ∧ sm f k ≤ 64 ∧ Hid (∀ j, j < k → 1 ≤ f j) ∧ wr = w) (fun _ i _ => n - (intOf i).toNat)
  case atStart => exact ⟨0, by omega, rfl, rfl, by simp [sm], Lib.hid (fun j h => absurd h (by omega)), rfl⟩
  case round =>
    obtain ⟨k, hk, rfl, rfl, hs, hge, rfl⟩ := hrel
    by_cases hlk : k < n
    · have x1 : (k : Int) < (n : Int) := by omega
      have c1 := HC.out k hlk
      have HL := Lib.hid (fun h => vr_low (f := f) (n := n) (k := k) hlk h)
      have HB := Lib.hid (fun h => vr_big (f := f) (n := n) (k := k) hlk h)
      have HN := Lib.hid (fun h => sm_next (f := f) (k := k) h)
      have HK := Lib.hid (fun (h : 1 ≤ f k) j (hj : j < k + 1) => show 1 ≤ f j by
        by_cases e : j = k
        · rw [e]; exact h
        · exact hge.out j (by omega))
      obtain ⟨y, hy⟩ : ∃ y, f k = y := ⟨_, rfl⟩
      rw [hy] at c1 HL HB HN HK
      clear hy
      generalize sm f k = s at *
      have e2 : IntKind.i64.wrap (64 - (s : Int)) = 64 - (s : Int) := IntWalk.i64_in _ (by omega)
      by_cases g1 : y < 1
      · have E := Lib.hid (HL.out g1)
        go_wp2
        go_ret
        exact ⟨ret_bool E.out.symm, rfl⟩
      · by_cases g2 : 64 - (s : Int) < y
        · have E := Lib.hid (HB.out g2)
          go_wp2
          go_ret
          exact ⟨ret_bool E.out.symm, rfl⟩
        · have e3 : IntKind.i64.wrap ((s : Int) + y) = (s : Int) + y := IntWalk.i64_in _ (by omega)
          have H3 := Lib.hid (HK.out (by omega))
          have H4 := Lib.hid (HN.out (by omega))
          clear HL HB HN HK
          go_wp2
          exact ⟨⟨k + 1, by omega, by go_num, congrArg (Value.int .i64) (by rw [H4.out]), by have := H4.out; omega, H3, trivial⟩, by simp [intOf]; omega⟩
    · have e : k = n := by omega
      subst e
      have x1 : ¬ (k : Int) < (k : Int) := by omega
      have E := Lib.hid (vr_yes (f := f) (by omega) h2 hge.out hs)
      go_wp2
      go_ret
      exact ⟨ret_bool E.out.symm, rfl⟩
end Go.Proofs.Ytmakjdfkldacaaa
