/- The checks of the reference, and of threadings; what the reference asks of a shaft. -/
import Derived.Test.YthipdfkgeghooaaNck
namespace Go.Proofs.Ythipdfkgeghooaa
open Go.RowKit
set_option maxRecDepth 100000
set_option linter.unusedVariables false
set_option linter.unusedSimpArgs false

set_option maxHeartbeats 400000 in
theorem lc_any0 (A : Option Addr) (n c : Nat) (f : Nat → Int) (w : World) (hn : n ≤ 100000) (h : L2.Holds w w.heap.size A n f) (hbig : ¬ 400 < n) :
    Calls Try.prog 44 #[.slice A n c] w fun e w' => e = .returned (.int .i64 (L2.lchk n f)) ∧ w' = w := by
  have HG := Lib.hid h
  clear h
  have b1 : decide ((400 : Int) < (n : Int)) = false := by simp; omega
  go_enter Try.func44, Try.ntmps44
  go_wp2
  go_loopw [10] (fun i wr => ∃ j : Nat, j ≤ n ∧ i = .int .i64 j ∧ Hid (∀ i, i < j → 0 ≤ f i ∧ f i < 400) ∧ wr = w) (fun i _ => n - (intOf i).toNat)
  case atStart => exact ⟨0, Nat.zero_le _, rfl, Lib.hid (fun j h => by omega), rfl⟩
  case round =>
    obtain ⟨j, hj, rfl, HA, rfl⟩ := hrel
    by_cases hlt : j < n
    · have y1 : (j : Int) < (n : Int) := by omega
      have y2 : (0 : Int) ≤ (j : Int) := by omega
      obtain ⟨b, o, e, hl, hc⟩ := HG.out (by omega)
      have a0 := hc j hlt
      have HF := Lib.hid (fun (hz : ¬ (0 ≤ f j ∧ f j < 400)) => (show L2.lchk n f = 8 from (by unfold L2.lchk; rw [if_neg hbig, if_neg (by rw [decide_eq_true_eq]; exact fun q => hz (q j hlt))])))
      have HS := Lib.hid (fun (hz : 0 ≤ f j ∧ f j < 400) i (hi : i < j + 1) => if e : i = j then (show 0 ≤ f i ∧ f i < 400 by rw [e]; exact hz) else HA.out i (by omega))
      subst e
      clear hc HA
      generalize f j = x at *
      by_cases h1 : x < 0
      · have y3 : decide (x < 0) = true := decide_eq_true h1
        go_wp2
        go_ret
        exact ⟨by rw [HF.out (by omega)]; rfl, rfl⟩
      · have y3 : decide (x < 0) = false := decide_eq_false h1
        by_cases h2 : 400 ≤ x
        · go_wp2
          go_ret
          exact ⟨by rw [HF.out (by omega)]; rfl, rfl⟩
        · go_wp2
          go_roundw
          case rel => exact ⟨j + 1, by omega, by go_num, Lib.hid (HS.out (by omega)), trivial⟩
          case measure => simp [intOf]; omega
    · have e : j = n := by omega
      have HE := Lib.hid (show L2.lchk n f = 0 from (by unfold L2.lchk; rw [if_neg hbig, if_pos (decide_eq_true (fun i hi => HA.out i (by omega)))]))
      subst e
      go_wp2
      go_ret
      exact ⟨by rw [HE.out]; rfl, rfl⟩
theorem lc_any (A : Option Addr) (n c : Nat) (f : Nat → Int) (w : World) (hn : n ≤ 100000) (h : L2.Holds w w.heap.size A n f) :
    Calls Try.prog 44 #[.slice A n c] w fun e w' => e = .returned (.int .i64 (L2.lchk n f)) ∧ w' = w := by
  by_cases h1 : 400 < n
  · have b1 : decide ((400 : Int) < (n : Int)) = true := by simp; omega
    have e : L2.lchk n f = 4 := by unfold L2.lchk; rw [if_pos h1]
    rw [e]
    clear h
    go_enter Try.func44, Try.ntmps44
    go_wp2
    go_ret
    exact ⟨rfl, rfl⟩
  · exact lc_any0 A n c f w hn h h1
set_option maxHeartbeats 400000 in
theorem rlc_any0 (A : Option Addr) (n c : Nat) (f : Nat → Int) (w : World) (hn : n ≤ 100000) (h : L2.Holds w w.heap.size A n f) (hbig : ¬ 400 < n) :
    Calls Try.prog 45 #[.slice A n c] w fun e w' => e = .returned (.int .i64 (L2.lchk n f)) ∧ w' = w := by
  have HG := Lib.hid h
  clear h
  have b1 : decide ((400 : Int) < (n : Int)) = false := by simp; omega
  go_enter Try.func45, Try.ntmps45
  go_wp2
  go_loopw [3] (fun i wr => ∃ j : Nat, j ≤ n ∧ i = .int .i64 j ∧ Hid (∀ i, i < j → 0 ≤ f i ∧ f i < 400) ∧ wr = w) (fun i _ => n - (intOf i).toNat)
  case atStart => exact ⟨0, Nat.zero_le _, rfl, Lib.hid (fun j h => by omega), rfl⟩
  case round =>
    obtain ⟨j, hj, rfl, HA, rfl⟩ := hrel
    by_cases hlt : j < n
    · have y1 : (j : Int) < (n : Int) := by omega
      have y2 : (0 : Int) ≤ (j : Int) := by omega
      obtain ⟨b, o, e, hl, hc⟩ := HG.out (by omega)
      have a0 := hc j hlt
      have HF := Lib.hid (fun (hz : ¬ (0 ≤ f j ∧ f j < 400)) => (show L2.lchk n f = 8 from (by unfold L2.lchk; rw [if_neg hbig, if_neg (by rw [decide_eq_true_eq]; exact fun q => hz (q j hlt))])))
      have HS := Lib.hid (fun (hz : 0 ≤ f j ∧ f j < 400) i (hi : i < j + 1) => if e : i = j then (show 0 ≤ f i ∧ f i < 400 by rw [e]; exact hz) else HA.out i (by omega))
      subst e
      clear hc HA
      generalize f j = x at *
      by_cases h1 : x < 0
      · have y3 : decide (x < 0) = true := decide_eq_true h1
        go_wp2
        go_ret
        exact ⟨by rw [HF.out (by omega)]; rfl, rfl⟩
      · have y3 : decide (x < 0) = false := decide_eq_false h1
        by_cases h2 : 400 ≤ x
        · go_wp2
          go_ret
          exact ⟨by rw [HF.out (by omega)]; rfl, rfl⟩
        · go_wp2
          go_roundw
          case rel => exact ⟨j + 1, by omega, by go_num, Lib.hid (HS.out (by omega)), trivial⟩
          case measure => simp [intOf]; omega
    · have e : j = n := by omega
      have HE := Lib.hid (show L2.lchk n f = 0 from (by unfold L2.lchk; rw [if_neg hbig, if_pos (decide_eq_true (fun i hi => HA.out i (by omega)))]))
      subst e
      go_wp2
      go_ret
      exact ⟨by rw [HE.out]; rfl, rfl⟩
theorem rlc_any (A : Option Addr) (n c : Nat) (f : Nat → Int) (w : World) (hn : n ≤ 100000) (h : L2.Holds w w.heap.size A n f) :
    Calls Try.prog 45 #[.slice A n c] w fun e w' => e = .returned (.int .i64 (L2.lchk n f)) ∧ w' = w := by
  by_cases h1 : 400 < n
  · have b1 : decide ((400 : Int) < (n : Int)) = true := by simp; omega
    have e : L2.lchk n f = 4 := by unfold L2.lchk; rw [if_pos h1]
    rw [e]
    clear h
    go_enter Try.func45, Try.ntmps45
    go_wp2
    go_ret
    exact ⟨rfl, rfl⟩
  · exact rlc_any0 A n c f w hn h h1
/-- Whether a list is a line of heights. -/
def hts (n : Nat) (f : Nat → Int) : Bool := len64 n && upTo 1000 n f
set_option maxHeartbeats 400000 in
theorem hts_any (A : Option Addr) (n c : Nat) (f : Nat → Int) (w : World) (hn : n ≤ 100000) (h : L2.Holds w w.heap.size A n f) :
    Calls Try.prog 42 #[.slice A n c] w fun e w' => e = .returned (.bool (hts n f)) ∧ ∃ k, w' = w.drewN k := by
  have HG := Lib.hid h
  clear h
  go_enter Try.func42, Try.ntmps42
  go_wp2
  go_loopw [3] (fun i wr => ∃ j : Nat, j ≤ n ∧ i = .int .i64 j ∧ Hid (∀ i, i < j → 0 ≤ f i ∧ f i ≤ 1000) ∧ wr = w) (fun i _ => n - (intOf i).toNat)
  case atStart => exact ⟨0, Nat.zero_le _, rfl, Lib.hid (fun j h => by omega), rfl⟩
  case round =>
    obtain ⟨j, hj, rfl, HA, rfl⟩ := hrel
    by_cases hlt : j < n
    · have y1 : (j : Int) < (n : Int) := by omega
      have y2 : (0 : Int) ≤ (j : Int) := by omega
      obtain ⟨b, o, e, hl, hc⟩ := HG.out (by omega)
      have a0 := hc j hlt
      have HF := Lib.hid (fun (hz : ¬ (0 ≤ f j ∧ f j ≤ 1000)) => (show hts n f = false by unfold hts; rw [show upTo 1000 n f = false from decide_eq_false fun q => hz (q j hlt)]; simp))
      have HS := Lib.hid (fun (hz : 0 ≤ f j ∧ f j ≤ 1000) i (hi : i < j + 1) => if e : i = j then (show 0 ≤ f i ∧ f i ≤ 1000 by rw [e]; exact hz) else HA.out i (by omega))
      subst e
      clear hc HA
      generalize f j = x at *
      by_cases h1 : x < 0
      · have y3 : decide (x < 0) = true := decide_eq_true h1
        go_wp2
        go_ret
        exact ⟨by rw [HF.out (by omega)]; rfl, 0, rfl⟩
      · have y3 : decide (x < 0) = false := decide_eq_false h1
        by_cases h2 : 1000 < x
        · go_wp2
          go_ret
          exact ⟨by rw [HF.out (by omega)]; rfl, 0, rfl⟩
        · go_wp2
          go_roundw
          case rel => exact ⟨j + 1, by omega, by go_num, Lib.hid (HS.out (by omega)), trivial⟩
          case measure => simp [intOf]; omega
    · have e : j = n := by omega
      have HE := Lib.hid (show hts n f = len64 n by unfold hts; rw [show upTo 1000 n f = true from decide_eq_true (fun i hi => HA.out i (by omega))]; simp)
      subst e
      by_cases h1 : 1 ≤ j
      · by_cases h2 : j ≤ 64
        · have Hr := Lib.hid (show hts j f = true by rw [HE.out]; exact decide_eq_true ⟨h1, h2⟩)
          go_wp2
          go_ret
          exact ⟨by rw [Hr.out]; first | rfl | (simp; omega), 0, rfl⟩
        · have Hr := Lib.hid (show hts j f = false by rw [HE.out]; exact decide_eq_false fun h => h2 h.2)
          go_wp2
          go_ret
          exact ⟨by rw [Hr.out]; first | rfl | (simp; omega), 0, rfl⟩
      · have Hr := Lib.hid (show hts j f = false by rw [HE.out]; exact decide_eq_false fun h => h1 h.1)
        go_wp2
        go_ret
        exact ⟨by rw [Hr.out]; first | rfl | (simp; omega), 0, rfl⟩
theorem away_any (a b : Int) (w : World) (ha : -9000 ≤ a ∧ a ≤ 9000) (hb : -9000 ≤ b ∧ b ≤ 9000) : Calls Try.prog 30 #[.int .i64 a, .int .i64 b] w fun e w' => e = .returned (.int .i64 (aw a b)) ∧ w' = w := by
  have z1 : IntKind.i64.wrap (b - a) = b - a := IntWalk.i64_in _ (by omega)
  have z2 : IntKind.i64.wrap (a - b) = a - b := IntWalk.i64_in _ (by omega)
  by_cases h : a < b
  · have e : aw a b = b - a := if_pos h
    rw [e]
    have y : decide (a < b) = true := decide_eq_true h
    go_enter Try.func30, Try.ntmps30
    go_wp2
    go_ret
    exact ⟨rfl, rfl⟩
  · have e : aw a b = a - b := if_neg h
    rw [e]
    have y : decide (a < b) = false := decide_eq_false h
    go_enter Try.func30, Try.ntmps30
    go_wp2
    go_ret
    exact ⟨rfl, rfl⟩
/-- More than the statements consider. -/
def grt (n m : Nat) : Bool := decide (100 < n) || decide (100 < m)
set_option maxHeartbeats 400000 in
theorem great_any (S N : Int) (A D : Option Addr) (n c m d : Nat) (w : World) :
    Calls Try.prog 10 #[.agg #[.int .i64 S, .int .i64 N, .slice A n c], .slice D m d] w fun e w' => e = .returned (.bool (grt n m)) ∧ Below w.heap.size w w' := by
  by_cases h1 : 100 < n
  · have Hr := Lib.hid (show grt n m = true by unfold grt; rw [decide_eq_true h1]; rfl)
    have y : decide ((100 : Int) < (n : Int)) = true := by simp; omega
    have LB0 := Lib.hid (Below.refl w.heap.size w)
    have X1 := IBox.new w S N (.slice A n c)
    have X1 := Lib.hid X1
    have LB0 := Lib.hid (LB0.out.alloc LB0.out.size (.cells #[.int .i64 S, .int .i64 N, .slice A n c] 24))
    go_enter Try.func10, Try.ntmps10
    go_upto_region 1 with (fail)
    generalize w.alloc (.cells #[.int .i64 S, .int .i64 N, .slice A n c] 24) = w0 at *
    obtain ⟨q0, q1, q2, q3, q4, q5, q6⟩ := X1.out.all
    go_wp2
    go_ret
    exact ⟨by rw [Hr.out]; first | rfl | (simp; omega), LB0.out⟩
  · have y : decide ((100 : Int) < (n : Int)) = false := by simp; omega
    by_cases h2 : 100 < m
    · have Hr := Lib.hid (show grt n m = true by unfold grt; rw [decide_eq_true h2]; simp)
      have y : decide ((100 : Int) < (m : Int)) = true := by simp; omega
      have LB0 := Lib.hid (Below.refl w.heap.size w)
      have X1 := IBox.new w S N (.slice A n c)
      have X1 := Lib.hid X1
      have LB0 := Lib.hid (LB0.out.alloc LB0.out.size (.cells #[.int .i64 S, .int .i64 N, .slice A n c] 24))
      go_enter Try.func10, Try.ntmps10
      go_upto_region 1 with (fail)
      generalize w.alloc (.cells #[.int .i64 S, .int .i64 N, .slice A n c] 24) = w0 at *
      obtain ⟨q0, q1, q2, q3, q4, q5, q6⟩ := X1.out.all
      go_wp2
      go_ret
      exact ⟨by rw [Hr.out]; first | rfl | (simp; omega), LB0.out⟩
    · have Hr := Lib.hid (show grt n m = false by unfold grt; rw [decide_eq_false h1, decide_eq_false h2]; rfl)
      have y : decide ((100 : Int) < (m : Int)) = false := by simp; omega
      have LB0 := Lib.hid (Below.refl w.heap.size w)
      have X1 := IBox.new w S N (.slice A n c)
      have X1 := Lib.hid X1
      have LB0 := Lib.hid (LB0.out.alloc LB0.out.size (.cells #[.int .i64 S, .int .i64 N, .slice A n c] 24))
      go_enter Try.func10, Try.ntmps10
      go_upto_region 1 with (fail)
      generalize w.alloc (.cells #[.int .i64 S, .int .i64 N, .slice A n c] 24) = w0 at *
      obtain ⟨q0, q1, q2, q3, q4, q5, q6⟩ := X1.out.all
      go_wp2
      go_ret
      exact ⟨by rw [Hr.out]; first | rfl | (simp; omega), LB0.out⟩
set_option maxHeartbeats 1600000 in
theorem rnck_any (S N : Int) (A : Option Addr) (n c : Nat) (f : Nat → Int) (w : World) (hn : n ≤ 100000) (hf : L2.Holds w w.heap.size A n f) :
    Calls Try.prog 19 #[.agg #[.int .i64 S, .int .i64 N, .slice A n c]] w fun e w' => e = .returned (.int .i64 (nck S N n f)) ∧ Below w.heap.size w w' := by
  have HX := Lib.hid hf
  by_cases h1 : N < 1
  · have Hr := Lib.hid (show nck S N n f = 8 from nck_no (by omega))
    clear hf
    have LB0 := Lib.hid (Below.refl w.heap.size w)
    have X1 := IBox.new w S N (.slice A n c)
    have X1 := Lib.hid X1
    have LB0 := Lib.hid (LB0.out.alloc LB0.out.size (.cells #[.int .i64 S, .int .i64 N, .slice A n c] 24))
    go_enter Try.func19, Try.ntmps19
    go_upto_region 1 with (fail)
    generalize w.alloc (.cells #[.int .i64 S, .int .i64 N, .slice A n c] 24) = w0 at *
    obtain ⟨q0, q1, q2, q3, q4, q5, q6⟩ := X1.out.all
    have y1 : decide (N < 1) = true := decide_eq_true h1
    go_wp2
    go_ret
    exact ⟨by rw [Hr.out]; rfl, LB0.out⟩
  have y1 : decide (N < 1) = false := decide_eq_false h1
  by_cases h2 : S < N
  · have Hr := Lib.hid (show nck S N n f = 8 from nck_no (by omega))
    clear hf
    have LB0 := Lib.hid (Below.refl w.heap.size w)
    have X1 := IBox.new w S N (.slice A n c)
    have X1 := Lib.hid X1
    have LB0 := Lib.hid (LB0.out.alloc LB0.out.size (.cells #[.int .i64 S, .int .i64 N, .slice A n c] 24))
    go_enter Try.func19, Try.ntmps19
    go_upto_region 1 with (fail)
    generalize w.alloc (.cells #[.int .i64 S, .int .i64 N, .slice A n c] 24) = w0 at *
    obtain ⟨q0, q1, q2, q3, q4, q5, q6⟩ := X1.out.all
    go_wp2
    go_ret
    exact ⟨by rw [Hr.out]; rfl, LB0.out⟩
  by_cases h3 : 40 < S
  · have Hr := Lib.hid (show nck S N n f = 8 from nck_no (by omega))
    clear hf
    have LB0 := Lib.hid (Below.refl w.heap.size w)
    have X1 := IBox.new w S N (.slice A n c)
    have X1 := Lib.hid X1
    have LB0 := Lib.hid (LB0.out.alloc LB0.out.size (.cells #[.int .i64 S, .int .i64 N, .slice A n c] 24))
    go_enter Try.func19, Try.ntmps19
    go_upto_region 1 with (fail)
    generalize w.alloc (.cells #[.int .i64 S, .int .i64 N, .slice A n c] 24) = w0 at *
    obtain ⟨q0, q1, q2, q3, q4, q5, q6⟩ := X1.out.all
    go_wp2
    go_ret
    exact ⟨by rw [Hr.out]; rfl, LB0.out⟩
  obtain ⟨r, hr⟩ : ∃ r, S.tmod N = r := ⟨_, rfl⟩
  have z0 : ¬ N = 0 := by omega
  have rg : 0 ≤ r := by rw [← hr]; exact Int.tmod_nonneg _ (by omega)
  by_cases h4 : 0 < r
  · have z4 : decide (0 < r) = true := decide_eq_true h4
    have Hr := Lib.hid (show nck S N n f = 8 from nck_no fun q => absurd (hr.symm.trans q.2.2.2.1) (by omega))
    clear hf
    have LB0 := Lib.hid (Below.refl w.heap.size w)
    have X1 := IBox.new w S N (.slice A n c)
    have X1 := Lib.hid X1
    have LB0 := Lib.hid (LB0.out.alloc LB0.out.size (.cells #[.int .i64 S, .int .i64 N, .slice A n c] 24))
    go_enter Try.func19, Try.ntmps19
    go_upto_region 1 with (fail)
    generalize w.alloc (.cells #[.int .i64 S, .int .i64 N, .slice A n c] 24) = w0 at *
    obtain ⟨q0, q1, q2, q3, q4, q5, q6⟩ := X1.out.all
    go_wp2
    go_ret
    exact ⟨by rw [Hr.out]; rfl, LB0.out⟩
  obtain rfl : r = 0 := by omega
  clear h4
  by_cases h5 : n = 0
  · subst h5
    have Hr := Lib.hid (show nck S N 0 f = 8 from nck_no (by omega))
    clear hf
    have LB0 := Lib.hid (Below.refl w.heap.size w)
    have X1 := IBox.new w S N (.slice A 0 c)
    have X1 := Lib.hid X1
    have LB0 := Lib.hid (LB0.out.alloc LB0.out.size (.cells #[.int .i64 S, .int .i64 N, .slice A 0 c] 24))
    go_enter Try.func19, Try.ntmps19
    go_upto_region 1 with (fail)
    generalize w.alloc (.cells #[.int .i64 S, .int .i64 N, .slice A 0 c] 24) = w0 at *
    obtain ⟨q0, q1, q2, q3, q4, q5, q6⟩ := X1.out.all
    go_wp2
    go_ret
    exact ⟨by rw [Hr.out]; rfl, LB0.out⟩
  have z5 : ((n : Int) == 0) = false := by simp [h5]
  by_cases h6 : 64 < n
  · have Hr := Lib.hid (show nck S N n f = 8 from nck_no (by omega))
    clear hf
    have LB0 := Lib.hid (Below.refl w.heap.size w)
    have X1 := IBox.new w S N (.slice A n c)
    have X1 := Lib.hid X1
    have LB0 := Lib.hid (LB0.out.alloc LB0.out.size (.cells #[.int .i64 S, .int .i64 N, .slice A n c] 24))
    go_enter Try.func19, Try.ntmps19
    go_upto_region 1 with (fail)
    generalize w.alloc (.cells #[.int .i64 S, .int .i64 N, .slice A n c] 24) = w0 at *
    obtain ⟨q0, q1, q2, q3, q4, q5, q6⟩ := X1.out.all
    have z6 : decide ((64 : Int) < (n : Int)) = true := by simp; omega
    go_wp2
    go_ret
    exact ⟨by rw [Hr.out]; rfl, LB0.out⟩
  have z6 : decide ((64 : Int) < (n : Int)) = false := by simp; omega
  have HD := Lib.hid (And.intro h5 hr)
  clear hf h5
  have LB0 := Lib.hid (Below.refl w.heap.size w)
  have X1 := IBox.new w S N (.slice A n c)
  have X1 := Lib.hid X1
  have LB0 := Lib.hid (LB0.out.alloc LB0.out.size (.cells #[.int .i64 S, .int .i64 N, .slice A n c] 24))
  go_enter Try.func19, Try.ntmps19
  go_upto_region 1 with (fail)
  generalize w.alloc (.cells #[.int .i64 S, .int .i64 N, .slice A n c] 24) = w0 at *
  obtain ⟨q0, q1, q2, q3, q4, q5, q6⟩ := X1.out.all
  go_wp2
  clear q0 q1 q2 q3 q4 q5 q6
  go_loopw [3] (fun i wr => ∃ j : Nat, j ≤ n ∧ i = .int .i64 j ∧ Hid (∀ i, i < j → 0 ≤ f i ∧ f i ≤ N - 1) ∧ Hid (IBox wr w.heap.size S N (.slice A n c)) ∧ Hid (Below w.heap.size w wr)) (fun i _ => n - (intOf i).toNat)
  case atStart => exact ⟨0, Nat.zero_le _, rfl, Lib.hid (fun j h => by omega), X1, LB0⟩
  case round =>
    obtain ⟨j, hj, rfl, HA, HB, HL⟩ := hrel
    obtain ⟨q0, q1, q2, q3, q4, q5, q6⟩ := HB.out.all
    by_cases hlt : j < n
    · have y1 : (j : Int) < (n : Int) := by omega
      have y2 : (0 : Int) ≤ (j : Int) := by omega
      obtain ⟨b, o, e, hl, hc⟩ := HX.out.below HL.out (by omega)
      have a0 := hc j hlt
      have HF := Lib.hid (fun (hz : ¬ (0 ≤ f j ∧ f j ≤ N - 1)) => (show nck S N n f = 8 from nck_no fun q => hz (upTo_of q.2.2.2.2.2.2 j hlt)))
      have HS := Lib.hid (fun (hz : 0 ≤ f j ∧ f j ≤ N - 1) i (hi : i < j + 1) => if e : i = j then (show 0 ≤ f i ∧ f i ≤ N - 1 by rw [e]; exact hz) else HA.out i (by omega))
      subst e
      clear hc HA
      generalize f j = x at *
      by_cases g1 : x < 0
      · have y3 : decide (x < 0) = true := decide_eq_true g1
        go_wp2
        go_quiet (fail)
        go_wp2
        go_ret
        exact ⟨by rw [HF.out (by omega)]; rfl, Go.Proofs.below_drewN' HL.out _⟩
      · have y3 : decide (x < 0) = false := decide_eq_false g1
        by_cases g2 : N ≤ x
        · have y4 : decide (N ≤ x) = true := decide_eq_true g2
          go_wp2
          go_quiet (fail)
          go_wp2
          go_ret
          exact ⟨by rw [HF.out (by omega)]; rfl, Go.Proofs.below_drewN' HL.out _⟩
        · have y4 : decide (N ≤ x) = false := decide_eq_false g2
          go_wp2
          go_quiet (fail)
          go_wp2
          go_roundw
          case rel => exact ⟨j + 1, by omega, by go_num, Lib.hid (HS.out (by omega)), Lib.hid HB.out, Lib.hid (Go.Proofs.below_drewN' HL.out _)⟩
          case measure => simp [intOf]; omega
    · have e : j = n := by omega
      subst e
      have HE := Lib.hid (show nck S N j f = 0 from nck_yes ⟨by omega, by omega, by omega, HD.out.2, by have := HD.out.1; omega, by omega, decide_eq_true (fun i hi => HA.out i (by omega))⟩)
      go_wp2
      go_ret
      exact ⟨by rw [HE.out]; rfl, HL.out⟩
end Go.Proofs.Ythipdfkgeghooaa
