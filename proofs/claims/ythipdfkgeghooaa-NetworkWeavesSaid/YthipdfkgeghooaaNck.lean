/- The checks of networks, of lines of heights, of threadings: the program's and the reference's. -/
import Derived.Test.YthipdfkgeghooaaNma
namespace Go.Proofs.Ythipdfkgeghooaa
open Go.RowKit
set_option maxRecDepth 100000
set_option linter.unusedVariables false
set_option linter.unusedSimpArgs false

theorem islen_any (n : Nat) (w : World) : Calls Try.prog 36 #[.int .i64 (n : Nat)] w fun e w' => e = .returned (.bool (len64 n)) ∧ w' = w := by
  by_cases h1 : 1 ≤ n
  · by_cases h2 : n ≤ 64
    · have Hr := Lib.hid (show len64 n = true from decide_eq_true ⟨h1, h2⟩)
      go_enter Try.func36, Try.ntmps36
      go_wp2
      go_ret
      exact ⟨by rw [Hr.out]; first | rfl | (simp; omega), rfl⟩
    · have Hr := Lib.hid (show len64 n = false from decide_eq_false fun h => h2 h.2)
      go_enter Try.func36, Try.ntmps36
      go_wp2
      go_ret
      exact ⟨by rw [Hr.out]; first | rfl | (simp; omega), rfl⟩
  · have Hr := Lib.hid (show len64 n = false from decide_eq_false fun h => h1 h.1)
    go_enter Try.func36, Try.ntmps36
    go_wp2
    go_ret
    exact ⟨by rw [Hr.out]; first | rfl | (simp; omega), rfl⟩
set_option maxHeartbeats 400000 in
theorem upto_any (m : Int) (A : Option Addr) (n c : Nat) (f : Nat → Int) (w : World) (hn : n ≤ 100000) (h : L2.Holds w w.heap.size A n f) :
    Calls Try.prog 37 #[.int .i64 m, .slice A n c] w fun e w' => e = .returned (.bool (upTo m n f)) ∧ w' = w := by
  have HG := Lib.hid h
  clear h
  go_enter Try.func37, Try.ntmps37
  go_wp2
  go_loopw [9] (fun i wr => ∃ j : Nat, j ≤ n ∧ i = .int .i64 j ∧ Hid (∀ i, i < j → 0 ≤ f i ∧ f i ≤ m) ∧ wr = w) (fun i _ => n - (intOf i).toNat)
  case atStart => exact ⟨0, Nat.zero_le _, rfl, Lib.hid (fun j h => by omega), rfl⟩
  case round =>
    obtain ⟨j, hj, rfl, HA, rfl⟩ := hrel
    by_cases hlt : j < n
    · have y1 : (j : Int) < (n : Int) := by omega
      have y2 : (0 : Int) ≤ (j : Int) := by omega
      obtain ⟨b, o, e, hl, hc⟩ := HG.out (by omega)
      have a0 := hc j hlt
      have HF := Lib.hid (fun (hz : ¬ (0 ≤ f j ∧ f j ≤ m)) => (show upTo m n f = false from decide_eq_false fun q => hz (q j hlt)))
      have HS := Lib.hid (fun (hz : 0 ≤ f j ∧ f j ≤ m) i (hi : i < j + 1) => if e : i = j then (show 0 ≤ f i ∧ f i ≤ m by rw [e]; exact hz) else HA.out i (by omega))
      subst e
      clear hc HA
      generalize f j = x at *
      by_cases h1 : x < 0
      · have y3 : decide (x < 0) = true := decide_eq_true h1
        go_wp2
        go_ret
        exact ⟨by rw [HF.out (by omega)]; rfl, rfl⟩
      · have y3 : decide (x < 0) = false := decide_eq_false h1
        by_cases h2 : m < x
        · go_wp2
          go_ret
          exact ⟨by rw [HF.out (by omega)]; rfl, rfl⟩
        · go_wp2
          go_roundw
          case rel => exact ⟨j + 1, by omega, by go_num, Lib.hid (HS.out (by omega)), trivial⟩
          case measure => simp [intOf]; omega
    · have e : j = n := by omega
      have HE := Lib.hid (show upTo m n f = true from decide_eq_true (fun i hi => HA.out i (by omega)))
      subst e
      go_wp2
      go_ret
      exact ⟨by rw [HE.out]; rfl, rfl⟩
theorem nck_no {S N : Int} {n : Nat} {f : Nat → Int} (h : ¬ (1 ≤ N ∧ N ≤ S ∧ S ≤ 40 ∧ S.tmod N = 0 ∧ 1 ≤ n ∧ n ≤ 64 ∧ upTo (N - 1) n f = true)) : nck S N n f = 8 := if_neg h
theorem nck_yes {S N : Int} {n : Nat} {f : Nat → Int} (h : 1 ≤ N ∧ N ≤ S ∧ S ≤ 40 ∧ S.tmod N = 0 ∧ 1 ≤ n ∧ n ≤ 64 ∧ upTo (N - 1) n f = true) : nck S N n f = 0 := if_pos h
set_option maxHeartbeats 800000 in
theorem nck_any (S N : Int) (A : Option Addr) (n c : Nat) (f : Nat → Int) (w : World) (hn : n ≤ 100000) (hf : L2.Holds w w.heap.size A n f) :
    Calls Try.prog 18 #[.agg #[.int .i64 S, .int .i64 N, .slice A n c]] w fun e w' => e = .returned (.int .i64 (nck S N n f)) ∧ Below w.heap.size w w' := by
  by_cases h1 : N < 1
  · have Hr := Lib.hid (show nck S N n f = 8 from nck_no (by omega))
    clear hf
    have LB0 := Lib.hid (Below.refl w.heap.size w)
    have X1 := IBox.new w S N (.slice A n c)
    have X1 := Lib.hid X1
    have LB0 := Lib.hid (LB0.out.alloc LB0.out.size (.cells #[.int .i64 S, .int .i64 N, .slice A n c] 24))
    go_enter Try.func18, Try.ntmps18
    go_upto_region 1 with (fail)
    generalize w.alloc (.cells #[.int .i64 S, .int .i64 N, .slice A n c] 24) = w0 at *
    obtain ⟨q0, q1, q2, q3, q4, q5, q6⟩ := X1.out.all
    have y1 : decide (N < 1) = true := decide_eq_true h1
    go_wp2
    go_ret
    exact ⟨by rw [Hr.out]; rfl, LB0.out⟩
  have y1 : decide (N < 1) = false := decide_eq_false h1
  by_cases h2 : S < N
  · have Hr := Lib.hid (show nck S N n f = 8 from nck_no (by omega))
    clear hf
    have LB0 := Lib.hid (Below.refl w.heap.size w)
    have X1 := IBox.new w S N (.slice A n c)
    have X1 := Lib.hid X1
    have LB0 := Lib.hid (LB0.out.alloc LB0.out.size (.cells #[.int .i64 S, .int .i64 N, .slice A n c] 24))
    go_enter Try.func18, Try.ntmps18
    go_upto_region 1 with (fail)
    generalize w.alloc (.cells #[.int .i64 S, .int .i64 N, .slice A n c] 24) = w0 at *
    obtain ⟨q0, q1, q2, q3, q4, q5, q6⟩ := X1.out.all
    go_wp2
    go_ret
    exact ⟨by rw [Hr.out]; rfl, LB0.out⟩
  by_cases h3 : 40 < S
  · have Hr := Lib.hid (show nck S N n f = 8 from nck_no (by omega))
    clear hf
    have LB0 := Lib.hid (Below.refl w.heap.size w)
    have X1 := IBox.new w S N (.slice A n c)
    have X1 := Lib.hid X1
    have LB0 := Lib.hid (LB0.out.alloc LB0.out.size (.cells #[.int .i64 S, .int .i64 N, .slice A n c] 24))
    go_enter Try.func18, Try.ntmps18
    go_upto_region 1 with (fail)
    generalize w.alloc (.cells #[.int .i64 S, .int .i64 N, .slice A n c] 24) = w0 at *
    obtain ⟨q0, q1, q2, q3, q4, q5, q6⟩ := X1.out.all
    go_wp2
    go_ret
    exact ⟨by rw [Hr.out]; rfl, LB0.out⟩
  obtain ⟨r, hr⟩ : ∃ r, S.tmod N = r := ⟨_, rfl⟩
  have z0 : ¬ N = 0 := by omega
  by_cases h4 : r = 0
  · have HI := Lib.hid (fun u => islen_any n u)
    have HA := Lib.hid (fun u (hb : Below w.heap.size w u) => upto_any (N - 1) A n c f u hn ((hf.below hb).more hb.size))
    subst h4
    have z5 : IntKind.i64.wrap (N - 1) = N - 1 := IntWalk.i64_in _ (by omega)
    cases h5 : len64 n
    · rw [h5] at HI
      have Hr := Lib.hid (show nck S N n f = 8 from nck_no fun q => by rw [show len64 n = true from decide_eq_true ⟨q.2.2.2.2.1, q.2.2.2.2.2.1⟩] at h5; cases h5)
      clear hf
      have LB0 := Lib.hid (Below.refl w.heap.size w)
      have X1 := IBox.new w S N (.slice A n c)
      have X1 := Lib.hid X1
      have LB0 := Lib.hid (LB0.out.alloc LB0.out.size (.cells #[.int .i64 S, .int .i64 N, .slice A n c] 24))
      go_enter Try.func18, Try.ntmps18
      go_upto_region 1 with (fail)
      generalize w.alloc (.cells #[.int .i64 S, .int .i64 N, .slice A n c] 24) = w0 at *
      obtain ⟨q0, q1, q2, q3, q4, q5, q6⟩ := X1.out.all
      go_wp2_with fail
      clear q0 q1 q2 q3 q4 q5 q6
      with_reducible refine Calls.mono (HI.out _) ?_
      rintro e w1 ⟨rfl, rfl⟩
      obtain ⟨q0, q1, q2, q3, q4, q5, q6⟩ := X1.out.all
      go_wp2
      go_ret
      exact ⟨by rw [Hr.out]; rfl, LB0.out⟩
    · rw [h5] at HI
      have h5 := of_decide_eq_true h5
      cases h6 : upTo (N - 1) n f
      · rw [h6] at HA
        have Hr := Lib.hid (show nck S N n f = 8 from nck_no fun q => by rw [h6] at q; cases q.2.2.2.2.2.2)
        clear hf
        have LB0 := Lib.hid (Below.refl w.heap.size w)
        have X1 := IBox.new w S N (.slice A n c)
        have X1 := Lib.hid X1
        have LB0 := Lib.hid (LB0.out.alloc LB0.out.size (.cells #[.int .i64 S, .int .i64 N, .slice A n c] 24))
        go_enter Try.func18, Try.ntmps18
        go_upto_region 1 with (fail)
        generalize w.alloc (.cells #[.int .i64 S, .int .i64 N, .slice A n c] 24) = w0 at *
        obtain ⟨q0, q1, q2, q3, q4, q5, q6⟩ := X1.out.all
        go_wp2_with fail
        clear q0 q1 q2 q3 q4 q5 q6
        with_reducible refine Calls.mono (HI.out _) ?_
        rintro e w1 ⟨rfl, rfl⟩
        obtain ⟨q0, q1, q2, q3, q4, q5, q6⟩ := X1.out.all
        go_wp2_with fail
        clear q0 q1 q2 q3 q4 q5 q6
        with_reducible refine Calls.mono (HA.out _ LB0.out) ?_
        rintro e w2 ⟨rfl, rfl⟩
        obtain ⟨q0, q1, q2, q3, q4, q5, q6⟩ := X1.out.all
        go_wp2
        go_ret
        exact ⟨by rw [Hr.out]; rfl, LB0.out⟩
      · rw [h6] at HA
        have Hr := Lib.hid (show nck S N n f = 0 from nck_yes ⟨by omega, by omega, by omega, hr, h5.1, h5.2, h6⟩)
        clear hf
        have LB0 := Lib.hid (Below.refl w.heap.size w)
        have X1 := IBox.new w S N (.slice A n c)
        have X1 := Lib.hid X1
        have LB0 := Lib.hid (LB0.out.alloc LB0.out.size (.cells #[.int .i64 S, .int .i64 N, .slice A n c] 24))
        go_enter Try.func18, Try.ntmps18
        go_upto_region 1 with (fail)
        generalize w.alloc (.cells #[.int .i64 S, .int .i64 N, .slice A n c] 24) = w0 at *
        obtain ⟨q0, q1, q2, q3, q4, q5, q6⟩ := X1.out.all
        go_wp2_with fail
        clear q0 q1 q2 q3 q4 q5 q6
        with_reducible refine Calls.mono (HI.out _) ?_
        rintro e w1 ⟨rfl, rfl⟩
        obtain ⟨q0, q1, q2, q3, q4, q5, q6⟩ := X1.out.all
        go_wp2_with fail
        clear q0 q1 q2 q3 q4 q5 q6
        with_reducible refine Calls.mono (HA.out _ LB0.out) ?_
        rintro e w2 ⟨rfl, rfl⟩
        obtain ⟨q0, q1, q2, q3, q4, q5, q6⟩ := X1.out.all
        go_wp2
        go_ret
        exact ⟨by rw [Hr.out]; rfl, LB0.out⟩
  · have z4 : (r != 0) = true := by simp [h4]
    have Hr := Lib.hid (show nck S N n f = 8 from nck_no fun q => h4 (by rw [← hr]; exact q.2.2.2.1))
    clear hf
    have LB0 := Lib.hid (Below.refl w.heap.size w)
    have X1 := IBox.new w S N (.slice A n c)
    have X1 := Lib.hid X1
    have LB0 := Lib.hid (LB0.out.alloc LB0.out.size (.cells #[.int .i64 S, .int .i64 N, .slice A n c] 24))
    go_enter Try.func18, Try.ntmps18
    go_upto_region 1 with (fail)
    generalize w.alloc (.cells #[.int .i64 S, .int .i64 N, .slice A n c] 24) = w0 at *
    obtain ⟨q0, q1, q2, q3, q4, q5, q6⟩ := X1.out.all
    go_wp2
    go_ret
    exact ⟨by rw [Hr.out]; rfl, LB0.out⟩
end Go.Proofs.Ythipdfkgeghooaa
