/- The checks of images: the program's and the reference's. -/
import Derived.Test.YtmcdfnhpaneanaaCim
namespace Go.Proofs.Ytmcdfnhpaneanaa
open Go.RowKit
set_option maxRecDepth 100000
set_option linter.unusedVariables false
set_option linter.unusedSimpArgs false

set_option maxHeartbeats 400000 in
theorem are_any (A : Option Addr) (n c : Nat) (f : Nat → Int) (w : World) (hn : n ≤ 100000) (h : L2.Holds w w.heap.size A n f) :
    Calls Try.prog 67 #[.slice A n c] w fun e w' => e = .returned (.bool (fine n f)) ∧ Below w.heap.size w w' := by
  have HG := Lib.hid h
  clear h
  go_enter Try.func67, Try.ntmps67
  go_wp2
  go_loopw [7] (fun i wr => ∃ j : Nat, j ≤ n ∧ i = .int .i64 j ∧ Hid (∀ i, i < j → 0 ≤ f i ∧ f i ≤ 15) ∧ wr = w) (fun i _ => n - (intOf i).toNat)
  case atStart => exact ⟨0, Nat.zero_le _, rfl, Lib.hid (fun j h => by omega), rfl⟩
  case round =>
    obtain ⟨j, hj, rfl, HA, rfl⟩ := hrel
    by_cases hlt : j < n
    · have y1 : (j : Int) < (n : Int) := by omega
      have y2 : (0 : Int) ≤ (j : Int) := by omega
      obtain ⟨b, o, e, hl, hc⟩ := HG.out (by omega)
      have a0 := hc j hlt
      have HF := Lib.hid (fun (hz : ¬ (0 ≤ f j ∧ f j ≤ 15)) => (show fine n f = false from decide_eq_false fun q => hz (q j hlt)))
      have HS := Lib.hid (fun (hz : 0 ≤ f j ∧ f j ≤ 15) i (hi : i < j + 1) => if e : i = j then (show 0 ≤ f i ∧ f i ≤ 15 by rw [e]; exact hz) else HA.out i (by omega))
      subst e
      clear hc HA
      generalize f j = x at *
      by_cases h1 : x < 0
      · have y3 : decide (x < 0) = true := decide_eq_true h1
        go_wp2
        go_ret
        exact ⟨by rw [HF.out (by omega)]; rfl, Below.refl _ _⟩
      · have y3 : decide (x < 0) = false := decide_eq_false h1
        by_cases h2 : 15 < x
        · go_wp2
          go_ret
          exact ⟨by rw [HF.out (by omega)]; rfl, Below.refl _ _⟩
        · go_wp2
          go_roundw
          case rel => exact ⟨j + 1, by omega, by go_num, Lib.hid (HS.out (by omega)), trivial⟩
          case measure => simp [intOf]; omega
    · have e : j = n := by omega
      have HE := Lib.hid (show fine n f = true from decide_eq_true (fun i hi => HA.out i (by omega)))
      subst e
      go_wp2
      go_ret
      exact ⟨by rw [HE.out]; rfl, Below.refl _ _⟩
set_option maxHeartbeats 400000 in
theorem rfine_any (A : Option Addr) (n c : Nat) (f : Nat → Int) (w : World) (hn : n ≤ 100000) (h : L2.Holds w w.heap.size A n f) :
    Calls Try.prog 65 #[.slice A n c] w fun e w' => e = .returned (.bool (fine n f)) ∧ Below w.heap.size w w' := by
  have HG := Lib.hid h
  clear h
  go_enter Try.func65, Try.ntmps65
  go_wp2
  go_loopw [3] (fun i wr => ∃ j : Nat, j ≤ n ∧ i = .int .i64 j ∧ Hid (∀ i, i < j → 0 ≤ f i ∧ f i ≤ 15) ∧ wr = w) (fun i _ => n - (intOf i).toNat)
  case atStart => exact ⟨0, Nat.zero_le _, rfl, Lib.hid (fun j h => by omega), rfl⟩
  case round =>
    obtain ⟨j, hj, rfl, HA, rfl⟩ := hrel
    by_cases hlt : j < n
    · have y1 : (j : Int) < (n : Int) := by omega
      have y2 : (0 : Int) ≤ (j : Int) := by omega
      obtain ⟨b, o, e, hl, hc⟩ := HG.out (by omega)
      have a0 := hc j hlt
      have HF := Lib.hid (fun (hz : ¬ (0 ≤ f j ∧ f j ≤ 15)) => (show fine n f = false from decide_eq_false fun q => hz (q j hlt)))
      have HS := Lib.hid (fun (hz : 0 ≤ f j ∧ f j ≤ 15) i (hi : i < j + 1) => if e : i = j then (show 0 ≤ f i ∧ f i ≤ 15 by rw [e]; exact hz) else HA.out i (by omega))
      subst e
      clear hc HA
      generalize f j = x at *
      by_cases h1 : x < 0
      · have y3 : decide (x < 0) = true := decide_eq_true h1
        go_wp2
        go_ret
        exact ⟨by rw [HF.out (by omega)]; rfl, Below.refl _ _⟩
      · have y3 : decide (x < 0) = false := decide_eq_false h1
        by_cases h2 : 15 < x
        · go_wp2
          go_ret
          exact ⟨by rw [HF.out (by omega)]; rfl, Below.refl _ _⟩
        · go_wp2
          go_roundw
          case rel => exact ⟨j + 1, by omega, by go_num, Lib.hid (HS.out (by omega)), trivial⟩
          case measure => simp [intOf]; omega
    · have e : j = n := by omega
      have HE := Lib.hid (show fine n f = true from decide_eq_true (fun i hi => HA.out i (by omega)))
      subst e
      go_wp2
      go_ret
      exact ⟨by rw [HE.out]; rfl, Below.refl _ _⟩
/-- Whether a number may be a side. -/
def side (x : Int) : Bool := decide (1 ≤ x ∧ x ≤ 64)
theorem side_any (x : Int) (w : World) : Calls Try.prog 79 #[.int .i64 x] w fun e w' => e = .returned (.bool (side x)) ∧ Below w.heap.size w w' := by
  by_cases h1 : 1 ≤ x
  · by_cases h2 : x ≤ 64
    · have Hr := Lib.hid (show side x = true from decide_eq_true ⟨h1, h2⟩)
      go_enter Try.func79, Try.ntmps79
      go_wp2
      go_ret
      exact ⟨by rw [Hr.out]; rfl, Below.refl _ _⟩
    · have Hr := Lib.hid (show side x = false from decide_eq_false fun h => h2 h.2)
      go_enter Try.func79, Try.ntmps79
      go_wp2
      go_ret
      exact ⟨by rw [Hr.out]; rfl, Below.refl _ _⟩
  · have Hr := Lib.hid (show side x = false from decide_eq_false fun h => h1 h.1)
    go_enter Try.func79, Try.ntmps79
    go_wp2
    go_ret
    exact ⟨by rw [Hr.out]; rfl, Below.refl _ _⟩
theorem side_nat {n : Nat} (h0 : 1 ≤ n) (h1 : n ≤ 64) : side n = true := decide_eq_true ⟨by omega, by omega⟩
theorem ick_no {W H : Int} {n : Nat} {f : Nat → Int} (h : ¬ (1 ≤ W ∧ W ≤ 64 ∧ 1 ≤ H ∧ H ≤ 64 ∧ (n : Int) = W * H ∧ fine n f = true)) : ick W H n f = 8 := if_neg h
theorem ick_yes {W H : Int} {n : Nat} {f : Nat → Int} (h : 1 ≤ W ∧ W ≤ 64 ∧ 1 ≤ H ∧ H ≤ 64 ∧ (n : Int) = W * H ∧ fine n f = true) : ick W H n f = 0 := if_pos h
set_option maxHeartbeats 800000 in
theorem ick_any (W H : Int) (A : Option Addr) (n c : Nat) (f : Nat → Int) (w : World) (hf : L2.Holds w w.heap.size A n f) :
    Calls Try.prog 54 #[.agg #[.int .i64 W, .int .i64 H, .slice A n c]] w fun e w' => e = .returned (.int .i64 (ick W H n f)) ∧ Below w.heap.size w w' := by
  have HW := Lib.hid (fun u => side_any W u)
  have HH := Lib.hid (fun u => side_any H u)
  by_cases h1 : 1 ≤ W ∧ W ≤ 64
  · rw [show side W = true from decide_eq_true h1] at HW
    by_cases h2 : 1 ≤ H ∧ H ≤ 64
    · rw [show side H = true from decide_eq_true h2] at HH
      obtain ⟨m1, m2⟩ := mul_pos_bd h1.1 h1.2 h2.1 h2.2
      by_cases h5 : (n : Int) = W * H
      · have h6 : ((n : Int) != W * H) = false := by simp [h5]
        have HA := Lib.hid (fun u (hb : Below w.heap.size w u) => are_any A n c f u (by omega) ((hf.below hb).more hb.size))
        cases h7 : fine n f
        · rw [h7] at HA
          have Hr := Lib.hid (show ick W H n f = 8 from ick_no fun q => by rw [h7] at q; cases q.2.2.2.2.2)
          clear hf h1 h2 h5 h7
          have LB0 := Lib.hid (Below.refl w.heap.size w)
          have X1 := IBox.new w W H (.slice A n c)
          have X1 := Lib.hid X1
          have LB0 := Lib.hid (LB0.out.alloc LB0.out.size (.cells #[.int .i64 W, .int .i64 H, .slice A n c] 24))
          go_enter Try.func54, Try.ntmps54
          go_upto_region 1 with (fail)
          generalize w.alloc (.cells #[.int .i64 W, .int .i64 H, .slice A n c] 24) = w0 at *
          obtain ⟨q0, q1, q2, q3, q4, q5, q6⟩ := X1.out.all
          go_wp2_with fail
          clear q0 q1 q2 q3 q4 q5 q6
          with_reducible refine Calls.mono (HW.out _) ?_
          rintro e w1 ⟨rfl, hb⟩
          have LB1 := Lib.hid (LB0.out.trans (hb.mono LB0.out.size))
          have X1 := Lib.hid (X1.out.below hb X1.out.lt)
          clear hb LB0 
          obtain ⟨q0, q1, q2, q3, q4, q5, q6⟩ := X1.out.all
          go_wp2_with fail
          clear q0 q1 q2 q3 q4 q5 q6
          with_reducible refine Calls.mono (HH.out _) ?_
          rintro e w2 ⟨rfl, hb⟩
          have LB2 := Lib.hid (LB1.out.trans (hb.mono LB1.out.size))
          have X1 := Lib.hid (X1.out.below hb X1.out.lt)
          clear hb LB1 
          obtain ⟨q0, q1, q2, q3, q4, q5, q6⟩ := X1.out.all
          go_wp2_with fail
          clear q0 q1 q2 q3 q4 q5 q6
          with_reducible refine Calls.mono (HA.out _ LB2.out) ?_
          rintro e w3 ⟨rfl, hb⟩
          have LB3 := Lib.hid (LB2.out.trans (hb.mono LB2.out.size))
          have X1 := Lib.hid (X1.out.below hb X1.out.lt)
          clear hb LB2 
          obtain ⟨q0, q1, q2, q3, q4, q5, q6⟩ := X1.out.all
          go_wp2
          go_ret
          exact ⟨by rw [Hr.out]; rfl, LB3.out⟩
        · rw [h7] at HA
          have Hr := Lib.hid (show ick W H n f = 0 from ick_yes ⟨h1.1, h1.2, h2.1, h2.2, h5, h7⟩)
          clear hf h1 h2 h5 h7
          have LB0 := Lib.hid (Below.refl w.heap.size w)
          have X1 := IBox.new w W H (.slice A n c)
          have X1 := Lib.hid X1
          have LB0 := Lib.hid (LB0.out.alloc LB0.out.size (.cells #[.int .i64 W, .int .i64 H, .slice A n c] 24))
          go_enter Try.func54, Try.ntmps54
          go_upto_region 1 with (fail)
          generalize w.alloc (.cells #[.int .i64 W, .int .i64 H, .slice A n c] 24) = w0 at *
          obtain ⟨q0, q1, q2, q3, q4, q5, q6⟩ := X1.out.all
          go_wp2_with fail
          clear q0 q1 q2 q3 q4 q5 q6
          with_reducible refine Calls.mono (HW.out _) ?_
          rintro e w1 ⟨rfl, hb⟩
          have LB1 := Lib.hid (LB0.out.trans (hb.mono LB0.out.size))
          have X1 := Lib.hid (X1.out.below hb X1.out.lt)
          clear hb LB0 
          obtain ⟨q0, q1, q2, q3, q4, q5, q6⟩ := X1.out.all
          go_wp2_with fail
          clear q0 q1 q2 q3 q4 q5 q6
          with_reducible refine Calls.mono (HH.out _) ?_
          rintro e w2 ⟨rfl, hb⟩
          have LB2 := Lib.hid (LB1.out.trans (hb.mono LB1.out.size))
          have X1 := Lib.hid (X1.out.below hb X1.out.lt)
          clear hb LB1 
          obtain ⟨q0, q1, q2, q3, q4, q5, q6⟩ := X1.out.all
          go_wp2_with fail
          clear q0 q1 q2 q3 q4 q5 q6
          with_reducible refine Calls.mono (HA.out _ LB2.out) ?_
          rintro e w3 ⟨rfl, hb⟩
          have LB3 := Lib.hid (LB2.out.trans (hb.mono LB2.out.size))
          have X1 := Lib.hid (X1.out.below hb X1.out.lt)
          clear hb LB2 
          obtain ⟨q0, q1, q2, q3, q4, q5, q6⟩ := X1.out.all
          go_wp2
          go_ret
          exact ⟨by rw [Hr.out]; rfl, LB3.out⟩
      · have h6 : ((n : Int) != W * H) = true := by simp [h5]
        have Hr := Lib.hid (show ick W H n f = 8 from ick_no fun q => h5 q.2.2.2.2.1)
        clear hf h1 h2 h5
        have LB0 := Lib.hid (Below.refl w.heap.size w)
        have X1 := IBox.new w W H (.slice A n c)
        have X1 := Lib.hid X1
        have LB0 := Lib.hid (LB0.out.alloc LB0.out.size (.cells #[.int .i64 W, .int .i64 H, .slice A n c] 24))
        go_enter Try.func54, Try.ntmps54
        go_upto_region 1 with (fail)
        generalize w.alloc (.cells #[.int .i64 W, .int .i64 H, .slice A n c] 24) = w0 at *
        obtain ⟨q0, q1, q2, q3, q4, q5, q6⟩ := X1.out.all
        go_wp2_with fail
        clear q0 q1 q2 q3 q4 q5 q6
        with_reducible refine Calls.mono (HW.out _) ?_
        rintro e w1 ⟨rfl, hb⟩
        have LB1 := Lib.hid (LB0.out.trans (hb.mono LB0.out.size))
        have X1 := Lib.hid (X1.out.below hb X1.out.lt)
        clear hb LB0 
        obtain ⟨q0, q1, q2, q3, q4, q5, q6⟩ := X1.out.all
        go_wp2_with fail
        clear q0 q1 q2 q3 q4 q5 q6
        with_reducible refine Calls.mono (HH.out _) ?_
        rintro e w2 ⟨rfl, hb⟩
        have LB2 := Lib.hid (LB1.out.trans (hb.mono LB1.out.size))
        have X1 := Lib.hid (X1.out.below hb X1.out.lt)
        clear hb LB1 
        obtain ⟨q0, q1, q2, q3, q4, q5, q6⟩ := X1.out.all
        go_wp2
        go_ret
        exact ⟨by rw [Hr.out]; rfl, LB2.out⟩
    · rw [show side H = false from decide_eq_false h2] at HH
      have Hr := Lib.hid (show ick W H n f = 8 from ick_no fun q => h2 ⟨q.2.2.1, q.2.2.2.1⟩)
      clear hf h1 h2
      have LB0 := Lib.hid (Below.refl w.heap.size w)
      have X1 := IBox.new w W H (.slice A n c)
      have X1 := Lib.hid X1
      have LB0 := Lib.hid (LB0.out.alloc LB0.out.size (.cells #[.int .i64 W, .int .i64 H, .slice A n c] 24))
      go_enter Try.func54, Try.ntmps54
      go_upto_region 1 with (fail)
      generalize w.alloc (.cells #[.int .i64 W, .int .i64 H, .slice A n c] 24) = w0 at *
      obtain ⟨q0, q1, q2, q3, q4, q5, q6⟩ := X1.out.all
      go_wp2_with fail
      clear q0 q1 q2 q3 q4 q5 q6
      with_reducible refine Calls.mono (HW.out _) ?_
      rintro e w1 ⟨rfl, hb⟩
      have LB1 := Lib.hid (LB0.out.trans (hb.mono LB0.out.size))
      have X1 := Lib.hid (X1.out.below hb X1.out.lt)
      clear hb LB0 
      obtain ⟨q0, q1, q2, q3, q4, q5, q6⟩ := X1.out.all
      go_wp2_with fail
      clear q0 q1 q2 q3 q4 q5 q6
      with_reducible refine Calls.mono (HH.out _) ?_
      rintro e w2 ⟨rfl, hb⟩
      have LB2 := Lib.hid (LB1.out.trans (hb.mono LB1.out.size))
      have X1 := Lib.hid (X1.out.below hb X1.out.lt)
      clear hb LB1 
      obtain ⟨q0, q1, q2, q3, q4, q5, q6⟩ := X1.out.all
      go_wp2
      go_ret
      exact ⟨by rw [Hr.out]; rfl, LB2.out⟩
  · rw [show side W = false from decide_eq_false h1] at HW
    have Hr := Lib.hid (show ick W H n f = 8 from ick_no fun q => h1 ⟨q.1, q.2.1⟩)
    clear hf h1
    have LB0 := Lib.hid (Below.refl w.heap.size w)
    have X1 := IBox.new w W H (.slice A n c)
    have X1 := Lib.hid X1
    have LB0 := Lib.hid (LB0.out.alloc LB0.out.size (.cells #[.int .i64 W, .int .i64 H, .slice A n c] 24))
    go_enter Try.func54, Try.ntmps54
    go_upto_region 1 with (fail)
    generalize w.alloc (.cells #[.int .i64 W, .int .i64 H, .slice A n c] 24) = w0 at *
    obtain ⟨q0, q1, q2, q3, q4, q5, q6⟩ := X1.out.all
    go_wp2_with fail
    clear q0 q1 q2 q3 q4 q5 q6
    with_reducible refine Calls.mono (HW.out _) ?_
    rintro e w1 ⟨rfl, hb⟩
    have LB1 := Lib.hid (LB0.out.trans (hb.mono LB0.out.size))
    have X1 := Lib.hid (X1.out.below hb X1.out.lt)
    clear hb LB0 
    obtain ⟨q0, q1, q2, q3, q4, q5, q6⟩ := X1.out.all
    go_wp2
    go_ret
    exact ⟨by rw [Hr.out]; rfl, LB1.out⟩
set_option maxHeartbeats 800000 in
theorem rick_any (W H : Int) (A : Option Addr) (n c : Nat) (f : Nat → Int) (w : World) (hf : L2.Holds w w.heap.size A n f) :
    Calls Try.prog 38 #[.agg #[.int .i64 W, .int .i64 H, .slice A n c]] w fun e w' => e = .returned (.int .i64 (ick W H n f)) ∧ Below w.heap.size w w' := by
  by_cases h0 : W < 1
  · clear hf
    have Hr := Lib.hid (show ick W H n f = 8 from ick_no fun q => by have := q.1; omega)
    go_enter Try.func38, Try.ntmps38
    go_wp2
    go_ret
    exact ⟨by rw [Hr.out]; rfl, (Below.refl _ _).alloc (Nat.le_refl _) _⟩
  by_cases h1 : H < 1
  · clear hf
    have Hr := Lib.hid (show ick W H n f = 8 from ick_no fun q => by have := q.2.2.1; omega)
    go_enter Try.func38, Try.ntmps38
    go_wp2
    go_ret
    exact ⟨by rw [Hr.out]; rfl, (Below.refl _ _).alloc (Nat.le_refl _) _⟩
  by_cases h2 : 64 < W
  · clear hf
    have Hr := Lib.hid (show ick W H n f = 8 from ick_no fun q => by have := q.2.1; omega)
    go_enter Try.func38, Try.ntmps38
    go_wp2
    go_ret
    exact ⟨by rw [Hr.out]; rfl, (Below.refl _ _).alloc (Nat.le_refl _) _⟩
  by_cases h3 : 64 < H
  · clear hf
    have Hr := Lib.hid (show ick W H n f = 8 from ick_no fun q => by have := q.2.2.2.1; omega)
    go_enter Try.func38, Try.ntmps38
    go_wp2
    go_ret
    exact ⟨by rw [Hr.out]; rfl, (Below.refl _ _).alloc (Nat.le_refl _) _⟩
  obtain ⟨m1, m2⟩ := mul_pos_bd (W := W) (H := H) (by omega) (by omega) (by omega) (by omega)
  by_cases h5 : (n : Int) = W * H
  · have h6 : ((n : Int) != W * H) = false := by simp [h5]
    have HA := Lib.hid (fun u (hb : Below w.heap.size w u) => rfine_any A n c f u (by omega) ((hf.below hb).more hb.size))
    cases h7 : fine n f
    · rw [h7] at HA
      have Hr := Lib.hid (show ick W H n f = 8 from ick_no fun q => by rw [h7] at q; cases q.2.2.2.2.2)
      clear hf h5 h7
      have LB0 := Lib.hid (Below.refl w.heap.size w)
      have X1 := IBox.new w W H (.slice A n c)
      have X1 := Lib.hid X1
      have LB0 := Lib.hid (LB0.out.alloc LB0.out.size (.cells #[.int .i64 W, .int .i64 H, .slice A n c] 24))
      go_enter Try.func38, Try.ntmps38
      go_upto_region 1 with (fail)
      generalize w.alloc (.cells #[.int .i64 W, .int .i64 H, .slice A n c] 24) = w0 at *
      obtain ⟨q0, q1, q2, q3, q4, q5, q6⟩ := X1.out.all
      go_wp2_with fail
      clear q0 q1 q2 q3 q4 q5 q6
      with_reducible refine Calls.mono (HA.out _ LB0.out) ?_
      rintro e w1 ⟨rfl, hb⟩
      have LB1 := Lib.hid (LB0.out.trans (hb.mono LB0.out.size))
      have X1 := Lib.hid (X1.out.below hb X1.out.lt)
      clear hb LB0 
      obtain ⟨q0, q1, q2, q3, q4, q5, q6⟩ := X1.out.all
      go_wp2
      go_ret
      exact ⟨by rw [Hr.out]; rfl, LB1.out⟩
    · rw [h7] at HA
      have Hr := Lib.hid (show ick W H n f = 0 from ick_yes ⟨by omega, by omega, by omega, by omega, h5, h7⟩)
      clear hf h5 h7
      have LB0 := Lib.hid (Below.refl w.heap.size w)
      have X1 := IBox.new w W H (.slice A n c)
      have X1 := Lib.hid X1
      have LB0 := Lib.hid (LB0.out.alloc LB0.out.size (.cells #[.int .i64 W, .int .i64 H, .slice A n c] 24))
      go_enter Try.func38, Try.ntmps38
      go_upto_region 1 with (fail)
      generalize w.alloc (.cells #[.int .i64 W, .int .i64 H, .slice A n c] 24) = w0 at *
      obtain ⟨q0, q1, q2, q3, q4, q5, q6⟩ := X1.out.all
      go_wp2_with fail
      clear q0 q1 q2 q3 q4 q5 q6
      with_reducible refine Calls.mono (HA.out _ LB0.out) ?_
      rintro e w1 ⟨rfl, hb⟩
      have LB1 := Lib.hid (LB0.out.trans (hb.mono LB0.out.size))
      have X1 := Lib.hid (X1.out.below hb X1.out.lt)
      clear hb LB0 
      obtain ⟨q0, q1, q2, q3, q4, q5, q6⟩ := X1.out.all
      go_wp2
      go_ret
      exact ⟨by rw [Hr.out]; rfl, LB1.out⟩
  · have h6 : ((n : Int) != W * H) = true := by simp [h5]
    have Hr := Lib.hid (show ick W H n f = 8 from ick_no fun q => h5 q.2.2.2.2.1)
    clear hf h5
    go_enter Try.func38, Try.ntmps38
    go_wp2
    go_ret
    exact ⟨by rw [Hr.out]; rfl, (Below.refl _ _).alloc (Nat.le_refl _) _⟩
end Go.Proofs.Ytmcdfnhpaneanaa
