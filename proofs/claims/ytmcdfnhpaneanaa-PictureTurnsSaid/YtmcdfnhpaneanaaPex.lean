/- PictureExactly: the walk. -/
import Derived.Test.YtmcdfnhpaneanaaPrf
import Derived.Test.YtmcdfnhpaneanaaPwv
import Derived.Test.YtmcdfnhpaneanaaPav
import Derived.Test.YtmcdfnhpaneanaaReq
namespace Go.Proofs.Ytmcdfnhpaneanaa
open Go.RowKit
set_option maxRecDepth 100000
set_option linter.unusedVariables false
set_option linter.unusedSimpArgs false

set_option maxHeartbeats 400000 in
theorem rchk_all (W H : Int) (A : Option Addr) (n c : Nat) (w : World) :
    Calls Try.prog 35 #[.agg #[.int .i64 W, .int .i64 H, .slice A n c]] w fun e w' => e = .returned (.int .i64 (chk W H n)) ∧ Below w.heap.size w w' := by
  by_cases h1 : 64 < W
  · have hr : chk W H n = 4 := by unfold chk; rw [if_pos (.inl h1)]
    have Hr := Lib.hid hr
    clear hr
    go_enter Try.func35, Try.ntmps35
    go_wp2
    go_ret
    exact ⟨ret_i64 Hr.out.symm, (Below.refl _ _).alloc (Nat.le_refl _) _⟩
  by_cases h2 : 64 < H
  · have hr : chk W H n = 4 := by unfold chk; rw [if_pos (.inr h2)]
    have Hr := Lib.hid hr
    clear hr
    go_enter Try.func35, Try.ntmps35
    go_wp2
    go_ret
    exact ⟨ret_i64 Hr.out.symm, (Below.refl _ _).alloc (Nat.le_refl _) _⟩
  by_cases h3 : W < 1
  · have hr : chk W H n = 8 := by unfold chk; rw [if_neg (by omega), if_pos (.inl h3)]
    have Hr := Lib.hid hr
    clear hr
    go_enter Try.func35, Try.ntmps35
    go_wp2
    go_ret
    exact ⟨ret_i64 Hr.out.symm, (Below.refl _ _).alloc (Nat.le_refl _) _⟩
  by_cases h4 : H < 1
  · have hr : chk W H n = 8 := by unfold chk; rw [if_neg (by omega), if_pos (.inr (.inl h4))]
    have Hr := Lib.hid hr
    clear hr
    go_enter Try.func35, Try.ntmps35
    go_wp2
    go_ret
    exact ⟨ret_i64 Hr.out.symm, (Below.refl _ _).alloc (Nat.le_refl _) _⟩
  obtain ⟨m1, m2⟩ := mul_pos_bd (W := W) (H := H) (by omega) (by omega) (by omega) (by omega)
  by_cases h5 : (n : Int) = W * H
  · have hr : chk W H n = 0 := by unfold chk; rw [if_neg (by omega), if_neg]; rintro (h | h | h) <;> first | omega | exact h h5
    have Hr := Lib.hid hr
    have h6 : ((n : Int) != W * H) = false := by simp [h5]
    clear hr h5
    go_enter Try.func35, Try.ntmps35
    go_wp2
    go_ret
    exact ⟨ret_i64 Hr.out.symm, (Below.refl _ _).alloc (Nat.le_refl _) _⟩
  · have hr : chk W H n = 8 := by unfold chk; rw [if_neg (by omega), if_pos (.inr (.inr h5))]
    have Hr := Lib.hid hr
    have h6 : ((n : Int) != W * H) = true := by simp [h5]
    clear hr h5
    go_enter Try.func35, Try.ntmps35
    go_wp2
    go_ret
    exact ⟨ret_i64 Hr.out.symm, (Below.refl _ _).alloc (Nat.le_refl _) _⟩
theorem ex_fit {W M : Nat} {f a b : Nat → Int} (h : AllF W M f a b) (s : Nat → Bool) (i : Nat) (hi : i < M) : (shF W s a b i = f i) ↔ (opF W f a b i || (upF W f a b i == s i)) = true := by
  have h1 := h i hi
  unfold shF opF upF at *
  unfold hE hP at *
  cases s i <;> by_cases e1 : a (i % W) = f i <;> by_cases e2 : b (i / W) = f i <;> simp_all
theorem ex_is {W H : Nat} {f a b : Nat → Int} (h : AllF W (W * H) f a b) (s : Nat → Bool) : sameB (W : Nat) (H : Nat) (W : Nat) (H : Nat) (W * H) (W * H) (shF W s a b) f = decide (∀ i, i < W * H → (opF W f a b i || (upF W f a b i == s i)) = true) := by
  rw [sameB_all]
  exact decide_eq_decide.2 ⟨fun q i hi => (ex_fit h s i hi).1 (q i hi), fun q i hi => (ex_fit h s i hi).2 (q i hi)⟩
theorem ex_wov {W H : Nat} {f a b : Nat → Int} (h : AllF W (W * H) f a b) (s : Nat → Bool) : sameB (W : Nat) (H : Nat) (W : Nat) (H : Nat) (W * H) (W * H) (shF W (fun i => upF W f a b i || (opF W f a b i && s i)) a b) f = true := by
  rw [ex_is h]
  refine decide_eq_true fun i hi => ?_
  cases opF W f a b i <;> cases upF W f a b i <;> simp
theorem ex_not {W H : Nat} {f a b : Nat → Int} (h : ¬ AllF W (W * H) f a b) (s : Nat → Bool) : sameB (W : Nat) (H : Nat) (W : Nat) (H : Nat) (W * H) (W * H) (shF W s a b) f = false := by
  rw [sameB_all]
  refine decide_eq_false fun q => h fun i hi => ?_
  have h1 := q i hi
  unfold shF at h1
  unfold hE hP
  cases hs : s i <;> rw [hs] at h1 <;> simp at h1 <;> simp [h1]
theorem ex_dis {W : Nat} {f a b : Nat → Int} {i : Nat} : (upF W f a b i && opF W f a b i) = false := by
  unfold upF opF
  cases hE W f a i <;> cases hP W f b i <;> rfl
theorem ex_step (p : Nat → Bool) (j : Nat) : decide (∀ i, i < j + 1 → p i = true) = (decide (∀ i, i < j → p i = true) && p j) := by
  by_cases h : ∀ i, i < j → p i = true
  · rw [decide_eq_true h, Bool.true_and]
    cases hp : p j
    · exact decide_eq_false fun q => by have := q j (by omega); rw [hp] at this; cases this
    · exact decide_eq_true fun i hi => if e : i = j then by rw [e]; exact hp else h i (by omega)
  · rw [decide_eq_false h, Bool.false_and]
    exact decide_eq_false fun q => h fun i hi => q i (by omega)
set_option maxHeartbeats 1600000 in
theorem exactly_no (W H : Int) (A B C : Option Addr) (n c m d k e : Nat) (f a b : Nat → Int) (X Y : Int) (D : Option Addr) (N g : Nat) (s : Nat → Bool) (w : World) (hf : L2.Holds w w.heap.size A n f) (ha : L2.Holds w w.heap.size B m a) (hb1 : L2.Holds w w.heap.size C k b) (hg : Holds w w.heap.size D N s) (hz : 4200 < n ∨ pcE W H n m k f a b ≠ 0 ∨ chk X Y N ≠ 0 ∨ X ≠ W ∨ Y ≠ H) :
    Calls Try.prog 6 #[.agg #[.int .i64 W, .int .i64 H, .slice A n c], .slice B m d, .slice C k e, .agg #[.int .i64 X, .int .i64 Y, .slice D N g]] w fun e w' => e = .returned (.bool true) ∧ Below w.heap.size w w' := by
  have HG := Lib.hid (fun u => igreat_any W H A n c u)
  have HC := Lib.hid (fun u (hb : Below w.heap.size w u) => rpc_any W H A B C n c m d k e f a b u ((hf.below hb).more hb.size) ((ha.below hb).more hb.size) ((hb1.below hb).more hb.size))
  have HK := Lib.hid (fun u => rchk_all X Y D N g u)
  have z0 : ((0 : Int) != 0) = false := rfl
  clear hf ha hb1 hg
  by_cases h0 : 4200 < n
  · rw [decide_eq_true h0] at HG
    clear h0 hz
    have LB0 := Lib.hid (Below.refl w.heap.size w)
    have X1 := IBox.new w W H (.slice A n c)
    have X1 := Lib.hid X1
    have LB0 := Lib.hid (LB0.out.alloc LB0.out.size (.cells #[.int .i64 W, .int .i64 H, .slice A n c] 24))
    have X1 := Lib.hid (X1.out.alloc (.cells #[.int .i64 X, .int .i64 Y, .slice D N g] 27))
    have X2 := Box.new (w.alloc (.cells #[.int .i64 W, .int .i64 H, .slice A n c] 24)) X Y (.slice D N g)
    rw [show ((w.alloc (.cells #[.int .i64 W, .int .i64 H, .slice A n c] 24))).heap.size = w.heap.size + 1 by simp] at X2
    have X2 := Lib.hid X2
    have LB0 := Lib.hid (LB0.out.alloc LB0.out.size (.cells #[.int .i64 X, .int .i64 Y, .slice D N g] 27))
    go_enter Try.func6, Try.ntmps6
    go_upto_region 1 with (fail)
    generalize (w.alloc (.cells #[.int .i64 W, .int .i64 H, .slice A n c] 24)).alloc (.cells #[.int .i64 X, .int .i64 Y, .slice D N g] 27) = w0 at *
    go_wp2_with fail
    with_reducible refine Calls.mono (alive15_any _) ?_
    rintro e w1 ⟨rfl, hb⟩
    have LB1 := Lib.hid (LB0.out.trans (hb.mono LB0.out.size))
    have X1 := Lib.hid (X1.out.below hb X1.out.lt)
    have X2 := Lib.hid (X2.out.below hb X2.out.lt)
    clear hb LB0 
    obtain ⟨q0, q1, q2, q3, q4, q5, q6⟩ := X1.out.all
    go_wp2_with fail
    clear q0 q1 q2 q3 q4 q5 q6
    with_reducible refine Calls.mono (HG.out _) ?_
    rintro e w2 ⟨rfl, hb⟩
    have LB2 := Lib.hid (LB1.out.trans (hb.mono LB1.out.size))
    have X1 := Lib.hid (X1.out.below hb X1.out.lt)
    have X2 := Lib.hid (X2.out.below hb X2.out.lt)
    clear hb LB1 
    obtain ⟨q0, q1, q2, q3, q4, q5, q6⟩ := X1.out.all
    obtain ⟨p0, p1, p2, p3, p4, p5, p6⟩ := X2.out.all
    go_wp2
    go_ret
    exact ⟨rfl, LB2.out⟩
  · rw [decide_eq_false h0] at HG
    obtain ⟨p, hp⟩ : ∃ z, pcE W H n m k f a b = z := ⟨_, rfl⟩
    rw [hp] at HC hz
    clear hp
    by_cases h1 : p = 0
    · subst h1
      obtain ⟨q, hq⟩ : ∃ z, chk X Y N = z := ⟨_, rfl⟩
      rw [hq] at HK hz
      clear hq
      by_cases h2 : q = 0
      · subst h2
        by_cases h3 : X = W
        · have h4 : Y ≠ H := by
            rcases hz with h | h | h | h | h
            · exact absurd h h0
            · exact absurd rfl h
            · exact absurd rfl h
            · exact absurd h3 h
            · exact h
          subst h3
          have y1 : (X != X) = false := by simp
          have y2 : (Y != H) = true := by simp [h4]
          clear h4 hz h0
          have LB0 := Lib.hid (Below.refl w.heap.size w)
          have X1 := IBox.new w X H (.slice A n c)
          have X1 := Lib.hid X1
          have LB0 := Lib.hid (LB0.out.alloc LB0.out.size (.cells #[.int .i64 X, .int .i64 H, .slice A n c] 24))
          have X1 := Lib.hid (X1.out.alloc (.cells #[.int .i64 X, .int .i64 Y, .slice D N g] 27))
          have X2 := Box.new (w.alloc (.cells #[.int .i64 X, .int .i64 H, .slice A n c] 24)) X Y (.slice D N g)
          rw [show ((w.alloc (.cells #[.int .i64 X, .int .i64 H, .slice A n c] 24))).heap.size = w.heap.size + 1 by simp] at X2
          have X2 := Lib.hid X2
          have LB0 := Lib.hid (LB0.out.alloc LB0.out.size (.cells #[.int .i64 X, .int .i64 Y, .slice D N g] 27))
          go_enter Try.func6, Try.ntmps6
          go_upto_region 1 with (fail)
          generalize (w.alloc (.cells #[.int .i64 X, .int .i64 H, .slice A n c] 24)).alloc (.cells #[.int .i64 X, .int .i64 Y, .slice D N g] 27) = w0 at *
          go_wp2_with fail
          with_reducible refine Calls.mono (alive15_any _) ?_
          rintro e w1 ⟨rfl, hb⟩
          have LB1 := Lib.hid (LB0.out.trans (hb.mono LB0.out.size))
          have X1 := Lib.hid (X1.out.below hb X1.out.lt)
          have X2 := Lib.hid (X2.out.below hb X2.out.lt)
          clear hb LB0 
          obtain ⟨q0, q1, q2, q3, q4, q5, q6⟩ := X1.out.all
          go_wp2_with fail
          clear q0 q1 q2 q3 q4 q5 q6
          with_reducible refine Calls.mono (HG.out _) ?_
          rintro e w2 ⟨rfl, hb⟩
          have LB2 := Lib.hid (LB1.out.trans (hb.mono LB1.out.size))
          have X1 := Lib.hid (X1.out.below hb X1.out.lt)
          have X2 := Lib.hid (X2.out.below hb X2.out.lt)
          clear hb LB1 
          obtain ⟨q0, q1, q2, q3, q4, q5, q6⟩ := X1.out.all
          go_wp2_with fail
          clear q0 q1 q2 q3 q4 q5 q6
          with_reducible refine Calls.mono (HC.out _ LB2.out) ?_
          rintro e w3 ⟨rfl, hb⟩
          have LB3 := Lib.hid (LB2.out.trans (hb.mono LB2.out.size))
          have X1 := Lib.hid (X1.out.below hb X1.out.lt)
          have X2 := Lib.hid (X2.out.below hb X2.out.lt)
          clear hb LB2 
          obtain ⟨q0, q1, q2, q3, q4, q5, q6⟩ := X2.out.all
          go_wp2_with fail
          clear q0 q1 q2 q3 q4 q5 q6
          with_reducible refine Calls.mono (HK.out _) ?_
          rintro e w4 ⟨rfl, hb⟩
          have LB4 := Lib.hid (LB3.out.trans (hb.mono LB3.out.size))
          have X1 := Lib.hid (X1.out.below hb X1.out.lt)
          have X2 := Lib.hid (X2.out.below hb X2.out.lt)
          clear hb LB3 
          obtain ⟨q0, q1, q2, q3, q4, q5, q6⟩ := X1.out.all
          obtain ⟨p0, p1, p2, p3, p4, p5, p6⟩ := X2.out.all
          go_wp2
          go_ret
          exact ⟨rfl, LB4.out⟩
        · have y1 : (X != W) = true := by simp [h3]
          clear h3 hz h0
          have LB0 := Lib.hid (Below.refl w.heap.size w)
          have X1 := IBox.new w W H (.slice A n c)
          have X1 := Lib.hid X1
          have LB0 := Lib.hid (LB0.out.alloc LB0.out.size (.cells #[.int .i64 W, .int .i64 H, .slice A n c] 24))
          have X1 := Lib.hid (X1.out.alloc (.cells #[.int .i64 X, .int .i64 Y, .slice D N g] 27))
          have X2 := Box.new (w.alloc (.cells #[.int .i64 W, .int .i64 H, .slice A n c] 24)) X Y (.slice D N g)
          rw [show ((w.alloc (.cells #[.int .i64 W, .int .i64 H, .slice A n c] 24))).heap.size = w.heap.size + 1 by simp] at X2
          have X2 := Lib.hid X2
          have LB0 := Lib.hid (LB0.out.alloc LB0.out.size (.cells #[.int .i64 X, .int .i64 Y, .slice D N g] 27))
          go_enter Try.func6, Try.ntmps6
          go_upto_region 1 with (fail)
          generalize (w.alloc (.cells #[.int .i64 W, .int .i64 H, .slice A n c] 24)).alloc (.cells #[.int .i64 X, .int .i64 Y, .slice D N g] 27) = w0 at *
          go_wp2_with fail
          with_reducible refine Calls.mono (alive15_any _) ?_
          rintro e w1 ⟨rfl, hb⟩
          have LB1 := Lib.hid (LB0.out.trans (hb.mono LB0.out.size))
          have X1 := Lib.hid (X1.out.below hb X1.out.lt)
          have X2 := Lib.hid (X2.out.below hb X2.out.lt)
          clear hb LB0 
          obtain ⟨q0, q1, q2, q3, q4, q5, q6⟩ := X1.out.all
          go_wp2_with fail
          clear q0 q1 q2 q3 q4 q5 q6
          with_reducible refine Calls.mono (HG.out _) ?_
          rintro e w2 ⟨rfl, hb⟩
          have LB2 := Lib.hid (LB1.out.trans (hb.mono LB1.out.size))
          have X1 := Lib.hid (X1.out.below hb X1.out.lt)
          have X2 := Lib.hid (X2.out.below hb X2.out.lt)
          clear hb LB1 
          obtain ⟨q0, q1, q2, q3, q4, q5, q6⟩ := X1.out.all
          go_wp2_with fail
          clear q0 q1 q2 q3 q4 q5 q6
          with_reducible refine Calls.mono (HC.out _ LB2.out) ?_
          rintro e w3 ⟨rfl, hb⟩
          have LB3 := Lib.hid (LB2.out.trans (hb.mono LB2.out.size))
          have X1 := Lib.hid (X1.out.below hb X1.out.lt)
          have X2 := Lib.hid (X2.out.below hb X2.out.lt)
          clear hb LB2 
          obtain ⟨q0, q1, q2, q3, q4, q5, q6⟩ := X2.out.all
          go_wp2_with fail
          clear q0 q1 q2 q3 q4 q5 q6
          with_reducible refine Calls.mono (HK.out _) ?_
          rintro e w4 ⟨rfl, hb⟩
          have LB4 := Lib.hid (LB3.out.trans (hb.mono LB3.out.size))
          have X1 := Lib.hid (X1.out.below hb X1.out.lt)
          have X2 := Lib.hid (X2.out.below hb X2.out.lt)
          clear hb LB3 
          obtain ⟨q0, q1, q2, q3, q4, q5, q6⟩ := X1.out.all
          obtain ⟨p0, p1, p2, p3, p4, p5, p6⟩ := X2.out.all
          go_wp2
          go_ret
          exact ⟨rfl, LB4.out⟩
      · have y1 : (q != 0) = true := by simp [h2]
        clear h2 hz h0
        have LB0 := Lib.hid (Below.refl w.heap.size w)
        have X1 := IBox.new w W H (.slice A n c)
        have X1 := Lib.hid X1
        have LB0 := Lib.hid (LB0.out.alloc LB0.out.size (.cells #[.int .i64 W, .int .i64 H, .slice A n c] 24))
        have X1 := Lib.hid (X1.out.alloc (.cells #[.int .i64 X, .int .i64 Y, .slice D N g] 27))
        have X2 := Box.new (w.alloc (.cells #[.int .i64 W, .int .i64 H, .slice A n c] 24)) X Y (.slice D N g)
        rw [show ((w.alloc (.cells #[.int .i64 W, .int .i64 H, .slice A n c] 24))).heap.size = w.heap.size + 1 by simp] at X2
        have X2 := Lib.hid X2
        have LB0 := Lib.hid (LB0.out.alloc LB0.out.size (.cells #[.int .i64 X, .int .i64 Y, .slice D N g] 27))
        go_enter Try.func6, Try.ntmps6
        go_upto_region 1 with (fail)
        generalize (w.alloc (.cells #[.int .i64 W, .int .i64 H, .slice A n c] 24)).alloc (.cells #[.int .i64 X, .int .i64 Y, .slice D N g] 27) = w0 at *
        go_wp2_with fail
        with_reducible refine Calls.mono (alive15_any _) ?_
        rintro e w1 ⟨rfl, hb⟩
        have LB1 := Lib.hid (LB0.out.trans (hb.mono LB0.out.size))
        have X1 := Lib.hid (X1.out.below hb X1.out.lt)
        have X2 := Lib.hid (X2.out.below hb X2.out.lt)
        clear hb LB0 
        obtain ⟨q0, q1, q2, q3, q4, q5, q6⟩ := X1.out.all
        go_wp2_with fail
        clear q0 q1 q2 q3 q4 q5 q6
        with_reducible refine Calls.mono (HG.out _) ?_
        rintro e w2 ⟨rfl, hb⟩
        have LB2 := Lib.hid (LB1.out.trans (hb.mono LB1.out.size))
        have X1 := Lib.hid (X1.out.below hb X1.out.lt)
        have X2 := Lib.hid (X2.out.below hb X2.out.lt)
        clear hb LB1 
        obtain ⟨q0, q1, q2, q3, q4, q5, q6⟩ := X1.out.all
        go_wp2_with fail
        clear q0 q1 q2 q3 q4 q5 q6
        with_reducible refine Calls.mono (HC.out _ LB2.out) ?_
        rintro e w3 ⟨rfl, hb⟩
        have LB3 := Lib.hid (LB2.out.trans (hb.mono LB2.out.size))
        have X1 := Lib.hid (X1.out.below hb X1.out.lt)
        have X2 := Lib.hid (X2.out.below hb X2.out.lt)
        clear hb LB2 
        obtain ⟨q0, q1, q2, q3, q4, q5, q6⟩ := X2.out.all
        go_wp2_with fail
        clear q0 q1 q2 q3 q4 q5 q6
        with_reducible refine Calls.mono (HK.out _) ?_
        rintro e w4 ⟨rfl, hb⟩
        have LB4 := Lib.hid (LB3.out.trans (hb.mono LB3.out.size))
        have X1 := Lib.hid (X1.out.below hb X1.out.lt)
        have X2 := Lib.hid (X2.out.below hb X2.out.lt)
        clear hb LB3 
        obtain ⟨q0, q1, q2, q3, q4, q5, q6⟩ := X1.out.all
        obtain ⟨p0, p1, p2, p3, p4, p5, p6⟩ := X2.out.all
        go_wp2
        go_ret
        exact ⟨rfl, LB4.out⟩
    · have y1 : (p != 0) = true := by simp [h1]
      clear h1 hz h0
      have LB0 := Lib.hid (Below.refl w.heap.size w)
      have X1 := IBox.new w W H (.slice A n c)
      have X1 := Lib.hid X1
      have LB0 := Lib.hid (LB0.out.alloc LB0.out.size (.cells #[.int .i64 W, .int .i64 H, .slice A n c] 24))
      have X1 := Lib.hid (X1.out.alloc (.cells #[.int .i64 X, .int .i64 Y, .slice D N g] 27))
      have X2 := Box.new (w.alloc (.cells #[.int .i64 W, .int .i64 H, .slice A n c] 24)) X Y (.slice D N g)
      rw [show ((w.alloc (.cells #[.int .i64 W, .int .i64 H, .slice A n c] 24))).heap.size = w.heap.size + 1 by simp] at X2
      have X2 := Lib.hid X2
      have LB0 := Lib.hid (LB0.out.alloc LB0.out.size (.cells #[.int .i64 X, .int .i64 Y, .slice D N g] 27))
      go_enter Try.func6, Try.ntmps6
      go_upto_region 1 with (fail)
      generalize (w.alloc (.cells #[.int .i64 W, .int .i64 H, .slice A n c] 24)).alloc (.cells #[.int .i64 X, .int .i64 Y, .slice D N g] 27) = w0 at *
      go_wp2_with fail
      with_reducible refine Calls.mono (alive15_any _) ?_
      rintro e w1 ⟨rfl, hb⟩
      have LB1 := Lib.hid (LB0.out.trans (hb.mono LB0.out.size))
      have X1 := Lib.hid (X1.out.below hb X1.out.lt)
      have X2 := Lib.hid (X2.out.below hb X2.out.lt)
      clear hb LB0 
      obtain ⟨q0, q1, q2, q3, q4, q5, q6⟩ := X1.out.all
      go_wp2_with fail
      clear q0 q1 q2 q3 q4 q5 q6
      with_reducible refine Calls.mono (HG.out _) ?_
      rintro e w2 ⟨rfl, hb⟩
      have LB2 := Lib.hid (LB1.out.trans (hb.mono LB1.out.size))
      have X1 := Lib.hid (X1.out.below hb X1.out.lt)
      have X2 := Lib.hid (X2.out.below hb X2.out.lt)
      clear hb LB1 
      obtain ⟨q0, q1, q2, q3, q4, q5, q6⟩ := X1.out.all
      go_wp2_with fail
      clear q0 q1 q2 q3 q4 q5 q6
      with_reducible refine Calls.mono (HC.out _ LB2.out) ?_
      rintro e w3 ⟨rfl, hb⟩
      have LB3 := Lib.hid (LB2.out.trans (hb.mono LB2.out.size))
      have X1 := Lib.hid (X1.out.below hb X1.out.lt)
      have X2 := Lib.hid (X2.out.below hb X2.out.lt)
      clear hb LB2 
      obtain ⟨q0, q1, q2, q3, q4, q5, q6⟩ := X1.out.all
      obtain ⟨p0, p1, p2, p3, p4, p5, p6⟩ := X2.out.all
      go_wp2
      go_ret
      exact ⟨rfl, LB3.out⟩
end Go.Proofs.Ytmcdfnhpaneanaa
