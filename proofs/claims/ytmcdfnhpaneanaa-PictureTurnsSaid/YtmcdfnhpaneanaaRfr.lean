/- Layer 14 of the reference: Threads, Front, Turned, Turn, Twin, Great. -/
import Derived.Test.YtmcdfnhpaneanaaRsh
import Derived.Deep.RegionLaw
namespace Go.Proofs.Ytmcdfnhpaneanaa
open Go.RowKit
set_option maxRecDepth 100000
set_option linter.unusedVariables false
set_option linter.unusedSimpArgs false

set_option maxHeartbeats 800000 in
theorem rth_chk (W H : Int) (A B C : Option Addr) (n c m d k e : Nat) (a b : Nat → Int) (w : World) {z : Int} (hn : n ≤ 4200) (hz : chk W H n = z) (hne : z ≠ 0) : Calls Try.prog 36 #[.agg #[.int .i64 W, .int .i64 H, .slice A n c], .slice B m d, .slice C k e] w fun e w' => e = .returned (.int .i64 z) ∧ Below w.heap.size w w' := by
  have HK := Lib.hid (fun u => rchk_err (A := A) (c := c) hn hz u)
  have y1 : (z != 0) = true := by rw [bne_iff_ne]; exact hne
  clear hz hne
  have LB0 := Lib.hid (Below.refl w.heap.size w)
  have X1 := Box.new w W H (.slice A n c)
  have X1 := Lib.hid X1
  have LB0 := Lib.hid (LB0.out.alloc LB0.out.size (.cells #[.int .i64 W, .int .i64 H, .slice A n c] 27))
  go_enter Try.func36, Try.ntmps36
  go_upto_region 1 with (fail)
  generalize w.alloc (.cells #[.int .i64 W, .int .i64 H, .slice A n c] 27) = w0 at *
  obtain ⟨q0, q1, q2, q3, q4, q5, q6⟩ := X1.out.all
  go_wp2_with fail
  clear q0 q1 q2 q3 q4 q5 q6
  with_reducible refine Calls.mono (HK.out _) ?_
  rintro e w1 ⟨rfl, hb⟩
  have LB1 := Lib.hid (LB0.out.trans (hb.mono LB0.out.size))
  have X1 := Lib.hid (X1.out.below hb X1.out.lt)
  clear hb LB0 
  obtain ⟨q0, q1, q2, q3, q4, q5, q6⟩ := X1.out.all
  go_wp2_with fail
  clear q0 q1 q2 q3 q4 q5 q6
  with_reducible refine Calls.mono (HK.out _) ?_
  rintro e w2 ⟨rfl, hb⟩
  have LB2 := Lib.hid (LB1.out.trans (hb.mono LB1.out.size))
  have X1 := Lib.hid (X1.out.below hb X1.out.lt)
  clear hb LB1 
  obtain ⟨q0, q1, q2, q3, q4, q5, q6⟩ := X1.out.all
  go_wp2
  go_ret
  exact ⟨rfl, LB2.out⟩
set_option maxHeartbeats 800000 in
theorem rth_cnt1 (W H : Int) (A B C : Option Addr) (n c m d k e : Nat) (a b : Nat → Int) (w : World) (hn : n ≤ 4200) (hz : chk W H n = 0) (hm : ¬ (m : Int) = W) : Calls Try.prog 36 #[.agg #[.int .i64 W, .int .i64 H, .slice A n c], .slice B m d, .slice C k e] w fun e w' => e = .returned (.int .i64 26) ∧ Below w.heap.size w w' := by
  have HK := Lib.hid (fun u => rchk_err (A := A) (c := c) hn hz u)
  have y1 : ((0 : Int) != 0) = false := rfl
  clear hz
  have y2 : ((m : Int) != W) = true := by rw [bne_iff_ne]; exact hm
  clear hm
  have LB0 := Lib.hid (Below.refl w.heap.size w)
  have X1 := Box.new w W H (.slice A n c)
  have X1 := Lib.hid X1
  have LB0 := Lib.hid (LB0.out.alloc LB0.out.size (.cells #[.int .i64 W, .int .i64 H, .slice A n c] 27))
  go_enter Try.func36, Try.ntmps36
  go_upto_region 1 with (fail)
  generalize w.alloc (.cells #[.int .i64 W, .int .i64 H, .slice A n c] 27) = w0 at *
  obtain ⟨q0, q1, q2, q3, q4, q5, q6⟩ := X1.out.all
  go_wp2_with fail
  clear q0 q1 q2 q3 q4 q5 q6
  with_reducible refine Calls.mono (HK.out _) ?_
  rintro e w1 ⟨rfl, hb⟩
  have LB1 := Lib.hid (LB0.out.trans (hb.mono LB0.out.size))
  have X1 := Lib.hid (X1.out.below hb X1.out.lt)
  clear hb LB0 
  obtain ⟨q0, q1, q2, q3, q4, q5, q6⟩ := X1.out.all
  go_wp2
  go_ret
  exact ⟨rfl, LB1.out⟩
set_option maxHeartbeats 800000 in
theorem rth_cnt2 (W H : Int) (A B C : Option Addr) (n c m d k e : Nat) (a b : Nat → Int) (w : World) (hn : n ≤ 4200) (hz : chk W H n = 0) (hm : (m : Int) = W) (hk : ¬ (k : Int) = H) : Calls Try.prog 36 #[.agg #[.int .i64 W, .int .i64 H, .slice A n c], .slice B m d, .slice C k e] w fun e w' => e = .returned (.int .i64 26) ∧ Below w.heap.size w w' := by
  have HK := Lib.hid (fun u => rchk_err (A := A) (c := c) hn hz u)
  have y1 : ((0 : Int) != 0) = false := rfl
  clear hz
  have y2 : ((m : Int) != W) = false := by simp [hm]
  have y3 : ((k : Int) != H) = true := by rw [bne_iff_ne]; exact hk
  clear hm hk
  have LB0 := Lib.hid (Below.refl w.heap.size w)
  have X1 := Box.new w W H (.slice A n c)
  have X1 := Lib.hid X1
  have LB0 := Lib.hid (LB0.out.alloc LB0.out.size (.cells #[.int .i64 W, .int .i64 H, .slice A n c] 27))
  go_enter Try.func36, Try.ntmps36
  go_upto_region 1 with (fail)
  generalize w.alloc (.cells #[.int .i64 W, .int .i64 H, .slice A n c] 27) = w0 at *
  obtain ⟨q0, q1, q2, q3, q4, q5, q6⟩ := X1.out.all
  go_wp2_with fail
  clear q0 q1 q2 q3 q4 q5 q6
  with_reducible refine Calls.mono (HK.out _) ?_
  rintro e w1 ⟨rfl, hb⟩
  have LB1 := Lib.hid (LB0.out.trans (hb.mono LB0.out.size))
  have X1 := Lib.hid (X1.out.below hb X1.out.lt)
  clear hb LB0 
  obtain ⟨q0, q1, q2, q3, q4, q5, q6⟩ := X1.out.all
  go_wp2
  go_ret
  exact ⟨rfl, LB1.out⟩
set_option maxHeartbeats 800000 in
theorem rth_bad1 (W H : Int) (A B C : Option Addr) (n c m d k e : Nat) (a b : Nat → Int) (w : World) (hn : n ≤ 4200) (hz : chk W H n = 0) (hm : (m : Int) = W) (hk : (k : Int) = H) (hm1 : m ≤ 5000) (hk1 : k ≤ 5000) (ha : L2.Holds w w.heap.size B m a) (hb1 : L2.Holds w w.heap.size C k b) (hx : fine m a = false) : Calls Try.prog 36 #[.agg #[.int .i64 W, .int .i64 H, .slice A n c], .slice B m d, .slice C k e] w fun e w' => e = .returned (.int .i64 8) ∧ Below w.heap.size w w' := by
  have HK := Lib.hid (fun u => rchk_err (A := A) (c := c) hn hz u)
  have y1 : ((0 : Int) != 0) = false := rfl
  clear hz
  have y2 : ((m : Int) != W) = false := by simp [hm]
  have y3 : ((k : Int) != H) = false := by simp [hk]
  clear hm hk
  have HA := Lib.hid (fun u (hb : Below w.heap.size w u) => rfine_any B m d a u (by omega) ((ha.below hb).more hb.size))
  have HB := Lib.hid (fun u (hb : Below w.heap.size w u) => rfine_any C k e b u (by omega) ((hb1.below hb).more hb.size))
  rw [hx] at HA
  clear hx ha hb1 HB
  have LB0 := Lib.hid (Below.refl w.heap.size w)
  have X1 := Box.new w W H (.slice A n c)
  have X1 := Lib.hid X1
  have LB0 := Lib.hid (LB0.out.alloc LB0.out.size (.cells #[.int .i64 W, .int .i64 H, .slice A n c] 27))
  go_enter Try.func36, Try.ntmps36
  go_upto_region 1 with (fail)
  generalize w.alloc (.cells #[.int .i64 W, .int .i64 H, .slice A n c] 27) = w0 at *
  obtain ⟨q0, q1, q2, q3, q4, q5, q6⟩ := X1.out.all
  go_wp2_with fail
  clear q0 q1 q2 q3 q4 q5 q6
  with_reducible refine Calls.mono (HK.out _) ?_
  rintro e w1 ⟨rfl, hb⟩
  have LB1 := Lib.hid (LB0.out.trans (hb.mono LB0.out.size))
  have X1 := Lib.hid (X1.out.below hb X1.out.lt)
  clear hb LB0 
  obtain ⟨q0, q1, q2, q3, q4, q5, q6⟩ := X1.out.all
  go_wp2_with fail
  clear q0 q1 q2 q3 q4 q5 q6
  with_reducible refine Calls.mono (HA.out _ LB1.out) ?_
  rintro e w2 ⟨rfl, hb⟩
  have LB2 := Lib.hid (LB1.out.trans (hb.mono LB1.out.size))
  have X1 := Lib.hid (X1.out.below hb X1.out.lt)
  clear hb LB1 
  obtain ⟨q0, q1, q2, q3, q4, q5, q6⟩ := X1.out.all
  go_wp2
  go_ret
  exact ⟨rfl, LB2.out⟩
set_option maxHeartbeats 800000 in
theorem rth_bad2 (W H : Int) (A B C : Option Addr) (n c m d k e : Nat) (a b : Nat → Int) (w : World) (hn : n ≤ 4200) (hz : chk W H n = 0) (hm : (m : Int) = W) (hk : (k : Int) = H) (hm1 : m ≤ 5000) (hk1 : k ≤ 5000) (ha : L2.Holds w w.heap.size B m a) (hb1 : L2.Holds w w.heap.size C k b) (hx : fine m a = true) (hy : fine k b = false) : Calls Try.prog 36 #[.agg #[.int .i64 W, .int .i64 H, .slice A n c], .slice B m d, .slice C k e] w fun e w' => e = .returned (.int .i64 8) ∧ Below w.heap.size w w' := by
  have HK := Lib.hid (fun u => rchk_err (A := A) (c := c) hn hz u)
  have y1 : ((0 : Int) != 0) = false := rfl
  clear hz
  have y2 : ((m : Int) != W) = false := by simp [hm]
  have y3 : ((k : Int) != H) = false := by simp [hk]
  clear hm hk
  have HA := Lib.hid (fun u (hb : Below w.heap.size w u) => rfine_any B m d a u (by omega) ((ha.below hb).more hb.size))
  have HB := Lib.hid (fun u (hb : Below w.heap.size w u) => rfine_any C k e b u (by omega) ((hb1.below hb).more hb.size))
  rw [hx] at HA
  rw [hy] at HB
  clear hx hy ha hb1
  have LB0 := Lib.hid (Below.refl w.heap.size w)
  have X1 := Box.new w W H (.slice A n c)
  have X1 := Lib.hid X1
  have LB0 := Lib.hid (LB0.out.alloc LB0.out.size (.cells #[.int .i64 W, .int .i64 H, .slice A n c] 27))
  go_enter Try.func36, Try.ntmps36
  go_upto_region 1 with (fail)
  generalize w.alloc (.cells #[.int .i64 W, .int .i64 H, .slice A n c] 27) = w0 at *
  obtain ⟨q0, q1, q2, q3, q4, q5, q6⟩ := X1.out.all
  go_wp2_with fail
  clear q0 q1 q2 q3 q4 q5 q6
  with_reducible refine Calls.mono (HK.out _) ?_
  rintro e w1 ⟨rfl, hb⟩
  have LB1 := Lib.hid (LB0.out.trans (hb.mono LB0.out.size))
  have X1 := Lib.hid (X1.out.below hb X1.out.lt)
  clear hb LB0 
  obtain ⟨q0, q1, q2, q3, q4, q5, q6⟩ := X1.out.all
  go_wp2_with fail
  clear q0 q1 q2 q3 q4 q5 q6
  with_reducible refine Calls.mono (HA.out _ LB1.out) ?_
  rintro e w2 ⟨rfl, hb⟩
  have LB2 := Lib.hid (LB1.out.trans (hb.mono LB1.out.size))
  have X1 := Lib.hid (X1.out.below hb X1.out.lt)
  clear hb LB1 
  obtain ⟨q0, q1, q2, q3, q4, q5, q6⟩ := X1.out.all
  go_wp2_with fail
  clear q0 q1 q2 q3 q4 q5 q6
  with_reducible refine Calls.mono (HB.out _ LB2.out) ?_
  rintro e w3 ⟨rfl, hb⟩
  have LB3 := Lib.hid (LB2.out.trans (hb.mono LB2.out.size))
  have X1 := Lib.hid (X1.out.below hb X1.out.lt)
  clear hb LB2 
  obtain ⟨q0, q1, q2, q3, q4, q5, q6⟩ := X1.out.all
  go_wp2
  go_ret
  exact ⟨rfl, LB3.out⟩
set_option maxHeartbeats 800000 in
theorem rth_ok (W H : Int) (A B C : Option Addr) (n c m d k e : Nat) (a b : Nat → Int) (w : World) (hn : n ≤ 4200) (hz : chk W H n = 0) (hm : (m : Int) = W) (hk : (k : Int) = H) (hm1 : m ≤ 5000) (hk1 : k ≤ 5000) (ha : L2.Holds w w.heap.size B m a) (hb1 : L2.Holds w w.heap.size C k b) (hx : fine m a = true) (hy : fine k b = true) : Calls Try.prog 36 #[.agg #[.int .i64 W, .int .i64 H, .slice A n c], .slice B m d, .slice C k e] w fun e w' => e = .returned (.int .i64 0) ∧ Below w.heap.size w w' := by
  have HK := Lib.hid (fun u => rchk_err (A := A) (c := c) hn hz u)
  have y1 : ((0 : Int) != 0) = false := rfl
  clear hz
  have y2 : ((m : Int) != W) = false := by simp [hm]
  have y3 : ((k : Int) != H) = false := by simp [hk]
  clear hm hk
  have HA := Lib.hid (fun u (hb : Below w.heap.size w u) => rfine_any B m d a u (by omega) ((ha.below hb).more hb.size))
  have HB := Lib.hid (fun u (hb : Below w.heap.size w u) => rfine_any C k e b u (by omega) ((hb1.below hb).more hb.size))
  rw [hx] at HA
  rw [hy] at HB
  clear hx hy ha hb1
  have LB0 := Lib.hid (Below.refl w.heap.size w)
  have X1 := Box.new w W H (.slice A n c)
  have X1 := Lib.hid X1
  have LB0 := Lib.hid (LB0.out.alloc LB0.out.size (.cells #[.int .i64 W, .int .i64 H, .slice A n c] 27))
  go_enter Try.func36, Try.ntmps36
  go_upto_region 1 with (fail)
  generalize w.alloc (.cells #[.int .i64 W, .int .i64 H, .slice A n c] 27) = w0 at *
  obtain ⟨q0, q1, q2, q3, q4, q5, q6⟩ := X1.out.all
  go_wp2_with fail
  clear q0 q1 q2 q3 q4 q5 q6
  with_reducible refine Calls.mono (HK.out _) ?_
  rintro e w1 ⟨rfl, hb⟩
  have LB1 := Lib.hid (LB0.out.trans (hb.mono LB0.out.size))
  have X1 := Lib.hid (X1.out.below hb X1.out.lt)
  clear hb LB0 
  obtain ⟨q0, q1, q2, q3, q4, q5, q6⟩ := X1.out.all
  go_wp2_with fail
  clear q0 q1 q2 q3 q4 q5 q6
  with_reducible refine Calls.mono (HA.out _ LB1.out) ?_
  rintro e w2 ⟨rfl, hb⟩
  have LB2 := Lib.hid (LB1.out.trans (hb.mono LB1.out.size))
  have X1 := Lib.hid (X1.out.below hb X1.out.lt)
  clear hb LB1 
  obtain ⟨q0, q1, q2, q3, q4, q5, q6⟩ := X1.out.all
  go_wp2_with fail
  clear q0 q1 q2 q3 q4 q5 q6
  with_reducible refine Calls.mono (HB.out _ LB2.out) ?_
  rintro e w3 ⟨rfl, hb⟩
  have LB3 := Lib.hid (LB2.out.trans (hb.mono LB2.out.size))
  have X1 := Lib.hid (X1.out.below hb X1.out.lt)
  clear hb LB2 
  obtain ⟨q0, q1, q2, q3, q4, q5, q6⟩ := X1.out.all
  go_wp2
  go_ret
  exact ⟨rfl, LB3.out⟩
theorem rth_any (W H : Int) (A B C : Option Addr) (n c m d k e : Nat) (a b : Nat → Int) (w : World) (hn : n ≤ 4200) (hm1 : m ≤ 5000) (hk1 : k ≤ 5000) (ha : L2.Holds w w.heap.size B m a) (hb1 : L2.Holds w w.heap.size C k b) :
    Calls Try.prog 36 #[.agg #[.int .i64 W, .int .i64 H, .slice A n c], .slice B m d, .slice C k e] w fun e w' => e = .returned (.int .i64 (thE W H n m k a b)) ∧ Below w.heap.size w w' := by
  by_cases h1 : chk W H n = 0
  · by_cases h2 : (m : Int) = W
    · by_cases h3 : (k : Int) = H
      · cases h4 : fine m a
        · rw [thE_bad h1 ⟨h2, h3⟩ (by simp [h4])]
          exact rth_bad1 W H A B C n c m d k e a b w hn h1 h2 h3 hm1 hk1 ha hb1 h4
        · cases h5 : fine k b
          · rw [thE_bad h1 ⟨h2, h3⟩ (by simp [h5])]
            exact rth_bad2 W H A B C n c m d k e a b w hn h1 h2 h3 hm1 hk1 ha hb1 h4 h5
          · rw [thE_ok h1 ⟨h2, h3⟩ ⟨h4, h5⟩]
            exact rth_ok W H A B C n c m d k e a b w hn h1 h2 h3 hm1 hk1 ha hb1 h4 h5
      · rw [thE_cnt h1 (fun q => h3 q.2)]
        exact rth_cnt2 W H A B C n c m d k e a b w hn h1 h2 h3
    · rw [thE_cnt h1 (fun q => h2 q.1)]
      exact rth_cnt1 W H A B C n c m d k e a b w hn h1 h2
  · rw [thE_chk rfl h1]
    exact rth_chk W H A B C n c m d k e a b w hn rfl h1
set_option maxHeartbeats 800000 in
theorem rfront_err (W H : Int) (A B C : Option Addr) (n c m d k e : Nat) (a b : Nat → Int) (w : World) (F : Nat → Int) (hn : n ≤ 4200) (hm1 : m ≤ 5000) (hk1 : k ≤ 5000) (ha : L2.Holds w w.heap.size B m a) (hb1 : L2.Holds w w.heap.size C k b) {z : Int} (hz : thE W H n m k a b = z) (hne : z ≠ 0) : Calls Try.prog 41 #[.agg #[.int .i64 W, .int .i64 H, .slice A n c], .slice B m d, .slice C k e] w (RI w 0 0 0 F z) := by
  have HT := Lib.hid (fun u (hb : Below w.heap.size w u) => rth_any W H A B C n c m d k e a b u hn hm1 hk1 ((ha.below hb).more hb.size) ((hb1.below hb).more hb.size))
  rw [hz] at HT
  have y1 : (z != 0) = true := by rw [bne_iff_ne]; exact hne
  clear hz hne ha hb1
  have LB0 := Lib.hid (Below.refl w.heap.size w)
  have X1 := Box.new w W H (.slice A n c)
  have X1 := Lib.hid X1
  have LB0 := Lib.hid (LB0.out.alloc LB0.out.size (.cells #[.int .i64 W, .int .i64 H, .slice A n c] 27))
  have X1 := Lib.hid (X1.out.alloc (.cells #[.int .i64 0, .int .i64 0, .slice none 0 0] 24))
  have R0 := IBox.new (w.alloc (.cells #[.int .i64 W, .int .i64 H, .slice A n c] 27)) 0 0 (.slice none 0 0)
  rw [show ((w.alloc (.cells #[.int .i64 W, .int .i64 H, .slice A n c] 27))).heap.size = w.heap.size + 1 by simp] at R0
  have R0 := Lib.hid R0
  have LB0 := Lib.hid (LB0.out.alloc LB0.out.size (.cells #[.int .i64 0, .int .i64 0, .slice none 0 0] 24))
  go_enter Try.func41, Try.ntmps41
  go_upto_region 1 with (fail)
  generalize (w.alloc (.cells #[.int .i64 W, .int .i64 H, .slice A n c] 27)).alloc (.cells #[.int .i64 0, .int .i64 0, .slice none 0 0] 24) = w0 at *
  obtain ⟨q0, q1, q2, q3, q4, q5, q6⟩ := X1.out.all
  go_wp2_with fail
  clear q0 q1 q2 q3 q4 q5 q6
  with_reducible refine Calls.mono (HT.out _ LB0.out) ?_
  rintro e w1 ⟨rfl, hb⟩
  have LB1 := Lib.hid (LB0.out.trans (hb.mono LB0.out.size))
  have X1 := Lib.hid (X1.out.below hb X1.out.lt)
  have R0 := Lib.hid (R0.out.below hb R0.out.lt)
  clear hb LB0 
  obtain ⟨q0, q1, q2, q3, q4, q5, q6⟩ := X1.out.all
  go_wp2_with fail
  clear q0 q1 q2 q3 q4 q5 q6
  with_reducible refine Calls.mono (HT.out _ LB1.out) ?_
  rintro e w2 ⟨rfl, hb⟩
  have LB2 := Lib.hid (LB1.out.trans (hb.mono LB1.out.size))
  have X1 := Lib.hid (X1.out.below hb X1.out.lt)
  have R0 := Lib.hid (R0.out.below hb R0.out.lt)
  clear hb LB1 
  obtain ⟨rb, hrb⟩ : ∃ z, w.heap.size + 1 = z := ⟨_, rfl⟩
  have hrw : w.heap.size ≤ rb := by omega
  rw [hrb] at R0 ⊢
  clear hrb
  obtain ⟨q0, q1, q2, q3, q4, q5, q6⟩ := R0.out.all
  go_wp2
  refine bodyPost_ret (v := .tuple #[.agg #[.int .i64 0, .int .i64 0, .slice none 0 0], .int .i64 z]) (by simp [results, Try.results41, go_sem, q0, q1, q2, q3, q4, q5]) rfl ?_
  exact fin_ie _ hrw LB2.out
set_option maxHeartbeats 800000 in
theorem rfront_ok (W H : Nat) (A B C : Option Addr) (c d e : Nat) (f : Nat → Bool) (a b : Nat → Int) (w : World) (hf : Holds w w.heap.size A (W * H) f) (ha : L2.Holds w w.heap.size B W a) (hb1 : L2.Holds w w.heap.size C H b) (W0 : 1 ≤ W) (W1 : W ≤ 64) (H0 : 1 ≤ H) (H1 : H ≤ 64) (hx : fine W a = true) (hy : fine H b = true) : Calls Try.prog 41 #[.agg #[.int .i64 (W : Nat), .int .i64 (H : Nat), .slice A (W * H) c], .slice B W d, .slice C H e] w (RI w (W : Nat) (H : Nat) (W * H) (shF W f a b) 0) := by
  have HT := Lib.hid (fun u (hb : Below w.heap.size w u) => rth_any (W : Nat) (H : Nat) A B C (W * H) c W d H e a b u (show W * H ≤ 4200 by have := Nat.mul_le_mul W1 H1; omega) (by omega) (by omega) ((ha.below hb).more hb.size) ((hb1.below hb).more hb.size))
  rw [thE_ok (chk_zero W0 W1 H0 H1) ⟨rfl, rfl⟩ ⟨hx, hy⟩] at HT
  have y1 : ((0 : Int) != 0) = false := rfl
  have HS := Lib.hid (fun u (hb : Below w.heap.size w u) => rshown_any W H A B C c d e f a b false u ((hf.below hb).more hb.size) ((ha.below hb).more hb.size) ((hb1.below hb).more hb.size) W0 W1 H0 H1)
  have HE : (fun i => f i != false) = f := by funext i; cases f i <;> rfl
  rw [HE] at HS
  clear HE hf ha hb1 hx hy
  have LB0 := Lib.hid (Below.refl w.heap.size w)
  have X1 := Box.new w (W : Nat) (H : Nat) (.slice A (W * H) c)
  have X1 := Lib.hid X1
  have LB0 := Lib.hid (LB0.out.alloc LB0.out.size (.cells #[.int .i64 (W : Nat), .int .i64 (H : Nat), .slice A (W * H) c] 27))
  have X1 := Lib.hid (X1.out.alloc (.cells #[.int .i64 0, .int .i64 0, .slice none 0 0] 24))
  have R0 := IBox.new (w.alloc (.cells #[.int .i64 (W : Nat), .int .i64 (H : Nat), .slice A (W * H) c] 27)) 0 0 (.slice none 0 0)
  rw [show ((w.alloc (.cells #[.int .i64 (W : Nat), .int .i64 (H : Nat), .slice A (W * H) c] 27))).heap.size = w.heap.size + 1 by simp] at R0
  have R0 := Lib.hid R0
  have LB0 := Lib.hid (LB0.out.alloc LB0.out.size (.cells #[.int .i64 0, .int .i64 0, .slice none 0 0] 24))
  go_enter Try.func41, Try.ntmps41
  go_upto_region 1 with (fail)
  generalize (w.alloc (.cells #[.int .i64 (W : Nat), .int .i64 (H : Nat), .slice A (W * H) c] 27)).alloc (.cells #[.int .i64 0, .int .i64 0, .slice none 0 0] 24) = w0 at *
  obtain ⟨q0, q1, q2, q3, q4, q5, q6⟩ := X1.out.all
  go_wp2_with fail
  clear q0 q1 q2 q3 q4 q5 q6
  with_reducible refine Calls.mono (HT.out _ LB0.out) ?_
  rintro e w1 ⟨rfl, hb⟩
  have LB1 := Lib.hid (LB0.out.trans (hb.mono LB0.out.size))
  have X1 := Lib.hid (X1.out.below hb X1.out.lt)
  have R0 := Lib.hid (R0.out.below hb R0.out.lt)
  clear hb LB0 
  obtain ⟨rb, hrb⟩ : ∃ z, w.heap.size + 1 = z := ⟨_, rfl⟩
  have hrw : w.heap.size ≤ rb := by omega
  rw [hrb] at R0 ⊢
  clear hrb
  have hrs := R0.out.lt
  obtain ⟨q0, q1, q2, q3, q4, q5, q6⟩ := X1.out.all
  go_wp2_with fail
  clear q0 q1 q2 q3 q4 q5 q6
  with_reducible refine Calls.mono (HS.out _ LB1.out) ?_
  rintro e w2 ⟨k2, c2, rfl, hk, hrow, hb⟩
  have LB2 := Lib.hid (LB1.out.trans (hb.mono LB1.out.size))
  have X1 := Lib.hid (X1.out.below hb X1.out.lt)
  have R0 := Lib.hid (R0.out.below hb R0.out.lt)
  have HRW := Lib.hid hrow
  have hk2 : rb < k2 := by omega
  clear hb hrow hk
  obtain ⟨q0, q1, q2, q3, q4, q5, q6⟩ := R0.out.all
  go_wp2
  refine bodyPost_ret (v := .tuple #[.agg #[.int .i64 (W : Nat), .int .i64 (H : Nat), .slice (some ⟨k2, 0, none⟩) (W * H) c2], .int .i64 0]) (by simp [results, Try.results41, go_sem, q0, q1, q2, q3, q4, q5]) rfl ?_
  exact fin_im hrw hk2 HRW.out LB2.out
theorem step_appi {ops : Array Oper} {o : Oper} {a : Act} {w : World} {K : Act → World → Prop} {Q : Exit → Act → World → Prop} {E : Prop} (hgd : o.guard = none) (s x : Operand)
    (ho : o.op = .call { callee := .builtin .append, args := #[s, x], argTypes := #[22, 22] }) (base : Nat) {v : Value} {n : Nat} {f : Nat → Int} (hs : a.eval s = v) (hown : L2.Own w base v n f)
    (y : Int) (g : Nat) (hx : a.eval x = .slice (some ⟨g, 0, none⟩) 1 1) (hc : w.cell? ⟨g, 0, none⟩ = some (.int .i64 y)) (hy : f n = y) (hn : n ≤ 100000) (hb : base ≤ w.heap.size)
    (h : ∀ v' w', L2.Own w' base v' (n + 1) f → Below base w w' → K (a.put o.dst v') w') : if Region.wanted o (yielded ops a.tmps) = true then Oper.wp Try.prog o a w K Q else E := by
  have hw : Region.wanted o (yielded ops a.tmps) = true := by simp [Region.wanted, hgd]
  rw [if_pos hw]
  obtain ⟨i0, hi, hz0, hz1, hz2⟩ := info_parts L2.TryI.info3
  obtain ⟨v', w', hrun, h1, h2, _, hat⟩ := run_append_own_at (P := Try.prog) w base 22 o.type 3 i0 (.int .i64 0) 1 8 Try.underlying22 hi hz0 hz1 hz2 rfl (by decide) v n _ hown ⟨g, 0, none⟩ 1 1 [.int .i64 y] rfl
    (by intro j u hj; match j, hj with | 0, hj => (simp at hj; subst hj; simpa [Addr.add] using hc)) (by intro u hu; simp at hu; rw [hu]; rfl) (by unfold maxLen; omega) (by omega) hb
  unfold Oper.wp
  simp [execOp, ho, resolve, invoke, builtin, hs, hx, hrun, Result.andThen]
  refine h v' w' ?_ ?_
  · unfold L2.Own
    rw [L2.news_succ, hy]
    exact h1
  · exact Below.grown (Below.refl _ _) h2 hb fun k hk => (hown.block hk).1
theorem own_put {w : World} {g : Nat} {v : Value} {n : Nat} {f : Nat → Int} (h : L2.Own w (g + 1) v n f) (u : Value) : L2.Own (w.setCell ⟨g, 2, none⟩ u) (g + 1) v n f := h.far (p := ⟨g, 2, none⟩) (Nat.lt_succ_self g) u
theorem new_cell (w : World) (y : Int) : ((w.alloc (.cells #[.int .i64 y] 3))).cell? ⟨w.heap.size, 0, none⟩ = some (.int .i64 y) := (Num.new w y).1
end Go.Proofs.Ytmcdfnhpaneanaa
