/- DoubleFaces: both sides give the same; the walk. -/
import Derived.Test.YtgmcbdnfgdmmaaaDrw
namespace Go.Proofs.Ytgmcbdnfgdmmaaa
open Go.RowKit
set_option maxRecDepth 100000
set_option linter.unusedVariables false
set_option linter.unusedSimpArgs false

theorem face_pair (W H X Y U V : Int) (A B C : Option Addr) (n c m d k e : Nat) (a b mo : Nat → Bool) (w : World) (hn : n ≤ 4200) (hm0 : m ≤ 4200) (hk : k ≤ 4200) (ha : Holds w w.heap.size A n a) (hb : Holds w w.heap.size B m b) (hm : Holds w w.heap.size C k mo) :
    ∃ X' Y' N F z, N ≤ 5000 ∧ (∀ u, Below w.heap.size w u → Calls Try.prog 44 #[.agg #[.int .i64 W, .int .i64 H, .slice A n c], .agg #[.int .i64 X, .int .i64 Y, .slice B m d], .agg #[.int .i64 U, .int .i64 V, .slice C k e]] u (RES u X' Y' N F z)) ∧ (∀ u, Below w.heap.size w u → Calls Try.prog 55 #[.agg #[.int .i64 W, .int .i64 H, .slice A n c], .agg #[.int .i64 X, .int .i64 Y, .slice B m d], .agg #[.int .i64 U, .int .i64 V, .slice C k e]] u (RES u X' Y' N F z)) := by
  by_cases hz : (fitZ (chk W H n) (chk X Y m) (chk U V k) W H X Y U V) = 0
  · have ht : chk W H n = 0 ∧ chk X Y m = 0 ∧ chk U V k = 0 ∧ X = W ∧ Y = H ∧ U = W ∧ V = H := by
      unfold fitZ at hz
      by_cases a1 : chk W H n = 0
      · by_cases a2 : chk X Y m = 0
        · by_cases a3 : chk U V k = 0
          · rw [if_neg (by simpa using a1), if_neg (by simpa using a2), if_neg (by simpa using a3)] at hz
            by_cases a4 : (X = W ∧ Y = H) ∧ (U = W ∧ V = H)
            · exact ⟨a1, a2, a3, a4.1.1, a4.1.2, a4.2.1, a4.2.2⟩
            · rw [if_neg a4] at hz; cases hz
          · rw [if_neg (by simpa using a1), if_neg (by simpa using a2), if_pos a3] at hz; exact absurd hz a3
        · rw [if_neg (by simpa using a1), if_pos a2] at hz; exact absurd hz a2
      · rw [if_pos a1] at hz; exact absurd hz a1
    obtain ⟨t1, t2, t3, rfl, rfl, rfl, rfl⟩ := ht
    obtain ⟨W', H', rfl, rfl, rfl, w1, w2, w3, w4⟩ := nat_of t1
    obtain ⟨W2, H2, e1, e2, rfl, _⟩ := nat_of t2
    obtain ⟨W3, H3, e3, e4, rfl, _⟩ := nat_of t3
    obtain rfl : W' = W2 := by omega
    obtain rfl : H' = H2 := by omega
    obtain rfl : W' = W3 := by omega
    obtain rfl : H' = H3 := by omega
    exact ⟨_, _, _, _, _, by omega, fun u hu => (face_ok w1 w2 w3 w4 u ((ha.below hu).more hu.size) ((hb.below hu).more hu.size) ((hm.below hu).more hu.size)).mono fun _ _ h => RES.ref h, fun u hu => (rface_ok w1 w2 w3 w4 u ((ha.below hu).more hu.size) ((hb.below hu).more hu.size) ((hm.below hu).more hu.size)).mono fun _ _ h => RES.ref h⟩
  · exact ⟨_, _, _, (fun _ => false), _, Nat.zero_le _, fun u hu => (face_err hn hm0 hk rfl (by rw [bne_iff_ne]; exact hz) u).mono fun _ _ h => RES.err h, fun u hu => (rface_err rfl (by rw [bne_iff_ne]; exact hz) u).mono fun _ _ h => RES.err h⟩
theorem weave_pair (W H X Y U V : Int) (A B C : Option Addr) (n c m d k e : Nat) (a b mo : Nat → Bool) (w : World) (hn : n ≤ 4200) (hm0 : m ≤ 4200) (hk : k ≤ 4200) (ha : Holds w w.heap.size A n a) (hb : Holds w w.heap.size B m b) (hm : Holds w w.heap.size C k mo) :
    ∃ X' Y' N F z, N ≤ 5000 ∧ (∀ u, Below w.heap.size w u → Calls Try.prog 48 #[.agg #[.int .i64 W, .int .i64 H, .slice A n c], .agg #[.int .i64 X, .int .i64 Y, .slice B m d], .agg #[.int .i64 U, .int .i64 V, .slice C k e]] u (RES u X' Y' N F z)) ∧ (∀ u, Below w.heap.size w u → Calls Try.prog 52 #[.agg #[.int .i64 W, .int .i64 H, .slice A n c], .agg #[.int .i64 X, .int .i64 Y, .slice B m d], .agg #[.int .i64 U, .int .i64 V, .slice C k e]] u (RES u X' Y' N F z)) := by
  by_cases hz : (fitZ (chk W H n) (chk X Y m) (chk U V k) W H X Y U V) = 0
  · have ht : chk W H n = 0 ∧ chk X Y m = 0 ∧ chk U V k = 0 ∧ X = W ∧ Y = H ∧ U = W ∧ V = H := by
      unfold fitZ at hz
      by_cases a1 : chk W H n = 0
      · by_cases a2 : chk X Y m = 0
        · by_cases a3 : chk U V k = 0
          · rw [if_neg (by simpa using a1), if_neg (by simpa using a2), if_neg (by simpa using a3)] at hz
            by_cases a4 : (X = W ∧ Y = H) ∧ (U = W ∧ V = H)
            · exact ⟨a1, a2, a3, a4.1.1, a4.1.2, a4.2.1, a4.2.2⟩
            · rw [if_neg a4] at hz; cases hz
          · rw [if_neg (by simpa using a1), if_neg (by simpa using a2), if_pos a3] at hz; exact absurd hz a3
        · rw [if_neg (by simpa using a1), if_pos a2] at hz; exact absurd hz a2
      · rw [if_pos a1] at hz; exact absurd hz a1
    obtain ⟨t1, t2, t3, rfl, rfl, rfl, rfl⟩ := ht
    obtain ⟨W', H', rfl, rfl, rfl, w1, w2, w3, w4⟩ := nat_of t1
    obtain ⟨W2, H2, e1, e2, rfl, _⟩ := nat_of t2
    obtain ⟨W3, H3, e3, e4, rfl, _⟩ := nat_of t3
    obtain rfl : W' = W2 := by omega
    obtain rfl : H' = H2 := by omega
    obtain rfl : W' = W3 := by omega
    obtain rfl : H' = H3 := by omega
    by_cases hs : W' ≤ 32 ∧ H' ≤ 32
    · have l1 : 2 * W' * (2 * H') ≤ 64 * 64 := Nat.mul_le_mul (by omega) (by omega)
      exact ⟨_, _, _, _, _, by omega, fun u hu => (weave_ok w1 hs.1 w3 hs.2 u ((ha.below hu).more hu.size) ((hb.below hu).more hu.size) ((hm.below hu).more hu.size)).mono fun _ _ h => RES.ref h, fun u hu => (rweave_ok w1 hs.1 w3 hs.2 u ((ha.below hu).more hu.size) ((hb.below hu).more hu.size) ((hm.below hu).more hu.size)).mono fun _ _ h => RES.ref h⟩
    · exact ⟨_, _, _, (fun _ => false), _, Nat.zero_le _, fun u hu => (weave_many w1 w2 w3 w4 (by omega) u).mono fun _ _ h => RES.err h, fun u hu => (rweave_many w1 w2 w3 w4 (by omega) u).mono fun _ _ h => RES.err h⟩
  · exact ⟨_, _, _, (fun _ => false), _, Nat.zero_le _, fun u hu => (weave_err hn hm0 hk rfl (by rw [bne_iff_ne]; exact hz) u).mono fun _ _ h => RES.err h, fun u hu => (rweave_err rfl (by rw [bne_iff_ne]; exact hz) u).mono fun _ _ h => RES.err h⟩
theorem backw_pair (W H : Int) (A : Option Addr) (n c : Nat) (a : Nat → Bool) (w : World) (hn : n ≤ 4200) (ha : Holds w w.heap.size A n a) :
    ∃ X' Y' N F z, N ≤ 5000 ∧ (∀ u, Below w.heap.size w u → Calls Try.prog 45 #[.agg #[.int .i64 W, .int .i64 H, .slice A n c]] u (RES u X' Y' N F z)) ∧ (∀ u, Below w.heap.size w u → Calls Try.prog 56 #[.agg #[.int .i64 W, .int .i64 H, .slice A n c]] u (RES u X' Y' N F z)) := by
  by_cases hz : chk W H n = 0
  · obtain ⟨W', H', rfl, rfl, rfl, w1, w2, w3, w4⟩ := nat_of hz
    exact ⟨_, _, _, _, _, by omega, fun u hu => (back_ok w1 w2 w3 w4 u ((ha.below hu).more hu.size)).mono fun _ _ h => RES.grid h, fun u hu => (rbackw_ok w1 w2 w3 w4 u ((ha.below hu).more hu.size)).mono fun _ _ h => RES.ref h⟩
  · exact ⟨_, _, _, (fun _ => false), _, Nat.zero_le _, fun u hu => (back_err hn rfl (by rw [bne_iff_ne]; exact hz) u).mono fun _ _ h => RES.err h, fun u hu => (rbackw_err rfl (by rw [bne_iff_ne]; exact hz) u).mono fun _ _ h => RES.err h⟩
theorem tube_pair (W H : Int) (A : Option Addr) (n c : Nat) (a : Nat → Bool) (w : World) (hn : n ≤ 4200) (ha : Holds w w.heap.size A n a) :
    ∃ X' Y' N F z, N ≤ 5000 ∧ (∀ u, Below w.heap.size w u → Calls Try.prog 46 #[.agg #[.int .i64 W, .int .i64 H, .slice A n c]] u (RES u X' Y' N F z)) ∧ (∀ u, Below w.heap.size w u → Calls Try.prog 57 #[.agg #[.int .i64 W, .int .i64 H, .slice A n c]] u (RES u X' Y' N F z)) := by
  by_cases hz : chk W H n = 0
  · obtain ⟨W', H', rfl, rfl, rfl, w1, w2, w3, w4⟩ := nat_of hz
    by_cases hs : W' ≤ 32 ∧ H' ≤ 32
    · have l1 : 2 * W' * (2 * H') ≤ 64 * 64 := Nat.mul_le_mul (by omega) (by omega)
      exact ⟨_, _, _, _, _, by omega, fun u hu => (tube_ok w1 hs.1 w3 hs.2 u ((ha.below hu).more hu.size)).mono fun _ _ h => RES.ref h, fun u hu => (rtube_ok w1 hs.1 w3 hs.2 u ((ha.below hu).more hu.size)).mono fun _ _ h => RES.ref h⟩
    · exact ⟨_, _, _, (fun _ => false), _, Nat.zero_le _, fun u hu => (tube_many w1 w2 w3 w4 (by omega) u ((ha.below hu).more hu.size)).mono fun _ _ h => RES.err h, fun u hu => (rtube_many w1 w2 w3 w4 (by omega) u).mono fun _ _ h => RES.err h⟩
  · exact ⟨_, _, _, (fun _ => false), _, Nat.zero_le _, fun u hu => (tube_err hn rfl (by rw [bne_iff_ne]; exact hz) u).mono fun _ _ h => RES.err h, fun u hu => (rtube_err rfl (by rw [bne_iff_ne]; exact hz) u).mono fun _ _ h => RES.err h⟩
set_option maxHeartbeats 1600000 in
theorem faces_great0 (W H X Y U V : Int) (A B C : Option Addr) (n c m d k e : Nat) (h0 : 1100 < n) (w : World) : Calls Try.prog 12 #[.agg #[.int .i64 W, .int .i64 H, .slice A n c], .agg #[.int .i64 X, .int .i64 Y, .slice B m d], .agg #[.int .i64 U, .int .i64 V, .slice C k e]] w fun e w' => e = .returned (.bool true) ∧ Below w.heap.size w w' := by
  have HG0 := Lib.hid (fun u => great12_any W H A n c u)
  rw [decide_eq_true h0] at HG0
  have LB0 := Lib.hid (Below.refl w.heap.size w)
  have X1 := Lib.hid (Box.new w W H (.slice A n c))
  have LB0 := Lib.hid (LB0.out.alloc LB0.out.size (.cells #[.int .i64 W, .int .i64 H, .slice A n c] 24))
  have X1 := Lib.hid (X1.out.alloc (.cells #[.int .i64 X, .int .i64 Y, .slice B m d] 24))
  have X2 := Box.new (w.alloc (.cells #[.int .i64 W, .int .i64 H, .slice A n c] 24)) X Y (.slice B m d)
  rw [show ((w.alloc (.cells #[.int .i64 W, .int .i64 H, .slice A n c] 24))).heap.size = w.heap.size + 1 by simp] at X2
  have X2 := Lib.hid X2
  have LB0 := Lib.hid (LB0.out.alloc LB0.out.size (.cells #[.int .i64 X, .int .i64 Y, .slice B m d] 24))
  have X1 := Lib.hid (X1.out.alloc (.cells #[.int .i64 U, .int .i64 V, .slice C k e] 24))
  have X2 := Lib.hid (X2.out.alloc (.cells #[.int .i64 U, .int .i64 V, .slice C k e] 24))
  have X3 := Box.new ((w.alloc (.cells #[.int .i64 W, .int .i64 H, .slice A n c] 24)).alloc (.cells #[.int .i64 X, .int .i64 Y, .slice B m d] 24)) U V (.slice C k e)
  rw [show (((w.alloc (.cells #[.int .i64 W, .int .i64 H, .slice A n c] 24)).alloc (.cells #[.int .i64 X, .int .i64 Y, .slice B m d] 24))).heap.size = w.heap.size + 2 by simp] at X3
  have X3 := Lib.hid X3
  have LB0 := Lib.hid (LB0.out.alloc LB0.out.size (.cells #[.int .i64 U, .int .i64 V, .slice C k e] 24))
  go_enter Try.func12, Try.ntmps12
  go_upto_region 1 with (fail)
  generalize ((w.alloc (.cells #[.int .i64 W, .int .i64 H, .slice A n c] 24)).alloc (.cells #[.int .i64 X, .int .i64 Y, .slice B m d] 24)).alloc (.cells #[.int .i64 U, .int .i64 V, .slice C k e] 24) = w0 at *
  obtain ⟨q0, q1, q2, q3, q4, q5, q6⟩ := X1.out.all
  go_wp2_with fail
  clear q0 q1 q2 q3 q4 q5 q6
  with_reducible refine Calls.mono (HG0.out _) ?_
  rintro e w1 ⟨rfl, hb⟩
  have LB1 := Lib.hid (LB0.out.trans (hb.mono LB0.out.size))
  have X1 := Lib.hid (X1.out.below hb X1.out.lt)
  have X2 := Lib.hid (X2.out.below hb X2.out.lt)
  have X3 := Lib.hid (X3.out.below hb X3.out.lt)
  clear hb LB0 
  go_wp2
  go_ret
  exact ⟨rfl, LB1.out⟩
set_option maxHeartbeats 1600000 in
theorem faces_great1 (W H X Y U V : Int) (A B C : Option Addr) (n c m d k e : Nat) (h0 : n ≤ 1100) (h1 : 1100 < m) (w : World) : Calls Try.prog 12 #[.agg #[.int .i64 W, .int .i64 H, .slice A n c], .agg #[.int .i64 X, .int .i64 Y, .slice B m d], .agg #[.int .i64 U, .int .i64 V, .slice C k e]] w fun e w' => e = .returned (.bool true) ∧ Below w.heap.size w w' := by
  have HG0 := Lib.hid (fun u => great12_any W H A n c u)
  rw [decide_eq_false (by omega)] at HG0
  have HG1 := Lib.hid (fun u => great12_any X Y B m d u)
  rw [decide_eq_true h1] at HG1
  have LB0 := Lib.hid (Below.refl w.heap.size w)
  have X1 := Lib.hid (Box.new w W H (.slice A n c))
  have LB0 := Lib.hid (LB0.out.alloc LB0.out.size (.cells #[.int .i64 W, .int .i64 H, .slice A n c] 24))
  have X1 := Lib.hid (X1.out.alloc (.cells #[.int .i64 X, .int .i64 Y, .slice B m d] 24))
  have X2 := Box.new (w.alloc (.cells #[.int .i64 W, .int .i64 H, .slice A n c] 24)) X Y (.slice B m d)
  rw [show ((w.alloc (.cells #[.int .i64 W, .int .i64 H, .slice A n c] 24))).heap.size = w.heap.size + 1 by simp] at X2
  have X2 := Lib.hid X2
  have LB0 := Lib.hid (LB0.out.alloc LB0.out.size (.cells #[.int .i64 X, .int .i64 Y, .slice B m d] 24))
  have X1 := Lib.hid (X1.out.alloc (.cells #[.int .i64 U, .int .i64 V, .slice C k e] 24))
  have X2 := Lib.hid (X2.out.alloc (.cells #[.int .i64 U, .int .i64 V, .slice C k e] 24))
  have X3 := Box.new ((w.alloc (.cells #[.int .i64 W, .int .i64 H, .slice A n c] 24)).alloc (.cells #[.int .i64 X, .int .i64 Y, .slice B m d] 24)) U V (.slice C k e)
  rw [show (((w.alloc (.cells #[.int .i64 W, .int .i64 H, .slice A n c] 24)).alloc (.cells #[.int .i64 X, .int .i64 Y, .slice B m d] 24))).heap.size = w.heap.size + 2 by simp] at X3
  have X3 := Lib.hid X3
  have LB0 := Lib.hid (LB0.out.alloc LB0.out.size (.cells #[.int .i64 U, .int .i64 V, .slice C k e] 24))
  go_enter Try.func12, Try.ntmps12
  go_upto_region 1 with (fail)
  generalize ((w.alloc (.cells #[.int .i64 W, .int .i64 H, .slice A n c] 24)).alloc (.cells #[.int .i64 X, .int .i64 Y, .slice B m d] 24)).alloc (.cells #[.int .i64 U, .int .i64 V, .slice C k e] 24) = w0 at *
  obtain ⟨q0, q1, q2, q3, q4, q5, q6⟩ := X1.out.all
  go_wp2_with fail
  clear q0 q1 q2 q3 q4 q5 q6
  with_reducible refine Calls.mono (HG0.out _) ?_
  rintro e w1 ⟨rfl, hb⟩
  have LB1 := Lib.hid (LB0.out.trans (hb.mono LB0.out.size))
  have X1 := Lib.hid (X1.out.below hb X1.out.lt)
  have X2 := Lib.hid (X2.out.below hb X2.out.lt)
  have X3 := Lib.hid (X3.out.below hb X3.out.lt)
  clear hb LB0 
  obtain ⟨q0, q1, q2, q3, q4, q5, q6⟩ := X2.out.all
  go_wp2_with fail
  clear q0 q1 q2 q3 q4 q5 q6
  with_reducible refine Calls.mono (HG1.out _) ?_
  rintro e w2 ⟨rfl, hb⟩
  have LB2 := Lib.hid (LB1.out.trans (hb.mono LB1.out.size))
  have X1 := Lib.hid (X1.out.below hb X1.out.lt)
  have X2 := Lib.hid (X2.out.below hb X2.out.lt)
  have X3 := Lib.hid (X3.out.below hb X3.out.lt)
  clear hb LB1 
  go_wp2
  go_ret
  exact ⟨rfl, LB2.out⟩
set_option maxHeartbeats 1600000 in
theorem faces_great2 (W H X Y U V : Int) (A B C : Option Addr) (n c m d k e : Nat) (h0 : n ≤ 1100) (h1 : m ≤ 1100) (h2 : 1100 < k) (w : World) : Calls Try.prog 12 #[.agg #[.int .i64 W, .int .i64 H, .slice A n c], .agg #[.int .i64 X, .int .i64 Y, .slice B m d], .agg #[.int .i64 U, .int .i64 V, .slice C k e]] w fun e w' => e = .returned (.bool true) ∧ Below w.heap.size w w' := by
  have HG0 := Lib.hid (fun u => great12_any W H A n c u)
  rw [decide_eq_false (by omega)] at HG0
  have HG1 := Lib.hid (fun u => great12_any X Y B m d u)
  rw [decide_eq_false (by omega)] at HG1
  have HG2 := Lib.hid (fun u => great12_any U V C k e u)
  rw [decide_eq_true h2] at HG2
  have LB0 := Lib.hid (Below.refl w.heap.size w)
  have X1 := Lib.hid (Box.new w W H (.slice A n c))
  have LB0 := Lib.hid (LB0.out.alloc LB0.out.size (.cells #[.int .i64 W, .int .i64 H, .slice A n c] 24))
  have X1 := Lib.hid (X1.out.alloc (.cells #[.int .i64 X, .int .i64 Y, .slice B m d] 24))
  have X2 := Box.new (w.alloc (.cells #[.int .i64 W, .int .i64 H, .slice A n c] 24)) X Y (.slice B m d)
  rw [show ((w.alloc (.cells #[.int .i64 W, .int .i64 H, .slice A n c] 24))).heap.size = w.heap.size + 1 by simp] at X2
  have X2 := Lib.hid X2
  have LB0 := Lib.hid (LB0.out.alloc LB0.out.size (.cells #[.int .i64 X, .int .i64 Y, .slice B m d] 24))
  have X1 := Lib.hid (X1.out.alloc (.cells #[.int .i64 U, .int .i64 V, .slice C k e] 24))
  have X2 := Lib.hid (X2.out.alloc (.cells #[.int .i64 U, .int .i64 V, .slice C k e] 24))
  have X3 := Box.new ((w.alloc (.cells #[.int .i64 W, .int .i64 H, .slice A n c] 24)).alloc (.cells #[.int .i64 X, .int .i64 Y, .slice B m d] 24)) U V (.slice C k e)
  rw [show (((w.alloc (.cells #[.int .i64 W, .int .i64 H, .slice A n c] 24)).alloc (.cells #[.int .i64 X, .int .i64 Y, .slice B m d] 24))).heap.size = w.heap.size + 2 by simp] at X3
  have X3 := Lib.hid X3
  have LB0 := Lib.hid (LB0.out.alloc LB0.out.size (.cells #[.int .i64 U, .int .i64 V, .slice C k e] 24))
  go_enter Try.func12, Try.ntmps12
  go_upto_region 1 with (fail)
  generalize ((w.alloc (.cells #[.int .i64 W, .int .i64 H, .slice A n c] 24)).alloc (.cells #[.int .i64 X, .int .i64 Y, .slice B m d] 24)).alloc (.cells #[.int .i64 U, .int .i64 V, .slice C k e] 24) = w0 at *
  obtain ⟨q0, q1, q2, q3, q4, q5, q6⟩ := X1.out.all
  go_wp2_with fail
  clear q0 q1 q2 q3 q4 q5 q6
  with_reducible refine Calls.mono (HG0.out _) ?_
  rintro e w1 ⟨rfl, hb⟩
  have LB1 := Lib.hid (LB0.out.trans (hb.mono LB0.out.size))
  have X1 := Lib.hid (X1.out.below hb X1.out.lt)
  have X2 := Lib.hid (X2.out.below hb X2.out.lt)
  have X3 := Lib.hid (X3.out.below hb X3.out.lt)
  clear hb LB0 
  obtain ⟨q0, q1, q2, q3, q4, q5, q6⟩ := X2.out.all
  go_wp2_with fail
  clear q0 q1 q2 q3 q4 q5 q6
  with_reducible refine Calls.mono (HG1.out _) ?_
  rintro e w2 ⟨rfl, hb⟩
  have LB2 := Lib.hid (LB1.out.trans (hb.mono LB1.out.size))
  have X1 := Lib.hid (X1.out.below hb X1.out.lt)
  have X2 := Lib.hid (X2.out.below hb X2.out.lt)
  have X3 := Lib.hid (X3.out.below hb X3.out.lt)
  clear hb LB1 
  obtain ⟨q0, q1, q2, q3, q4, q5, q6⟩ := X3.out.all
  go_wp2_with fail
  clear q0 q1 q2 q3 q4 q5 q6
  with_reducible refine Calls.mono (HG2.out _) ?_
  rintro e w3 ⟨rfl, hb⟩
  have LB3 := Lib.hid (LB2.out.trans (hb.mono LB2.out.size))
  have X1 := Lib.hid (X1.out.below hb X1.out.lt)
  have X2 := Lib.hid (X2.out.below hb X2.out.lt)
  have X3 := Lib.hid (X3.out.below hb X3.out.lt)
  clear hb LB2 
  go_wp2
  go_ret
  exact ⟨rfl, LB3.out⟩
set_option maxHeartbeats 3200000 in
theorem faces_core (W H X Y U V : Int) (A B C : Option Addr) (n c m d k e : Nat) (w : World) (h1 : n ≤ 1100) (h2 : m ≤ 1100) (h3 : k ≤ 1100) (X1 Y1 X2 Y2 X3 Y3 : Int) (N1 N2 N3 : Nat) (F1 F2 F3 : Nat → Bool) (z1 z2 z3 : Int) (hN1 : N1 ≤ 5000) (hN2 : N2 ≤ 5000) (hN3 : N3 ≤ 5000)
    (p1 : ∀ u, Below w.heap.size w u → Calls Try.prog 44 #[.agg #[.int .i64 W, .int .i64 H, .slice A n c], .agg #[.int .i64 X, .int .i64 Y, .slice B m d], .agg #[.int .i64 U, .int .i64 V, .slice C k e]] u (RES u X1 Y1 N1 F1 z1)) (r1 : ∀ u, Below w.heap.size w u → Calls Try.prog 55 #[.agg #[.int .i64 W, .int .i64 H, .slice A n c], .agg #[.int .i64 X, .int .i64 Y, .slice B m d], .agg #[.int .i64 U, .int .i64 V, .slice C k e]] u (RES u X1 Y1 N1 F1 z1))
    (p2 : ∀ u, Below w.heap.size w u → Calls Try.prog 45 #[.agg #[.int .i64 W, .int .i64 H, .slice A n c]] u (RES u X2 Y2 N2 F2 z2)) (r2 : ∀ u, Below w.heap.size w u → Calls Try.prog 56 #[.agg #[.int .i64 W, .int .i64 H, .slice A n c]] u (RES u X2 Y2 N2 F2 z2))
    (p3 : ∀ u, Below w.heap.size w u → Calls Try.prog 46 #[.agg #[.int .i64 W, .int .i64 H, .slice A n c]] u (RES u X3 Y3 N3 F3 z3)) (r3 : ∀ u, Below w.heap.size w u → Calls Try.prog 57 #[.agg #[.int .i64 W, .int .i64 H, .slice A n c]] u (RES u X3 Y3 N3 F3 z3)) :
    Calls Try.prog 12 #[.agg #[.int .i64 W, .int .i64 H, .slice A n c], .agg #[.int .i64 X, .int .i64 Y, .slice B m d], .agg #[.int .i64 U, .int .i64 V, .slice C k e]] w fun e w' => e = .returned (.bool true) ∧ Below w.heap.size w w' := by
  have HG0 := Lib.hid (fun u => great12_any W H A n c u)
  rw [decide_eq_false (by omega)] at HG0
  have HG1 := Lib.hid (fun u => great12_any X Y B m d u)
  rw [decide_eq_false (by omega)] at HG1
  have HG2 := Lib.hid (fun u => great12_any U V C k e u)
  rw [decide_eq_false (by omega)] at HG2
  have P1 := Lib.hid p1
  have R1 := Lib.hid r1
  have zz1 : (z1 == z1) = true := by simp
  have HS1 := Lib.hid (fun u A1 c1 A2 c2 (h1 : Holds u u.heap.size A1 N1 F1) (h2 : Holds u u.heap.size A2 N1 F1) => rsame_t (W := X1) (H := Y1) (c := c1) (d := c2) hN1 (fun _ _ => rfl) u h1 h2)
  have P2 := Lib.hid p2
  have R2 := Lib.hid r2
  have zz2 : (z2 == z2) = true := by simp
  have HS2 := Lib.hid (fun u A1 c1 A2 c2 (h1 : Holds u u.heap.size A1 N2 F2) (h2 : Holds u u.heap.size A2 N2 F2) => rsame_t (W := X2) (H := Y2) (c := c1) (d := c2) hN2 (fun _ _ => rfl) u h1 h2)
  have P3 := Lib.hid p3
  have R3 := Lib.hid r3
  have zz3 : (z3 == z3) = true := by simp
  have HS3 := Lib.hid (fun u A1 c1 A2 c2 (h1 : Holds u u.heap.size A1 N3 F3) (h2 : Holds u u.heap.size A2 N3 F3) => rsame_t (W := X3) (H := Y3) (c := c1) (d := c2) hN3 (fun _ _ => rfl) u h1 h2)
  clear p1 p2 p3 r1 r2 r3 h1 h2 h3
  have LB0 := Lib.hid (Below.refl w.heap.size w)
  have XX1 := Lib.hid (Box.new w W H (.slice A n c))
  have LB0 := Lib.hid (LB0.out.alloc LB0.out.size (.cells #[.int .i64 W, .int .i64 H, .slice A n c] 24))
  have XX1 := Lib.hid (XX1.out.alloc (.cells #[.int .i64 X, .int .i64 Y, .slice B m d] 24))
  have XX2 := Box.new (w.alloc (.cells #[.int .i64 W, .int .i64 H, .slice A n c] 24)) X Y (.slice B m d)
  rw [show ((w.alloc (.cells #[.int .i64 W, .int .i64 H, .slice A n c] 24))).heap.size = w.heap.size + 1 by simp] at XX2
  have XX2 := Lib.hid XX2
  have LB0 := Lib.hid (LB0.out.alloc LB0.out.size (.cells #[.int .i64 X, .int .i64 Y, .slice B m d] 24))
  have XX1 := Lib.hid (XX1.out.alloc (.cells #[.int .i64 U, .int .i64 V, .slice C k e] 24))
  have XX2 := Lib.hid (XX2.out.alloc (.cells #[.int .i64 U, .int .i64 V, .slice C k e] 24))
  have XX3 := Box.new ((w.alloc (.cells #[.int .i64 W, .int .i64 H, .slice A n c] 24)).alloc (.cells #[.int .i64 X, .int .i64 Y, .slice B m d] 24)) U V (.slice C k e)
  rw [show (((w.alloc (.cells #[.int .i64 W, .int .i64 H, .slice A n c] 24)).alloc (.cells #[.int .i64 X, .int .i64 Y, .slice B m d] 24))).heap.size = w.heap.size + 2 by simp] at XX3
  have XX3 := Lib.hid XX3
  have LB0 := Lib.hid (LB0.out.alloc LB0.out.size (.cells #[.int .i64 U, .int .i64 V, .slice C k e] 24))
  go_enter Try.func12, Try.ntmps12
  go_upto_region 1 with (fail)
  generalize ((w.alloc (.cells #[.int .i64 W, .int .i64 H, .slice A n c] 24)).alloc (.cells #[.int .i64 X, .int .i64 Y, .slice B m d] 24)).alloc (.cells #[.int .i64 U, .int .i64 V, .slice C k e] 24) = w0 at *
  obtain ⟨q0, q1, q2, q3, q4, q5, q6⟩ := XX1.out.all
  go_wp2_with fail
  clear q0 q1 q2 q3 q4 q5 q6
  with_reducible refine Calls.mono (HG0.out _) ?_
  rintro e w1 ⟨rfl, hb⟩
  have LB1 := Lib.hid (LB0.out.trans (hb.mono LB0.out.size))
  have XX1 := Lib.hid (XX1.out.below hb XX1.out.lt)
  have XX2 := Lib.hid (XX2.out.below hb XX2.out.lt)
  have XX3 := Lib.hid (XX3.out.below hb XX3.out.lt)
  clear hb LB0 
  obtain ⟨q0, q1, q2, q3, q4, q5, q6⟩ := XX2.out.all
  go_wp2_with fail
  clear q0 q1 q2 q3 q4 q5 q6
  with_reducible refine Calls.mono (HG1.out _) ?_
  rintro e w2 ⟨rfl, hb⟩
  have LB2 := Lib.hid (LB1.out.trans (hb.mono LB1.out.size))
  have XX1 := Lib.hid (XX1.out.below hb XX1.out.lt)
  have XX2 := Lib.hid (XX2.out.below hb XX2.out.lt)
  have XX3 := Lib.hid (XX3.out.below hb XX3.out.lt)
  clear hb LB1 
  obtain ⟨q0, q1, q2, q3, q4, q5, q6⟩ := XX3.out.all
  go_wp2_with fail
  clear q0 q1 q2 q3 q4 q5 q6
  with_reducible refine Calls.mono (HG2.out _) ?_
  rintro e w3 ⟨rfl, hb⟩
  have LB3 := Lib.hid (LB2.out.trans (hb.mono LB2.out.size))
  have XX1 := Lib.hid (XX1.out.below hb XX1.out.lt)
  have XX2 := Lib.hid (XX2.out.below hb XX2.out.lt)
  have XX3 := Lib.hid (XX3.out.below hb XX3.out.lt)
  clear hb LB2 
  obtain ⟨q0, q1, q2, q3, q4, q5, q6⟩ := XX1.out.all
  obtain ⟨q7, q8, q9, q10, q11, q12, q13⟩ := XX2.out.all
  obtain ⟨q14, q15, q16, q17, q18, q19, q20⟩ := XX3.out.all
  go_wp2_with fail
  clear q0 q1 q2 q3 q4 q5 q6 q7 q8 q9 q10 q11 q12 q13 q14 q15 q16 q17 q18 q19 q20
  with_reducible refine Calls.mono (P1.out _ LB3.out) ?_
  rintro e w4 ⟨A1, c1, rfl, hh, _, hb⟩
  have LB4 := Lib.hid (LB3.out.trans (hb.mono LB3.out.size))
  have XX1 := Lib.hid (XX1.out.below hb XX1.out.lt)
  have XX2 := Lib.hid (XX2.out.below hb XX2.out.lt)
  have XX3 := Lib.hid (XX3.out.below hb XX3.out.lt)
  have H1 := Lib.hid hh
  clear hb LB3 hh
  have hb := ((Below.refl w4.heap.size w4).alloc (by simp; try omega) (.cells #[.int .i64 X1, .int .i64 Y1, .slice A1 N1 c1] 24))
  have LB5 := Lib.hid (LB4.out.trans (hb.mono LB4.out.size))
  have XX1 := Lib.hid (XX1.out.below hb XX1.out.lt)
  have XX2 := Lib.hid (XX2.out.below hb XX2.out.lt)
  have XX3 := Lib.hid (XX3.out.below hb XX3.out.lt)
  have H1 := Lib.hid ((H1.out.below hb).more hb.size)
  have B1 := Box.new w4 X1 Y1 (.slice A1 N1 c1)
  have B1 := Lib.hid B1
  clear hb LB4
  go_upto_region 4 with (fail)
  obtain ⟨bb1, hbb1⟩ : ∃ z, w4.heap.size = z := ⟨_, rfl⟩
  rw [hbb1] at B1
  try rw [hbb1]
  clear hbb1
  generalize w4.alloc (.cells #[.int .i64 X1, .int .i64 Y1, .slice A1 N1 c1] 24) = w5 at *
  obtain ⟨q0, q1, q2, q3, q4, q5, q6⟩ := XX1.out.all
  obtain ⟨q7, q8, q9, q10, q11, q12, q13⟩ := XX2.out.all
  obtain ⟨q14, q15, q16, q17, q18, q19, q20⟩ := XX3.out.all
  go_wp2_with fail
  clear q0 q1 q2 q3 q4 q5 q6 q7 q8 q9 q10 q11 q12 q13 q14 q15 q16 q17 q18 q19 q20
  with_reducible refine Calls.mono (R1.out _ LB5.out) ?_
  rintro e w6 ⟨A2, c2, rfl, hh, _, hb⟩
  have LB6 := Lib.hid (LB5.out.trans (hb.mono LB5.out.size))
  have XX1 := Lib.hid (XX1.out.below hb XX1.out.lt)
  have XX2 := Lib.hid (XX2.out.below hb XX2.out.lt)
  have XX3 := Lib.hid (XX3.out.below hb XX3.out.lt)
  have H1 := Lib.hid ((H1.out.below hb).more hb.size)
  have B1 := Lib.hid (B1.out.below hb B1.out.lt)
  have H2 := Lib.hid hh
  clear hb LB5 hh
  have hb := ((Below.refl w6.heap.size w6).alloc (by simp; try omega) (.cells #[.int .i64 X1, .int .i64 Y1, .slice A2 N1 c2] 24))
  have LB7 := Lib.hid (LB6.out.trans (hb.mono LB6.out.size))
  have XX1 := Lib.hid (XX1.out.below hb XX1.out.lt)
  have XX2 := Lib.hid (XX2.out.below hb XX2.out.lt)
  have XX3 := Lib.hid (XX3.out.below hb XX3.out.lt)
  have H1 := Lib.hid ((H1.out.below hb).more hb.size)
  have B1 := Lib.hid (B1.out.below hb B1.out.lt)
  have H2 := Lib.hid ((H2.out.below hb).more hb.size)
  have B2 := Box.new w6 X1 Y1 (.slice A2 N1 c2)
  have B2 := Lib.hid B2
  clear hb LB6
  go_upto_region 5 with (fail)
  obtain ⟨bb2, hbb2⟩ : ∃ z, w6.heap.size = z := ⟨_, rfl⟩
  rw [hbb2] at B2
  try rw [hbb2]
  clear hbb2
  generalize w6.alloc (.cells #[.int .i64 X1, .int .i64 Y1, .slice A2 N1 c2] 24) = w7 at *
  obtain ⟨q0, q1, q2, q3, q4, q5, q6⟩ := XX1.out.all
  go_wp2_with fail
  clear q0 q1 q2 q3 q4 q5 q6
  with_reducible refine Calls.mono (P2.out _ LB7.out) ?_
  rintro e w8 ⟨A3, c3, rfl, hh, _, hb⟩
  have LB8 := Lib.hid (LB7.out.trans (hb.mono LB7.out.size))
  have XX1 := Lib.hid (XX1.out.below hb XX1.out.lt)
  have XX2 := Lib.hid (XX2.out.below hb XX2.out.lt)
  have XX3 := Lib.hid (XX3.out.below hb XX3.out.lt)
  have H1 := Lib.hid ((H1.out.below hb).more hb.size)
  have B1 := Lib.hid (B1.out.below hb B1.out.lt)
  have H2 := Lib.hid ((H2.out.below hb).more hb.size)
  have B2 := Lib.hid (B2.out.below hb B2.out.lt)
  have H3 := Lib.hid hh
  clear hb LB7 hh
  have hb := ((Below.refl w8.heap.size w8).alloc (by simp; try omega) (.cells #[.int .i64 X2, .int .i64 Y2, .slice A3 N2 c3] 24))
  have LB9 := Lib.hid (LB8.out.trans (hb.mono LB8.out.size))
  have XX1 := Lib.hid (XX1.out.below hb XX1.out.lt)
  have XX2 := Lib.hid (XX2.out.below hb XX2.out.lt)
  have XX3 := Lib.hid (XX3.out.below hb XX3.out.lt)
  have H1 := Lib.hid ((H1.out.below hb).more hb.size)
  have B1 := Lib.hid (B1.out.below hb B1.out.lt)
  have H2 := Lib.hid ((H2.out.below hb).more hb.size)
  have B2 := Lib.hid (B2.out.below hb B2.out.lt)
  have H3 := Lib.hid ((H3.out.below hb).more hb.size)
  have B3 := Box.new w8 X2 Y2 (.slice A3 N2 c3)
  have B3 := Lib.hid B3
  clear hb LB8
  go_upto_region 6 with (fail)
  obtain ⟨bb3, hbb3⟩ : ∃ z, w8.heap.size = z := ⟨_, rfl⟩
  rw [hbb3] at B3
  try rw [hbb3]
  clear hbb3
  generalize w8.alloc (.cells #[.int .i64 X2, .int .i64 Y2, .slice A3 N2 c3] 24) = w9 at *
  obtain ⟨q0, q1, q2, q3, q4, q5, q6⟩ := XX1.out.all
  go_wp2_with fail
  clear q0 q1 q2 q3 q4 q5 q6
  with_reducible refine Calls.mono (R2.out _ LB9.out) ?_
  rintro e w10 ⟨A4, c4, rfl, hh, _, hb⟩
  have LB10 := Lib.hid (LB9.out.trans (hb.mono LB9.out.size))
  have XX1 := Lib.hid (XX1.out.below hb XX1.out.lt)
  have XX2 := Lib.hid (XX2.out.below hb XX2.out.lt)
  have XX3 := Lib.hid (XX3.out.below hb XX3.out.lt)
  have H1 := Lib.hid ((H1.out.below hb).more hb.size)
  have B1 := Lib.hid (B1.out.below hb B1.out.lt)
  have H2 := Lib.hid ((H2.out.below hb).more hb.size)
  have B2 := Lib.hid (B2.out.below hb B2.out.lt)
  have H3 := Lib.hid ((H3.out.below hb).more hb.size)
  have B3 := Lib.hid (B3.out.below hb B3.out.lt)
  have H4 := Lib.hid hh
  clear hb LB9 hh
  have hb := ((Below.refl w10.heap.size w10).alloc (by simp; try omega) (.cells #[.int .i64 X2, .int .i64 Y2, .slice A4 N2 c4] 24))
  have LB11 := Lib.hid (LB10.out.trans (hb.mono LB10.out.size))
  have XX1 := Lib.hid (XX1.out.below hb XX1.out.lt)
  have XX2 := Lib.hid (XX2.out.below hb XX2.out.lt)
  have XX3 := Lib.hid (XX3.out.below hb XX3.out.lt)
  have H1 := Lib.hid ((H1.out.below hb).more hb.size)
  have B1 := Lib.hid (B1.out.below hb B1.out.lt)
  have H2 := Lib.hid ((H2.out.below hb).more hb.size)
  have B2 := Lib.hid (B2.out.below hb B2.out.lt)
  have H3 := Lib.hid ((H3.out.below hb).more hb.size)
  have B3 := Lib.hid (B3.out.below hb B3.out.lt)
  have H4 := Lib.hid ((H4.out.below hb).more hb.size)
  have B4 := Box.new w10 X2 Y2 (.slice A4 N2 c4)
  have B4 := Lib.hid B4
  clear hb LB10
  go_upto_region 7 with (fail)
  obtain ⟨bb4, hbb4⟩ : ∃ z, w10.heap.size = z := ⟨_, rfl⟩
  rw [hbb4] at B4
  try rw [hbb4]
  clear hbb4
  generalize w10.alloc (.cells #[.int .i64 X2, .int .i64 Y2, .slice A4 N2 c4] 24) = w11 at *
  obtain ⟨q0, q1, q2, q3, q4, q5, q6⟩ := XX1.out.all
  go_wp2_with fail
  clear q0 q1 q2 q3 q4 q5 q6
  with_reducible refine Calls.mono (P3.out _ LB11.out) ?_
  rintro e w12 ⟨A5, c5, rfl, hh, _, hb⟩
  have LB12 := Lib.hid (LB11.out.trans (hb.mono LB11.out.size))
  have XX1 := Lib.hid (XX1.out.below hb XX1.out.lt)
  have XX2 := Lib.hid (XX2.out.below hb XX2.out.lt)
  have XX3 := Lib.hid (XX3.out.below hb XX3.out.lt)
  have H1 := Lib.hid ((H1.out.below hb).more hb.size)
  have B1 := Lib.hid (B1.out.below hb B1.out.lt)
  have H2 := Lib.hid ((H2.out.below hb).more hb.size)
  have B2 := Lib.hid (B2.out.below hb B2.out.lt)
  have H3 := Lib.hid ((H3.out.below hb).more hb.size)
  have B3 := Lib.hid (B3.out.below hb B3.out.lt)
  have H4 := Lib.hid ((H4.out.below hb).more hb.size)
  have B4 := Lib.hid (B4.out.below hb B4.out.lt)
  have H5 := Lib.hid hh
  clear hb LB11 hh
  have hb := ((Below.refl w12.heap.size w12).alloc (by simp; try omega) (.cells #[.int .i64 X3, .int .i64 Y3, .slice A5 N3 c5] 24))
  have LB13 := Lib.hid (LB12.out.trans (hb.mono LB12.out.size))
  have XX1 := Lib.hid (XX1.out.below hb XX1.out.lt)
  have XX2 := Lib.hid (XX2.out.below hb XX2.out.lt)
  have XX3 := Lib.hid (XX3.out.below hb XX3.out.lt)
  have H1 := Lib.hid ((H1.out.below hb).more hb.size)
  have B1 := Lib.hid (B1.out.below hb B1.out.lt)
  have H2 := Lib.hid ((H2.out.below hb).more hb.size)
  have B2 := Lib.hid (B2.out.below hb B2.out.lt)
  have H3 := Lib.hid ((H3.out.below hb).more hb.size)
  have B3 := Lib.hid (B3.out.below hb B3.out.lt)
  have H4 := Lib.hid ((H4.out.below hb).more hb.size)
  have B4 := Lib.hid (B4.out.below hb B4.out.lt)
  have H5 := Lib.hid ((H5.out.below hb).more hb.size)
  have B5 := Box.new w12 X3 Y3 (.slice A5 N3 c5)
  have B5 := Lib.hid B5
  clear hb LB12
  go_upto_region 8 with (fail)
  obtain ⟨bb5, hbb5⟩ : ∃ z, w12.heap.size = z := ⟨_, rfl⟩
  rw [hbb5] at B5
  try rw [hbb5]
  clear hbb5
  generalize w12.alloc (.cells #[.int .i64 X3, .int .i64 Y3, .slice A5 N3 c5] 24) = w13 at *
  obtain ⟨q0, q1, q2, q3, q4, q5, q6⟩ := XX1.out.all
  go_wp2_with fail
  clear q0 q1 q2 q3 q4 q5 q6
  with_reducible refine Calls.mono (R3.out _ LB13.out) ?_
  rintro e w14 ⟨A6, c6, rfl, hh, _, hb⟩
  have LB14 := Lib.hid (LB13.out.trans (hb.mono LB13.out.size))
  have XX1 := Lib.hid (XX1.out.below hb XX1.out.lt)
  have XX2 := Lib.hid (XX2.out.below hb XX2.out.lt)
  have XX3 := Lib.hid (XX3.out.below hb XX3.out.lt)
  have H1 := Lib.hid ((H1.out.below hb).more hb.size)
  have B1 := Lib.hid (B1.out.below hb B1.out.lt)
  have H2 := Lib.hid ((H2.out.below hb).more hb.size)
  have B2 := Lib.hid (B2.out.below hb B2.out.lt)
  have H3 := Lib.hid ((H3.out.below hb).more hb.size)
  have B3 := Lib.hid (B3.out.below hb B3.out.lt)
  have H4 := Lib.hid ((H4.out.below hb).more hb.size)
  have B4 := Lib.hid (B4.out.below hb B4.out.lt)
  have H5 := Lib.hid ((H5.out.below hb).more hb.size)
  have B5 := Lib.hid (B5.out.below hb B5.out.lt)
  have H6 := Lib.hid hh
  clear hb LB13 hh
  have hb := ((Below.refl w14.heap.size w14).alloc (by simp; try omega) (.cells #[.int .i64 X3, .int .i64 Y3, .slice A6 N3 c6] 24))
  have LB15 := Lib.hid (LB14.out.trans (hb.mono LB14.out.size))
  have XX1 := Lib.hid (XX1.out.below hb XX1.out.lt)
  have XX2 := Lib.hid (XX2.out.below hb XX2.out.lt)
  have XX3 := Lib.hid (XX3.out.below hb XX3.out.lt)
  have H1 := Lib.hid ((H1.out.below hb).more hb.size)
  have B1 := Lib.hid (B1.out.below hb B1.out.lt)
  have H2 := Lib.hid ((H2.out.below hb).more hb.size)
  have B2 := Lib.hid (B2.out.below hb B2.out.lt)
  have H3 := Lib.hid ((H3.out.below hb).more hb.size)
  have B3 := Lib.hid (B3.out.below hb B3.out.lt)
  have H4 := Lib.hid ((H4.out.below hb).more hb.size)
  have B4 := Lib.hid (B4.out.below hb B4.out.lt)
  have H5 := Lib.hid ((H5.out.below hb).more hb.size)
  have B5 := Lib.hid (B5.out.below hb B5.out.lt)
  have H6 := Lib.hid ((H6.out.below hb).more hb.size)
  have B6 := Box.new w14 X3 Y3 (.slice A6 N3 c6)
  have B6 := Lib.hid B6
  clear hb LB14
  go_upto_region 9 with (fail)
  obtain ⟨bb6, hbb6⟩ : ∃ z, w14.heap.size = z := ⟨_, rfl⟩
  rw [hbb6] at B6
  try rw [hbb6]
  clear hbb6
  generalize w14.alloc (.cells #[.int .i64 X3, .int .i64 Y3, .slice A6 N3 c6] 24) = w15 at *
  obtain ⟨q0, q1, q2, q3, q4, q5, q6⟩ := B1.out.all
  obtain ⟨q7, q8, q9, q10, q11, q12, q13⟩ := B2.out.all
  go_wp2_with fail
  clear q0 q1 q2 q3 q4 q5 q6 q7 q8 q9 q10 q11 q12 q13
  with_reducible refine Calls.mono (HS1.out _ _ _ _ _ H1.out H2.out) ?_
  rintro e w16 ⟨rfl, hb⟩
  have LB16 := Lib.hid (LB15.out.trans (hb.mono LB15.out.size))
  have XX1 := Lib.hid (XX1.out.below hb XX1.out.lt)
  have XX2 := Lib.hid (XX2.out.below hb XX2.out.lt)
  have XX3 := Lib.hid (XX3.out.below hb XX3.out.lt)
  have H1 := Lib.hid ((H1.out.below hb).more hb.size)
  have B1 := Lib.hid (B1.out.below hb B1.out.lt)
  have H2 := Lib.hid ((H2.out.below hb).more hb.size)
  have B2 := Lib.hid (B2.out.below hb B2.out.lt)
  have H3 := Lib.hid ((H3.out.below hb).more hb.size)
  have B3 := Lib.hid (B3.out.below hb B3.out.lt)
  have H4 := Lib.hid ((H4.out.below hb).more hb.size)
  have B4 := Lib.hid (B4.out.below hb B4.out.lt)
  have H5 := Lib.hid ((H5.out.below hb).more hb.size)
  have B5 := Lib.hid (B5.out.below hb B5.out.lt)
  have H6 := Lib.hid ((H6.out.below hb).more hb.size)
  have B6 := Lib.hid (B6.out.below hb B6.out.lt)
  clear hb LB15 
  obtain ⟨q0, q1, q2, q3, q4, q5, q6⟩ := B3.out.all
  obtain ⟨q7, q8, q9, q10, q11, q12, q13⟩ := B4.out.all
  go_wp2_with fail
  clear q0 q1 q2 q3 q4 q5 q6 q7 q8 q9 q10 q11 q12 q13
  with_reducible refine Calls.mono (HS2.out _ _ _ _ _ H3.out H4.out) ?_
  rintro e w17 ⟨rfl, hb⟩
  have LB17 := Lib.hid (LB16.out.trans (hb.mono LB16.out.size))
  have XX1 := Lib.hid (XX1.out.below hb XX1.out.lt)
  have XX2 := Lib.hid (XX2.out.below hb XX2.out.lt)
  have XX3 := Lib.hid (XX3.out.below hb XX3.out.lt)
  have H1 := Lib.hid ((H1.out.below hb).more hb.size)
  have B1 := Lib.hid (B1.out.below hb B1.out.lt)
  have H2 := Lib.hid ((H2.out.below hb).more hb.size)
  have B2 := Lib.hid (B2.out.below hb B2.out.lt)
  have H3 := Lib.hid ((H3.out.below hb).more hb.size)
  have B3 := Lib.hid (B3.out.below hb B3.out.lt)
  have H4 := Lib.hid ((H4.out.below hb).more hb.size)
  have B4 := Lib.hid (B4.out.below hb B4.out.lt)
  have H5 := Lib.hid ((H5.out.below hb).more hb.size)
  have B5 := Lib.hid (B5.out.below hb B5.out.lt)
  have H6 := Lib.hid ((H6.out.below hb).more hb.size)
  have B6 := Lib.hid (B6.out.below hb B6.out.lt)
  clear hb LB16 
  obtain ⟨q0, q1, q2, q3, q4, q5, q6⟩ := B5.out.all
  obtain ⟨q7, q8, q9, q10, q11, q12, q13⟩ := B6.out.all
  go_wp2_with fail
  clear q0 q1 q2 q3 q4 q5 q6 q7 q8 q9 q10 q11 q12 q13
  with_reducible refine Calls.mono (HS3.out _ _ _ _ _ H5.out H6.out) ?_
  rintro e w18 ⟨rfl, hb⟩
  have LB18 := Lib.hid (LB17.out.trans (hb.mono LB17.out.size))
  have XX1 := Lib.hid (XX1.out.below hb XX1.out.lt)
  have XX2 := Lib.hid (XX2.out.below hb XX2.out.lt)
  have XX3 := Lib.hid (XX3.out.below hb XX3.out.lt)
  have H1 := Lib.hid ((H1.out.below hb).more hb.size)
  have B1 := Lib.hid (B1.out.below hb B1.out.lt)
  have H2 := Lib.hid ((H2.out.below hb).more hb.size)
  have B2 := Lib.hid (B2.out.below hb B2.out.lt)
  have H3 := Lib.hid ((H3.out.below hb).more hb.size)
  have B3 := Lib.hid (B3.out.below hb B3.out.lt)
  have H4 := Lib.hid ((H4.out.below hb).more hb.size)
  have B4 := Lib.hid (B4.out.below hb B4.out.lt)
  have H5 := Lib.hid ((H5.out.below hb).more hb.size)
  have B5 := Lib.hid (B5.out.below hb B5.out.lt)
  have H6 := Lib.hid ((H6.out.below hb).more hb.size)
  have B6 := Lib.hid (B6.out.below hb B6.out.lt)
  clear hb LB17 
  go_wp2
  go_ret
  exact ⟨rfl, LB18.out⟩
theorem faces12_any (W H X Y U V : Int) (A B C : Option Addr) (n c m d k e : Nat) (a b mo : Nat → Bool) (w : World) (ha : Holds w w.heap.size A n a) (hb : Holds w w.heap.size B m b) (hm : Holds w w.heap.size C k mo) : Calls Try.prog 12 #[.agg #[.int .i64 W, .int .i64 H, .slice A n c], .agg #[.int .i64 X, .int .i64 Y, .slice B m d], .agg #[.int .i64 U, .int .i64 V, .slice C k e]] w fun e w' => e = .returned (.bool true) ∧ Below w.heap.size w w' := by
  by_cases g1 : 1100 < n
  · exact faces_great0 W H X Y U V A B C n c m d k e g1 w
  · by_cases g2 : 1100 < m
    · exact faces_great1 W H X Y U V A B C n c m d k e (by omega) g2 w
    · by_cases g3 : 1100 < k
      · exact faces_great2 W H X Y U V A B C n c m d k e (by omega) (by omega) g3 w
      · obtain ⟨X1, Y1, N1, F1, z1, n1, p1, r1⟩ := face_pair W H X Y U V A B C n c m d k e a b mo w (by omega) (by omega) (by omega) ha hb hm
        obtain ⟨X2, Y2, N2, F2, z2, n2, p2, r2⟩ := backw_pair W H A n c a w (by omega) ha
        obtain ⟨X3, Y3, N3, F3, z3, n3, p3, r3⟩ := tube_pair W H A n c a w (by omega) ha
        exact faces_core W H X Y U V A B C n c m d k e w (by omega) (by omega) (by omega) X1 Y1 X2 Y2 X3 Y3 N1 N2 N3 F1 F2 F3 z1 z2 z3 n1 n2 n3 p1 r1 p2 r2 p3 r3
end Go.Proofs.Ytgmcbdnfgdmmaaa
