/- Layer 13 of the reference: Units, the errors. -/
import Derived.Test.YtngjcekjboedjaaKuo
import Derived.Test.YtngjcekjboedjaaKrp
namespace Go.Proofs.Ytngjcekjboedjaa
open Go.RowKit
set_option maxRecDepth 100000
set_option linter.unusedVariables false
set_option linter.unusedSimpArgs false

set_option maxHeartbeats 800000 in
theorem runits_err {W H : Int} {N : Nat} {A : Option Addr} {c : Nat} (x y : Int) (wd ht : Int) (n : Nat) (F : Nat → Nat → Bool) (p : Nat → Nat) (w : World) (hN : N ≤ 4200) (z : Int) (hz : chk W H N = z) (hne : z ≠ 0) :
    Calls Try.prog 52 #[.agg #[.int .i64 W, .int .i64 H, .slice A N c], .int .i64 x, .int .i64 y] w (UR w wd ht n F 0 0 p z) := by
  have HK := Lib.hid (fun u => rchk_err (A := A) (c := c) hN hz u)
  have y1 : (z != 0) = true := by rw [bne_iff_ne]; exact hne
  clear hz hne
  have LB0 := Lib.hid (Below.refl w.heap.size w)
  have X1 := Lib.hid (Box.new w W H (.slice A N c))
  have LB0 := Lib.hid (LB0.out.alloc LB0.out.size (.cells #[.int .i64 W, .int .i64 H, .slice A N c] 24))
  go_enter Try.func52, Try.ntmps52
  go_upto_region 1 with (fail)
  generalize w.alloc (.cells #[.int .i64 W, .int .i64 H, .slice A N c] 24) = w0 at *
  obtain ⟨q0, q1, q2, q3, q4, q5, q6⟩ := X1.out.all
  go_wp2_with fail
  clear q0 q1 q2 q3 q4 q5 q6
  with_reducible refine Calls.mono (HK.out _) ?_
  rintro e w1 ⟨rfl, hb⟩
  have LB1 := Lib.hid (LB0.out.trans (hb.mono LB0.out.size))
  have X1 := Lib.hid (X1.out.below hb X1.out.lt)
  clear hb LB0 
  obtain ⟨q0, q1, q2, q3, q4, q5, q6⟩ := X1.out.all
  go_wp2_with fail
  clear q0 q1 q2 q3 q4 q5 q6
  with_reducible refine Calls.mono (HK.out _) ?_
  rintro e w2 ⟨rfl, hb⟩
  have LB2 := Lib.hid (LB1.out.trans (hb.mono LB1.out.size))
  have X1 := Lib.hid (X1.out.below hb X1.out.lt)
  clear hb LB1 
  obtain ⟨q0, q1, q2, q3, q4, q5, q6⟩ := X1.out.all
  go_wp2
  refine bodyPost_ret (v := .tuple #[.slice none 0 0, .slice none 0 0, .int .i64 z]) (by simp [results, Try.results52, go_sem]) rfl ?_
  exact UR.nil LB2.out
set_option maxHeartbeats 800000 in
theorem runits_c1 {W H : Nat} {A : Option Addr} {c : Nat} (x y : Int) (wd ht : Int) (n : Nat) (F : Nat → Nat → Bool) (p : Nat → Nat) (w : World) (hW0 : 1 ≤ W) (hW : W ≤ 64) (hH0 : 1 ≤ H) (hH : H ≤ 64) (h1 : x < 1) :
    Calls Try.prog 52 #[.agg #[.int .i64 (W : Nat), .int .i64 (H : Nat), .slice A (W * H) c], .int .i64 x, .int .i64 y] w (UR w wd ht n F 0 0 p 26) := by
  have HK := Lib.hid (fun u => rchk_valid A c u hW0 hW hH0 hH)
  have y1 : ((0 : Int) != 0) = false := rfl
  generalize W * H = M at *
  have y2 : decide (x < 1) = true := decide_eq_true h1
  have LB0 := Lib.hid (Below.refl w.heap.size w)
  have X1 := Lib.hid (Box.new w (W : Nat) (H : Nat) (.slice A M c))
  have LB0 := Lib.hid (LB0.out.alloc LB0.out.size (.cells #[.int .i64 (W : Nat), .int .i64 (H : Nat), .slice A M c] 24))
  go_enter Try.func52, Try.ntmps52
  go_upto_region 1 with (fail)
  generalize w.alloc (.cells #[.int .i64 (W : Nat), .int .i64 (H : Nat), .slice A M c] 24) = w0 at *
  obtain ⟨q0, q1, q2, q3, q4, q5, q6⟩ := X1.out.all
  go_wp2_with fail
  clear q0 q1 q2 q3 q4 q5 q6
  with_reducible refine Calls.mono (HK.out _) ?_
  rintro e w1 ⟨rfl, hb⟩
  have LB1 := Lib.hid (LB0.out.trans (hb.mono LB0.out.size))
  have X1 := Lib.hid (X1.out.below hb X1.out.lt)
  clear hb LB0 
  obtain ⟨q0, q1, q2, q3, q4, q5, q6⟩ := X1.out.all
  go_wp2
  refine bodyPost_ret (v := .tuple #[.slice none 0 0, .slice none 0 0, .int .i64 26]) (by simp [results, Try.results52, go_sem]) rfl ?_
  exact UR.nil LB1.out
set_option maxHeartbeats 800000 in
theorem runits_c2 {W H : Nat} {A : Option Addr} {c : Nat} (x y : Int) (wd ht : Int) (n : Nat) (F : Nat → Nat → Bool) (p : Nat → Nat) (w : World) (hW0 : 1 ≤ W) (hW : W ≤ 64) (hH0 : 1 ≤ H) (hH : H ≤ 64) (h1 : ¬ x < 1) (h2 : y < 1) :
    Calls Try.prog 52 #[.agg #[.int .i64 (W : Nat), .int .i64 (H : Nat), .slice A (W * H) c], .int .i64 x, .int .i64 y] w (UR w wd ht n F 0 0 p 26) := by
  have HK := Lib.hid (fun u => rchk_valid A c u hW0 hW hH0 hH)
  have y1 : ((0 : Int) != 0) = false := rfl
  generalize W * H = M at *
  have y2 : decide (x < 1) = false := decide_eq_false h1
  have y3 : decide (y < 1) = true := decide_eq_true h2
  have LB0 := Lib.hid (Below.refl w.heap.size w)
  have X1 := Lib.hid (Box.new w (W : Nat) (H : Nat) (.slice A M c))
  have LB0 := Lib.hid (LB0.out.alloc LB0.out.size (.cells #[.int .i64 (W : Nat), .int .i64 (H : Nat), .slice A M c] 24))
  go_enter Try.func52, Try.ntmps52
  go_upto_region 1 with (fail)
  generalize w.alloc (.cells #[.int .i64 (W : Nat), .int .i64 (H : Nat), .slice A M c] 24) = w0 at *
  obtain ⟨q0, q1, q2, q3, q4, q5, q6⟩ := X1.out.all
  go_wp2_with fail
  clear q0 q1 q2 q3 q4 q5 q6
  with_reducible refine Calls.mono (HK.out _) ?_
  rintro e w1 ⟨rfl, hb⟩
  have LB1 := Lib.hid (LB0.out.trans (hb.mono LB0.out.size))
  have X1 := Lib.hid (X1.out.below hb X1.out.lt)
  clear hb LB0 
  obtain ⟨q0, q1, q2, q3, q4, q5, q6⟩ := X1.out.all
  go_wp2
  refine bodyPost_ret (v := .tuple #[.slice none 0 0, .slice none 0 0, .int .i64 26]) (by simp [results, Try.results52, go_sem]) rfl ?_
  exact UR.nil LB1.out
set_option maxHeartbeats 800000 in
theorem runits_c3 {W H : Nat} {A : Option Addr} {c : Nat} (x y : Int) (wd ht : Int) (n : Nat) (F : Nat → Nat → Bool) (p : Nat → Nat) (w : World) (hW0 : 1 ≤ W) (hW : W ≤ 64) (hH0 : 1 ≤ H) (hH : H ≤ 64) (h1 : ¬ x < 1) (h2 : ¬ y < 1) (h3 : (W : Int) % x ≠ 0) :
    Calls Try.prog 52 #[.agg #[.int .i64 (W : Nat), .int .i64 (H : Nat), .slice A (W * H) c], .int .i64 x, .int .i64 y] w (UR w wd ht n F 0 0 p 26) := by
  have HK := Lib.hid (fun u => rchk_valid A c u hW0 hW hH0 hH)
  have y1 : ((0 : Int) != 0) = false := rfl
  generalize W * H = M at *
  have y2 : decide (x < 1) = false := decide_eq_false h1
  have y3 : decide (y < 1) = false := decide_eq_false h2
  have y5a : ((W : Nat) : Int).tmod x = ((W : Nat) : Int) % x := Int.tmod_eq_emod_of_nonneg (by omega)
  have y6a : ((((W : Nat) : Int) % x) != 0) = true := by rw [bne_iff_ne]; exact h3
  have y7a : ¬ x = 0 := by omega
  have y4a : (x == 0) = false := by rw [beq_eq_false_iff_ne]; omega
  have y8a : 0 ≤ ((W : Nat) : Int) % x := Int.emod_nonneg _ y7a
  have y9a : ((W : Nat) : Int) % x < 100001 := by
    have a1 := Int.mul_ediv_add_emod (W : Int) x
    have a2 : 0 ≤ (W : Int) / x := Int.ediv_nonneg (by omega) (by omega)
    have a3 : 0 ≤ x * ((W : Int) / x) := Int.mul_nonneg (by omega) a2
    omega
  have LB0 := Lib.hid (Below.refl w.heap.size w)
  have X1 := Lib.hid (Box.new w (W : Nat) (H : Nat) (.slice A M c))
  have LB0 := Lib.hid (LB0.out.alloc LB0.out.size (.cells #[.int .i64 (W : Nat), .int .i64 (H : Nat), .slice A M c] 24))
  go_enter Try.func52, Try.ntmps52
  go_upto_region 1 with (fail)
  generalize w.alloc (.cells #[.int .i64 (W : Nat), .int .i64 (H : Nat), .slice A M c] 24) = w0 at *
  obtain ⟨q0, q1, q2, q3, q4, q5, q6⟩ := X1.out.all
  go_wp2_with fail
  clear q0 q1 q2 q3 q4 q5 q6
  with_reducible refine Calls.mono (HK.out _) ?_
  rintro e w1 ⟨rfl, hb⟩
  have LB1 := Lib.hid (LB0.out.trans (hb.mono LB0.out.size))
  have X1 := Lib.hid (X1.out.below hb X1.out.lt)
  clear hb LB0 
  obtain ⟨q0, q1, q2, q3, q4, q5, q6⟩ := X1.out.all
  go_wp2
  refine bodyPost_ret (v := .tuple #[.slice none 0 0, .slice none 0 0, .int .i64 26]) (by simp [results, Try.results52, go_sem]) rfl ?_
  exact UR.nil LB1.out
set_option maxHeartbeats 800000 in
theorem runits_c4 {W H : Nat} {A : Option Addr} {c : Nat} (x y : Int) (wd ht : Int) (n : Nat) (F : Nat → Nat → Bool) (p : Nat → Nat) (w : World) (hW0 : 1 ≤ W) (hW : W ≤ 64) (hH0 : 1 ≤ H) (hH : H ≤ 64) (h1 : ¬ x < 1) (h2 : ¬ y < 1) (h3 : (W : Int) % x = 0) (h4 : (H : Int) % y ≠ 0) :
    Calls Try.prog 52 #[.agg #[.int .i64 (W : Nat), .int .i64 (H : Nat), .slice A (W * H) c], .int .i64 x, .int .i64 y] w (UR w wd ht n F 0 0 p 26) := by
  have HK := Lib.hid (fun u => rchk_valid A c u hW0 hW hH0 hH)
  have y1 : ((0 : Int) != 0) = false := rfl
  generalize W * H = M at *
  have y2 : decide (x < 1) = false := decide_eq_false h1
  have y3 : decide (y < 1) = false := decide_eq_false h2
  have y5a : ((W : Nat) : Int).tmod x = ((W : Nat) : Int) % x := Int.tmod_eq_emod_of_nonneg (by omega)
  have y6a : ((((W : Nat) : Int) % x) != 0) = false := by rw [h3]; rfl
  have y7a : ¬ x = 0 := by omega
  have y4a : (x == 0) = false := by rw [beq_eq_false_iff_ne]; omega
  have y8a : 0 ≤ ((W : Nat) : Int) % x := Int.emod_nonneg _ y7a
  have y9a : ((W : Nat) : Int) % x < 100001 := by
    have a1 := Int.mul_ediv_add_emod (W : Int) x
    have a2 : 0 ≤ (W : Int) / x := Int.ediv_nonneg (by omega) (by omega)
    have a3 : 0 ≤ x * ((W : Int) / x) := Int.mul_nonneg (by omega) a2
    omega
  have y5b : ((H : Nat) : Int).tmod y = ((H : Nat) : Int) % y := Int.tmod_eq_emod_of_nonneg (by omega)
  have y6b : ((((H : Nat) : Int) % y) != 0) = true := by rw [bne_iff_ne]; exact h4
  have y7b : ¬ y = 0 := by omega
  have y4b : (y == 0) = false := by rw [beq_eq_false_iff_ne]; omega
  have y8b : 0 ≤ ((H : Nat) : Int) % y := Int.emod_nonneg _ y7b
  have y9b : ((H : Nat) : Int) % y < 100001 := by
    have a1 := Int.mul_ediv_add_emod (H : Int) y
    have a2 : 0 ≤ (H : Int) / y := Int.ediv_nonneg (by omega) (by omega)
    have a3 : 0 ≤ y * ((H : Int) / y) := Int.mul_nonneg (by omega) a2
    omega
  have LB0 := Lib.hid (Below.refl w.heap.size w)
  have X1 := Lib.hid (Box.new w (W : Nat) (H : Nat) (.slice A M c))
  have LB0 := Lib.hid (LB0.out.alloc LB0.out.size (.cells #[.int .i64 (W : Nat), .int .i64 (H : Nat), .slice A M c] 24))
  go_enter Try.func52, Try.ntmps52
  go_upto_region 1 with (fail)
  generalize w.alloc (.cells #[.int .i64 (W : Nat), .int .i64 (H : Nat), .slice A M c] 24) = w0 at *
  obtain ⟨q0, q1, q2, q3, q4, q5, q6⟩ := X1.out.all
  go_wp2_with fail
  clear q0 q1 q2 q3 q4 q5 q6
  with_reducible refine Calls.mono (HK.out _) ?_
  rintro e w1 ⟨rfl, hb⟩
  have LB1 := Lib.hid (LB0.out.trans (hb.mono LB0.out.size))
  have X1 := Lib.hid (X1.out.below hb X1.out.lt)
  clear hb LB0 
  obtain ⟨q0, q1, q2, q3, q4, q5, q6⟩ := X1.out.all
  go_wp2
  refine bodyPost_ret (v := .tuple #[.slice none 0 0, .slice none 0 0, .int .i64 26]) (by simp [results, Try.results52, go_sem]) rfl ?_
  exact UR.nil LB1.out
end Go.Proofs.Ytngjcekjboedjaa
