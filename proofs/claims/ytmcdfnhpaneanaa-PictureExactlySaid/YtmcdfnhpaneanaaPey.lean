/- PictureExactly: the walk. -/
import Derived.Test.YtmcdfnhpaneanaaPex
import Derived.BigQuiet
namespace Go.Proofs.Ytmcdfnhpaneanaa
open Go.RowKit
set_option maxRecDepth 100000
set_option linter.unusedVariables false
set_option linter.unusedSimpArgs false

set_option maxHeartbeats 1600000 in
theorem exactly_imp (W H : Nat) (A B C D : Option Addr) (c d e g : Nat) (f a b : Nat → Int) (s : Nat → Bool) (w : World) (hf : L2.Holds w w.heap.size A (W * H) f) (ha : L2.Holds w w.heap.size B W a) (hb1 : L2.Holds w w.heap.size C H b) (hg : Holds w w.heap.size D (W * H) s) (W0 : 1 ≤ W) (W1 : W ≤ 64) (H0 : 1 ≤ H) (H1 : H ≤ 64) (h1 : fine (W * H) f = true) (h2 : fine W a = true) (h3 : fine H b = true) (hA : ¬ AllF W (W * H) f a b) :
    Calls Try.prog 6 #[.agg #[.int .i64 (W : Nat), .int .i64 (H : Nat), .slice A (W * H) c], .slice B W d, .slice C H e, .agg #[.int .i64 (W : Nat), .int .i64 (H : Nat), .slice D (W * H) g]] w fun e w' => e = .returned (.bool true) ∧ Below w.heap.size w w' := by
  have hM : W * H ≤ 4096 := Nat.mul_le_mul W1 H1
  have HG := Lib.hid (fun u => igreat_any (W : Nat) (H : Nat) A (W * H) c u)
  rw [decide_eq_false (by omega)] at HG
  have HC := Lib.hid (fun u (hb : Below w.heap.size w u) => rpc_any (W : Nat) (H : Nat) A B C (W * H) c W d H e f a b u ((hf.below hb).more hb.size) ((ha.below hb).more hb.size) ((hb1.below hb).more hb.size))
  rw [pcE_ok (m := 0) (k := 0) W0 W1 H0 H1 h1 h2 h3] at HC
  have HK := Lib.hid (fun u A2 c2 => rchk_all (W : Nat) (H : Nat) A2 (W * H) c2 u)
  rw [chk_zero W0 W1 H0 H1] at HK
  have z0 : ((0 : Int) != 0) = false := rfl
  have yw : ((W : Int) != (W : Int)) = false := by simp
  have yh : ((H : Int) != (H : Int)) = false := by simp
  have HS := Lib.hid (fun u (hb : Below w.heap.size w u) => shows_ok D g s W H A B C c d e f a b u ((hf.below hb).more hb.size) ((ha.below hb).more hb.size) ((hb1.below hb).more hb.size) W0 W1 H0 H1 h1 h2 h3 ((hg.below hb).more hb.size))
  rw [ex_not hA] at HS
  have HCE := Lib.hid (fun u (hb : Below w.heap.size w u) => (cells_ok W H A B C c d e f a b u ((hf.below hb).more hb.size) ((ha.below hb).more hb.size) ((hb1.below hb).more hb.size) W0 W1 H0 H1 h1 h2 h3).mono fun e w' h => (show e = .returned (.tuple #[.agg #[.int .i64 0, .int .i64 0, .slice none 0 0], .agg #[.int .i64 0, .int .i64 0, .slice none 0 0], .int .i64 6]) ∧ Below u.heap.size u w' from h.elim (fun ⟨_, _, _, _, _, q, _⟩ => absurd q hA) (fun q => ⟨q.1, q.2.2⟩)))
  have HWE := Lib.hid (fun u (hb : Below w.heap.size w u) => (weave_ok D g s W H A B C c d e f a b u ((hf.below hb).more hb.size) ((ha.below hb).more hb.size) ((hb1.below hb).more hb.size) W0 W1 H0 H1 h1 h2 h3 ((hg.below hb).more hb.size)).mono fun e w' h => (show e = .returned (.tuple #[.agg #[.int .i64 0, .int .i64 0, .slice none 0 0], .int .i64 6]) ∧ Below u.heap.size u w' from h.elim (fun ⟨_, _, _, q, _⟩ => absurd q hA) (fun q => ⟨q.1, q.2.2⟩)))
  clear hf ha hb1 h1 h2 h3
  obtain ⟨M, hMe⟩ : ∃ M, W * H = M := ⟨_, rfl⟩
  rw [hMe] at HG HC HK HS HCE HWE hM ⊢
  clear hMe hg hA
  have LB0 := Lib.hid (Below.refl w.heap.size w)
  have X1 := IBox.new w (W : Nat) (H : Nat) (.slice A M c)
  have X1 := Lib.hid X1
  have LB0 := Lib.hid (LB0.out.alloc LB0.out.size (.cells #[.int .i64 (W : Nat), .int .i64 (H : Nat), .slice A M c] 24))
  have X1 := Lib.hid (X1.out.alloc (.cells #[.int .i64 (W : Nat), .int .i64 (H : Nat), .slice D M g] 27))
  have X2 := Box.new (w.alloc (.cells #[.int .i64 (W : Nat), .int .i64 (H : Nat), .slice A M c] 24)) (W : Nat) (H : Nat) (.slice D M g)
  rw [show ((w.alloc (.cells #[.int .i64 (W : Nat), .int .i64 (H : Nat), .slice A M c] 24))).heap.size = w.heap.size + 1 by simp] at X2
  have X2 := Lib.hid X2
  have LB0 := Lib.hid (LB0.out.alloc LB0.out.size (.cells #[.int .i64 (W : Nat), .int .i64 (H : Nat), .slice D M g] 27))
  go_enter Try.func6, Try.ntmps6
  go_upto_region 1 with (fail)
  generalize (w.alloc (.cells #[.int .i64 (W : Nat), .int .i64 (H : Nat), .slice A M c] 24)).alloc (.cells #[.int .i64 (W : Nat), .int .i64 (H : Nat), .slice D M g] 27) = w0 at *
  go_wp2_with fail
  with_reducible refine Calls.mono (alive15_any _) ?_
  rintro e w1 ⟨rfl, hb⟩
  have LB1 := Lib.hid (LB0.out.trans (hb.mono LB0.out.size))
  have X1 := Lib.hid (X1.out.below hb X1.out.lt)
  have X2 := Lib.hid (X2.out.below hb X2.out.lt)
  clear hb LB0 
  obtain ⟨q0, q1, q2, q3, q4, q5, q6⟩ := X1.out.all
  go_wp2_with fail
  clear q0 q1 q2 q3 q4 q5 q6
  with_reducible refine Calls.mono (HG.out _) ?_
  rintro e w2 ⟨rfl, hb⟩
  have LB2 := Lib.hid (LB1.out.trans (hb.mono LB1.out.size))
  have X1 := Lib.hid (X1.out.below hb X1.out.lt)
  have X2 := Lib.hid (X2.out.below hb X2.out.lt)
  clear hb LB1 
  obtain ⟨q0, q1, q2, q3, q4, q5, q6⟩ := X1.out.all
  go_wp2_with fail
  clear q0 q1 q2 q3 q4 q5 q6
  with_reducible refine Calls.mono (HC.out _ LB2.out) ?_
  rintro e w3 ⟨rfl, hb⟩
  have LB3 := Lib.hid (LB2.out.trans (hb.mono LB2.out.size))
  have X1 := Lib.hid (X1.out.below hb X1.out.lt)
  have X2 := Lib.hid (X2.out.below hb X2.out.lt)
  clear hb LB2 
  obtain ⟨q0, q1, q2, q3, q4, q5, q6⟩ := X2.out.all
  go_wp2_with fail
  clear q0 q1 q2 q3 q4 q5 q6
  with_reducible refine Calls.mono (HK.out _ _ _) ?_
  rintro e w4 ⟨rfl, hb⟩
  have LB4 := Lib.hid (LB3.out.trans (hb.mono LB3.out.size))
  have X1 := Lib.hid (X1.out.below hb X1.out.lt)
  have X2 := Lib.hid (X2.out.below hb X2.out.lt)
  clear hb LB3 
  obtain ⟨p0, p1, p2, p3, p4, p5, p6⟩ := X1.out.all
  obtain ⟨q0, q1, q2, q3, q4, q5, q6⟩ := X2.out.all
  go_wp2_with fail
  clear q0 q1 q2 q3 q4 q5 q6
  with_reducible refine Calls.mono (HS.out _ LB4.out) ?_
  rintro e w5 ⟨rfl, hb⟩
  have LB5 := Lib.hid (LB4.out.trans (hb.mono LB4.out.size))
  have X1 := Lib.hid (X1.out.below hb X1.out.lt)
  have X2 := Lib.hid (X2.out.below hb X2.out.lt)
  clear hb LB4 
  clear p0 p1 p2 p3 p4 p5 p6
  obtain ⟨q0, q1, q2, q3, q4, q5, q6⟩ := X1.out.all
  go_wp2_with fail
  clear q0 q1 q2 q3 q4 q5 q6
  with_reducible refine Calls.mono (HCE.out _ LB5.out) ?_
  rintro e w6 ⟨rfl, hb⟩
  have LB6 := Lib.hid (LB5.out.trans (hb.mono LB5.out.size))
  have X1 := Lib.hid (X1.out.below hb X1.out.lt)
  have X2 := Lib.hid (X2.out.below hb X2.out.lt)
  clear hb LB5 
  have hb := (((Below.refl w6.heap.size w6).alloc (by simp; try omega) (.cells #[.int .i64 0, .int .i64 0, .slice none 0 0] 27)).alloc (by simp; try omega) (.cells #[.int .i64 0, .int .i64 0, .slice none 0 0] 27))
  have LB7 := Lib.hid (LB6.out.trans (hb.mono LB6.out.size))
  have X1 := Lib.hid (X1.out.below hb X1.out.lt)
  have X2 := Lib.hid (X2.out.below hb X2.out.lt)
  have B1 := Box.new w6 0 0 (.slice none 0 0)
  have B1 := Lib.hid B1
  have B1 := Lib.hid (B1.out.alloc (.cells #[.int .i64 0, .int .i64 0, .slice none 0 0] 27))
  have B2 := Box.new (w6.alloc (.cells #[.int .i64 0, .int .i64 0, .slice none 0 0] 27)) 0 0 (.slice none 0 0)
  rw [show (w6.alloc (.cells #[.int .i64 0, .int .i64 0, .slice none 0 0] 27)).heap.size = w6.heap.size + 1 by simp] at B2
  have B2 := Lib.hid B2
  clear hb LB6
  go_upto_region 6 with (fail)
  obtain ⟨b2, hb2⟩ : ∃ z, w6.heap.size + 1 = z := ⟨_, rfl⟩
  rw [hb2] at B2
  try rw [hb2]
  obtain ⟨b1, hb1⟩ : ∃ z, w6.heap.size = z := ⟨_, rfl⟩
  rw [hb1] at B1
  try rw [hb1]
  clear hb1 hb2
  generalize (w6.alloc (.cells #[.int .i64 0, .int .i64 0, .slice none 0 0] 27)).alloc (.cells #[.int .i64 0, .int .i64 0, .slice none 0 0] 27) = w7 at *
  obtain ⟨p0, p1, p2, p3, p4, p5, p6⟩ := X2.out.all
  obtain ⟨q0, q1, q2, q3, q4, q5, q6⟩ := X1.out.all
  go_wp2_with fail
  clear q0 q1 q2 q3 q4 q5 q6
  with_reducible refine Calls.mono (HWE.out _ LB7.out) ?_
  rintro e w8 ⟨rfl, hb⟩
  have LB8 := Lib.hid (LB7.out.trans (hb.mono LB7.out.size))
  have X1 := Lib.hid (X1.out.below hb X1.out.lt)
  have X2 := Lib.hid (X2.out.below hb X2.out.lt)
  have B1 := Lib.hid (B1.out.below hb B1.out.lt)
  have B2 := Lib.hid (B2.out.below hb B2.out.lt)
  clear hb LB7 
  clear p0 p1 p2 p3 p4 p5 p6
  have hb := ((Below.refl w8.heap.size w8).alloc (by simp; try omega) (.cells #[.int .i64 0, .int .i64 0, .slice none 0 0] 27))
  have LB9 := Lib.hid (LB8.out.trans (hb.mono LB8.out.size))
  have X1 := Lib.hid (X1.out.below hb X1.out.lt)
  have X2 := Lib.hid (X2.out.below hb X2.out.lt)
  have B1 := Lib.hid (B1.out.below hb B1.out.lt)
  have B2 := Lib.hid (B2.out.below hb B2.out.lt)
  have B4 := Box.new w8 0 0 (.slice none 0 0)
  have B4 := Lib.hid B4
  clear hb LB8
  go_upto_region 7 with (fail)
  obtain ⟨b4, hb4⟩ : ∃ z, w8.heap.size = z := ⟨_, rfl⟩
  rw [hb4] at B4
  try rw [hb4]
  clear hb4
  generalize w8.alloc (.cells #[.int .i64 0, .int .i64 0, .slice none 0 0] 27) = w9 at *
  go_wp2
  go_ret
  exact ⟨rfl, LB9.out⟩
end Go.Proofs.Ytmcdfnhpaneanaa
