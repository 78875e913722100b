/- DoubleBack: the walk. -/
import Derived.Test.YtgmcbdnfgdmmaaaDhg
import Derived.Deep.RegionHeld3
import Derived.BigRegion
namespace Go.Proofs.Ytgmcbdnfgdmmaaa
open Go.RowKit
set_option maxRecDepth 100000
set_option linter.unusedVariables false
set_option linter.unusedSimpArgs false

theorem bel_drewN {B : Nat} {w u : World} (h : Below B w u) (n : Nat) : Below B w (u.drewN n) := ⟨h.os, h.tape, h.output, h.size, h.block⟩
/-- The threads of the back. -/
def bkt (W t : Nat) : Nat := if t < W then W - 1 - t else t
theorem bkf_at {W x y : Nat} {f : Nat → Bool} (hx : x < W) : bkf W f (y * W + x) = !f (y * W + (W - 1 - x)) := by
  unfold bkf
  rw [(co y hx).1, (co y hx).2]
theorem bkf_bkf {W H i : Nat} {f : Nat → Bool} (hW : 1 ≤ W) (hi : i < W * H) : bkf W (bkf W f) i = f i := by
  obtain ⟨h1, h2, h3⟩ := e2_cells hW hi
  have := bkf_at (f := bkf W f) (y := i / W) h1
  rw [h3, bkf_at (by omega), Bool.not_not, show W - 1 - (W - 1 - i % W) = i % W by omega, h3] at this
  exact this
theorem ov_bk {W t u : Nat} {f : Nat → Bool} : ov W (bkf W f) t u = ov W f (bkt W u) (bkt W t) := by
  unfold ov bkt
  by_cases ht : t < W
  · rw [if_pos ht, if_pos ht, if_pos (show W - 1 - t < W by omega)]
    by_cases hu : u < W
    · rw [if_pos hu, if_pos hu, if_pos (show W - 1 - u < W by omega)]
    · rw [if_neg hu, if_neg hu, if_neg hu, bkf_at ht, if_pos (show W - 1 - t < W by omega)]
  · rw [if_neg ht, if_neg ht, if_neg ht]
    by_cases hu : u < W
    · rw [if_pos hu, if_pos hu, if_pos (show W - 1 - u < W by omega), bkf_at hu, Bool.not_not]
    · rw [if_neg hu, if_neg hu, if_neg hu, if_neg ht]
theorem hgs_bk {W H : Nat} {f : Nat → Bool} (hW : 1 ≤ W) (hH : 1 ≤ H) : hgs (ov W (bkf W f)) (W + H) = hgs (ov W f) (W + H) := by
  have hb : ∀ a, a < W + H → bkt W a < W + H := fun a ha => by unfold bkt; split <;> omega
  have hi : ∀ a, a < W + H → bkt W (bkt W a) = a := fun a ha => by
    unfold bkt
    by_cases h : a < W
    · rw [if_pos h, if_pos (by omega)]; omega
    · rw [if_neg h, if_neg h]
  rw [pno_hangs (by omega), pno_hangs (by omega)]
  have e1 : pno (ov W (bkf W f)) (W + H) = pno (fun t u => ov W f (bkt W t) (bkt W u)) (W + H) := back_no (R := fun t u => ov W f (bkt W t) (bkt W u)) (fun a b _ _ => ov_bk)
  have e2 : pno (fun t u => ov W f (bkt W t) (bkt W u)) (W + H) = pno (ov W f) (W + H) := moved_no (bkt W) (bkt W) hb hb hi hi (fun a b ha hb => by rw [hi a ha, hi b hb])
  rw [e1, e2]
theorem cnt_true (n : Nat) : cnt (fun _ => true) n = n := by
  induction n with
  | zero => rfl
  | succ n ih => rw [cnt_s, if_pos rfl, ih]
set_option maxHeartbeats 1600000 in
theorem back12_any_no (W H X Y U V : Int) (A B C : Option Addr) (n c m d k e : Nat) (ht : thr n (fitZ (chk W H n) (chk X Y m) (chk U V k) W H X Y U V) W H 8 = false) (w : World) :
    Calls Try.prog 16 #[.agg #[.int .i64 W, .int .i64 H, .slice A n c], .agg #[.int .i64 X, .int .i64 Y, .slice B m d], .agg #[.int .i64 U, .int .i64 V, .slice C k e]] w fun e w' => e = .returned (.bool true) ∧ Below w.heap.size w w' := by
  have HT := Lib.hid (fun u => thr_any W H X Y U V A B C n c m d k e 8 u)
  rw [ht] at HT
  clear ht
  have LB0 := Lib.hid (Below.refl w.heap.size w)
  have X1 := Lib.hid (Box.new w W H (.slice A n c))
  have LB0 := Lib.hid (LB0.out.alloc LB0.out.size (.cells #[.int .i64 W, .int .i64 H, .slice A n c] 24))
  have X1 := Lib.hid (X1.out.alloc (.cells #[.int .i64 X, .int .i64 Y, .slice B m d] 24))
  have X2 := Box.new (w.alloc (.cells #[.int .i64 W, .int .i64 H, .slice A n c] 24)) X Y (.slice B m d)
  rw [show ((w.alloc (.cells #[.int .i64 W, .int .i64 H, .slice A n c] 24))).heap.size = w.heap.size + 1 by simp] at X2
  have X2 := Lib.hid X2
  have LB0 := Lib.hid (LB0.out.alloc LB0.out.size (.cells #[.int .i64 X, .int .i64 Y, .slice B m d] 24))
  have X1 := Lib.hid (X1.out.alloc (.cells #[.int .i64 U, .int .i64 V, .slice C k e] 24))
  have X2 := Lib.hid (X2.out.alloc (.cells #[.int .i64 U, .int .i64 V, .slice C k e] 24))
  have X3 := Box.new ((w.alloc (.cells #[.int .i64 W, .int .i64 H, .slice A n c] 24)).alloc (.cells #[.int .i64 X, .int .i64 Y, .slice B m d] 24)) U V (.slice C k e)
  rw [show (((w.alloc (.cells #[.int .i64 W, .int .i64 H, .slice A n c] 24)).alloc (.cells #[.int .i64 X, .int .i64 Y, .slice B m d] 24))).heap.size = w.heap.size + 2 by simp] at X3
  have X3 := Lib.hid X3
  have LB0 := Lib.hid (LB0.out.alloc LB0.out.size (.cells #[.int .i64 U, .int .i64 V, .slice C k e] 24))
  go_enter Try.func16, Try.ntmps16
  go_upto_region 1 with (fail)
  generalize ((w.alloc (.cells #[.int .i64 W, .int .i64 H, .slice A n c] 24)).alloc (.cells #[.int .i64 X, .int .i64 Y, .slice B m d] 24)).alloc (.cells #[.int .i64 U, .int .i64 V, .slice C k e] 24) = w0 at *
  obtain ⟨q0, q1, q2, q3, q4, q5, q6⟩ := X1.out.all
  obtain ⟨q7, q8, q9, q10, q11, q12, q13⟩ := X2.out.all
  obtain ⟨q14, q15, q16, q17, q18, q19, q20⟩ := X3.out.all
  go_wp2_with fail
  clear q0 q1 q2 q3 q4 q5 q6 q7 q8 q9 q10 q11 q12 q13 q14 q15 q16 q17 q18 q19 q20
  with_reducible refine Calls.mono (HT.out _) ?_
  rintro e w1 ⟨rfl, hb⟩
  have LB1 := Lib.hid (LB0.out.trans (hb.mono LB0.out.size))
  have X1 := Lib.hid (X1.out.below hb X1.out.lt)
  have X2 := Lib.hid (X2.out.below hb X2.out.lt)
  have X3 := Lib.hid (X3.out.below hb X3.out.lt)
  clear hb LB0 
  go_wp2_with fail
  with_reducible refine Calls.mono (alive12_any _) ?_
  rintro e w2 ⟨rfl, hb⟩
  have LB2 := Lib.hid (LB1.out.trans (hb.mono LB1.out.size))
  have X1 := Lib.hid (X1.out.below hb X1.out.lt)
  have X2 := Lib.hid (X2.out.below hb X2.out.lt)
  have X3 := Lib.hid (X3.out.below hb X3.out.lt)
  clear hb LB1 
  go_wp2
  go_ret
  exact ⟨rfl, LB2.out⟩
set_option maxHeartbeats 6400000 in
theorem back12_any_yes (W H : Nat) (A B C : Option Addr) (c d e : Nat) (a b mo : Nat → Bool) (hW0 : 1 ≤ W) (hW : W ≤ 8) (hH0 : 1 ≤ H) (hH : H ≤ 8) (hn1 : W * H ≤ 1100) (w : World) (ha : Holds w w.heap.size A (W * H) a) (hb1 : Holds w w.heap.size B (W * H) b) (hm : Holds w w.heap.size C (W * H) mo) :
    Calls Try.prog 16 #[.agg #[.int .i64 (W : Nat), .int .i64 (H : Nat), .slice A (W * H) c], .agg #[.int .i64 (W : Nat), .int .i64 (H : Nat), .slice B (W * H) d], .agg #[.int .i64 (W : Nat), .int .i64 (H : Nat), .slice C (W * H) e]] w fun e w' => e = .returned (.bool true) ∧ Below w.heap.size w w' := by
  have hz0 := chk_zero (W := W) (H := H) hW0 (by omega) hH0 (by omega)
  have HT := Lib.hid (fun u => thr_any (W : Nat) (H : Nat) (W : Nat) (H : Nat) (W : Nat) (H : Nat) A B C (W * H) c (W * H) d (W * H) e 8 u)
  rw [fitZ_valid hW0 (by omega) hH0 (by omega), show thr (W * H) 0 (W : Nat) (H : Nat) 8 = true by unfold thr; rw [decide_eq_true hn1, decide_eq_true (show (W : Int) ≤ 8 by omega), decide_eq_true (show (H : Int) ≤ 8 by omega)]; rfl] at HT
  have hpos : 0 < W * H := Nat.mul_pos hW0 hH0
  have HBA := Lib.hid (fun u (hb : Below w.heap.size w u) => back_ok (c := c) hW0 (by omega) hH0 (by omega) u ((ha.below hb).more hb.size))
  have HBB := Lib.hid (fun u k (h : Row u k (W * H) (bkf W a)) => back_ok (A := some ⟨k, 0, none⟩) (c := W * H) hW0 (by omega) hH0 (by omega) u (h.holds h.lt))
  have HHA := Lib.hid (fun u (hb : Below w.heap.size w u) => phangs_core W H (W + H) rfl A c a u ((ha.below hb).more hb.size) hW0 (by omega) hH0 (by omega) _ rfl)
  have HHC := Lib.hid (fun u k (h : Row u k (W * H) (bkf W a)) => phangs_core W H (W + H) rfl (some ⟨k, 0, none⟩) (W * H) _ u (h.holds h.lt) hW0 (by omega) hH0 (by omega) _ (hgs_bk hW0 hH0))
  have HFC := Lib.hid (fun u (hb : Below w.heap.size w u) => face_ok (c := c) (d := d) (e := e) hW0 (by omega) hH0 (by omega) u ((ha.below hb).more hb.size) ((hb1.below hb).more hb.size) ((hm.below hb).more hb.size))
  have HTU := Lib.hid (fun u (hb : Below w.heap.size w u) => tube_ok (c := c) hW0 (by omega) hH0 (by omega) u ((ha.below hb).more hb.size))
  have HAP := Lib.hid (fun u k d (h : Row u k (2 * W * (2 * H)) (dbl W a (bkf W a) (fun _ => true))) => apart_dbl (d := d) hW0 (by omega) hH0 (by omega) u h)
  have HCN := Lib.hid (fun u D d (h : Holds u u.heap.size D (W * H) (fun _ => true)) => count_ok W H D d _ u h hW0 (by omega) hH0 (by omega))
  rw [cnt_true] at HCN
  have HS1 := Lib.hid (fun u k d (hb : Below w.heap.size w u) (h : Row u k (W * H) (bkf W (bkf W a))) => rsame_t (W := (W : Nat)) (H := (H : Nat)) (c := d) (d := c) (show W * H ≤ 5000 by omega) (fun i hi => bkf_bkf hW0 hi) u (h.holds h.lt) ((ha.below hb).more hb.size))
  have HS2 := Lib.hid (fun u A1 c1 (hb : Below w.heap.size w u) (h : Holds u u.heap.size A1 (W * H) a) => rsame_t (W := (W : Nat)) (H := (H : Nat)) (c := c1) (d := c) (show W * H ≤ 5000 by omega) (fun _ _ => rfl) u h ((ha.below hb).more hb.size))
  have HS3 := Lib.hid (fun u A1 c1 k d (h1 : Holds u u.heap.size A1 (W * H) (bkf W a)) (h2 : Row u k (W * H) (bkf W a)) => rsame_t (W := (W : Nat)) (H := (H : Nat)) (c := c1) (d := d) (show W * H ≤ 5000 by omega) (fun _ _ => rfl) u h1 (h2.holds h2.lt))
  obtain ⟨ba, oa, rfl, hla, hca⟩ := ha hpos
  obtain ⟨bb, obb, rfl, hlb, hcb⟩ := hb1 hpos
  obtain ⟨bm, om, rfl, hlm, hcm⟩ := hm hpos
  have CA := Lib.hid hca
  have CB := Lib.hid hcb
  have CM := Lib.hid hcm
  obtain ⟨q, hq⟩ : ∃ q, hgs (ov W a) (W + H) = q := ⟨_, rfl⟩
  simp only [hq] at HHA HHC
  obtain ⟨F, hF⟩ : ∃ F, dbl W a (bkf W a) (fun _ => true) = F := ⟨_, rfl⟩
  obtain ⟨W2, hW2⟩ : ∃ z, 2 * W = z := ⟨_, rfl⟩
  obtain ⟨H2, hH2⟩ : ∃ z, 2 * H = z := ⟨_, rfl⟩
  simp only [hF, hW2, hH2] at HTU HAP
  obtain ⟨N2, hN2⟩ : ∃ z, W2 * H2 = z := ⟨_, rfl⟩
  have HN2 := Lib.hid hN2
  simp only [hN2] at HAP
  obtain ⟨f1, hf1⟩ : ∃ f, bkf W (bkf W a) = f := ⟨_, rfl⟩
  simp only [hf1] at HBB HS1
  obtain ⟨f2, hf2⟩ : ∃ f, bkf W a = f := ⟨_, rfl⟩
  simp only [hf2] at HBA HBB HHC HAP HS3
  obtain ⟨M, hMe⟩ : ∃ z, W * H = z := ⟨_, rfl⟩
  have HME := Lib.hid hMe
  simp only [hMe] at HT HBA HBB HHA HHC HFC HTU HCN HS1 HS2 HS3 hn1 CA CB CM ⊢
  clear ha hb1 hm hq hF hW2 hH2 hN2 hMe hz0 hf1 hf2 hca hcb hcm hpos
  have LB0 := Lib.hid (Below.refl w.heap.size w)
  have X1 := Lib.hid (Box.new w (W : Nat) (H : Nat) (.slice (some ⟨ba, oa, none⟩) M c))
  have LB0 := Lib.hid (LB0.out.alloc LB0.out.size (.cells #[.int .i64 (W : Nat), .int .i64 (H : Nat), .slice (some ⟨ba, oa, none⟩) M c] 24))
  have X1 := Lib.hid (X1.out.alloc (.cells #[.int .i64 (W : Nat), .int .i64 (H : Nat), .slice (some ⟨bb, obb, none⟩) M d] 24))
  have X2 := Box.new (w.alloc (.cells #[.int .i64 (W : Nat), .int .i64 (H : Nat), .slice (some ⟨ba, oa, none⟩) M c] 24)) (W : Nat) (H : Nat) (.slice (some ⟨bb, obb, none⟩) M d)
  rw [show ((w.alloc (.cells #[.int .i64 (W : Nat), .int .i64 (H : Nat), .slice (some ⟨ba, oa, none⟩) M c] 24))).heap.size = w.heap.size + 1 by simp] at X2
  have X2 := Lib.hid X2
  have LB0 := Lib.hid (LB0.out.alloc LB0.out.size (.cells #[.int .i64 (W : Nat), .int .i64 (H : Nat), .slice (some ⟨bb, obb, none⟩) M d] 24))
  have X1 := Lib.hid (X1.out.alloc (.cells #[.int .i64 (W : Nat), .int .i64 (H : Nat), .slice (some ⟨bm, om, none⟩) M e] 24))
  have X2 := Lib.hid (X2.out.alloc (.cells #[.int .i64 (W : Nat), .int .i64 (H : Nat), .slice (some ⟨bm, om, none⟩) M e] 24))
  have X3 := Box.new ((w.alloc (.cells #[.int .i64 (W : Nat), .int .i64 (H : Nat), .slice (some ⟨ba, oa, none⟩) M c] 24)).alloc (.cells #[.int .i64 (W : Nat), .int .i64 (H : Nat), .slice (some ⟨bb, obb, none⟩) M d] 24)) (W : Nat) (H : Nat) (.slice (some ⟨bm, om, none⟩) M e)
  rw [show (((w.alloc (.cells #[.int .i64 (W : Nat), .int .i64 (H : Nat), .slice (some ⟨ba, oa, none⟩) M c] 24)).alloc (.cells #[.int .i64 (W : Nat), .int .i64 (H : Nat), .slice (some ⟨bb, obb, none⟩) M d] 24))).heap.size = w.heap.size + 2 by simp] at X3
  have X3 := Lib.hid X3
  have LB0 := Lib.hid (LB0.out.alloc LB0.out.size (.cells #[.int .i64 (W : Nat), .int .i64 (H : Nat), .slice (some ⟨bm, om, none⟩) M e] 24))
  go_enter Try.func16, Try.ntmps16
  go_upto_region 1 with (fail)
  generalize ((w.alloc (.cells #[.int .i64 (W : Nat), .int .i64 (H : Nat), .slice (some ⟨ba, oa, none⟩) M c] 24)).alloc (.cells #[.int .i64 (W : Nat), .int .i64 (H : Nat), .slice (some ⟨bb, obb, none⟩) M d] 24)).alloc (.cells #[.int .i64 (W : Nat), .int .i64 (H : Nat), .slice (some ⟨bm, om, none⟩) M e] 24) = w0 at *
  obtain ⟨q0, q1, q2, q3, q4, q5, q6⟩ := X1.out.all
  obtain ⟨q7, q8, q9, q10, q11, q12, q13⟩ := X2.out.all
  obtain ⟨q14, q15, q16, q17, q18, q19, q20⟩ := X3.out.all
  go_wp2_with fail
  clear q0 q1 q2 q3 q4 q5 q6 q7 q8 q9 q10 q11 q12 q13 q14 q15 q16 q17 q18 q19 q20
  with_reducible refine Calls.mono (HT.out _) ?_
  rintro e w1 ⟨rfl, hb⟩
  have LB1 := Lib.hid (LB0.out.trans (hb.mono LB0.out.size))
  have X1 := Lib.hid (X1.out.below hb X1.out.lt)
  have X2 := Lib.hid (X2.out.below hb X2.out.lt)
  have X3 := Lib.hid (X3.out.below hb X3.out.lt)
  clear hb LB0 
  obtain ⟨q0, q1, q2, q3, q4, q5, q6⟩ := X1.out.all
  go_wp2_with fail
  clear q0 q1 q2 q3 q4 q5 q6
  with_reducible refine Calls.mono (HBA.out _ LB1.out) ?_
  rintro e w2 ⟨kc, rfl, hkc, hrow, hb⟩
  have LB2 := Lib.hid (LB1.out.trans (hb.mono LB1.out.size))
  have X1 := Lib.hid (X1.out.below hb X1.out.lt)
  have X2 := Lib.hid (X2.out.below hb X2.out.lt)
  have X3 := Lib.hid (X3.out.below hb X3.out.lt)
  have RC := Lib.hid hrow
  clear hb LB1 hrow
  rw [HME.out] at RC ⊢
  have hb := ((Below.refl w2.heap.size w2).alloc (by simp; try omega) (.cells #[.int .i64 (W : Nat), .int .i64 (H : Nat), .slice (some ⟨kc, 0, none⟩) M M] 24))
  have LB3 := Lib.hid (LB2.out.trans (hb.mono LB2.out.size))
  have X1 := Lib.hid (X1.out.below hb X1.out.lt)
  have X2 := Lib.hid (X2.out.below hb X2.out.lt)
  have X3 := Lib.hid (X3.out.below hb X3.out.lt)
  have RC := Lib.hid (RC.out.below hb RC.out.lt)
  have XC := Box.new w2 (W : Nat) (H : Nat) (.slice (some ⟨kc, 0, none⟩) M M)
  have XC := Lib.hid XC
  clear hb LB2
  go_upto_region 4 with (fail)
  obtain ⟨cb, hcb⟩ : ∃ z, w2.heap.size = z := ⟨_, rfl⟩
  rw [hcb] at XC
  try rw [hcb]
  clear hcb
  generalize w2.alloc (.cells #[.int .i64 (W : Nat), .int .i64 (H : Nat), .slice (some ⟨kc, 0, none⟩) M M] 24) = w3 at *
  obtain ⟨q0, q1, q2, q3, q4, q5, q6⟩ := XC.out.all
  go_wp2_with fail
  clear q0 q1 q2 q3 q4 q5 q6
  with_reducible refine Calls.mono (HBB.out _ _ RC.out) ?_
  rintro e w4 ⟨ke, rfl, hke, hrow, hb⟩
  have LB4 := Lib.hid (LB3.out.trans (hb.mono LB3.out.size))
  have X1 := Lib.hid (X1.out.below hb X1.out.lt)
  have X2 := Lib.hid (X2.out.below hb X2.out.lt)
  have X3 := Lib.hid (X3.out.below hb X3.out.lt)
  have RC := Lib.hid (RC.out.below hb RC.out.lt)
  have XC := Lib.hid (XC.out.below hb XC.out.lt)
  have RE := Lib.hid hrow
  clear hb LB3 hrow
  rw [HME.out] at RE ⊢
  have hb := ((Below.refl w4.heap.size w4).alloc (by simp; try omega) (.cells #[.int .i64 (W : Nat), .int .i64 (H : Nat), .slice (some ⟨ke, 0, none⟩) M M] 24))
  have LB5 := Lib.hid (LB4.out.trans (hb.mono LB4.out.size))
  have X1 := Lib.hid (X1.out.below hb X1.out.lt)
  have X2 := Lib.hid (X2.out.below hb X2.out.lt)
  have X3 := Lib.hid (X3.out.below hb X3.out.lt)
  have RC := Lib.hid (RC.out.below hb RC.out.lt)
  have XC := Lib.hid (XC.out.below hb XC.out.lt)
  have RE := Lib.hid (RE.out.below hb RE.out.lt)
  have XE := Box.new w4 (W : Nat) (H : Nat) (.slice (some ⟨ke, 0, none⟩) M M)
  have XE := Lib.hid XE
  clear hb LB4
  go_upto_region 5 with (fail)
  obtain ⟨eb, heb⟩ : ∃ z, w4.heap.size = z := ⟨_, rfl⟩
  rw [heb] at XE
  try rw [heb]
  clear heb
  generalize w4.alloc (.cells #[.int .i64 (W : Nat), .int .i64 (H : Nat), .slice (some ⟨ke, 0, none⟩) M M] 24) = w5 at *
  obtain ⟨q0, q1, q2, q3, q4, q5, q6⟩ := X1.out.all
  go_wp2_with fail
  clear q0 q1 q2 q3 q4 q5 q6
  with_reducible refine Calls.mono (HHA.out _ LB5.out) ?_
  rintro e w6 ⟨rfl, hb⟩
  have LB6 := Lib.hid (LB5.out.trans (hb.mono LB5.out.size))
  have X1 := Lib.hid (X1.out.below hb X1.out.lt)
  have X2 := Lib.hid (X2.out.below hb X2.out.lt)
  have X3 := Lib.hid (X3.out.below hb X3.out.lt)
  have RC := Lib.hid (RC.out.below hb RC.out.lt)
  have XC := Lib.hid (XC.out.below hb XC.out.lt)
  have RE := Lib.hid (RE.out.below hb RE.out.lt)
  have XE := Lib.hid (XE.out.below hb XE.out.lt)
  clear hb LB5 
  obtain ⟨q0, q1, q2, q3, q4, q5, q6⟩ := XC.out.all
  go_wp2_with fail
  clear q0 q1 q2 q3 q4 q5 q6
  with_reducible refine Calls.mono (HHC.out _ _ RC.out) ?_
  rintro e w7 ⟨rfl, hb⟩
  have LB7 := Lib.hid (LB6.out.trans (hb.mono LB6.out.size))
  have X1 := Lib.hid (X1.out.below hb X1.out.lt)
  have X2 := Lib.hid (X2.out.below hb X2.out.lt)
  have X3 := Lib.hid (X3.out.below hb X3.out.lt)
  have RC := Lib.hid (RC.out.below hb RC.out.lt)
  have XC := Lib.hid (XC.out.below hb XC.out.lt)
  have RE := Lib.hid (RE.out.below hb RE.out.lt)
  have XE := Lib.hid (XE.out.below hb XE.out.lt)
  clear hb LB6 
  obtain ⟨q0, q1, q2, q3, q4, q5, q6⟩ := X1.out.all
  obtain ⟨q7, q8, q9, q10, q11, q12, q13⟩ := X2.out.all
  obtain ⟨q14, q15, q16, q17, q18, q19, q20⟩ := X3.out.all
  go_wp2_with fail
  clear q0 q1 q2 q3 q4 q5 q6 q7 q8 q9 q10 q11 q12 q13 q14 q15 q16 q17 q18 q19 q20
  with_reducible refine Calls.mono (HFC.out _ LB7.out) ?_
  rintro e w8 ⟨kf, df, rfl, hkf, hrow, hb⟩
  have LB8 := Lib.hid (LB7.out.trans (hb.mono LB7.out.size))
  have X1 := Lib.hid (X1.out.below hb X1.out.lt)
  have X2 := Lib.hid (X2.out.below hb X2.out.lt)
  have X3 := Lib.hid (X3.out.below hb X3.out.lt)
  have RC := Lib.hid (RC.out.below hb RC.out.lt)
  have XC := Lib.hid (XC.out.below hb XC.out.lt)
  have RE := Lib.hid (RE.out.below hb RE.out.lt)
  have XE := Lib.hid (XE.out.below hb XE.out.lt)
  have RF := Lib.hid hrow
  clear hb LB7 hrow
  rw [HME.out] at RF ⊢
  have hb := ((Below.refl w8.heap.size w8).alloc (by simp; try omega) (.cells #[.int .i64 (W : Nat), .int .i64 (H : Nat), .slice (some ⟨kf, 0, none⟩) M df] 24))
  have LB9 := Lib.hid (LB8.out.trans (hb.mono LB8.out.size))
  have X1 := Lib.hid (X1.out.below hb X1.out.lt)
  have X2 := Lib.hid (X2.out.below hb X2.out.lt)
  have X3 := Lib.hid (X3.out.below hb X3.out.lt)
  have RC := Lib.hid (RC.out.below hb RC.out.lt)
  have XC := Lib.hid (XC.out.below hb XC.out.lt)
  have RE := Lib.hid (RE.out.below hb RE.out.lt)
  have XE := Lib.hid (XE.out.below hb XE.out.lt)
  have RF := Lib.hid (RF.out.below hb RF.out.lt)
  have XF := Box.new w8 (W : Nat) (H : Nat) (.slice (some ⟨kf, 0, none⟩) M df)
  have XF := Lib.hid XF
  clear hb LB8
  go_upto_region 8 with (fail)
  obtain ⟨fb, hfb⟩ : ∃ z, w8.heap.size = z := ⟨_, rfl⟩
  rw [hfb] at XF
  try rw [hfb]
  clear hfb
  generalize w8.alloc (.cells #[.int .i64 (W : Nat), .int .i64 (H : Nat), .slice (some ⟨kf, 0, none⟩) M df] 24) = w9 at *
  obtain ⟨q0, q1, q2, q3, q4, q5, q6⟩ := X1.out.all
  go_wp2_with fail
  clear q0 q1 q2 q3 q4 q5 q6
  with_reducible refine Calls.mono (HTU.out _ LB9.out) ?_
  rintro e w10 ⟨kt, dt, rfl, hkt, hrow, hb⟩
  have LB10 := Lib.hid (LB9.out.trans (hb.mono LB9.out.size))
  have X1 := Lib.hid (X1.out.below hb X1.out.lt)
  have X2 := Lib.hid (X2.out.below hb X2.out.lt)
  have X3 := Lib.hid (X3.out.below hb X3.out.lt)
  have RC := Lib.hid (RC.out.below hb RC.out.lt)
  have XC := Lib.hid (XC.out.below hb XC.out.lt)
  have RE := Lib.hid (RE.out.below hb RE.out.lt)
  have XE := Lib.hid (XE.out.below hb XE.out.lt)
  have RF := Lib.hid (RF.out.below hb RF.out.lt)
  have XF := Lib.hid (XF.out.below hb XF.out.lt)
  have RT := Lib.hid hrow
  clear hb LB9 hrow
  rw [HN2.out] at RT ⊢
  have hb := ((Below.refl w10.heap.size w10).alloc (by simp; try omega) (.cells #[.int .i64 (W2 : Nat), .int .i64 (H2 : Nat), .slice (some ⟨kt, 0, none⟩) N2 dt] 24))
  have LB11 := Lib.hid (LB10.out.trans (hb.mono LB10.out.size))
  have X1 := Lib.hid (X1.out.below hb X1.out.lt)
  have X2 := Lib.hid (X2.out.below hb X2.out.lt)
  have X3 := Lib.hid (X3.out.below hb X3.out.lt)
  have RC := Lib.hid (RC.out.below hb RC.out.lt)
  have XC := Lib.hid (XC.out.below hb XC.out.lt)
  have RE := Lib.hid (RE.out.below hb RE.out.lt)
  have XE := Lib.hid (XE.out.below hb XE.out.lt)
  have RF := Lib.hid (RF.out.below hb RF.out.lt)
  have XF := Lib.hid (XF.out.below hb XF.out.lt)
  have RT := Lib.hid (RT.out.below hb RT.out.lt)
  have XT := Box.new w10 (W2 : Nat) (H2 : Nat) (.slice (some ⟨kt, 0, none⟩) N2 dt)
  have XT := Lib.hid XT
  clear hb LB10
  go_upto_region 9 with (fail)
  obtain ⟨tb, htb⟩ : ∃ z, w10.heap.size = z := ⟨_, rfl⟩
  rw [htb] at XT
  try rw [htb]
  clear htb
  generalize w10.alloc (.cells #[.int .i64 (W2 : Nat), .int .i64 (H2 : Nat), .slice (some ⟨kt, 0, none⟩) N2 dt] 24) = w11 at *
  obtain ⟨q0, q1, q2, q3, q4, q5, q6⟩ := XT.out.all
  go_wp2_with fail
  clear q0 q1 q2 q3 q4 q5 q6
  with_reducible refine Calls.mono (HAP.out _ _ _ RT.out) ?_
  rintro e w12 ⟨A1, c1, A2, c2, A3, c3, rfl, hh1, hh2, hh3, hb⟩
  have LB12 := Lib.hid (LB11.out.trans (hb.mono LB11.out.size))
  have X1 := Lib.hid (X1.out.below hb X1.out.lt)
  have X2 := Lib.hid (X2.out.below hb X2.out.lt)
  have X3 := Lib.hid (X3.out.below hb X3.out.lt)
  have RC := Lib.hid (RC.out.below hb RC.out.lt)
  have XC := Lib.hid (XC.out.below hb XC.out.lt)
  have RE := Lib.hid (RE.out.below hb RE.out.lt)
  have XE := Lib.hid (XE.out.below hb XE.out.lt)
  have RF := Lib.hid (RF.out.below hb RF.out.lt)
  have XF := Lib.hid (XF.out.below hb XF.out.lt)
  have RT := Lib.hid (RT.out.below hb RT.out.lt)
  have XT := Lib.hid (XT.out.below hb XT.out.lt)
  have H1 := Lib.hid hh1
  have H2h := Lib.hid hh2
  have H3 := Lib.hid hh3
  clear hb LB11 hh1 hh2 hh3
  simp only [HME.out] at H1 H2h H3 ⊢
  have hb := ((((Below.refl w12.heap.size w12).alloc (by simp; try omega) (.cells #[.int .i64 (W : Nat), .int .i64 (H : Nat), .slice A1 M c1] 24)).alloc (by simp; try omega) (.cells #[.int .i64 (W : Nat), .int .i64 (H : Nat), .slice A2 M c2] 24)).alloc (by simp; try omega) (.cells #[.int .i64 (W : Nat), .int .i64 (H : Nat), .slice A3 M c3] 24))
  have LB13 := Lib.hid (LB12.out.trans (hb.mono LB12.out.size))
  have X1 := Lib.hid (X1.out.below hb X1.out.lt)
  have X2 := Lib.hid (X2.out.below hb X2.out.lt)
  have X3 := Lib.hid (X3.out.below hb X3.out.lt)
  have RC := Lib.hid (RC.out.below hb RC.out.lt)
  have XC := Lib.hid (XC.out.below hb XC.out.lt)
  have RE := Lib.hid (RE.out.below hb RE.out.lt)
  have XE := Lib.hid (XE.out.below hb XE.out.lt)
  have RF := Lib.hid (RF.out.below hb RF.out.lt)
  have XF := Lib.hid (XF.out.below hb XF.out.lt)
  have RT := Lib.hid (RT.out.below hb RT.out.lt)
  have XT := Lib.hid (XT.out.below hb XT.out.lt)
  have H1 := Lib.hid ((H1.out.below hb).more hb.size)
  have H2h := Lib.hid ((H2h.out.below hb).more hb.size)
  have H3 := Lib.hid ((H3.out.below hb).more hb.size)
  have Y1 := Box.new w12 (W : Nat) (H : Nat) (.slice A1 M c1)
  have Y1 := Lib.hid Y1
  have Y1 := Lib.hid (Y1.out.alloc (.cells #[.int .i64 (W : Nat), .int .i64 (H : Nat), .slice A2 M c2] 24))
  have Y1 := Lib.hid (Y1.out.alloc (.cells #[.int .i64 (W : Nat), .int .i64 (H : Nat), .slice A3 M c3] 24))
  have Y2 := Box.new (w12.alloc (.cells #[.int .i64 (W : Nat), .int .i64 (H : Nat), .slice A1 M c1] 24)) (W : Nat) (H : Nat) (.slice A2 M c2)
  rw [show (w12.alloc (.cells #[.int .i64 (W : Nat), .int .i64 (H : Nat), .slice A1 M c1] 24)).heap.size = w12.heap.size + 1 by simp] at Y2
  have Y2 := Lib.hid Y2
  have Y2 := Lib.hid (Y2.out.alloc (.cells #[.int .i64 (W : Nat), .int .i64 (H : Nat), .slice A3 M c3] 24))
  have Y3 := Box.new ((w12.alloc (.cells #[.int .i64 (W : Nat), .int .i64 (H : Nat), .slice A1 M c1] 24)).alloc (.cells #[.int .i64 (W : Nat), .int .i64 (H : Nat), .slice A2 M c2] 24)) (W : Nat) (H : Nat) (.slice A3 M c3)
  rw [show ((w12.alloc (.cells #[.int .i64 (W : Nat), .int .i64 (H : Nat), .slice A1 M c1] 24)).alloc (.cells #[.int .i64 (W : Nat), .int .i64 (H : Nat), .slice A2 M c2] 24)).heap.size = w12.heap.size + 1 + 1 by simp] at Y3
  have Y3 := Lib.hid Y3
  clear hb LB12
  go_upto_region 10 with (fail)
  obtain ⟨y3, hy3⟩ : ∃ z, w12.heap.size + 1 + 1 = z := ⟨_, rfl⟩
  rw [hy3] at Y3
  try rw [hy3]
  obtain ⟨y2, hy2⟩ : ∃ z, w12.heap.size + 1 = z := ⟨_, rfl⟩
  rw [hy2] at Y2
  try rw [hy2]
  obtain ⟨y1, hy1⟩ : ∃ z, w12.heap.size = z := ⟨_, rfl⟩
  rw [hy1] at Y1
  try rw [hy1]
  clear hy1 hy2 hy3
  generalize ((w12.alloc (.cells #[.int .i64 (W : Nat), .int .i64 (H : Nat), .slice A1 M c1] 24)).alloc (.cells #[.int .i64 (W : Nat), .int .i64 (H : Nat), .slice A2 M c2] 24)).alloc (.cells #[.int .i64 (W : Nat), .int .i64 (H : Nat), .slice A3 M c3] 24) = w13 at *
  obtain ⟨q0, q1, q2, q3, q4, q5, q6⟩ := Y3.out.all
  go_wp2_with fail
  clear q0 q1 q2 q3 q4 q5 q6
  with_reducible refine Calls.mono (HCN.out _ _ _ H3.out) ?_
  rintro e w14 ⟨rfl, hb⟩
  have LB14 := Lib.hid (LB13.out.trans (hb.mono LB13.out.size))
  have X1 := Lib.hid (X1.out.below hb X1.out.lt)
  have X2 := Lib.hid (X2.out.below hb X2.out.lt)
  have X3 := Lib.hid (X3.out.below hb X3.out.lt)
  have RC := Lib.hid (RC.out.below hb RC.out.lt)
  have XC := Lib.hid (XC.out.below hb XC.out.lt)
  have RE := Lib.hid (RE.out.below hb RE.out.lt)
  have XE := Lib.hid (XE.out.below hb XE.out.lt)
  have RF := Lib.hid (RF.out.below hb RF.out.lt)
  have XF := Lib.hid (XF.out.below hb XF.out.lt)
  have RT := Lib.hid (RT.out.below hb RT.out.lt)
  have XT := Lib.hid (XT.out.below hb XT.out.lt)
  have H1 := Lib.hid ((H1.out.below hb).more hb.size)
  have H2h := Lib.hid ((H2h.out.below hb).more hb.size)
  have H3 := Lib.hid ((H3.out.below hb).more hb.size)
  have Y1 := Lib.hid (Y1.out.below hb Y1.out.lt)
  have Y2 := Lib.hid (Y2.out.below hb Y2.out.lt)
  have Y3 := Lib.hid (Y3.out.below hb Y3.out.lt)
  clear hb LB13 
  have nq : (q != q) = false := by cases q <;> rfl
  obtain ⟨q0, q1, q2, q3, q4, q5, q6⟩ := XE.out.all
  obtain ⟨q7, q8, q9, q10, q11, q12, q13⟩ := X1.out.all
  go_wp2_with fail
  clear q0 q1 q2 q3 q4 q5 q6 q7 q8 q9 q10 q11 q12 q13
  with_reducible refine Calls.mono (HS1.out _ _ _ LB14.out RE.out) ?_
  rintro e w15 ⟨rfl, hb⟩
  have LB15 := Lib.hid (LB14.out.trans (hb.mono LB14.out.size))
  have X1 := Lib.hid (X1.out.below hb X1.out.lt)
  have X2 := Lib.hid (X2.out.below hb X2.out.lt)
  have X3 := Lib.hid (X3.out.below hb X3.out.lt)
  have RC := Lib.hid (RC.out.below hb RC.out.lt)
  have XC := Lib.hid (XC.out.below hb XC.out.lt)
  have RE := Lib.hid (RE.out.below hb RE.out.lt)
  have XE := Lib.hid (XE.out.below hb XE.out.lt)
  have RF := Lib.hid (RF.out.below hb RF.out.lt)
  have XF := Lib.hid (XF.out.below hb XF.out.lt)
  have RT := Lib.hid (RT.out.below hb RT.out.lt)
  have XT := Lib.hid (XT.out.below hb XT.out.lt)
  have H1 := Lib.hid ((H1.out.below hb).more hb.size)
  have H2h := Lib.hid ((H2h.out.below hb).more hb.size)
  have H3 := Lib.hid ((H3.out.below hb).more hb.size)
  have Y1 := Lib.hid (Y1.out.below hb Y1.out.lt)
  have Y2 := Lib.hid (Y2.out.below hb Y2.out.lt)
  have Y3 := Lib.hid (Y3.out.below hb Y3.out.lt)
  clear hb LB14 
  obtain ⟨q0, q1, q2, q3, q4, q5, q6⟩ := Y1.out.all
  obtain ⟨q7, q8, q9, q10, q11, q12, q13⟩ := X1.out.all
  go_wp2_with fail
  clear q0 q1 q2 q3 q4 q5 q6 q7 q8 q9 q10 q11 q12 q13
  with_reducible refine Calls.mono (HS2.out _ _ _ LB15.out H1.out) ?_
  rintro e w16 ⟨rfl, hb⟩
  have LB16 := Lib.hid (LB15.out.trans (hb.mono LB15.out.size))
  have X1 := Lib.hid (X1.out.below hb X1.out.lt)
  have X2 := Lib.hid (X2.out.below hb X2.out.lt)
  have X3 := Lib.hid (X3.out.below hb X3.out.lt)
  have RC := Lib.hid (RC.out.below hb RC.out.lt)
  have XC := Lib.hid (XC.out.below hb XC.out.lt)
  have RE := Lib.hid (RE.out.below hb RE.out.lt)
  have XE := Lib.hid (XE.out.below hb XE.out.lt)
  have RF := Lib.hid (RF.out.below hb RF.out.lt)
  have XF := Lib.hid (XF.out.below hb XF.out.lt)
  have RT := Lib.hid (RT.out.below hb RT.out.lt)
  have XT := Lib.hid (XT.out.below hb XT.out.lt)
  have H1 := Lib.hid ((H1.out.below hb).more hb.size)
  have H2h := Lib.hid ((H2h.out.below hb).more hb.size)
  have H3 := Lib.hid ((H3.out.below hb).more hb.size)
  have Y1 := Lib.hid (Y1.out.below hb Y1.out.lt)
  have Y2 := Lib.hid (Y2.out.below hb Y2.out.lt)
  have Y3 := Lib.hid (Y3.out.below hb Y3.out.lt)
  clear hb LB15 
  obtain ⟨q0, q1, q2, q3, q4, q5, q6⟩ := Y2.out.all
  obtain ⟨q7, q8, q9, q10, q11, q12, q13⟩ := XC.out.all
  go_wp2_with fail
  clear q0 q1 q2 q3 q4 q5 q6 q7 q8 q9 q10 q11 q12 q13
  with_reducible refine Calls.mono (HS3.out _ _ _ _ _ H2h.out RC.out) ?_
  rintro e w17 ⟨rfl, hb⟩
  have LB17 := Lib.hid (LB16.out.trans (hb.mono LB16.out.size))
  have X1 := Lib.hid (X1.out.below hb X1.out.lt)
  have X2 := Lib.hid (X2.out.below hb X2.out.lt)
  have X3 := Lib.hid (X3.out.below hb X3.out.lt)
  have RC := Lib.hid (RC.out.below hb RC.out.lt)
  have XC := Lib.hid (XC.out.below hb XC.out.lt)
  have RE := Lib.hid (RE.out.below hb RE.out.lt)
  have XE := Lib.hid (XE.out.below hb XE.out.lt)
  have RF := Lib.hid (RF.out.below hb RF.out.lt)
  have XF := Lib.hid (XF.out.below hb XF.out.lt)
  have RT := Lib.hid (RT.out.below hb RT.out.lt)
  have XT := Lib.hid (XT.out.below hb XT.out.lt)
  have H1 := Lib.hid ((H1.out.below hb).more hb.size)
  have H2h := Lib.hid ((H2h.out.below hb).more hb.size)
  have H3 := Lib.hid ((H3.out.below hb).more hb.size)
  have Y1 := Lib.hid (Y1.out.below hb Y1.out.lt)
  have Y2 := Lib.hid (Y2.out.below hb Y2.out.lt)
  have Y3 := Lib.hid (Y3.out.below hb Y3.out.lt)
  clear hb LB16 
  obtain ⟨q0, q1, q2, q3, q4, q5, q6⟩ := X1.out.all
  obtain ⟨q7, q8, q9, q10, q11, q12, q13⟩ := X3.out.all
  obtain ⟨q14, q15, q16, q17, q18, q19, q20⟩ := XF.out.all
  go_wp2
  clear q0 q1 q2 q3 q4 q5 q6 q7 q8 q9 q10 q11 q12 q13 q14 q15 q16 q17 q18 q19 q20
  have LW := LB17
  go_loopw [25] (fun i wr => ∃ s : Nat, s ≤ M ∧ i = .int .i64 s ∧ Hid (Below w17.heap.size w17 wr)) (fun i _ => M - (intOf i).toNat)
  case atStart => exact ⟨0, by omega, rfl, Lib.hid (Below.refl _ _)⟩
  case round =>
    obtain ⟨s, hs, rfl, HB⟩ := hrel
    have hb := HB.out
    have Z1 := Lib.hid (X1.out.below hb X1.out.lt)
    have Z2 := Lib.hid (X2.out.below hb X2.out.lt)
    have Z3 := Lib.hid (X3.out.below hb X3.out.lt)
    have ZF := Lib.hid (XF.out.below hb XF.out.lt)
    have ZR := Lib.hid (RF.out.below hb RF.out.lt)
    have LB0 := Lib.hid (LW.out.trans (hb.mono LW.out.size))
    by_cases hlt : s < M
    · have y1 : (s : Int) < (M : Int) := by omega
      have y2 : (0 : Int) ≤ (s : Int) := by omega
      have a1 := (LB0.out.cell (p := ⟨ba, oa + s, none⟩) hla).trans (CA.out s hlt)
      have a2 := (LB0.out.cell (p := ⟨bb, obb + s, none⟩) hlb).trans (CB.out s hlt)
      have a3 := (LB0.out.cell (p := ⟨bm, om + s, none⟩) hlm).trans (CM.out s hlt)
      have a4 := ZR.out.cell hlt
      obtain ⟨ua, hua⟩ : ∃ z, a s = z := ⟨_, rfl⟩
      obtain ⟨ub, hub⟩ : ∃ z, b s = z := ⟨_, rfl⟩
      obtain ⟨um, hum⟩ : ∃ z, mo s = z := ⟨_, rfl⟩
      rw [hua] at a1
      rw [hub] at a2
      rw [hum] at a3
      simp only [hua, hub, hum] at a4
      clear hua hub hum hb
      obtain ⟨q0, q1, q2, q3, q4, q5, q6⟩ := Z1.out.all
      obtain ⟨q7, q8, q9, q10, q11, q12, q13⟩ := Z2.out.all
      obtain ⟨q14, q15, q16, q17, q18, q19, q20⟩ := Z3.out.all
      obtain ⟨q21, q22, q23, q24, q25, q26, q27⟩ := ZF.out.all
      cases um
      · rw [if_neg (by decide)] at a4
        cases ub
        all_goals
          go_wp2
          go_quiet (fail)
          go_wp2
          go_roundw
          case rel => exact ⟨s + 1, by omega, by go_num, Lib.hid (bel_drewN HB.out _)⟩
          case measure => simp [intOf]; omega
      · rw [if_pos rfl] at a4
        cases ua
        all_goals
          go_wp2
          go_quiet (fail)
          go_wp2
          go_roundw
          case rel => exact ⟨s + 1, by omega, by go_num, Lib.hid (bel_drewN HB.out _)⟩
          case measure => simp [intOf]; omega
    · have y1 : ¬ (s : Int) < (M : Int) := by omega
      obtain ⟨q14, q15, q16, q17, q18, q19, q20⟩ := Z3.out.all
      go_wp2_with fail
      clear q14 q15 q16 q17 q18 q19 q20
      with_reducible refine Calls.mono (alive12_any _) ?_
      rintro e w99 ⟨rfl, hb9⟩
      have LB9 := Lib.hid (LB0.out.trans (hb9.mono LB0.out.size))
      go_wp2
      go_ret
      exact ⟨rfl, LB9.out⟩
theorem back12_any (W H X Y U V : Int) (A B C : Option Addr) (n c m d k e : Nat) (a b mo : Nat → Bool) (w : World) (ha : Holds w w.heap.size A n a) (hb : Holds w w.heap.size B m b) (hm : Holds w w.heap.size C k mo) :
    Calls Try.prog 16 #[.agg #[.int .i64 W, .int .i64 H, .slice A n c], .agg #[.int .i64 X, .int .i64 Y, .slice B m d], .agg #[.int .i64 U, .int .i64 V, .slice C k e]] w fun e w' => e = .returned (.bool true) ∧ Below w.heap.size w w' := by
  have key : ∀ p, thr n (fitZ (chk W H n) (chk X Y m) (chk U V k) W H X Y U V) W H 8 = p → Calls Try.prog 16 #[.agg #[.int .i64 W, .int .i64 H, .slice A n c], .agg #[.int .i64 X, .int .i64 Y, .slice B m d], .agg #[.int .i64 U, .int .i64 V, .slice C k e]] w fun e w' => e = .returned (.bool true) ∧ Below w.heap.size w w' := by
    intro p hp
    cases p
    · exact back12_any_no W H X Y U V A B C n c m d k e hp w
    · obtain ⟨t0, t1, t2, t3, rfl, rfl, rfl, rfl, t8, t9⟩ := thr_yes hp
      obtain ⟨W', H', rfl, rfl, rfl, w1, w2, w3, w4⟩ := nat_of t1
      obtain ⟨W2, H2, e1, e2, rfl, _⟩ := nat_of t2
      obtain ⟨W3, H3, e3, e4, rfl, _⟩ := nat_of t3
      obtain rfl : W' = W2 := by omega
      obtain rfl : H' = H2 := by omega
      obtain rfl : W' = W3 := by omega
      obtain rfl : H' = H3 := by omega
      exact back12_any_yes W' H' A B C c d e a b mo w1 (by omega) w3 (by omega) t0 w ha hb hm
  exact key _ rfl
end Go.Proofs.Ytgmcbdnfgdmmaaa
