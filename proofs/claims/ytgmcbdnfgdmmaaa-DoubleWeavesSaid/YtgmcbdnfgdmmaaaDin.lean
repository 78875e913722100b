/- DoubleInverse: the walk. -/
import Derived.Test.YtgmcbdnfgdmmaaaDth
namespace Go.Proofs.Ytgmcbdnfgdmmaaa
open Go.RowKit
set_option maxRecDepth 100000
set_option linter.unusedVariables false
set_option linter.unusedSimpArgs false

theorem idx_lt {W H i : Nat} (hW : 1 ≤ W) (hi : i < 2 * W * (2 * H)) : i / (2 * W) / 2 * W + i % (2 * W) / 2 < W * H ∧ i % (2 * W) < 2 * W ∧ i / (2 * W) < 2 * H := by
  have a1 : i % (2 * W) < 2 * W := Nat.mod_lt _ (by omega)
  have a2 : i / (2 * W) < 2 * H := (Nat.div_lt_iff_lt_mul (by omega)).2 (by rwa [Nat.mul_comm])
  exact ⟨in_grid (by omega) (by omega), a1, a2⟩
theorem e2_cells {W H k : Nat} (hW : 1 ≤ W) (hk : k < W * H) : k % W < W ∧ k / W < H ∧ k / W * W + k % W = k :=
  ⟨Nat.mod_lt _ (by omega), (Nat.div_lt_iff_lt_mul (by omega)).2 (by rwa [Nat.mul_comm]), nat_div_mod W k⟩
section
variable {W H : Nat} {a b m : Nat → Bool}
theorem e2_a (hW : 1 ≤ W) {k : Nat} (hk : k < W * H) : e2f W (dbl W a b m) 0 0 k = a k := by
  obtain ⟨h1, h2, h3⟩ := e2_cells hW hk
  unfold e2f; rw [dbl_at (by omega), Nat.add_zero, Nat.add_zero, dxy_00, h3]
theorem e2_b (hW : 1 ≤ W) {k : Nat} (hk : k < W * H) : e2f W (dbl W a b m) 1 1 k = b k := by
  obtain ⟨h1, h2, h3⟩ := e2_cells hW hk
  unfold e2f; rw [dbl_at (by omega), dxy_11, h3]
theorem e2_m (hW : 1 ≤ W) {k : Nat} (hk : k < W * H) : e2f W (dbl W a b m) 0 1 k = m k := by
  obtain ⟨h1, h2, h3⟩ := e2_cells hW hk
  unfold e2f; rw [dbl_at (by omega), Nat.add_zero, dxy_01, h3]
theorem dbl_congr {a' b' m' : Nat → Bool} (hW : 1 ≤ W) (ha : ∀ k, k < W * H → a k = a' k) (hb : ∀ k, k < W * H → b k = b' k) (hm : ∀ k, k < W * H → m k = m' k) {i : Nat} (hi : i < 2 * W * (2 * H)) : dbl W a b m i = dbl W a' b' m' i := by
  obtain ⟨h1, h2, h3⟩ := idx_lt hW hi
  unfold dbl dxy; rw [ha _ h1, hb _ h1, hm _ h1]
theorem isD_dbl (hW : 1 ≤ W) : isD W H (dbl W a b m) = true := by
  unfold isD; rw [decide_eq_true_iff]
  exact fun i hi => dbl_congr hW (fun k hk => e2_a hW hk) (fun k hk => e2_b hW hk) (fun k hk => e2_m hW hk) hi
end
theorem Holds.congr {w : World} {B n : Nat} {A : Option Addr} {f g : Nat → Bool} (h : Holds w B A n f) (e : ∀ i, i < n → f i = g i) : Holds w B A n g := fun h0 => by
  obtain ⟨b, o, h1, h2, h3⟩ := h h0
  exact ⟨b, o, h1, h2, fun i hi => by rw [h3 i hi, e i hi]⟩
/-- What has been woven is taken apart. -/
theorem apart_dbl {W H k d : Nat} {a b m : Nat → Bool} (hW0 : 1 ≤ W) (hW : W ≤ 32) (hH0 : 1 ≤ H) (hH : H ≤ 32) (w : World) (h : Row w k (2 * W * (2 * H)) (dbl W a b m)) :
    Calls Try.prog 42 #[.agg #[.int .i64 ((2 * W : Nat) : Int), .int .i64 ((2 * H : Nat) : Int), .slice (some ⟨k, 0, none⟩) (2 * W * (2 * H)) d]] w (ApG w W H a b m) :=
  ((apart_even W H hW0 hW hH0 hH (h.holds h.lt)).2 (isD_dbl hW0)).mono fun e w' ⟨A1, c1, A2, c2, A3, c3, he, h1, h2, h3, hb⟩ =>
    ⟨A1, c1, A2, c2, A3, c3, he, h1.congr (fun i hi => e2_a hW0 hi), h2.congr (fun i hi => e2_b hW0 hi), h3.congr (fun i hi => e2_m hW0 hi), hb⟩
/-- The reference's Same of grids with the same cells. -/
theorem rsame_t {W H : Int} {A D : Option Addr} {n c d : Nat} {f g : Nat → Bool} (hn : n ≤ 5000) (e : ∀ i, i < n → f i = g i) (w : World) (h1 : Holds w w.heap.size A n f) (h2 : Holds w w.heap.size D n g) :
    Calls Try.prog 54 #[.agg #[.int .i64 W, .int .i64 H, .slice A n c], .agg #[.int .i64 W, .int .i64 H, .slice D n d]] w fun e w' => e = .returned (.bool true) ∧ Below w.heap.size w w' :=
  (rsame_loop W H W H A D n c d f g w hn rfl rfl h1 h2).mono fun e' w' h => ⟨by rw [h.1, decide_eq_true e], h.2⟩
set_option maxHeartbeats 3200000 in
theorem inv_n_great (W H X Y U V : Int) (A B C : Option Addr) (n c m d k e : Nat) (ht : thr n (fitZ (chk W H n) (chk X Y m) (chk U V k) W H X Y U V) W H 32 = false) (W4 H4 : Int) (D : Option Addr) (n4 l : Nat) (hq : 1100 < n4) (w : World) :
    Calls Try.prog 13 #[.agg #[.int .i64 W, .int .i64 H, .slice A n c], .agg #[.int .i64 X, .int .i64 Y, .slice B m d], .agg #[.int .i64 U, .int .i64 V, .slice C k e], .agg #[.int .i64 W4, .int .i64 H4, .slice D n4 l]] w fun e w' => e = .returned (.bool true) ∧ Below w.heap.size w w' := by
  have HT := Lib.hid (fun u => thr_any W H X Y U V A B C n c m d k e 32 u)
  rw [ht] at HT
  clear ht
  have HG := Lib.hid (fun u => great12_any W4 H4 D n4 l u)
  rw [decide_eq_true hq] at HG
  have LB0 := Lib.hid (Below.refl w.heap.size w)
  have X1 := Lib.hid (Box.new w W H (.slice A n c))
  have LB0 := Lib.hid (LB0.out.alloc LB0.out.size (.cells #[.int .i64 W, .int .i64 H, .slice A n c] 24))
  have X1 := Lib.hid (X1.out.alloc (.cells #[.int .i64 X, .int .i64 Y, .slice B m d] 24))
  have X2 := Box.new (w.alloc (.cells #[.int .i64 W, .int .i64 H, .slice A n c] 24)) X Y (.slice B m d)
  rw [show ((w.alloc (.cells #[.int .i64 W, .int .i64 H, .slice A n c] 24))).heap.size = w.heap.size + 1 by simp] at X2
  have X2 := Lib.hid X2
  have LB0 := Lib.hid (LB0.out.alloc LB0.out.size (.cells #[.int .i64 X, .int .i64 Y, .slice B m d] 24))
  have X1 := Lib.hid (X1.out.alloc (.cells #[.int .i64 U, .int .i64 V, .slice C k e] 24))
  have X2 := Lib.hid (X2.out.alloc (.cells #[.int .i64 U, .int .i64 V, .slice C k e] 24))
  have X3 := Box.new ((w.alloc (.cells #[.int .i64 W, .int .i64 H, .slice A n c] 24)).alloc (.cells #[.int .i64 X, .int .i64 Y, .slice B m d] 24)) U V (.slice C k e)
  rw [show (((w.alloc (.cells #[.int .i64 W, .int .i64 H, .slice A n c] 24)).alloc (.cells #[.int .i64 X, .int .i64 Y, .slice B m d] 24))).heap.size = w.heap.size + 2 by simp] at X3
  have X3 := Lib.hid X3
  have LB0 := Lib.hid (LB0.out.alloc LB0.out.size (.cells #[.int .i64 U, .int .i64 V, .slice C k e] 24))
  have X1 := Lib.hid (X1.out.alloc (.cells #[.int .i64 W4, .int .i64 H4, .slice D n4 l] 24))
  have X2 := Lib.hid (X2.out.alloc (.cells #[.int .i64 W4, .int .i64 H4, .slice D n4 l] 24))
  have X3 := Lib.hid (X3.out.alloc (.cells #[.int .i64 W4, .int .i64 H4, .slice D n4 l] 24))
  have X4 := Box.new (((w.alloc (.cells #[.int .i64 W, .int .i64 H, .slice A n c] 24)).alloc (.cells #[.int .i64 X, .int .i64 Y, .slice B m d] 24)).alloc (.cells #[.int .i64 U, .int .i64 V, .slice C k e] 24)) W4 H4 (.slice D n4 l)
  rw [show ((((w.alloc (.cells #[.int .i64 W, .int .i64 H, .slice A n c] 24)).alloc (.cells #[.int .i64 X, .int .i64 Y, .slice B m d] 24)).alloc (.cells #[.int .i64 U, .int .i64 V, .slice C k e] 24))).heap.size = w.heap.size + 3 by simp] at X4
  have X4 := Lib.hid X4
  have LB0 := Lib.hid (LB0.out.alloc LB0.out.size (.cells #[.int .i64 W4, .int .i64 H4, .slice D n4 l] 24))
  go_enter Try.func13, Try.ntmps13
  go_upto_region 1 with (fail)
  generalize (((w.alloc (.cells #[.int .i64 W, .int .i64 H, .slice A n c] 24)).alloc (.cells #[.int .i64 X, .int .i64 Y, .slice B m d] 24)).alloc (.cells #[.int .i64 U, .int .i64 V, .slice C k e] 24)).alloc (.cells #[.int .i64 W4, .int .i64 H4, .slice D n4 l] 24) = w0 at *
  obtain ⟨q0, q1, q2, q3, q4, q5, q6⟩ := X1.out.all
  obtain ⟨q7, q8, q9, q10, q11, q12, q13⟩ := X2.out.all
  obtain ⟨q14, q15, q16, q17, q18, q19, q20⟩ := X3.out.all
  go_wp2_with fail
  clear q0 q1 q2 q3 q4 q5 q6 q7 q8 q9 q10 q11 q12 q13 q14 q15 q16 q17 q18 q19 q20
  with_reducible refine Calls.mono (HT.out _) ?_
  rintro e w1 ⟨rfl, hb⟩
  have LB1 := Lib.hid (LB0.out.trans (hb.mono LB0.out.size))
  have X1 := Lib.hid (X1.out.below hb X1.out.lt)
  have X2 := Lib.hid (X2.out.below hb X2.out.lt)
  have X3 := Lib.hid (X3.out.below hb X3.out.lt)
  have X4 := Lib.hid (X4.out.below hb X4.out.lt)
  clear hb LB0 
  clear X1
  clear X2
  clear X3
  obtain ⟨q0, q1, q2, q3, q4, q5, q6⟩ := X4.out.all
  go_wp2_with fail
  clear q0 q1 q2 q3 q4 q5 q6
  with_reducible refine Calls.mono (HG.out _) ?_
  rintro e w2 ⟨rfl, hb⟩
  have LB2 := Lib.hid (LB1.out.trans (hb.mono LB1.out.size))
  have X4 := Lib.hid (X4.out.below hb X4.out.lt)
  clear hb LB1 
  go_wp2_with fail
  with_reducible refine Calls.mono (alive12_any _) ?_
  rintro e w3 ⟨rfl, hb⟩
  have LB3 := Lib.hid (LB2.out.trans (hb.mono LB2.out.size))
  have X4 := Lib.hid (X4.out.below hb X4.out.lt)
  clear hb LB2 
  go_wp2
  go_ret
  exact ⟨rfl, LB3.out⟩
set_option maxHeartbeats 3200000 in
theorem inv_n_bad (W H X Y U V : Int) (A B C : Option Addr) (n c m d k e : Nat) (ht : thr n (fitZ (chk W H n) (chk X Y m) (chk U V k) W H X Y U V) W H 32 = false) (W4 H4 : Int) (D : Option Addr) (n4 l : Nat) (hq : n4 ≤ 1100) (z : Int) (hz : chk W4 H4 n4 = z) (hne : (z != 0) = true) (w : World) :
    Calls Try.prog 13 #[.agg #[.int .i64 W, .int .i64 H, .slice A n c], .agg #[.int .i64 X, .int .i64 Y, .slice B m d], .agg #[.int .i64 U, .int .i64 V, .slice C k e], .agg #[.int .i64 W4, .int .i64 H4, .slice D n4 l]] w fun e w' => e = .returned (.bool true) ∧ Below w.heap.size w w' := by
  have HT := Lib.hid (fun u => thr_any W H X Y U V A B C n c m d k e 32 u)
  rw [ht] at HT
  clear ht
  have HG := Lib.hid (fun u => great12_any W4 H4 D n4 l u)
  rw [decide_eq_false (by omega)] at HG
  have HC4 := Lib.hid (fun u => rchk_all W4 H4 D n4 l u)
  rw [hz] at HC4
  have hne2 : (z == 0) = false := by rw [bne] at hne; simpa using hne
  have LB0 := Lib.hid (Below.refl w.heap.size w)
  have X1 := Lib.hid (Box.new w W H (.slice A n c))
  have LB0 := Lib.hid (LB0.out.alloc LB0.out.size (.cells #[.int .i64 W, .int .i64 H, .slice A n c] 24))
  have X1 := Lib.hid (X1.out.alloc (.cells #[.int .i64 X, .int .i64 Y, .slice B m d] 24))
  have X2 := Box.new (w.alloc (.cells #[.int .i64 W, .int .i64 H, .slice A n c] 24)) X Y (.slice B m d)
  rw [show ((w.alloc (.cells #[.int .i64 W, .int .i64 H, .slice A n c] 24))).heap.size = w.heap.size + 1 by simp] at X2
  have X2 := Lib.hid X2
  have LB0 := Lib.hid (LB0.out.alloc LB0.out.size (.cells #[.int .i64 X, .int .i64 Y, .slice B m d] 24))
  have X1 := Lib.hid (X1.out.alloc (.cells #[.int .i64 U, .int .i64 V, .slice C k e] 24))
  have X2 := Lib.hid (X2.out.alloc (.cells #[.int .i64 U, .int .i64 V, .slice C k e] 24))
  have X3 := Box.new ((w.alloc (.cells #[.int .i64 W, .int .i64 H, .slice A n c] 24)).alloc (.cells #[.int .i64 X, .int .i64 Y, .slice B m d] 24)) U V (.slice C k e)
  rw [show (((w.alloc (.cells #[.int .i64 W, .int .i64 H, .slice A n c] 24)).alloc (.cells #[.int .i64 X, .int .i64 Y, .slice B m d] 24))).heap.size = w.heap.size + 2 by simp] at X3
  have X3 := Lib.hid X3
  have LB0 := Lib.hid (LB0.out.alloc LB0.out.size (.cells #[.int .i64 U, .int .i64 V, .slice C k e] 24))
  have X1 := Lib.hid (X1.out.alloc (.cells #[.int .i64 W4, .int .i64 H4, .slice D n4 l] 24))
  have X2 := Lib.hid (X2.out.alloc (.cells #[.int .i64 W4, .int .i64 H4, .slice D n4 l] 24))
  have X3 := Lib.hid (X3.out.alloc (.cells #[.int .i64 W4, .int .i64 H4, .slice D n4 l] 24))
  have X4 := Box.new (((w.alloc (.cells #[.int .i64 W, .int .i64 H, .slice A n c] 24)).alloc (.cells #[.int .i64 X, .int .i64 Y, .slice B m d] 24)).alloc (.cells #[.int .i64 U, .int .i64 V, .slice C k e] 24)) W4 H4 (.slice D n4 l)
  rw [show ((((w.alloc (.cells #[.int .i64 W, .int .i64 H, .slice A n c] 24)).alloc (.cells #[.int .i64 X, .int .i64 Y, .slice B m d] 24)).alloc (.cells #[.int .i64 U, .int .i64 V, .slice C k e] 24))).heap.size = w.heap.size + 3 by simp] at X4
  have X4 := Lib.hid X4
  have LB0 := Lib.hid (LB0.out.alloc LB0.out.size (.cells #[.int .i64 W4, .int .i64 H4, .slice D n4 l] 24))
  go_enter Try.func13, Try.ntmps13
  go_upto_region 1 with (fail)
  generalize (((w.alloc (.cells #[.int .i64 W, .int .i64 H, .slice A n c] 24)).alloc (.cells #[.int .i64 X, .int .i64 Y, .slice B m d] 24)).alloc (.cells #[.int .i64 U, .int .i64 V, .slice C k e] 24)).alloc (.cells #[.int .i64 W4, .int .i64 H4, .slice D n4 l] 24) = w0 at *
  obtain ⟨q0, q1, q2, q3, q4, q5, q6⟩ := X1.out.all
  obtain ⟨q7, q8, q9, q10, q11, q12, q13⟩ := X2.out.all
  obtain ⟨q14, q15, q16, q17, q18, q19, q20⟩ := X3.out.all
  go_wp2_with fail
  clear q0 q1 q2 q3 q4 q5 q6 q7 q8 q9 q10 q11 q12 q13 q14 q15 q16 q17 q18 q19 q20
  with_reducible refine Calls.mono (HT.out _) ?_
  rintro e w1 ⟨rfl, hb⟩
  have LB1 := Lib.hid (LB0.out.trans (hb.mono LB0.out.size))
  have X1 := Lib.hid (X1.out.below hb X1.out.lt)
  have X2 := Lib.hid (X2.out.below hb X2.out.lt)
  have X3 := Lib.hid (X3.out.below hb X3.out.lt)
  have X4 := Lib.hid (X4.out.below hb X4.out.lt)
  clear hb LB0 
  clear X1
  clear X2
  clear X3
  obtain ⟨q0, q1, q2, q3, q4, q5, q6⟩ := X4.out.all
  go_wp2_with fail
  clear q0 q1 q2 q3 q4 q5 q6
  with_reducible refine Calls.mono (HG.out _) ?_
  rintro e w2 ⟨rfl, hb⟩
  have LB2 := Lib.hid (LB1.out.trans (hb.mono LB1.out.size))
  have X4 := Lib.hid (X4.out.below hb X4.out.lt)
  clear hb LB1 
  obtain ⟨q0, q1, q2, q3, q4, q5, q6⟩ := X4.out.all
  go_wp2_with fail
  clear q0 q1 q2 q3 q4 q5 q6
  with_reducible refine Calls.mono (HC4.out _) ?_
  rintro e w3 ⟨rfl, hb⟩
  have LB3 := Lib.hid (LB2.out.trans (hb.mono LB2.out.size))
  have X4 := Lib.hid (X4.out.below hb X4.out.lt)
  clear hb LB2 
  go_wp2_with fail
  with_reducible refine Calls.mono (alive12_any _) ?_
  rintro e w4 ⟨rfl, hb⟩
  have LB4 := Lib.hid (LB3.out.trans (hb.mono LB3.out.size))
  have X4 := Lib.hid (X4.out.below hb X4.out.lt)
  clear hb LB3 
  go_wp2
  go_ret
  exact ⟨rfl, LB4.out⟩
set_option maxHeartbeats 3200000 in
theorem inv_n_none (W H X Y U V : Int) (A B C : Option Addr) (n c m d k e : Nat) (ht : thr n (fitZ (chk W H n) (chk X Y m) (chk U V k) W H X Y U V) W H 32 = false) (W4 H4 : Nat) (D : Option Addr) (l : Nat) (hq : W4 * H4 ≤ 1100) (hz : chk (W4 : Nat) (H4 : Nat) (W4 * H4) = 0) (w : World) (hN : ∀ u, Below w.heap.size w u → Calls Try.prog 42 #[.agg #[.int .i64 (W4 : Nat), .int .i64 (H4 : Nat), .slice D (W4 * H4) l]] u (ApN u 6)) :
    Calls Try.prog 13 #[.agg #[.int .i64 W, .int .i64 H, .slice A n c], .agg #[.int .i64 X, .int .i64 Y, .slice B m d], .agg #[.int .i64 U, .int .i64 V, .slice C k e], .agg #[.int .i64 (W4 : Nat), .int .i64 (H4 : Nat), .slice D (W4 * H4) l]] w fun e w' => e = .returned (.bool true) ∧ Below w.heap.size w w' := by
  have HT := Lib.hid (fun u => thr_any W H X Y U V A B C n c m d k e 32 u)
  rw [ht] at HT
  clear ht
  have HG := Lib.hid (fun u => great12_any (W4 : Nat) (H4 : Nat) D (W4 * H4) l u)
  rw [decide_eq_false (by omega)] at HG
  have HC4 := Lib.hid (fun u => rchk_all (W4 : Nat) (H4 : Nat) D (W4 * H4) l u)
  rw [hz] at HC4
  have HN := Lib.hid hN
  obtain ⟨n4, hn4⟩ : ∃ z, W4 * H4 = z := ⟨_, rfl⟩
  simp only [hn4] at HG HC4 HN hq ⊢
  clear hN hn4 hz
  have LB0 := Lib.hid (Below.refl w.heap.size w)
  have X1 := Lib.hid (Box.new w W H (.slice A n c))
  have LB0 := Lib.hid (LB0.out.alloc LB0.out.size (.cells #[.int .i64 W, .int .i64 H, .slice A n c] 24))
  have X1 := Lib.hid (X1.out.alloc (.cells #[.int .i64 X, .int .i64 Y, .slice B m d] 24))
  have X2 := Box.new (w.alloc (.cells #[.int .i64 W, .int .i64 H, .slice A n c] 24)) X Y (.slice B m d)
  rw [show ((w.alloc (.cells #[.int .i64 W, .int .i64 H, .slice A n c] 24))).heap.size = w.heap.size + 1 by simp] at X2
  have X2 := Lib.hid X2
  have LB0 := Lib.hid (LB0.out.alloc LB0.out.size (.cells #[.int .i64 X, .int .i64 Y, .slice B m d] 24))
  have X1 := Lib.hid (X1.out.alloc (.cells #[.int .i64 U, .int .i64 V, .slice C k e] 24))
  have X2 := Lib.hid (X2.out.alloc (.cells #[.int .i64 U, .int .i64 V, .slice C k e] 24))
  have X3 := Box.new ((w.alloc (.cells #[.int .i64 W, .int .i64 H, .slice A n c] 24)).alloc (.cells #[.int .i64 X, .int .i64 Y, .slice B m d] 24)) U V (.slice C k e)
  rw [show (((w.alloc (.cells #[.int .i64 W, .int .i64 H, .slice A n c] 24)).alloc (.cells #[.int .i64 X, .int .i64 Y, .slice B m d] 24))).heap.size = w.heap.size + 2 by simp] at X3
  have X3 := Lib.hid X3
  have LB0 := Lib.hid (LB0.out.alloc LB0.out.size (.cells #[.int .i64 U, .int .i64 V, .slice C k e] 24))
  have X1 := Lib.hid (X1.out.alloc (.cells #[.int .i64 (W4 : Nat), .int .i64 (H4 : Nat), .slice D n4 l] 24))
  have X2 := Lib.hid (X2.out.alloc (.cells #[.int .i64 (W4 : Nat), .int .i64 (H4 : Nat), .slice D n4 l] 24))
  have X3 := Lib.hid (X3.out.alloc (.cells #[.int .i64 (W4 : Nat), .int .i64 (H4 : Nat), .slice D n4 l] 24))
  have X4 := Box.new (((w.alloc (.cells #[.int .i64 W, .int .i64 H, .slice A n c] 24)).alloc (.cells #[.int .i64 X, .int .i64 Y, .slice B m d] 24)).alloc (.cells #[.int .i64 U, .int .i64 V, .slice C k e] 24)) (W4 : Nat) (H4 : Nat) (.slice D n4 l)
  rw [show ((((w.alloc (.cells #[.int .i64 W, .int .i64 H, .slice A n c] 24)).alloc (.cells #[.int .i64 X, .int .i64 Y, .slice B m d] 24)).alloc (.cells #[.int .i64 U, .int .i64 V, .slice C k e] 24))).heap.size = w.heap.size + 3 by simp] at X4
  have X4 := Lib.hid X4
  have LB0 := Lib.hid (LB0.out.alloc LB0.out.size (.cells #[.int .i64 (W4 : Nat), .int .i64 (H4 : Nat), .slice D n4 l] 24))
  go_enter Try.func13, Try.ntmps13
  go_upto_region 1 with (fail)
  generalize (((w.alloc (.cells #[.int .i64 W, .int .i64 H, .slice A n c] 24)).alloc (.cells #[.int .i64 X, .int .i64 Y, .slice B m d] 24)).alloc (.cells #[.int .i64 U, .int .i64 V, .slice C k e] 24)).alloc (.cells #[.int .i64 (W4 : Nat), .int .i64 (H4 : Nat), .slice D n4 l] 24) = w0 at *
  obtain ⟨q0, q1, q2, q3, q4, q5, q6⟩ := X1.out.all
  obtain ⟨q7, q8, q9, q10, q11, q12, q13⟩ := X2.out.all
  obtain ⟨q14, q15, q16, q17, q18, q19, q20⟩ := X3.out.all
  go_wp2_with fail
  clear q0 q1 q2 q3 q4 q5 q6 q7 q8 q9 q10 q11 q12 q13 q14 q15 q16 q17 q18 q19 q20
  with_reducible refine Calls.mono (HT.out _) ?_
  rintro e w1 ⟨rfl, hb⟩
  have LB1 := Lib.hid (LB0.out.trans (hb.mono LB0.out.size))
  have X1 := Lib.hid (X1.out.below hb X1.out.lt)
  have X2 := Lib.hid (X2.out.below hb X2.out.lt)
  have X3 := Lib.hid (X3.out.below hb X3.out.lt)
  have X4 := Lib.hid (X4.out.below hb X4.out.lt)
  clear hb LB0 
  clear X1
  clear X2
  clear X3
  obtain ⟨q0, q1, q2, q3, q4, q5, q6⟩ := X4.out.all
  go_wp2_with fail
  clear q0 q1 q2 q3 q4 q5 q6
  with_reducible refine Calls.mono (HG.out _) ?_
  rintro e w2 ⟨rfl, hb⟩
  have LB2 := Lib.hid (LB1.out.trans (hb.mono LB1.out.size))
  have X4 := Lib.hid (X4.out.below hb X4.out.lt)
  clear hb LB1 
  obtain ⟨q0, q1, q2, q3, q4, q5, q6⟩ := X4.out.all
  go_wp2_with fail
  clear q0 q1 q2 q3 q4 q5 q6
  with_reducible refine Calls.mono (HC4.out _) ?_
  rintro e w3 ⟨rfl, hb⟩
  have LB3 := Lib.hid (LB2.out.trans (hb.mono LB2.out.size))
  have X4 := Lib.hid (X4.out.below hb X4.out.lt)
  clear hb LB2 
  obtain ⟨q0, q1, q2, q3, q4, q5, q6⟩ := X4.out.all
  go_wp2_with fail
  clear q0 q1 q2 q3 q4 q5 q6
  with_reducible refine Calls.mono (HN.out _ LB3.out) ?_
  rintro e w4 ⟨rfl, hb⟩
  have LB4 := Lib.hid (LB3.out.trans (hb.mono LB3.out.size))
  have X4 := Lib.hid (X4.out.below hb X4.out.lt)
  clear hb LB3 
  have hb := ((((Below.refl w4.heap.size w4).alloc (by simp; try omega) (.cells #[.int .i64 0, .int .i64 0, .slice none 0 0] 24)).alloc (by simp; try omega) (.cells #[.int .i64 0, .int .i64 0, .slice none 0 0] 24)).alloc (by simp; try omega) (.cells #[.int .i64 0, .int .i64 0, .slice none 0 0] 24))
  have LB5 := Lib.hid (LB4.out.trans (hb.mono LB4.out.size))
  have X4 := Lib.hid (X4.out.below hb X4.out.lt)
  clear hb LB4
  go_upto_region 9 with (fail)
  generalize ((w4.alloc (.cells #[.int .i64 0, .int .i64 0, .slice none 0 0] 24)).alloc (.cells #[.int .i64 0, .int .i64 0, .slice none 0 0] 24)).alloc (.cells #[.int .i64 0, .int .i64 0, .slice none 0 0] 24) = w5 at *
  go_wp2_with fail
  with_reducible refine Calls.mono (alive12_any _) ?_
  rintro e w6 ⟨rfl, hb⟩
  have LB6 := Lib.hid (LB5.out.trans (hb.mono LB5.out.size))
  have X4 := Lib.hid (X4.out.below hb X4.out.lt)
  clear hb LB5 
  go_wp2
  go_ret
  exact ⟨rfl, LB6.out⟩
set_option maxHeartbeats 3200000 in
theorem inv_n_dbl (W H X Y U V : Int) (A B C : Option Addr) (n c m d k e : Nat) (ht : thr n (fitZ (chk W H n) (chk X Y m) (chk U V k) W H X Y U V) W H 32 = false) (P Q : Nat) (D : Option Addr) (l : Nat) (g : Nat → Bool) (hP0 : 1 ≤ P) (hP : P ≤ 32) (hQ0 : 1 ≤ Q) (hQ : Q ≤ 32) (hq : 2 * P * (2 * Q) ≤ 1100) (hD : isD P Q g = true) (w : World) (hg : Holds w w.heap.size D (2 * P * (2 * Q)) g) :
    Calls Try.prog 13 #[.agg #[.int .i64 W, .int .i64 H, .slice A n c], .agg #[.int .i64 X, .int .i64 Y, .slice B m d], .agg #[.int .i64 U, .int .i64 V, .slice C k e], .agg #[.int .i64 ((2 * P : Nat) : Int), .int .i64 ((2 * Q : Nat) : Int), .slice D (2 * P * (2 * Q)) l]] w fun e w' => e = .returned (.bool true) ∧ Below w.heap.size w w' := by
  have HT := Lib.hid (fun u => thr_any W H X Y U V A B C n c m d k e 32 u)
  rw [ht] at HT
  clear ht
  have HG := Lib.hid (fun u => great12_any ((2 * P : Nat) : Int) ((2 * Q : Nat) : Int) D (2 * P * (2 * Q)) l u)
  rw [decide_eq_false (by omega)] at HG
  have HC4 := Lib.hid (fun u => rchk_all ((2 * P : Nat) : Int) ((2 * Q : Nat) : Int) D (2 * P * (2 * Q)) l u)
  rw [chk_zero (W := 2 * P) (H := 2 * Q) (by omega) (by omega) (by omega) (by omega)] at HC4
  have HN := Lib.hid (fun u (hb : Below w.heap.size w u) => (apart_even (c := l) P Q hP0 hP hQ0 hQ ((hg.below hb).more hb.size)).2 hD)
  have HV4 := Lib.hid (fun u A1 c1 A2 c2 A3 c3 (h1 : Holds u u.heap.size A1 (P * Q) (e2f P g 0 0)) (h2 : Holds u u.heap.size A2 (P * Q) (e2f P g 1 1)) (h3 : Holds u u.heap.size A3 (P * Q) (e2f P g 0 1)) => weave_ok (c := c1) (d := c2) (e := c3) hP0 hP hQ0 hQ u h1 h2 h3)
  have HS4 := Lib.hid (fun u k d (hb : Below w.heap.size w u) (h : Row u k (2 * P * (2 * Q)) (dbl P (e2f P g 0 0) (e2f P g 1 1) (e2f P g 0 1))) => rsame_t (W := ((2 * P : Nat) : Int)) (H := ((2 * Q : Nat) : Int)) (c := d) (d := l) (show 2 * P * (2 * Q) ≤ 5000 by omega) (of_decide_eq_true hD) u (h.holds h.lt) ((hg.below hb).more hb.size))
  obtain ⟨F4, hF4⟩ : ∃ F, dbl P (e2f P g 0 0) (e2f P g 1 1) (e2f P g 0 1) = F := ⟨_, rfl⟩
  obtain ⟨P2, hP2⟩ : ∃ z, 2 * P = z := ⟨_, rfl⟩
  obtain ⟨Q2, hQ2⟩ : ∃ z, 2 * Q = z := ⟨_, rfl⟩
  simp only [hF4, hP2, hQ2] at HG HC4 HN HV4 HS4 hq ⊢
  obtain ⟨n4, hn4⟩ : ∃ z, P2 * Q2 = z := ⟨_, rfl⟩
  have HN4 := Lib.hid hn4
  simp only [hn4] at HG HC4 HN HS4 hq ⊢
  obtain ⟨R4, hR4⟩ : ∃ z, P * Q = z := ⟨_, rfl⟩
  have HR4 := Lib.hid hR4
  simp only [hR4] at HV4
  clear hg hF4 hP2 hQ2 hn4 hR4 hD
  have LB0 := Lib.hid (Below.refl w.heap.size w)
  have X1 := Lib.hid (Box.new w W H (.slice A n c))
  have LB0 := Lib.hid (LB0.out.alloc LB0.out.size (.cells #[.int .i64 W, .int .i64 H, .slice A n c] 24))
  have X1 := Lib.hid (X1.out.alloc (.cells #[.int .i64 X, .int .i64 Y, .slice B m d] 24))
  have X2 := Box.new (w.alloc (.cells #[.int .i64 W, .int .i64 H, .slice A n c] 24)) X Y (.slice B m d)
  rw [show ((w.alloc (.cells #[.int .i64 W, .int .i64 H, .slice A n c] 24))).heap.size = w.heap.size + 1 by simp] at X2
  have X2 := Lib.hid X2
  have LB0 := Lib.hid (LB0.out.alloc LB0.out.size (.cells #[.int .i64 X, .int .i64 Y, .slice B m d] 24))
  have X1 := Lib.hid (X1.out.alloc (.cells #[.int .i64 U, .int .i64 V, .slice C k e] 24))
  have X2 := Lib.hid (X2.out.alloc (.cells #[.int .i64 U, .int .i64 V, .slice C k e] 24))
  have X3 := Box.new ((w.alloc (.cells #[.int .i64 W, .int .i64 H, .slice A n c] 24)).alloc (.cells #[.int .i64 X, .int .i64 Y, .slice B m d] 24)) U V (.slice C k e)
  rw [show (((w.alloc (.cells #[.int .i64 W, .int .i64 H, .slice A n c] 24)).alloc (.cells #[.int .i64 X, .int .i64 Y, .slice B m d] 24))).heap.size = w.heap.size + 2 by simp] at X3
  have X3 := Lib.hid X3
  have LB0 := Lib.hid (LB0.out.alloc LB0.out.size (.cells #[.int .i64 U, .int .i64 V, .slice C k e] 24))
  have X1 := Lib.hid (X1.out.alloc (.cells #[.int .i64 (P2 : Nat), .int .i64 (Q2 : Nat), .slice D n4 l] 24))
  have X2 := Lib.hid (X2.out.alloc (.cells #[.int .i64 (P2 : Nat), .int .i64 (Q2 : Nat), .slice D n4 l] 24))
  have X3 := Lib.hid (X3.out.alloc (.cells #[.int .i64 (P2 : Nat), .int .i64 (Q2 : Nat), .slice D n4 l] 24))
  have X4 := Box.new (((w.alloc (.cells #[.int .i64 W, .int .i64 H, .slice A n c] 24)).alloc (.cells #[.int .i64 X, .int .i64 Y, .slice B m d] 24)).alloc (.cells #[.int .i64 U, .int .i64 V, .slice C k e] 24)) (P2 : Nat) (Q2 : Nat) (.slice D n4 l)
  rw [show ((((w.alloc (.cells #[.int .i64 W, .int .i64 H, .slice A n c] 24)).alloc (.cells #[.int .i64 X, .int .i64 Y, .slice B m d] 24)).alloc (.cells #[.int .i64 U, .int .i64 V, .slice C k e] 24))).heap.size = w.heap.size + 3 by simp] at X4
  have X4 := Lib.hid X4
  have LB0 := Lib.hid (LB0.out.alloc LB0.out.size (.cells #[.int .i64 (P2 : Nat), .int .i64 (Q2 : Nat), .slice D n4 l] 24))
  go_enter Try.func13, Try.ntmps13
  go_upto_region 1 with (fail)
  generalize (((w.alloc (.cells #[.int .i64 W, .int .i64 H, .slice A n c] 24)).alloc (.cells #[.int .i64 X, .int .i64 Y, .slice B m d] 24)).alloc (.cells #[.int .i64 U, .int .i64 V, .slice C k e] 24)).alloc (.cells #[.int .i64 (P2 : Nat), .int .i64 (Q2 : Nat), .slice D n4 l] 24) = w0 at *
  obtain ⟨q0, q1, q2, q3, q4, q5, q6⟩ := X1.out.all
  obtain ⟨q7, q8, q9, q10, q11, q12, q13⟩ := X2.out.all
  obtain ⟨q14, q15, q16, q17, q18, q19, q20⟩ := X3.out.all
  go_wp2_with fail
  clear q0 q1 q2 q3 q4 q5 q6 q7 q8 q9 q10 q11 q12 q13 q14 q15 q16 q17 q18 q19 q20
  with_reducible refine Calls.mono (HT.out _) ?_
  rintro e w1 ⟨rfl, hb⟩
  have LB1 := Lib.hid (LB0.out.trans (hb.mono LB0.out.size))
  have X1 := Lib.hid (X1.out.below hb X1.out.lt)
  have X2 := Lib.hid (X2.out.below hb X2.out.lt)
  have X3 := Lib.hid (X3.out.below hb X3.out.lt)
  have X4 := Lib.hid (X4.out.below hb X4.out.lt)
  clear hb LB0 
  clear X1
  clear X2
  clear X3
  obtain ⟨q0, q1, q2, q3, q4, q5, q6⟩ := X4.out.all
  go_wp2_with fail
  clear q0 q1 q2 q3 q4 q5 q6
  with_reducible refine Calls.mono (HG.out _) ?_
  rintro e w2 ⟨rfl, hb⟩
  have LB2 := Lib.hid (LB1.out.trans (hb.mono LB1.out.size))
  have X4 := Lib.hid (X4.out.below hb X4.out.lt)
  clear hb LB1 
  obtain ⟨q0, q1, q2, q3, q4, q5, q6⟩ := X4.out.all
  go_wp2_with fail
  clear q0 q1 q2 q3 q4 q5 q6
  with_reducible refine Calls.mono (HC4.out _) ?_
  rintro e w3 ⟨rfl, hb⟩
  have LB3 := Lib.hid (LB2.out.trans (hb.mono LB2.out.size))
  have X4 := Lib.hid (X4.out.below hb X4.out.lt)
  clear hb LB2 
  obtain ⟨q0, q1, q2, q3, q4, q5, q6⟩ := X4.out.all
  go_wp2_with fail
  clear q0 q1 q2 q3 q4 q5 q6
  with_reducible refine Calls.mono (HN.out _ LB3.out) ?_
  rintro e w4 ⟨A5, c5, A6, c6, A7, c7, rfl, hh5, hh6, hh7, hb⟩
  have LB4 := Lib.hid (LB3.out.trans (hb.mono LB3.out.size))
  have X4 := Lib.hid (X4.out.below hb X4.out.lt)
  have H5 := Lib.hid hh5
  have H6 := Lib.hid hh6
  have H7 := Lib.hid hh7
  clear hb LB3 hh5 hh6 hh7
  simp only [HR4.out] at H5 H6 H7 ⊢
  have hb := ((((Below.refl w4.heap.size w4).alloc (by simp; try omega) (.cells #[.int .i64 (P : Nat), .int .i64 (Q : Nat), .slice A5 R4 c5] 24)).alloc (by simp; try omega) (.cells #[.int .i64 (P : Nat), .int .i64 (Q : Nat), .slice A6 R4 c6] 24)).alloc (by simp; try omega) (.cells #[.int .i64 (P : Nat), .int .i64 (Q : Nat), .slice A7 R4 c7] 24))
  have LB5 := Lib.hid (LB4.out.trans (hb.mono LB4.out.size))
  have X4 := Lib.hid (X4.out.below hb X4.out.lt)
  have H5 := Lib.hid ((H5.out.below hb).more hb.size)
  have H6 := Lib.hid ((H6.out.below hb).more hb.size)
  have H7 := Lib.hid ((H7.out.below hb).more hb.size)
  have Y5 := Box.new w4 (P : Nat) (Q : Nat) (.slice A5 R4 c5)
  have Y5 := Lib.hid Y5
  have Y5 := Lib.hid (Y5.out.alloc (.cells #[.int .i64 (P : Nat), .int .i64 (Q : Nat), .slice A6 R4 c6] 24))
  have Y5 := Lib.hid (Y5.out.alloc (.cells #[.int .i64 (P : Nat), .int .i64 (Q : Nat), .slice A7 R4 c7] 24))
  have Y6 := Box.new (w4.alloc (.cells #[.int .i64 (P : Nat), .int .i64 (Q : Nat), .slice A5 R4 c5] 24)) (P : Nat) (Q : Nat) (.slice A6 R4 c6)
  rw [show (w4.alloc (.cells #[.int .i64 (P : Nat), .int .i64 (Q : Nat), .slice A5 R4 c5] 24)).heap.size = w4.heap.size + 1 by simp] at Y6
  have Y6 := Lib.hid Y6
  have Y6 := Lib.hid (Y6.out.alloc (.cells #[.int .i64 (P : Nat), .int .i64 (Q : Nat), .slice A7 R4 c7] 24))
  have Y7 := Box.new ((w4.alloc (.cells #[.int .i64 (P : Nat), .int .i64 (Q : Nat), .slice A5 R4 c5] 24)).alloc (.cells #[.int .i64 (P : Nat), .int .i64 (Q : Nat), .slice A6 R4 c6] 24)) (P : Nat) (Q : Nat) (.slice A7 R4 c7)
  rw [show ((w4.alloc (.cells #[.int .i64 (P : Nat), .int .i64 (Q : Nat), .slice A5 R4 c5] 24)).alloc (.cells #[.int .i64 (P : Nat), .int .i64 (Q : Nat), .slice A6 R4 c6] 24)).heap.size = w4.heap.size + 1 + 1 by simp] at Y7
  have Y7 := Lib.hid Y7
  clear hb LB4
  go_upto_region 9 with (fail)
  obtain ⟨y7, hy7⟩ : ∃ z, w4.heap.size + 1 + 1 = z := ⟨_, rfl⟩
  rw [hy7] at Y7
  try rw [hy7]
  obtain ⟨y6, hy6⟩ : ∃ z, w4.heap.size + 1 = z := ⟨_, rfl⟩
  rw [hy6] at Y6
  try rw [hy6]
  obtain ⟨y5, hy5⟩ : ∃ z, w4.heap.size = z := ⟨_, rfl⟩
  rw [hy5] at Y5
  try rw [hy5]
  clear hy5 hy6 hy7
  generalize ((w4.alloc (.cells #[.int .i64 (P : Nat), .int .i64 (Q : Nat), .slice A5 R4 c5] 24)).alloc (.cells #[.int .i64 (P : Nat), .int .i64 (Q : Nat), .slice A6 R4 c6] 24)).alloc (.cells #[.int .i64 (P : Nat), .int .i64 (Q : Nat), .slice A7 R4 c7] 24) = w5 at *
  obtain ⟨q0, q1, q2, q3, q4, q5, q6⟩ := Y5.out.all
  obtain ⟨q7, q8, q9, q10, q11, q12, q13⟩ := Y6.out.all
  obtain ⟨q14, q15, q16, q17, q18, q19, q20⟩ := Y7.out.all
  go_wp2_with fail
  clear q0 q1 q2 q3 q4 q5 q6 q7 q8 q9 q10 q11 q12 q13 q14 q15 q16 q17 q18 q19 q20
  with_reducible refine Calls.mono (HV4.out _ _ _ _ _ _ _ H5.out H6.out H7.out) ?_
  rintro e w6 ⟨kf, df, rfl, hkf, hrow, hb⟩
  have LB6 := Lib.hid (LB5.out.trans (hb.mono LB5.out.size))
  have X4 := Lib.hid (X4.out.below hb X4.out.lt)
  have H5 := Lib.hid ((H5.out.below hb).more hb.size)
  have H6 := Lib.hid ((H6.out.below hb).more hb.size)
  have H7 := Lib.hid ((H7.out.below hb).more hb.size)
  have Y5 := Lib.hid (Y5.out.below hb Y5.out.lt)
  have Y6 := Lib.hid (Y6.out.below hb Y6.out.lt)
  have Y7 := Lib.hid (Y7.out.below hb Y7.out.lt)
  have RF := Lib.hid hrow
  clear hb LB5 hrow
  clear H5
  clear H6
  clear H7
  clear Y5
  clear Y6
  clear Y7
  rw [HN4.out] at RF ⊢
  have hb := ((Below.refl w6.heap.size w6).alloc (by simp; try omega) (.cells #[.int .i64 (P2 : Nat), .int .i64 (Q2 : Nat), .slice (some ⟨kf, 0, none⟩) n4 df] 24))
  have LB7 := Lib.hid (LB6.out.trans (hb.mono LB6.out.size))
  have X4 := Lib.hid (X4.out.below hb X4.out.lt)
  have RF := Lib.hid (RF.out.below hb RF.out.lt)
  have XF := Box.new w6 (P2 : Nat) (Q2 : Nat) (.slice (some ⟨kf, 0, none⟩) n4 df)
  have XF := Lib.hid XF
  clear hb LB6
  go_upto_region 12 with (fail)
  obtain ⟨fb, hfb⟩ : ∃ z, w6.heap.size = z := ⟨_, rfl⟩
  rw [hfb] at XF
  try rw [hfb]
  clear hfb
  generalize w6.alloc (.cells #[.int .i64 (P2 : Nat), .int .i64 (Q2 : Nat), .slice (some ⟨kf, 0, none⟩) n4 df] 24) = w7 at *
  obtain ⟨q0, q1, q2, q3, q4, q5, q6⟩ := XF.out.all
  obtain ⟨q7, q8, q9, q10, q11, q12, q13⟩ := X4.out.all
  go_wp2_with fail
  clear q0 q1 q2 q3 q4 q5 q6 q7 q8 q9 q10 q11 q12 q13
  with_reducible refine Calls.mono (HS4.out _ _ _ LB7.out RF.out) ?_
  rintro e w8 ⟨rfl, hb⟩
  have LB8 := Lib.hid (LB7.out.trans (hb.mono LB7.out.size))
  have X4 := Lib.hid (X4.out.below hb X4.out.lt)
  have RF := Lib.hid (RF.out.below hb RF.out.lt)
  have XF := Lib.hid (XF.out.below hb XF.out.lt)
  clear hb LB7 
  go_wp2_with fail
  with_reducible refine Calls.mono (alive12_any _) ?_
  rintro e w9 ⟨rfl, hb⟩
  have LB9 := Lib.hid (LB8.out.trans (hb.mono LB8.out.size))
  have X4 := Lib.hid (X4.out.below hb X4.out.lt)
  have RF := Lib.hid (RF.out.below hb RF.out.lt)
  have XF := Lib.hid (XF.out.below hb XF.out.lt)
  clear hb LB8 
  go_wp2
  go_ret
  exact ⟨rfl, LB9.out⟩
set_option maxHeartbeats 3200000 in
theorem inv_y_great (W H : Nat) (A B C : Option Addr) (c d e : Nat) (a b mo : Nat → Bool) (hW0 : 1 ≤ W) (hW : W ≤ 32) (hH0 : 1 ≤ H) (hH : H ≤ 32) (hn1 : W * H ≤ 1100) (W4 H4 : Int) (D : Option Addr) (n4 l : Nat) (hq : 1100 < n4) (w : World) (ha : Holds w w.heap.size A (W * H) a) (hb1 : Holds w w.heap.size B (W * H) b) (hm : Holds w w.heap.size C (W * H) mo) :
    Calls Try.prog 13 #[.agg #[.int .i64 (W : Nat), .int .i64 (H : Nat), .slice A (W * H) c], .agg #[.int .i64 (W : Nat), .int .i64 (H : Nat), .slice B (W * H) d], .agg #[.int .i64 (W : Nat), .int .i64 (H : Nat), .slice C (W * H) e], .agg #[.int .i64 W4, .int .i64 H4, .slice D n4 l]] w fun e w' => e = .returned (.bool true) ∧ Below w.heap.size w w' := by
  have hz0 := chk_zero (W := W) (H := H) hW0 (by omega) hH0 (by omega)
  have HT := Lib.hid (fun u => thr_any (W : Nat) (H : Nat) (W : Nat) (H : Nat) (W : Nat) (H : Nat) A B C (W * H) c (W * H) d (W * H) e 32 u)
  rw [fitZ_valid hW0 (by omega) hH0 (by omega), show thr (W * H) 0 (W : Nat) (H : Nat) 32 = true by unfold thr; rw [decide_eq_true hn1, decide_eq_true (show (W : Int) ≤ 32 by omega), decide_eq_true (show (H : Int) ≤ 32 by omega)]; rfl] at HT
  have HWV := Lib.hid (fun u (hb : Below w.heap.size w u) => weave_ok (c := c) (d := d) (e := e) hW0 hW hH0 hH u ((ha.below hb).more hb.size) ((hb1.below hb).more hb.size) ((hm.below hb).more hb.size))
  have HAP := Lib.hid (fun u k d (h : Row u k (2 * W * (2 * H)) (dbl W a b mo)) => apart_dbl (d := d) hW0 hW hH0 hH u h)
  have HS1 := Lib.hid (fun u A1 c1 (hb : Below w.heap.size w u) (h : Holds u u.heap.size A1 (W * H) a) => rsame_t (W := (W : Nat)) (H := (H : Nat)) (c := c1) (d := c) (show W * H ≤ 5000 by omega) (fun _ _ => rfl) u h ((ha.below hb).more hb.size))
  have HS2 := Lib.hid (fun u A1 c1 (hb : Below w.heap.size w u) (h : Holds u u.heap.size A1 (W * H) b) => rsame_t (W := (W : Nat)) (H := (H : Nat)) (c := c1) (d := d) (show W * H ≤ 5000 by omega) (fun _ _ => rfl) u h ((hb1.below hb).more hb.size))
  have HS3 := Lib.hid (fun u A1 c1 (hb : Below w.heap.size w u) (h : Holds u u.heap.size A1 (W * H) mo) => rsame_t (W := (W : Nat)) (H := (H : Nat)) (c := c1) (d := e) (show W * H ≤ 5000 by omega) (fun _ _ => rfl) u h ((hm.below hb).more hb.size))
  have w1e : IntKind.i64.wrap (2 * (W : Int)) = ((2 * W : Nat) : Int) := by rw [IntWalk.i64_in _ (by omega)]; omega
  have w2e : IntKind.i64.wrap (2 * (H : Int)) = ((2 * H : Nat) : Int) := by rw [IntWalk.i64_in _ (by omega)]; omega
  obtain ⟨F, hF⟩ : ∃ F, dbl W a b mo = F := ⟨_, rfl⟩
  obtain ⟨W2, hW2⟩ : ∃ z, 2 * W = z := ⟨_, rfl⟩
  obtain ⟨H2, hH2⟩ : ∃ z, 2 * H = z := ⟨_, rfl⟩
  simp only [hF, hW2, hH2] at HWV HAP w1e w2e
  obtain ⟨N2, hN2⟩ : ∃ z, W2 * H2 = z := ⟨_, rfl⟩
  have HN2 := Lib.hid hN2
  simp only [hN2] at HAP
  obtain ⟨M, hMe⟩ : ∃ z, W * H = z := ⟨_, rfl⟩
  have HME := Lib.hid hMe
  simp only [hMe] at HT HWV HS1 HS2 HS3 hn1 ⊢
  clear ha hb1 hm hF hW2 hH2 hN2 hMe hz0
  have HG := Lib.hid (fun u => great12_any W4 H4 D n4 l u)
  rw [decide_eq_true hq] at HG
  have LB0 := Lib.hid (Below.refl w.heap.size w)
  have X1 := Lib.hid (Box.new w (W : Nat) (H : Nat) (.slice A M c))
  have LB0 := Lib.hid (LB0.out.alloc LB0.out.size (.cells #[.int .i64 (W : Nat), .int .i64 (H : Nat), .slice A M c] 24))
  have X1 := Lib.hid (X1.out.alloc (.cells #[.int .i64 (W : Nat), .int .i64 (H : Nat), .slice B M d] 24))
  have X2 := Box.new (w.alloc (.cells #[.int .i64 (W : Nat), .int .i64 (H : Nat), .slice A M c] 24)) (W : Nat) (H : Nat) (.slice B M d)
  rw [show ((w.alloc (.cells #[.int .i64 (W : Nat), .int .i64 (H : Nat), .slice A M c] 24))).heap.size = w.heap.size + 1 by simp] at X2
  have X2 := Lib.hid X2
  have LB0 := Lib.hid (LB0.out.alloc LB0.out.size (.cells #[.int .i64 (W : Nat), .int .i64 (H : Nat), .slice B M d] 24))
  have X1 := Lib.hid (X1.out.alloc (.cells #[.int .i64 (W : Nat), .int .i64 (H : Nat), .slice C M e] 24))
  have X2 := Lib.hid (X2.out.alloc (.cells #[.int .i64 (W : Nat), .int .i64 (H : Nat), .slice C M e] 24))
  have X3 := Box.new ((w.alloc (.cells #[.int .i64 (W : Nat), .int .i64 (H : Nat), .slice A M c] 24)).alloc (.cells #[.int .i64 (W : Nat), .int .i64 (H : Nat), .slice B M d] 24)) (W : Nat) (H : Nat) (.slice C M e)
  rw [show (((w.alloc (.cells #[.int .i64 (W : Nat), .int .i64 (H : Nat), .slice A M c] 24)).alloc (.cells #[.int .i64 (W : Nat), .int .i64 (H : Nat), .slice B M d] 24))).heap.size = w.heap.size + 2 by simp] at X3
  have X3 := Lib.hid X3
  have LB0 := Lib.hid (LB0.out.alloc LB0.out.size (.cells #[.int .i64 (W : Nat), .int .i64 (H : Nat), .slice C M e] 24))
  have X1 := Lib.hid (X1.out.alloc (.cells #[.int .i64 W4, .int .i64 H4, .slice D n4 l] 24))
  have X2 := Lib.hid (X2.out.alloc (.cells #[.int .i64 W4, .int .i64 H4, .slice D n4 l] 24))
  have X3 := Lib.hid (X3.out.alloc (.cells #[.int .i64 W4, .int .i64 H4, .slice D n4 l] 24))
  have X4 := Box.new (((w.alloc (.cells #[.int .i64 (W : Nat), .int .i64 (H : Nat), .slice A M c] 24)).alloc (.cells #[.int .i64 (W : Nat), .int .i64 (H : Nat), .slice B M d] 24)).alloc (.cells #[.int .i64 (W : Nat), .int .i64 (H : Nat), .slice C M e] 24)) W4 H4 (.slice D n4 l)
  rw [show ((((w.alloc (.cells #[.int .i64 (W : Nat), .int .i64 (H : Nat), .slice A M c] 24)).alloc (.cells #[.int .i64 (W : Nat), .int .i64 (H : Nat), .slice B M d] 24)).alloc (.cells #[.int .i64 (W : Nat), .int .i64 (H : Nat), .slice C M e] 24))).heap.size = w.heap.size + 3 by simp] at X4
  have X4 := Lib.hid X4
  have LB0 := Lib.hid (LB0.out.alloc LB0.out.size (.cells #[.int .i64 W4, .int .i64 H4, .slice D n4 l] 24))
  go_enter Try.func13, Try.ntmps13
  go_upto_region 1 with (fail)
  generalize (((w.alloc (.cells #[.int .i64 (W : Nat), .int .i64 (H : Nat), .slice A M c] 24)).alloc (.cells #[.int .i64 (W : Nat), .int .i64 (H : Nat), .slice B M d] 24)).alloc (.cells #[.int .i64 (W : Nat), .int .i64 (H : Nat), .slice C M e] 24)).alloc (.cells #[.int .i64 W4, .int .i64 H4, .slice D n4 l] 24) = w0 at *
  obtain ⟨q0, q1, q2, q3, q4, q5, q6⟩ := X1.out.all
  obtain ⟨q7, q8, q9, q10, q11, q12, q13⟩ := X2.out.all
  obtain ⟨q14, q15, q16, q17, q18, q19, q20⟩ := X3.out.all
  go_wp2_with fail
  clear q0 q1 q2 q3 q4 q5 q6 q7 q8 q9 q10 q11 q12 q13 q14 q15 q16 q17 q18 q19 q20
  with_reducible refine Calls.mono (HT.out _) ?_
  rintro e w1 ⟨rfl, hb⟩
  have LB1 := Lib.hid (LB0.out.trans (hb.mono LB0.out.size))
  have X1 := Lib.hid (X1.out.below hb X1.out.lt)
  have X2 := Lib.hid (X2.out.below hb X2.out.lt)
  have X3 := Lib.hid (X3.out.below hb X3.out.lt)
  have X4 := Lib.hid (X4.out.below hb X4.out.lt)
  clear hb LB0 
  obtain ⟨q0, q1, q2, q3, q4, q5, q6⟩ := X1.out.all
  obtain ⟨q7, q8, q9, q10, q11, q12, q13⟩ := X2.out.all
  obtain ⟨q14, q15, q16, q17, q18, q19, q20⟩ := X3.out.all
  go_wp2_with fail
  clear q0 q1 q2 q3 q4 q5 q6 q7 q8 q9 q10 q11 q12 q13 q14 q15 q16 q17 q18 q19 q20
  with_reducible refine Calls.mono (HWV.out _ LB1.out) ?_
  rintro e w2 ⟨kd, dd, rfl, hkd, hrow, hb⟩
  have LB2 := Lib.hid (LB1.out.trans (hb.mono LB1.out.size))
  have X1 := Lib.hid (X1.out.below hb X1.out.lt)
  have X2 := Lib.hid (X2.out.below hb X2.out.lt)
  have X3 := Lib.hid (X3.out.below hb X3.out.lt)
  have X4 := Lib.hid (X4.out.below hb X4.out.lt)
  have RD := Lib.hid hrow
  clear hb LB1 hrow
  rw [HN2.out] at RD ⊢
  have hb := ((Below.refl w2.heap.size w2).alloc (by simp; try omega) (.cells #[.int .i64 (W2 : Nat), .int .i64 (H2 : Nat), .slice (some ⟨kd, 0, none⟩) N2 dd] 24))
  have LB3 := Lib.hid (LB2.out.trans (hb.mono LB2.out.size))
  have X1 := Lib.hid (X1.out.below hb X1.out.lt)
  have X2 := Lib.hid (X2.out.below hb X2.out.lt)
  have X3 := Lib.hid (X3.out.below hb X3.out.lt)
  have X4 := Lib.hid (X4.out.below hb X4.out.lt)
  have RD := Lib.hid (RD.out.below hb RD.out.lt)
  have XD := Box.new w2 (W2 : Nat) (H2 : Nat) (.slice (some ⟨kd, 0, none⟩) N2 dd)
  have XD := Lib.hid XD
  clear hb LB2
  go_upto_region 3 with (fail)
  obtain ⟨db, hdb⟩ : ∃ z, w2.heap.size = z := ⟨_, rfl⟩
  rw [hdb] at XD
  try rw [hdb]
  clear hdb
  generalize w2.alloc (.cells #[.int .i64 (W2 : Nat), .int .i64 (H2 : Nat), .slice (some ⟨kd, 0, none⟩) N2 dd] 24) = w3 at *
  obtain ⟨q0, q1, q2, q3, q4, q5, q6⟩ := XD.out.all
  go_wp2_with fail
  clear q0 q1 q2 q3 q4 q5 q6
  with_reducible refine Calls.mono (HAP.out _ _ _ RD.out) ?_
  rintro e w4 ⟨A1, c1, A2, c2, A3, c3, rfl, hh1, hh2, hh3, hb⟩
  have LB4 := Lib.hid (LB3.out.trans (hb.mono LB3.out.size))
  have X1 := Lib.hid (X1.out.below hb X1.out.lt)
  have X2 := Lib.hid (X2.out.below hb X2.out.lt)
  have X3 := Lib.hid (X3.out.below hb X3.out.lt)
  have X4 := Lib.hid (X4.out.below hb X4.out.lt)
  have RD := Lib.hid (RD.out.below hb RD.out.lt)
  have XD := Lib.hid (XD.out.below hb XD.out.lt)
  have H1 := Lib.hid hh1
  have H2h := Lib.hid hh2
  have H3 := Lib.hid hh3
  clear hb LB3 hh1 hh2 hh3
  simp only [HME.out] at H1 H2h H3 ⊢
  have hb := ((((Below.refl w4.heap.size w4).alloc (by simp; try omega) (.cells #[.int .i64 (W : Nat), .int .i64 (H : Nat), .slice A1 M c1] 24)).alloc (by simp; try omega) (.cells #[.int .i64 (W : Nat), .int .i64 (H : Nat), .slice A2 M c2] 24)).alloc (by simp; try omega) (.cells #[.int .i64 (W : Nat), .int .i64 (H : Nat), .slice A3 M c3] 24))
  have LB5 := Lib.hid (LB4.out.trans (hb.mono LB4.out.size))
  have X1 := Lib.hid (X1.out.below hb X1.out.lt)
  have X2 := Lib.hid (X2.out.below hb X2.out.lt)
  have X3 := Lib.hid (X3.out.below hb X3.out.lt)
  have X4 := Lib.hid (X4.out.below hb X4.out.lt)
  have RD := Lib.hid (RD.out.below hb RD.out.lt)
  have XD := Lib.hid (XD.out.below hb XD.out.lt)
  have H1 := Lib.hid ((H1.out.below hb).more hb.size)
  have H2h := Lib.hid ((H2h.out.below hb).more hb.size)
  have H3 := Lib.hid ((H3.out.below hb).more hb.size)
  have Y1 := Box.new w4 (W : Nat) (H : Nat) (.slice A1 M c1)
  have Y1 := Lib.hid Y1
  have Y1 := Lib.hid (Y1.out.alloc (.cells #[.int .i64 (W : Nat), .int .i64 (H : Nat), .slice A2 M c2] 24))
  have Y1 := Lib.hid (Y1.out.alloc (.cells #[.int .i64 (W : Nat), .int .i64 (H : Nat), .slice A3 M c3] 24))
  have Y2 := Box.new (w4.alloc (.cells #[.int .i64 (W : Nat), .int .i64 (H : Nat), .slice A1 M c1] 24)) (W : Nat) (H : Nat) (.slice A2 M c2)
  rw [show (w4.alloc (.cells #[.int .i64 (W : Nat), .int .i64 (H : Nat), .slice A1 M c1] 24)).heap.size = w4.heap.size + 1 by simp] at Y2
  have Y2 := Lib.hid Y2
  have Y2 := Lib.hid (Y2.out.alloc (.cells #[.int .i64 (W : Nat), .int .i64 (H : Nat), .slice A3 M c3] 24))
  have Y3 := Box.new ((w4.alloc (.cells #[.int .i64 (W : Nat), .int .i64 (H : Nat), .slice A1 M c1] 24)).alloc (.cells #[.int .i64 (W : Nat), .int .i64 (H : Nat), .slice A2 M c2] 24)) (W : Nat) (H : Nat) (.slice A3 M c3)
  rw [show ((w4.alloc (.cells #[.int .i64 (W : Nat), .int .i64 (H : Nat), .slice A1 M c1] 24)).alloc (.cells #[.int .i64 (W : Nat), .int .i64 (H : Nat), .slice A2 M c2] 24)).heap.size = w4.heap.size + 1 + 1 by simp] at Y3
  have Y3 := Lib.hid Y3
  clear hb LB4
  go_upto_region 4 with (fail)
  obtain ⟨y3, hy3⟩ : ∃ z, w4.heap.size + 1 + 1 = z := ⟨_, rfl⟩
  rw [hy3] at Y3
  try rw [hy3]
  obtain ⟨y2, hy2⟩ : ∃ z, w4.heap.size + 1 = z := ⟨_, rfl⟩
  rw [hy2] at Y2
  try rw [hy2]
  obtain ⟨y1, hy1⟩ : ∃ z, w4.heap.size = z := ⟨_, rfl⟩
  rw [hy1] at Y1
  try rw [hy1]
  clear hy1 hy2 hy3
  generalize ((w4.alloc (.cells #[.int .i64 (W : Nat), .int .i64 (H : Nat), .slice A1 M c1] 24)).alloc (.cells #[.int .i64 (W : Nat), .int .i64 (H : Nat), .slice A2 M c2] 24)).alloc (.cells #[.int .i64 (W : Nat), .int .i64 (H : Nat), .slice A3 M c3] 24) = w5 at *
  obtain ⟨q0, q1, q2, q3, q4, q5, q6⟩ := XD.out.all
  obtain ⟨q7, q8, q9, q10, q11, q12, q13⟩ := X1.out.all
  obtain ⟨q14, q15, q16, q17, q18, q19, q20⟩ := Y1.out.all
  go_wp2_with fail
  clear q0 q1 q2 q3 q4 q5 q6 q7 q8 q9 q10 q11 q12 q13 q14 q15 q16 q17 q18 q19 q20
  with_reducible refine Calls.mono (HS1.out _ _ _ LB5.out H1.out) ?_
  rintro e w6 ⟨rfl, hb⟩
  have LB6 := Lib.hid (LB5.out.trans (hb.mono LB5.out.size))
  have X1 := Lib.hid (X1.out.below hb X1.out.lt)
  have X2 := Lib.hid (X2.out.below hb X2.out.lt)
  have X3 := Lib.hid (X3.out.below hb X3.out.lt)
  have X4 := Lib.hid (X4.out.below hb X4.out.lt)
  have RD := Lib.hid (RD.out.below hb RD.out.lt)
  have XD := Lib.hid (XD.out.below hb XD.out.lt)
  have H1 := Lib.hid ((H1.out.below hb).more hb.size)
  have H2h := Lib.hid ((H2h.out.below hb).more hb.size)
  have H3 := Lib.hid ((H3.out.below hb).more hb.size)
  have Y1 := Lib.hid (Y1.out.below hb Y1.out.lt)
  have Y2 := Lib.hid (Y2.out.below hb Y2.out.lt)
  have Y3 := Lib.hid (Y3.out.below hb Y3.out.lt)
  clear hb LB5 
  obtain ⟨q0, q1, q2, q3, q4, q5, q6⟩ := X2.out.all
  obtain ⟨q7, q8, q9, q10, q11, q12, q13⟩ := Y2.out.all
  go_wp2_with fail
  clear q0 q1 q2 q3 q4 q5 q6 q7 q8 q9 q10 q11 q12 q13
  with_reducible refine Calls.mono (HS2.out _ _ _ LB6.out H2h.out) ?_
  rintro e w7 ⟨rfl, hb⟩
  have LB7 := Lib.hid (LB6.out.trans (hb.mono LB6.out.size))
  have X1 := Lib.hid (X1.out.below hb X1.out.lt)
  have X2 := Lib.hid (X2.out.below hb X2.out.lt)
  have X3 := Lib.hid (X3.out.below hb X3.out.lt)
  have X4 := Lib.hid (X4.out.below hb X4.out.lt)
  have RD := Lib.hid (RD.out.below hb RD.out.lt)
  have XD := Lib.hid (XD.out.below hb XD.out.lt)
  have H1 := Lib.hid ((H1.out.below hb).more hb.size)
  have H2h := Lib.hid ((H2h.out.below hb).more hb.size)
  have H3 := Lib.hid ((H3.out.below hb).more hb.size)
  have Y1 := Lib.hid (Y1.out.below hb Y1.out.lt)
  have Y2 := Lib.hid (Y2.out.below hb Y2.out.lt)
  have Y3 := Lib.hid (Y3.out.below hb Y3.out.lt)
  clear hb LB6 
  obtain ⟨q0, q1, q2, q3, q4, q5, q6⟩ := X3.out.all
  obtain ⟨q7, q8, q9, q10, q11, q12, q13⟩ := Y3.out.all
  go_wp2_with fail
  clear q0 q1 q2 q3 q4 q5 q6 q7 q8 q9 q10 q11 q12 q13
  with_reducible refine Calls.mono (HS3.out _ _ _ LB7.out H3.out) ?_
  rintro e w8 ⟨rfl, hb⟩
  have LB8 := Lib.hid (LB7.out.trans (hb.mono LB7.out.size))
  have X1 := Lib.hid (X1.out.below hb X1.out.lt)
  have X2 := Lib.hid (X2.out.below hb X2.out.lt)
  have X3 := Lib.hid (X3.out.below hb X3.out.lt)
  have X4 := Lib.hid (X4.out.below hb X4.out.lt)
  have RD := Lib.hid (RD.out.below hb RD.out.lt)
  have XD := Lib.hid (XD.out.below hb XD.out.lt)
  have H1 := Lib.hid ((H1.out.below hb).more hb.size)
  have H2h := Lib.hid ((H2h.out.below hb).more hb.size)
  have H3 := Lib.hid ((H3.out.below hb).more hb.size)
  have Y1 := Lib.hid (Y1.out.below hb Y1.out.lt)
  have Y2 := Lib.hid (Y2.out.below hb Y2.out.lt)
  have Y3 := Lib.hid (Y3.out.below hb Y3.out.lt)
  clear hb LB7 
  clear RD
  clear XD
  clear H1
  clear H2h
  clear H3
  clear Y1
  clear Y2
  clear Y3
  clear X1
  clear X2
  clear X3
  obtain ⟨q0, q1, q2, q3, q4, q5, q6⟩ := X4.out.all
  go_wp2_with fail
  clear q0 q1 q2 q3 q4 q5 q6
  with_reducible refine Calls.mono (HG.out _) ?_
  rintro e w9 ⟨rfl, hb⟩
  have LB9 := Lib.hid (LB8.out.trans (hb.mono LB8.out.size))
  have X4 := Lib.hid (X4.out.below hb X4.out.lt)
  clear hb LB8 
  go_wp2_with fail
  with_reducible refine Calls.mono (alive12_any _) ?_
  rintro e w10 ⟨rfl, hb⟩
  have LB10 := Lib.hid (LB9.out.trans (hb.mono LB9.out.size))
  have X4 := Lib.hid (X4.out.below hb X4.out.lt)
  clear hb LB9 
  go_wp2
  go_ret
  exact ⟨rfl, LB10.out⟩
set_option maxHeartbeats 3200000 in
theorem inv_y_bad (W H : Nat) (A B C : Option Addr) (c d e : Nat) (a b mo : Nat → Bool) (hW0 : 1 ≤ W) (hW : W ≤ 32) (hH0 : 1 ≤ H) (hH : H ≤ 32) (hn1 : W * H ≤ 1100) (W4 H4 : Int) (D : Option Addr) (n4 l : Nat) (hq : n4 ≤ 1100) (z : Int) (hz : chk W4 H4 n4 = z) (hne : (z != 0) = true) (w : World) (ha : Holds w w.heap.size A (W * H) a) (hb1 : Holds w w.heap.size B (W * H) b) (hm : Holds w w.heap.size C (W * H) mo) :
    Calls Try.prog 13 #[.agg #[.int .i64 (W : Nat), .int .i64 (H : Nat), .slice A (W * H) c], .agg #[.int .i64 (W : Nat), .int .i64 (H : Nat), .slice B (W * H) d], .agg #[.int .i64 (W : Nat), .int .i64 (H : Nat), .slice C (W * H) e], .agg #[.int .i64 W4, .int .i64 H4, .slice D n4 l]] w fun e w' => e = .returned (.bool true) ∧ Below w.heap.size w w' := by
  have hz0 := chk_zero (W := W) (H := H) hW0 (by omega) hH0 (by omega)
  have HT := Lib.hid (fun u => thr_any (W : Nat) (H : Nat) (W : Nat) (H : Nat) (W : Nat) (H : Nat) A B C (W * H) c (W * H) d (W * H) e 32 u)
  rw [fitZ_valid hW0 (by omega) hH0 (by omega), show thr (W * H) 0 (W : Nat) (H : Nat) 32 = true by unfold thr; rw [decide_eq_true hn1, decide_eq_true (show (W : Int) ≤ 32 by omega), decide_eq_true (show (H : Int) ≤ 32 by omega)]; rfl] at HT
  have HWV := Lib.hid (fun u (hb : Below w.heap.size w u) => weave_ok (c := c) (d := d) (e := e) hW0 hW hH0 hH u ((ha.below hb).more hb.size) ((hb1.below hb).more hb.size) ((hm.below hb).more hb.size))
  have HAP := Lib.hid (fun u k d (h : Row u k (2 * W * (2 * H)) (dbl W a b mo)) => apart_dbl (d := d) hW0 hW hH0 hH u h)
  have HS1 := Lib.hid (fun u A1 c1 (hb : Below w.heap.size w u) (h : Holds u u.heap.size A1 (W * H) a) => rsame_t (W := (W : Nat)) (H := (H : Nat)) (c := c1) (d := c) (show W * H ≤ 5000 by omega) (fun _ _ => rfl) u h ((ha.below hb).more hb.size))
  have HS2 := Lib.hid (fun u A1 c1 (hb : Below w.heap.size w u) (h : Holds u u.heap.size A1 (W * H) b) => rsame_t (W := (W : Nat)) (H := (H : Nat)) (c := c1) (d := d) (show W * H ≤ 5000 by omega) (fun _ _ => rfl) u h ((hb1.below hb).more hb.size))
  have HS3 := Lib.hid (fun u A1 c1 (hb : Below w.heap.size w u) (h : Holds u u.heap.size A1 (W * H) mo) => rsame_t (W := (W : Nat)) (H := (H : Nat)) (c := c1) (d := e) (show W * H ≤ 5000 by omega) (fun _ _ => rfl) u h ((hm.below hb).more hb.size))
  have w1e : IntKind.i64.wrap (2 * (W : Int)) = ((2 * W : Nat) : Int) := by rw [IntWalk.i64_in _ (by omega)]; omega
  have w2e : IntKind.i64.wrap (2 * (H : Int)) = ((2 * H : Nat) : Int) := by rw [IntWalk.i64_in _ (by omega)]; omega
  obtain ⟨F, hF⟩ : ∃ F, dbl W a b mo = F := ⟨_, rfl⟩
  obtain ⟨W2, hW2⟩ : ∃ z, 2 * W = z := ⟨_, rfl⟩
  obtain ⟨H2, hH2⟩ : ∃ z, 2 * H = z := ⟨_, rfl⟩
  simp only [hF, hW2, hH2] at HWV HAP w1e w2e
  obtain ⟨N2, hN2⟩ : ∃ z, W2 * H2 = z := ⟨_, rfl⟩
  have HN2 := Lib.hid hN2
  simp only [hN2] at HAP
  obtain ⟨M, hMe⟩ : ∃ z, W * H = z := ⟨_, rfl⟩
  have HME := Lib.hid hMe
  simp only [hMe] at HT HWV HS1 HS2 HS3 hn1 ⊢
  clear ha hb1 hm hF hW2 hH2 hN2 hMe hz0
  have HG := Lib.hid (fun u => great12_any W4 H4 D n4 l u)
  rw [decide_eq_false (by omega)] at HG
  have HC4 := Lib.hid (fun u => rchk_all W4 H4 D n4 l u)
  rw [hz] at HC4
  have hne2 : (z == 0) = false := by rw [bne] at hne; simpa using hne
  have LB0 := Lib.hid (Below.refl w.heap.size w)
  have X1 := Lib.hid (Box.new w (W : Nat) (H : Nat) (.slice A M c))
  have LB0 := Lib.hid (LB0.out.alloc LB0.out.size (.cells #[.int .i64 (W : Nat), .int .i64 (H : Nat), .slice A M c] 24))
  have X1 := Lib.hid (X1.out.alloc (.cells #[.int .i64 (W : Nat), .int .i64 (H : Nat), .slice B M d] 24))
  have X2 := Box.new (w.alloc (.cells #[.int .i64 (W : Nat), .int .i64 (H : Nat), .slice A M c] 24)) (W : Nat) (H : Nat) (.slice B M d)
  rw [show ((w.alloc (.cells #[.int .i64 (W : Nat), .int .i64 (H : Nat), .slice A M c] 24))).heap.size = w.heap.size + 1 by simp] at X2
  have X2 := Lib.hid X2
  have LB0 := Lib.hid (LB0.out.alloc LB0.out.size (.cells #[.int .i64 (W : Nat), .int .i64 (H : Nat), .slice B M d] 24))
  have X1 := Lib.hid (X1.out.alloc (.cells #[.int .i64 (W : Nat), .int .i64 (H : Nat), .slice C M e] 24))
  have X2 := Lib.hid (X2.out.alloc (.cells #[.int .i64 (W : Nat), .int .i64 (H : Nat), .slice C M e] 24))
  have X3 := Box.new ((w.alloc (.cells #[.int .i64 (W : Nat), .int .i64 (H : Nat), .slice A M c] 24)).alloc (.cells #[.int .i64 (W : Nat), .int .i64 (H : Nat), .slice B M d] 24)) (W : Nat) (H : Nat) (.slice C M e)
  rw [show (((w.alloc (.cells #[.int .i64 (W : Nat), .int .i64 (H : Nat), .slice A M c] 24)).alloc (.cells #[.int .i64 (W : Nat), .int .i64 (H : Nat), .slice B M d] 24))).heap.size = w.heap.size + 2 by simp] at X3
  have X3 := Lib.hid X3
  have LB0 := Lib.hid (LB0.out.alloc LB0.out.size (.cells #[.int .i64 (W : Nat), .int .i64 (H : Nat), .slice C M e] 24))
  have X1 := Lib.hid (X1.out.alloc (.cells #[.int .i64 W4, .int .i64 H4, .slice D n4 l] 24))
  have X2 := Lib.hid (X2.out.alloc (.cells #[.int .i64 W4, .int .i64 H4, .slice D n4 l] 24))
  have X3 := Lib.hid (X3.out.alloc (.cells #[.int .i64 W4, .int .i64 H4, .slice D n4 l] 24))
  have X4 := Box.new (((w.alloc (.cells #[.int .i64 (W : Nat), .int .i64 (H : Nat), .slice A M c] 24)).alloc (.cells #[.int .i64 (W : Nat), .int .i64 (H : Nat), .slice B M d] 24)).alloc (.cells #[.int .i64 (W : Nat), .int .i64 (H : Nat), .slice C M e] 24)) W4 H4 (.slice D n4 l)
  rw [show ((((w.alloc (.cells #[.int .i64 (W : Nat), .int .i64 (H : Nat), .slice A M c] 24)).alloc (.cells #[.int .i64 (W : Nat), .int .i64 (H : Nat), .slice B M d] 24)).alloc (.cells #[.int .i64 (W : Nat), .int .i64 (H : Nat), .slice C M e] 24))).heap.size = w.heap.size + 3 by simp] at X4
  have X4 := Lib.hid X4
  have LB0 := Lib.hid (LB0.out.alloc LB0.out.size (.cells #[.int .i64 W4, .int .i64 H4, .slice D n4 l] 24))
  go_enter Try.func13, Try.ntmps13
  go_upto_region 1 with (fail)
  generalize (((w.alloc (.cells #[.int .i64 (W : Nat), .int .i64 (H : Nat), .slice A M c] 24)).alloc (.cells #[.int .i64 (W : Nat), .int .i64 (H : Nat), .slice B M d] 24)).alloc (.cells #[.int .i64 (W : Nat), .int .i64 (H : Nat), .slice C M e] 24)).alloc (.cells #[.int .i64 W4, .int .i64 H4, .slice D n4 l] 24) = w0 at *
  obtain ⟨q0, q1, q2, q3, q4, q5, q6⟩ := X1.out.all
  obtain ⟨q7, q8, q9, q10, q11, q12, q13⟩ := X2.out.all
  obtain ⟨q14, q15, q16, q17, q18, q19, q20⟩ := X3.out.all
  go_wp2_with fail
  clear q0 q1 q2 q3 q4 q5 q6 q7 q8 q9 q10 q11 q12 q13 q14 q15 q16 q17 q18 q19 q20
  with_reducible refine Calls.mono (HT.out _) ?_
  rintro e w1 ⟨rfl, hb⟩
  have LB1 := Lib.hid (LB0.out.trans (hb.mono LB0.out.size))
  have X1 := Lib.hid (X1.out.below hb X1.out.lt)
  have X2 := Lib.hid (X2.out.below hb X2.out.lt)
  have X3 := Lib.hid (X3.out.below hb X3.out.lt)
  have X4 := Lib.hid (X4.out.below hb X4.out.lt)
  clear hb LB0 
  obtain ⟨q0, q1, q2, q3, q4, q5, q6⟩ := X1.out.all
  obtain ⟨q7, q8, q9, q10, q11, q12, q13⟩ := X2.out.all
  obtain ⟨q14, q15, q16, q17, q18, q19, q20⟩ := X3.out.all
  go_wp2_with fail
  clear q0 q1 q2 q3 q4 q5 q6 q7 q8 q9 q10 q11 q12 q13 q14 q15 q16 q17 q18 q19 q20
  with_reducible refine Calls.mono (HWV.out _ LB1.out) ?_
  rintro e w2 ⟨kd, dd, rfl, hkd, hrow, hb⟩
  have LB2 := Lib.hid (LB1.out.trans (hb.mono LB1.out.size))
  have X1 := Lib.hid (X1.out.below hb X1.out.lt)
  have X2 := Lib.hid (X2.out.below hb X2.out.lt)
  have X3 := Lib.hid (X3.out.below hb X3.out.lt)
  have X4 := Lib.hid (X4.out.below hb X4.out.lt)
  have RD := Lib.hid hrow
  clear hb LB1 hrow
  rw [HN2.out] at RD ⊢
  have hb := ((Below.refl w2.heap.size w2).alloc (by simp; try omega) (.cells #[.int .i64 (W2 : Nat), .int .i64 (H2 : Nat), .slice (some ⟨kd, 0, none⟩) N2 dd] 24))
  have LB3 := Lib.hid (LB2.out.trans (hb.mono LB2.out.size))
  have X1 := Lib.hid (X1.out.below hb X1.out.lt)
  have X2 := Lib.hid (X2.out.below hb X2.out.lt)
  have X3 := Lib.hid (X3.out.below hb X3.out.lt)
  have X4 := Lib.hid (X4.out.below hb X4.out.lt)
  have RD := Lib.hid (RD.out.below hb RD.out.lt)
  have XD := Box.new w2 (W2 : Nat) (H2 : Nat) (.slice (some ⟨kd, 0, none⟩) N2 dd)
  have XD := Lib.hid XD
  clear hb LB2
  go_upto_region 3 with (fail)
  obtain ⟨db, hdb⟩ : ∃ z, w2.heap.size = z := ⟨_, rfl⟩
  rw [hdb] at XD
  try rw [hdb]
  clear hdb
  generalize w2.alloc (.cells #[.int .i64 (W2 : Nat), .int .i64 (H2 : Nat), .slice (some ⟨kd, 0, none⟩) N2 dd] 24) = w3 at *
  obtain ⟨q0, q1, q2, q3, q4, q5, q6⟩ := XD.out.all
  go_wp2_with fail
  clear q0 q1 q2 q3 q4 q5 q6
  with_reducible refine Calls.mono (HAP.out _ _ _ RD.out) ?_
  rintro e w4 ⟨A1, c1, A2, c2, A3, c3, rfl, hh1, hh2, hh3, hb⟩
  have LB4 := Lib.hid (LB3.out.trans (hb.mono LB3.out.size))
  have X1 := Lib.hid (X1.out.below hb X1.out.lt)
  have X2 := Lib.hid (X2.out.below hb X2.out.lt)
  have X3 := Lib.hid (X3.out.below hb X3.out.lt)
  have X4 := Lib.hid (X4.out.below hb X4.out.lt)
  have RD := Lib.hid (RD.out.below hb RD.out.lt)
  have XD := Lib.hid (XD.out.below hb XD.out.lt)
  have H1 := Lib.hid hh1
  have H2h := Lib.hid hh2
  have H3 := Lib.hid hh3
  clear hb LB3 hh1 hh2 hh3
  simp only [HME.out] at H1 H2h H3 ⊢
  have hb := ((((Below.refl w4.heap.size w4).alloc (by simp; try omega) (.cells #[.int .i64 (W : Nat), .int .i64 (H : Nat), .slice A1 M c1] 24)).alloc (by simp; try omega) (.cells #[.int .i64 (W : Nat), .int .i64 (H : Nat), .slice A2 M c2] 24)).alloc (by simp; try omega) (.cells #[.int .i64 (W : Nat), .int .i64 (H : Nat), .slice A3 M c3] 24))
  have LB5 := Lib.hid (LB4.out.trans (hb.mono LB4.out.size))
  have X1 := Lib.hid (X1.out.below hb X1.out.lt)
  have X2 := Lib.hid (X2.out.below hb X2.out.lt)
  have X3 := Lib.hid (X3.out.below hb X3.out.lt)
  have X4 := Lib.hid (X4.out.below hb X4.out.lt)
  have RD := Lib.hid (RD.out.below hb RD.out.lt)
  have XD := Lib.hid (XD.out.below hb XD.out.lt)
  have H1 := Lib.hid ((H1.out.below hb).more hb.size)
  have H2h := Lib.hid ((H2h.out.below hb).more hb.size)
  have H3 := Lib.hid ((H3.out.below hb).more hb.size)
  have Y1 := Box.new w4 (W : Nat) (H : Nat) (.slice A1 M c1)
  have Y1 := Lib.hid Y1
  have Y1 := Lib.hid (Y1.out.alloc (.cells #[.int .i64 (W : Nat), .int .i64 (H : Nat), .slice A2 M c2] 24))
  have Y1 := Lib.hid (Y1.out.alloc (.cells #[.int .i64 (W : Nat), .int .i64 (H : Nat), .slice A3 M c3] 24))
  have Y2 := Box.new (w4.alloc (.cells #[.int .i64 (W : Nat), .int .i64 (H : Nat), .slice A1 M c1] 24)) (W : Nat) (H : Nat) (.slice A2 M c2)
  rw [show (w4.alloc (.cells #[.int .i64 (W : Nat), .int .i64 (H : Nat), .slice A1 M c1] 24)).heap.size = w4.heap.size + 1 by simp] at Y2
  have Y2 := Lib.hid Y2
  have Y2 := Lib.hid (Y2.out.alloc (.cells #[.int .i64 (W : Nat), .int .i64 (H : Nat), .slice A3 M c3] 24))
  have Y3 := Box.new ((w4.alloc (.cells #[.int .i64 (W : Nat), .int .i64 (H : Nat), .slice A1 M c1] 24)).alloc (.cells #[.int .i64 (W : Nat), .int .i64 (H : Nat), .slice A2 M c2] 24)) (W : Nat) (H : Nat) (.slice A3 M c3)
  rw [show ((w4.alloc (.cells #[.int .i64 (W : Nat), .int .i64 (H : Nat), .slice A1 M c1] 24)).alloc (.cells #[.int .i64 (W : Nat), .int .i64 (H : Nat), .slice A2 M c2] 24)).heap.size = w4.heap.size + 1 + 1 by simp] at Y3
  have Y3 := Lib.hid Y3
  clear hb LB4
  go_upto_region 4 with (fail)
  obtain ⟨y3, hy3⟩ : ∃ z, w4.heap.size + 1 + 1 = z := ⟨_, rfl⟩
  rw [hy3] at Y3
  try rw [hy3]
  obtain ⟨y2, hy2⟩ : ∃ z, w4.heap.size + 1 = z := ⟨_, rfl⟩
  rw [hy2] at Y2
  try rw [hy2]
  obtain ⟨y1, hy1⟩ : ∃ z, w4.heap.size = z := ⟨_, rfl⟩
  rw [hy1] at Y1
  try rw [hy1]
  clear hy1 hy2 hy3
  generalize ((w4.alloc (.cells #[.int .i64 (W : Nat), .int .i64 (H : Nat), .slice A1 M c1] 24)).alloc (.cells #[.int .i64 (W : Nat), .int .i64 (H : Nat), .slice A2 M c2] 24)).alloc (.cells #[.int .i64 (W : Nat), .int .i64 (H : Nat), .slice A3 M c3] 24) = w5 at *
  obtain ⟨q0, q1, q2, q3, q4, q5, q6⟩ := XD.out.all
  obtain ⟨q7, q8, q9, q10, q11, q12, q13⟩ := X1.out.all
  obtain ⟨q14, q15, q16, q17, q18, q19, q20⟩ := Y1.out.all
  go_wp2_with fail
  clear q0 q1 q2 q3 q4 q5 q6 q7 q8 q9 q10 q11 q12 q13 q14 q15 q16 q17 q18 q19 q20
  with_reducible refine Calls.mono (HS1.out _ _ _ LB5.out H1.out) ?_
  rintro e w6 ⟨rfl, hb⟩
  have LB6 := Lib.hid (LB5.out.trans (hb.mono LB5.out.size))
  have X1 := Lib.hid (X1.out.below hb X1.out.lt)
  have X2 := Lib.hid (X2.out.below hb X2.out.lt)
  have X3 := Lib.hid (X3.out.below hb X3.out.lt)
  have X4 := Lib.hid (X4.out.below hb X4.out.lt)
  have RD := Lib.hid (RD.out.below hb RD.out.lt)
  have XD := Lib.hid (XD.out.below hb XD.out.lt)
  have H1 := Lib.hid ((H1.out.below hb).more hb.size)
  have H2h := Lib.hid ((H2h.out.below hb).more hb.size)
  have H3 := Lib.hid ((H3.out.below hb).more hb.size)
  have Y1 := Lib.hid (Y1.out.below hb Y1.out.lt)
  have Y2 := Lib.hid (Y2.out.below hb Y2.out.lt)
  have Y3 := Lib.hid (Y3.out.below hb Y3.out.lt)
  clear hb LB5 
  obtain ⟨q0, q1, q2, q3, q4, q5, q6⟩ := X2.out.all
  obtain ⟨q7, q8, q9, q10, q11, q12, q13⟩ := Y2.out.all
  go_wp2_with fail
  clear q0 q1 q2 q3 q4 q5 q6 q7 q8 q9 q10 q11 q12 q13
  with_reducible refine Calls.mono (HS2.out _ _ _ LB6.out H2h.out) ?_
  rintro e w7 ⟨rfl, hb⟩
  have LB7 := Lib.hid (LB6.out.trans (hb.mono LB6.out.size))
  have X1 := Lib.hid (X1.out.below hb X1.out.lt)
  have X2 := Lib.hid (X2.out.below hb X2.out.lt)
  have X3 := Lib.hid (X3.out.below hb X3.out.lt)
  have X4 := Lib.hid (X4.out.below hb X4.out.lt)
  have RD := Lib.hid (RD.out.below hb RD.out.lt)
  have XD := Lib.hid (XD.out.below hb XD.out.lt)
  have H1 := Lib.hid ((H1.out.below hb).more hb.size)
  have H2h := Lib.hid ((H2h.out.below hb).more hb.size)
  have H3 := Lib.hid ((H3.out.below hb).more hb.size)
  have Y1 := Lib.hid (Y1.out.below hb Y1.out.lt)
  have Y2 := Lib.hid (Y2.out.below hb Y2.out.lt)
  have Y3 := Lib.hid (Y3.out.below hb Y3.out.lt)
  clear hb LB6 
  obtain ⟨q0, q1, q2, q3, q4, q5, q6⟩ := X3.out.all
  obtain ⟨q7, q8, q9, q10, q11, q12, q13⟩ := Y3.out.all
  go_wp2_with fail
  clear q0 q1 q2 q3 q4 q5 q6 q7 q8 q9 q10 q11 q12 q13
  with_reducible refine Calls.mono (HS3.out _ _ _ LB7.out H3.out) ?_
  rintro e w8 ⟨rfl, hb⟩
  have LB8 := Lib.hid (LB7.out.trans (hb.mono LB7.out.size))
  have X1 := Lib.hid (X1.out.below hb X1.out.lt)
  have X2 := Lib.hid (X2.out.below hb X2.out.lt)
  have X3 := Lib.hid (X3.out.below hb X3.out.lt)
  have X4 := Lib.hid (X4.out.below hb X4.out.lt)
  have RD := Lib.hid (RD.out.below hb RD.out.lt)
  have XD := Lib.hid (XD.out.below hb XD.out.lt)
  have H1 := Lib.hid ((H1.out.below hb).more hb.size)
  have H2h := Lib.hid ((H2h.out.below hb).more hb.size)
  have H3 := Lib.hid ((H3.out.below hb).more hb.size)
  have Y1 := Lib.hid (Y1.out.below hb Y1.out.lt)
  have Y2 := Lib.hid (Y2.out.below hb Y2.out.lt)
  have Y3 := Lib.hid (Y3.out.below hb Y3.out.lt)
  clear hb LB7 
  clear RD
  clear XD
  clear H1
  clear H2h
  clear H3
  clear Y1
  clear Y2
  clear Y3
  clear X1
  clear X2
  clear X3
  obtain ⟨q0, q1, q2, q3, q4, q5, q6⟩ := X4.out.all
  go_wp2_with fail
  clear q0 q1 q2 q3 q4 q5 q6
  with_reducible refine Calls.mono (HG.out _) ?_
  rintro e w9 ⟨rfl, hb⟩
  have LB9 := Lib.hid (LB8.out.trans (hb.mono LB8.out.size))
  have X4 := Lib.hid (X4.out.below hb X4.out.lt)
  clear hb LB8 
  obtain ⟨q0, q1, q2, q3, q4, q5, q6⟩ := X4.out.all
  go_wp2_with fail
  clear q0 q1 q2 q3 q4 q5 q6
  with_reducible refine Calls.mono (HC4.out _) ?_
  rintro e w10 ⟨rfl, hb⟩
  have LB10 := Lib.hid (LB9.out.trans (hb.mono LB9.out.size))
  have X4 := Lib.hid (X4.out.below hb X4.out.lt)
  clear hb LB9 
  go_wp2_with fail
  with_reducible refine Calls.mono (alive12_any _) ?_
  rintro e w11 ⟨rfl, hb⟩
  have LB11 := Lib.hid (LB10.out.trans (hb.mono LB10.out.size))
  have X4 := Lib.hid (X4.out.below hb X4.out.lt)
  clear hb LB10 
  go_wp2
  go_ret
  exact ⟨rfl, LB11.out⟩
set_option maxHeartbeats 3200000 in
theorem inv_y_none (W H : Nat) (A B C : Option Addr) (c d e : Nat) (a b mo : Nat → Bool) (hW0 : 1 ≤ W) (hW : W ≤ 32) (hH0 : 1 ≤ H) (hH : H ≤ 32) (hn1 : W * H ≤ 1100) (W4 H4 : Nat) (D : Option Addr) (l : Nat) (hq : W4 * H4 ≤ 1100) (hz : chk (W4 : Nat) (H4 : Nat) (W4 * H4) = 0) (w : World) (ha : Holds w w.heap.size A (W * H) a) (hb1 : Holds w w.heap.size B (W * H) b) (hm : Holds w w.heap.size C (W * H) mo) (hN : ∀ u, Below w.heap.size w u → Calls Try.prog 42 #[.agg #[.int .i64 (W4 : Nat), .int .i64 (H4 : Nat), .slice D (W4 * H4) l]] u (ApN u 6)) :
    Calls Try.prog 13 #[.agg #[.int .i64 (W : Nat), .int .i64 (H : Nat), .slice A (W * H) c], .agg #[.int .i64 (W : Nat), .int .i64 (H : Nat), .slice B (W * H) d], .agg #[.int .i64 (W : Nat), .int .i64 (H : Nat), .slice C (W * H) e], .agg #[.int .i64 (W4 : Nat), .int .i64 (H4 : Nat), .slice D (W4 * H4) l]] w fun e w' => e = .returned (.bool true) ∧ Below w.heap.size w w' := by
  have hz0 := chk_zero (W := W) (H := H) hW0 (by omega) hH0 (by omega)
  have HT := Lib.hid (fun u => thr_any (W : Nat) (H : Nat) (W : Nat) (H : Nat) (W : Nat) (H : Nat) A B C (W * H) c (W * H) d (W * H) e 32 u)
  rw [fitZ_valid hW0 (by omega) hH0 (by omega), show thr (W * H) 0 (W : Nat) (H : Nat) 32 = true by unfold thr; rw [decide_eq_true hn1, decide_eq_true (show (W : Int) ≤ 32 by omega), decide_eq_true (show (H : Int) ≤ 32 by omega)]; rfl] at HT
  have HWV := Lib.hid (fun u (hb : Below w.heap.size w u) => weave_ok (c := c) (d := d) (e := e) hW0 hW hH0 hH u ((ha.below hb).more hb.size) ((hb1.below hb).more hb.size) ((hm.below hb).more hb.size))
  have HAP := Lib.hid (fun u k d (h : Row u k (2 * W * (2 * H)) (dbl W a b mo)) => apart_dbl (d := d) hW0 hW hH0 hH u h)
  have HS1 := Lib.hid (fun u A1 c1 (hb : Below w.heap.size w u) (h : Holds u u.heap.size A1 (W * H) a) => rsame_t (W := (W : Nat)) (H := (H : Nat)) (c := c1) (d := c) (show W * H ≤ 5000 by omega) (fun _ _ => rfl) u h ((ha.below hb).more hb.size))
  have HS2 := Lib.hid (fun u A1 c1 (hb : Below w.heap.size w u) (h : Holds u u.heap.size A1 (W * H) b) => rsame_t (W := (W : Nat)) (H := (H : Nat)) (c := c1) (d := d) (show W * H ≤ 5000 by omega) (fun _ _ => rfl) u h ((hb1.below hb).more hb.size))
  have HS3 := Lib.hid (fun u A1 c1 (hb : Below w.heap.size w u) (h : Holds u u.heap.size A1 (W * H) mo) => rsame_t (W := (W : Nat)) (H := (H : Nat)) (c := c1) (d := e) (show W * H ≤ 5000 by omega) (fun _ _ => rfl) u h ((hm.below hb).more hb.size))
  have w1e : IntKind.i64.wrap (2 * (W : Int)) = ((2 * W : Nat) : Int) := by rw [IntWalk.i64_in _ (by omega)]; omega
  have w2e : IntKind.i64.wrap (2 * (H : Int)) = ((2 * H : Nat) : Int) := by rw [IntWalk.i64_in _ (by omega)]; omega
  obtain ⟨F, hF⟩ : ∃ F, dbl W a b mo = F := ⟨_, rfl⟩
  obtain ⟨W2, hW2⟩ : ∃ z, 2 * W = z := ⟨_, rfl⟩
  obtain ⟨H2, hH2⟩ : ∃ z, 2 * H = z := ⟨_, rfl⟩
  simp only [hF, hW2, hH2] at HWV HAP w1e w2e
  obtain ⟨N2, hN2⟩ : ∃ z, W2 * H2 = z := ⟨_, rfl⟩
  have HN2 := Lib.hid hN2
  simp only [hN2] at HAP
  obtain ⟨M, hMe⟩ : ∃ z, W * H = z := ⟨_, rfl⟩
  have HME := Lib.hid hMe
  simp only [hMe] at HT HWV HS1 HS2 HS3 hn1 ⊢
  clear ha hb1 hm hF hW2 hH2 hN2 hMe hz0
  have HG := Lib.hid (fun u => great12_any (W4 : Nat) (H4 : Nat) D (W4 * H4) l u)
  rw [decide_eq_false (by omega)] at HG
  have HC4 := Lib.hid (fun u => rchk_all (W4 : Nat) (H4 : Nat) D (W4 * H4) l u)
  rw [hz] at HC4
  have HN := Lib.hid hN
  obtain ⟨n4, hn4⟩ : ∃ z, W4 * H4 = z := ⟨_, rfl⟩
  simp only [hn4] at HG HC4 HN hq ⊢
  clear hN hn4 hz
  have LB0 := Lib.hid (Below.refl w.heap.size w)
  have X1 := Lib.hid (Box.new w (W : Nat) (H : Nat) (.slice A M c))
  have LB0 := Lib.hid (LB0.out.alloc LB0.out.size (.cells #[.int .i64 (W : Nat), .int .i64 (H : Nat), .slice A M c] 24))
  have X1 := Lib.hid (X1.out.alloc (.cells #[.int .i64 (W : Nat), .int .i64 (H : Nat), .slice B M d] 24))
  have X2 := Box.new (w.alloc (.cells #[.int .i64 (W : Nat), .int .i64 (H : Nat), .slice A M c] 24)) (W : Nat) (H : Nat) (.slice B M d)
  rw [show ((w.alloc (.cells #[.int .i64 (W : Nat), .int .i64 (H : Nat), .slice A M c] 24))).heap.size = w.heap.size + 1 by simp] at X2
  have X2 := Lib.hid X2
  have LB0 := Lib.hid (LB0.out.alloc LB0.out.size (.cells #[.int .i64 (W : Nat), .int .i64 (H : Nat), .slice B M d] 24))
  have X1 := Lib.hid (X1.out.alloc (.cells #[.int .i64 (W : Nat), .int .i64 (H : Nat), .slice C M e] 24))
  have X2 := Lib.hid (X2.out.alloc (.cells #[.int .i64 (W : Nat), .int .i64 (H : Nat), .slice C M e] 24))
  have X3 := Box.new ((w.alloc (.cells #[.int .i64 (W : Nat), .int .i64 (H : Nat), .slice A M c] 24)).alloc (.cells #[.int .i64 (W : Nat), .int .i64 (H : Nat), .slice B M d] 24)) (W : Nat) (H : Nat) (.slice C M e)
  rw [show (((w.alloc (.cells #[.int .i64 (W : Nat), .int .i64 (H : Nat), .slice A M c] 24)).alloc (.cells #[.int .i64 (W : Nat), .int .i64 (H : Nat), .slice B M d] 24))).heap.size = w.heap.size + 2 by simp] at X3
  have X3 := Lib.hid X3
  have LB0 := Lib.hid (LB0.out.alloc LB0.out.size (.cells #[.int .i64 (W : Nat), .int .i64 (H : Nat), .slice C M e] 24))
  have X1 := Lib.hid (X1.out.alloc (.cells #[.int .i64 (W4 : Nat), .int .i64 (H4 : Nat), .slice D n4 l] 24))
  have X2 := Lib.hid (X2.out.alloc (.cells #[.int .i64 (W4 : Nat), .int .i64 (H4 : Nat), .slice D n4 l] 24))
  have X3 := Lib.hid (X3.out.alloc (.cells #[.int .i64 (W4 : Nat), .int .i64 (H4 : Nat), .slice D n4 l] 24))
  have X4 := Box.new (((w.alloc (.cells #[.int .i64 (W : Nat), .int .i64 (H : Nat), .slice A M c] 24)).alloc (.cells #[.int .i64 (W : Nat), .int .i64 (H : Nat), .slice B M d] 24)).alloc (.cells #[.int .i64 (W : Nat), .int .i64 (H : Nat), .slice C M e] 24)) (W4 : Nat) (H4 : Nat) (.slice D n4 l)
  rw [show ((((w.alloc (.cells #[.int .i64 (W : Nat), .int .i64 (H : Nat), .slice A M c] 24)).alloc (.cells #[.int .i64 (W : Nat), .int .i64 (H : Nat), .slice B M d] 24)).alloc (.cells #[.int .i64 (W : Nat), .int .i64 (H : Nat), .slice C M e] 24))).heap.size = w.heap.size + 3 by simp] at X4
  have X4 := Lib.hid X4
  have LB0 := Lib.hid (LB0.out.alloc LB0.out.size (.cells #[.int .i64 (W4 : Nat), .int .i64 (H4 : Nat), .slice D n4 l] 24))
  go_enter Try.func13, Try.ntmps13
  go_upto_region 1 with (fail)
  generalize (((w.alloc (.cells #[.int .i64 (W : Nat), .int .i64 (H : Nat), .slice A M c] 24)).alloc (.cells #[.int .i64 (W : Nat), .int .i64 (H : Nat), .slice B M d] 24)).alloc (.cells #[.int .i64 (W : Nat), .int .i64 (H : Nat), .slice C M e] 24)).alloc (.cells #[.int .i64 (W4 : Nat), .int .i64 (H4 : Nat), .slice D n4 l] 24) = w0 at *
  obtain ⟨q0, q1, q2, q3, q4, q5, q6⟩ := X1.out.all
  obtain ⟨q7, q8, q9, q10, q11, q12, q13⟩ := X2.out.all
  obtain ⟨q14, q15, q16, q17, q18, q19, q20⟩ := X3.out.all
  go_wp2_with fail
  clear q0 q1 q2 q3 q4 q5 q6 q7 q8 q9 q10 q11 q12 q13 q14 q15 q16 q17 q18 q19 q20
  with_reducible refine Calls.mono (HT.out _) ?_
  rintro e w1 ⟨rfl, hb⟩
  have LB1 := Lib.hid (LB0.out.trans (hb.mono LB0.out.size))
  have X1 := Lib.hid (X1.out.below hb X1.out.lt)
  have X2 := Lib.hid (X2.out.below hb X2.out.lt)
  have X3 := Lib.hid (X3.out.below hb X3.out.lt)
  have X4 := Lib.hid (X4.out.below hb X4.out.lt)
  clear hb LB0 
  obtain ⟨q0, q1, q2, q3, q4, q5, q6⟩ := X1.out.all
  obtain ⟨q7, q8, q9, q10, q11, q12, q13⟩ := X2.out.all
  obtain ⟨q14, q15, q16, q17, q18, q19, q20⟩ := X3.out.all
  go_wp2_with fail
  clear q0 q1 q2 q3 q4 q5 q6 q7 q8 q9 q10 q11 q12 q13 q14 q15 q16 q17 q18 q19 q20
  with_reducible refine Calls.mono (HWV.out _ LB1.out) ?_
  rintro e w2 ⟨kd, dd, rfl, hkd, hrow, hb⟩
  have LB2 := Lib.hid (LB1.out.trans (hb.mono LB1.out.size))
  have X1 := Lib.hid (X1.out.below hb X1.out.lt)
  have X2 := Lib.hid (X2.out.below hb X2.out.lt)
  have X3 := Lib.hid (X3.out.below hb X3.out.lt)
  have X4 := Lib.hid (X4.out.below hb X4.out.lt)
  have RD := Lib.hid hrow
  clear hb LB1 hrow
  rw [HN2.out] at RD ⊢
  have hb := ((Below.refl w2.heap.size w2).alloc (by simp; try omega) (.cells #[.int .i64 (W2 : Nat), .int .i64 (H2 : Nat), .slice (some ⟨kd, 0, none⟩) N2 dd] 24))
  have LB3 := Lib.hid (LB2.out.trans (hb.mono LB2.out.size))
  have X1 := Lib.hid (X1.out.below hb X1.out.lt)
  have X2 := Lib.hid (X2.out.below hb X2.out.lt)
  have X3 := Lib.hid (X3.out.below hb X3.out.lt)
  have X4 := Lib.hid (X4.out.below hb X4.out.lt)
  have RD := Lib.hid (RD.out.below hb RD.out.lt)
  have XD := Box.new w2 (W2 : Nat) (H2 : Nat) (.slice (some ⟨kd, 0, none⟩) N2 dd)
  have XD := Lib.hid XD
  clear hb LB2
  go_upto_region 3 with (fail)
  obtain ⟨db, hdb⟩ : ∃ z, w2.heap.size = z := ⟨_, rfl⟩
  rw [hdb] at XD
  try rw [hdb]
  clear hdb
  generalize w2.alloc (.cells #[.int .i64 (W2 : Nat), .int .i64 (H2 : Nat), .slice (some ⟨kd, 0, none⟩) N2 dd] 24) = w3 at *
  obtain ⟨q0, q1, q2, q3, q4, q5, q6⟩ := XD.out.all
  go_wp2_with fail
  clear q0 q1 q2 q3 q4 q5 q6
  with_reducible refine Calls.mono (HAP.out _ _ _ RD.out) ?_
  rintro e w4 ⟨A1, c1, A2, c2, A3, c3, rfl, hh1, hh2, hh3, hb⟩
  have LB4 := Lib.hid (LB3.out.trans (hb.mono LB3.out.size))
  have X1 := Lib.hid (X1.out.below hb X1.out.lt)
  have X2 := Lib.hid (X2.out.below hb X2.out.lt)
  have X3 := Lib.hid (X3.out.below hb X3.out.lt)
  have X4 := Lib.hid (X4.out.below hb X4.out.lt)
  have RD := Lib.hid (RD.out.below hb RD.out.lt)
  have XD := Lib.hid (XD.out.below hb XD.out.lt)
  have H1 := Lib.hid hh1
  have H2h := Lib.hid hh2
  have H3 := Lib.hid hh3
  clear hb LB3 hh1 hh2 hh3
  simp only [HME.out] at H1 H2h H3 ⊢
  have hb := ((((Below.refl w4.heap.size w4).alloc (by simp; try omega) (.cells #[.int .i64 (W : Nat), .int .i64 (H : Nat), .slice A1 M c1] 24)).alloc (by simp; try omega) (.cells #[.int .i64 (W : Nat), .int .i64 (H : Nat), .slice A2 M c2] 24)).alloc (by simp; try omega) (.cells #[.int .i64 (W : Nat), .int .i64 (H : Nat), .slice A3 M c3] 24))
  have LB5 := Lib.hid (LB4.out.trans (hb.mono LB4.out.size))
  have X1 := Lib.hid (X1.out.below hb X1.out.lt)
  have X2 := Lib.hid (X2.out.below hb X2.out.lt)
  have X3 := Lib.hid (X3.out.below hb X3.out.lt)
  have X4 := Lib.hid (X4.out.below hb X4.out.lt)
  have RD := Lib.hid (RD.out.below hb RD.out.lt)
  have XD := Lib.hid (XD.out.below hb XD.out.lt)
  have H1 := Lib.hid ((H1.out.below hb).more hb.size)
  have H2h := Lib.hid ((H2h.out.below hb).more hb.size)
  have H3 := Lib.hid ((H3.out.below hb).more hb.size)
  have Y1 := Box.new w4 (W : Nat) (H : Nat) (.slice A1 M c1)
  have Y1 := Lib.hid Y1
  have Y1 := Lib.hid (Y1.out.alloc (.cells #[.int .i64 (W : Nat), .int .i64 (H : Nat), .slice A2 M c2] 24))
  have Y1 := Lib.hid (Y1.out.alloc (.cells #[.int .i64 (W : Nat), .int .i64 (H : Nat), .slice A3 M c3] 24))
  have Y2 := Box.new (w4.alloc (.cells #[.int .i64 (W : Nat), .int .i64 (H : Nat), .slice A1 M c1] 24)) (W : Nat) (H : Nat) (.slice A2 M c2)
  rw [show (w4.alloc (.cells #[.int .i64 (W : Nat), .int .i64 (H : Nat), .slice A1 M c1] 24)).heap.size = w4.heap.size + 1 by simp] at Y2
  have Y2 := Lib.hid Y2
  have Y2 := Lib.hid (Y2.out.alloc (.cells #[.int .i64 (W : Nat), .int .i64 (H : Nat), .slice A3 M c3] 24))
  have Y3 := Box.new ((w4.alloc (.cells #[.int .i64 (W : Nat), .int .i64 (H : Nat), .slice A1 M c1] 24)).alloc (.cells #[.int .i64 (W : Nat), .int .i64 (H : Nat), .slice A2 M c2] 24)) (W : Nat) (H : Nat) (.slice A3 M c3)
  rw [show ((w4.alloc (.cells #[.int .i64 (W : Nat), .int .i64 (H : Nat), .slice A1 M c1] 24)).alloc (.cells #[.int .i64 (W : Nat), .int .i64 (H : Nat), .slice A2 M c2] 24)).heap.size = w4.heap.size + 1 + 1 by simp] at Y3
  have Y3 := Lib.hid Y3
  clear hb LB4
  go_upto_region 4 with (fail)
  obtain ⟨y3, hy3⟩ : ∃ z, w4.heap.size + 1 + 1 = z := ⟨_, rfl⟩
  rw [hy3] at Y3
  try rw [hy3]
  obtain ⟨y2, hy2⟩ : ∃ z, w4.heap.size + 1 = z := ⟨_, rfl⟩
  rw [hy2] at Y2
  try rw [hy2]
  obtain ⟨y1, hy1⟩ : ∃ z, w4.heap.size = z := ⟨_, rfl⟩
  rw [hy1] at Y1
  try rw [hy1]
  clear hy1 hy2 hy3
  generalize ((w4.alloc (.cells #[.int .i64 (W : Nat), .int .i64 (H : Nat), .slice A1 M c1] 24)).alloc (.cells #[.int .i64 (W : Nat), .int .i64 (H : Nat), .slice A2 M c2] 24)).alloc (.cells #[.int .i64 (W : Nat), .int .i64 (H : Nat), .slice A3 M c3] 24) = w5 at *
  obtain ⟨q0, q1, q2, q3, q4, q5, q6⟩ := XD.out.all
  obtain ⟨q7, q8, q9, q10, q11, q12, q13⟩ := X1.out.all
  obtain ⟨q14, q15, q16, q17, q18, q19, q20⟩ := Y1.out.all
  go_wp2_with fail
  clear q0 q1 q2 q3 q4 q5 q6 q7 q8 q9 q10 q11 q12 q13 q14 q15 q16 q17 q18 q19 q20
  with_reducible refine Calls.mono (HS1.out _ _ _ LB5.out H1.out) ?_
  rintro e w6 ⟨rfl, hb⟩
  have LB6 := Lib.hid (LB5.out.trans (hb.mono LB5.out.size))
  have X1 := Lib.hid (X1.out.below hb X1.out.lt)
  have X2 := Lib.hid (X2.out.below hb X2.out.lt)
  have X3 := Lib.hid (X3.out.below hb X3.out.lt)
  have X4 := Lib.hid (X4.out.below hb X4.out.lt)
  have RD := Lib.hid (RD.out.below hb RD.out.lt)
  have XD := Lib.hid (XD.out.below hb XD.out.lt)
  have H1 := Lib.hid ((H1.out.below hb).more hb.size)
  have H2h := Lib.hid ((H2h.out.below hb).more hb.size)
  have H3 := Lib.hid ((H3.out.below hb).more hb.size)
  have Y1 := Lib.hid (Y1.out.below hb Y1.out.lt)
  have Y2 := Lib.hid (Y2.out.below hb Y2.out.lt)
  have Y3 := Lib.hid (Y3.out.below hb Y3.out.lt)
  clear hb LB5 
  obtain ⟨q0, q1, q2, q3, q4, q5, q6⟩ := X2.out.all
  obtain ⟨q7, q8, q9, q10, q11, q12, q13⟩ := Y2.out.all
  go_wp2_with fail
  clear q0 q1 q2 q3 q4 q5 q6 q7 q8 q9 q10 q11 q12 q13
  with_reducible refine Calls.mono (HS2.out _ _ _ LB6.out H2h.out) ?_
  rintro e w7 ⟨rfl, hb⟩
  have LB7 := Lib.hid (LB6.out.trans (hb.mono LB6.out.size))
  have X1 := Lib.hid (X1.out.below hb X1.out.lt)
  have X2 := Lib.hid (X2.out.below hb X2.out.lt)
  have X3 := Lib.hid (X3.out.below hb X3.out.lt)
  have X4 := Lib.hid (X4.out.below hb X4.out.lt)
  have RD := Lib.hid (RD.out.below hb RD.out.lt)
  have XD := Lib.hid (XD.out.below hb XD.out.lt)
  have H1 := Lib.hid ((H1.out.below hb).more hb.size)
  have H2h := Lib.hid ((H2h.out.below hb).more hb.size)
  have H3 := Lib.hid ((H3.out.below hb).more hb.size)
  have Y1 := Lib.hid (Y1.out.below hb Y1.out.lt)
  have Y2 := Lib.hid (Y2.out.below hb Y2.out.lt)
  have Y3 := Lib.hid (Y3.out.below hb Y3.out.lt)
  clear hb LB6 
  obtain ⟨q0, q1, q2, q3, q4, q5, q6⟩ := X3.out.all
  obtain ⟨q7, q8, q9, q10, q11, q12, q13⟩ := Y3.out.all
  go_wp2_with fail
  clear q0 q1 q2 q3 q4 q5 q6 q7 q8 q9 q10 q11 q12 q13
  with_reducible refine Calls.mono (HS3.out _ _ _ LB7.out H3.out) ?_
  rintro e w8 ⟨rfl, hb⟩
  have LB8 := Lib.hid (LB7.out.trans (hb.mono LB7.out.size))
  have X1 := Lib.hid (X1.out.below hb X1.out.lt)
  have X2 := Lib.hid (X2.out.below hb X2.out.lt)
  have X3 := Lib.hid (X3.out.below hb X3.out.lt)
  have X4 := Lib.hid (X4.out.below hb X4.out.lt)
  have RD := Lib.hid (RD.out.below hb RD.out.lt)
  have XD := Lib.hid (XD.out.below hb XD.out.lt)
  have H1 := Lib.hid ((H1.out.below hb).more hb.size)
  have H2h := Lib.hid ((H2h.out.below hb).more hb.size)
  have H3 := Lib.hid ((H3.out.below hb).more hb.size)
  have Y1 := Lib.hid (Y1.out.below hb Y1.out.lt)
  have Y2 := Lib.hid (Y2.out.below hb Y2.out.lt)
  have Y3 := Lib.hid (Y3.out.below hb Y3.out.lt)
  clear hb LB7 
  clear RD
  clear XD
  clear H1
  clear H2h
  clear H3
  clear Y1
  clear Y2
  clear Y3
  clear X1
  clear X2
  clear X3
  obtain ⟨q0, q1, q2, q3, q4, q5, q6⟩ := X4.out.all
  go_wp2_with fail
  clear q0 q1 q2 q3 q4 q5 q6
  with_reducible refine Calls.mono (HG.out _) ?_
  rintro e w9 ⟨rfl, hb⟩
  have LB9 := Lib.hid (LB8.out.trans (hb.mono LB8.out.size))
  have X4 := Lib.hid (X4.out.below hb X4.out.lt)
  clear hb LB8 
  obtain ⟨q0, q1, q2, q3, q4, q5, q6⟩ := X4.out.all
  go_wp2_with fail
  clear q0 q1 q2 q3 q4 q5 q6
  with_reducible refine Calls.mono (HC4.out _) ?_
  rintro e w10 ⟨rfl, hb⟩
  have LB10 := Lib.hid (LB9.out.trans (hb.mono LB9.out.size))
  have X4 := Lib.hid (X4.out.below hb X4.out.lt)
  clear hb LB9 
  obtain ⟨q0, q1, q2, q3, q4, q5, q6⟩ := X4.out.all
  go_wp2_with fail
  clear q0 q1 q2 q3 q4 q5 q6
  with_reducible refine Calls.mono (HN.out _ LB10.out) ?_
  rintro e w11 ⟨rfl, hb⟩
  have LB11 := Lib.hid (LB10.out.trans (hb.mono LB10.out.size))
  have X4 := Lib.hid (X4.out.below hb X4.out.lt)
  clear hb LB10 
  have hb := ((((Below.refl w11.heap.size w11).alloc (by simp; try omega) (.cells #[.int .i64 0, .int .i64 0, .slice none 0 0] 24)).alloc (by simp; try omega) (.cells #[.int .i64 0, .int .i64 0, .slice none 0 0] 24)).alloc (by simp; try omega) (.cells #[.int .i64 0, .int .i64 0, .slice none 0 0] 24))
  have LB12 := Lib.hid (LB11.out.trans (hb.mono LB11.out.size))
  have X4 := Lib.hid (X4.out.below hb X4.out.lt)
  clear hb LB11
  go_upto_region 9 with (fail)
  generalize ((w11.alloc (.cells #[.int .i64 0, .int .i64 0, .slice none 0 0] 24)).alloc (.cells #[.int .i64 0, .int .i64 0, .slice none 0 0] 24)).alloc (.cells #[.int .i64 0, .int .i64 0, .slice none 0 0] 24) = w12 at *
  go_wp2_with fail
  with_reducible refine Calls.mono (alive12_any _) ?_
  rintro e w13 ⟨rfl, hb⟩
  have LB13 := Lib.hid (LB12.out.trans (hb.mono LB12.out.size))
  have X4 := Lib.hid (X4.out.below hb X4.out.lt)
  clear hb LB12 
  go_wp2
  go_ret
  exact ⟨rfl, LB13.out⟩
set_option maxHeartbeats 3200000 in
theorem inv_y_dbl (W H : Nat) (A B C : Option Addr) (c d e : Nat) (a b mo : Nat → Bool) (hW0 : 1 ≤ W) (hW : W ≤ 32) (hH0 : 1 ≤ H) (hH : H ≤ 32) (hn1 : W * H ≤ 1100) (P Q : Nat) (D : Option Addr) (l : Nat) (g : Nat → Bool) (hP0 : 1 ≤ P) (hP : P ≤ 32) (hQ0 : 1 ≤ Q) (hQ : Q ≤ 32) (hq : 2 * P * (2 * Q) ≤ 1100) (hD : isD P Q g = true) (w : World) (ha : Holds w w.heap.size A (W * H) a) (hb1 : Holds w w.heap.size B (W * H) b) (hm : Holds w w.heap.size C (W * H) mo) (hg : Holds w w.heap.size D (2 * P * (2 * Q)) g) :
    Calls Try.prog 13 #[.agg #[.int .i64 (W : Nat), .int .i64 (H : Nat), .slice A (W * H) c], .agg #[.int .i64 (W : Nat), .int .i64 (H : Nat), .slice B (W * H) d], .agg #[.int .i64 (W : Nat), .int .i64 (H : Nat), .slice C (W * H) e], .agg #[.int .i64 ((2 * P : Nat) : Int), .int .i64 ((2 * Q : Nat) : Int), .slice D (2 * P * (2 * Q)) l]] w fun e w' => e = .returned (.bool true) ∧ Below w.heap.size w w' := by
  have hz0 := chk_zero (W := W) (H := H) hW0 (by omega) hH0 (by omega)
  have HT := Lib.hid (fun u => thr_any (W : Nat) (H : Nat) (W : Nat) (H : Nat) (W : Nat) (H : Nat) A B C (W * H) c (W * H) d (W * H) e 32 u)
  rw [fitZ_valid hW0 (by omega) hH0 (by omega), show thr (W * H) 0 (W : Nat) (H : Nat) 32 = true by unfold thr; rw [decide_eq_true hn1, decide_eq_true (show (W : Int) ≤ 32 by omega), decide_eq_true (show (H : Int) ≤ 32 by omega)]; rfl] at HT
  have HWV := Lib.hid (fun u (hb : Below w.heap.size w u) => weave_ok (c := c) (d := d) (e := e) hW0 hW hH0 hH u ((ha.below hb).more hb.size) ((hb1.below hb).more hb.size) ((hm.below hb).more hb.size))
  have HAP := Lib.hid (fun u k d (h : Row u k (2 * W * (2 * H)) (dbl W a b mo)) => apart_dbl (d := d) hW0 hW hH0 hH u h)
  have HS1 := Lib.hid (fun u A1 c1 (hb : Below w.heap.size w u) (h : Holds u u.heap.size A1 (W * H) a) => rsame_t (W := (W : Nat)) (H := (H : Nat)) (c := c1) (d := c) (show W * H ≤ 5000 by omega) (fun _ _ => rfl) u h ((ha.below hb).more hb.size))
  have HS2 := Lib.hid (fun u A1 c1 (hb : Below w.heap.size w u) (h : Holds u u.heap.size A1 (W * H) b) => rsame_t (W := (W : Nat)) (H := (H : Nat)) (c := c1) (d := d) (show W * H ≤ 5000 by omega) (fun _ _ => rfl) u h ((hb1.below hb).more hb.size))
  have HS3 := Lib.hid (fun u A1 c1 (hb : Below w.heap.size w u) (h : Holds u u.heap.size A1 (W * H) mo) => rsame_t (W := (W : Nat)) (H := (H : Nat)) (c := c1) (d := e) (show W * H ≤ 5000 by omega) (fun _ _ => rfl) u h ((hm.below hb).more hb.size))
  have w1e : IntKind.i64.wrap (2 * (W : Int)) = ((2 * W : Nat) : Int) := by rw [IntWalk.i64_in _ (by omega)]; omega
  have w2e : IntKind.i64.wrap (2 * (H : Int)) = ((2 * H : Nat) : Int) := by rw [IntWalk.i64_in _ (by omega)]; omega
  obtain ⟨F, hF⟩ : ∃ F, dbl W a b mo = F := ⟨_, rfl⟩
  obtain ⟨W2, hW2⟩ : ∃ z, 2 * W = z := ⟨_, rfl⟩
  obtain ⟨H2, hH2⟩ : ∃ z, 2 * H = z := ⟨_, rfl⟩
  simp only [hF, hW2, hH2] at HWV HAP w1e w2e
  obtain ⟨N2, hN2⟩ : ∃ z, W2 * H2 = z := ⟨_, rfl⟩
  have HN2 := Lib.hid hN2
  simp only [hN2] at HAP
  obtain ⟨M, hMe⟩ : ∃ z, W * H = z := ⟨_, rfl⟩
  have HME := Lib.hid hMe
  simp only [hMe] at HT HWV HS1 HS2 HS3 hn1 ⊢
  clear ha hb1 hm hF hW2 hH2 hN2 hMe hz0
  have HG := Lib.hid (fun u => great12_any ((2 * P : Nat) : Int) ((2 * Q : Nat) : Int) D (2 * P * (2 * Q)) l u)
  rw [decide_eq_false (by omega)] at HG
  have HC4 := Lib.hid (fun u => rchk_all ((2 * P : Nat) : Int) ((2 * Q : Nat) : Int) D (2 * P * (2 * Q)) l u)
  rw [chk_zero (W := 2 * P) (H := 2 * Q) (by omega) (by omega) (by omega) (by omega)] at HC4
  have HN := Lib.hid (fun u (hb : Below w.heap.size w u) => (apart_even (c := l) P Q hP0 hP hQ0 hQ ((hg.below hb).more hb.size)).2 hD)
  have HV4 := Lib.hid (fun u A1 c1 A2 c2 A3 c3 (h1 : Holds u u.heap.size A1 (P * Q) (e2f P g 0 0)) (h2 : Holds u u.heap.size A2 (P * Q) (e2f P g 1 1)) (h3 : Holds u u.heap.size A3 (P * Q) (e2f P g 0 1)) => weave_ok (c := c1) (d := c2) (e := c3) hP0 hP hQ0 hQ u h1 h2 h3)
  have HS4 := Lib.hid (fun u k d (hb : Below w.heap.size w u) (h : Row u k (2 * P * (2 * Q)) (dbl P (e2f P g 0 0) (e2f P g 1 1) (e2f P g 0 1))) => rsame_t (W := ((2 * P : Nat) : Int)) (H := ((2 * Q : Nat) : Int)) (c := d) (d := l) (show 2 * P * (2 * Q) ≤ 5000 by omega) (of_decide_eq_true hD) u (h.holds h.lt) ((hg.below hb).more hb.size))
  obtain ⟨F4, hF4⟩ : ∃ F, dbl P (e2f P g 0 0) (e2f P g 1 1) (e2f P g 0 1) = F := ⟨_, rfl⟩
  obtain ⟨P2, hP2⟩ : ∃ z, 2 * P = z := ⟨_, rfl⟩
  obtain ⟨Q2, hQ2⟩ : ∃ z, 2 * Q = z := ⟨_, rfl⟩
  simp only [hF4, hP2, hQ2] at HG HC4 HN HV4 HS4 hq ⊢
  obtain ⟨n4, hn4⟩ : ∃ z, P2 * Q2 = z := ⟨_, rfl⟩
  have HN4 := Lib.hid hn4
  simp only [hn4] at HG HC4 HN HS4 hq ⊢
  obtain ⟨R4, hR4⟩ : ∃ z, P * Q = z := ⟨_, rfl⟩
  have HR4 := Lib.hid hR4
  simp only [hR4] at HV4
  clear hg hF4 hP2 hQ2 hn4 hR4 hD
  have LB0 := Lib.hid (Below.refl w.heap.size w)
  have X1 := Lib.hid (Box.new w (W : Nat) (H : Nat) (.slice A M c))
  have LB0 := Lib.hid (LB0.out.alloc LB0.out.size (.cells #[.int .i64 (W : Nat), .int .i64 (H : Nat), .slice A M c] 24))
  have X1 := Lib.hid (X1.out.alloc (.cells #[.int .i64 (W : Nat), .int .i64 (H : Nat), .slice B M d] 24))
  have X2 := Box.new (w.alloc (.cells #[.int .i64 (W : Nat), .int .i64 (H : Nat), .slice A M c] 24)) (W : Nat) (H : Nat) (.slice B M d)
  rw [show ((w.alloc (.cells #[.int .i64 (W : Nat), .int .i64 (H : Nat), .slice A M c] 24))).heap.size = w.heap.size + 1 by simp] at X2
  have X2 := Lib.hid X2
  have LB0 := Lib.hid (LB0.out.alloc LB0.out.size (.cells #[.int .i64 (W : Nat), .int .i64 (H : Nat), .slice B M d] 24))
  have X1 := Lib.hid (X1.out.alloc (.cells #[.int .i64 (W : Nat), .int .i64 (H : Nat), .slice C M e] 24))
  have X2 := Lib.hid (X2.out.alloc (.cells #[.int .i64 (W : Nat), .int .i64 (H : Nat), .slice C M e] 24))
  have X3 := Box.new ((w.alloc (.cells #[.int .i64 (W : Nat), .int .i64 (H : Nat), .slice A M c] 24)).alloc (.cells #[.int .i64 (W : Nat), .int .i64 (H : Nat), .slice B M d] 24)) (W : Nat) (H : Nat) (.slice C M e)
  rw [show (((w.alloc (.cells #[.int .i64 (W : Nat), .int .i64 (H : Nat), .slice A M c] 24)).alloc (.cells #[.int .i64 (W : Nat), .int .i64 (H : Nat), .slice B M d] 24))).heap.size = w.heap.size + 2 by simp] at X3
  have X3 := Lib.hid X3
  have LB0 := Lib.hid (LB0.out.alloc LB0.out.size (.cells #[.int .i64 (W : Nat), .int .i64 (H : Nat), .slice C M e] 24))
  have X1 := Lib.hid (X1.out.alloc (.cells #[.int .i64 (P2 : Nat), .int .i64 (Q2 : Nat), .slice D n4 l] 24))
  have X2 := Lib.hid (X2.out.alloc (.cells #[.int .i64 (P2 : Nat), .int .i64 (Q2 : Nat), .slice D n4 l] 24))
  have X3 := Lib.hid (X3.out.alloc (.cells #[.int .i64 (P2 : Nat), .int .i64 (Q2 : Nat), .slice D n4 l] 24))
  have X4 := Box.new (((w.alloc (.cells #[.int .i64 (W : Nat), .int .i64 (H : Nat), .slice A M c] 24)).alloc (.cells #[.int .i64 (W : Nat), .int .i64 (H : Nat), .slice B M d] 24)).alloc (.cells #[.int .i64 (W : Nat), .int .i64 (H : Nat), .slice C M e] 24)) (P2 : Nat) (Q2 : Nat) (.slice D n4 l)
  rw [show ((((w.alloc (.cells #[.int .i64 (W : Nat), .int .i64 (H : Nat), .slice A M c] 24)).alloc (.cells #[.int .i64 (W : Nat), .int .i64 (H : Nat), .slice B M d] 24)).alloc (.cells #[.int .i64 (W : Nat), .int .i64 (H : Nat), .slice C M e] 24))).heap.size = w.heap.size + 3 by simp] at X4
  have X4 := Lib.hid X4
  have LB0 := Lib.hid (LB0.out.alloc LB0.out.size (.cells #[.int .i64 (P2 : Nat), .int .i64 (Q2 : Nat), .slice D n4 l] 24))
  go_enter Try.func13, Try.ntmps13
  go_upto_region 1 with (fail)
  generalize (((w.alloc (.cells #[.int .i64 (W : Nat), .int .i64 (H : Nat), .slice A M c] 24)).alloc (.cells #[.int .i64 (W : Nat), .int .i64 (H : Nat), .slice B M d] 24)).alloc (.cells #[.int .i64 (W : Nat), .int .i64 (H : Nat), .slice C M e] 24)).alloc (.cells #[.int .i64 (P2 : Nat), .int .i64 (Q2 : Nat), .slice D n4 l] 24) = w0 at *
  obtain ⟨q0, q1, q2, q3, q4, q5, q6⟩ := X1.out.all
  obtain ⟨q7, q8, q9, q10, q11, q12, q13⟩ := X2.out.all
  obtain ⟨q14, q15, q16, q17, q18, q19, q20⟩ := X3.out.all
  go_wp2_with fail
  clear q0 q1 q2 q3 q4 q5 q6 q7 q8 q9 q10 q11 q12 q13 q14 q15 q16 q17 q18 q19 q20
  with_reducible refine Calls.mono (HT.out _) ?_
  rintro e w1 ⟨rfl, hb⟩
  have LB1 := Lib.hid (LB0.out.trans (hb.mono LB0.out.size))
  have X1 := Lib.hid (X1.out.below hb X1.out.lt)
  have X2 := Lib.hid (X2.out.below hb X2.out.lt)
  have X3 := Lib.hid (X3.out.below hb X3.out.lt)
  have X4 := Lib.hid (X4.out.below hb X4.out.lt)
  clear hb LB0 
  obtain ⟨q0, q1, q2, q3, q4, q5, q6⟩ := X1.out.all
  obtain ⟨q7, q8, q9, q10, q11, q12, q13⟩ := X2.out.all
  obtain ⟨q14, q15, q16, q17, q18, q19, q20⟩ := X3.out.all
  go_wp2_with fail
  clear q0 q1 q2 q3 q4 q5 q6 q7 q8 q9 q10 q11 q12 q13 q14 q15 q16 q17 q18 q19 q20
  with_reducible refine Calls.mono (HWV.out _ LB1.out) ?_
  rintro e w2 ⟨kd, dd, rfl, hkd, hrow, hb⟩
  have LB2 := Lib.hid (LB1.out.trans (hb.mono LB1.out.size))
  have X1 := Lib.hid (X1.out.below hb X1.out.lt)
  have X2 := Lib.hid (X2.out.below hb X2.out.lt)
  have X3 := Lib.hid (X3.out.below hb X3.out.lt)
  have X4 := Lib.hid (X4.out.below hb X4.out.lt)
  have RD := Lib.hid hrow
  clear hb LB1 hrow
  rw [HN2.out] at RD ⊢
  have hb := ((Below.refl w2.heap.size w2).alloc (by simp; try omega) (.cells #[.int .i64 (W2 : Nat), .int .i64 (H2 : Nat), .slice (some ⟨kd, 0, none⟩) N2 dd] 24))
  have LB3 := Lib.hid (LB2.out.trans (hb.mono LB2.out.size))
  have X1 := Lib.hid (X1.out.below hb X1.out.lt)
  have X2 := Lib.hid (X2.out.below hb X2.out.lt)
  have X3 := Lib.hid (X3.out.below hb X3.out.lt)
  have X4 := Lib.hid (X4.out.below hb X4.out.lt)
  have RD := Lib.hid (RD.out.below hb RD.out.lt)
  have XD := Box.new w2 (W2 : Nat) (H2 : Nat) (.slice (some ⟨kd, 0, none⟩) N2 dd)
  have XD := Lib.hid XD
  clear hb LB2
  go_upto_region 3 with (fail)
  obtain ⟨db, hdb⟩ : ∃ z, w2.heap.size = z := ⟨_, rfl⟩
  rw [hdb] at XD
  try rw [hdb]
  clear hdb
  generalize w2.alloc (.cells #[.int .i64 (W2 : Nat), .int .i64 (H2 : Nat), .slice (some ⟨kd, 0, none⟩) N2 dd] 24) = w3 at *
  obtain ⟨q0, q1, q2, q3, q4, q5, q6⟩ := XD.out.all
  go_wp2_with fail
  clear q0 q1 q2 q3 q4 q5 q6
  with_reducible refine Calls.mono (HAP.out _ _ _ RD.out) ?_
  rintro e w4 ⟨A1, c1, A2, c2, A3, c3, rfl, hh1, hh2, hh3, hb⟩
  have LB4 := Lib.hid (LB3.out.trans (hb.mono LB3.out.size))
  have X1 := Lib.hid (X1.out.below hb X1.out.lt)
  have X2 := Lib.hid (X2.out.below hb X2.out.lt)
  have X3 := Lib.hid (X3.out.below hb X3.out.lt)
  have X4 := Lib.hid (X4.out.below hb X4.out.lt)
  have RD := Lib.hid (RD.out.below hb RD.out.lt)
  have XD := Lib.hid (XD.out.below hb XD.out.lt)
  have H1 := Lib.hid hh1
  have H2h := Lib.hid hh2
  have H3 := Lib.hid hh3
  clear hb LB3 hh1 hh2 hh3
  simp only [HME.out] at H1 H2h H3 ⊢
  have hb := ((((Below.refl w4.heap.size w4).alloc (by simp; try omega) (.cells #[.int .i64 (W : Nat), .int .i64 (H : Nat), .slice A1 M c1] 24)).alloc (by simp; try omega) (.cells #[.int .i64 (W : Nat), .int .i64 (H : Nat), .slice A2 M c2] 24)).alloc (by simp; try omega) (.cells #[.int .i64 (W : Nat), .int .i64 (H : Nat), .slice A3 M c3] 24))
  have LB5 := Lib.hid (LB4.out.trans (hb.mono LB4.out.size))
  have X1 := Lib.hid (X1.out.below hb X1.out.lt)
  have X2 := Lib.hid (X2.out.below hb X2.out.lt)
  have X3 := Lib.hid (X3.out.below hb X3.out.lt)
  have X4 := Lib.hid (X4.out.below hb X4.out.lt)
  have RD := Lib.hid (RD.out.below hb RD.out.lt)
  have XD := Lib.hid (XD.out.below hb XD.out.lt)
  have H1 := Lib.hid ((H1.out.below hb).more hb.size)
  have H2h := Lib.hid ((H2h.out.below hb).more hb.size)
  have H3 := Lib.hid ((H3.out.below hb).more hb.size)
  have Y1 := Box.new w4 (W : Nat) (H : Nat) (.slice A1 M c1)
  have Y1 := Lib.hid Y1
  have Y1 := Lib.hid (Y1.out.alloc (.cells #[.int .i64 (W : Nat), .int .i64 (H : Nat), .slice A2 M c2] 24))
  have Y1 := Lib.hid (Y1.out.alloc (.cells #[.int .i64 (W : Nat), .int .i64 (H : Nat), .slice A3 M c3] 24))
  have Y2 := Box.new (w4.alloc (.cells #[.int .i64 (W : Nat), .int .i64 (H : Nat), .slice A1 M c1] 24)) (W : Nat) (H : Nat) (.slice A2 M c2)
  rw [show (w4.alloc (.cells #[.int .i64 (W : Nat), .int .i64 (H : Nat), .slice A1 M c1] 24)).heap.size = w4.heap.size + 1 by simp] at Y2
  have Y2 := Lib.hid Y2
  have Y2 := Lib.hid (Y2.out.alloc (.cells #[.int .i64 (W : Nat), .int .i64 (H : Nat), .slice A3 M c3] 24))
  have Y3 := Box.new ((w4.alloc (.cells #[.int .i64 (W : Nat), .int .i64 (H : Nat), .slice A1 M c1] 24)).alloc (.cells #[.int .i64 (W : Nat), .int .i64 (H : Nat), .slice A2 M c2] 24)) (W : Nat) (H : Nat) (.slice A3 M c3)
  rw [show ((w4.alloc (.cells #[.int .i64 (W : Nat), .int .i64 (H : Nat), .slice A1 M c1] 24)).alloc (.cells #[.int .i64 (W : Nat), .int .i64 (H : Nat), .slice A2 M c2] 24)).heap.size = w4.heap.size + 1 + 1 by simp] at Y3
  have Y3 := Lib.hid Y3
  clear hb LB4
  go_upto_region 4 with (fail)
  obtain ⟨y3, hy3⟩ : ∃ z, w4.heap.size + 1 + 1 = z := ⟨_, rfl⟩
  rw [hy3] at Y3
  try rw [hy3]
  obtain ⟨y2, hy2⟩ : ∃ z, w4.heap.size + 1 = z := ⟨_, rfl⟩
  rw [hy2] at Y2
  try rw [hy2]
  obtain ⟨y1, hy1⟩ : ∃ z, w4.heap.size = z := ⟨_, rfl⟩
  rw [hy1] at Y1
  try rw [hy1]
  clear hy1 hy2 hy3
  generalize ((w4.alloc (.cells #[.int .i64 (W : Nat), .int .i64 (H : Nat), .slice A1 M c1] 24)).alloc (.cells #[.int .i64 (W : Nat), .int .i64 (H : Nat), .slice A2 M c2] 24)).alloc (.cells #[.int .i64 (W : Nat), .int .i64 (H : Nat), .slice A3 M c3] 24) = w5 at *
  obtain ⟨q0, q1, q2, q3, q4, q5, q6⟩ := XD.out.all
  obtain ⟨q7, q8, q9, q10, q11, q12, q13⟩ := X1.out.all
  obtain ⟨q14, q15, q16, q17, q18, q19, q20⟩ := Y1.out.all
  go_wp2_with fail
  clear q0 q1 q2 q3 q4 q5 q6 q7 q8 q9 q10 q11 q12 q13 q14 q15 q16 q17 q18 q19 q20
  with_reducible refine Calls.mono (HS1.out _ _ _ LB5.out H1.out) ?_
  rintro e w6 ⟨rfl, hb⟩
  have LB6 := Lib.hid (LB5.out.trans (hb.mono LB5.out.size))
  have X1 := Lib.hid (X1.out.below hb X1.out.lt)
  have X2 := Lib.hid (X2.out.below hb X2.out.lt)
  have X3 := Lib.hid (X3.out.below hb X3.out.lt)
  have X4 := Lib.hid (X4.out.below hb X4.out.lt)
  have RD := Lib.hid (RD.out.below hb RD.out.lt)
  have XD := Lib.hid (XD.out.below hb XD.out.lt)
  have H1 := Lib.hid ((H1.out.below hb).more hb.size)
  have H2h := Lib.hid ((H2h.out.below hb).more hb.size)
  have H3 := Lib.hid ((H3.out.below hb).more hb.size)
  have Y1 := Lib.hid (Y1.out.below hb Y1.out.lt)
  have Y2 := Lib.hid (Y2.out.below hb Y2.out.lt)
  have Y3 := Lib.hid (Y3.out.below hb Y3.out.lt)
  clear hb LB5 
  obtain ⟨q0, q1, q2, q3, q4, q5, q6⟩ := X2.out.all
  obtain ⟨q7, q8, q9, q10, q11, q12, q13⟩ := Y2.out.all
  go_wp2_with fail
  clear q0 q1 q2 q3 q4 q5 q6 q7 q8 q9 q10 q11 q12 q13
  with_reducible refine Calls.mono (HS2.out _ _ _ LB6.out H2h.out) ?_
  rintro e w7 ⟨rfl, hb⟩
  have LB7 := Lib.hid (LB6.out.trans (hb.mono LB6.out.size))
  have X1 := Lib.hid (X1.out.below hb X1.out.lt)
  have X2 := Lib.hid (X2.out.below hb X2.out.lt)
  have X3 := Lib.hid (X3.out.below hb X3.out.lt)
  have X4 := Lib.hid (X4.out.below hb X4.out.lt)
  have RD := Lib.hid (RD.out.below hb RD.out.lt)
  have XD := Lib.hid (XD.out.below hb XD.out.lt)
  have H1 := Lib.hid ((H1.out.below hb).more hb.size)
  have H2h := Lib.hid ((H2h.out.below hb).more hb.size)
  have H3 := Lib.hid ((H3.out.below hb).more hb.size)
  have Y1 := Lib.hid (Y1.out.below hb Y1.out.lt)
  have Y2 := Lib.hid (Y2.out.below hb Y2.out.lt)
  have Y3 := Lib.hid (Y3.out.below hb Y3.out.lt)
  clear hb LB6 
  obtain ⟨q0, q1, q2, q3, q4, q5, q6⟩ := X3.out.all
  obtain ⟨q7, q8, q9, q10, q11, q12, q13⟩ := Y3.out.all
  go_wp2_with fail
  clear q0 q1 q2 q3 q4 q5 q6 q7 q8 q9 q10 q11 q12 q13
  with_reducible refine Calls.mono (HS3.out _ _ _ LB7.out H3.out) ?_
  rintro e w8 ⟨rfl, hb⟩
  have LB8 := Lib.hid (LB7.out.trans (hb.mono LB7.out.size))
  have X1 := Lib.hid (X1.out.below hb X1.out.lt)
  have X2 := Lib.hid (X2.out.below hb X2.out.lt)
  have X3 := Lib.hid (X3.out.below hb X3.out.lt)
  have X4 := Lib.hid (X4.out.below hb X4.out.lt)
  have RD := Lib.hid (RD.out.below hb RD.out.lt)
  have XD := Lib.hid (XD.out.below hb XD.out.lt)
  have H1 := Lib.hid ((H1.out.below hb).more hb.size)
  have H2h := Lib.hid ((H2h.out.below hb).more hb.size)
  have H3 := Lib.hid ((H3.out.below hb).more hb.size)
  have Y1 := Lib.hid (Y1.out.below hb Y1.out.lt)
  have Y2 := Lib.hid (Y2.out.below hb Y2.out.lt)
  have Y3 := Lib.hid (Y3.out.below hb Y3.out.lt)
  clear hb LB7 
  clear RD
  clear XD
  clear H1
  clear H2h
  clear H3
  clear Y1
  clear Y2
  clear Y3
  clear X1
  clear X2
  clear X3
  obtain ⟨q0, q1, q2, q3, q4, q5, q6⟩ := X4.out.all
  go_wp2_with fail
  clear q0 q1 q2 q3 q4 q5 q6
  with_reducible refine Calls.mono (HG.out _) ?_
  rintro e w9 ⟨rfl, hb⟩
  have LB9 := Lib.hid (LB8.out.trans (hb.mono LB8.out.size))
  have X4 := Lib.hid (X4.out.below hb X4.out.lt)
  clear hb LB8 
  obtain ⟨q0, q1, q2, q3, q4, q5, q6⟩ := X4.out.all
  go_wp2_with fail
  clear q0 q1 q2 q3 q4 q5 q6
  with_reducible refine Calls.mono (HC4.out _) ?_
  rintro e w10 ⟨rfl, hb⟩
  have LB10 := Lib.hid (LB9.out.trans (hb.mono LB9.out.size))
  have X4 := Lib.hid (X4.out.below hb X4.out.lt)
  clear hb LB9 
  obtain ⟨q0, q1, q2, q3, q4, q5, q6⟩ := X4.out.all
  go_wp2_with fail
  clear q0 q1 q2 q3 q4 q5 q6
  with_reducible refine Calls.mono (HN.out _ LB10.out) ?_
  rintro e w11 ⟨A5, c5, A6, c6, A7, c7, rfl, hh5, hh6, hh7, hb⟩
  have LB11 := Lib.hid (LB10.out.trans (hb.mono LB10.out.size))
  have X4 := Lib.hid (X4.out.below hb X4.out.lt)
  have H5 := Lib.hid hh5
  have H6 := Lib.hid hh6
  have H7 := Lib.hid hh7
  clear hb LB10 hh5 hh6 hh7
  simp only [HR4.out] at H5 H6 H7 ⊢
  have hb := ((((Below.refl w11.heap.size w11).alloc (by simp; try omega) (.cells #[.int .i64 (P : Nat), .int .i64 (Q : Nat), .slice A5 R4 c5] 24)).alloc (by simp; try omega) (.cells #[.int .i64 (P : Nat), .int .i64 (Q : Nat), .slice A6 R4 c6] 24)).alloc (by simp; try omega) (.cells #[.int .i64 (P : Nat), .int .i64 (Q : Nat), .slice A7 R4 c7] 24))
  have LB12 := Lib.hid (LB11.out.trans (hb.mono LB11.out.size))
  have X4 := Lib.hid (X4.out.below hb X4.out.lt)
  have H5 := Lib.hid ((H5.out.below hb).more hb.size)
  have H6 := Lib.hid ((H6.out.below hb).more hb.size)
  have H7 := Lib.hid ((H7.out.below hb).more hb.size)
  have Y5 := Box.new w11 (P : Nat) (Q : Nat) (.slice A5 R4 c5)
  have Y5 := Lib.hid Y5
  have Y5 := Lib.hid (Y5.out.alloc (.cells #[.int .i64 (P : Nat), .int .i64 (Q : Nat), .slice A6 R4 c6] 24))
  have Y5 := Lib.hid (Y5.out.alloc (.cells #[.int .i64 (P : Nat), .int .i64 (Q : Nat), .slice A7 R4 c7] 24))
  have Y6 := Box.new (w11.alloc (.cells #[.int .i64 (P : Nat), .int .i64 (Q : Nat), .slice A5 R4 c5] 24)) (P : Nat) (Q : Nat) (.slice A6 R4 c6)
  rw [show (w11.alloc (.cells #[.int .i64 (P : Nat), .int .i64 (Q : Nat), .slice A5 R4 c5] 24)).heap.size = w11.heap.size + 1 by simp] at Y6
  have Y6 := Lib.hid Y6
  have Y6 := Lib.hid (Y6.out.alloc (.cells #[.int .i64 (P : Nat), .int .i64 (Q : Nat), .slice A7 R4 c7] 24))
  have Y7 := Box.new ((w11.alloc (.cells #[.int .i64 (P : Nat), .int .i64 (Q : Nat), .slice A5 R4 c5] 24)).alloc (.cells #[.int .i64 (P : Nat), .int .i64 (Q : Nat), .slice A6 R4 c6] 24)) (P : Nat) (Q : Nat) (.slice A7 R4 c7)
  rw [show ((w11.alloc (.cells #[.int .i64 (P : Nat), .int .i64 (Q : Nat), .slice A5 R4 c5] 24)).alloc (.cells #[.int .i64 (P : Nat), .int .i64 (Q : Nat), .slice A6 R4 c6] 24)).heap.size = w11.heap.size + 1 + 1 by simp] at Y7
  have Y7 := Lib.hid Y7
  clear hb LB11
  go_upto_region 9 with (fail)
  obtain ⟨y7, hy7⟩ : ∃ z, w11.heap.size + 1 + 1 = z := ⟨_, rfl⟩
  rw [hy7] at Y7
  try rw [hy7]
  obtain ⟨y6, hy6⟩ : ∃ z, w11.heap.size + 1 = z := ⟨_, rfl⟩
  rw [hy6] at Y6
  try rw [hy6]
  obtain ⟨y5, hy5⟩ : ∃ z, w11.heap.size = z := ⟨_, rfl⟩
  rw [hy5] at Y5
  try rw [hy5]
  clear hy5 hy6 hy7
  generalize ((w11.alloc (.cells #[.int .i64 (P : Nat), .int .i64 (Q : Nat), .slice A5 R4 c5] 24)).alloc (.cells #[.int .i64 (P : Nat), .int .i64 (Q : Nat), .slice A6 R4 c6] 24)).alloc (.cells #[.int .i64 (P : Nat), .int .i64 (Q : Nat), .slice A7 R4 c7] 24) = w12 at *
  obtain ⟨q0, q1, q2, q3, q4, q5, q6⟩ := Y5.out.all
  obtain ⟨q7, q8, q9, q10, q11, q12, q13⟩ := Y6.out.all
  obtain ⟨q14, q15, q16, q17, q18, q19, q20⟩ := Y7.out.all
  go_wp2_with fail
  clear q0 q1 q2 q3 q4 q5 q6 q7 q8 q9 q10 q11 q12 q13 q14 q15 q16 q17 q18 q19 q20
  with_reducible refine Calls.mono (HV4.out _ _ _ _ _ _ _ H5.out H6.out H7.out) ?_
  rintro e w13 ⟨kf, df, rfl, hkf, hrow, hb⟩
  have LB13 := Lib.hid (LB12.out.trans (hb.mono LB12.out.size))
  have X4 := Lib.hid (X4.out.below hb X4.out.lt)
  have H5 := Lib.hid ((H5.out.below hb).more hb.size)
  have H6 := Lib.hid ((H6.out.below hb).more hb.size)
  have H7 := Lib.hid ((H7.out.below hb).more hb.size)
  have Y5 := Lib.hid (Y5.out.below hb Y5.out.lt)
  have Y6 := Lib.hid (Y6.out.below hb Y6.out.lt)
  have Y7 := Lib.hid (Y7.out.below hb Y7.out.lt)
  have RF := Lib.hid hrow
  clear hb LB12 hrow
  clear H5
  clear H6
  clear H7
  clear Y5
  clear Y6
  clear Y7
  rw [HN4.out] at RF ⊢
  have hb := ((Below.refl w13.heap.size w13).alloc (by simp; try omega) (.cells #[.int .i64 (P2 : Nat), .int .i64 (Q2 : Nat), .slice (some ⟨kf, 0, none⟩) n4 df] 24))
  have LB14 := Lib.hid (LB13.out.trans (hb.mono LB13.out.size))
  have X4 := Lib.hid (X4.out.below hb X4.out.lt)
  have RF := Lib.hid (RF.out.below hb RF.out.lt)
  have XF := Box.new w13 (P2 : Nat) (Q2 : Nat) (.slice (some ⟨kf, 0, none⟩) n4 df)
  have XF := Lib.hid XF
  clear hb LB13
  go_upto_region 12 with (fail)
  obtain ⟨fb, hfb⟩ : ∃ z, w13.heap.size = z := ⟨_, rfl⟩
  rw [hfb] at XF
  try rw [hfb]
  clear hfb
  generalize w13.alloc (.cells #[.int .i64 (P2 : Nat), .int .i64 (Q2 : Nat), .slice (some ⟨kf, 0, none⟩) n4 df] 24) = w14 at *
  obtain ⟨q0, q1, q2, q3, q4, q5, q6⟩ := XF.out.all
  obtain ⟨q7, q8, q9, q10, q11, q12, q13⟩ := X4.out.all
  go_wp2_with fail
  clear q0 q1 q2 q3 q4 q5 q6 q7 q8 q9 q10 q11 q12 q13
  with_reducible refine Calls.mono (HS4.out _ _ _ LB14.out RF.out) ?_
  rintro e w15 ⟨rfl, hb⟩
  have LB15 := Lib.hid (LB14.out.trans (hb.mono LB14.out.size))
  have X4 := Lib.hid (X4.out.below hb X4.out.lt)
  have RF := Lib.hid (RF.out.below hb RF.out.lt)
  have XF := Lib.hid (XF.out.below hb XF.out.lt)
  clear hb LB14 
  go_wp2_with fail
  with_reducible refine Calls.mono (alive12_any _) ?_
  rintro e w16 ⟨rfl, hb⟩
  have LB16 := Lib.hid (LB15.out.trans (hb.mono LB15.out.size))
  have X4 := Lib.hid (X4.out.below hb X4.out.lt)
  have RF := Lib.hid (RF.out.below hb RF.out.lt)
  have XF := Lib.hid (XF.out.below hb XF.out.lt)
  clear hb LB15 
  go_wp2
  go_ret
  exact ⟨rfl, LB16.out⟩
theorem nat_of {W H : Int} {n : Nat} (h : chk W H n = 0) : ∃ a b : Nat, W = a ∧ H = b ∧ n = a * b ∧ 1 ≤ a ∧ a ≤ 64 ∧ 1 ≤ b ∧ b ≤ 64 := by
  obtain ⟨h1, h2, h3, h4, h5⟩ := chk_ok h
  obtain ⟨a, rfl⟩ : ∃ a : Nat, W = a := ⟨W.toNat, by omega⟩
  obtain ⟨b, rfl⟩ : ∃ b : Nat, H = b := ⟨H.toNat, by omega⟩
  exact ⟨a, b, rfl, rfl, by have := h5; rw [← Int.natCast_mul] at this; omega, by omega, by omega, by omega, by omega⟩
theorem inverse12_any (W H X Y U V W4 H4 : Int) (A B C D : Option Addr) (n c m d k e n4 l : Nat) (a b mo g : Nat → Bool) (w : World) (ha : Holds w w.heap.size A n a) (hb : Holds w w.heap.size B m b) (hm : Holds w w.heap.size C k mo) (hg : Holds w w.heap.size D n4 g) :
    Calls Try.prog 13 #[.agg #[.int .i64 W, .int .i64 H, .slice A n c], .agg #[.int .i64 X, .int .i64 Y, .slice B m d], .agg #[.int .i64 U, .int .i64 V, .slice C k e], .agg #[.int .i64 W4, .int .i64 H4, .slice D n4 l]] w fun e w' => e = .returned (.bool true) ∧ Below w.heap.size w w' := by
  have key : ∀ p, thr n (fitZ (chk W H n) (chk X Y m) (chk U V k) W H X Y U V) W H 32 = p → Calls Try.prog 13 #[.agg #[.int .i64 W, .int .i64 H, .slice A n c], .agg #[.int .i64 X, .int .i64 Y, .slice B m d], .agg #[.int .i64 U, .int .i64 V, .slice C k e], .agg #[.int .i64 W4, .int .i64 H4, .slice D n4 l]] w fun e w' => e = .returned (.bool true) ∧ Below w.heap.size w w' := by
    intro p hp
    cases p
    · by_cases hq : 1100 < n4
      · exact inv_n_great W H X Y U V A B C n c m d k e hp W4 H4 D n4 l hq w
      · by_cases hz : chk W4 H4 n4 = 0
        · obtain ⟨P, Q, rfl, rfl, rfl, p1, p2, p3, p4⟩ := nat_of hz
          by_cases he : P % 2 = 0 ∧ Q % 2 = 0
          · obtain ⟨P', rfl⟩ : ∃ z, P = 2 * z := ⟨P / 2, by omega⟩
            obtain ⟨Q', rfl⟩ : ∃ z, Q = 2 * z := ⟨Q / 2, by omega⟩
            cases hD : isD P' Q' g
            · exact inv_n_none W H X Y U V A B C n c m d k e hp (2 * P') (2 * Q') D l (by omega) hz w (fun u hb => (apart_even P' Q' (by omega) (by omega) (by omega) (by omega) ((hg.below hb).more hb.size)).1 hD)
            · exact inv_n_dbl W H X Y U V A B C n c m d k e hp P' Q' D l g (by omega) (by omega) (by omega) (by omega) (by omega) hD w hg
          · exact inv_n_none W H X Y U V A B C n c m d k e hp P Q D l (by omega) hz w (fun u hb => apart_odd P Q p1 p2 p3 p4 (by omega) ((hg.below hb).more hb.size))
        · exact inv_n_bad W H X Y U V A B C n c m d k e hp W4 H4 D n4 l (by omega) _ rfl (by rw [bne_iff_ne]; exact hz) w
    · obtain ⟨t0, t1, t2, t3, rfl, rfl, rfl, rfl, t8, t9⟩ := thr_yes hp
      obtain ⟨W', H', rfl, rfl, rfl, w1, w2, w3, w4⟩ := nat_of t1
      obtain ⟨W2, H2, e1, e2, rfl, _⟩ := nat_of t2
      obtain ⟨W3, H3, e3, e4, rfl, _⟩ := nat_of t3
      obtain rfl : W' = W2 := by omega
      obtain rfl : H' = H2 := by omega
      obtain rfl : W' = W3 := by omega
      obtain rfl : H' = H3 := by omega
      by_cases hq : 1100 < n4
      · exact inv_y_great W' H' A B C c d e a b mo w1 (by omega) w3 (by omega) t0 W4 H4 D n4 l hq w ha hb hm
      · by_cases hz : chk W4 H4 n4 = 0
        · obtain ⟨P, Q, rfl, rfl, rfl, p1, p2, p3, p4⟩ := nat_of hz
          by_cases he : P % 2 = 0 ∧ Q % 2 = 0
          · obtain ⟨P', rfl⟩ : ∃ z, P = 2 * z := ⟨P / 2, by omega⟩
            obtain ⟨Q', rfl⟩ : ∃ z, Q = 2 * z := ⟨Q / 2, by omega⟩
            cases hD : isD P' Q' g
            · exact inv_y_none W' H' A B C c d e a b mo w1 (by omega) w3 (by omega) t0 (2 * P') (2 * Q') D l (by omega) hz w ha hb hm (fun u hb => (apart_even P' Q' (by omega) (by omega) (by omega) (by omega) ((hg.below hb).more hb.size)).1 hD)
            · exact inv_y_dbl W' H' A B C c d e a b mo w1 (by omega) w3 (by omega) t0 P' Q' D l g (by omega) (by omega) (by omega) (by omega) (by omega) hD w ha hb hm hg
          · exact inv_y_none W' H' A B C c d e a b mo w1 (by omega) w3 (by omega) t0 P Q D l (by omega) hz w ha hb hm (fun u hb => apart_odd P Q p1 p2 p3 p4 (by omega) ((hg.below hb).more hb.size))
        · exact inv_y_bad W' H' A B C c d e a b mo w1 (by omega) w3 (by omega) t0 W4 H4 D n4 l (by omega) _ rfl (by rw [bne_iff_ne]; exact hz) w ha hb hm
  exact key _ rfl
end Go.Proofs.Ytgmcbdnfgdmmaaa
