/- DoubleComes: the walk. -/
import Derived.Test.YtgmcbdnfgdmmaaaDhg
import Derived.Deep.RegionHeld3
import Derived.Deep.RegionLawGrows
import Derived.BigRegion
namespace Go.Proofs.Ytgmcbdnfgdmmaaa
open Go.RowKit
set_option maxRecDepth 100000
set_option linter.unusedVariables false
set_option linter.unusedSimpArgs false

/-- 'append(s, l...)' at a step of a region that draws its order. -/
theorem step_appN {ops : Array Oper} {o : Oper} {a : Act} {w : World} {K : Act → World → Prop} {Q : Exit → Act → World → Prop} {E : Prop} (hgd : o.guard = none) (s x : Operand)
    (ho : o.op = .call { callee := .builtin .append, args := #[s, x], argTypes := #[45, 45] }) (base : Nat) {v : Value} {n : Nat} {f : Nat → Int} (hs : a.eval s = v) (hown : L2.Own w base v n f)
    {b c m : Nat} {g : Nat → Int} (hx : a.eval x = .slice (some ⟨b, 0, none⟩) m c) (hr : L2.Row w b m g) (hn : n ≤ 1000) (hm : m ≤ 1000) (hb : base ≤ w.heap.size)
    (h : ∀ v' w', L2.Own w' base v' (n + m) (L2.both n f g) → Below base w w' → K (a.put o.dst v') w') : if Region.wanted o (yielded ops a.tmps) = true then Oper.wp Try.prog o a w K Q else E := by
  have hw : Region.wanted o (yielded ops a.tmps) = true := by simp [Region.wanted, hgd]
  rw [if_pos hw]
  obtain ⟨i0, hi, hz0, hz1, hz2⟩ := info_parts L2.TryI.info3
  obtain ⟨v', w', hrun, h1, h2, _, hat⟩ := run_append_own_at (P := Try.prog) w base 45 o.type 3 i0 (.int .i64 0) 1 8 Try.underlying45 hi hz0 hz1 hz2 rfl (by decide) v n _ hown ⟨b, 0, none⟩ m c (L2.news m g) (by rw [L2.news_length, Nat.mul_one])
    (by intro j u hj; obtain ⟨h1, rfl⟩ := L2.news_get hj; have := hr.cell h1; rw [Addr.add_lit, Nat.zero_add]; exact this) L2.news_one (by unfold maxLen; omega) (by omega) hb
  unfold Oper.wp
  simp [execOp, ho, resolve, invoke, builtin, hs, hx, hrun, Result.andThen]
  refine h v' w' ?_ ?_
  · unfold L2.Own
    rw [← L2.news_both]
    exact h1
  · exact Below.grown (Below.refl _ _) h2 hb fun k hk => (orow_block hown hk).1
theorem own_row {w : World} {base n : Nat} {v : Value} {f : Nat → Int} (h : L2.Own w base v n f) (hn : 0 < n) : ∃ k c, v = .slice (some ⟨k, 0, none⟩) n c ∧ base ≤ k ∧ L2.Row w k n f := by
  obtain ⟨A, c, e, _, h2⟩ := h.out
  obtain ⟨k, e2, h3, h4⟩ := h2 hn
  exact ⟨k, c, by rw [e, e2], h3, h4⟩
/-- The set, of which the picks behind the first i have been moved. -/
def mvf (W s i j : Nat) : Int := if j < W then ((2 * j + s : Nat) : Int) else if j < i then ((2 * j + s : Nat) : Int) else ((2 * (j - W) + s : Nat) : Int)
theorem mvf_zero {W H s j : Nat} (hj : j < W + H) : L2.both W (evf s) (evf s) j = mvf W s W j := by
  unfold L2.both mvf evf
  by_cases h : j < W
  · rw [if_pos h, if_pos h]
  · rw [if_neg h, if_neg h]
theorem mvf_at {W s i : Nat} (hi : W ≤ i) : mvf W s i i = ((2 * (i - W) + s : Nat) : Int) := by unfold mvf; rw [if_neg (by omega), if_neg (by omega)]
theorem mvf_succ {W s i j : Nat} (hi : W ≤ i) : (if j = i then ((2 * i + s : Nat) : Int) else mvf W s i j) = mvf W s (i + 1) j := by
  unfold mvf
  by_cases h : j = i
  · rw [if_pos h, if_neg (by omega), if_pos (by omega), h]
  · rw [if_neg h]
    by_cases h1 : j < W
    · rw [if_pos h1, if_pos h1]
    · rw [if_neg h1, if_neg h1]
      by_cases h2 : j < i
      · rw [if_pos h2, if_pos (by omega)]
      · rw [if_neg h2, if_neg (by omega)]
theorem mvf_all {W H s j : Nat} (hj : j < W + H) : mvf W s (W + H) j = evf s j := by
  unfold mvf evf
  by_cases h : j < W
  · rw [if_pos h]
  · rw [if_neg h, if_pos hj]
theorem evf_lt {N s : Nat} (hs : s < 2) : ∀ b, b ∈ setL N (evf s) → b < 2 * N := setL_lt (evf_set hs N)
/-- Which cloth comes off. -/
def offq (s cn M : Nat) : Bool := if s = 0 then (cn == M) else (cn == 0)
theorem comes_off {W H s k d D dd : Nat} {a b m : Nat → Bool} (hs : s < 2) (hW0 : 1 ≤ W) (hW : W ≤ 32) (hH0 : 1 ≤ H) (hH : H ≤ 32) (w : World) (h : Row w k (2 * W * (2 * H)) (dbl W a b m)) (hr : L2.Row w D (W + H) (evf s)) :
    Calls Try.prog 40 #[.agg #[.int .i64 ((2 * W : Nat) : Int), .int .i64 ((2 * H : Nat) : Int), .slice (some ⟨k, 0, none⟩) (2 * W * (2 * H)) d], .slice (some ⟨D, 0, none⟩) (W + H) dd] w (BRet w (offq s (cnt m (W * H)) (W * H)) 0) := by
  have := poff_t (2 * W) (2 * H) (some ⟨k, 0, none⟩) d _ (some ⟨D, 0, none⟩) (W + H) dd (evf s) w (h.holds h.lt) (by omega) (by omega) (by omega) (by omega) (by omega) (hr.holds hr.lt) (by rw [← Nat.mul_add]; exact evf_set hs _)
  rw [← Nat.mul_add] at this
  have e : offB (ov (2 * W) (dbl W a b m)) (2 * (W + H)) (W + H) (evf s) = offq s (cnt m (W * H)) (W * H) := by
    rcases (show s = 0 ∨ s = 1 by omega) with rfl | rfl
    · rw [Bool.eq_iff_iff, off_a hW0 hH0]
      show _ ↔ (cnt m (W * H) == W * H) = true
      rw [beq_iff_eq]
      refine ⟨fun h => ?_, cnt_full_iff⟩
      rcases Nat.lt_or_ge (cnt m (W * H)) (W * H) with h1 | h1
      · obtain ⟨i, hi, h2⟩ := cnt_miss h1
        rw [h i hi] at h2; cases h2
      · have := cnt_le m (W * H); omega
    · rw [Bool.eq_iff_iff, off_b hW0 hH0]
      show _ ↔ (cnt m (W * H) == 0) = true
      rw [beq_iff_eq]
      refine ⟨fun h => ?_, cnt_none_iff⟩
      rcases Nat.eq_zero_or_pos (cnt m (W * H)) with h1 | h1
      · exact h1
      · obtain ⟨i, hi, h2⟩ := cnt_some h1
        rw [h i hi] at h2; cases h2
  rw [e] at this
  exact this
theorem comes_only {W H s k d D dd : Nat} {a b m : Nat → Bool} (hs : s < 2) (hW0 : 1 ≤ W) (hW : W ≤ 32) (hH0 : 1 ≤ H) (hH : H ≤ 32) (w : World) (h : Row w k (2 * W * (2 * H)) (dbl W a b m)) (hr : L2.Row w D (W + H) (evf s)) :
    Calls Try.prog 64 #[.agg #[.int .i64 ((2 * W : Nat) : Int), .int .i64 ((2 * H : Nat) : Int), .slice (some ⟨k, 0, none⟩) (2 * W * (2 * H)) d], .slice (some ⟨D, 0, none⟩) (W + H) dd] w (OkG w W H (if s = 0 then a else b)) := by
  have hset : setB (2 * W + 2 * H) (W + H) (evf s) = true := by rw [← Nat.mul_add]; exact evf_set hs _
  have h1 : lEn (2 * W) (setL (W + H) (evf s)) = evl W s := by rw [evf_setL, lEn_evl W H hs]
  have h2 : lPi (2 * W) (setL (W + H) (evf s)) = evl H s := by rw [evf_setL, lPi_evl W H hs]
  have := only_ok (2 * W) (2 * H) (some ⟨k, 0, none⟩) d _ (some ⟨D, 0, none⟩) (W + H) dd (evf s) w (h.holds h.lt) (by omega) (by omega) (by omega) (by omega) (hr.holds hr.lt) hset (by rw [h1, evl_len]; omega) (by rw [h2, evl_len]; omega)
  rw [h1, h2, evl_len, evl_len] at this
  refine this.mono fun e w' ⟨A, c, he, hcp, hh, hb⟩ => ⟨A, c, he, hcp, hh.congr fun i hi => ?_, hb⟩
  obtain ⟨g1, g2, g3⟩ := e2_cells hW0 hi
  rw [on_evl hW0 hi, dbl_at (by omega)]
  rcases (show s = 0 ∨ s = 1 by omega) with rfl | rfl
  · rw [Nat.add_zero, Nat.add_zero, dxy_00, g3]; rfl
  · rw [dxy_11, g3]; rfl
set_option maxHeartbeats 1600000 in
theorem comes12_any_no (W H X Y U V : Int) (A B C : Option Addr) (n c m d k e : Nat) (ht : thr n (fitZ (chk W H n) (chk X Y m) (chk U V k) W H X Y U V) W H 8 = false) (w : World) :
    Calls Try.prog 15 #[.agg #[.int .i64 W, .int .i64 H, .slice A n c], .agg #[.int .i64 X, .int .i64 Y, .slice B m d], .agg #[.int .i64 U, .int .i64 V, .slice C k e]] w fun e w' => e = .returned (.bool true) ∧ Below w.heap.size w w' := by
  have HT := Lib.hid (fun u => thr_any W H X Y U V A B C n c m d k e 8 u)
  rw [ht] at HT
  clear ht
  have LB0 := Lib.hid (Below.refl w.heap.size w)
  have X1 := Lib.hid (Box.new w W H (.slice A n c))
  have LB0 := Lib.hid (LB0.out.alloc LB0.out.size (.cells #[.int .i64 W, .int .i64 H, .slice A n c] 24))
  have X1 := Lib.hid (X1.out.alloc (.cells #[.int .i64 X, .int .i64 Y, .slice B m d] 24))
  have X2 := Box.new (w.alloc (.cells #[.int .i64 W, .int .i64 H, .slice A n c] 24)) X Y (.slice B m d)
  rw [show ((w.alloc (.cells #[.int .i64 W, .int .i64 H, .slice A n c] 24))).heap.size = w.heap.size + 1 by simp] at X2
  have X2 := Lib.hid X2
  have LB0 := Lib.hid (LB0.out.alloc LB0.out.size (.cells #[.int .i64 X, .int .i64 Y, .slice B m d] 24))
  have X1 := Lib.hid (X1.out.alloc (.cells #[.int .i64 U, .int .i64 V, .slice C k e] 24))
  have X2 := Lib.hid (X2.out.alloc (.cells #[.int .i64 U, .int .i64 V, .slice C k e] 24))
  have X3 := Box.new ((w.alloc (.cells #[.int .i64 W, .int .i64 H, .slice A n c] 24)).alloc (.cells #[.int .i64 X, .int .i64 Y, .slice B m d] 24)) U V (.slice C k e)
  rw [show (((w.alloc (.cells #[.int .i64 W, .int .i64 H, .slice A n c] 24)).alloc (.cells #[.int .i64 X, .int .i64 Y, .slice B m d] 24))).heap.size = w.heap.size + 2 by simp] at X3
  have X3 := Lib.hid X3
  have LB0 := Lib.hid (LB0.out.alloc LB0.out.size (.cells #[.int .i64 U, .int .i64 V, .slice C k e] 24))
  go_enter Try.func15, Try.ntmps15
  go_upto_region 1 with (fail)
  generalize ((w.alloc (.cells #[.int .i64 W, .int .i64 H, .slice A n c] 24)).alloc (.cells #[.int .i64 X, .int .i64 Y, .slice B m d] 24)).alloc (.cells #[.int .i64 U, .int .i64 V, .slice C k e] 24) = w0 at *
  obtain ⟨q0, q1, q2, q3, q4, q5, q6⟩ := X1.out.all
  obtain ⟨q7, q8, q9, q10, q11, q12, q13⟩ := X2.out.all
  obtain ⟨q14, q15, q16, q17, q18, q19, q20⟩ := X3.out.all
  go_wp2_with fail
  clear q0 q1 q2 q3 q4 q5 q6 q7 q8 q9 q10 q11 q12 q13 q14 q15 q16 q17 q18 q19 q20
  with_reducible refine Calls.mono (HT.out _) ?_
  rintro e w1 ⟨rfl, hb⟩
  have LB1 := Lib.hid (LB0.out.trans (hb.mono LB0.out.size))
  have X1 := Lib.hid (X1.out.below hb X1.out.lt)
  have X2 := Lib.hid (X2.out.below hb X2.out.lt)
  have X3 := Lib.hid (X3.out.below hb X3.out.lt)
  clear hb LB0 
  go_wp2_with fail
  with_reducible refine Calls.mono (alive12_any _) ?_
  rintro e w2 ⟨rfl, hb⟩
  have LB2 := Lib.hid (LB1.out.trans (hb.mono LB1.out.size))
  have X1 := Lib.hid (X1.out.below hb X1.out.lt)
  have X2 := Lib.hid (X2.out.below hb X2.out.lt)
  have X3 := Lib.hid (X3.out.below hb X3.out.lt)
  clear hb LB1 
  go_wp2
  go_ret
  exact ⟨rfl, LB2.out⟩
set_option maxHeartbeats 6400000 in
theorem comes12_any_yes (W H : Nat) (A B C : Option Addr) (c d e : Nat) (a b mo : Nat → Bool) (hW0 : 1 ≤ W) (hW : W ≤ 8) (hH0 : 1 ≤ H) (hH : H ≤ 8) (hn1 : W * H ≤ 1100) (w : World) (ha : Holds w w.heap.size A (W * H) a) (hb1 : Holds w w.heap.size B (W * H) b) (hm : Holds w w.heap.size C (W * H) mo) :
    Calls Try.prog 15 #[.agg #[.int .i64 (W : Nat), .int .i64 (H : Nat), .slice A (W * H) c], .agg #[.int .i64 (W : Nat), .int .i64 (H : Nat), .slice B (W * H) d], .agg #[.int .i64 (W : Nat), .int .i64 (H : Nat), .slice C (W * H) e]] w fun e w' => e = .returned (.bool true) ∧ Below w.heap.size w w' := by
  have hz0 := chk_zero (W := W) (H := H) hW0 (by omega) hH0 (by omega)
  have HT := Lib.hid (fun u => thr_any (W : Nat) (H : Nat) (W : Nat) (H : Nat) (W : Nat) (H : Nat) A B C (W * H) c (W * H) d (W * H) e 8 u)
  rw [fitZ_valid hW0 (by omega) hH0 (by omega), show thr (W * H) 0 (W : Nat) (H : Nat) 8 = true by unfold thr; rw [decide_eq_true hn1, decide_eq_true (show (W : Int) ≤ 8 by omega), decide_eq_true (show (H : Int) ≤ 8 by omega)]; rfl] at HT
  have HWV := Lib.hid (fun u (hb : Below w.heap.size w u) => weave_ok (c := c) (d := d) (e := e) hW0 (by omega) hH0 (by omega) u ((ha.below hb).more hb.size) ((hb1.below hb).more hb.size) ((hm.below hb).more hb.size))
  have HCN := Lib.hid (fun u (hb : Below w.heap.size w u) => count_ok W H C e mo u ((hm.below hb).more hb.size) hW0 (by omega) hH0 (by omega))
  have HEW := Lib.hid (fun s (hs : s < 2) u => even_any W s (by omega) hs u)
  have HEH := Lib.hid (fun s (hs : s < 2) u => even_any H s (by omega) hs u)
  have HOF := Lib.hid (fun s (hs : s < 2) u k d D dd (h : Row u k (2 * W * (2 * H)) (dbl W a b mo)) (hr : L2.Row u D (W + H) (evf s)) => comes_off (d := d) (dd := dd) hs hW0 (by omega) hH0 (by omega) u h hr)
  have HON := Lib.hid (fun s (hs : s < 2) u k d D dd (h : Row u k (2 * W * (2 * H)) (dbl W a b mo)) (hr : L2.Row u D (W + H) (evf s)) => comes_only (d := d) (dd := dd) hs hW0 (by omega) hH0 (by omega) u h hr)
  have HS0 := Lib.hid (fun u A1 c1 (hb : Below w.heap.size w u) (h : Holds u u.heap.size A1 (W * H) a) => rsame_t (W := (W : Nat)) (H := (H : Nat)) (c := c1) (d := c) (show W * H ≤ 5000 by omega) (fun _ _ => rfl) u h ((ha.below hb).more hb.size))
  have HS1 := Lib.hid (fun u A1 c1 (hb : Below w.heap.size w u) (h : Holds u u.heap.size A1 (W * H) b) => rsame_t (W := (W : Nat)) (H := (H : Nat)) (c := c1) (d := d) (show W * H ≤ 5000 by omega) (fun _ _ => rfl) u h ((hb1.below hb).more hb.size))
  have hcl := cnt_le mo (W * H)
  obtain ⟨F, hF⟩ : ∃ F, dbl W a b mo = F := ⟨_, rfl⟩
  obtain ⟨W2, hW2⟩ : ∃ z, 2 * W = z := ⟨_, rfl⟩
  obtain ⟨H2, hH2⟩ : ∃ z, 2 * H = z := ⟨_, rfl⟩
  have HW2 := Lib.hid hW2
  simp only [hF, hW2, hH2] at HWV HOF HON
  obtain ⟨N2, hN2⟩ : ∃ z, W2 * H2 = z := ⟨_, rfl⟩
  have HN2 := Lib.hid hN2
  simp only [hN2] at HOF HON
  obtain ⟨M, hMe⟩ : ∃ z, W * H = z := ⟨_, rfl⟩
  have HME := Lib.hid hMe
  simp only [hMe] at HT HWV HCN HOF hcl hn1 HS0 HS1 ⊢
  obtain ⟨cn, hcn⟩ : ∃ z, cnt mo M = z := ⟨_, rfl⟩
  simp only [hcn] at HCN hcl HOF
  obtain ⟨NN, hNN⟩ : ∃ z, W + H = z := ⟨_, rfl⟩
  have HNN := Lib.hid hNN
  simp only [hNN] at HOF HON
  clear ha hb1 hm hF hH2 hN2 hMe hz0 hcn
  have LB0 := Lib.hid (Below.refl w.heap.size w)
  have X1 := Lib.hid (Box.new w (W : Nat) (H : Nat) (.slice A M c))
  have LB0 := Lib.hid (LB0.out.alloc LB0.out.size (.cells #[.int .i64 (W : Nat), .int .i64 (H : Nat), .slice A M c] 24))
  have X1 := Lib.hid (X1.out.alloc (.cells #[.int .i64 (W : Nat), .int .i64 (H : Nat), .slice B M d] 24))
  have X2 := Box.new (w.alloc (.cells #[.int .i64 (W : Nat), .int .i64 (H : Nat), .slice A M c] 24)) (W : Nat) (H : Nat) (.slice B M d)
  rw [show ((w.alloc (.cells #[.int .i64 (W : Nat), .int .i64 (H : Nat), .slice A M c] 24))).heap.size = w.heap.size + 1 by simp] at X2
  have X2 := Lib.hid X2
  have LB0 := Lib.hid (LB0.out.alloc LB0.out.size (.cells #[.int .i64 (W : Nat), .int .i64 (H : Nat), .slice B M d] 24))
  have X1 := Lib.hid (X1.out.alloc (.cells #[.int .i64 (W : Nat), .int .i64 (H : Nat), .slice C M e] 24))
  have X2 := Lib.hid (X2.out.alloc (.cells #[.int .i64 (W : Nat), .int .i64 (H : Nat), .slice C M e] 24))
  have X3 := Box.new ((w.alloc (.cells #[.int .i64 (W : Nat), .int .i64 (H : Nat), .slice A M c] 24)).alloc (.cells #[.int .i64 (W : Nat), .int .i64 (H : Nat), .slice B M d] 24)) (W : Nat) (H : Nat) (.slice C M e)
  rw [show (((w.alloc (.cells #[.int .i64 (W : Nat), .int .i64 (H : Nat), .slice A M c] 24)).alloc (.cells #[.int .i64 (W : Nat), .int .i64 (H : Nat), .slice B M d] 24))).heap.size = w.heap.size + 2 by simp] at X3
  have X3 := Lib.hid X3
  have LB0 := Lib.hid (LB0.out.alloc LB0.out.size (.cells #[.int .i64 (W : Nat), .int .i64 (H : Nat), .slice C M e] 24))
  go_enter Try.func15, Try.ntmps15
  go_upto_region 1 with (fail)
  generalize ((w.alloc (.cells #[.int .i64 (W : Nat), .int .i64 (H : Nat), .slice A M c] 24)).alloc (.cells #[.int .i64 (W : Nat), .int .i64 (H : Nat), .slice B M d] 24)).alloc (.cells #[.int .i64 (W : Nat), .int .i64 (H : Nat), .slice C M e] 24) = w0 at *
  obtain ⟨q0, q1, q2, q3, q4, q5, q6⟩ := X1.out.all
  obtain ⟨q7, q8, q9, q10, q11, q12, q13⟩ := X2.out.all
  obtain ⟨q14, q15, q16, q17, q18, q19, q20⟩ := X3.out.all
  go_wp2_with fail
  clear q0 q1 q2 q3 q4 q5 q6 q7 q8 q9 q10 q11 q12 q13 q14 q15 q16 q17 q18 q19 q20
  with_reducible refine Calls.mono (HT.out _) ?_
  rintro e w1 ⟨rfl, hb⟩
  have LB1 := Lib.hid (LB0.out.trans (hb.mono LB0.out.size))
  have X1 := Lib.hid (X1.out.below hb X1.out.lt)
  have X2 := Lib.hid (X2.out.below hb X2.out.lt)
  have X3 := Lib.hid (X3.out.below hb X3.out.lt)
  clear hb LB0 
  obtain ⟨q0, q1, q2, q3, q4, q5, q6⟩ := X1.out.all
  obtain ⟨q7, q8, q9, q10, q11, q12, q13⟩ := X2.out.all
  obtain ⟨q14, q15, q16, q17, q18, q19, q20⟩ := X3.out.all
  go_wp2_with fail
  clear q0 q1 q2 q3 q4 q5 q6 q7 q8 q9 q10 q11 q12 q13 q14 q15 q16 q17 q18 q19 q20
  with_reducible refine Calls.mono (HWV.out _ LB1.out) ?_
  rintro e w2 ⟨kd, dd, rfl, hkd, hrow, hb⟩
  have LB2 := Lib.hid (LB1.out.trans (hb.mono LB1.out.size))
  have X1 := Lib.hid (X1.out.below hb X1.out.lt)
  have X2 := Lib.hid (X2.out.below hb X2.out.lt)
  have X3 := Lib.hid (X3.out.below hb X3.out.lt)
  have RD := Lib.hid hrow
  clear hb LB1 hrow
  rw [HN2.out] at RD ⊢
  have hb := ((Below.refl w2.heap.size w2).alloc (by simp; try omega) (.cells #[.int .i64 (W2 : Nat), .int .i64 (H2 : Nat), .slice (some ⟨kd, 0, none⟩) N2 dd] 24))
  have LB3 := Lib.hid (LB2.out.trans (hb.mono LB2.out.size))
  have X1 := Lib.hid (X1.out.below hb X1.out.lt)
  have X2 := Lib.hid (X2.out.below hb X2.out.lt)
  have X3 := Lib.hid (X3.out.below hb X3.out.lt)
  have RD := Lib.hid (RD.out.below hb RD.out.lt)
  have XD := Box.new w2 (W2 : Nat) (H2 : Nat) (.slice (some ⟨kd, 0, none⟩) N2 dd)
  have XD := Lib.hid XD
  clear hb LB2
  go_upto_region 4 with (fail)
  obtain ⟨db, hdb⟩ : ∃ z, w2.heap.size = z := ⟨_, rfl⟩
  rw [hdb] at XD
  try rw [hdb]
  clear hdb
  generalize w2.alloc (.cells #[.int .i64 (W2 : Nat), .int .i64 (H2 : Nat), .slice (some ⟨kd, 0, none⟩) N2 dd] 24) = w3 at *
  obtain ⟨q0, q1, q2, q3, q4, q5, q6⟩ := X3.out.all
  go_wp2_with fail
  clear q0 q1 q2 q3 q4 q5 q6
  with_reducible refine Calls.mono (HCN.out _ LB3.out) ?_
  rintro e w4 ⟨rfl, hb⟩
  have LB4 := Lib.hid (LB3.out.trans (hb.mono LB3.out.size))
  have X1 := Lib.hid (X1.out.below hb X1.out.lt)
  have X2 := Lib.hid (X2.out.below hb X2.out.lt)
  have X3 := Lib.hid (X3.out.below hb X3.out.lt)
  have RD := Lib.hid (RD.out.below hb RD.out.lt)
  have XD := Lib.hid (XD.out.below hb XD.out.lt)
  clear hb LB3 
  go_upto_region 8 with (fail)
  have LW := LB4
  go_loopw [11] (fun i wr => ∃ o : Nat, o ≤ 2 ∧ i = .int .i64 o ∧ Hid (Below w4.heap.size w4 wr)) (fun i _ => 2 - (intOf i).toNat)
  case atStart => exact ⟨0, by omega, rfl, Lib.hid (Below.refl _ _)⟩
  case round =>
    obtain ⟨o, ho, rfl, HB⟩ := hrel
    have hb := HB.out
    by_cases h2 : o < 2
    · have y1 : (o : Int) < 2 := by omega
      rcases (show o = 0 ∨ o = 1 by omega) with rfl | rfl
      · have LB0 := Lib.hid (LW.out.trans (hb.mono LW.out.size))
        have X1 := Lib.hid (X1.out.below hb X1.out.lt)
        have X2 := Lib.hid (X2.out.below hb X2.out.lt)
        have X3 := Lib.hid (X3.out.below hb X3.out.lt)
        have XD := Lib.hid (XD.out.below hb XD.out.lt)
        have RD := Lib.hid (RD.out.below hb RD.out.lt)
        have BB0 := HB
        clear hb HB LW
        obtain ⟨wa, rfl⟩ : ∃ wa : World, wa = wr := ⟨_, rfl⟩
        obtain ⟨q0, q1, q2, q3, q4, q5, q6⟩ := X1.out.all
        go_upto_region 10 with (fail)
        have HK := Lib.hid (fun (u : World) (h : Below wa.heap.size wa u) => (show u.cell? ⟨w.heap.size, 0, none⟩ = some (.int .i64 (W : Nat)) ∧ u.cell? ⟨w.heap.size, 1, none⟩ = some (.int .i64 (H : Nat)) from
          ⟨(h.cell (p := ⟨w.heap.size, 0, none⟩) q6).trans q0, (h.cell (p := ⟨w.heap.size, 1, none⟩) q6).trans q1⟩))
        have B0 := Lib.hid (Below.refl wa.heap.size wa).drew
        have EW := Lib.hid (HEW.out 0 (by omega))
        have EH := Lib.hid (HEH.out 0 (by omega))
        go_region_held3 (fun u => u.cell? ⟨w.heap.size, 0, none⟩ = some (.int .i64 (W : Nat)) ∧ u.cell? ⟨w.heap.size, 1, none⟩ = some (.int .i64 (H : Nat)))
          (first
            | with_reducible exact HK.out _ B0.out
            | with_reducible exact HK.out _ B1.out
            | with_reducible exact HK.out _ B2.out
            | with_reducible exact HK.out _ B3.out)
          (first
            | (go_at_call 63
               with_reducible refine Calls.mono (EW.out _) ?_
               rintro e v1 ⟨G1, g1, rfl, hown, hb⟩
               have B1 := Lib.hid (B0.out.trans (hb.mono B0.out.size))
               obtain ⟨k1, d1, e1, hk1, hr1⟩ := own_row hown hW0
               cases e1
               have O1 := Lib.hid (hown.lower B0.out.size)
               clear hown hb hr1 hk1)
            | (go_at_call 63
               with_reducible refine Calls.mono (EH.out _) ?_
               rintro e v2 ⟨G2, g2, rfl, hown, hb⟩
               have B2 := Lib.hid (B1.out.trans (hb.mono B1.out.size))
               have O1 := Lib.hid (O1.out.below hb)
               obtain ⟨k2, d2, e2, hk2, hr2⟩ := own_row hown hH0
               cases e2
               have O2 := Lib.hid hr2
               clear hown hb hr2)
            | (refine step_appN rfl (.tmp 51) (.tmp 55) rfl wa.heap.size rfl O1.out rfl O2.out (by omega) (by omega) B2.out.size ?_
               intro v' wn hown' hbn'
               have B3 := Lib.hid (B2.out.trans hbn')
               have O3 := Lib.hid hown'
               clear hown' hbn'))
        clear q0 q1 q2 q3 q4 q5 q6
        obtain ⟨kg, cg, rfl, hkg, hrow⟩ := own_row (O3.out.congr fun j hj => mvf_zero hj) (by omega)
        have RG := Lib.hid hrow
        have bz := B3.out
        have LBN := Lib.hid (LB0.out.trans (bz.mono LB0.out.size))
        clear hrow O1 O2 O3 B1 B2 HK EW EH hk2
        rw [HNN.out] at RG ⊢
        have hNN2 := HNN.out
        have hW22 := HW2.out
        go_upto_region 11 with (fail)
        obtain ⟨q0, q1, q2, q3, q4, q5, q6⟩ := (X1.out.below bz X1.out.lt).all
        go_wp2
        clear q0 q1 q2 q3 q4 q5 q6
        go_loopw [13] (fun i wi => ∃ j : Nat, W ≤ j ∧ j ≤ NN ∧ i = .int .i64 j ∧ Hid (L2.Row wi kg NN (mvf W 0 j)) ∧ Hid (Below wa.heap.size wa wi)) (fun i _ => NN - (intOf i).toNat)
        case atStart => exact ⟨W, Nat.le_refl _, by omega, rfl, RG, B3⟩
        case round =>
          obtain ⟨j, hj1, hj2, rfl, HR, HBI⟩ := hrel
          obtain ⟨wi, rfl⟩ : ∃ wi : World, wi = wr := ⟨_, rfl⟩
          have hbi := HBI.out
          clear RG bz B3 LBN
          by_cases hlj : j < NN
          · have y2 : (j : Int) < (NN : Int) := by omega
            have y3 : (0 : Int) ≤ (j : Int) := by omega
            have c0 := HR.out.cell hlj
            have c1 := HR.out.free j
            rw [mvf_at hj1] at c0
            have w1e : IntKind.i64.wrap (((2 * (j - W) + 0 : Nat) : Int) + (W2 : Int)) = ((2 * j + 0 : Nat) : Int) := by rw [IntWalk.i64_in _ (by omega)]; omega
            have HQ := Lib.hid (HR.out.set_ j ((2 * j + 0 : Nat) : Int))
            obtain ⟨x1, hx1⟩ : ∃ z, 2 * (j - W) + 0 = z := ⟨_, rfl⟩
            obtain ⟨x2, hx2⟩ : ∃ z, 2 * j + 0 = z := ⟨_, rfl⟩
            have HX2 := Lib.hid hx2
            rw [hx1] at c0 w1e
            rw [hx2] at w1e HQ
            clear hx1 hx2
            obtain ⟨q0, q1, q2, q3, q4, q5, q6⟩ := (XD.out.below hbi XD.out.lt).all
            have hBI2 := Lib.hid (hbi.setCell (p := ⟨kg, j, none⟩) hkg (.int .i64 (x2 : Nat)))
            clear hbi HR
            go_wp2
            go_region
            go_wp2
            go_roundw
            case rel => exact ⟨j + 1, by omega, by omega, by go_num, Lib.hid ((HQ.out.congr fun i hi => by rw [← HX2.out]; exact mvf_succ hj1)), Lib.hid hBI2.out.drew⟩
            case measure => simp [intOf]; omega
          · have e : j = NN := by omega
            have y2 : ¬ (j : Int) < (NN : Int) := by omega
            have SG := Lib.hid (HR.out.congr (f' := evf 0) fun i hi => by rw [e, ← HNN.out]; exact mvf_all (by omega))
            have LB0 := Lib.hid (LB0.out.trans (hbi.mono LB0.out.size))
            have X1 := Lib.hid (X1.out.below hbi X1.out.lt)
            have X2 := Lib.hid (X2.out.below hbi X2.out.lt)
            have X3 := Lib.hid (X3.out.below hbi X3.out.lt)
            have XD := Lib.hid (XD.out.below hbi XD.out.lt)
            have RD := Lib.hid (RD.out.below hbi RD.out.lt)
            have BBI := Lib.hid (BB0.out.trans (hbi.mono BB0.out.size))
            clear e hbi HR HBI BB0
            skip
            have HF9 := Lib.hid (HOF.out 0 (by omega))
            have HN9 := HON.out 0 (by omega)
            rw [if_pos rfl] at HN9
            have HN9 := Lib.hid HN9
            obtain ⟨q, hq⟩ : ∃ q, offq 0 cn M = q := ⟨_, rfl⟩
            rw [hq] at HF9
            have hqi : ((cn : Int) == (M : Int)) = q := by
              rw [← hq]; show _ = (cn == M); rw [Bool.eq_iff_iff, beq_iff_eq, beq_iff_eq]; omega
            clear hq
            have nq : (q != q) = false := by cases q <;> rfl
            have BB0 := BBI
            obtain ⟨q0, q1, q2, q3, q4, q5, q6⟩ := XD.out.all
            go_wp2_with fail
            clear q0 q1 q2 q3 q4 q5 q6
            with_reducible refine Calls.mono (HF9.out _ _ _ _ _ RD.out SG.out) ?_
            rintro e w1 ⟨rfl, hb⟩
            have LB1 := Lib.hid (LB0.out.trans (hb.mono LB0.out.size))
            have BB1 := Lib.hid (BB0.out.trans (hb.mono BB0.out.size))
            have X1 := Lib.hid (X1.out.below hb X1.out.lt)
            have X2 := Lib.hid (X2.out.below hb X2.out.lt)
            have X3 := Lib.hid (X3.out.below hb X3.out.lt)
            have XD := Lib.hid (XD.out.below hb XD.out.lt)
            have RD := Lib.hid (RD.out.below hb RD.out.lt)
            have SG := Lib.hid (SG.out.below hb SG.out.lt)
            clear hb LB0 BB0
            obtain ⟨q0, q1, q2, q3, q4, q5, q6⟩ := XD.out.all
            go_wp2_with fail
            clear q0 q1 q2 q3 q4 q5 q6
            with_reducible refine Calls.mono (HN9.out _ _ _ _ _ RD.out SG.out) ?_
            rintro e w2 ⟨A9, c9, rfl, _, hh9, hb⟩
            have LB2 := Lib.hid (LB1.out.trans (hb.mono LB1.out.size))
            have BB2 := Lib.hid (BB1.out.trans (hb.mono BB1.out.size))
            have X1 := Lib.hid (X1.out.below hb X1.out.lt)
            have X2 := Lib.hid (X2.out.below hb X2.out.lt)
            have X3 := Lib.hid (X3.out.below hb X3.out.lt)
            have XD := Lib.hid (XD.out.below hb XD.out.lt)
            have RD := Lib.hid (RD.out.below hb RD.out.lt)
            have SG := Lib.hid (SG.out.below hb SG.out.lt)
            have H9 := Lib.hid hh9
            clear hb hh9 LB1 BB1
            simp only [HME.out] at H9 ⊢
            have XO := Box.new w2 (W : Nat) (H : Nat) (.slice A9 M c9)
            obtain ⟨ob, hob⟩ : ∃ z, w2.heap.size = z := ⟨_, rfl⟩
            rw [hob] at XO
            have XO := Lib.hid XO
            have hb := bel_alloc w2 (.cells #[.int .i64 (W : Nat), .int .i64 (H : Nat), .slice A9 M c9] 24)
            have LB3 := Lib.hid (LB2.out.trans (hb.mono LB2.out.size))
            have BB3 := Lib.hid (BB2.out.trans (hb.mono BB2.out.size))
            have X1 := Lib.hid (X1.out.below hb X1.out.lt)
            have X2 := Lib.hid (X2.out.below hb X2.out.lt)
            have X3 := Lib.hid (X3.out.below hb X3.out.lt)
            have XD := Lib.hid (XD.out.below hb XD.out.lt)
            have RD := Lib.hid (RD.out.below hb RD.out.lt)
            have SG := Lib.hid (SG.out.below hb SG.out.lt)
            have H9 := Lib.hid ((H9.out.below hb).more hb.size)
            clear hb LB2 BB2
            go_upto_region 17 with (fail)
            try rw [hob]
            clear hob
            generalize w2.alloc (.cells #[.int .i64 (W : Nat), .int .i64 (H : Nat), .slice A9 M c9] 24) = w3 at *
            obtain ⟨q0, q1, q2, q3, q4, q5, q6⟩ := X1.out.all
            go_upto_region 18 with (fail)
            clear q0 q1 q2 q3 q4 q5 q6
            have XW := Box.new w3 (W : Nat) (H : Nat) (.slice A M c)
            obtain ⟨vb, hvb⟩ : ∃ z, w3.heap.size = z := ⟨_, rfl⟩
            rw [hvb] at XW
            have XW := Lib.hid XW
            have hb := bel_alloc w3 (.cells #[.int .i64 (W : Nat), .int .i64 (H : Nat), .slice A M c] 24)
            have hlt3 : ∀ g, g < w3.heap.size → g < vb := fun g h => by rw [← hvb]; exact h
            have hX1 := hlt3 _ X1.out.lt
            have hX2 := hlt3 _ X2.out.lt
            have hX3 := hlt3 _ X3.out.lt
            have hXO := hlt3 _ XO.out.lt
            have H9w := Lib.hid (H9.out.below hb)
            have hIW := BB3.out.size
            rw [hvb] at H9w hIW
            have LB4 := Lib.hid (LB3.out.trans (hb.mono LB3.out.size))
            have BB4 := Lib.hid (BB3.out.trans (hb.mono BB3.out.size))
            have X1 := Lib.hid (X1.out.below hb X1.out.lt)
            have X2 := Lib.hid (X2.out.below hb X2.out.lt)
            have X3 := Lib.hid (X3.out.below hb X3.out.lt)
            have XD := Lib.hid (XD.out.below hb XD.out.lt)
            have RD := Lib.hid (RD.out.below hb RD.out.lt)
            have SG := Lib.hid (SG.out.below hb SG.out.lt)
            have H9 := Lib.hid ((H9.out.below hb).more hb.size)
            have XO := Lib.hid (XO.out.below hb XO.out.lt)
            clear hb LB3 BB3 hlt3
            try rw [hvb]
            have hLW : w.heap.size ≤ vb := by omega
            have hBW := Lib.hid BB4
            clear hvb hBW
            generalize w3.alloc (.cells #[.int .i64 (W : Nat), .int .i64 (H : Nat), .slice A M c] 24) = w4 at *
            obtain ⟨q0, q1, q2, q3, q4, q5, q6⟩ := X3.out.all
            go_upto_region 21 with (fail)
            clear q0 q1 q2 q3 q4 q5 q6
            obtain ⟨q0, q1, q2, q3, q4, q5, q6⟩ := XO.out.all
            obtain ⟨q7, q8, q9, q10, q11, q12, q13⟩ := XW.out.all
            go_wp2_with fail
            clear q0 q1 q2 q3 q4 q5 q6 q7 q8 q9 q10 q11 q12 q13
            with_reducible refine Calls.mono (HS0.out _ _ _ LB4.out H9.out) ?_
            rintro e w5 ⟨rfl, hb⟩
            have BB5 := Lib.hid (BB4.out.trans (hb.mono BB4.out.size))
            go_wp2
            go_roundw
            case rel => exact ⟨1, by omega, by go_num, BB5⟩
            case measure => simp [intOf]
      · have LB0 := Lib.hid (LW.out.trans (hb.mono LW.out.size))
        have X1 := Lib.hid (X1.out.below hb X1.out.lt)
        have X2 := Lib.hid (X2.out.below hb X2.out.lt)
        have X3 := Lib.hid (X3.out.below hb X3.out.lt)
        have XD := Lib.hid (XD.out.below hb XD.out.lt)
        have RD := Lib.hid (RD.out.below hb RD.out.lt)
        have BB0 := HB
        clear hb HB LW
        obtain ⟨wa, rfl⟩ : ∃ wa : World, wa = wr := ⟨_, rfl⟩
        obtain ⟨q0, q1, q2, q3, q4, q5, q6⟩ := X1.out.all
        go_upto_region 10 with (fail)
        have HK := Lib.hid (fun (u : World) (h : Below wa.heap.size wa u) => (show u.cell? ⟨w.heap.size, 0, none⟩ = some (.int .i64 (W : Nat)) ∧ u.cell? ⟨w.heap.size, 1, none⟩ = some (.int .i64 (H : Nat)) from
          ⟨(h.cell (p := ⟨w.heap.size, 0, none⟩) q6).trans q0, (h.cell (p := ⟨w.heap.size, 1, none⟩) q6).trans q1⟩))
        have B0 := Lib.hid (Below.refl wa.heap.size wa).drew
        have EW := Lib.hid (HEW.out 1 (by omega))
        have EH := Lib.hid (HEH.out 1 (by omega))
        go_region_held3 (fun u => u.cell? ⟨w.heap.size, 0, none⟩ = some (.int .i64 (W : Nat)) ∧ u.cell? ⟨w.heap.size, 1, none⟩ = some (.int .i64 (H : Nat)))
          (first
            | with_reducible exact HK.out _ B0.out
            | with_reducible exact HK.out _ B1.out
            | with_reducible exact HK.out _ B2.out
            | with_reducible exact HK.out _ B3.out)
          (first
            | (go_at_call 63
               with_reducible refine Calls.mono (EW.out _) ?_
               rintro e v1 ⟨G1, g1, rfl, hown, hb⟩
               have B1 := Lib.hid (B0.out.trans (hb.mono B0.out.size))
               obtain ⟨k1, d1, e1, hk1, hr1⟩ := own_row hown hW0
               cases e1
               have O1 := Lib.hid (hown.lower B0.out.size)
               clear hown hb hr1 hk1)
            | (go_at_call 63
               with_reducible refine Calls.mono (EH.out _) ?_
               rintro e v2 ⟨G2, g2, rfl, hown, hb⟩
               have B2 := Lib.hid (B1.out.trans (hb.mono B1.out.size))
               have O1 := Lib.hid (O1.out.below hb)
               obtain ⟨k2, d2, e2, hk2, hr2⟩ := own_row hown hH0
               cases e2
               have O2 := Lib.hid hr2
               clear hown hb hr2)
            | (refine step_appN rfl (.tmp 51) (.tmp 55) rfl wa.heap.size rfl O1.out rfl O2.out (by omega) (by omega) B2.out.size ?_
               intro v' wn hown' hbn'
               have B3 := Lib.hid (B2.out.trans hbn')
               have O3 := Lib.hid hown'
               clear hown' hbn'))
        clear q0 q1 q2 q3 q4 q5 q6
        obtain ⟨kg, cg, rfl, hkg, hrow⟩ := own_row (O3.out.congr fun j hj => mvf_zero hj) (by omega)
        have RG := Lib.hid hrow
        have bz := B3.out
        have LBN := Lib.hid (LB0.out.trans (bz.mono LB0.out.size))
        clear hrow O1 O2 O3 B1 B2 HK EW EH hk2
        rw [HNN.out] at RG ⊢
        have hNN2 := HNN.out
        have hW22 := HW2.out
        go_upto_region 11 with (fail)
        obtain ⟨q0, q1, q2, q3, q4, q5, q6⟩ := (X1.out.below bz X1.out.lt).all
        go_wp2
        clear q0 q1 q2 q3 q4 q5 q6
        go_loopw [13] (fun i wi => ∃ j : Nat, W ≤ j ∧ j ≤ NN ∧ i = .int .i64 j ∧ Hid (L2.Row wi kg NN (mvf W 1 j)) ∧ Hid (Below wa.heap.size wa wi)) (fun i _ => NN - (intOf i).toNat)
        case atStart => exact ⟨W, Nat.le_refl _, by omega, rfl, RG, B3⟩
        case round =>
          obtain ⟨j, hj1, hj2, rfl, HR, HBI⟩ := hrel
          obtain ⟨wi, rfl⟩ : ∃ wi : World, wi = wr := ⟨_, rfl⟩
          have hbi := HBI.out
          clear RG bz B3 LBN
          by_cases hlj : j < NN
          · have y2 : (j : Int) < (NN : Int) := by omega
            have y3 : (0 : Int) ≤ (j : Int) := by omega
            have c0 := HR.out.cell hlj
            have c1 := HR.out.free j
            rw [mvf_at hj1] at c0
            have w1e : IntKind.i64.wrap (((2 * (j - W) + 1 : Nat) : Int) + (W2 : Int)) = ((2 * j + 1 : Nat) : Int) := by rw [IntWalk.i64_in _ (by omega)]; omega
            have HQ := Lib.hid (HR.out.set_ j ((2 * j + 1 : Nat) : Int))
            obtain ⟨x1, hx1⟩ : ∃ z, 2 * (j - W) + 1 = z := ⟨_, rfl⟩
            obtain ⟨x2, hx2⟩ : ∃ z, 2 * j + 1 = z := ⟨_, rfl⟩
            have HX2 := Lib.hid hx2
            rw [hx1] at c0 w1e
            rw [hx2] at w1e HQ
            clear hx1 hx2
            obtain ⟨q0, q1, q2, q3, q4, q5, q6⟩ := (XD.out.below hbi XD.out.lt).all
            have hBI2 := Lib.hid (hbi.setCell (p := ⟨kg, j, none⟩) hkg (.int .i64 (x2 : Nat)))
            clear hbi HR
            go_wp2
            go_region
            go_wp2
            go_roundw
            case rel => exact ⟨j + 1, by omega, by omega, by go_num, Lib.hid ((HQ.out.congr fun i hi => by rw [← HX2.out]; exact mvf_succ hj1)), Lib.hid hBI2.out.drew⟩
            case measure => simp [intOf]; omega
          · have e : j = NN := by omega
            have y2 : ¬ (j : Int) < (NN : Int) := by omega
            have SG := Lib.hid (HR.out.congr (f' := evf 1) fun i hi => by rw [e, ← HNN.out]; exact mvf_all (by omega))
            have LB0 := Lib.hid (LB0.out.trans (hbi.mono LB0.out.size))
            have X1 := Lib.hid (X1.out.below hbi X1.out.lt)
            have X2 := Lib.hid (X2.out.below hbi X2.out.lt)
            have X3 := Lib.hid (X3.out.below hbi X3.out.lt)
            have XD := Lib.hid (XD.out.below hbi XD.out.lt)
            have RD := Lib.hid (RD.out.below hbi RD.out.lt)
            have BBI := Lib.hid (BB0.out.trans (hbi.mono BB0.out.size))
            clear e hbi HR HBI BB0
            skip
            have HF9 := Lib.hid (HOF.out 1 (by omega))
            have HN9 := HON.out 1 (by omega)
            rw [if_neg (by decide)] at HN9
            have HN9 := Lib.hid HN9
            obtain ⟨q, hq⟩ : ∃ q, offq 1 cn M = q := ⟨_, rfl⟩
            rw [hq] at HF9
            have hqj : ((cn : Int) == (M : Int)) = (cn == M) := by rw [Bool.eq_iff_iff, beq_iff_eq, beq_iff_eq]; omega
            have hqi : ((cn : Int) == 0) = q := by
              rw [← hq]; show _ = (cn == 0); rw [Bool.eq_iff_iff, beq_iff_eq, beq_iff_eq]; omega
            obtain ⟨q2, hq2⟩ : ∃ q, (cn == M) = q := ⟨_, rfl⟩
            rw [hq2] at hqj
            clear hq2
            clear hq
            have nq : (q != q) = false := by cases q <;> rfl
            have BB0 := BBI
            obtain ⟨q0, q1, q2, q3, q4, q5, q6⟩ := XD.out.all
            go_wp2_with fail
            clear q0 q1 q2 q3 q4 q5 q6
            with_reducible refine Calls.mono (HF9.out _ _ _ _ _ RD.out SG.out) ?_
            rintro e w1 ⟨rfl, hb⟩
            have LB1 := Lib.hid (LB0.out.trans (hb.mono LB0.out.size))
            have BB1 := Lib.hid (BB0.out.trans (hb.mono BB0.out.size))
            have X1 := Lib.hid (X1.out.below hb X1.out.lt)
            have X2 := Lib.hid (X2.out.below hb X2.out.lt)
            have X3 := Lib.hid (X3.out.below hb X3.out.lt)
            have XD := Lib.hid (XD.out.below hb XD.out.lt)
            have RD := Lib.hid (RD.out.below hb RD.out.lt)
            have SG := Lib.hid (SG.out.below hb SG.out.lt)
            clear hb LB0 BB0
            obtain ⟨q0, q1, q2, q3, q4, q5, q6⟩ := XD.out.all
            go_wp2_with fail
            clear q0 q1 q2 q3 q4 q5 q6
            with_reducible refine Calls.mono (HN9.out _ _ _ _ _ RD.out SG.out) ?_
            rintro e w2 ⟨A9, c9, rfl, _, hh9, hb⟩
            have LB2 := Lib.hid (LB1.out.trans (hb.mono LB1.out.size))
            have BB2 := Lib.hid (BB1.out.trans (hb.mono BB1.out.size))
            have X1 := Lib.hid (X1.out.below hb X1.out.lt)
            have X2 := Lib.hid (X2.out.below hb X2.out.lt)
            have X3 := Lib.hid (X3.out.below hb X3.out.lt)
            have XD := Lib.hid (XD.out.below hb XD.out.lt)
            have RD := Lib.hid (RD.out.below hb RD.out.lt)
            have SG := Lib.hid (SG.out.below hb SG.out.lt)
            have H9 := Lib.hid hh9
            clear hb hh9 LB1 BB1
            simp only [HME.out] at H9 ⊢
            have XO := Box.new w2 (W : Nat) (H : Nat) (.slice A9 M c9)
            obtain ⟨ob, hob⟩ : ∃ z, w2.heap.size = z := ⟨_, rfl⟩
            rw [hob] at XO
            have XO := Lib.hid XO
            have hb := bel_alloc w2 (.cells #[.int .i64 (W : Nat), .int .i64 (H : Nat), .slice A9 M c9] 24)
            have LB3 := Lib.hid (LB2.out.trans (hb.mono LB2.out.size))
            have BB3 := Lib.hid (BB2.out.trans (hb.mono BB2.out.size))
            have X1 := Lib.hid (X1.out.below hb X1.out.lt)
            have X2 := Lib.hid (X2.out.below hb X2.out.lt)
            have X3 := Lib.hid (X3.out.below hb X3.out.lt)
            have XD := Lib.hid (XD.out.below hb XD.out.lt)
            have RD := Lib.hid (RD.out.below hb RD.out.lt)
            have SG := Lib.hid (SG.out.below hb SG.out.lt)
            have H9 := Lib.hid ((H9.out.below hb).more hb.size)
            clear hb LB2 BB2
            go_upto_region 17 with (fail)
            try rw [hob]
            clear hob
            generalize w2.alloc (.cells #[.int .i64 (W : Nat), .int .i64 (H : Nat), .slice A9 M c9] 24) = w3 at *
            obtain ⟨q0, q1, q2, q3, q4, q5, q6⟩ := X1.out.all
            go_upto_region 18 with (fail)
            clear q0 q1 q2 q3 q4 q5 q6
            have XW := Box.new w3 (W : Nat) (H : Nat) (.slice A M c)
            obtain ⟨vb, hvb⟩ : ∃ z, w3.heap.size = z := ⟨_, rfl⟩
            rw [hvb] at XW
            have XW := Lib.hid XW
            have hb := bel_alloc w3 (.cells #[.int .i64 (W : Nat), .int .i64 (H : Nat), .slice A M c] 24)
            have hlt3 : ∀ g, g < w3.heap.size → g < vb := fun g h => by rw [← hvb]; exact h
            have hX1 := hlt3 _ X1.out.lt
            have hX2 := hlt3 _ X2.out.lt
            have hX3 := hlt3 _ X3.out.lt
            have hXO := hlt3 _ XO.out.lt
            have H9w := Lib.hid (H9.out.below hb)
            have hIW := BB3.out.size
            rw [hvb] at H9w hIW
            have LB4 := Lib.hid (LB3.out.trans (hb.mono LB3.out.size))
            have BB4 := Lib.hid (BB3.out.trans (hb.mono BB3.out.size))
            have X1 := Lib.hid (X1.out.below hb X1.out.lt)
            have X2 := Lib.hid (X2.out.below hb X2.out.lt)
            have X3 := Lib.hid (X3.out.below hb X3.out.lt)
            have XD := Lib.hid (XD.out.below hb XD.out.lt)
            have RD := Lib.hid (RD.out.below hb RD.out.lt)
            have SG := Lib.hid (SG.out.below hb SG.out.lt)
            have H9 := Lib.hid ((H9.out.below hb).more hb.size)
            have XO := Lib.hid (XO.out.below hb XO.out.lt)
            clear hb LB3 BB3 hlt3
            try rw [hvb]
            have hLW : w.heap.size ≤ vb := by omega
            have hBW := Lib.hid BB4
            clear hvb hBW
            generalize w3.alloc (.cells #[.int .i64 (W : Nat), .int .i64 (H : Nat), .slice A M c] 24) = w4 at *
            obtain ⟨q0, q1, q2, q3, q4, q5, q6⟩ := X3.out.all
            obtain ⟨q7, q8, q9, q10, q11, q12, q13⟩ := X2.out.all
            obtain ⟨q14, q15, q16, q17, q18, q19, q20⟩ := XW.out.all
            go_upto_region 21 with (fail)
            clear q0 q1 q2 q3 q4 q5 q6 q7 q8 q9 q10 q11 q12 q13 q14 q15 q16 q17 q18 q19 q20
            have XW5 := Lib.hid (XW.out.st3 (W : Nat) (H : Nat) (.slice B M d))
            have hb := bel_st3 (Below.refl vb w4) (g := vb) (Nat.le_refl _) (.int .i64 (W : Nat)) (.int .i64 (H : Nat)) (.slice B M d)
            have XO5 := Lib.hid (XO.out.below hb hXO)
            have hs5 : (((w4.setCell ⟨vb, 0, none⟩ (.int .i64 (W : Nat))).setCell ⟨vb, 1, none⟩ (.int .i64 (H : Nat))).setCell ⟨vb, 2, none⟩ (.slice B M d)).heap.size = w4.heap.size := by rw [size_st3]
            have H95 := Lib.hid ((H9w.out.below hb).more (show vb ≤ (((w4.setCell ⟨vb, 0, none⟩ (.int .i64 (W : Nat))).setCell ⟨vb, 1, none⟩ (.int .i64 (H : Nat))).setCell ⟨vb, 2, none⟩ (.slice B M d)).heap.size by rw [hs5]; have := XW.out.lt; omega))
            have LB5 := Lib.hid (bel_st3 LB4.out (g := vb) hLW (.int .i64 (W : Nat)) (.int .i64 (H : Nat)) (.slice B M d))
            have BB5 := Lib.hid (bel_st3 BB4.out (g := vb) hIW (.int .i64 (W : Nat)) (.int .i64 (H : Nat)) (.slice B M d))
            clear hs5 hb
            generalize (((w4.setCell ⟨vb, 0, none⟩ (.int .i64 (W : Nat))).setCell ⟨vb, 1, none⟩ (.int .i64 (H : Nat))).setCell ⟨vb, 2, none⟩ (.slice B M d)) = w5 at *
            obtain ⟨q0, q1, q2, q3, q4, q5, q6⟩ := XO5.out.all
            obtain ⟨q7, q8, q9, q10, q11, q12, q13⟩ := XW5.out.all
            go_wp2_with fail
            clear q0 q1 q2 q3 q4 q5 q6 q7 q8 q9 q10 q11 q12 q13
            with_reducible refine Calls.mono (HS1.out _ _ _ LB5.out H95.out) ?_
            rintro e w6 ⟨rfl, hb⟩
            have BB5 := Lib.hid (BB5.out.trans (hb.mono BB5.out.size))
            go_wp2
            go_roundw
            case rel => exact ⟨2, by omega, by go_num, BB5⟩
            case measure => simp [intOf]
    · have y1 : ¬ (o : Int) < 2 := by omega
      have LB0 := Lib.hid (LW.out.trans (hb.mono LW.out.size))
      go_wp2_with fail
      with_reducible refine Calls.mono (alive12_any _) ?_
      rintro e w99 ⟨rfl, hb9⟩
      have LB9 := Lib.hid (LB0.out.trans (hb9.mono LB0.out.size))
      go_wp2
      go_ret
      exact ⟨rfl, LB9.out⟩
theorem comes12_any (W H X Y U V : Int) (A B C : Option Addr) (n c m d k e : Nat) (a b mo : Nat → Bool) (w : World) (ha : Holds w w.heap.size A n a) (hb : Holds w w.heap.size B m b) (hm : Holds w w.heap.size C k mo) :
    Calls Try.prog 15 #[.agg #[.int .i64 W, .int .i64 H, .slice A n c], .agg #[.int .i64 X, .int .i64 Y, .slice B m d], .agg #[.int .i64 U, .int .i64 V, .slice C k e]] w fun e w' => e = .returned (.bool true) ∧ Below w.heap.size w w' := by
  have key : ∀ p, thr n (fitZ (chk W H n) (chk X Y m) (chk U V k) W H X Y U V) W H 8 = p → Calls Try.prog 15 #[.agg #[.int .i64 W, .int .i64 H, .slice A n c], .agg #[.int .i64 X, .int .i64 Y, .slice B m d], .agg #[.int .i64 U, .int .i64 V, .slice C k e]] w fun e w' => e = .returned (.bool true) ∧ Below w.heap.size w w' := by
    intro p hp
    cases p
    · exact comes12_any_no W H X Y U V A B C n c m d k e hp w
    · obtain ⟨t0, t1, t2, t3, rfl, rfl, rfl, rfl, t8, t9⟩ := thr_yes hp
      obtain ⟨W', H', rfl, rfl, rfl, w1, w2, w3, w4⟩ := nat_of t1
      obtain ⟨W2, H2, e1, e2, rfl, _⟩ := nat_of t2
      obtain ⟨W3, H3, e3, e4, rfl, _⟩ := nat_of t3
      obtain rfl : W' = W2 := by omega
      obtain rfl : H' = H2 := by omega
      obtain rfl : W' = W3 := by omega
      obtain rfl : H' = H3 := by omega
      exact comes12_any_yes W' H' A B C c d e a b mo w1 (by omega) w3 (by omega) t0 w ha hb hm
  exact key _ rfl
end Go.Proofs.Ytgmcbdnfgdmmaaa
