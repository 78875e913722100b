/- DoubleHangs: the walk. -/
import Derived.Test.YtgmcbdnfgdmmaaaDin
import Derived.Deep.RegionHeld3
namespace Go.Proofs.Ytgmcbdnfgdmmaaa
open Go.RowKit
set_option maxRecDepth 100000
set_option linter.unusedVariables false
set_option linter.unusedSimpArgs false

theorem cnt_none_iff {p : Nat → Bool} : ∀ {n : Nat}, cnt p n = 0 → ∀ i, i < n → p i = false
  | 0, _, i, hi => by omega
  | n + 1, h, i, hi => by
    rw [cnt_s] at h
    by_cases e : p n = true
    · rw [if_pos e] at h; omega
    · rw [if_neg e] at h
      rcases Nat.lt_or_ge i n with h1 | h1
      · exact cnt_none_iff h i h1
      · rw [show i = n by omega]; simpa using e
theorem cnt_full_iff {p : Nat → Bool} : ∀ {n : Nat}, cnt p n = n → ∀ i, i < n → p i = true
  | 0, _, i, hi => by omega
  | n + 1, h, i, hi => by
    have h2 := cnt_le p n
    rw [cnt_s] at h
    by_cases e : p n = true
    · rw [if_pos e] at h
      rcases Nat.lt_or_ge i n with h1 | h1
      · exact cnt_full_iff (by omega) i h1
      · rw [show i = n by omega]; exact e
    · rw [if_neg e] at h; omega
theorem cnt_some {p : Nat → Bool} : ∀ {n : Nat}, 0 < cnt p n → ∃ i, i < n ∧ p i = true
  | 0, h => by simp [cnt] at h
  | n + 1, h => by
    rw [cnt_s] at h
    by_cases e : p n = true
    · exact ⟨n, by omega, e⟩
    · rw [if_neg e] at h
      obtain ⟨i, hi, h2⟩ := cnt_some (p := p) (n := n) (by omega)
      exact ⟨i, by omega, h2⟩
theorem cnt_miss {p : Nat → Bool} : ∀ {n : Nat}, cnt p n < n → ∃ i, i < n ∧ p i = false
  | 0, h => by omega
  | n + 1, h => by
    rw [cnt_s] at h
    by_cases e : p n = true
    · rw [if_pos e] at h
      obtain ⟨i, hi, h2⟩ := cnt_miss (p := p) (n := n) (by omega)
      exact ⟨i, by omega, h2⟩
    · exact ⟨n, by omega, by simpa using e⟩
theorem evf_lf {n s i : Nat} (h : i < n) : evf s i = lf (evl n s) i := by unfold evf lf; rw [evl_get h]
theorem own_evl {w : World} {base n s d : Nat} {D : Option Addr} (h : L2.Own w base (.slice D n d) n (evf s)) : LL w D (evl n s) := by
  have := own_ll (base := base) (D := D) (d := d) (l := evl n s) (w := w)
  rw [evl_len] at this
  exact this (h.congr fun i hi => evf_lf hi)
/-- Same of two lists that are alike. -/
theorem same_evl {n s c d : Nat} {D E : Option Addr} (hn : n ≤ 5000) (w : World) (h1 : LL w D (evl n s)) (h2 : LL w E (evl n s)) :
    Calls Try.prog 62 #[.slice D n c, .slice E n d] w fun e w' => e = .returned (.bool true) ∧ Below w.heap.size w w' := by
  have := same_two (l1 := evl n s) (l2 := evl n s) c d w (by rw [evl_len]; exact hn) h1 h2
  rw [evl_len] at this
  exact this.mono fun e w' h => ⟨by rw [h.1, beq_self_eq_true], h.2⟩
/-- The layers of a double cloth came back. -/
def DLy (W H s : Nat) (w : World) (e : Ending) (w' : World) : Prop := ∃ b o c D1 c1 D2 c2 D3 c3 D4 c4, e = .returned (.tuple #[.slice (some ⟨b, o, none⟩) 2 c, .int .i64 0]) ∧ b < w'.heap.size ∧
  (w'.cell? ⟨b, o, none⟩ = some (.slice D1 W c1) ∧ w'.cell? ⟨b, o + 1, none⟩ = some (.slice D2 H c2) ∧ w'.cell? ⟨b, o + 2, none⟩ = some (.slice D3 W c3) ∧ w'.cell? ⟨b, o + 3, none⟩ = some (.slice D4 H c4)) ∧
  LL w' D1 (evl W s) ∧ LL w' D2 (evl H s) ∧ LL w' D3 (evl W (1 - s)) ∧ LL w' D4 (evl H (1 - s)) ∧ Below w.heap.size w w'
theorem dlayers {W H s k d : Nat} {a b m : Nat → Bool} (hW0 : 1 ≤ W) (hW : W ≤ 32) (hH0 : 1 ≤ H) (hH : H ≤ 32) (hd : Dbl2 (ov (2 * W) (dbl W a b m)) (W + H) s) (w : World) (h : Row w k (2 * W * (2 * H)) (dbl W a b m)) :
    Calls Try.prog 61 #[.agg #[.int .i64 ((2 * W : Nat) : Int), .int .i64 ((2 * H : Nat) : Int), .slice (some ⟨k, 0, none⟩) (2 * W * (2 * H)) d]] w (DLy W H s w) := by
  obtain ⟨hl, e1, p1, e2, p2⟩ := hd.layers hW0 hH0
  refine (players_n (2 * W) (2 * H) (2 * (W + H)) (by omega) (some ⟨k, 0, none⟩) d _ w (h.holds h.lt) (by omega) (by omega) (by omega) (by omega)).mono fun e w' ⟨D, c, he, hy, hb⟩ => ?_
  rw [hl] at he hy
  obtain ⟨b', o, e3, h1, h2⟩ := hy (by omega)
  obtain ⟨D1, c1, D2, c2, a1, a2, a3, a4⟩ := h2 0 (by omega)
  obtain ⟨D3, c3, D4, c4, a5, a6, a7, a8⟩ := h2 1 (by omega)
  rw [e1] at a1 a3; rw [p1] at a2 a4; rw [e2] at a5 a7; rw [p2] at a6 a8
  rw [evl_len] at a1 a2 a5 a6
  subst e3
  exact ⟨b', o, c, D1, c1, D2, c2, D3, c3, D4, c4, he, h1, ⟨a1, a2, a5, a6⟩, a3, a4, a7, a8, hb⟩
set_option maxHeartbeats 1600000 in
theorem hangs12_any_no (W H X Y U V : Int) (A B C : Option Addr) (n c m d k e : Nat) (ht : thr n (fitZ (chk W H n) (chk X Y m) (chk U V k) W H X Y U V) W H 6 = false) (w : World) :
    Calls Try.prog 14 #[.agg #[.int .i64 W, .int .i64 H, .slice A n c], .agg #[.int .i64 X, .int .i64 Y, .slice B m d], .agg #[.int .i64 U, .int .i64 V, .slice C k e]] w fun e w' => e = .returned (.bool true) ∧ Below w.heap.size w w' := by
  have HT := Lib.hid (fun u => thr_any W H X Y U V A B C n c m d k e 6 u)
  rw [ht] at HT
  clear ht
  have LB0 := Lib.hid (Below.refl w.heap.size w)
  have X1 := Lib.hid (Box.new w W H (.slice A n c))
  have LB0 := Lib.hid (LB0.out.alloc LB0.out.size (.cells #[.int .i64 W, .int .i64 H, .slice A n c] 24))
  have X1 := Lib.hid (X1.out.alloc (.cells #[.int .i64 X, .int .i64 Y, .slice B m d] 24))
  have X2 := Box.new (w.alloc (.cells #[.int .i64 W, .int .i64 H, .slice A n c] 24)) X Y (.slice B m d)
  rw [show ((w.alloc (.cells #[.int .i64 W, .int .i64 H, .slice A n c] 24))).heap.size = w.heap.size + 1 by simp] at X2
  have X2 := Lib.hid X2
  have LB0 := Lib.hid (LB0.out.alloc LB0.out.size (.cells #[.int .i64 X, .int .i64 Y, .slice B m d] 24))
  have X1 := Lib.hid (X1.out.alloc (.cells #[.int .i64 U, .int .i64 V, .slice C k e] 24))
  have X2 := Lib.hid (X2.out.alloc (.cells #[.int .i64 U, .int .i64 V, .slice C k e] 24))
  have X3 := Box.new ((w.alloc (.cells #[.int .i64 W, .int .i64 H, .slice A n c] 24)).alloc (.cells #[.int .i64 X, .int .i64 Y, .slice B m d] 24)) U V (.slice C k e)
  rw [show (((w.alloc (.cells #[.int .i64 W, .int .i64 H, .slice A n c] 24)).alloc (.cells #[.int .i64 X, .int .i64 Y, .slice B m d] 24))).heap.size = w.heap.size + 2 by simp] at X3
  have X3 := Lib.hid X3
  have LB0 := Lib.hid (LB0.out.alloc LB0.out.size (.cells #[.int .i64 U, .int .i64 V, .slice C k e] 24))
  go_enter Try.func14, Try.ntmps14
  go_upto_region 1 with (fail)
  generalize ((w.alloc (.cells #[.int .i64 W, .int .i64 H, .slice A n c] 24)).alloc (.cells #[.int .i64 X, .int .i64 Y, .slice B m d] 24)).alloc (.cells #[.int .i64 U, .int .i64 V, .slice C k e] 24) = w0 at *
  obtain ⟨q0, q1, q2, q3, q4, q5, q6⟩ := X1.out.all
  obtain ⟨q7, q8, q9, q10, q11, q12, q13⟩ := X2.out.all
  obtain ⟨q14, q15, q16, q17, q18, q19, q20⟩ := X3.out.all
  go_wp2_with fail
  clear q0 q1 q2 q3 q4 q5 q6 q7 q8 q9 q10 q11 q12 q13 q14 q15 q16 q17 q18 q19 q20
  with_reducible refine Calls.mono (HT.out _) ?_
  rintro e w1 ⟨rfl, hb⟩
  have LB1 := Lib.hid (LB0.out.trans (hb.mono LB0.out.size))
  have X1 := Lib.hid (X1.out.below hb X1.out.lt)
  have X2 := Lib.hid (X2.out.below hb X2.out.lt)
  have X3 := Lib.hid (X3.out.below hb X3.out.lt)
  clear hb LB0 
  go_wp2_with fail
  with_reducible refine Calls.mono (alive12_any _) ?_
  rintro e w2 ⟨rfl, hb⟩
  have LB2 := Lib.hid (LB1.out.trans (hb.mono LB1.out.size))
  have X1 := Lib.hid (X1.out.below hb X1.out.lt)
  have X2 := Lib.hid (X2.out.below hb X2.out.lt)
  have X3 := Lib.hid (X3.out.below hb X3.out.lt)
  clear hb LB1 
  go_wp2
  go_ret
  exact ⟨rfl, LB2.out⟩
set_option maxHeartbeats 3200000 in
theorem hg_na (W H : Nat) (A B C : Option Addr) (c d e : Nat) (a b mo : Nat → Bool) (hW0 : 1 ≤ W) (hW : W ≤ 6) (hH0 : 1 ≤ H) (hH : H ≤ 6) (hn1 : W * H ≤ 1100) (hqa : hgs (ov W a) (W + H) = false) (w : World) (ha : Holds w w.heap.size A (W * H) a) (hb1 : Holds w w.heap.size B (W * H) b) (hm : Holds w w.heap.size C (W * H) mo) :
    Calls Try.prog 14 #[.agg #[.int .i64 (W : Nat), .int .i64 (H : Nat), .slice A (W * H) c], .agg #[.int .i64 (W : Nat), .int .i64 (H : Nat), .slice B (W * H) d], .agg #[.int .i64 (W : Nat), .int .i64 (H : Nat), .slice C (W * H) e]] w fun e w' => e = .returned (.bool true) ∧ Below w.heap.size w w' := by
  have hz0 := chk_zero (W := W) (H := H) hW0 (by omega) hH0 (by omega)
  have HT := Lib.hid (fun u => thr_any (W : Nat) (H : Nat) (W : Nat) (H : Nat) (W : Nat) (H : Nat) A B C (W * H) c (W * H) d (W * H) e 6 u)
  rw [fitZ_valid hW0 (by omega) hH0 (by omega), show thr (W * H) 0 (W : Nat) (H : Nat) 6 = true by unfold thr; rw [decide_eq_true hn1, decide_eq_true (show (W : Int) ≤ 6 by omega), decide_eq_true (show (H : Int) ≤ 6 by omega)]; rfl] at HT
  have HWV := Lib.hid (fun u (hb : Below w.heap.size w u) => weave_ok (c := c) (d := d) (e := e) hW0 (by omega) hH0 (by omega) u ((ha.below hb).more hb.size) ((hb1.below hb).more hb.size) ((hm.below hb).more hb.size))
  have HHA := Lib.hid (fun u (hb : Below w.heap.size w u) => phangs_core W H (W + H) rfl A c a u ((ha.below hb).more hb.size) hW0 (by omega) hH0 (by omega) _ rfl)
  have HHB := Lib.hid (fun u (hb : Below w.heap.size w u) => phangs_core W H (W + H) rfl B d b u ((hb1.below hb).more hb.size) hW0 (by omega) hH0 (by omega) _ rfl)
  have HHD := Lib.hid (fun u k d (h : Row u k (2 * W * (2 * H)) (dbl W a b mo)) => phangs_core (2 * W) (2 * H) (2 * (W + H)) (by omega) (some ⟨k, 0, none⟩) d _ u (h.holds h.lt) (by omega) (by omega) (by omega) (by omega) _ rfl)
  have HCN := Lib.hid (fun u (hb : Below w.heap.size w u) => count_ok W H C e mo u ((hm.below hb).more hb.size) hW0 (by omega) hH0 (by omega))
  rw [hqa] at HHA
  obtain ⟨qb, hqb⟩ : ∃ q, hgs (ov W b) (W + H) = q := ⟨_, rfl⟩
  rw [hqb] at HHB
  obtain ⟨qd, hqd⟩ : ∃ q, hgs (ov (2 * W) (dbl W a b mo)) (2 * (W + H)) = q := ⟨_, rfl⟩
  rw [hqd] at HHD
  have hcl := cnt_le mo (W * H)
  obtain ⟨F, hF⟩ : ∃ F, dbl W a b mo = F := ⟨_, rfl⟩
  obtain ⟨W2, hW2⟩ : ∃ z, 2 * W = z := ⟨_, rfl⟩
  obtain ⟨H2, hH2⟩ : ∃ z, 2 * H = z := ⟨_, rfl⟩
  simp only [hF, hW2, hH2] at HWV HHD
  obtain ⟨N2, hN2⟩ : ∃ z, W2 * H2 = z := ⟨_, rfl⟩
  have HN2 := Lib.hid hN2
  simp only [hN2] at HHD
  obtain ⟨M, hMe⟩ : ∃ z, W * H = z := ⟨_, rfl⟩
  simp only [hMe] at HT HWV HHA HHB HCN hcl hn1 ⊢
  obtain ⟨cn, hcn⟩ : ∃ z, cnt mo M = z := ⟨_, rfl⟩
  simp only [hcn] at HCN hcl
  have HM0 := Lib.hid (show 0 < M by rw [← hMe]; exact Nat.mul_pos hW0 hH0)
  clear ha hb1 hm hF hW2 hH2 hN2 hMe hz0 hcn
  have LB0 := Lib.hid (Below.refl w.heap.size w)
  have X1 := Lib.hid (Box.new w (W : Nat) (H : Nat) (.slice A M c))
  have LB0 := Lib.hid (LB0.out.alloc LB0.out.size (.cells #[.int .i64 (W : Nat), .int .i64 (H : Nat), .slice A M c] 24))
  have X1 := Lib.hid (X1.out.alloc (.cells #[.int .i64 (W : Nat), .int .i64 (H : Nat), .slice B M d] 24))
  have X2 := Box.new (w.alloc (.cells #[.int .i64 (W : Nat), .int .i64 (H : Nat), .slice A M c] 24)) (W : Nat) (H : Nat) (.slice B M d)
  rw [show ((w.alloc (.cells #[.int .i64 (W : Nat), .int .i64 (H : Nat), .slice A M c] 24))).heap.size = w.heap.size + 1 by simp] at X2
  have X2 := Lib.hid X2
  have LB0 := Lib.hid (LB0.out.alloc LB0.out.size (.cells #[.int .i64 (W : Nat), .int .i64 (H : Nat), .slice B M d] 24))
  have X1 := Lib.hid (X1.out.alloc (.cells #[.int .i64 (W : Nat), .int .i64 (H : Nat), .slice C M e] 24))
  have X2 := Lib.hid (X2.out.alloc (.cells #[.int .i64 (W : Nat), .int .i64 (H : Nat), .slice C M e] 24))
  have X3 := Box.new ((w.alloc (.cells #[.int .i64 (W : Nat), .int .i64 (H : Nat), .slice A M c] 24)).alloc (.cells #[.int .i64 (W : Nat), .int .i64 (H : Nat), .slice B M d] 24)) (W : Nat) (H : Nat) (.slice C M e)
  rw [show (((w.alloc (.cells #[.int .i64 (W : Nat), .int .i64 (H : Nat), .slice A M c] 24)).alloc (.cells #[.int .i64 (W : Nat), .int .i64 (H : Nat), .slice B M d] 24))).heap.size = w.heap.size + 2 by simp] at X3
  have X3 := Lib.hid X3
  have LB0 := Lib.hid (LB0.out.alloc LB0.out.size (.cells #[.int .i64 (W : Nat), .int .i64 (H : Nat), .slice C M e] 24))
  go_enter Try.func14, Try.ntmps14
  go_upto_region 1 with (fail)
  generalize ((w.alloc (.cells #[.int .i64 (W : Nat), .int .i64 (H : Nat), .slice A M c] 24)).alloc (.cells #[.int .i64 (W : Nat), .int .i64 (H : Nat), .slice B M d] 24)).alloc (.cells #[.int .i64 (W : Nat), .int .i64 (H : Nat), .slice C M e] 24) = w0 at *
  obtain ⟨q0, q1, q2, q3, q4, q5, q6⟩ := X1.out.all
  obtain ⟨q7, q8, q9, q10, q11, q12, q13⟩ := X2.out.all
  obtain ⟨q14, q15, q16, q17, q18, q19, q20⟩ := X3.out.all
  go_wp2_with fail
  clear q0 q1 q2 q3 q4 q5 q6 q7 q8 q9 q10 q11 q12 q13 q14 q15 q16 q17 q18 q19 q20
  with_reducible refine Calls.mono (HT.out _) ?_
  rintro e w1 ⟨rfl, hb⟩
  have LB1 := Lib.hid (LB0.out.trans (hb.mono LB0.out.size))
  have X1 := Lib.hid (X1.out.below hb X1.out.lt)
  have X2 := Lib.hid (X2.out.below hb X2.out.lt)
  have X3 := Lib.hid (X3.out.below hb X3.out.lt)
  clear hb LB0 
  obtain ⟨q0, q1, q2, q3, q4, q5, q6⟩ := X1.out.all
  obtain ⟨q7, q8, q9, q10, q11, q12, q13⟩ := X2.out.all
  obtain ⟨q14, q15, q16, q17, q18, q19, q20⟩ := X3.out.all
  go_wp2_with fail
  clear q0 q1 q2 q3 q4 q5 q6 q7 q8 q9 q10 q11 q12 q13 q14 q15 q16 q17 q18 q19 q20
  with_reducible refine Calls.mono (HWV.out _ LB1.out) ?_
  rintro e w2 ⟨kd, dd, rfl, hkd, hrow, hb⟩
  have LB2 := Lib.hid (LB1.out.trans (hb.mono LB1.out.size))
  have X1 := Lib.hid (X1.out.below hb X1.out.lt)
  have X2 := Lib.hid (X2.out.below hb X2.out.lt)
  have X3 := Lib.hid (X3.out.below hb X3.out.lt)
  have RD := Lib.hid hrow
  clear hb LB1 hrow
  rw [HN2.out] at RD ⊢
  have hb := ((Below.refl w2.heap.size w2).alloc (by simp; try omega) (.cells #[.int .i64 (W2 : Nat), .int .i64 (H2 : Nat), .slice (some ⟨kd, 0, none⟩) N2 dd] 24))
  have LB3 := Lib.hid (LB2.out.trans (hb.mono LB2.out.size))
  have X1 := Lib.hid (X1.out.below hb X1.out.lt)
  have X2 := Lib.hid (X2.out.below hb X2.out.lt)
  have X3 := Lib.hid (X3.out.below hb X3.out.lt)
  have RD := Lib.hid (RD.out.below hb RD.out.lt)
  have XD := Box.new w2 (W2 : Nat) (H2 : Nat) (.slice (some ⟨kd, 0, none⟩) N2 dd)
  have XD := Lib.hid XD
  clear hb LB2
  go_upto_region 4 with (fail)
  obtain ⟨db, hdb⟩ : ∃ z, w2.heap.size = z := ⟨_, rfl⟩
  rw [hdb] at XD
  try rw [hdb]
  clear hdb
  generalize w2.alloc (.cells #[.int .i64 (W2 : Nat), .int .i64 (H2 : Nat), .slice (some ⟨kd, 0, none⟩) N2 dd] 24) = w3 at *
  obtain ⟨q0, q1, q2, q3, q4, q5, q6⟩ := X1.out.all
  go_wp2_with fail
  clear q0 q1 q2 q3 q4 q5 q6
  with_reducible refine Calls.mono (HHA.out _ LB3.out) ?_
  rintro e w4 ⟨rfl, hb⟩
  have LB4 := Lib.hid (LB3.out.trans (hb.mono LB3.out.size))
  have X1 := Lib.hid (X1.out.below hb X1.out.lt)
  have X2 := Lib.hid (X2.out.below hb X2.out.lt)
  have X3 := Lib.hid (X3.out.below hb X3.out.lt)
  have RD := Lib.hid (RD.out.below hb RD.out.lt)
  have XD := Lib.hid (XD.out.below hb XD.out.lt)
  clear hb LB3 
  obtain ⟨q0, q1, q2, q3, q4, q5, q6⟩ := X2.out.all
  go_wp2_with fail
  clear q0 q1 q2 q3 q4 q5 q6
  with_reducible refine Calls.mono (HHB.out _ LB4.out) ?_
  rintro e w5 ⟨rfl, hb⟩
  have LB5 := Lib.hid (LB4.out.trans (hb.mono LB4.out.size))
  have X1 := Lib.hid (X1.out.below hb X1.out.lt)
  have X2 := Lib.hid (X2.out.below hb X2.out.lt)
  have X3 := Lib.hid (X3.out.below hb X3.out.lt)
  have RD := Lib.hid (RD.out.below hb RD.out.lt)
  have XD := Lib.hid (XD.out.below hb XD.out.lt)
  clear hb LB4 
  obtain ⟨q0, q1, q2, q3, q4, q5, q6⟩ := XD.out.all
  go_wp2_with fail
  clear q0 q1 q2 q3 q4 q5 q6
  with_reducible refine Calls.mono (HHD.out _ _ _ RD.out) ?_
  rintro e w6 ⟨rfl, hb⟩
  have LB6 := Lib.hid (LB5.out.trans (hb.mono LB5.out.size))
  have X1 := Lib.hid (X1.out.below hb X1.out.lt)
  have X2 := Lib.hid (X2.out.below hb X2.out.lt)
  have X3 := Lib.hid (X3.out.below hb X3.out.lt)
  have RD := Lib.hid (RD.out.below hb RD.out.lt)
  have XD := Lib.hid (XD.out.below hb XD.out.lt)
  clear hb LB5 
  obtain ⟨q0, q1, q2, q3, q4, q5, q6⟩ := X3.out.all
  go_wp2_with fail
  clear q0 q1 q2 q3 q4 q5 q6
  with_reducible refine Calls.mono (HCN.out _ LB6.out) ?_
  rintro e w7 ⟨rfl, hb⟩
  have LB7 := Lib.hid (LB6.out.trans (hb.mono LB6.out.size))
  have X1 := Lib.hid (X1.out.below hb X1.out.lt)
  have X2 := Lib.hid (X2.out.below hb X2.out.lt)
  have X3 := Lib.hid (X3.out.below hb X3.out.lt)
  have RD := Lib.hid (RD.out.below hb RD.out.lt)
  have XD := Lib.hid (XD.out.below hb XD.out.lt)
  clear hb LB6 
  go_wp2_with fail
  with_reducible refine Calls.mono (alive12_any _) ?_
  rintro e w8 ⟨rfl, hb⟩
  have LB8 := Lib.hid (LB7.out.trans (hb.mono LB7.out.size))
  have X1 := Lib.hid (X1.out.below hb X1.out.lt)
  have X2 := Lib.hid (X2.out.below hb X2.out.lt)
  have X3 := Lib.hid (X3.out.below hb X3.out.lt)
  have RD := Lib.hid (RD.out.below hb RD.out.lt)
  have XD := Lib.hid (XD.out.below hb XD.out.lt)
  clear hb LB7 
  go_wp2
  go_ret
  exact ⟨rfl, LB8.out⟩
set_option maxHeartbeats 3200000 in
theorem hg_nb (W H : Nat) (A B C : Option Addr) (c d e : Nat) (a b mo : Nat → Bool) (hW0 : 1 ≤ W) (hW : W ≤ 6) (hH0 : 1 ≤ H) (hH : H ≤ 6) (hn1 : W * H ≤ 1100) (hqa : hgs (ov W a) (W + H) = true) (hqb : hgs (ov W b) (W + H) = false) (w : World) (ha : Holds w w.heap.size A (W * H) a) (hb1 : Holds w w.heap.size B (W * H) b) (hm : Holds w w.heap.size C (W * H) mo) :
    Calls Try.prog 14 #[.agg #[.int .i64 (W : Nat), .int .i64 (H : Nat), .slice A (W * H) c], .agg #[.int .i64 (W : Nat), .int .i64 (H : Nat), .slice B (W * H) d], .agg #[.int .i64 (W : Nat), .int .i64 (H : Nat), .slice C (W * H) e]] w fun e w' => e = .returned (.bool true) ∧ Below w.heap.size w w' := by
  have hz0 := chk_zero (W := W) (H := H) hW0 (by omega) hH0 (by omega)
  have HT := Lib.hid (fun u => thr_any (W : Nat) (H : Nat) (W : Nat) (H : Nat) (W : Nat) (H : Nat) A B C (W * H) c (W * H) d (W * H) e 6 u)
  rw [fitZ_valid hW0 (by omega) hH0 (by omega), show thr (W * H) 0 (W : Nat) (H : Nat) 6 = true by unfold thr; rw [decide_eq_true hn1, decide_eq_true (show (W : Int) ≤ 6 by omega), decide_eq_true (show (H : Int) ≤ 6 by omega)]; rfl] at HT
  have HWV := Lib.hid (fun u (hb : Below w.heap.size w u) => weave_ok (c := c) (d := d) (e := e) hW0 (by omega) hH0 (by omega) u ((ha.below hb).more hb.size) ((hb1.below hb).more hb.size) ((hm.below hb).more hb.size))
  have HHA := Lib.hid (fun u (hb : Below w.heap.size w u) => phangs_core W H (W + H) rfl A c a u ((ha.below hb).more hb.size) hW0 (by omega) hH0 (by omega) _ rfl)
  have HHB := Lib.hid (fun u (hb : Below w.heap.size w u) => phangs_core W H (W + H) rfl B d b u ((hb1.below hb).more hb.size) hW0 (by omega) hH0 (by omega) _ rfl)
  have HHD := Lib.hid (fun u k d (h : Row u k (2 * W * (2 * H)) (dbl W a b mo)) => phangs_core (2 * W) (2 * H) (2 * (W + H)) (by omega) (some ⟨k, 0, none⟩) d _ u (h.holds h.lt) (by omega) (by omega) (by omega) (by omega) _ rfl)
  have HCN := Lib.hid (fun u (hb : Below w.heap.size w u) => count_ok W H C e mo u ((hm.below hb).more hb.size) hW0 (by omega) hH0 (by omega))
  rw [hqa] at HHA
  rw [hqb] at HHB
  obtain ⟨qd, hqd⟩ : ∃ q, hgs (ov (2 * W) (dbl W a b mo)) (2 * (W + H)) = q := ⟨_, rfl⟩
  rw [hqd] at HHD
  have hcl := cnt_le mo (W * H)
  obtain ⟨F, hF⟩ : ∃ F, dbl W a b mo = F := ⟨_, rfl⟩
  obtain ⟨W2, hW2⟩ : ∃ z, 2 * W = z := ⟨_, rfl⟩
  obtain ⟨H2, hH2⟩ : ∃ z, 2 * H = z := ⟨_, rfl⟩
  simp only [hF, hW2, hH2] at HWV HHD
  obtain ⟨N2, hN2⟩ : ∃ z, W2 * H2 = z := ⟨_, rfl⟩
  have HN2 := Lib.hid hN2
  simp only [hN2] at HHD
  obtain ⟨M, hMe⟩ : ∃ z, W * H = z := ⟨_, rfl⟩
  simp only [hMe] at HT HWV HHA HHB HCN hcl hn1 ⊢
  obtain ⟨cn, hcn⟩ : ∃ z, cnt mo M = z := ⟨_, rfl⟩
  simp only [hcn] at HCN hcl
  have HM0 := Lib.hid (show 0 < M by rw [← hMe]; exact Nat.mul_pos hW0 hH0)
  clear ha hb1 hm hF hW2 hH2 hN2 hMe hz0 hcn
  have LB0 := Lib.hid (Below.refl w.heap.size w)
  have X1 := Lib.hid (Box.new w (W : Nat) (H : Nat) (.slice A M c))
  have LB0 := Lib.hid (LB0.out.alloc LB0.out.size (.cells #[.int .i64 (W : Nat), .int .i64 (H : Nat), .slice A M c] 24))
  have X1 := Lib.hid (X1.out.alloc (.cells #[.int .i64 (W : Nat), .int .i64 (H : Nat), .slice B M d] 24))
  have X2 := Box.new (w.alloc (.cells #[.int .i64 (W : Nat), .int .i64 (H : Nat), .slice A M c] 24)) (W : Nat) (H : Nat) (.slice B M d)
  rw [show ((w.alloc (.cells #[.int .i64 (W : Nat), .int .i64 (H : Nat), .slice A M c] 24))).heap.size = w.heap.size + 1 by simp] at X2
  have X2 := Lib.hid X2
  have LB0 := Lib.hid (LB0.out.alloc LB0.out.size (.cells #[.int .i64 (W : Nat), .int .i64 (H : Nat), .slice B M d] 24))
  have X1 := Lib.hid (X1.out.alloc (.cells #[.int .i64 (W : Nat), .int .i64 (H : Nat), .slice C M e] 24))
  have X2 := Lib.hid (X2.out.alloc (.cells #[.int .i64 (W : Nat), .int .i64 (H : Nat), .slice C M e] 24))
  have X3 := Box.new ((w.alloc (.cells #[.int .i64 (W : Nat), .int .i64 (H : Nat), .slice A M c] 24)).alloc (.cells #[.int .i64 (W : Nat), .int .i64 (H : Nat), .slice B M d] 24)) (W : Nat) (H : Nat) (.slice C M e)
  rw [show (((w.alloc (.cells #[.int .i64 (W : Nat), .int .i64 (H : Nat), .slice A M c] 24)).alloc (.cells #[.int .i64 (W : Nat), .int .i64 (H : Nat), .slice B M d] 24))).heap.size = w.heap.size + 2 by simp] at X3
  have X3 := Lib.hid X3
  have LB0 := Lib.hid (LB0.out.alloc LB0.out.size (.cells #[.int .i64 (W : Nat), .int .i64 (H : Nat), .slice C M e] 24))
  go_enter Try.func14, Try.ntmps14
  go_upto_region 1 with (fail)
  generalize ((w.alloc (.cells #[.int .i64 (W : Nat), .int .i64 (H : Nat), .slice A M c] 24)).alloc (.cells #[.int .i64 (W : Nat), .int .i64 (H : Nat), .slice B M d] 24)).alloc (.cells #[.int .i64 (W : Nat), .int .i64 (H : Nat), .slice C M e] 24) = w0 at *
  obtain ⟨q0, q1, q2, q3, q4, q5, q6⟩ := X1.out.all
  obtain ⟨q7, q8, q9, q10, q11, q12, q13⟩ := X2.out.all
  obtain ⟨q14, q15, q16, q17, q18, q19, q20⟩ := X3.out.all
  go_wp2_with fail
  clear q0 q1 q2 q3 q4 q5 q6 q7 q8 q9 q10 q11 q12 q13 q14 q15 q16 q17 q18 q19 q20
  with_reducible refine Calls.mono (HT.out _) ?_
  rintro e w1 ⟨rfl, hb⟩
  have LB1 := Lib.hid (LB0.out.trans (hb.mono LB0.out.size))
  have X1 := Lib.hid (X1.out.below hb X1.out.lt)
  have X2 := Lib.hid (X2.out.below hb X2.out.lt)
  have X3 := Lib.hid (X3.out.below hb X3.out.lt)
  clear hb LB0 
  obtain ⟨q0, q1, q2, q3, q4, q5, q6⟩ := X1.out.all
  obtain ⟨q7, q8, q9, q10, q11, q12, q13⟩ := X2.out.all
  obtain ⟨q14, q15, q16, q17, q18, q19, q20⟩ := X3.out.all
  go_wp2_with fail
  clear q0 q1 q2 q3 q4 q5 q6 q7 q8 q9 q10 q11 q12 q13 q14 q15 q16 q17 q18 q19 q20
  with_reducible refine Calls.mono (HWV.out _ LB1.out) ?_
  rintro e w2 ⟨kd, dd, rfl, hkd, hrow, hb⟩
  have LB2 := Lib.hid (LB1.out.trans (hb.mono LB1.out.size))
  have X1 := Lib.hid (X1.out.below hb X1.out.lt)
  have X2 := Lib.hid (X2.out.below hb X2.out.lt)
  have X3 := Lib.hid (X3.out.below hb X3.out.lt)
  have RD := Lib.hid hrow
  clear hb LB1 hrow
  rw [HN2.out] at RD ⊢
  have hb := ((Below.refl w2.heap.size w2).alloc (by simp; try omega) (.cells #[.int .i64 (W2 : Nat), .int .i64 (H2 : Nat), .slice (some ⟨kd, 0, none⟩) N2 dd] 24))
  have LB3 := Lib.hid (LB2.out.trans (hb.mono LB2.out.size))
  have X1 := Lib.hid (X1.out.below hb X1.out.lt)
  have X2 := Lib.hid (X2.out.below hb X2.out.lt)
  have X3 := Lib.hid (X3.out.below hb X3.out.lt)
  have RD := Lib.hid (RD.out.below hb RD.out.lt)
  have XD := Box.new w2 (W2 : Nat) (H2 : Nat) (.slice (some ⟨kd, 0, none⟩) N2 dd)
  have XD := Lib.hid XD
  clear hb LB2
  go_upto_region 4 with (fail)
  obtain ⟨db, hdb⟩ : ∃ z, w2.heap.size = z := ⟨_, rfl⟩
  rw [hdb] at XD
  try rw [hdb]
  clear hdb
  generalize w2.alloc (.cells #[.int .i64 (W2 : Nat), .int .i64 (H2 : Nat), .slice (some ⟨kd, 0, none⟩) N2 dd] 24) = w3 at *
  obtain ⟨q0, q1, q2, q3, q4, q5, q6⟩ := X1.out.all
  go_wp2_with fail
  clear q0 q1 q2 q3 q4 q5 q6
  with_reducible refine Calls.mono (HHA.out _ LB3.out) ?_
  rintro e w4 ⟨rfl, hb⟩
  have LB4 := Lib.hid (LB3.out.trans (hb.mono LB3.out.size))
  have X1 := Lib.hid (X1.out.below hb X1.out.lt)
  have X2 := Lib.hid (X2.out.below hb X2.out.lt)
  have X3 := Lib.hid (X3.out.below hb X3.out.lt)
  have RD := Lib.hid (RD.out.below hb RD.out.lt)
  have XD := Lib.hid (XD.out.below hb XD.out.lt)
  clear hb LB3 
  obtain ⟨q0, q1, q2, q3, q4, q5, q6⟩ := X2.out.all
  go_wp2_with fail
  clear q0 q1 q2 q3 q4 q5 q6
  with_reducible refine Calls.mono (HHB.out _ LB4.out) ?_
  rintro e w5 ⟨rfl, hb⟩
  have LB5 := Lib.hid (LB4.out.trans (hb.mono LB4.out.size))
  have X1 := Lib.hid (X1.out.below hb X1.out.lt)
  have X2 := Lib.hid (X2.out.below hb X2.out.lt)
  have X3 := Lib.hid (X3.out.below hb X3.out.lt)
  have RD := Lib.hid (RD.out.below hb RD.out.lt)
  have XD := Lib.hid (XD.out.below hb XD.out.lt)
  clear hb LB4 
  obtain ⟨q0, q1, q2, q3, q4, q5, q6⟩ := XD.out.all
  go_wp2_with fail
  clear q0 q1 q2 q3 q4 q5 q6
  with_reducible refine Calls.mono (HHD.out _ _ _ RD.out) ?_
  rintro e w6 ⟨rfl, hb⟩
  have LB6 := Lib.hid (LB5.out.trans (hb.mono LB5.out.size))
  have X1 := Lib.hid (X1.out.below hb X1.out.lt)
  have X2 := Lib.hid (X2.out.below hb X2.out.lt)
  have X3 := Lib.hid (X3.out.below hb X3.out.lt)
  have RD := Lib.hid (RD.out.below hb RD.out.lt)
  have XD := Lib.hid (XD.out.below hb XD.out.lt)
  clear hb LB5 
  obtain ⟨q0, q1, q2, q3, q4, q5, q6⟩ := X3.out.all
  go_wp2_with fail
  clear q0 q1 q2 q3 q4 q5 q6
  with_reducible refine Calls.mono (HCN.out _ LB6.out) ?_
  rintro e w7 ⟨rfl, hb⟩
  have LB7 := Lib.hid (LB6.out.trans (hb.mono LB6.out.size))
  have X1 := Lib.hid (X1.out.below hb X1.out.lt)
  have X2 := Lib.hid (X2.out.below hb X2.out.lt)
  have X3 := Lib.hid (X3.out.below hb X3.out.lt)
  have RD := Lib.hid (RD.out.below hb RD.out.lt)
  have XD := Lib.hid (XD.out.below hb XD.out.lt)
  clear hb LB6 
  go_wp2_with fail
  with_reducible refine Calls.mono (alive12_any _) ?_
  rintro e w8 ⟨rfl, hb⟩
  have LB8 := Lib.hid (LB7.out.trans (hb.mono LB7.out.size))
  have X1 := Lib.hid (X1.out.below hb X1.out.lt)
  have X2 := Lib.hid (X2.out.below hb X2.out.lt)
  have X3 := Lib.hid (X3.out.below hb X3.out.lt)
  have RD := Lib.hid (RD.out.below hb RD.out.lt)
  have XD := Lib.hid (XD.out.below hb XD.out.lt)
  clear hb LB7 
  go_wp2
  go_ret
  exact ⟨rfl, LB8.out⟩
set_option maxHeartbeats 3200000 in
theorem hg_mix (W H : Nat) (A B C : Option Addr) (c d e : Nat) (a b mo : Nat → Bool) (hW0 : 1 ≤ W) (hW : W ≤ 6) (hH0 : 1 ≤ H) (hH : H ≤ 6) (hn1 : W * H ≤ 1100) (hqa : hgs (ov W a) (W + H) = true) (hqb : hgs (ov W b) (W + H) = true) (hqd : hgs (ov (2 * W) (dbl W a b mo)) (2 * (W + H)) = true) (hcm : 0 < cnt mo (W * H) ∧ cnt mo (W * H) < W * H) (w : World) (ha : Holds w w.heap.size A (W * H) a) (hb1 : Holds w w.heap.size B (W * H) b) (hm : Holds w w.heap.size C (W * H) mo) :
    Calls Try.prog 14 #[.agg #[.int .i64 (W : Nat), .int .i64 (H : Nat), .slice A (W * H) c], .agg #[.int .i64 (W : Nat), .int .i64 (H : Nat), .slice B (W * H) d], .agg #[.int .i64 (W : Nat), .int .i64 (H : Nat), .slice C (W * H) e]] w fun e w' => e = .returned (.bool true) ∧ Below w.heap.size w w' := by
  have hz0 := chk_zero (W := W) (H := H) hW0 (by omega) hH0 (by omega)
  have HT := Lib.hid (fun u => thr_any (W : Nat) (H : Nat) (W : Nat) (H : Nat) (W : Nat) (H : Nat) A B C (W * H) c (W * H) d (W * H) e 6 u)
  rw [fitZ_valid hW0 (by omega) hH0 (by omega), show thr (W * H) 0 (W : Nat) (H : Nat) 6 = true by unfold thr; rw [decide_eq_true hn1, decide_eq_true (show (W : Int) ≤ 6 by omega), decide_eq_true (show (H : Int) ≤ 6 by omega)]; rfl] at HT
  have HWV := Lib.hid (fun u (hb : Below w.heap.size w u) => weave_ok (c := c) (d := d) (e := e) hW0 (by omega) hH0 (by omega) u ((ha.below hb).more hb.size) ((hb1.below hb).more hb.size) ((hm.below hb).more hb.size))
  have HHA := Lib.hid (fun u (hb : Below w.heap.size w u) => phangs_core W H (W + H) rfl A c a u ((ha.below hb).more hb.size) hW0 (by omega) hH0 (by omega) _ rfl)
  have HHB := Lib.hid (fun u (hb : Below w.heap.size w u) => phangs_core W H (W + H) rfl B d b u ((hb1.below hb).more hb.size) hW0 (by omega) hH0 (by omega) _ rfl)
  have HHD := Lib.hid (fun u k d (h : Row u k (2 * W * (2 * H)) (dbl W a b mo)) => phangs_core (2 * W) (2 * H) (2 * (W + H)) (by omega) (some ⟨k, 0, none⟩) d _ u (h.holds h.lt) (by omega) (by omega) (by omega) (by omega) _ rfl)
  have HCN := Lib.hid (fun u (hb : Below w.heap.size w u) => count_ok W H C e mo u ((hm.below hb).more hb.size) hW0 (by omega) hH0 (by omega))
  rw [hqa] at HHA
  rw [hqb] at HHB
  rw [hqd] at HHD
  have hcl := cnt_le mo (W * H)
  obtain ⟨F, hF⟩ : ∃ F, dbl W a b mo = F := ⟨_, rfl⟩
  obtain ⟨W2, hW2⟩ : ∃ z, 2 * W = z := ⟨_, rfl⟩
  obtain ⟨H2, hH2⟩ : ∃ z, 2 * H = z := ⟨_, rfl⟩
  simp only [hF, hW2, hH2] at HWV HHD
  obtain ⟨N2, hN2⟩ : ∃ z, W2 * H2 = z := ⟨_, rfl⟩
  have HN2 := Lib.hid hN2
  simp only [hN2] at HHD
  obtain ⟨M, hMe⟩ : ∃ z, W * H = z := ⟨_, rfl⟩
  simp only [hMe] at HT HWV HHA HHB HCN hcl hn1 hcm ⊢
  obtain ⟨cn, hcn⟩ : ∃ z, cnt mo M = z := ⟨_, rfl⟩
  simp only [hcn] at HCN hcl hcm
  have HM0 := Lib.hid (show 0 < M by rw [← hMe]; exact Nat.mul_pos hW0 hH0)
  clear ha hb1 hm hF hW2 hH2 hN2 hMe hz0 hcn
  have y1 : (0 : Int) < (cn : Int) := by omega
  have y2 : (cn : Int) < (M : Int) := by omega
  have y3 : decide ((cn : Int) > 0) = true := by simp; omega
  have y4 : decide ((cn : Int) < (M : Int)) = true := by simp; omega
  have LB0 := Lib.hid (Below.refl w.heap.size w)
  have X1 := Lib.hid (Box.new w (W : Nat) (H : Nat) (.slice A M c))
  have LB0 := Lib.hid (LB0.out.alloc LB0.out.size (.cells #[.int .i64 (W : Nat), .int .i64 (H : Nat), .slice A M c] 24))
  have X1 := Lib.hid (X1.out.alloc (.cells #[.int .i64 (W : Nat), .int .i64 (H : Nat), .slice B M d] 24))
  have X2 := Box.new (w.alloc (.cells #[.int .i64 (W : Nat), .int .i64 (H : Nat), .slice A M c] 24)) (W : Nat) (H : Nat) (.slice B M d)
  rw [show ((w.alloc (.cells #[.int .i64 (W : Nat), .int .i64 (H : Nat), .slice A M c] 24))).heap.size = w.heap.size + 1 by simp] at X2
  have X2 := Lib.hid X2
  have LB0 := Lib.hid (LB0.out.alloc LB0.out.size (.cells #[.int .i64 (W : Nat), .int .i64 (H : Nat), .slice B M d] 24))
  have X1 := Lib.hid (X1.out.alloc (.cells #[.int .i64 (W : Nat), .int .i64 (H : Nat), .slice C M e] 24))
  have X2 := Lib.hid (X2.out.alloc (.cells #[.int .i64 (W : Nat), .int .i64 (H : Nat), .slice C M e] 24))
  have X3 := Box.new ((w.alloc (.cells #[.int .i64 (W : Nat), .int .i64 (H : Nat), .slice A M c] 24)).alloc (.cells #[.int .i64 (W : Nat), .int .i64 (H : Nat), .slice B M d] 24)) (W : Nat) (H : Nat) (.slice C M e)
  rw [show (((w.alloc (.cells #[.int .i64 (W : Nat), .int .i64 (H : Nat), .slice A M c] 24)).alloc (.cells #[.int .i64 (W : Nat), .int .i64 (H : Nat), .slice B M d] 24))).heap.size = w.heap.size + 2 by simp] at X3
  have X3 := Lib.hid X3
  have LB0 := Lib.hid (LB0.out.alloc LB0.out.size (.cells #[.int .i64 (W : Nat), .int .i64 (H : Nat), .slice C M e] 24))
  go_enter Try.func14, Try.ntmps14
  go_upto_region 1 with (fail)
  generalize ((w.alloc (.cells #[.int .i64 (W : Nat), .int .i64 (H : Nat), .slice A M c] 24)).alloc (.cells #[.int .i64 (W : Nat), .int .i64 (H : Nat), .slice B M d] 24)).alloc (.cells #[.int .i64 (W : Nat), .int .i64 (H : Nat), .slice C M e] 24) = w0 at *
  obtain ⟨q0, q1, q2, q3, q4, q5, q6⟩ := X1.out.all
  obtain ⟨q7, q8, q9, q10, q11, q12, q13⟩ := X2.out.all
  obtain ⟨q14, q15, q16, q17, q18, q19, q20⟩ := X3.out.all
  go_wp2_with fail
  clear q0 q1 q2 q3 q4 q5 q6 q7 q8 q9 q10 q11 q12 q13 q14 q15 q16 q17 q18 q19 q20
  with_reducible refine Calls.mono (HT.out _) ?_
  rintro e w1 ⟨rfl, hb⟩
  have LB1 := Lib.hid (LB0.out.trans (hb.mono LB0.out.size))
  have X1 := Lib.hid (X1.out.below hb X1.out.lt)
  have X2 := Lib.hid (X2.out.below hb X2.out.lt)
  have X3 := Lib.hid (X3.out.below hb X3.out.lt)
  clear hb LB0 
  obtain ⟨q0, q1, q2, q3, q4, q5, q6⟩ := X1.out.all
  obtain ⟨q7, q8, q9, q10, q11, q12, q13⟩ := X2.out.all
  obtain ⟨q14, q15, q16, q17, q18, q19, q20⟩ := X3.out.all
  go_wp2_with fail
  clear q0 q1 q2 q3 q4 q5 q6 q7 q8 q9 q10 q11 q12 q13 q14 q15 q16 q17 q18 q19 q20
  with_reducible refine Calls.mono (HWV.out _ LB1.out) ?_
  rintro e w2 ⟨kd, dd, rfl, hkd, hrow, hb⟩
  have LB2 := Lib.hid (LB1.out.trans (hb.mono LB1.out.size))
  have X1 := Lib.hid (X1.out.below hb X1.out.lt)
  have X2 := Lib.hid (X2.out.below hb X2.out.lt)
  have X3 := Lib.hid (X3.out.below hb X3.out.lt)
  have RD := Lib.hid hrow
  clear hb LB1 hrow
  rw [HN2.out] at RD ⊢
  have hb := ((Below.refl w2.heap.size w2).alloc (by simp; try omega) (.cells #[.int .i64 (W2 : Nat), .int .i64 (H2 : Nat), .slice (some ⟨kd, 0, none⟩) N2 dd] 24))
  have LB3 := Lib.hid (LB2.out.trans (hb.mono LB2.out.size))
  have X1 := Lib.hid (X1.out.below hb X1.out.lt)
  have X2 := Lib.hid (X2.out.below hb X2.out.lt)
  have X3 := Lib.hid (X3.out.below hb X3.out.lt)
  have RD := Lib.hid (RD.out.below hb RD.out.lt)
  have XD := Box.new w2 (W2 : Nat) (H2 : Nat) (.slice (some ⟨kd, 0, none⟩) N2 dd)
  have XD := Lib.hid XD
  clear hb LB2
  go_upto_region 4 with (fail)
  obtain ⟨db, hdb⟩ : ∃ z, w2.heap.size = z := ⟨_, rfl⟩
  rw [hdb] at XD
  try rw [hdb]
  clear hdb
  generalize w2.alloc (.cells #[.int .i64 (W2 : Nat), .int .i64 (H2 : Nat), .slice (some ⟨kd, 0, none⟩) N2 dd] 24) = w3 at *
  obtain ⟨q0, q1, q2, q3, q4, q5, q6⟩ := X1.out.all
  go_wp2_with fail
  clear q0 q1 q2 q3 q4 q5 q6
  with_reducible refine Calls.mono (HHA.out _ LB3.out) ?_
  rintro e w4 ⟨rfl, hb⟩
  have LB4 := Lib.hid (LB3.out.trans (hb.mono LB3.out.size))
  have X1 := Lib.hid (X1.out.below hb X1.out.lt)
  have X2 := Lib.hid (X2.out.below hb X2.out.lt)
  have X3 := Lib.hid (X3.out.below hb X3.out.lt)
  have RD := Lib.hid (RD.out.below hb RD.out.lt)
  have XD := Lib.hid (XD.out.below hb XD.out.lt)
  clear hb LB3 
  obtain ⟨q0, q1, q2, q3, q4, q5, q6⟩ := X2.out.all
  go_wp2_with fail
  clear q0 q1 q2 q3 q4 q5 q6
  with_reducible refine Calls.mono (HHB.out _ LB4.out) ?_
  rintro e w5 ⟨rfl, hb⟩
  have LB5 := Lib.hid (LB4.out.trans (hb.mono LB4.out.size))
  have X1 := Lib.hid (X1.out.below hb X1.out.lt)
  have X2 := Lib.hid (X2.out.below hb X2.out.lt)
  have X3 := Lib.hid (X3.out.below hb X3.out.lt)
  have RD := Lib.hid (RD.out.below hb RD.out.lt)
  have XD := Lib.hid (XD.out.below hb XD.out.lt)
  clear hb LB4 
  obtain ⟨q0, q1, q2, q3, q4, q5, q6⟩ := XD.out.all
  go_wp2_with fail
  clear q0 q1 q2 q3 q4 q5 q6
  with_reducible refine Calls.mono (HHD.out _ _ _ RD.out) ?_
  rintro e w6 ⟨rfl, hb⟩
  have LB6 := Lib.hid (LB5.out.trans (hb.mono LB5.out.size))
  have X1 := Lib.hid (X1.out.below hb X1.out.lt)
  have X2 := Lib.hid (X2.out.below hb X2.out.lt)
  have X3 := Lib.hid (X3.out.below hb X3.out.lt)
  have RD := Lib.hid (RD.out.below hb RD.out.lt)
  have XD := Lib.hid (XD.out.below hb XD.out.lt)
  clear hb LB5 
  obtain ⟨q0, q1, q2, q3, q4, q5, q6⟩ := X3.out.all
  go_wp2_with fail
  clear q0 q1 q2 q3 q4 q5 q6
  with_reducible refine Calls.mono (HCN.out _ LB6.out) ?_
  rintro e w7 ⟨rfl, hb⟩
  have LB7 := Lib.hid (LB6.out.trans (hb.mono LB6.out.size))
  have X1 := Lib.hid (X1.out.below hb X1.out.lt)
  have X2 := Lib.hid (X2.out.below hb X2.out.lt)
  have X3 := Lib.hid (X3.out.below hb X3.out.lt)
  have RD := Lib.hid (RD.out.below hb RD.out.lt)
  have XD := Lib.hid (XD.out.below hb XD.out.lt)
  clear hb LB6 
  obtain ⟨q0, q1, q2, q3, q4, q5, q6⟩ := X3.out.all
  go_wp2_with fail
  with_reducible refine Calls.mono (alive12_any _) ?_
  rintro e w8 ⟨rfl, hb⟩
  have LB8 := Lib.hid (LB7.out.trans (hb.mono LB7.out.size))
  have X1 := Lib.hid (X1.out.below hb X1.out.lt)
  have X2 := Lib.hid (X2.out.below hb X2.out.lt)
  have X3 := Lib.hid (X3.out.below hb X3.out.lt)
  have RD := Lib.hid (RD.out.below hb RD.out.lt)
  have XD := Lib.hid (XD.out.below hb XD.out.lt)
  clear hb LB7 
  go_wp2
  go_ret
  exact ⟨rfl, LB8.out⟩
set_option maxHeartbeats 3200000 in
theorem hg_up (W H : Nat) (A B C : Option Addr) (c d e : Nat) (a b mo : Nat → Bool) (hW0 : 1 ≤ W) (hW : W ≤ 6) (hH0 : 1 ≤ H) (hH : H ≤ 6) (hn1 : W * H ≤ 1100) (hqa : hgs (ov W a) (W + H) = true) (hqb : hgs (ov W b) (W + H) = true) (hqd : Dbl2 (ov (2 * W) (dbl W a b mo)) (W + H) 0) (hcm : W * H = cnt mo (W * H)) (w : World) (ha : Holds w w.heap.size A (W * H) a) (hb1 : Holds w w.heap.size B (W * H) b) (hm : Holds w w.heap.size C (W * H) mo) :
    Calls Try.prog 14 #[.agg #[.int .i64 (W : Nat), .int .i64 (H : Nat), .slice A (W * H) c], .agg #[.int .i64 (W : Nat), .int .i64 (H : Nat), .slice B (W * H) d], .agg #[.int .i64 (W : Nat), .int .i64 (H : Nat), .slice C (W * H) e]] w fun e w' => e = .returned (.bool true) ∧ Below w.heap.size w w' := by
  have hz0 := chk_zero (W := W) (H := H) hW0 (by omega) hH0 (by omega)
  have HT := Lib.hid (fun u => thr_any (W : Nat) (H : Nat) (W : Nat) (H : Nat) (W : Nat) (H : Nat) A B C (W * H) c (W * H) d (W * H) e 6 u)
  rw [fitZ_valid hW0 (by omega) hH0 (by omega), show thr (W * H) 0 (W : Nat) (H : Nat) 6 = true by unfold thr; rw [decide_eq_true hn1, decide_eq_true (show (W : Int) ≤ 6 by omega), decide_eq_true (show (H : Int) ≤ 6 by omega)]; rfl] at HT
  have HWV := Lib.hid (fun u (hb : Below w.heap.size w u) => weave_ok (c := c) (d := d) (e := e) hW0 (by omega) hH0 (by omega) u ((ha.below hb).more hb.size) ((hb1.below hb).more hb.size) ((hm.below hb).more hb.size))
  have HHA := Lib.hid (fun u (hb : Below w.heap.size w u) => phangs_core W H (W + H) rfl A c a u ((ha.below hb).more hb.size) hW0 (by omega) hH0 (by omega) _ rfl)
  have HHB := Lib.hid (fun u (hb : Below w.heap.size w u) => phangs_core W H (W + H) rfl B d b u ((hb1.below hb).more hb.size) hW0 (by omega) hH0 (by omega) _ rfl)
  have HHD := Lib.hid (fun u k d (h : Row u k (2 * W * (2 * H)) (dbl W a b mo)) => phangs_core (2 * W) (2 * H) (2 * (W + H)) (by omega) (some ⟨k, 0, none⟩) d _ u (h.holds h.lt) (by omega) (by omega) (by omega) (by omega) _ rfl)
  have HCN := Lib.hid (fun u (hb : Below w.heap.size w u) => count_ok W H C e mo u ((hm.below hb).more hb.size) hW0 (by omega) hH0 (by omega))
  rw [hqa] at HHA
  rw [hqb] at HHB
  rw [hqd.hgs] at HHD
  have HLY := Lib.hid (fun u k d (h : Row u k (2 * W * (2 * H)) (dbl W a b mo)) => dlayers (d := d) hW0 (by omega) hH0 (by omega) hqd u h)
  have EW0 := Lib.hid (fun u => even_any W 0 (by omega) (by omega) u)
  have EW1 := Lib.hid (fun u => even_any W 1 (by omega) (by omega) u)
  have EH0 := Lib.hid (fun u => even_any H 0 (by omega) (by omega) u)
  have EH1 := Lib.hid (fun u => even_any H 1 (by omega) (by omega) u)
  have HSE := Lib.hid (fun n s c d D E (hn : n ≤ 6) u (h1 : LL u D (evl n s)) (h2 : LL u E (evl n s)) => same_evl (c := c) (d := d) (by omega) u h1 h2)
  have hcl := cnt_le mo (W * H)
  obtain ⟨F, hF⟩ : ∃ F, dbl W a b mo = F := ⟨_, rfl⟩
  obtain ⟨W2, hW2⟩ : ∃ z, 2 * W = z := ⟨_, rfl⟩
  obtain ⟨H2, hH2⟩ : ∃ z, 2 * H = z := ⟨_, rfl⟩
  simp only [hF, hW2, hH2] at HWV HHD HLY
  obtain ⟨N2, hN2⟩ : ∃ z, W2 * H2 = z := ⟨_, rfl⟩
  have HN2 := Lib.hid hN2
  simp only [hN2] at HHD HLY
  obtain ⟨M, hMe⟩ : ∃ z, W * H = z := ⟨_, rfl⟩
  simp only [hMe] at HT HWV HHA HHB HCN hcl hn1 hcm ⊢
  obtain ⟨cn, hcn⟩ : ∃ z, cnt mo M = z := ⟨_, rfl⟩
  simp only [hcn] at HCN hcl hcm
  have HM0 := Lib.hid (show 0 < M by rw [← hMe]; exact Nat.mul_pos hW0 hH0)
  clear ha hb1 hm hF hW2 hH2 hN2 hMe hz0 hcn
  subst hcm
  have hM0 : 0 < M := HM0.out
  have y1 : (0 : Int) < (M : Int) := by omega
  have y3 : decide ((M : Int) > 0) = true := by simp; omega
  have y5 : ((M : Int) == 0) = false := by rw [beq_eq_false_iff_ne]; omega
  have LB0 := Lib.hid (Below.refl w.heap.size w)
  have X1 := Lib.hid (Box.new w (W : Nat) (H : Nat) (.slice A M c))
  have LB0 := Lib.hid (LB0.out.alloc LB0.out.size (.cells #[.int .i64 (W : Nat), .int .i64 (H : Nat), .slice A M c] 24))
  have X1 := Lib.hid (X1.out.alloc (.cells #[.int .i64 (W : Nat), .int .i64 (H : Nat), .slice B M d] 24))
  have X2 := Box.new (w.alloc (.cells #[.int .i64 (W : Nat), .int .i64 (H : Nat), .slice A M c] 24)) (W : Nat) (H : Nat) (.slice B M d)
  rw [show ((w.alloc (.cells #[.int .i64 (W : Nat), .int .i64 (H : Nat), .slice A M c] 24))).heap.size = w.heap.size + 1 by simp] at X2
  have X2 := Lib.hid X2
  have LB0 := Lib.hid (LB0.out.alloc LB0.out.size (.cells #[.int .i64 (W : Nat), .int .i64 (H : Nat), .slice B M d] 24))
  have X1 := Lib.hid (X1.out.alloc (.cells #[.int .i64 (W : Nat), .int .i64 (H : Nat), .slice C M e] 24))
  have X2 := Lib.hid (X2.out.alloc (.cells #[.int .i64 (W : Nat), .int .i64 (H : Nat), .slice C M e] 24))
  have X3 := Box.new ((w.alloc (.cells #[.int .i64 (W : Nat), .int .i64 (H : Nat), .slice A M c] 24)).alloc (.cells #[.int .i64 (W : Nat), .int .i64 (H : Nat), .slice B M d] 24)) (W : Nat) (H : Nat) (.slice C M e)
  rw [show (((w.alloc (.cells #[.int .i64 (W : Nat), .int .i64 (H : Nat), .slice A M c] 24)).alloc (.cells #[.int .i64 (W : Nat), .int .i64 (H : Nat), .slice B M d] 24))).heap.size = w.heap.size + 2 by simp] at X3
  have X3 := Lib.hid X3
  have LB0 := Lib.hid (LB0.out.alloc LB0.out.size (.cells #[.int .i64 (W : Nat), .int .i64 (H : Nat), .slice C M e] 24))
  go_enter Try.func14, Try.ntmps14
  go_upto_region 1 with (fail)
  generalize ((w.alloc (.cells #[.int .i64 (W : Nat), .int .i64 (H : Nat), .slice A M c] 24)).alloc (.cells #[.int .i64 (W : Nat), .int .i64 (H : Nat), .slice B M d] 24)).alloc (.cells #[.int .i64 (W : Nat), .int .i64 (H : Nat), .slice C M e] 24) = w0 at *
  obtain ⟨q0, q1, q2, q3, q4, q5, q6⟩ := X1.out.all
  obtain ⟨q7, q8, q9, q10, q11, q12, q13⟩ := X2.out.all
  obtain ⟨q14, q15, q16, q17, q18, q19, q20⟩ := X3.out.all
  go_wp2_with fail
  clear q0 q1 q2 q3 q4 q5 q6 q7 q8 q9 q10 q11 q12 q13 q14 q15 q16 q17 q18 q19 q20
  with_reducible refine Calls.mono (HT.out _) ?_
  rintro e w1 ⟨rfl, hb⟩
  have LB1 := Lib.hid (LB0.out.trans (hb.mono LB0.out.size))
  have X1 := Lib.hid (X1.out.below hb X1.out.lt)
  have X2 := Lib.hid (X2.out.below hb X2.out.lt)
  have X3 := Lib.hid (X3.out.below hb X3.out.lt)
  clear hb LB0 
  obtain ⟨q0, q1, q2, q3, q4, q5, q6⟩ := X1.out.all
  obtain ⟨q7, q8, q9, q10, q11, q12, q13⟩ := X2.out.all
  obtain ⟨q14, q15, q16, q17, q18, q19, q20⟩ := X3.out.all
  go_wp2_with fail
  clear q0 q1 q2 q3 q4 q5 q6 q7 q8 q9 q10 q11 q12 q13 q14 q15 q16 q17 q18 q19 q20
  with_reducible refine Calls.mono (HWV.out _ LB1.out) ?_
  rintro e w2 ⟨kd, dd, rfl, hkd, hrow, hb⟩
  have LB2 := Lib.hid (LB1.out.trans (hb.mono LB1.out.size))
  have X1 := Lib.hid (X1.out.below hb X1.out.lt)
  have X2 := Lib.hid (X2.out.below hb X2.out.lt)
  have X3 := Lib.hid (X3.out.below hb X3.out.lt)
  have RD := Lib.hid hrow
  clear hb LB1 hrow
  rw [HN2.out] at RD ⊢
  have hb := ((Below.refl w2.heap.size w2).alloc (by simp; try omega) (.cells #[.int .i64 (W2 : Nat), .int .i64 (H2 : Nat), .slice (some ⟨kd, 0, none⟩) N2 dd] 24))
  have LB3 := Lib.hid (LB2.out.trans (hb.mono LB2.out.size))
  have X1 := Lib.hid (X1.out.below hb X1.out.lt)
  have X2 := Lib.hid (X2.out.below hb X2.out.lt)
  have X3 := Lib.hid (X3.out.below hb X3.out.lt)
  have RD := Lib.hid (RD.out.below hb RD.out.lt)
  have XD := Box.new w2 (W2 : Nat) (H2 : Nat) (.slice (some ⟨kd, 0, none⟩) N2 dd)
  have XD := Lib.hid XD
  clear hb LB2
  go_upto_region 4 with (fail)
  obtain ⟨db, hdb⟩ : ∃ z, w2.heap.size = z := ⟨_, rfl⟩
  rw [hdb] at XD
  try rw [hdb]
  clear hdb
  generalize w2.alloc (.cells #[.int .i64 (W2 : Nat), .int .i64 (H2 : Nat), .slice (some ⟨kd, 0, none⟩) N2 dd] 24) = w3 at *
  obtain ⟨q0, q1, q2, q3, q4, q5, q6⟩ := X1.out.all
  go_wp2_with fail
  clear q0 q1 q2 q3 q4 q5 q6
  with_reducible refine Calls.mono (HHA.out _ LB3.out) ?_
  rintro e w4 ⟨rfl, hb⟩
  have LB4 := Lib.hid (LB3.out.trans (hb.mono LB3.out.size))
  have X1 := Lib.hid (X1.out.below hb X1.out.lt)
  have X2 := Lib.hid (X2.out.below hb X2.out.lt)
  have X3 := Lib.hid (X3.out.below hb X3.out.lt)
  have RD := Lib.hid (RD.out.below hb RD.out.lt)
  have XD := Lib.hid (XD.out.below hb XD.out.lt)
  clear hb LB3 
  obtain ⟨q0, q1, q2, q3, q4, q5, q6⟩ := X2.out.all
  go_wp2_with fail
  clear q0 q1 q2 q3 q4 q5 q6
  with_reducible refine Calls.mono (HHB.out _ LB4.out) ?_
  rintro e w5 ⟨rfl, hb⟩
  have LB5 := Lib.hid (LB4.out.trans (hb.mono LB4.out.size))
  have X1 := Lib.hid (X1.out.below hb X1.out.lt)
  have X2 := Lib.hid (X2.out.below hb X2.out.lt)
  have X3 := Lib.hid (X3.out.below hb X3.out.lt)
  have RD := Lib.hid (RD.out.below hb RD.out.lt)
  have XD := Lib.hid (XD.out.below hb XD.out.lt)
  clear hb LB4 
  obtain ⟨q0, q1, q2, q3, q4, q5, q6⟩ := XD.out.all
  go_wp2_with fail
  clear q0 q1 q2 q3 q4 q5 q6
  with_reducible refine Calls.mono (HHD.out _ _ _ RD.out) ?_
  rintro e w6 ⟨rfl, hb⟩
  have LB6 := Lib.hid (LB5.out.trans (hb.mono LB5.out.size))
  have X1 := Lib.hid (X1.out.below hb X1.out.lt)
  have X2 := Lib.hid (X2.out.below hb X2.out.lt)
  have X3 := Lib.hid (X3.out.below hb X3.out.lt)
  have RD := Lib.hid (RD.out.below hb RD.out.lt)
  have XD := Lib.hid (XD.out.below hb XD.out.lt)
  clear hb LB5 
  obtain ⟨q0, q1, q2, q3, q4, q5, q6⟩ := X3.out.all
  go_wp2_with fail
  clear q0 q1 q2 q3 q4 q5 q6
  with_reducible refine Calls.mono (HCN.out _ LB6.out) ?_
  rintro e w7 ⟨rfl, hb⟩
  have LB7 := Lib.hid (LB6.out.trans (hb.mono LB6.out.size))
  have X1 := Lib.hid (X1.out.below hb X1.out.lt)
  have X2 := Lib.hid (X2.out.below hb X2.out.lt)
  have X3 := Lib.hid (X3.out.below hb X3.out.lt)
  have RD := Lib.hid (RD.out.below hb RD.out.lt)
  have XD := Lib.hid (XD.out.below hb XD.out.lt)
  clear hb LB6 
  obtain ⟨q0, q1, q2, q3, q4, q5, q6⟩ := X3.out.all
  obtain ⟨q7, q8, q9, q10, q11, q12, q13⟩ := XD.out.all
  go_wp2_with fail
  clear q0 q1 q2 q3 q4 q5 q6 q7 q8 q9 q10 q11 q12 q13
  with_reducible refine Calls.mono (HLY.out _ _ _ RD.out) ?_
  rintro e w8 ⟨lb, lo, lc, D1, c1, D2, c2, D3, c3, D4, c4, rfl, hlb, ⟨d0, d1, d2, d3⟩, l1, l2, l3, l4, hb⟩
  have LB8 := Lib.hid (LB7.out.trans (hb.mono LB7.out.size))
  have X1 := Lib.hid (X1.out.below hb X1.out.lt)
  have X2 := Lib.hid (X2.out.below hb X2.out.lt)
  have X3 := Lib.hid (X3.out.below hb X3.out.lt)
  have RD := Lib.hid (RD.out.below hb RD.out.lt)
  have XD := Lib.hid (XD.out.below hb XD.out.lt)
  clear hb LB7 
  obtain ⟨q0, q1, q2, q3, q4, q5, q6⟩ := X1.out.all
  go_upto_region 22 with (fail)
  have HK := Lib.hid (fun (u : World) (h : Below w8.heap.size w8 u) => (show u.cell? ⟨lb, lo, none⟩ = some (.slice D1 W c1) ∧ u.cell? ⟨lb, lo + 1, none⟩ = some (.slice D2 H c2) ∧ u.cell? ⟨lb, lo + 2, none⟩ = some (.slice D3 W c3) ∧ u.cell? ⟨lb, lo + 3, none⟩ = some (.slice D4 H c4) ∧ u.cell? ⟨w.heap.size, 0, none⟩ = some (.int .i64 (W : Nat)) ∧ u.cell? ⟨w.heap.size, 1, none⟩ = some (.int .i64 (H : Nat)) from
    ⟨(h.cell (p := ⟨lb, lo, none⟩) hlb).trans d0, (h.cell (p := ⟨lb, lo + 1, none⟩) hlb).trans d1, (h.cell (p := ⟨lb, lo + 2, none⟩) hlb).trans d2, (h.cell (p := ⟨lb, lo + 3, none⟩) hlb).trans d3, (h.cell (p := ⟨w.heap.size, 0, none⟩) q6).trans q0, (h.cell (p := ⟨w.heap.size, 1, none⟩) q6).trans q1⟩))
  have T1 := Lib.hid (fun (u : World) (h : Below w8.heap.size w8 u) => l1.below h)
  have T2 := Lib.hid (fun (u : World) (h : Below w8.heap.size w8 u) => l2.below h)
  have T3 := Lib.hid (fun (u : World) (h : Below w8.heap.size w8 u) => l3.below h)
  have T4 := Lib.hid (fun (u : World) (h : Below w8.heap.size w8 u) => l4.below h)
  have B0 := Lib.hid (Below.refl w8.heap.size w8).drew
  clear l1 l2 l3 l4
  skip
  go_region_held3 (fun u => u.cell? ⟨lb, lo, none⟩ = some (.slice D1 W c1) ∧ u.cell? ⟨lb, lo + 1, none⟩ = some (.slice D2 H c2) ∧ u.cell? ⟨lb, lo + 2, none⟩ = some (.slice D3 W c3) ∧ u.cell? ⟨lb, lo + 3, none⟩ = some (.slice D4 H c4) ∧ u.cell? ⟨w.heap.size, 0, none⟩ = some (.int .i64 (W : Nat)) ∧ u.cell? ⟨w.heap.size, 1, none⟩ = some (.int .i64 (H : Nat)))
    (first
      | with_reducible exact HK.out _ B0.out
      | with_reducible exact HK.out _ B1.out
      | with_reducible exact HK.out _ B2.out
      | with_reducible exact HK.out _ B3.out
      | with_reducible exact HK.out _ B4.out
      | with_reducible exact HK.out _ B5.out
      | with_reducible exact HK.out _ B6.out
      | with_reducible exact HK.out _ B7.out
      | with_reducible exact HK.out _ B8.out
      | with_reducible exact HK.out _ B9.out)
    (first
      | (go_at_call 63
         with_reducible refine Calls.mono (EW0.out _) ?_
         rintro e v1 ⟨G1, g1, rfl, hown, hb⟩
         have B1 := Lib.hid (B0.out.trans (hb.mono B0.out.size))
         have O1 := Lib.hid (own_evl hown)
         clear hown hb)
      | (go_at_call 62
         with_reducible refine Calls.mono (HSE.out _ _ _ _ _ _ hW _ (T1.out _ B1.out) O1.out) ?_
         rintro e v2 ⟨rfl, hb⟩
         have B2 := Lib.hid (B1.out.trans (hb.mono B1.out.size))
         clear hb)
      | (go_at_call 63
         with_reducible refine Calls.mono (EH0.out _) ?_
         rintro e v3 ⟨G3, g3, rfl, hown, hb⟩
         have B3 := Lib.hid (B2.out.trans (hb.mono B2.out.size))
         have O3 := Lib.hid (own_evl hown)
         clear hown hb)
      | (go_at_call 62
         with_reducible refine Calls.mono (HSE.out _ _ _ _ _ _ hH _ (T2.out _ B3.out) O3.out) ?_
         rintro e v4 ⟨rfl, hb⟩
         have B4 := Lib.hid (B3.out.trans (hb.mono B3.out.size))
         clear hb)
      | (go_at_call 63
         with_reducible refine Calls.mono (EW1.out _) ?_
         rintro e v5 ⟨G5, g5, rfl, hown, hb⟩
         have B5 := Lib.hid (B4.out.trans (hb.mono B4.out.size))
         have O5 := Lib.hid (own_evl hown)
         clear hown hb)
      | (go_at_call 62
         with_reducible refine Calls.mono (HSE.out _ _ _ _ _ _ hW _ (T3.out _ B5.out) O5.out) ?_
         rintro e v6 ⟨rfl, hb⟩
         have B6 := Lib.hid (B5.out.trans (hb.mono B5.out.size))
         clear hb)
      | (go_at_call 63
         with_reducible refine Calls.mono (EH1.out _) ?_
         rintro e v7 ⟨G7, g7, rfl, hown, hb⟩
         have B7 := Lib.hid (B6.out.trans (hb.mono B6.out.size))
         have O7 := Lib.hid (own_evl hown)
         clear hown hb)
      | (go_at_call 62
         with_reducible refine Calls.mono (HSE.out _ _ _ _ _ _ hH _ (T4.out _ B7.out) O7.out) ?_
         rintro e v8 ⟨rfl, hb⟩
         have B8 := Lib.hid (B7.out.trans (hb.mono B7.out.size))
         clear hb)
      | (go_at_call 49
         with_reducible refine Calls.mono (alive12_any _) ?_
         rintro e v9 ⟨rfl, hb⟩
         have B9 := Lib.hid (B8.out.trans (hb.mono B8.out.size))
         clear hb))
  all_goals
    go_wp2
    go_ret
    exact ⟨rfl, LB8.out.trans (B9.out.mono LB8.out.size)⟩
set_option maxHeartbeats 3200000 in
theorem hg_down (W H : Nat) (A B C : Option Addr) (c d e : Nat) (a b mo : Nat → Bool) (hW0 : 1 ≤ W) (hW : W ≤ 6) (hH0 : 1 ≤ H) (hH : H ≤ 6) (hn1 : W * H ≤ 1100) (hqa : hgs (ov W a) (W + H) = true) (hqb : hgs (ov W b) (W + H) = true) (hqd : Dbl2 (ov (2 * W) (dbl W a b mo)) (W + H) 1) (hcm : cnt mo (W * H) = 0) (w : World) (ha : Holds w w.heap.size A (W * H) a) (hb1 : Holds w w.heap.size B (W * H) b) (hm : Holds w w.heap.size C (W * H) mo) :
    Calls Try.prog 14 #[.agg #[.int .i64 (W : Nat), .int .i64 (H : Nat), .slice A (W * H) c], .agg #[.int .i64 (W : Nat), .int .i64 (H : Nat), .slice B (W * H) d], .agg #[.int .i64 (W : Nat), .int .i64 (H : Nat), .slice C (W * H) e]] w fun e w' => e = .returned (.bool true) ∧ Below w.heap.size w w' := by
  have hz0 := chk_zero (W := W) (H := H) hW0 (by omega) hH0 (by omega)
  have HT := Lib.hid (fun u => thr_any (W : Nat) (H : Nat) (W : Nat) (H : Nat) (W : Nat) (H : Nat) A B C (W * H) c (W * H) d (W * H) e 6 u)
  rw [fitZ_valid hW0 (by omega) hH0 (by omega), show thr (W * H) 0 (W : Nat) (H : Nat) 6 = true by unfold thr; rw [decide_eq_true hn1, decide_eq_true (show (W : Int) ≤ 6 by omega), decide_eq_true (show (H : Int) ≤ 6 by omega)]; rfl] at HT
  have HWV := Lib.hid (fun u (hb : Below w.heap.size w u) => weave_ok (c := c) (d := d) (e := e) hW0 (by omega) hH0 (by omega) u ((ha.below hb).more hb.size) ((hb1.below hb).more hb.size) ((hm.below hb).more hb.size))
  have HHA := Lib.hid (fun u (hb : Below w.heap.size w u) => phangs_core W H (W + H) rfl A c a u ((ha.below hb).more hb.size) hW0 (by omega) hH0 (by omega) _ rfl)
  have HHB := Lib.hid (fun u (hb : Below w.heap.size w u) => phangs_core W H (W + H) rfl B d b u ((hb1.below hb).more hb.size) hW0 (by omega) hH0 (by omega) _ rfl)
  have HHD := Lib.hid (fun u k d (h : Row u k (2 * W * (2 * H)) (dbl W a b mo)) => phangs_core (2 * W) (2 * H) (2 * (W + H)) (by omega) (some ⟨k, 0, none⟩) d _ u (h.holds h.lt) (by omega) (by omega) (by omega) (by omega) _ rfl)
  have HCN := Lib.hid (fun u (hb : Below w.heap.size w u) => count_ok W H C e mo u ((hm.below hb).more hb.size) hW0 (by omega) hH0 (by omega))
  rw [hqa] at HHA
  rw [hqb] at HHB
  rw [hqd.hgs] at HHD
  have HLY := Lib.hid (fun u k d (h : Row u k (2 * W * (2 * H)) (dbl W a b mo)) => dlayers (d := d) hW0 (by omega) hH0 (by omega) hqd u h)
  have EW0 := Lib.hid (fun u => even_any W 0 (by omega) (by omega) u)
  have EW1 := Lib.hid (fun u => even_any W 1 (by omega) (by omega) u)
  have EH0 := Lib.hid (fun u => even_any H 0 (by omega) (by omega) u)
  have EH1 := Lib.hid (fun u => even_any H 1 (by omega) (by omega) u)
  have HSE := Lib.hid (fun n s c d D E (hn : n ≤ 6) u (h1 : LL u D (evl n s)) (h2 : LL u E (evl n s)) => same_evl (c := c) (d := d) (by omega) u h1 h2)
  have hcl := cnt_le mo (W * H)
  obtain ⟨F, hF⟩ : ∃ F, dbl W a b mo = F := ⟨_, rfl⟩
  obtain ⟨W2, hW2⟩ : ∃ z, 2 * W = z := ⟨_, rfl⟩
  obtain ⟨H2, hH2⟩ : ∃ z, 2 * H = z := ⟨_, rfl⟩
  simp only [hF, hW2, hH2] at HWV HHD HLY
  obtain ⟨N2, hN2⟩ : ∃ z, W2 * H2 = z := ⟨_, rfl⟩
  have HN2 := Lib.hid hN2
  simp only [hN2] at HHD HLY
  obtain ⟨M, hMe⟩ : ∃ z, W * H = z := ⟨_, rfl⟩
  simp only [hMe] at HT HWV HHA HHB HCN hcl hn1 hcm ⊢
  obtain ⟨cn, hcn⟩ : ∃ z, cnt mo M = z := ⟨_, rfl⟩
  simp only [hcn] at HCN hcl hcm
  have HM0 := Lib.hid (show 0 < M by rw [← hMe]; exact Nat.mul_pos hW0 hH0)
  clear ha hb1 hm hF hW2 hH2 hN2 hMe hz0 hcn
  subst hcm
  have LB0 := Lib.hid (Below.refl w.heap.size w)
  have X1 := Lib.hid (Box.new w (W : Nat) (H : Nat) (.slice A M c))
  have LB0 := Lib.hid (LB0.out.alloc LB0.out.size (.cells #[.int .i64 (W : Nat), .int .i64 (H : Nat), .slice A M c] 24))
  have X1 := Lib.hid (X1.out.alloc (.cells #[.int .i64 (W : Nat), .int .i64 (H : Nat), .slice B M d] 24))
  have X2 := Box.new (w.alloc (.cells #[.int .i64 (W : Nat), .int .i64 (H : Nat), .slice A M c] 24)) (W : Nat) (H : Nat) (.slice B M d)
  rw [show ((w.alloc (.cells #[.int .i64 (W : Nat), .int .i64 (H : Nat), .slice A M c] 24))).heap.size = w.heap.size + 1 by simp] at X2
  have X2 := Lib.hid X2
  have LB0 := Lib.hid (LB0.out.alloc LB0.out.size (.cells #[.int .i64 (W : Nat), .int .i64 (H : Nat), .slice B M d] 24))
  have X1 := Lib.hid (X1.out.alloc (.cells #[.int .i64 (W : Nat), .int .i64 (H : Nat), .slice C M e] 24))
  have X2 := Lib.hid (X2.out.alloc (.cells #[.int .i64 (W : Nat), .int .i64 (H : Nat), .slice C M e] 24))
  have X3 := Box.new ((w.alloc (.cells #[.int .i64 (W : Nat), .int .i64 (H : Nat), .slice A M c] 24)).alloc (.cells #[.int .i64 (W : Nat), .int .i64 (H : Nat), .slice B M d] 24)) (W : Nat) (H : Nat) (.slice C M e)
  rw [show (((w.alloc (.cells #[.int .i64 (W : Nat), .int .i64 (H : Nat), .slice A M c] 24)).alloc (.cells #[.int .i64 (W : Nat), .int .i64 (H : Nat), .slice B M d] 24))).heap.size = w.heap.size + 2 by simp] at X3
  have X3 := Lib.hid X3
  have LB0 := Lib.hid (LB0.out.alloc LB0.out.size (.cells #[.int .i64 (W : Nat), .int .i64 (H : Nat), .slice C M e] 24))
  go_enter Try.func14, Try.ntmps14
  go_upto_region 1 with (fail)
  generalize ((w.alloc (.cells #[.int .i64 (W : Nat), .int .i64 (H : Nat), .slice A M c] 24)).alloc (.cells #[.int .i64 (W : Nat), .int .i64 (H : Nat), .slice B M d] 24)).alloc (.cells #[.int .i64 (W : Nat), .int .i64 (H : Nat), .slice C M e] 24) = w0 at *
  obtain ⟨q0, q1, q2, q3, q4, q5, q6⟩ := X1.out.all
  obtain ⟨q7, q8, q9, q10, q11, q12, q13⟩ := X2.out.all
  obtain ⟨q14, q15, q16, q17, q18, q19, q20⟩ := X3.out.all
  go_wp2_with fail
  clear q0 q1 q2 q3 q4 q5 q6 q7 q8 q9 q10 q11 q12 q13 q14 q15 q16 q17 q18 q19 q20
  with_reducible refine Calls.mono (HT.out _) ?_
  rintro e w1 ⟨rfl, hb⟩
  have LB1 := Lib.hid (LB0.out.trans (hb.mono LB0.out.size))
  have X1 := Lib.hid (X1.out.below hb X1.out.lt)
  have X2 := Lib.hid (X2.out.below hb X2.out.lt)
  have X3 := Lib.hid (X3.out.below hb X3.out.lt)
  clear hb LB0 
  obtain ⟨q0, q1, q2, q3, q4, q5, q6⟩ := X1.out.all
  obtain ⟨q7, q8, q9, q10, q11, q12, q13⟩ := X2.out.all
  obtain ⟨q14, q15, q16, q17, q18, q19, q20⟩ := X3.out.all
  go_wp2_with fail
  clear q0 q1 q2 q3 q4 q5 q6 q7 q8 q9 q10 q11 q12 q13 q14 q15 q16 q17 q18 q19 q20
  with_reducible refine Calls.mono (HWV.out _ LB1.out) ?_
  rintro e w2 ⟨kd, dd, rfl, hkd, hrow, hb⟩
  have LB2 := Lib.hid (LB1.out.trans (hb.mono LB1.out.size))
  have X1 := Lib.hid (X1.out.below hb X1.out.lt)
  have X2 := Lib.hid (X2.out.below hb X2.out.lt)
  have X3 := Lib.hid (X3.out.below hb X3.out.lt)
  have RD := Lib.hid hrow
  clear hb LB1 hrow
  rw [HN2.out] at RD ⊢
  have hb := ((Below.refl w2.heap.size w2).alloc (by simp; try omega) (.cells #[.int .i64 (W2 : Nat), .int .i64 (H2 : Nat), .slice (some ⟨kd, 0, none⟩) N2 dd] 24))
  have LB3 := Lib.hid (LB2.out.trans (hb.mono LB2.out.size))
  have X1 := Lib.hid (X1.out.below hb X1.out.lt)
  have X2 := Lib.hid (X2.out.below hb X2.out.lt)
  have X3 := Lib.hid (X3.out.below hb X3.out.lt)
  have RD := Lib.hid (RD.out.below hb RD.out.lt)
  have XD := Box.new w2 (W2 : Nat) (H2 : Nat) (.slice (some ⟨kd, 0, none⟩) N2 dd)
  have XD := Lib.hid XD
  clear hb LB2
  go_upto_region 4 with (fail)
  obtain ⟨db, hdb⟩ : ∃ z, w2.heap.size = z := ⟨_, rfl⟩
  rw [hdb] at XD
  try rw [hdb]
  clear hdb
  generalize w2.alloc (.cells #[.int .i64 (W2 : Nat), .int .i64 (H2 : Nat), .slice (some ⟨kd, 0, none⟩) N2 dd] 24) = w3 at *
  obtain ⟨q0, q1, q2, q3, q4, q5, q6⟩ := X1.out.all
  go_wp2_with fail
  clear q0 q1 q2 q3 q4 q5 q6
  with_reducible refine Calls.mono (HHA.out _ LB3.out) ?_
  rintro e w4 ⟨rfl, hb⟩
  have LB4 := Lib.hid (LB3.out.trans (hb.mono LB3.out.size))
  have X1 := Lib.hid (X1.out.below hb X1.out.lt)
  have X2 := Lib.hid (X2.out.below hb X2.out.lt)
  have X3 := Lib.hid (X3.out.below hb X3.out.lt)
  have RD := Lib.hid (RD.out.below hb RD.out.lt)
  have XD := Lib.hid (XD.out.below hb XD.out.lt)
  clear hb LB3 
  obtain ⟨q0, q1, q2, q3, q4, q5, q6⟩ := X2.out.all
  go_wp2_with fail
  clear q0 q1 q2 q3 q4 q5 q6
  with_reducible refine Calls.mono (HHB.out _ LB4.out) ?_
  rintro e w5 ⟨rfl, hb⟩
  have LB5 := Lib.hid (LB4.out.trans (hb.mono LB4.out.size))
  have X1 := Lib.hid (X1.out.below hb X1.out.lt)
  have X2 := Lib.hid (X2.out.below hb X2.out.lt)
  have X3 := Lib.hid (X3.out.below hb X3.out.lt)
  have RD := Lib.hid (RD.out.below hb RD.out.lt)
  have XD := Lib.hid (XD.out.below hb XD.out.lt)
  clear hb LB4 
  obtain ⟨q0, q1, q2, q3, q4, q5, q6⟩ := XD.out.all
  go_wp2_with fail
  clear q0 q1 q2 q3 q4 q5 q6
  with_reducible refine Calls.mono (HHD.out _ _ _ RD.out) ?_
  rintro e w6 ⟨rfl, hb⟩
  have LB6 := Lib.hid (LB5.out.trans (hb.mono LB5.out.size))
  have X1 := Lib.hid (X1.out.below hb X1.out.lt)
  have X2 := Lib.hid (X2.out.below hb X2.out.lt)
  have X3 := Lib.hid (X3.out.below hb X3.out.lt)
  have RD := Lib.hid (RD.out.below hb RD.out.lt)
  have XD := Lib.hid (XD.out.below hb XD.out.lt)
  clear hb LB5 
  obtain ⟨q0, q1, q2, q3, q4, q5, q6⟩ := X3.out.all
  go_wp2_with fail
  clear q0 q1 q2 q3 q4 q5 q6
  with_reducible refine Calls.mono (HCN.out _ LB6.out) ?_
  rintro e w7 ⟨rfl, hb⟩
  have LB7 := Lib.hid (LB6.out.trans (hb.mono LB6.out.size))
  have X1 := Lib.hid (X1.out.below hb X1.out.lt)
  have X2 := Lib.hid (X2.out.below hb X2.out.lt)
  have X3 := Lib.hid (X3.out.below hb X3.out.lt)
  have RD := Lib.hid (RD.out.below hb RD.out.lt)
  have XD := Lib.hid (XD.out.below hb XD.out.lt)
  clear hb LB6 
  obtain ⟨q0, q1, q2, q3, q4, q5, q6⟩ := X3.out.all
  obtain ⟨q7, q8, q9, q10, q11, q12, q13⟩ := XD.out.all
  go_wp2_with fail
  clear q0 q1 q2 q3 q4 q5 q6 q7 q8 q9 q10 q11 q12 q13
  with_reducible refine Calls.mono (HLY.out _ _ _ RD.out) ?_
  rintro e w8 ⟨lb, lo, lc, D1, c1, D2, c2, D3, c3, D4, c4, rfl, hlb, ⟨d0, d1, d2, d3⟩, l1, l2, l3, l4, hb⟩
  have LB8 := Lib.hid (LB7.out.trans (hb.mono LB7.out.size))
  have X1 := Lib.hid (X1.out.below hb X1.out.lt)
  have X2 := Lib.hid (X2.out.below hb X2.out.lt)
  have X3 := Lib.hid (X3.out.below hb X3.out.lt)
  have RD := Lib.hid (RD.out.below hb RD.out.lt)
  have XD := Lib.hid (XD.out.below hb XD.out.lt)
  clear hb LB7 
  obtain ⟨q0, q1, q2, q3, q4, q5, q6⟩ := X1.out.all
  go_upto_region 22 with (fail)
  have HK := Lib.hid (fun (u : World) (h : Below w8.heap.size w8 u) => (show u.cell? ⟨lb, lo, none⟩ = some (.slice D1 W c1) ∧ u.cell? ⟨lb, lo + 1, none⟩ = some (.slice D2 H c2) ∧ u.cell? ⟨lb, lo + 2, none⟩ = some (.slice D3 W c3) ∧ u.cell? ⟨lb, lo + 3, none⟩ = some (.slice D4 H c4) ∧ u.cell? ⟨w.heap.size, 0, none⟩ = some (.int .i64 (W : Nat)) ∧ u.cell? ⟨w.heap.size, 1, none⟩ = some (.int .i64 (H : Nat)) from
    ⟨(h.cell (p := ⟨lb, lo, none⟩) hlb).trans d0, (h.cell (p := ⟨lb, lo + 1, none⟩) hlb).trans d1, (h.cell (p := ⟨lb, lo + 2, none⟩) hlb).trans d2, (h.cell (p := ⟨lb, lo + 3, none⟩) hlb).trans d3, (h.cell (p := ⟨w.heap.size, 0, none⟩) q6).trans q0, (h.cell (p := ⟨w.heap.size, 1, none⟩) q6).trans q1⟩))
  have T1 := Lib.hid (fun (u : World) (h : Below w8.heap.size w8 u) => l1.below h)
  have T2 := Lib.hid (fun (u : World) (h : Below w8.heap.size w8 u) => l2.below h)
  have T3 := Lib.hid (fun (u : World) (h : Below w8.heap.size w8 u) => l3.below h)
  have T4 := Lib.hid (fun (u : World) (h : Below w8.heap.size w8 u) => l4.below h)
  have B0 := Lib.hid (Below.refl w8.heap.size w8).drew
  clear l1 l2 l3 l4
  skip
  go_region_held3 (fun u => u.cell? ⟨lb, lo, none⟩ = some (.slice D1 W c1) ∧ u.cell? ⟨lb, lo + 1, none⟩ = some (.slice D2 H c2) ∧ u.cell? ⟨lb, lo + 2, none⟩ = some (.slice D3 W c3) ∧ u.cell? ⟨lb, lo + 3, none⟩ = some (.slice D4 H c4) ∧ u.cell? ⟨w.heap.size, 0, none⟩ = some (.int .i64 (W : Nat)) ∧ u.cell? ⟨w.heap.size, 1, none⟩ = some (.int .i64 (H : Nat)))
    (first
      | with_reducible exact HK.out _ B0.out
      | with_reducible exact HK.out _ B1.out
      | with_reducible exact HK.out _ B2.out
      | with_reducible exact HK.out _ B3.out
      | with_reducible exact HK.out _ B4.out
      | with_reducible exact HK.out _ B5.out
      | with_reducible exact HK.out _ B6.out
      | with_reducible exact HK.out _ B7.out
      | with_reducible exact HK.out _ B8.out
      | with_reducible exact HK.out _ B9.out)
    (first
      | (go_at_call 63
         with_reducible refine Calls.mono (EW1.out _) ?_
         rintro e v1 ⟨G1, g1, rfl, hown, hb⟩
         have B1 := Lib.hid (B0.out.trans (hb.mono B0.out.size))
         have O1 := Lib.hid (own_evl hown)
         clear hown hb)
      | (go_at_call 62
         with_reducible refine Calls.mono (HSE.out _ _ _ _ _ _ hW _ (T1.out _ B1.out) O1.out) ?_
         rintro e v2 ⟨rfl, hb⟩
         have B2 := Lib.hid (B1.out.trans (hb.mono B1.out.size))
         clear hb)
      | (go_at_call 63
         with_reducible refine Calls.mono (EH1.out _) ?_
         rintro e v3 ⟨G3, g3, rfl, hown, hb⟩
         have B3 := Lib.hid (B2.out.trans (hb.mono B2.out.size))
         have O3 := Lib.hid (own_evl hown)
         clear hown hb)
      | (go_at_call 62
         with_reducible refine Calls.mono (HSE.out _ _ _ _ _ _ hH _ (T2.out _ B3.out) O3.out) ?_
         rintro e v4 ⟨rfl, hb⟩
         have B4 := Lib.hid (B3.out.trans (hb.mono B3.out.size))
         clear hb)
      | (go_at_call 63
         with_reducible refine Calls.mono (EW0.out _) ?_
         rintro e v5 ⟨G5, g5, rfl, hown, hb⟩
         have B5 := Lib.hid (B4.out.trans (hb.mono B4.out.size))
         have O5 := Lib.hid (own_evl hown)
         clear hown hb)
      | (go_at_call 62
         with_reducible refine Calls.mono (HSE.out _ _ _ _ _ _ hW _ (T3.out _ B5.out) O5.out) ?_
         rintro e v6 ⟨rfl, hb⟩
         have B6 := Lib.hid (B5.out.trans (hb.mono B5.out.size))
         clear hb)
      | (go_at_call 63
         with_reducible refine Calls.mono (EH0.out _) ?_
         rintro e v7 ⟨G7, g7, rfl, hown, hb⟩
         have B7 := Lib.hid (B6.out.trans (hb.mono B6.out.size))
         have O7 := Lib.hid (own_evl hown)
         clear hown hb)
      | (go_at_call 62
         with_reducible refine Calls.mono (HSE.out _ _ _ _ _ _ hH _ (T4.out _ B7.out) O7.out) ?_
         rintro e v8 ⟨rfl, hb⟩
         have B8 := Lib.hid (B7.out.trans (hb.mono B7.out.size))
         clear hb)
      | (go_at_call 49
         with_reducible refine Calls.mono (alive12_any _) ?_
         rintro e v9 ⟨rfl, hb⟩
         have B9 := Lib.hid (B8.out.trans (hb.mono B8.out.size))
         clear hb))
  all_goals
    go_wp2
    go_ret
    exact ⟨rfl, LB8.out.trans (B9.out.mono LB8.out.size)⟩
theorem hangs12_any (W H X Y U V : Int) (A B C : Option Addr) (n c m d k e : Nat) (a b mo : Nat → Bool) (w : World) (ha : Holds w w.heap.size A n a) (hb : Holds w w.heap.size B m b) (hm : Holds w w.heap.size C k mo) :
    Calls Try.prog 14 #[.agg #[.int .i64 W, .int .i64 H, .slice A n c], .agg #[.int .i64 X, .int .i64 Y, .slice B m d], .agg #[.int .i64 U, .int .i64 V, .slice C k e]] w fun e w' => e = .returned (.bool true) ∧ Below w.heap.size w w' := by
  have key : ∀ p, thr n (fitZ (chk W H n) (chk X Y m) (chk U V k) W H X Y U V) W H 6 = p → Calls Try.prog 14 #[.agg #[.int .i64 W, .int .i64 H, .slice A n c], .agg #[.int .i64 X, .int .i64 Y, .slice B m d], .agg #[.int .i64 U, .int .i64 V, .slice C k e]] w fun e w' => e = .returned (.bool true) ∧ Below w.heap.size w w' := by
    intro p hp
    cases p
    · exact hangs12_any_no W H X Y U V A B C n c m d k e hp w
    · obtain ⟨t0, t1, t2, t3, rfl, rfl, rfl, rfl, t8, t9⟩ := thr_yes hp
      obtain ⟨W', H', rfl, rfl, rfl, w1, w2, w3, w4⟩ := nat_of t1
      obtain ⟨W2, H2, e1, e2, rfl, _⟩ := nat_of t2
      obtain ⟨W3, H3, e3, e4, rfl, _⟩ := nat_of t3
      obtain rfl : W' = W2 := by omega
      obtain rfl : H' = H2 := by omega
      obtain rfl : W' = W3 := by omega
      obtain rfl : H' = H3 := by omega
      cases hqa : hgs (ov W' a) (W' + H')
      · exact hg_na W' H' A B C c d e a b mo w1 (by omega) w3 (by omega) t0 hqa w ha hb hm
      · cases hqb : hgs (ov W' b) (W' + H')
        · exact hg_nb W' H' A B C c d e a b mo w1 (by omega) w3 (by omega) t0 hqa hqb w ha hb hm
        · have hcl := cnt_le mo (W' * H')
          by_cases h0 : cnt mo (W' * H') = 0
          · exact hg_down W' H' A B C c d e a b mo w1 (by omega) w3 (by omega) t0 hqa hqb (two_down w1 w3 hqa hqb (cnt_none_iff h0)) h0 w ha hb hm
          · by_cases h1 : cnt mo (W' * H') = W' * H'
            · exact hg_up W' H' A B C c d e a b mo w1 (by omega) w3 (by omega) t0 hqa hqb (two_up w1 w3 hqa hqb (cnt_full_iff h1)) h1.symm w ha hb hm
            · obtain ⟨i, hi, e1⟩ := cnt_some (p := mo) (n := W' * H') (by omega)
              obtain ⟨j, hj, e2⟩ := cnt_miss (p := mo) (n := W' * H') (by omega)
              exact hg_mix W' H' A B C c d e a b mo w1 (by omega) w3 (by omega) t0 hqa hqb (two_mixed w1 w3 hqa hqb hi hj e1 e2) ⟨by omega, by omega⟩ w ha hb hm
  exact key _ rfl
end Go.Proofs.Ytgmcbdnfgdmmaaa
