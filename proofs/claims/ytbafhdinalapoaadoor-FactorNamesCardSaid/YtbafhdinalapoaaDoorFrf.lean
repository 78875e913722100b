/- The reference's Of, of any grid. -/
import Derived.Test.YtbafhdinalapoaaDoorFof
import Derived.Test.YtbafhdinalapoaaDoorFkr
import Derived.Deep.DeepCutAuto
namespace Go.Proofs.YtbafhdinalapoaaDoor
open Go.RowKit
set_option linter.unusedVariables false
set_option linter.unusedSimpArgs false
set_option maxRecDepth 100000

open L2 (nd ren)
theorem But.irow_ {k q n : Nat} {w w' : World} {F : Nat → Int} (hb : But k w w') (h : L2.Row w q n F) (hg : q ≠ k) : L2.Row w' q n F := by
  have hl := h.lt
  obtain ⟨c, h1, h2⟩ := h
  exact ⟨c, (hb.block q hl hg).trans h1, h2⟩

set_option maxHeartbeats 800000 in
theorem rof_err (W H : Int) (A : Option Addr) (n c : Nat) (w : World) (err : Int) (hn : n ≤ 4200) (hx : chk W H n = err) (hne : (err != 0) = true) :
    Calls Tryd.prog 25 #[.agg #[.int .i64 W, .int .i64 H, .slice A n c]] w (ErrDr w err) := by
  have L0 := Lib.hid (show Below w.heap.size w ((w.alloc (.cells #[.int .i64 W, .int .i64 H, .slice A n c] 25)).alloc (.cells #[.int .i64 0, .int .i64 0, .slice none 0 0, .slice none 0 0, .int .i64 0, .int .i64 0, .slice none 0 0] 27)) from ((Below.refl _ _).alloc (Nat.le_refl _) _).alloc (by simp) _)
  have X0 := Lib.hid ((Box.new w W H (.slice A n c)).alloc (.cells #[.int .i64 0, .int .i64 0, .slice none 0 0, .slice none 0 0, .int .i64 0, .int .i64 0, .slice none 0 0] 27))
  have HC := Lib.hid (fun v => rgchk W H A n c v err hn hx)
  have Z0 : Hid (DBox ((w.alloc (.cells #[.int .i64 W, .int .i64 H, .slice A n c] 25)).alloc (.cells #[.int .i64 0, .int .i64 0, .slice none 0 0, .slice none 0 0, .int .i64 0, .int .i64 0, .slice none 0 0] 27)) (w.heap.size + 1) Dr.zero) := Lib.hid (by
    have h := DBox.new (w.alloc (.cells #[.int .i64 W, .int .i64 H, .slice A n c] 25)) Dr.zero
    simp only [World.size_alloc] at h
    exact h)
  clear hx
  go_enter Tryd.func25, Tryd.ntmps25
  obtain ⟨q0, q1, q2, q3, q4, q5, q6⟩ := X0.out.all
  go_wp2_with fail
  clear q0 q1 q2 q3 q4 q5 q6
  generalize (w.alloc (.cells #[.int .i64 W, .int .i64 H, .slice A n c] 25)).alloc (.cells #[.int .i64 0, .int .i64 0, .slice none 0 0, .slice none 0 0, .int .i64 0, .int .i64 0, .slice none 0 0] 27) = v0 at *
  refine (HC.out _).mono ?_
  rintro e w1 ⟨rfl, hb⟩
  have X1 := Lib.hid (X0.out.below hb X0.out.lt)
  have Z1 := Lib.hid (Z0.out.next hb)
  have L1 := Lib.hid (L0.out.trans (hb.mono L0.out.size))
  clear hb X0 L0 Z0
  obtain ⟨q0, q1, q2, q3, q4, q5, q6⟩ := X1.out.all
  go_wp2_with fail
  clear q0 q1 q2 q3 q4 q5 q6
  refine (HC.out _).mono ?_
  rintro e w2 ⟨rfl, hb⟩
  have HB := Lib.hid (L1.out.trans (hb.mono L1.out.size))
  have z := (Z1.out.next hb).all
  have zf := (Z1.out.next hb).frees
  simp only [Dr.zero] at z
  obtain ⟨p0, p1, p2, p3, p4, p5, p6, p7⟩ := z
  obtain ⟨f0, f1, f2, f3, f4, f5, f6⟩ := zf
  clear hb
  go_wp2
  refine bodyPost_ret (v := .tuple #[.agg #[.int .i64 0, .int .i64 0, .slice none 0 0, .slice none 0 0, .int .i64 0, .int .i64 0, .slice none 0 0], .int .i64 err]) (by simp [results, Tryd.results25, go_sem, p0, p1, p2, p3, p4, p5, p6]) rfl ?_
  exact dfin_err (by omega) HB.out

set_option maxHeartbeats 800000 in
theorem rof_many (W H : Nat) (b o cap : Nat) (f : Nat → Bool) (w : World) (hr : Holds w w.heap.size (some ⟨b, o, none⟩) (W * H) f) (hcap : W * H ≤ cap) (hW0 : 1 ≤ W) (hW : W ≤ 64) (hH0 : 1 ≤ H) (hH : H ≤ 64) (hm : 40 < nd (rc H (tnf W H f)) W ∨ 40 < nd (rc W f) H) :
    Calls Tryd.prog 25 #[.agg #[.int .i64 W, .int .i64 H, .slice (some ⟨b, o, none⟩) (W * H) cap]] w (ErrDr w 4) := by
  have L0 := Lib.hid (show Below w.heap.size w ((w.alloc (.cells #[.int .i64 W, .int .i64 H, .slice (some ⟨b, o, none⟩) (W * H) cap] 25)).alloc (.cells #[.int .i64 0, .int .i64 0, .slice none 0 0, .slice none 0 0, .int .i64 0, .int .i64 0, .slice none 0 0] 27)) from ((Below.refl _ _).alloc (Nat.le_refl _) _).alloc (by simp) _)
  have X0 := Lib.hid ((Box.new w W H (.slice (some ⟨b, o, none⟩) (W * H) cap)).alloc (.cells #[.int .i64 0, .int .i64 0, .slice none 0 0, .slice none 0 0, .int .i64 0, .int .i64 0, .slice none 0 0] 27))
  have hck : chk (W : Int) (H : Int) (W * H) = 0 := fchk_ok hW0 hW hH0 hH
  have HC := Lib.hid (fun v => rgchk W H (some ⟨b, o, none⟩) (W * H) cap v 0 (Nat.le_trans (Nat.mul_le_mul hW hH) (by omega)) hck)
  have HT := Lib.hid (fun v (h : Below w.heap.size w v) => turned_any W H (some ⟨b, o, none⟩) cap f v ((hr.below h).more h.size) hW0 hW hH0 hH)
  have HK := Lib.hid (fun v (h : Below w.heap.size w v) => rkinds_any W H (some ⟨b, o, none⟩) cap f v.heap.size v ((hr.below h).more h.size) (Nat.le_refl _) hW hH)
  have HK2 := Lib.hid (fun v (k : Nat) (h : Row v k (H * W) (tnf W H f)) => rkinds_any H W (some ⟨k, 0, none⟩) (H * W) (tnf W H f) v.heap.size v (h.holds h.lt) (Nat.le_refl _) hH hW)
  have Z0 : Hid (DBox ((w.alloc (.cells #[.int .i64 W, .int .i64 H, .slice (some ⟨b, o, none⟩) (W * H) cap] 25)).alloc (.cells #[.int .i64 0, .int .i64 0, .slice none 0 0, .slice none 0 0, .int .i64 0, .int .i64 0, .slice none 0 0] 27)) (w.heap.size + 1) Dr.zero) := Lib.hid (by
    have h := DBox.new (w.alloc (.cells #[.int .i64 W, .int .i64 H, .slice (some ⟨b, o, none⟩) (W * H) cap] 25)) Dr.zero
    simp only [World.size_alloc] at h
    exact h)
  have hs0 : ((w.alloc (.cells #[.int .i64 W, .int .i64 H, .slice (some ⟨b, o, none⟩) (W * H) cap] 25)).alloc (.cells #[.int .i64 0, .int .i64 0, .slice none 0 0, .slice none 0 0, .int .i64 0, .int .i64 0, .slice none 0 0] 27)).heap.size = w.heap.size + 2 := by simp
  have HR := Lib.hid hr
  obtain ⟨cx, hcx⟩ : ∃ cx, rc H (tnf W H f) = cx := ⟨_, rfl⟩
  obtain ⟨cy, hcy⟩ : ∃ cy, rc W f = cy := ⟨_, rfl⟩
  clear hr hcap hck
  go_enter Tryd.func25, Tryd.ntmps25
  obtain ⟨q0, q1, q2, q3, q4, q5, q6⟩ := X0.out.all
  go_wp2_with fail
  clear q0 q1 q2 q3 q4 q5 q6
  generalize (w.alloc (.cells #[.int .i64 W, .int .i64 H, .slice (some ⟨b, o, none⟩) (W * H) cap] 25)).alloc (.cells #[.int .i64 0, .int .i64 0, .slice none 0 0, .slice none 0 0, .int .i64 0, .int .i64 0, .slice none 0 0] 27) = v0 at *
  refine (HC.out _).mono ?_
  rintro e w1 ⟨rfl, hb⟩
  have X1 := Lib.hid (X0.out.below hb X0.out.lt)
  have Z1 := Lib.hid (Z0.out.next hb)
  have L1 := Lib.hid (L0.out.trans (hb.mono L0.out.size))
  have hz1 := hb.size
  clear hb X0 L0 Z0
  obtain ⟨q0, q1, q2, q3, q4, q5, q6⟩ := X1.out.all
  go_wp2_with fail
  clear q0 q1 q2 q3 q4 q5 q6
  refine (HT.out _ L1.out).mono ?_
  rintro e w2 ⟨k, rfl, hk, hrow, hb⟩
  have X2 := Lib.hid (X1.out.below hb X1.out.lt)
  have Z2 := Lib.hid (Z1.out.next hb)
  have L2' := Lib.hid (L1.out.trans (hb.mono L1.out.size))
  have HKR := Lib.hid (HK2.out w2 k hrow)
  have hz2 := hb.size
  clear hb X1 L1 Z1 hrow hk
  go_wp2_with fail
  refine HKR.out.mono ?_
  rintro e w3 ⟨A1, c1, A2, c2, rfl, hr1, hr2, hb⟩
  obtain ⟨S, hS⟩ : ∃ S, nd cx W = S := ⟨_, rfl⟩
  obtain ⟨T, hT⟩ : ∃ T, nd cy H = T := ⟨_, rfl⟩
  rw [hcx] at hr1 hr2 hm ⊢
  rw [hcy] at hm
  rw [hS] at hr2 hm ⊢
  rw [hT] at hm
  have HSE := Lib.hid hS
  have HTE := Lib.hid hT
  have hS64 : S ≤ 64 := by rw [← hS]; exact Nat.le_trans (L2.nd_le _ _) hW
  have hT64 : T ≤ 64 := by rw [← hT]; exact Nat.le_trans (L2.nd_le _ _) hH
  have hS0 : 1 ≤ S := by rw [← hS]; exact nd_pos _ _ hW0
  have hT0 : 1 ≤ T := by rw [← hT]; exact nd_pos _ _ hH0
  have X3 := Lib.hid (X2.out.below hb X2.out.lt)
  have Z3 := Lib.hid (Z2.out.next hb)
  have L3 := Lib.hid (L2'.out.trans (hb.mono L2'.out.size))
  have HR1 := Lib.hid (hr1 hW0)
  have HR2 := Lib.hid (hr2 hS0)
  have hz3 := hb.size
  clear hb hr1 hr2 X2 Z2 L2' HKR
  obtain ⟨q0, q1, q2, q3, q4, q5, q6⟩ := X3.out.all
  go_wp2_with fail
  clear q0 q1 q2 q3 q4 q5 q6
  refine (HK.out _ L3.out).mono ?_
  rintro e w4 ⟨A3, c3, A4, c4, rfl, hr3, hr4, hb⟩
  rw [hcy] at hr3 hr4 ⊢
  rw [hT] at hr4 ⊢
  have X4 := Lib.hid (X3.out.below hb X3.out.lt)
  have Z4 := Lib.hid (Z3.out.next hb)
  have L4 := Lib.hid (L3.out.trans (hb.mono L3.out.size))
  have HR3 := Lib.hid (hr3 hH0)
  have HR4 := Lib.hid (hr4 hT0)
  have HB34 := Lib.hid hb
  have hz4 := hb.size
  clear hb hr3 hr4 X3 Z3 hS hT
  have z := Z4.out.all
  have zf := Z4.out.frees
  simp only [Dr.zero] at z
  obtain ⟨p0, p1, p2, p3, p4, p5, p6, p7⟩ := z
  obtain ⟨f0, f1, f2, f3, f4, f5, f6⟩ := zf
  by_cases hs40 : 40 < S
  · have d1 : decide ((40 : Int) < (S : Int)) = true := by simp; omega
    go_wp2
    refine bodyPost_ret (v := .tuple #[.agg #[.int .i64 0, .int .i64 0, .slice none 0 0, .slice none 0 0, .int .i64 0, .int .i64 0, .slice none 0 0], .int .i64 4]) (by simp [results, Tryd.results25, go_sem, p0, p1, p2, p3, p4, p5, p6]) rfl ?_
    exact dfin_err (by omega) L4.out
  · have d1 : decide ((40 : Int) < (S : Int)) = false := by simp; omega
    have d2 : decide ((40 : Int) < (T : Int)) = true := by simp; omega
    go_wp2
    refine bodyPost_ret (v := .tuple #[.agg #[.int .i64 0, .int .i64 0, .slice none 0 0, .slice none 0 0, .int .i64 0, .int .i64 0, .slice none 0 0], .int .i64 4]) (by simp [results, Tryd.results25, go_sem, p0, p1, p2, p3, p4, p5, p6]) rfl ?_
    exact dfin_err (by omega) L4.out

set_option maxHeartbeats 1600000 in
theorem rof_ok (W H : Nat) (b o cap : Nat) (f : Nat → Bool) (w : World) (hr : Holds w w.heap.size (some ⟨b, o, none⟩) (W * H) f) (hcap : W * H ≤ cap) (hW0 : 1 ≤ W) (hW : W ≤ 64) (hH0 : 1 ≤ H) (hH : H ≤ 64) (hm : ¬ (40 < nd (rc H (tnf W H f)) W ∨ 40 < nd (rc W f) H)) :
    Calls Tryd.prog 25 #[.agg #[.int .i64 W, .int .i64 H, .slice (some ⟨b, o, none⟩) (W * H) cap]] w (OkDr w (ofp W H f)) := by
  have L0 := Lib.hid (show Below w.heap.size w ((w.alloc (.cells #[.int .i64 W, .int .i64 H, .slice (some ⟨b, o, none⟩) (W * H) cap] 25)).alloc (.cells #[.int .i64 0, .int .i64 0, .slice none 0 0, .slice none 0 0, .int .i64 0, .int .i64 0, .slice none 0 0] 27)) from ((Below.refl _ _).alloc (Nat.le_refl _) _).alloc (by simp) _)
  have X0 := Lib.hid ((Box.new w W H (.slice (some ⟨b, o, none⟩) (W * H) cap)).alloc (.cells #[.int .i64 0, .int .i64 0, .slice none 0 0, .slice none 0 0, .int .i64 0, .int .i64 0, .slice none 0 0] 27))
  have hck : chk (W : Int) (H : Int) (W * H) = 0 := fchk_ok hW0 hW hH0 hH
  have HC := Lib.hid (fun v => rgchk W H (some ⟨b, o, none⟩) (W * H) cap v 0 (Nat.le_trans (Nat.mul_le_mul hW hH) (by omega)) hck)
  have HT := Lib.hid (fun v (h : Below w.heap.size w v) => turned_any W H (some ⟨b, o, none⟩) cap f v ((hr.below h).more h.size) hW0 hW hH0 hH)
  have HK := Lib.hid (fun v (h : Below w.heap.size w v) => rkinds_any W H (some ⟨b, o, none⟩) cap f v.heap.size v ((hr.below h).more h.size) (Nat.le_refl _) hW hH)
  have HK2 := Lib.hid (fun v (k : Nat) (h : Row v k (H * W) (tnf W H f)) => rkinds_any H W (some ⟨k, 0, none⟩) (H * W) (tnf W H f) v.heap.size v (h.holds h.lt) (Nat.le_refl _) hH hW)
  have Z0 : Hid (DBox ((w.alloc (.cells #[.int .i64 W, .int .i64 H, .slice (some ⟨b, o, none⟩) (W * H) cap] 25)).alloc (.cells #[.int .i64 0, .int .i64 0, .slice none 0 0, .slice none 0 0, .int .i64 0, .int .i64 0, .slice none 0 0] 27)) (w.heap.size + 1) Dr.zero) := Lib.hid (by
    have h := DBox.new (w.alloc (.cells #[.int .i64 W, .int .i64 H, .slice (some ⟨b, o, none⟩) (W * H) cap] 25)) Dr.zero
    simp only [World.size_alloc] at h
    exact h)
  have hs0 : ((w.alloc (.cells #[.int .i64 W, .int .i64 H, .slice (some ⟨b, o, none⟩) (W * H) cap] 25)).alloc (.cells #[.int .i64 0, .int .i64 0, .slice none 0 0, .slice none 0 0, .int .i64 0, .int .i64 0, .slice none 0 0] 27)).heap.size = w.heap.size + 2 := by simp
  have HR := Lib.hid hr
  obtain ⟨cx, hcx⟩ : ∃ cx, rc H (tnf W H f) = cx := ⟨_, rfl⟩
  obtain ⟨cy, hcy⟩ : ∃ cy, rc W f = cy := ⟨_, rfl⟩
  clear hr hcap hck
  go_enter Tryd.func25, Tryd.ntmps25
  obtain ⟨q0, q1, q2, q3, q4, q5, q6⟩ := X0.out.all
  go_wp2_with fail
  clear q0 q1 q2 q3 q4 q5 q6
  generalize (w.alloc (.cells #[.int .i64 W, .int .i64 H, .slice (some ⟨b, o, none⟩) (W * H) cap] 25)).alloc (.cells #[.int .i64 0, .int .i64 0, .slice none 0 0, .slice none 0 0, .int .i64 0, .int .i64 0, .slice none 0 0] 27) = v0 at *
  refine (HC.out _).mono ?_
  rintro e w1 ⟨rfl, hb⟩
  have X1 := Lib.hid (X0.out.below hb X0.out.lt)
  have Z1 := Lib.hid (Z0.out.next hb)
  have L1 := Lib.hid (L0.out.trans (hb.mono L0.out.size))
  have hz1 := hb.size
  clear hb X0 L0 Z0
  obtain ⟨q0, q1, q2, q3, q4, q5, q6⟩ := X1.out.all
  go_wp2_with fail
  clear q0 q1 q2 q3 q4 q5 q6
  refine (HT.out _ L1.out).mono ?_
  rintro e w2 ⟨k, rfl, hk, hrow, hb⟩
  have X2 := Lib.hid (X1.out.below hb X1.out.lt)
  have Z2 := Lib.hid (Z1.out.next hb)
  have L2' := Lib.hid (L1.out.trans (hb.mono L1.out.size))
  have HKR := Lib.hid (HK2.out w2 k hrow)
  have hz2 := hb.size
  clear hb X1 L1 Z1 hrow hk
  go_wp2_with fail
  refine HKR.out.mono ?_
  rintro e w3 ⟨A1, c1, A2, c2, rfl, hr1, hr2, hb⟩
  obtain ⟨S, hS⟩ : ∃ S, nd cx W = S := ⟨_, rfl⟩
  obtain ⟨T, hT⟩ : ∃ T, nd cy H = T := ⟨_, rfl⟩
  rw [hcx] at hr1 hr2 hm ⊢
  rw [hcy] at hm
  rw [hS] at hr2 hm ⊢
  rw [hT] at hm
  have HSE := Lib.hid hS
  have HTE := Lib.hid hT
  have hS64 : S ≤ 64 := by rw [← hS]; exact Nat.le_trans (L2.nd_le _ _) hW
  have hT64 : T ≤ 64 := by rw [← hT]; exact Nat.le_trans (L2.nd_le _ _) hH
  have hS0 : 1 ≤ S := by rw [← hS]; exact nd_pos _ _ hW0
  have hT0 : 1 ≤ T := by rw [← hT]; exact nd_pos _ _ hH0
  have X3 := Lib.hid (X2.out.below hb X2.out.lt)
  have Z3 := Lib.hid (Z2.out.next hb)
  have L3 := Lib.hid (L2'.out.trans (hb.mono L2'.out.size))
  have HR1 := Lib.hid (hr1 hW0)
  have HR2 := Lib.hid (hr2 hS0)
  have hz3 := hb.size
  clear hb hr1 hr2 X2 Z2 L2' HKR
  obtain ⟨q0, q1, q2, q3, q4, q5, q6⟩ := X3.out.all
  go_wp2_with fail
  clear q0 q1 q2 q3 q4 q5 q6
  refine (HK.out _ L3.out).mono ?_
  rintro e w4 ⟨A3, c3, A4, c4, rfl, hr3, hr4, hb⟩
  rw [hcy] at hr3 hr4 ⊢
  rw [hT] at hr4 ⊢
  have X4 := Lib.hid (X3.out.below hb X3.out.lt)
  have Z4 := Lib.hid (Z3.out.next hb)
  have L4 := Lib.hid (L3.out.trans (hb.mono L3.out.size))
  have HR3 := Lib.hid (hr3 hH0)
  have HR4 := Lib.hid (hr4 hT0)
  have HB34 := Lib.hid hb
  have hz4 := hb.size
  clear hb hr3 hr4 X3 Z3 hS hT
  have d1 : decide ((40 : Int) < (S : Int)) = false := by simp; omega
  have d2 : decide ((40 : Int) < (T : Int)) = false := by simp; omega
  obtain ⟨q1, rfl, hq1, row1⟩ := HR1.out
  obtain ⟨q2, rfl, hq2, row2⟩ := HR2.out
  obtain ⟨q3, rfl, hq3, row3⟩ := HR3.out
  obtain ⟨q4, rfl, hq4, row4⟩ := HR4.out
  have hl1 := row1.lt
  have hl2 := row2.lt
  have hl3 := row3.lt
  have hl4 := row4.lt
  have r1 := Lib.hid (row1.below HB34.out hl1)
  have r2 := Lib.hid (row2.below HB34.out hl2)
  have r3 := Lib.hid row3
  have r4 := Lib.hid row4
  clear row1 row2 row3 row4
  go_wp2_with fail
  refine (zero_int T S T S rfl rfl hT64 hS64 w4).mono ?_
  rintro e w5 ⟨kt, rfl, hkt, hrow, hb⟩
  have hkl := hrow.lt
  have hbv : Below w5.heap.size w5 (w5.alloc (.cells #[.int .i64 S, .int .i64 T, .slice (some ⟨q1, 0, none⟩) W c1, .slice (some ⟨q3, 0, none⟩) H c3, .int .i64 T, .int .i64 S, .slice (some ⟨kt, 0, none⟩) (T * S) (T * S)] 27)) := (Below.refl _ _).alloc (Nat.le_refl _) _
  have hb2 : Below w4.heap.size w4 (w5.alloc (.cells #[.int .i64 S, .int .i64 T, .slice (some ⟨q1, 0, none⟩) W c1, .slice (some ⟨q3, 0, none⟩) H c3, .int .i64 T, .int .i64 S, .slice (some ⟨kt, 0, none⟩) (T * S) (T * S)] 27)) := hb.trans (hbv.mono hb.size)
  have X6 := Lib.hid (X4.out.below hb2 X4.out.lt)
  have Z6 := Lib.hid (Z4.out.next hb2)
  have L6 := Lib.hid (L4.out.trans (hb2.mono L4.out.size))
  have r1' := Lib.hid (r1.out.below hb2 (by omega))
  have r2' := Lib.hid (r2.out.below hb2 (by omega))
  have r3' := Lib.hid (r3.out.below hb2 hl3)
  have r4' := Lib.hid (r4.out.below hb2 hl4)
  have J6 := Lib.hid (show DBox (w5.alloc (.cells #[.int .i64 S, .int .i64 T, .slice (some ⟨q1, 0, none⟩) W c1, .slice (some ⟨q3, 0, none⟩) H c3, .int .i64 T, .int .i64 S, .slice (some ⟨kt, 0, none⟩) (T * S) (T * S)] 27)) w5.heap.size ⟨S, T, some ⟨q1, 0, none⟩, W, c1, some ⟨q3, 0, none⟩, H, c3, T, S, some ⟨kt, 0, none⟩, T * S, T * S, fun _ => 0, fun _ => 0, fun _ => false⟩ from DBox.new w5 ⟨S, T, some ⟨q1, 0, none⟩, W, c1, some ⟨q3, 0, none⟩, H, c3, T, S, some ⟨kt, 0, none⟩, T * S, T * S, fun _ => 0, fun _ => 0, fun _ => false⟩)
  have R6 := Lib.hid (hrow.alloc (.cells #[.int .i64 S, .int .i64 T, .slice (some ⟨q1, 0, none⟩) W c1, .slice (some ⟨q3, 0, none⟩) H c3, .int .i64 T, .int .i64 S, .slice (some ⟨kt, 0, none⟩) (T * S) (T * S)] 27))
  have hz5 := hb.size
  have hz6 : (w5.alloc (.cells #[.int .i64 S, .int .i64 T, .slice (some ⟨q1, 0, none⟩) W c1, .slice (some ⟨q3, 0, none⟩) H c3, .int .i64 T, .int .i64 S, .slice (some ⟨kt, 0, none⟩) (T * S) (T * S)] 27)).heap.size = w5.heap.size + 1 := by simp
  have hNk := Lib.hid (show w.heap.size ≠ kt by omega)
  have hZk := Lib.hid (show w.heap.size + 1 ≠ kt by omega)
  have hJk := Lib.hid (show w5.heap.size ≠ kt by omega)
  have hk1 := Lib.hid (show q1 ≠ kt by omega)
  have hk2 := Lib.hid (show q2 ≠ kt by omega)
  have hk3 := Lib.hid (show q3 ≠ kt by omega)
  have hk4 := Lib.hid (show q4 ≠ kt by omega)
  have m1 : w.heap.size + 2 ≤ q1 := by omega
  have m3 : w.heap.size + 2 ≤ q3 := by omega
  have mk : w.heap.size + 2 ≤ kt := by omega
  have HFX := Lib.hid (fun x (hx : x < S) => (frn_spec cx W x (by rw [HSE.out]; exact hx)).1)
  have HFY := Lib.hid (fun x (hx : x < T) => (frn_spec cy H x (by rw [HTE.out]; exact hx)).1)
  clear hb hbv hb2 hrow r1 r2 r3 r4 HR1 HR2 HR3 HR4 X4 Z4
  go_wp2
  generalize w5.alloc (.cells #[.int .i64 S, .int .i64 T, .slice (some ⟨q1, 0, none⟩) W c1, .slice (some ⟨q3, 0, none⟩) H c3, .int .i64 T, .int .i64 S, .slice (some ⟨kt, 0, none⟩) (T * S) (T * S)] 27) = wc at *
  go_loopw [9] (fun i wr => ∃ x : Nat, x ≤ T ∧ i = .int .i64 x ∧ Hid (Lp kt wc wr (T * S) (cp (· % T) (· / T) (fun t s => f (frn cy H t * W + frn cx W s)) x 0))) (fun i _ => T - (intOf i).toNat)
  case atStart => exact ⟨0, Nat.zero_le _, rfl, Lib.hid ⟨But.refl _ _, R6.out.congr fun i _ => by rw [cp_zero]⟩⟩
  case round =>
    obtain ⟨x, hx, rfl, hlp⟩ := hrel
    have LP := Lib.hid hlp.out
    clear hlp
    obtain ⟨wo, rfl⟩ : ∃ wo : World, wo = wr := ⟨_, rfl⟩
    by_cases hlx : x < T
    · have y1 : decide ((x : Int) < (T : Int)) = true := by simp; omega
      go_wp2
      go_loopw [10] (fun i wr => ∃ y : Nat, y ≤ S ∧ i = .int .i64 y ∧ Hid (Lp kt wc wr (T * S) (cp (· % T) (· / T) (fun t s => f (frn cy H t * W + frn cx W s)) x y))) (fun i _ => S - (intOf i).toNat)
      case atStart => exact ⟨0, Nat.zero_le _, rfl, LP⟩
      case round =>
        obtain ⟨y, hy, rfl, hlq⟩ := hrel
        have LQ := Lib.hid hlq.out
        clear hlq
        by_cases hly : y < S
        · have y2 : decide ((y : Int) < (S : Int)) = true := by simp; omega
          obtain ⟨px, hpx⟩ : ∃ px, frn cx W y = px := ⟨_, rfl⟩
          obtain ⟨py, hpy⟩ : ∃ py, frn cy H x = py := ⟨_, rfl⟩
          have HPX := Lib.hid hpx
          have HPY := Lib.hid hpy
          have hpW : px < W := by rw [← hpx]; exact HFX.out y hly
          have hpH : py < H := by rw [← hpy]; exact HFY.out x hlx
          have HS : Hid (∀ w', But kt wc w' → w'.cell? ⟨w.heap.size, 0, none⟩ = some (.int .i64 W) ∧ w'.cell? ⟨w.heap.size, 1, none⟩ = some (.int .i64 H) ∧ w'.cell? ⟨w.heap.size, 2, none⟩ = some (.slice (some ⟨b, o, none⟩) (W * H) cap) ∧ w'.cell? ⟨w5.heap.size, 4, none⟩ = some (.int .i64 T) ∧ w'.cell? ⟨w5.heap.size, 5, none⟩ = some (.int .i64 S) ∧ w'.cell? ⟨w5.heap.size, 6, none⟩ = some (.slice (some ⟨kt, 0, none⟩) (T * S) (T * S)) ∧ w'.cell? ⟨q2, y, none⟩ = some (.int .i64 px) ∧ w'.cell? ⟨q4, x, none⟩ = some (.int .i64 py)) := Lib.hid (fun w' h => by
            have z1 := h.box X6.out hNk.out
            have z2 := (h.dbox J6.out hJk.out).all
            have z3 := (h.irow_ r2'.out hk2.out).cell hly
            have z4 := (h.irow_ r4'.out hk4.out).cell hlx
            rw [HPX.out] at z3
            rw [HPY.out] at z4
            exact ⟨z1.c0, z1.c1, z1.c2, z2.2.2.2.2.1, z2.2.2.2.2.2.1, z2.2.2.2.2.2.2.1, z3, z4⟩)
          have HA := Lib.hid (fun w' (h : But kt wc w') => (show Calls Tryd.prog 50 #[.agg #[.int .i64 W, .int .i64 H, .slice (some ⟨b, o, none⟩) (W * H) cap], .int .i64 (px : Nat), .int .i64 (py : Nat)] w' (fun e w'' => e = .returned (.bool (f (py * W + px))) ∧ Below w'.heap.size w' w'') from
            at_nat W H (some ⟨b, o, none⟩) cap (px : Nat) (py : Nat) f w' w.heap.size (h.holds (HR.out.below L6.out) (by omega) L6.out.size) (Nat.le_trans L6.out.size h.size) hW hH px py rfl rfl hpW hpH))
          have B1 := Lib.hid (LQ.out.but.trans (But.of ((Below.refl wr.heap.size wr).drew) kt))
          have hs1 := HS.out _ B1.out
          have x1 : (0 : Int) ≤ (x : Int) := by omega
          have x2 : (x : Int) < (T : Int) := by omega
          have x3 : (y : Int) < (S : Int) := by omega
          have hdr := Lib.hid (LQ.out.next ((Below.refl wr.heap.size wr).drew))
          have hfe := Lib.hid (show f (frn cy H x * W + frn cx W y) = f (py * W + px) by rw [hpx, hpy])
          clear hpx hpy
          go_wp2
          go_region_held3 (fun w' => w'.cell? ⟨w.heap.size, 0, none⟩ = some (.int .i64 W) ∧ w'.cell? ⟨w.heap.size, 1, none⟩ = some (.int .i64 H) ∧ w'.cell? ⟨w.heap.size, 2, none⟩ = some (.slice (some ⟨b, o, none⟩) (W * H) cap) ∧ w'.cell? ⟨w5.heap.size, 4, none⟩ = some (.int .i64 T) ∧ w'.cell? ⟨w5.heap.size, 5, none⟩ = some (.int .i64 S) ∧ w'.cell? ⟨w5.heap.size, 6, none⟩ = some (.slice (some ⟨kt, 0, none⟩) (T * S) (T * S)) ∧ w'.cell? ⟨q2, y, none⟩ = some (.int .i64 px) ∧ w'.cell? ⟨q4, x, none⟩ = some (.int .i64 py))
            (first
              | with_reducible exact hs1
              | with_reducible exact hs2
              | with_reducible exact hs3)
            (first
              | (go_at_call 50
                 with_reducible refine Calls.mono (HA.out _ B1.out) ?_
                 rintro e u ⟨rfl, hbu⟩
                 have LU := Lib.hid (hdr.out.next hbu)
                 have hs2 := HS.out _ LU.out.but)
              | (go_at_call 49
                 refine (set_nat T S kt (T * S) x y _ _ _ LU.out.row (by omega) (by omega) x y rfl rfl hlx hly).mono ?_
                 rintro e v ⟨rfl, hrv, hbv⟩
                 have LV := Lib.hid (LU.out.wrote hbv hrv)
                 have hs3 := HS.out _ LV.out.but))
          all_goals
            go_wp2
            refine ⟨⟨y + 1, by omega, by go_num, Lib.hid (LV.out.congr fun i hi => ?_)⟩, by simp [intOf]; omega⟩
            rw [← hfe.out]
            exact cp_succ (G := (fun t s => f (frn cy H t * W + frn cx W s))) (plain_at hlx hi)
        · have e : y = S := by omega
          subst e
          have y2 : decide ((y : Int) < (y : Int)) = false := by simp
          go_wp2
          exact ⟨⟨x + 1, by omega, by go_num, Lib.hid (LQ.out.congr fun i hi => cp_next (div_bd hi))⟩, by simp [intOf]; omega⟩
    · have e : x = T := by omega
      have y1 : decide ((x : Int) < (T : Int)) = false := by simp; omega
      have JO := Lib.hid (LP.out.but.dbox J6.out hJk.out)
      have ZO := Lib.hid (LP.out.but.dbox Z6.out hZk.out)
      have tt := ZO.out.all
      have zf := ZO.out.frees
      simp only [Dr.zero] at tt
      obtain ⟨t0, t1, t2, t3, t4, t5, t6, t7⟩ := tt
      obtain ⟨g0, g1, g2, g3, g4, g5, g6⟩ := zf
      have rr := JO.out.all
      dsimp only at rr
      obtain ⟨u0, u1, u2, u3, u4, u5, u6, u7⟩ := rr
      have hT : (ofp W H f).T = T := by show nd (rc W f) H = T; rw [hcy, HTE.out]
      have hS : (ofp W H f).S = S := by show nd (rc H (tnf W H f)) W = S; rw [hcx, HSE.out]
      have HR3 : Hid (Rows3 wo (w.heap.size + 2) (ofp W H f) q1 q3 kt) := Lib.hid ⟨m1, m3, mk,
        (LP.out.but.irow_ r1'.out hk1.out).congr fun i hi => by show _ = (((ren (rc H (tnf W H f)) i).toNat : Nat) : Int); rw [hcx]; exact (ren_nat cx W i hi).symm,
        (LP.out.but.irow_ r3'.out hk3.out).congr fun i hi => by show _ = (((ren (rc W f) i).toNat : Nat) : Int); rw [hcy]; exact (ren_nat cy H i hi).symm,
        by
          rw [hT, hS]
          exact LP.out.row.congr fun i hi => by
            rw [e]
            show _ = f (frn (rc W f) H (i % T) * W + frn (rc H (tnf W H f)) W (i / T))
            rw [hcx, hcy]
            exact cp_all (Nat.mod_lt _ hT0)⟩
      have HBE := Lib.hid (LP.out.but.below (w0 := w) L6.out (by omega))
      have HOK : Hid (∀ wf, wf = (((((((wo.setCell ⟨w.heap.size + 1, 0, none⟩ (.int .i64 S)).setCell ⟨w.heap.size + 1, 1, none⟩ (.int .i64 T)).setCell ⟨w.heap.size + 1, 2, none⟩ (.slice (some ⟨q1, 0, none⟩) W c1)).setCell ⟨w.heap.size + 1, 3, none⟩ (.slice (some ⟨q3, 0, none⟩) H c3)).setCell ⟨w.heap.size + 1, 4, none⟩ (.int .i64 T)).setCell ⟨w.heap.size + 1, 5, none⟩ (.int .i64 S)).setCell ⟨w.heap.size + 1, 6, none⟩ (.slice (some ⟨kt, 0, none⟩) (T * S) (T * S))) → OkDr w (ofp W H f) (.returned (.tuple #[.agg #[.int .i64 S, .int .i64 T, .slice (some ⟨q1, 0, none⟩) W c1, .slice (some ⟨q3, 0, none⟩) H c3, .int .i64 T, .int .i64 S, .slice (some ⟨kt, 0, none⟩) (T * S) (T * S)], .int .i64 0])) wf) := Lib.hid (by
        rintro wf rfl
        refine ⟨q1, c1, q3, c3, kt, T * S, ?_, (set7_rows (by omega) HR3.out).lower (by omega), set7_below (by omega) HBE.out⟩
        rw [hT, hS]
        rfl)
      clear hT hS t7 u7
      go_wp2
      refine bodyPost_ret (v := .tuple #[.agg #[.int .i64 S, .int .i64 T, .slice (some ⟨q1, 0, none⟩) W c1, .slice (some ⟨q3, 0, none⟩) H c3, .int .i64 T, .int .i64 S, .slice (some ⟨kt, 0, none⟩) (T * S) (T * S)], .int .i64 0]) (by simp [results, Tryd.results25, go_sem, t0, t1, t2, t3, t4, t5, t6]) rfl ?_
      exact HOK.out _ rfl
end Go.Proofs.YtbafhdinalapoaaDoor
