/- The program's Of, of any grid. -/
import Derived.Test.YtbafhdinalapoaaDoorFtie
import Derived.Test.YtbafhdinalapoaaDoorFa
import Derived.Deep.QuietTactic
import Derived.Deep.RegionHeld3
namespace Go.Proofs.YtbafhdinalapoaaDoor
open Go.RowKit
set_option linter.unusedVariables false
set_option linter.unusedSimpArgs false
set_option maxRecDepth 100000

open L2 (nd ren)
/-- What the listed variable holds: the two numbers of its initialiser. -/
structure Env (w : World) : Prop where
  lo : 0 < w.heap.size
  c0 : w.cell? ⟨0, 0, none⟩ = some (.int .i64 40)
  c1 : w.cell? ⟨0, 1, none⟩ = some (.int .i64 40)
theorem Env.below {B : Nat} {w w' : World} (h : Env w) (hB : 0 < B) (hb : Below B w w') : Env w' :=
  ⟨Nat.lt_of_lt_of_le h.lo hb.size, (hb.cell (p := ⟨0, 0, none⟩) hB).trans h.c0, (hb.cell (p := ⟨0, 1, none⟩) hB).trans h.c1⟩
theorem Env.next {w w' : World} (h : Env w) (hb : Below w.heap.size w w') : Env w' := h.below h.lo hb
theorem ren_nat (c : Nat → Int) (m y : Nat) (hy : y < m) : (((ren c y).toNat : Nat) : Int) = ren c y := by
  obtain ⟨k, h1, _⟩ := ren_at c m y hy
  rw [h1]; omega
/-- The least draft of a grid. -/
def ofp (W H : Nat) (f : Nat → Bool) : PD := ⟨nd (rc H (tnf W H f)) W, nd (rc W f) H, W, H, fun i => (ren (rc H (tnf W H f)) i).toNat, fun i => (ren (rc W f) i).toNat, fun t s => f (frn (rc W f) H t * W + frn (rc H (tnf W H f)) W s)⟩
theorem ofp_ok {W H : Nat} {f : Nat → Bool} (hW0 : 1 ≤ W) (hW : W ≤ 64) (hH0 : 1 ≤ H) (hH : H ≤ 64) (hS : nd (rc H (tnf W H f)) W ≤ 40) (hT : nd (rc W f) H ≤ 40) : (ofp W H f).Ok := by
  refine ⟨nd_pos _ _ hW0, hS, nd_pos _ _ hH0, hT, hW0, hW, hH0, hH, fun i hi => ?_, fun i hi => ?_⟩
  · obtain ⟨k, h1, h2, _⟩ := ren_at (rc H (tnf W H f)) W i hi
    show (ren (rc H (tnf W H f)) i).toNat < nd (rc H (tnf W H f)) W
    rw [h1]; omega
  · obtain ⟨k, h1, h2, _⟩ := ren_at (rc W f) H i hi
    show (ren (rc W f) i).toNat < nd (rc W f) H
    rw [h1]; omega

set_option maxHeartbeats 800000 in
theorem of_err (W H : Int) (A : Option Addr) (n c : Nat) (w : World) (err : Int) (hn : n ≤ 4200) (hx : chk W H n = err) (hne : (err != 0) = true) :
    Calls Tryd.prog 9 #[.agg #[.int .i64 W, .int .i64 H, .slice A n c]] w (ErrDr w err) := by
  have L0 := Lib.hid (show Below w.heap.size w ((w.alloc (.cells #[.int .i64 W, .int .i64 H, .slice A n c] 25)).alloc (.cells #[.int .i64 0, .int .i64 0, .slice none 0 0, .slice none 0 0, .int .i64 0, .int .i64 0, .slice none 0 0] 27)) from ((Below.refl _ _).alloc (Nat.le_refl _) _).alloc (by simp) _)
  have HC := Lib.hid (sorted_err W H A n c ((w.alloc (.cells #[.int .i64 W, .int .i64 H, .slice A n c] 25)).alloc (.cells #[.int .i64 0, .int .i64 0, .slice none 0 0, .slice none 0 0, .int .i64 0, .int .i64 0, .slice none 0 0] 27)) err hn hx hne)
  have Z0 : Hid (DBox ((w.alloc (.cells #[.int .i64 W, .int .i64 H, .slice A n c] 25)).alloc (.cells #[.int .i64 0, .int .i64 0, .slice none 0 0, .slice none 0 0, .int .i64 0, .int .i64 0, .slice none 0 0] 27)) (w.heap.size + 1) Dr.zero) := Lib.hid (by
    have h := DBox.new (w.alloc (.cells #[.int .i64 W, .int .i64 H, .slice A n c] 25)) Dr.zero
    simp only [World.size_alloc] at h
    exact h)
  clear hx
  go_enter Tryd.func9, Tryd.ntmps9
  go_wp2_with fail
  generalize (w.alloc (.cells #[.int .i64 W, .int .i64 H, .slice A n c] 25)).alloc (.cells #[.int .i64 0, .int .i64 0, .slice none 0 0, .slice none 0 0, .int .i64 0, .int .i64 0, .slice none 0 0] 27) = v0 at *
  refine HC.out.mono ?_
  rintro e w1 ⟨rfl, hb⟩
  have L1 := Lib.hid (L0.out.trans (hb.mono L0.out.size))
  have HB := Lib.hid (L1.out.alloc L1.out.size (.cells #[.slice none 0 0, .slice none 0 0, .slice none 0 0, .slice none 0 0] 65))
  have z := ((Z0.out.next hb).alloc (.cells #[.slice none 0 0, .slice none 0 0, .slice none 0 0, .slice none 0 0] 65)).all
  have zf := ((Z0.out.next hb).alloc (.cells #[.slice none 0 0, .slice none 0 0, .slice none 0 0, .slice none 0 0] 65)).frees
  obtain ⟨y0, y1, y2, y3, y4, y5, y6, y7, y8⟩ := (Q4.new w1 (.slice none 0 0) (.slice none 0 0) (.slice none 0 0) (.slice none 0 0)).all
  simp only [Dr.zero] at z
  obtain ⟨p0, p1, p2, p3, p4, p5, p6, p7⟩ := z
  obtain ⟨f0, f1, f2, f3, f4, f5, f6⟩ := zf
  clear hb Z0
  go_wp2
  refine bodyPost_ret (v := .tuple #[.agg #[.int .i64 0, .int .i64 0, .slice none 0 0, .slice none 0 0, .int .i64 0, .int .i64 0, .slice none 0 0], .int .i64 err]) (by simp [results, Tryd.results9, go_sem, p0, p1, p2, p3, p4, p5, p6]) rfl ?_
  exact dfin_err (by omega) HB.out

set_option maxHeartbeats 800000 in
theorem of_many (W H : Nat) (b o cap : Nat) (f : Nat → Bool) (w : World) (hE : Env w) (hr : Holds w w.heap.size (some ⟨b, o, none⟩) (W * H) f) (hcap : W * H ≤ cap) (hW0 : 1 ≤ W) (hW : W ≤ 64) (hH0 : 1 ≤ H) (hH : H ≤ 64) (hm : 40 < nd (rc H (tnf W H f)) W ∨ 40 < nd (rc W f) H) :
    Calls Tryd.prog 9 #[.agg #[.int .i64 W, .int .i64 H, .slice (some ⟨b, o, none⟩) (W * H) cap]] w (ErrDr w 4) := by
  have L0 := Lib.hid (show Below w.heap.size w ((w.alloc (.cells #[.int .i64 W, .int .i64 H, .slice (some ⟨b, o, none⟩) (W * H) cap] 25)).alloc (.cells #[.int .i64 0, .int .i64 0, .slice none 0 0, .slice none 0 0, .int .i64 0, .int .i64 0, .slice none 0 0] 27)) from ((Below.refl _ _).alloc (Nat.le_refl _) _).alloc (by simp) _)
  have G0 := Lib.hid ((Box.new w W H (.slice (some ⟨b, o, none⟩) (W * H) cap)).alloc (.cells #[.int .i64 0, .int .i64 0, .slice none 0 0, .slice none 0 0, .int .i64 0, .int .i64 0, .slice none 0 0] 27))
  have HS := Lib.hid (sorted_ok W H b o cap f _ ((hr.below L0.out).more L0.out.size) hcap hW0 hW hH0 hH)
  have Z0 : Hid (DBox ((w.alloc (.cells #[.int .i64 W, .int .i64 H, .slice (some ⟨b, o, none⟩) (W * H) cap] 25)).alloc (.cells #[.int .i64 0, .int .i64 0, .slice none 0 0, .slice none 0 0, .int .i64 0, .int .i64 0, .slice none 0 0] 27)) (w.heap.size + 1) Dr.zero) := Lib.hid (by
    have h := DBox.new (w.alloc (.cells #[.int .i64 W, .int .i64 H, .slice (some ⟨b, o, none⟩) (W * H) cap] 25)) Dr.zero
    simp only [World.size_alloc] at h
    exact h)
  have hs0 : ((w.alloc (.cells #[.int .i64 W, .int .i64 H, .slice (some ⟨b, o, none⟩) (W * H) cap] 25)).alloc (.cells #[.int .i64 0, .int .i64 0, .slice none 0 0, .slice none 0 0, .int .i64 0, .int .i64 0, .slice none 0 0] 27)).heap.size = w.heap.size + 2 := by simp
  have HR := Lib.hid hr
  have HE := Lib.hid (fun v (h : Below w.heap.size w v) => hE.next h)
  have HELO := hE.lo
  obtain ⟨cx, hcx⟩ : ∃ cx, rc H (tnf W H f) = cx := ⟨_, rfl⟩
  obtain ⟨cy, hcy⟩ : ∃ cy, rc W f = cy := ⟨_, rfl⟩
  clear hr hcap hE
  go_enter Tryd.func9, Tryd.ntmps9
  go_wp2_with fail
  generalize (w.alloc (.cells #[.int .i64 W, .int .i64 H, .slice (some ⟨b, o, none⟩) (W * H) cap] 25)).alloc (.cells #[.int .i64 0, .int .i64 0, .slice none 0 0, .slice none 0 0, .int .i64 0, .int .i64 0, .slice none 0 0] 27) = v0 at *
  refine HS.out.mono ?_
  rintro e w1 ⟨A1, c1, A2, c2, A3, c3, A4, c4, rfl, hr1, hr2, hr3, hr4, hb⟩
  rw [hcx] at hr1 hr2 hm ⊢
  rw [hcy] at hr3 hr4 hm ⊢
  obtain ⟨S, hS⟩ : ∃ S, nd cx W = S := ⟨_, rfl⟩
  obtain ⟨T, hT⟩ : ∃ T, nd cy H = T := ⟨_, rfl⟩
  have HSE := Lib.hid hS
  have HTE := Lib.hid hT
  have hS64 : S ≤ 64 := by rw [← hS]; exact Nat.le_trans (L2.nd_le _ _) hW
  have hT64 : T ≤ 64 := by rw [← hT]; exact Nat.le_trans (L2.nd_le _ _) hH
  have hS0 : 1 ≤ S := by rw [← hS]; exact nd_pos _ _ hW0
  have hT0 : 1 ≤ T := by rw [← hT]; exact nd_pos _ _ hH0
  rw [hS] at hr2 hm ⊢
  rw [hT] at hr4 hm ⊢
  have Y0 := Lib.hid (Q4.new w1 (.slice A1 W c1) (.slice A2 S c2) (.slice A3 H c3) (.slice A4 T c4))
  have hbv : Below w1.heap.size w1 (w1.alloc (.cells #[.slice A1 W c1, .slice A2 S c2, .slice A3 H c3, .slice A4 T c4] 65)) := (Below.refl _ _).alloc (Nat.le_refl _) _
  have hb2 : Below v0.heap.size v0 (w1.alloc (.cells #[.slice A1 W c1, .slice A2 S c2, .slice A3 H c3, .slice A4 T c4] 65)) := hb.trans (hbv.mono hb.size)
  have G1 := Lib.hid (G0.out.below hb2 G0.out.lt)
  have Z1 := Lib.hid (Z0.out.next hb2)
  have L1 := Lib.hid (L0.out.trans (hb2.mono L0.out.size))
  have HR1 := Lib.hid (hr1 hW0)
  have HR2 := Lib.hid (hr2 hS0)
  have HR3 := Lib.hid (hr3 hH0)
  have HR4 := Lib.hid (hr4 hT0)
  have hw1s : w.heap.size + 2 ≤ w1.heap.size := by have := hb.size; omega
  have hsv : (w1.alloc (.cells #[.slice A1 W c1, .slice A2 S c2, .slice A3 H c3, .slice A4 T c4] 65)).heap.size = w1.heap.size + 1 := by simp
  have HBV := Lib.hid hbv
  clear hr1 hr2 hr3 hr4 hb hb2 hbv G0 Z0 HS hS hT
  have z := Y0.out.all
  obtain ⟨y0, y1, y2, y3, y4, y5, y6, y7, y8⟩ := z
  go_upto_region 4 with fail
  clear y0 y1 y2 y3 y4 y5 y6 y7 y8
  generalize w1.alloc (.cells #[.slice A1 W c1, .slice A2 S c2, .slice A3 H c3, .slice A4 T c4] 65) = v at *
  go_wp2
  go_loopw [16] (fun i wr => (i = .int .i64 0 ∨ i = .int .i64 1 ∧ ¬ 40 < S) ∧ Hid (Below v.heap.size v wr)) (fun i _ => 2 - (intOf i).toNat)
  case atStart => exact ⟨.inl rfl, Lib.hid (Below.refl _ _)⟩
  case round =>
    obtain ⟨hi, hB⟩ := hrel
    have HERR : Hid (∀ u, Below v.heap.size v u → ErrDr w 4 (.returned (.tuple #[.agg #[.int .i64 0, .int .i64 0, .slice none 0 0, .slice none 0 0, .int .i64 0, .int .i64 0, .slice none 0 0], .int .i64 4])) (((((((u.setCell ⟨w.heap.size + 1, 0, none⟩ (.int .i64 0)).setCell ⟨w.heap.size + 1, 1, none⟩ (.int .i64 0)).setCell ⟨w.heap.size + 1, 2, none⟩ (.slice none 0 0)).setCell ⟨w.heap.size + 1, 3, none⟩ (.slice none 0 0)).setCell ⟨w.heap.size + 1, 4, none⟩ (.int .i64 0)).setCell ⟨w.heap.size + 1, 5, none⟩ (.int .i64 0)).setCell ⟨w.heap.size + 1, 6, none⟩ (.slice none 0 0))) :=
      Lib.hid (fun u h => dfin_err (by omega) (L1.out.trans (h.mono L1.out.size)))
    have hen := HE.out wr (L1.out.trans (hB.out.mono L1.out.size))
    have e0 := hen.c0
    have e1 := hen.c1
    have elo := hen.lo
    obtain ⟨y0, y1, y2, y3, y4, y5, y6, y7, y8⟩ := (Y0.out.below hB.out (by omega)).all
    have z := (Z1.out.next hB.out).all
    have zf := (Z1.out.next hB.out).frees
    simp only [Dr.zero] at z
    obtain ⟨p0, p1, p2, p3, p4, p5, p6, p7⟩ := z
    obtain ⟨f0, f1, f2, f3, f4, f5, f6⟩ := zf
    rcases hi with rfl | ⟨rfl, hi⟩
    · by_cases hb40 : 40 < S
      · have d1 : decide ((40 : Int) < (S : Int)) = true := by simp; omega
        go_wp2_with fail
        go_quiet (fail)
        go_wp2
        refine bodyPost_ret (v := .tuple #[.agg #[.int .i64 0, .int .i64 0, .slice none 0 0, .slice none 0 0, .int .i64 0, .int .i64 0, .slice none 0 0], .int .i64 4]) (by simp [results, Tryd.results9, go_sem, p0, p1, p2, p3, p4, p5, p6]) rfl ?_
        exact HERR.out _ (Go.Proofs.below_drewN' hB.out _)
      · have d1 : decide ((40 : Int) < (S : Int)) = false := by simp; omega
        go_wp2_with fail
        go_quiet (fail)
        go_wp2
        go_roundw
        case rel => exact ⟨.inr ⟨rfl, hb40⟩, Lib.hid (Go.Proofs.below_drewN' hB.out _)⟩
        case measure => simp [intOf]
    · have d1 : decide ((40 : Int) < (T : Int)) = true := by simp; omega
      go_wp2_with fail
      go_quiet (fail)
      go_wp2
      refine bodyPost_ret (v := .tuple #[.agg #[.int .i64 0, .int .i64 0, .slice none 0 0, .slice none 0 0, .int .i64 0, .int .i64 0, .slice none 0 0], .int .i64 4]) (by simp [results, Tryd.results9, go_sem, p0, p1, p2, p3, p4, p5, p6]) rfl ?_
      exact HERR.out _ (Go.Proofs.below_drewN' hB.out _)

set_option maxHeartbeats 1600000 in
theorem of_ok (W H : Nat) (b o cap : Nat) (f : Nat → Bool) (w : World) (hE : Env w) (hr : Holds w w.heap.size (some ⟨b, o, none⟩) (W * H) f) (hcap : W * H ≤ cap) (hW0 : 1 ≤ W) (hW : W ≤ 64) (hH0 : 1 ≤ H) (hH : H ≤ 64) (hm : ¬ (40 < nd (rc H (tnf W H f)) W ∨ 40 < nd (rc W f) H)) :
    Calls Tryd.prog 9 #[.agg #[.int .i64 W, .int .i64 H, .slice (some ⟨b, o, none⟩) (W * H) cap]] w (OkDr w (ofp W H f)) := by
  have L0 := Lib.hid (show Below w.heap.size w ((w.alloc (.cells #[.int .i64 W, .int .i64 H, .slice (some ⟨b, o, none⟩) (W * H) cap] 25)).alloc (.cells #[.int .i64 0, .int .i64 0, .slice none 0 0, .slice none 0 0, .int .i64 0, .int .i64 0, .slice none 0 0] 27)) from ((Below.refl _ _).alloc (Nat.le_refl _) _).alloc (by simp) _)
  have G0 := Lib.hid ((Box.new w W H (.slice (some ⟨b, o, none⟩) (W * H) cap)).alloc (.cells #[.int .i64 0, .int .i64 0, .slice none 0 0, .slice none 0 0, .int .i64 0, .int .i64 0, .slice none 0 0] 27))
  have HS := Lib.hid (sorted_ok W H b o cap f _ ((hr.below L0.out).more L0.out.size) hcap hW0 hW hH0 hH)
  have Z0 : Hid (DBox ((w.alloc (.cells #[.int .i64 W, .int .i64 H, .slice (some ⟨b, o, none⟩) (W * H) cap] 25)).alloc (.cells #[.int .i64 0, .int .i64 0, .slice none 0 0, .slice none 0 0, .int .i64 0, .int .i64 0, .slice none 0 0] 27)) (w.heap.size + 1) Dr.zero) := Lib.hid (by
    have h := DBox.new (w.alloc (.cells #[.int .i64 W, .int .i64 H, .slice (some ⟨b, o, none⟩) (W * H) cap] 25)) Dr.zero
    simp only [World.size_alloc] at h
    exact h)
  have hs0 : ((w.alloc (.cells #[.int .i64 W, .int .i64 H, .slice (some ⟨b, o, none⟩) (W * H) cap] 25)).alloc (.cells #[.int .i64 0, .int .i64 0, .slice none 0 0, .slice none 0 0, .int .i64 0, .int .i64 0, .slice none 0 0] 27)).heap.size = w.heap.size + 2 := by simp
  have HR := Lib.hid hr
  have HE := Lib.hid (fun v (h : Below w.heap.size w v) => hE.next h)
  have HELO := hE.lo
  obtain ⟨cx, hcx⟩ : ∃ cx, rc H (tnf W H f) = cx := ⟨_, rfl⟩
  obtain ⟨cy, hcy⟩ : ∃ cy, rc W f = cy := ⟨_, rfl⟩
  clear hr hcap hE
  go_enter Tryd.func9, Tryd.ntmps9
  go_wp2_with fail
  generalize (w.alloc (.cells #[.int .i64 W, .int .i64 H, .slice (some ⟨b, o, none⟩) (W * H) cap] 25)).alloc (.cells #[.int .i64 0, .int .i64 0, .slice none 0 0, .slice none 0 0, .int .i64 0, .int .i64 0, .slice none 0 0] 27) = v0 at *
  refine HS.out.mono ?_
  rintro e w1 ⟨A1, c1, A2, c2, A3, c3, A4, c4, rfl, hr1, hr2, hr3, hr4, hb⟩
  rw [hcx] at hr1 hr2 hm ⊢
  rw [hcy] at hr3 hr4 hm ⊢
  obtain ⟨S, hS⟩ : ∃ S, nd cx W = S := ⟨_, rfl⟩
  obtain ⟨T, hT⟩ : ∃ T, nd cy H = T := ⟨_, rfl⟩
  have HSE := Lib.hid hS
  have HTE := Lib.hid hT
  have hS64 : S ≤ 64 := by rw [← hS]; exact Nat.le_trans (L2.nd_le _ _) hW
  have hT64 : T ≤ 64 := by rw [← hT]; exact Nat.le_trans (L2.nd_le _ _) hH
  have hS0 : 1 ≤ S := by rw [← hS]; exact nd_pos _ _ hW0
  have hT0 : 1 ≤ T := by rw [← hT]; exact nd_pos _ _ hH0
  rw [hS] at hr2 hm ⊢
  rw [hT] at hr4 hm ⊢
  have Y0 := Lib.hid (Q4.new w1 (.slice A1 W c1) (.slice A2 S c2) (.slice A3 H c3) (.slice A4 T c4))
  have hbv : Below w1.heap.size w1 (w1.alloc (.cells #[.slice A1 W c1, .slice A2 S c2, .slice A3 H c3, .slice A4 T c4] 65)) := (Below.refl _ _).alloc (Nat.le_refl _) _
  have hb2 : Below v0.heap.size v0 (w1.alloc (.cells #[.slice A1 W c1, .slice A2 S c2, .slice A3 H c3, .slice A4 T c4] 65)) := hb.trans (hbv.mono hb.size)
  have G1 := Lib.hid (G0.out.below hb2 G0.out.lt)
  have Z1 := Lib.hid (Z0.out.next hb2)
  have L1 := Lib.hid (L0.out.trans (hb2.mono L0.out.size))
  have HR1 := Lib.hid (hr1 hW0)
  have HR2 := Lib.hid (hr2 hS0)
  have HR3 := Lib.hid (hr3 hH0)
  have HR4 := Lib.hid (hr4 hT0)
  have hw1s : w.heap.size + 2 ≤ w1.heap.size := by have := hb.size; omega
  have hsv : (w1.alloc (.cells #[.slice A1 W c1, .slice A2 S c2, .slice A3 H c3, .slice A4 T c4] 65)).heap.size = w1.heap.size + 1 := by simp
  have HBV := Lib.hid hbv
  clear hr1 hr2 hr3 hr4 hb hb2 hbv G0 Z0 HS hS hT
  have z := Y0.out.all
  obtain ⟨y0, y1, y2, y3, y4, y5, y6, y7, y8⟩ := z
  go_upto_region 4 with fail
  clear y0 y1 y2 y3 y4 y5 y6 y7 y8
  generalize w1.alloc (.cells #[.slice A1 W c1, .slice A2 S c2, .slice A3 H c3, .slice A4 T c4] 65) = v at *
  go_wp2
  go_loopw [16] (fun i wr => (i = .int .i64 0 ∨ i = .int .i64 1 ∨ i = .int .i64 2) ∧ Hid (Below v.heap.size v wr)) (fun i _ => 2 - (intOf i).toNat)
  case atStart => exact ⟨.inl rfl, Lib.hid (Below.refl _ _)⟩
  case round =>
    obtain ⟨hi, hB⟩ := hrel
    have hen := HE.out wr (L1.out.trans (hB.out.mono L1.out.size))
    have e0 := hen.c0
    have e1 := hen.c1
    have elo := hen.lo
    obtain ⟨y0, y1, y2, y3, y4, y5, y6, y7, y8⟩ := (Y0.out.below hB.out (by omega)).all
    have d1 : decide ((40 : Int) < (S : Int)) = false := by simp; omega
    have d2 : decide ((40 : Int) < (T : Int)) = false := by simp; omega
    rcases hi with rfl | rfl | rfl
    · go_wp2_with fail
      go_quiet (fail)
      go_wp2
      go_roundw
      case rel => exact ⟨.inr (.inl rfl), Lib.hid (Go.Proofs.below_drewN' hB.out _)⟩
      case measure => simp [intOf]
    · go_wp2_with fail
      go_quiet (fail)
      go_wp2
      go_roundw
      case rel => exact ⟨.inr (.inr rfl), Lib.hid (Go.Proofs.below_drewN' hB.out _)⟩
      case measure => simp [intOf]
    · clear e0 e1 elo d1 d2 y0 y1 y2 y3 y4 y5 y6 y7 y8 hen
      obtain ⟨q1, rfl, hq1, row1⟩ := HR1.out
      obtain ⟨q2, rfl, hq2, row2⟩ := HR2.out
      obtain ⟨q3, rfl, hq3, row3⟩ := HR3.out
      obtain ⟨q4, rfl, hq4, row4⟩ := HR4.out
      have hQ := Y0.out.below hB.out (by omega)
      have hG := G1.out.below hB.out (by have := G1.out.lt; omega)
      have hZ := Z1.out.next hB.out
      have LB := L1.out.trans (hB.out.mono L1.out.size)
      have HRW := Lib.hid (HR.out.below LB)
      have hwr := hB.out.size
      have r1 := Lib.hid ((row1.below HBV.out row1.lt).below hB.out (by have := row1.lt; omega))
      have r2 := Lib.hid ((row2.below HBV.out row2.lt).below hB.out (by have := row2.lt; omega))
      have r3 := Lib.hid ((row3.below HBV.out row3.lt).below hB.out (by have := row3.lt; omega))
      have r4 := Lib.hid ((row4.below HBV.out row4.lt).below hB.out (by have := row4.lt; omega))
      have HQ := Lib.hid hQ
      have HG := Lib.hid hG
      have HZ := Lib.hid hZ
      have HLB := Lib.hid LB
      have k1 : w.heap.size + 2 ≤ q1 := by omega
      have k3 : w.heap.size + 2 ≤ q3 := by omega
      clear row1 row2 row3 row4 hQ hG hZ LB hB
      go_wp2_with fail
      have HSS : Hid (∀ w', Below wr.heap.size wr w' → (w'.cell? ⟨w.heap.size, 0, none⟩ = some (.int .i64 W) ∧ w'.cell? ⟨w.heap.size, 1, none⟩ = some (.int .i64 H) ∧ w'.cell? ⟨w.heap.size, 2, none⟩ = some (.slice (some ⟨b, o, none⟩) (W * H) cap) ∧ w'.cell? ⟨w1.heap.size, 0, none⟩ = some (.slice (some ⟨q1, 0, none⟩) W c1) ∧ w'.cell? ⟨w1.heap.size, 1, none⟩ = some (.slice (some ⟨q2, 0, none⟩) S c2) ∧ w'.cell? ⟨w1.heap.size, 2, none⟩ = some (.slice (some ⟨q3, 0, none⟩) H c3) ∧ w'.cell? ⟨w1.heap.size, 3, none⟩ = some (.slice (some ⟨q4, 0, none⟩) T c4))) := Lib.hid (fun w' h => by
        have y1 := (HG.out.below h HG.out.lt).all
        have y2 := (HQ.out.below h HQ.out.lt).all
        exact ⟨y1.1, y1.2.1, y1.2.2.1, y2.1, y2.2.1, y2.2.2.1, y2.2.2.2.1⟩)
      have HST : Hid (∀ (w' : World) (a0 a1 a2 a3 a4 a5 a6 : Value), Below wr.heap.size wr w' → ((fun w' => w'.cell? ⟨w.heap.size, 0, none⟩ = some (.int .i64 W) ∧ w'.cell? ⟨w.heap.size, 1, none⟩ = some (.int .i64 H) ∧ w'.cell? ⟨w.heap.size, 2, none⟩ = some (.slice (some ⟨b, o, none⟩) (W * H) cap) ∧ w'.cell? ⟨w1.heap.size, 0, none⟩ = some (.slice (some ⟨q1, 0, none⟩) W c1) ∧ w'.cell? ⟨w1.heap.size, 1, none⟩ = some (.slice (some ⟨q2, 0, none⟩) S c2) ∧ w'.cell? ⟨w1.heap.size, 2, none⟩ = some (.slice (some ⟨q3, 0, none⟩) H c3) ∧ w'.cell? ⟨w1.heap.size, 3, none⟩ = some (.slice (some ⟨q4, 0, none⟩) T c4)) (((((((w'.setCell ⟨w.heap.size + 1, 0, none⟩ a0).setCell ⟨w.heap.size + 1, 1, none⟩ a1).setCell ⟨w.heap.size + 1, 2, none⟩ a2).setCell ⟨w.heap.size + 1, 3, none⟩ a3).setCell ⟨w.heap.size + 1, 4, none⟩ a4).setCell ⟨w.heap.size + 1, 5, none⟩ a5).setCell ⟨w.heap.size + 1, 6, none⟩ a6))) := Lib.hid (fun w' a0 a1 a2 a3 a4 a5 a6 h => by
        have y1 := (show Box (((((((w'.setCell ⟨w.heap.size + 1, 0, none⟩ a0).setCell ⟨w.heap.size + 1, 1, none⟩ a1).setCell ⟨w.heap.size + 1, 2, none⟩ a2).setCell ⟨w.heap.size + 1, 3, none⟩ a3).setCell ⟨w.heap.size + 1, 4, none⟩ a4).setCell ⟨w.heap.size + 1, 5, none⟩ a5).setCell ⟨w.heap.size + 1, 6, none⟩ a6) w.heap.size W H (.slice (some ⟨b, o, none⟩) (W * H) cap) from (set7_block (by omega)).trans (HG.out.below h HG.out.lt)).all
        have y2 := (show Q4 (((((((w'.setCell ⟨w.heap.size + 1, 0, none⟩ a0).setCell ⟨w.heap.size + 1, 1, none⟩ a1).setCell ⟨w.heap.size + 1, 2, none⟩ a2).setCell ⟨w.heap.size + 1, 3, none⟩ a3).setCell ⟨w.heap.size + 1, 4, none⟩ a4).setCell ⟨w.heap.size + 1, 5, none⟩ a5).setCell ⟨w.heap.size + 1, 6, none⟩ a6) w1.heap.size (.slice (some ⟨q1, 0, none⟩) W c1) (.slice (some ⟨q2, 0, none⟩) S c2) (.slice (some ⟨q3, 0, none⟩) H c3) (.slice (some ⟨q4, 0, none⟩) T c4) from (set7_block (by omega)).trans (HQ.out.below h HQ.out.lt)).all
        exact ⟨y1.1, y1.2.1, y1.2.2.1, y2.1, y2.2.1, y2.2.2.1, y2.2.2.2.1⟩)
      have KT := Lib.hid (fun u (h : Below wr.heap.size wr u) => tie_ok W H (W * H) b o cap q2 q4 S T c2 c4 f (frn cx W) (frn cy H) u rfl ((HRW.out.below (h.mono (Nat.le_trans HLB.out.size (Nat.le_refl _)))).more (Nat.le_trans HLB.out.size h.size)) hW0 hW hH0 hH (r2.out.below h r2.out.lt) (r4.out.below h r4.out.lt) hS0 hS64 hT0 hT64 (fun i hi => (frn_spec cx W i (by rw [HSE.out]; exact hi)).1) (fun i hi => (frn_spec cy H i (by rw [HTE.out]; exact hi)).1))
      have hbx := (Below.refl wr.heap.size wr).drew
      have hSu := HSS.out _ hbx
      go_region_held3 (fun w' => w'.cell? ⟨w.heap.size, 0, none⟩ = some (.int .i64 W) ∧ w'.cell? ⟨w.heap.size, 1, none⟩ = some (.int .i64 H) ∧ w'.cell? ⟨w.heap.size, 2, none⟩ = some (.slice (some ⟨b, o, none⟩) (W * H) cap) ∧ w'.cell? ⟨w1.heap.size, 0, none⟩ = some (.slice (some ⟨q1, 0, none⟩) W c1) ∧ w'.cell? ⟨w1.heap.size, 1, none⟩ = some (.slice (some ⟨q2, 0, none⟩) S c2) ∧ w'.cell? ⟨w1.heap.size, 2, none⟩ = some (.slice (some ⟨q3, 0, none⟩) H c3) ∧ w'.cell? ⟨w1.heap.size, 3, none⟩ = some (.slice (some ⟨q4, 0, none⟩) T c4))
        (first
          | with_reducible exact hSu
          | with_reducible exact HST.out _ _ _ _ _ _ _ _ hbx)
        (first
          | (go_at_call 36
             with_reducible refine Calls.mono (KT.out _ hbx) ?_
             rintro e u ⟨k, ck, rfl, hk, hrow, hbu⟩
             have HROW := Lib.hid hrow
             have hk2 : w.heap.size + 2 ≤ k := by have := hbx.size; omega
             have hbx := hbx.trans (hbu.mono hbx.size)
             have hSu := HSS.out _ hbx
             obtain ⟨f0, f1, f2, f3, f4, f5, f6⟩ := (HZ.out.next hbx).frees
             have z := (HZ.out.next hbx).all
             simp only [Dr.zero] at z
             obtain ⟨p0, p1, p2, p3, p4, p5, p6, p7⟩ := z
             clear hrow))
      have hrows : Rows3 u (w.heap.size + 2) (ofp W H f) q1 q3 k := ⟨k1, k3, hk2, (r1.out.below hbx r1.out.lt).congr fun i hi => by show _ = (((ren (rc H (tnf W H f)) i).toNat : Nat) : Int); rw [hcx]; exact (ren_nat cx W i hi).symm,
        (r3.out.below hbx r3.out.lt).congr fun i hi => by show _ = (((ren (rc W f) i).toNat : Nat) : Int); rw [hcy]; exact (ren_nat cy H i hi).symm, by
          show Row u k (nd (rc W f) H * nd (rc H (tnf W H f)) W) _
          rw [hcx, hcy, HSE.out, HTE.out, Nat.mul_comm]
          refine HROW.out.congr fun i hi => ?_
          show tif W T f (frn cx W) (frn cy H) i = f (frn (rc W f) H (i % nd (rc W f) H) * W + frn (rc H (tnf W H f)) W (i / nd (rc W f) H))
          rw [hcx, hcy, HTE.out]
          rfl⟩
      have HR3 := Lib.hid hrows
      have HB3 := Lib.hid (HLB.out.trans (hbx.mono HLB.out.size))
      have HOK : Hid (∀ wf, wf = (((((((u.setCell ⟨w.heap.size + 1, 0, none⟩ (.int .i64 S)).setCell ⟨w.heap.size + 1, 1, none⟩ (.int .i64 T)).setCell ⟨w.heap.size + 1, 2, none⟩ (.slice (some ⟨q1, 0, none⟩) W c1)).setCell ⟨w.heap.size + 1, 3, none⟩ (.slice (some ⟨q3, 0, none⟩) H c3)).setCell ⟨w.heap.size + 1, 4, none⟩ (.int .i64 T)).setCell ⟨w.heap.size + 1, 5, none⟩ (.int .i64 S)).setCell ⟨w.heap.size + 1, 6, none⟩ (.slice (some ⟨k, 0, none⟩) (S * T) ck)) → OkDr w (ofp W H f) (.returned (.tuple #[.agg #[.int .i64 S, .int .i64 T, .slice (some ⟨q1, 0, none⟩) W c1, .slice (some ⟨q3, 0, none⟩) H c3, .int .i64 T, .int .i64 S, .slice (some ⟨k, 0, none⟩) (S * T) ck], .int .i64 0])) wf) := by
        rintro wf rfl
        refine ⟨q1, c1, q3, c3, k, ck, ?_, (set7_rows (by omega) HR3.out).lower (by omega), set7_below (by omega) HB3.out⟩
        show _ = Ending.returned (.tuple #[.agg #[.int .i64 (nd (rc H (tnf W H f)) W : Nat), .int .i64 (nd (rc W f) H : Nat), _, _, .int .i64 (nd (rc W f) H : Nat), .int .i64 (nd (rc H (tnf W H f)) W : Nat), .slice _ (nd (rc W f) H * nd (rc H (tnf W H f)) W) _], _])
        rw [hcx, hcy, HSE.out, HTE.out, Nat.mul_comm T S]
        rfl
      clear hrows hbu hSu p7
      go_wp2
      refine bodyPost_ret (v := .tuple #[.agg #[.int .i64 S, .int .i64 T, .slice (some ⟨q1, 0, none⟩) W c1, .slice (some ⟨q3, 0, none⟩) H c3, .int .i64 T, .int .i64 S, .slice (some ⟨k, 0, none⟩) (S * T) ck], .int .i64 0]) (by simp [results, Tryd.results9, go_sem, p0, p1, p2, p3, p4, p5, p6]) rfl ?_
      exact HOK.out _ rfl
end Go.Proofs.YtbafhdinalapoaaDoor
