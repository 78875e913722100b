/- Layer 14: alive and fit. -/
import Derived.Test.YtppepcijpdamhaaShw
import Derived.BigRegion
namespace Go.Proofs.Ytppepcijpdamhaa
open Go.RowKit
set_option maxRecDepth 100000
set_option linter.unusedVariables false
set_option linter.unusedSimpArgs false

/-- The plain weave of 2 by 2. -/
def plW : Nat → Bool := fun i => i == 0 || i == 3
/-- Two numbers. -/
def li2 (x y : Int) : Nat → Int := fun i => [x, y].getD i 0
def li4 (x y z t : Int) : Nat → Int := fun i => [x, y, z, t].getD i 0
theorem plain_any (w : World) : Calls Try.prog 36 #[] w fun e w' => ∃ A, e = .returned (.agg #[.int .i64 2, .int .i64 2, .slice A 4 4]) ∧ Holds w' w'.heap.size A 4 plW ∧ Below w.heap.size w w' := by
  have R := Lib.hid (show Row ((w.alloc (.cells #[.int .i64 2, .int .i64 2, .slice (some ⟨w.heap.size + 1, 0, none⟩) 4 4] 24)).alloc (.cells #[.bool true, .bool false, .bool false, .bool true] 4)) (w.heap.size + 1) 4 plW from
    ⟨#[.bool true, .bool false, .bool false, .bool true], by simpa using World.alloc_heap_new (w.alloc (.cells #[.int .i64 2, .int .i64 2, .slice (some ⟨w.heap.size + 1, 0, none⟩) 4 4] 24)) (.cells #[.bool true, .bool false, .bool false, .bool true] 4), by simp, fun i hi => by
      match i, hi with
      | 0, _ => rfl
      | 1, _ => rfl
      | 2, _ => rfl
      | 3, _ => rfl⟩)
  have B := Lib.hid (((Below.refl w.heap.size w).alloc (Nat.le_refl _) (.cells #[.int .i64 2, .int .i64 2, .slice (some ⟨w.heap.size + 1, 0, none⟩) 4 4] 24)).alloc (by simp) (.cells #[.bool true, .bool false, .bool false, .bool true] 4))
  have X := Lib.hid ((Box.new w 2 2 (.slice (some ⟨w.heap.size + 1, 0, none⟩) 4 4)).alloc (.cells #[.bool true, .bool false, .bool false, .bool true] 4))
  obtain ⟨q0, q1, q2, q3, q4, q5, q6⟩ := X.out.all
  go_enter Try.func36, Try.ntmps36
  go_wp2
  refine bodyPost_ret (v := .agg #[.int .i64 2, .int .i64 2, .slice (some ⟨w.heap.size + 1, 0, none⟩) 4 4]) (by simp [results, Try.results36, go_sem, q0, q1, q2, q3, q4, q5]) rfl ?_
  exact ⟨_, rfl, R.out.holds R.out.lt, B.out⟩
theorem image_any (A : Option Addr) (n c : Nat) (w : World) : Calls Try.prog 35 #[.slice A n c] w fun e w' => e = .returned (.agg #[.int .i64 2, .int .i64 2, .slice A n c]) ∧ Below w.heap.size w w' := by
  have B := Lib.hid ((Below.refl w.heap.size w).alloc (Nat.le_refl _) (.cells #[.int .i64 2, .int .i64 2, .slice A n c] 29))
  obtain ⟨q0, q1, q2, q3, q4, q5, q6⟩ := (IBox.new w 2 2 (.slice A n c)).all
  go_enter Try.func35, Try.ntmps35
  go_wp2
  refine bodyPost_ret (v := .agg #[.int .i64 2, .int .i64 2, .slice A n c]) (by simp [results, Try.results35, go_sem, q0, q1, q2, q3, q4, q5]) rfl ?_
  exact ⟨rfl, B.out⟩
theorem li2_at (w : World) (x y : Int) : L2.Holds (w.alloc (.cells #[.int .i64 x, .int .i64 y] 3)) (w.heap.size + 1) (some ⟨w.heap.size, 0, none⟩) 2 (li2 x y) := by
  have h := (lv_lit w [x, y] #[.int .i64 x, .int .i64 y] rfl).h
  rw [World.size_alloc] at h
  exact h
theorem frl (u : World) (A : Option Addr) (hh : Holds u u.heap.size A 4 plW) (x y z t : Int) (hx : 0 ≤ x ∧ x ≤ 15) (hy : 0 ≤ y ∧ y ≤ 15) (hz : 0 ≤ z ∧ z ≤ 15) (ht : 0 ≤ t ∧ t ≤ 15) :
    Calls Try.prog 13 #[.agg #[.int .i64 2, .int .i64 2, .slice A 4 4], .slice (some ⟨u.heap.size, 0, none⟩) 2 2, .slice (some ⟨u.heap.size + 1, 0, none⟩) 2 2]
      ((u.alloc (.cells #[.int .i64 x, .int .i64 y] 3)).alloc (.cells #[.int .i64 z, .int .i64 t] 3)) fun e w' => ∃ A' c', e = .returned (.tuple #[.agg #[.int .i64 2, .int .i64 2, .slice A' 4 c'], .int .i64 0]) ∧
        L2.Holds w' w'.heap.size A' 4 (shF 2 plW (li2 x y) (li2 z t)) ∧ Below u.heap.size u w' := by
  have b0 := bel_alloc u (.cells #[.int .i64 x, .int .i64 y] 3)
  have b1 := bel_alloc (u.alloc (.cells #[.int .i64 x, .int .i64 y] 3)) (.cells #[.int .i64 z, .int .i64 t] 3)
  have b2 : Below u.heap.size u ((u.alloc (.cells #[.int .i64 x, .int .i64 y] 3)).alloc (.cells #[.int .i64 z, .int .i64 t] 3)) := b0.trans (b1.mono b0.size)
  have f0 : fine 2 (li2 x y) = true := fine_yes fun i hi => by
    match i, hi with
    | 0, _ => exact hx
    | 1, _ => exact hy
  have f1 : fine 2 (li2 z t) = true := fine_yes fun i hi => by
    match i, hi with
    | 0, _ => exact hz
    | 1, _ => exact ht
  have l0 := (li2_at u x y).below (B := u.heap.size + 1) (by rw [World.size_alloc] at b1; exact b1)
  have l1 := li2_at (u.alloc (.cells #[.int .i64 x, .int .i64 y] 3)) z t
  rw [World.size_alloc] at l1
  have h := front_ok 2 2 A (some ⟨u.heap.size, 0, none⟩) (some ⟨u.heap.size + 1, 0, none⟩) 4 2 2 plW (li2 x y) (li2 z t) ((u.alloc (.cells #[.int .i64 x, .int .i64 y] 3)).alloc (.cells #[.int .i64 z, .int .i64 t] 3))
    ((hh.below b2).more b2.size) (l0.more (by simp)) (l1.more (by simp)) (by decide) (by decide) (by decide) (by decide) f0 f1
  exact h.mono fun e w' ⟨A', c', he, hH, hb⟩ => ⟨A', c', he, hH, b2.trans (hb.mono b2.size)⟩
theorem li4_at {w w' : World} {x y z t : Int} (hb : Below (w.alloc (.cells #[.int .i64 x, .int .i64 y, .int .i64 z, .int .i64 t] 3)).heap.size (w.alloc (.cells #[.int .i64 x, .int .i64 y, .int .i64 z, .int .i64 t] 3)) w') : L2.Holds w' w'.heap.size (some ⟨w.heap.size, 0, none⟩) 4 (li4 x y z t) :=
  ((lv_lit w [x, y, z, t] #[.int .i64 x, .int .i64 y, .int .i64 z, .int .i64 t] rfl).h.below hb).more hb.size
theorem li4_drew {w w' : World} {x y z t : Int} (hb : Below ((w.alloc (.cells #[.int .i64 x, .int .i64 y, .int .i64 z, .int .i64 t] 3)).drew).heap.size (w.alloc (.cells #[.int .i64 x, .int .i64 y, .int .i64 z, .int .i64 t] 3)).drew w') : L2.Holds w' w'.heap.size (some ⟨w.heap.size, 0, none⟩) 4 (li4 x y z t) :=
  li4_at ⟨hb.os, hb.tape, hb.output, hb.size, hb.block⟩
theorem bel_ad {w w' : World} {o : Obj} (hb : Below ((w.alloc o).drew).heap.size (w.alloc o).drew w') : Below w.heap.size w w' :=
  (bel_alloc w o).trans ((show Below (w.alloc o).heap.size (w.alloc o) w' from ⟨hb.os, hb.tape, hb.output, hb.size, hb.block⟩).mono (bel_alloc w o).size)
theorem bel_an {v w w' : World} {o : Obj} (h : Below v.heap.size v w) (hb : Below (w.alloc o).heap.size (w.alloc o) w') : Below v.heap.size v w' :=
  (h.alloc h.size o).trans (hb.mono (h.alloc h.size o).size)
set_option maxHeartbeats 3200000 in
theorem alive14_any (w : World) : Calls Try.prog 37 #[] w fun e w' => e = .returned (.bool true) ∧ Below w.heap.size w w' := by
  have LB0 := Lib.hid (Below.refl w.heap.size w)
  go_enter Try.func37, Try.ntmps37
  go_wp2_with fail
  with_reducible refine Calls.mono (plain_any _) ?_
  rintro e w1 ⟨A1, rfl, hh, hb⟩
  have LB1 := Lib.hid hb
  have H1 := Lib.hid hh
  clear hh hb LB0
  have HF := Lib.hid (frl w1 A1 H1.out 0 1 0 1 (by decide) (by decide) (by decide) (by decide))
  go_wp2_with fail
  with_reducible refine Calls.mono HF.out ?_
  rintro e w2 ⟨A2, c2, rfl, hh, hb⟩
  have LB2 := Lib.hid (LB1.out.trans (hb.mono LB1.out.size))
  have H2 := Lib.hid hh
  clear hh hb LB1 H1 HF
  have hb := ((Below.refl w2.heap.size w2).alloc (by simp; try omega) (.cells #[.int .i64 2, .int .i64 2, .slice A2 4 c2] 29))
  have LB3 := Lib.hid (LB2.out.trans (hb.mono LB2.out.size))
  have H2 := Lib.hid ((H2.out.below hb).more hb.size)
  have X2 := IBox.new w2 2 2 (.slice A2 4 c2)
  have X2 := Lib.hid X2
  clear hb LB2
  go_upto_region 2 with (fail)
  obtain ⟨b2, hb2⟩ : ∃ z, w2.heap.size = z := ⟨_, rfl⟩
  rw [hb2] at X2
  try rw [hb2]
  clear hb2
  generalize w2.alloc (.cells #[.int .i64 2, .int .i64 2, .slice A2 4 c2] 29) = w3 at *
  go_wp2_with fail
  with_reducible refine Calls.mono (plain_any _) ?_
  rintro e w4 ⟨A3, rfl, hh, hb⟩
  have LB4 := Lib.hid (LB3.out.trans (hb.mono LB3.out.size))
  have H2 := Lib.hid ((H2.out.below hb).more hb.size)
  have X2 := Lib.hid (X2.out.below hb X2.out.lt)
  have H3 := Lib.hid hh
  clear hb LB3 hh
  have HF := Lib.hid (frl w4 A3 H3.out 0 1 1 0 (by decide) (by decide) (by decide) (by decide))
  go_wp2_with fail
  with_reducible refine Calls.mono HF.out ?_
  rintro e w5 ⟨A4, c4, rfl, hh, hb⟩
  have LB5 := Lib.hid (LB4.out.trans (hb.mono LB4.out.size))
  have H2 := Lib.hid ((H2.out.below hb).more hb.size)
  have X2 := Lib.hid (X2.out.below hb X2.out.lt)
  have H3 := Lib.hid ((H3.out.below hb).more hb.size)
  have H4 := Lib.hid hh
  clear hh hb LB4 HF
  clear H3
  have hb := ((Below.refl w5.heap.size w5).alloc (by simp; try omega) (.cells #[.int .i64 2, .int .i64 2, .slice A4 4 c4] 29))
  have LB6 := Lib.hid (LB5.out.trans (hb.mono LB5.out.size))
  have H2 := Lib.hid ((H2.out.below hb).more hb.size)
  have X2 := Lib.hid (X2.out.below hb X2.out.lt)
  have H4 := Lib.hid ((H4.out.below hb).more hb.size)
  have X4 := IBox.new w5 2 2 (.slice A4 4 c4)
  have X4 := Lib.hid X4
  clear hb LB5
  go_upto_region 3 with (fail)
  obtain ⟨b4, hb4⟩ : ∃ z, w5.heap.size = z := ⟨_, rfl⟩
  rw [hb4] at X4
  try rw [hb4]
  clear hb4
  generalize w5.alloc (.cells #[.int .i64 2, .int .i64 2, .slice A4 4 c4] 29) = w6 at *
  have HS1 := Lib.hid (fun u D (hb : Below w6.heap.size w6 u) (hl : L2.Holds u u.heap.size D 4 (li4 0 0 1 1)) => risame_b (W := 2) (H := 2) (c := c2) (d := 4) (show 4 ≤ 5000 by decide) (by decide) u ((H2.out.below hb).more hb.size) hl)
  have HS2 := Lib.hid (fun u D (hb : Below w6.heap.size w6 u) (hl : L2.Holds u u.heap.size D 4 (li4 0 1 0 1)) => risame_b (W := 2) (H := 2) (c := c4) (d := 4) (show 4 ≤ 5000 by decide) (by decide) u ((H4.out.below hb).more hb.size) hl)
  obtain ⟨q0, q1, q2, q3, q4, q5, q6⟩ := X2.out.all
  obtain ⟨p0, p1, p2, p3, p4, p5, p6⟩ := X4.out.all
  go_upto_region 3 with (fail)
  go_region_law (first
    | (go_simp
       with_reducible refine Calls.mono (image_any _ _ _ _) ?_
       rintro e wi ⟨rfl, hb⟩
       have HLi := Lib.hid (li4_drew (w := w6) (x := 0) (y := 0) (z := 1) (t := 1) hb)
       have HBi := Lib.hid (bel_ad hb)
       obtain ⟨q0, q1, q2, q3, q4, q5, q6⟩ := (X2.out.below HBi.out X2.out.lt).all
       clear hb)
    | (go_simp
       with_reducible refine Calls.mono (HS1.out _ _ HBi.out HLi.out) ?_
       rintro e ws ⟨rfl, hb⟩
       have HBs := Lib.hid (HBi.out.trans (hb.mono HBi.out.size))
       obtain ⟨p0, p1, p2, p3, p4, p5, p6⟩ := (X4.out.below HBs.out X4.out.lt).all
       clear hb)
    | (go_simp
       with_reducible refine Calls.mono (image_any _ _ _ _) ?_
       rintro e wj ⟨rfl, hb⟩
       have HLj := Lib.hid (li4_at (w := ws) (x := 0) (y := 1) (z := 0) (t := 1) hb)
       have HBj := Lib.hid (bel_an HBs.out hb)
       obtain ⟨p0, p1, p2, p3, p4, p5, p6⟩ := (X4.out.below HBj.out X4.out.lt).all
       clear hb)
    | (go_simp
       with_reducible refine Calls.mono (HS2.out _ _ HBj.out HLj.out) ?_
       rintro e wk ⟨rfl, hb⟩
       have HBk := Lib.hid (HBj.out.trans (hb.mono HBj.out.size))
       clear hb))
  all_goals
    go_wp2
    go_ret
    exact ⟨rfl, LB6.out.trans (HBk.out.mono LB6.out.size)⟩
theorem rth_all (W H : Int) (A B C : Option Addr) (n c m d k e : Nat) (a b : Nat → Int) (w : World) (hn : n ≤ 4200) (ha : L2.Holds w w.heap.size B m a) (hb1 : L2.Holds w w.heap.size C k b) :
    Calls Try.prog 49 #[.agg #[.int .i64 W, .int .i64 H, .slice A n c], .slice B m d, .slice C k e] w fun e w' => e = .returned (.int .i64 (thE W H n m k a b)) ∧ Below w.heap.size w w' := by
  by_cases h1 : chk W H n = 0
  · by_cases h2 : (m : Int) = W
    · by_cases h3 : (k : Int) = H
      · obtain ⟨a1, a2, a3, a4, a5⟩ := chk_ok h1
        exact rth_any W H A B C n c m d k e a b w hn (by omega) (by omega) ha hb1
      · rw [thE_cnt h1 (fun q => h3 q.2)]
        exact rth_cnt2 W H A B C n c m d k e a b w hn h1 h2 h3
    · rw [thE_cnt h1 (fun q => h2 q.1)]
      exact rth_cnt1 W H A B C n c m d k e a b w hn h1 h2
  · rw [thE_chk rfl h1]
    exact rth_chk W H A B C n c m d k e a b w hn rfl h1
set_option maxHeartbeats 800000 in
theorem fit_any (W H : Int) (A B C : Option Addr) (n c m d k e : Nat) (a b : Nat → Int) (w : World) (ha : L2.Holds w w.heap.size B m a) (hb1 : L2.Holds w w.heap.size C k b) :
    Calls Try.prog 38 #[.agg #[.int .i64 W, .int .i64 H, .slice A n c], .slice B m d, .slice C k e] w fun e w' => e = .returned (.bool (decide (n ≤ 4200 ∧ thE W H n m k a b = 0))) ∧ Below w.heap.size w w' := by
  have HG := Lib.hid (fun u => ggreat_any W H A n c u)
  by_cases hn : n ≤ 4200
  · have HT := Lib.hid (fun u (hb : Below w.heap.size w u) => rth_all W H A B C n c m d k e a b u hn ((ha.below hb).more hb.size) ((hb1.below hb).more hb.size))
    rw [decide_eq_false (show ¬ 4200 < n by omega)] at HG
    have HR := Lib.hid (show decide (n ≤ 4200 ∧ thE W H n m k a b = 0) = (thE W H n m k a b == 0) by
      by_cases hz : thE W H n m k a b = 0
      · rw [hz]; simp [hn]
      · rw [decide_eq_false (fun q => hz q.2)]; symm; simpa using hz)
    rw [HR.out]
    clear ha hb1 hn HR
    generalize thE W H n m k a b = z at *
    have LB0 := Lib.hid (Below.refl w.heap.size w)
    have X1 := Box.new w W H (.slice A n c)
    have X1 := Lib.hid X1
    have LB0 := Lib.hid (LB0.out.alloc LB0.out.size (.cells #[.int .i64 W, .int .i64 H, .slice A n c] 24))
    go_enter Try.func38, Try.ntmps38
    go_upto_region 1 with (fail)
    generalize w.alloc (.cells #[.int .i64 W, .int .i64 H, .slice A n c] 24) = w0 at *
    obtain ⟨q0, q1, q2, q3, q4, q5, q6⟩ := X1.out.all
    go_wp2_with fail
    clear q0 q1 q2 q3 q4 q5 q6
    with_reducible refine Calls.mono (HG.out _) ?_
    rintro e w1 ⟨rfl, hb⟩
    have LB1 := Lib.hid (LB0.out.trans (hb.mono LB0.out.size))
    have X1 := Lib.hid (X1.out.below hb X1.out.lt)
    clear hb LB0 
    obtain ⟨q0, q1, q2, q3, q4, q5, q6⟩ := X1.out.all
    go_wp2_with fail
    clear q0 q1 q2 q3 q4 q5 q6
    with_reducible refine Calls.mono (HT.out _ LB1.out) ?_
    rintro e w2 ⟨rfl, hb⟩
    have LB2 := Lib.hid (LB1.out.trans (hb.mono LB1.out.size))
    have X1 := Lib.hid (X1.out.below hb X1.out.lt)
    clear hb LB1 
    go_wp2
    go_ret
    exact ⟨rfl, LB2.out⟩
  · rw [decide_eq_true (show 4200 < n by omega)] at HG
    rw [decide_eq_false (fun q => hn q.1)]
    clear ha hb1 hn
    have LB0 := Lib.hid (Below.refl w.heap.size w)
    have X1 := Box.new w W H (.slice A n c)
    have X1 := Lib.hid X1
    have LB0 := Lib.hid (LB0.out.alloc LB0.out.size (.cells #[.int .i64 W, .int .i64 H, .slice A n c] 24))
    go_enter Try.func38, Try.ntmps38
    go_upto_region 1 with (fail)
    generalize w.alloc (.cells #[.int .i64 W, .int .i64 H, .slice A n c] 24) = w0 at *
    obtain ⟨q0, q1, q2, q3, q4, q5, q6⟩ := X1.out.all
    go_wp2_with fail
    clear q0 q1 q2 q3 q4 q5 q6
    with_reducible refine Calls.mono (HG.out _) ?_
    rintro e w1 ⟨rfl, hb⟩
    have LB1 := Lib.hid (LB0.out.trans (hb.mono LB0.out.size))
    have X1 := Lib.hid (X1.out.below hb X1.out.lt)
    clear hb LB0 
    go_wp2
    go_ret
    exact ⟨rfl, LB1.out⟩
end Go.Proofs.Ytppepcijpdamhaa
