/- BlockParts: the walk. -/
import Derived.Test.YtngjcekjboedjaaKpy
namespace Go.Proofs.Ytngjcekjboedjaa
open Go.RowKit
set_option maxRecDepth 100000
set_option linter.unusedVariables false
set_option linter.unusedSimpArgs false

theorem rslist {A D : Option Addr} (n c d : Nat) (p : Nat → Nat) (w : World) (hn : n ≤ 5000) (hr : L2.Holds w w.heap.size A n (fun i => (p i : Int))) (hs : L2.Holds w w.heap.size D n (fun i => (p i : Int))) :
    Calls Try.prog 56 #[.slice A n c, .slice D n d] w fun e w' => e = .returned (.bool true) ∧ Below w.heap.size w w' :=
  (L2.rsame_any A D n c d _ _ w hn hr hs).mono fun e w' h => ⟨by rw [h.1, decide_eq_true (fun _ _ => rfl)], h.2⟩
set_option maxHeartbeats 1600000 in
theorem parts_great0 (W H : Int) (A : Option Addr) (n c : Nat) (f : Nat → Bool) (x y : Int) (D : Option Addr) (m d : Nat) (G : Nat → GV) (B : Option Addr) (k e : Nat) (l : Nat → Int) (h0 : 4200 < n) (w : World) : Calls Try.prog 11 #[.agg #[.int .i64 W, .int .i64 H, .slice A n c], .int .i64 x, .int .i64 y, .slice D m d, .slice B k e] w fun e w' => e = .returned (.bool true) ∧ Below w.heap.size w w' := by
  have HG0 := Lib.hid (fun u => rgreat_any W H A n c u)
  rw [decide_eq_true h0] at HG0
  have LB0 := Lib.hid (Below.refl w.heap.size w)
  have X1 := Lib.hid (Box.new w W H (.slice A n c))
  have LB0 := Lib.hid (LB0.out.alloc LB0.out.size (.cells #[.int .i64 W, .int .i64 H, .slice A n c] 24))
  go_enter Try.func11, Try.ntmps11
  go_upto_region 1 with (fail)
  generalize w.alloc (.cells #[.int .i64 W, .int .i64 H, .slice A n c] 24) = w0 at *
  obtain ⟨q0, q1, q2, q3, q4, q5, q6⟩ := X1.out.all
  go_wp2_with fail
  clear q0 q1 q2 q3 q4 q5 q6
  with_reducible refine Calls.mono (HG0.out _) ?_
  rintro e w1 ⟨rfl, hb⟩
  have LB1 := Lib.hid (LB0.out.trans (hb.mono LB0.out.size))
  have X1 := Lib.hid (X1.out.below hb X1.out.lt)
  clear hb LB0 
  go_wp2
  go_ret
  exact ⟨rfl, LB1.out⟩
set_option maxHeartbeats 1600000 in
theorem parts_great1 (W H : Int) (A : Option Addr) (n c : Nat) (f : Nat → Bool) (x y : Int) (D : Option Addr) (m d : Nat) (G : Nat → GV) (B : Option Addr) (k e : Nat) (l : Nat → Int) (h0 : n ≤ 4200) (h1 : grg m G = true) (w : World) (hm : m ≤ 9223372036854775807) (hg : GLs w D m G) : Calls Try.prog 11 #[.agg #[.int .i64 W, .int .i64 H, .slice A n c], .int .i64 x, .int .i64 y, .slice D m d, .slice B k e] w fun e w' => e = .returned (.bool true) ∧ Below w.heap.size w w' := by
  have HG0 := Lib.hid (fun u => rgreat_any W H A n c u)
  rw [decide_eq_false (by omega)] at HG0
  have HG1 := Lib.hid (fun u (hb : Below w.heap.size w u) => rgg_any D m d G u hm (hg.below hb))
  rw [h1] at HG1
  clear hg
  have LB0 := Lib.hid (Below.refl w.heap.size w)
  have X1 := Lib.hid (Box.new w W H (.slice A n c))
  have LB0 := Lib.hid (LB0.out.alloc LB0.out.size (.cells #[.int .i64 W, .int .i64 H, .slice A n c] 24))
  go_enter Try.func11, Try.ntmps11
  go_upto_region 1 with (fail)
  generalize w.alloc (.cells #[.int .i64 W, .int .i64 H, .slice A n c] 24) = w0 at *
  obtain ⟨q0, q1, q2, q3, q4, q5, q6⟩ := X1.out.all
  go_wp2_with fail
  clear q0 q1 q2 q3 q4 q5 q6
  with_reducible refine Calls.mono (HG0.out _) ?_
  rintro e w1 ⟨rfl, hb⟩
  have LB1 := Lib.hid (LB0.out.trans (hb.mono LB0.out.size))
  have X1 := Lib.hid (X1.out.below hb X1.out.lt)
  clear hb LB0 
  go_wp2_with fail
  with_reducible refine Calls.mono (HG1.out _ LB1.out) ?_
  rintro e w2 ⟨rfl, hb⟩
  have LB2 := Lib.hid (LB1.out.trans (hb.mono LB1.out.size))
  have X1 := Lib.hid (X1.out.below hb X1.out.lt)
  clear hb LB1 
  go_wp2
  go_ret
  exact ⟨rfl, LB2.out⟩
set_option maxHeartbeats 1600000 in
theorem parts_great2 (W H : Int) (A : Option Addr) (n c : Nat) (f : Nat → Bool) (x y : Int) (D : Option Addr) (m d : Nat) (G : Nat → GV) (B : Option Addr) (k e : Nat) (l : Nat → Int) (h0 : n ≤ 4200) (h1 : grg m G = false) (h2 : 200 < k) (w : World) (hm : m ≤ 9223372036854775807) (hg : GLs w D m G) : Calls Try.prog 11 #[.agg #[.int .i64 W, .int .i64 H, .slice A n c], .int .i64 x, .int .i64 y, .slice D m d, .slice B k e] w fun e w' => e = .returned (.bool true) ∧ Below w.heap.size w w' := by
  have HG0 := Lib.hid (fun u => rgreat_any W H A n c u)
  rw [decide_eq_false (by omega)] at HG0
  have HG1 := Lib.hid (fun u (hb : Below w.heap.size w u) => rgg_any D m d G u hm (hg.below hb))
  rw [h1] at HG1
  clear hg
  have y1 : (200 : Int) < (k : Int) := by omega
  have LB0 := Lib.hid (Below.refl w.heap.size w)
  have X1 := Lib.hid (Box.new w W H (.slice A n c))
  have LB0 := Lib.hid (LB0.out.alloc LB0.out.size (.cells #[.int .i64 W, .int .i64 H, .slice A n c] 24))
  go_enter Try.func11, Try.ntmps11
  go_upto_region 1 with (fail)
  generalize w.alloc (.cells #[.int .i64 W, .int .i64 H, .slice A n c] 24) = w0 at *
  obtain ⟨q0, q1, q2, q3, q4, q5, q6⟩ := X1.out.all
  go_wp2_with fail
  clear q0 q1 q2 q3 q4 q5 q6
  with_reducible refine Calls.mono (HG0.out _) ?_
  rintro e w1 ⟨rfl, hb⟩
  have LB1 := Lib.hid (LB0.out.trans (hb.mono LB0.out.size))
  have X1 := Lib.hid (X1.out.below hb X1.out.lt)
  clear hb LB0 
  go_wp2_with fail
  with_reducible refine Calls.mono (HG1.out _ LB1.out) ?_
  rintro e w2 ⟨rfl, hb⟩
  have LB2 := Lib.hid (LB1.out.trans (hb.mono LB1.out.size))
  have X1 := Lib.hid (X1.out.below hb X1.out.lt)
  clear hb LB1 
  go_wp2
  go_ret
  exact ⟨rfl, LB2.out⟩
set_option maxHeartbeats 6400000 in
theorem parts_core (W H : Int) (A : Option Addr) (n c : Nat) (f : Nat → Bool) (x y : Int) (D : Option Addr) (m d : Nat) (G : Nat → GV) (B : Option Addr) (k e : Nat) (l : Nat → Int) (h0 : n ≤ 4200) (h1 : grg m G = false) (h2 : k ≤ 200) (wd ht : Int) (nn : Nat) (F : Nat → Nat → Bool) (mm kk : Nat) (p : Nat → Nat) (z : Int) (b1 : nn ≤ 4200) (b2 : mm ≤ 4200) (b3 : kk ≤ 4200) (X Y : Int) (N : Nat) (F2 : Nat → Bool) (z2 : Int) (b4 : N ≤ 4200) (w : World) (hm : m ≤ 9223372036854775807) (hg : GLs w D m G) (p1 : ∀ t, Below w.heap.size w t → Calls Try.prog 51 #[.agg #[.int .i64 W, .int .i64 H, .slice A n c], .int .i64 x, .int .i64 y] t (UR t wd ht nn F mm kk p z)) (p2 : ∀ t, Below w.heap.size w t → Calls Try.prog 52 #[.agg #[.int .i64 W, .int .i64 H, .slice A n c], .int .i64 x, .int .i64 y] t (UR t wd ht nn F mm kk p z))
    (p3 : ∀ t, Below w.heap.size w t → Calls Try.prog 53 #[.slice D m d, .slice B k e, .int .i64 x] t (RG t X Y N F2 z2)) (p4 : ∀ t, Below w.heap.size w t → Calls Try.prog 54 #[.slice D m d, .slice B k e, .int .i64 x] t (RG t X Y N F2 z2)) : Calls Try.prog 11 #[.agg #[.int .i64 W, .int .i64 H, .slice A n c], .int .i64 x, .int .i64 y, .slice D m d, .slice B k e] w fun e w' => e = .returned (.bool true) ∧ Below w.heap.size w w' := by
  have HG0 := Lib.hid (fun u => rgreat_any W H A n c u)
  rw [decide_eq_false (by omega)] at HG0
  have HG1 := Lib.hid (fun u (hb : Below w.heap.size w u) => rgg_any D m d G u hm (hg.below hb))
  rw [h1] at HG1
  have y1 : ¬ (200 : Int) < (k : Int) := by omega
  have y2 : (z == z) = true := by simp
  have y3 : (z2 == z2) = true := by simp
  have HP1 := Lib.hid p1
  have HP2 := Lib.hid p2
  have HP3 := Lib.hid p3
  have HP4 := Lib.hid p4
  have HSG := Lib.hid (fun u D1 c1 D2 c2 (G1 G2 : Nat → GV) (g1 : GLs u D1 mm G1) (e1 : ∀ i, i < mm → (G1 i).W = wd ∧ (G1 i).H = ht ∧ (G1 i).n = nn ∧ ∀ j, j < nn → (G1 i).f j = F i j) (g2 : GLs u D2 mm G2) (e2 : ∀ i, i < mm → (G2 i).W = wd ∧ (G2 i).H = ht ∧ (G2 i).n = nn ∧ ∀ j, j < nn → (G2 i).f j = F i j) => rsg_true D1 D2 mm c1 c2 G1 G2 u (by omega) g1 g2 (fun i hi => by
    obtain ⟨r1, r2, r3, r4⟩ := e1 i hi
    obtain ⟨s1, s2, s3, s4⟩ := e2 i hi
    exact ⟨r1.trans s1.symm, r2.trans s2.symm, r3.trans s3.symm, by omega, fun j hj => by rw [r3] at hj; rw [r4 j hj, s4 j hj]⟩))
  have HSL := Lib.hid (fun u D1 c1 D2 c2 (g1 : L2.Holds u u.heap.size D1 kk (fun i => (p i : Int))) (g2 : L2.Holds u u.heap.size D2 kk (fun i => (p i : Int))) => rslist kk c1 c2 p u (show kk ≤ 5000 by omega) g1 g2)
  have HSM := Lib.hid (fun u A1 A2 c1 c2 (g1 : Holds u u.heap.size A1 N F2) (g2 : Holds u u.heap.size A2 N F2) => rsame_t (W := X) (H := Y) (c := c1) (d := c2) (show N ≤ 5000 by omega) (fun _ _ => rfl) u g1 g2)
  clear hg p1 p2 p3 p4 h1
  have LB0 := Lib.hid (Below.refl w.heap.size w)
  have X1 := Lib.hid (Box.new w W H (.slice A n c))
  have LB0 := Lib.hid (LB0.out.alloc LB0.out.size (.cells #[.int .i64 W, .int .i64 H, .slice A n c] 24))
  go_enter Try.func11, Try.ntmps11
  go_upto_region 1 with (fail)
  generalize w.alloc (.cells #[.int .i64 W, .int .i64 H, .slice A n c] 24) = w0 at *
  obtain ⟨q0, q1, q2, q3, q4, q5, q6⟩ := X1.out.all
  go_wp2_with fail
  clear q0 q1 q2 q3 q4 q5 q6
  with_reducible refine Calls.mono (HG0.out _) ?_
  rintro e w1 ⟨rfl, hb⟩
  have LB1 := Lib.hid (LB0.out.trans (hb.mono LB0.out.size))
  have X1 := Lib.hid (X1.out.below hb X1.out.lt)
  clear hb LB0 
  go_wp2_with fail
  with_reducible refine Calls.mono (HG1.out _ LB1.out) ?_
  rintro e w2 ⟨rfl, hb⟩
  have LB2 := Lib.hid (LB1.out.trans (hb.mono LB1.out.size))
  have X1 := Lib.hid (X1.out.below hb X1.out.lt)
  clear hb LB1 
  obtain ⟨q0, q1, q2, q3, q4, q5, q6⟩ := X1.out.all
  go_wp2_with fail
  clear q0 q1 q2 q3 q4 q5 q6
  with_reducible refine Calls.mono (HP1.out _ LB2.out) ?_
  rintro e w3 ⟨A1, c1, A2, c2, rfl, ⟨G1, hg1, he1⟩, hl1, hb⟩
  have LB3 := Lib.hid (LB2.out.trans (hb.mono LB2.out.size))
  have X1 := Lib.hid (X1.out.below hb X1.out.lt)
  have Gu := Lib.hid hg1
  have Lu := Lib.hid hl1
  clear hb LB2 hg1 hl1
  have E1 := Lib.hid he1
  clear he1
  obtain ⟨q0, q1, q2, q3, q4, q5, q6⟩ := X1.out.all
  go_wp2_with fail
  clear q0 q1 q2 q3 q4 q5 q6
  with_reducible refine Calls.mono (HP2.out _ LB3.out) ?_
  rintro e w4 ⟨A3, c3, A4, c4, rfl, ⟨G2, hg2, he2⟩, hl2, hb⟩
  have LB4 := Lib.hid (LB3.out.trans (hb.mono LB3.out.size))
  have X1 := Lib.hid (X1.out.below hb X1.out.lt)
  have Gu := Lib.hid (Gu.out.below hb)
  have Lu := Lib.hid ((Lu.out.below hb).more hb.size)
  have Gv := Lib.hid hg2
  have Lv := Lib.hid hl2
  clear hb LB3 hg2 hl2
  have E2 := Lib.hid he2
  clear he2
  go_wp2_with fail
  with_reducible refine Calls.mono (HP3.out _ LB4.out) ?_
  rintro e w5 ⟨A5, c5, rfl, hh, hb⟩
  have LB5 := Lib.hid (LB4.out.trans (hb.mono LB4.out.size))
  have X1 := Lib.hid (X1.out.below hb X1.out.lt)
  have Gu := Lib.hid (Gu.out.below hb)
  have Lu := Lib.hid ((Lu.out.below hb).more hb.size)
  have Gv := Lib.hid (Gv.out.below hb)
  have Lv := Lib.hid ((Lv.out.below hb).more hb.size)
  have H5 := Lib.hid hh
  clear hb LB4 hh
  have hb := ((Below.refl w5.heap.size w5).alloc (by simp; try omega) (.cells #[.int .i64 X, .int .i64 Y, .slice A5 N c5] 24))
  have LB6 := Lib.hid (LB5.out.trans (hb.mono LB5.out.size))
  have X1 := Lib.hid (X1.out.below hb X1.out.lt)
  have Gu := Lib.hid (Gu.out.below hb)
  have Lu := Lib.hid ((Lu.out.below hb).more hb.size)
  have Gv := Lib.hid (Gv.out.below hb)
  have Lv := Lib.hid ((Lv.out.below hb).more hb.size)
  have H5 := Lib.hid ((H5.out.below hb).more hb.size)
  have B5 := Box.new w5 X Y (.slice A5 N c5)
  have B5 := Lib.hid B5
  clear hb LB5
  go_upto_region 6 with (fail)
  obtain ⟨b5, hb5⟩ : ∃ z, w5.heap.size = z := ⟨_, rfl⟩
  rw [hb5] at B5
  try rw [hb5]
  clear hb5
  generalize w5.alloc (.cells #[.int .i64 X, .int .i64 Y, .slice A5 N c5] 24) = w6 at *
  go_wp2_with fail
  with_reducible refine Calls.mono (HP4.out _ LB6.out) ?_
  rintro e w7 ⟨A6, c6, rfl, hh, hb⟩
  have LB7 := Lib.hid (LB6.out.trans (hb.mono LB6.out.size))
  have X1 := Lib.hid (X1.out.below hb X1.out.lt)
  have Gu := Lib.hid (Gu.out.below hb)
  have Lu := Lib.hid ((Lu.out.below hb).more hb.size)
  have Gv := Lib.hid (Gv.out.below hb)
  have Lv := Lib.hid ((Lv.out.below hb).more hb.size)
  have H5 := Lib.hid ((H5.out.below hb).more hb.size)
  have B5 := Lib.hid (B5.out.below hb B5.out.lt)
  have H6 := Lib.hid hh
  clear hb LB6 hh
  have hb := ((Below.refl w7.heap.size w7).alloc (by simp; try omega) (.cells #[.int .i64 X, .int .i64 Y, .slice A6 N c6] 24))
  have LB8 := Lib.hid (LB7.out.trans (hb.mono LB7.out.size))
  have X1 := Lib.hid (X1.out.below hb X1.out.lt)
  have Gu := Lib.hid (Gu.out.below hb)
  have Lu := Lib.hid ((Lu.out.below hb).more hb.size)
  have Gv := Lib.hid (Gv.out.below hb)
  have Lv := Lib.hid ((Lv.out.below hb).more hb.size)
  have H5 := Lib.hid ((H5.out.below hb).more hb.size)
  have B5 := Lib.hid (B5.out.below hb B5.out.lt)
  have H6 := Lib.hid ((H6.out.below hb).more hb.size)
  have B6 := Box.new w7 X Y (.slice A6 N c6)
  have B6 := Lib.hid B6
  clear hb LB7
  go_upto_region 7 with (fail)
  obtain ⟨b6, hb6⟩ : ∃ z, w7.heap.size = z := ⟨_, rfl⟩
  rw [hb6] at B6
  try rw [hb6]
  clear hb6
  generalize w7.alloc (.cells #[.int .i64 X, .int .i64 Y, .slice A6 N c6] 24) = w8 at *
  go_wp2_with fail
  with_reducible refine Calls.mono (HSG.out _ _ _ _ _ _ _ Gu.out E1.out Gv.out E2.out) ?_
  rintro e w9 ⟨rfl, hb⟩
  have LB9 := Lib.hid (LB8.out.trans (hb.mono LB8.out.size))
  have X1 := Lib.hid (X1.out.below hb X1.out.lt)
  have Gu := Lib.hid (Gu.out.below hb)
  have Lu := Lib.hid ((Lu.out.below hb).more hb.size)
  have Gv := Lib.hid (Gv.out.below hb)
  have Lv := Lib.hid ((Lv.out.below hb).more hb.size)
  have H5 := Lib.hid ((H5.out.below hb).more hb.size)
  have B5 := Lib.hid (B5.out.below hb B5.out.lt)
  have H6 := Lib.hid ((H6.out.below hb).more hb.size)
  have B6 := Lib.hid (B6.out.below hb B6.out.lt)
  clear hb LB8 
  clear Gu Gv
  clear E1 E2
  go_wp2_with fail
  with_reducible refine Calls.mono (HSL.out _ _ _ _ _ Lu.out Lv.out) ?_
  rintro e w10 ⟨rfl, hb⟩
  have LB10 := Lib.hid (LB9.out.trans (hb.mono LB9.out.size))
  have X1 := Lib.hid (X1.out.below hb X1.out.lt)
  have Lu := Lib.hid ((Lu.out.below hb).more hb.size)
  have Lv := Lib.hid ((Lv.out.below hb).more hb.size)
  have H5 := Lib.hid ((H5.out.below hb).more hb.size)
  have B5 := Lib.hid (B5.out.below hb B5.out.lt)
  have H6 := Lib.hid ((H6.out.below hb).more hb.size)
  have B6 := Lib.hid (B6.out.below hb B6.out.lt)
  clear hb LB9 
  clear Lu Lv
  obtain ⟨q0, q1, q2, q3, q4, q5, q6⟩ := B5.out.all
  obtain ⟨q7, q8, q9, q10, q11, q12, q13⟩ := B6.out.all
  go_wp2_with fail
  clear q0 q1 q2 q3 q4 q5 q6 q7 q8 q9 q10 q11 q12 q13
  with_reducible refine Calls.mono (HSM.out _ _ _ _ _ H5.out H6.out) ?_
  rintro e w11 ⟨rfl, hb⟩
  have LB11 := Lib.hid (LB10.out.trans (hb.mono LB10.out.size))
  have X1 := Lib.hid (X1.out.below hb X1.out.lt)
  have H5 := Lib.hid ((H5.out.below hb).more hb.size)
  have B5 := Lib.hid (B5.out.below hb B5.out.lt)
  have H6 := Lib.hid ((H6.out.below hb).more hb.size)
  have B6 := Lib.hid (B6.out.below hb B6.out.lt)
  clear hb LB10 
  go_wp2
  go_ret
  exact ⟨rfl, LB11.out⟩
theorem parts13_any (W H : Int) (A : Option Addr) (n c : Nat) (f : Nat → Bool) (x y : Int) (D : Option Addr) (m d : Nat) (G : Nat → GV) (B : Option Addr) (k e : Nat) (l : Nat → Int) (w : World) (hf : Holds w w.heap.size A n f) (hg : GLs w D m G) (hm : m ≤ 9223372036854775807) (hl : L2.Holds w w.heap.size B k l) : Calls Try.prog 11 #[.agg #[.int .i64 W, .int .i64 H, .slice A n c], .int .i64 x, .int .i64 y, .slice D m d, .slice B k e] w fun e w' => e = .returned (.bool true) ∧ Below w.heap.size w w' := by
  by_cases h0 : 4200 < n
  · exact parts_great0 W H A n c f x y D m d G B k e l h0 w
  by_cases h1 : grg m G = true
  · exact parts_great1 W H A n c f x y D m d G B k e l (by omega) h1 w hm hg
  by_cases h2 : 200 < k
  · exact parts_great2 W H A n c f x y D m d G B k e l (by omega) (Bool.of_not_eq_true h1) h2 w hm hg
  have h1' := Bool.of_not_eq_true h1
  obtain ⟨hm20, hgn⟩ := grg_no h1'
  obtain ⟨wd, ht, nn, F, mm, kk, p, z, b1, b2, b3, p1, p2⟩ := unit_pair (W := W) (H := H) (c := c) x y (show n ≤ 4200 by omega) hf
  obtain ⟨X, Y, N, F2, z2, b4, p3, p4⟩ := join_pair (c := d) (d := e) (x := x) (show m ≤ 5000 by omega) hgn hg (show k ≤ 4096 by omega) hl
  exact parts_core W H A n c f x y D m d G B k e l (by omega) h1' (by omega) wd ht nn F mm kk p z b1 b2 b3 X Y N F2 z2 b4 w hm hg p1 p2 p3 p4
end Go.Proofs.Ytngjcekjboedjaa
