/- The walk of LayersNames. -/
import Derived.Test.YtchbbphokpmacaaLnn
import Derived.Test.YtchbbphokpmacaaLba
namespace Go.Proofs.Ytchbbphokpmacaa
open Go.RowKit
set_option maxRecDepth 100000
set_option linter.unusedVariables false
set_option linter.unusedSimpArgs false

structure LHo (v : World) (D : Option Addr) (n : Nat) (f : Nat → Bool) : Prop where
  h : Holds v v.heap.size D n f
theorem LHo.below {v v' : World} {D : Option Addr} {n : Nat} {f : Nat → Bool} (h : LHo v D n f) (hb : Below v.heap.size v v') : LHo v' D n f := ⟨(h.h.below hb).more hb.size⟩
set_option maxHeartbeats 6400000 in
theorem names11_any (w0 : World) : Calls Try.prog 10 #[] w0 fun e w' => e = .returned (.bool true) ∧ Below w0.heap.size w0 w' := by
  have LB0 := Lib.hid (Below.refl w0.heap.size w0)
  go_enter Try.func10, Try.ntmps10
  go_wp2_with fail
  with_reducible refine Calls.mono (cl_xx _) ?_
  rintro e w1 ⟨kRx, rfl, _, hrow, hb⟩
  have LB1 := Lib.hid (LB0.out.trans (hb.mono LB0.out.size))
  have Rx := Lib.hid hrow
  clear hb LB0 hrow
  go_wp2_with fail
  with_reducible refine Calls.mono (pt_xx _ _ _ Rx.out) ?_
  rintro e w2 ⟨DP, dP, rfl, hl, hb⟩
  have LB2 := Lib.hid (LB1.out.trans (hb.mono LB1.out.size))
  have Rx := Lib.hid (Rx.out.below hb Rx.out.lt)
  have P1 := Lib.hid hl
  clear hb LB1 hl
  clear Rx
  go_wp2_with fail
  with_reducible refine Calls.mono (two_any _) ?_
  rintro e w3 ⟨kRa1, rfl, _, hrow, hb⟩
  have LB3 := Lib.hid (LB2.out.trans (hb.mono LB2.out.size))
  have P1 := Lib.hid (P1.out.below hb)
  have Ra1 := Lib.hid hrow
  clear hb LB2 hrow
  go_wp2_with fail
  with_reducible refine Calls.mono (on1 _ _ _ Ra1.out) ?_
  rintro e w4 ⟨Ao, co, rfl, hho, hb⟩
  have hb := (bel_alloc w3 (.cells #[.int .i64 2, .int .i64 3, .int .i64 6, .int .i64 7] 3)).trans (hb.mono (bel_alloc w3 (.cells #[.int .i64 2, .int .i64 3, .int .i64 6, .int .i64 7] 3)).size)
  have LB4 := Lib.hid (LB3.out.trans (hb.mono LB3.out.size))
  have P1 := Lib.hid (P1.out.below hb)
  have Ra1 := Lib.hid (Ra1.out.below hb Ra1.out.lt)
  have HO := Lib.hid (show LHo w4 Ao 4 dg from ⟨hho⟩)
  clear hb LB3 hho
  clear Ra1
  have hb := bel_alloc w4 (.cells #[.int .i64 2, .int .i64 2, .slice Ao 4 co] 24)
  have LB5 := Lib.hid (LB4.out.trans (hb.mono LB4.out.size))
  have P1 := Lib.hid (P1.out.below hb)
  have HO := Lib.hid (HO.out.below hb)
  have RO := Lib.hid (Box.new w4 2 2 (.slice Ao 4 co))
  clear hb LB4
  go_upto_region 3 with (fail)
  generalize w4.heap.size = ob at *
  generalize w4.alloc (.cells #[.int .i64 2, .int .i64 2, .slice Ao 4 co] 24) = w5 at *
  obtain ⟨q0, q1, q2, q3, q4, q5, q6⟩ := RO.out.all
  go_wp2_with fail
  clear q0 q1 q2 q3 q4 q5 q6
  go_wp2_with fail
  with_reducible refine Calls.mono (tx1 Ao co _ HO.out.h) ?_
  rintro e w6 ⟨rfl, hb⟩
  have LB6 := Lib.hid (LB5.out.trans (hb.mono LB5.out.size))
  have P1 := Lib.hid (P1.out.below hb)
  have HO := Lib.hid (HO.out.below hb)
  have RO := Lib.hid (RO.out.below hb RO.out.lt)
  clear hb LB5 
  clear HO
  clear RO
  go_wp2_with fail
  with_reducible refine Calls.mono (two_any _) ?_
  rintro e w7 ⟨kRa2, rfl, _, hrow, hb⟩
  have LB7 := Lib.hid (LB6.out.trans (hb.mono LB6.out.size))
  have P1 := Lib.hid (P1.out.below hb)
  have Ra2 := Lib.hid hrow
  clear hb LB6 hrow
  go_wp2_with fail
  with_reducible refine Calls.mono (sp1 _ _ _ Ra2.out) ?_
  rintro e w8 ⟨D1, c1, D2, c2, rfl, hl1, hl2, hb⟩
  have LB8 := Lib.hid (LB7.out.trans (hb.mono LB7.out.size))
  have P1 := Lib.hid (P1.out.below hb)
  have Ra2 := Lib.hid (Ra2.out.below hb Ra2.out.lt)
  have T1 := Lib.hid hl1
  have T2 := Lib.hid hl2
  clear hb LB7 hl1 hl2
  clear Ra2
  go_wp2_with fail
  with_reducible refine Calls.mono (two_any _) ?_
  rintro e w9 ⟨kRa3, rfl, _, hrow, hb⟩
  have LB9 := Lib.hid (LB8.out.trans (hb.mono LB8.out.size))
  have P1 := Lib.hid (P1.out.below hb)
  have T1 := Lib.hid (T1.out.below hb)
  have T2 := Lib.hid (T2.out.below hb)
  have Ra3 := Lib.hid hrow
  clear hb LB8 hrow
  go_wp2_with fail
  with_reducible refine Calls.mono (sp0 _ _ _ Ra3.out) ?_
  rintro e w10 ⟨D3, c3, D4, c4, rfl, _, _, hb⟩
  have LB10 := Lib.hid (LB9.out.trans (hb.mono LB9.out.size))
  have P1 := Lib.hid (P1.out.below hb)
  have T1 := Lib.hid (T1.out.below hb)
  have T2 := Lib.hid (T2.out.below hb)
  have Ra3 := Lib.hid (Ra3.out.below hb Ra3.out.lt)
  clear hb LB9 
  clear Ra3
  go_wp2_with fail
  with_reducible refine Calls.mono (two_any _) ?_
  rintro e w11 ⟨kRa4, rfl, _, hrow, hb⟩
  have LB11 := Lib.hid (LB10.out.trans (hb.mono LB10.out.size))
  have P1 := Lib.hid (P1.out.below hb)
  have T1 := Lib.hid (T1.out.below hb)
  have T2 := Lib.hid (T2.out.below hb)
  have Ra4 := Lib.hid hrow
  clear hb LB10 hrow
  go_wp2_with fail
  with_reducible refine Calls.mono (he1 _ _ _ Ra4.out) ?_
  rintro e w12 ⟨rfl, hb⟩
  have LB12 := Lib.hid (LB11.out.trans (hb.mono LB11.out.size))
  have P1 := Lib.hid (P1.out.below hb)
  have T1 := Lib.hid (T1.out.below hb)
  have T2 := Lib.hid (T2.out.below hb)
  have Ra4 := Lib.hid (Ra4.out.below hb Ra4.out.lt)
  clear hb LB11 
  clear Ra4
  go_wp2_with fail
  with_reducible refine Calls.mono (two_any _) ?_
  rintro e w13 ⟨kRa5, rfl, _, hrow, hb⟩
  have LB13 := Lib.hid (LB12.out.trans (hb.mono LB12.out.size))
  have P1 := Lib.hid (P1.out.below hb)
  have T1 := Lib.hid (T1.out.below hb)
  have T2 := Lib.hid (T2.out.below hb)
  have Ra5 := Lib.hid hrow
  clear hb LB12 hrow
  go_wp2_with fail
  with_reducible refine Calls.mono (he2 _ _ _ Ra5.out) ?_
  rintro e w14 ⟨rfl, hb⟩
  have LB14 := Lib.hid (LB13.out.trans (hb.mono LB13.out.size))
  have P1 := Lib.hid (P1.out.below hb)
  have T1 := Lib.hid (T1.out.below hb)
  have T2 := Lib.hid (T2.out.below hb)
  have Ra5 := Lib.hid (Ra5.out.below hb Ra5.out.lt)
  clear hb LB13 
  clear Ra5
  go_wp2_with fail
  with_reducible refine Calls.mono (cl_x1 _) ?_
  rintro e w15 ⟨kRy, rfl, _, hrow, hb⟩
  have LB15 := Lib.hid (LB14.out.trans (hb.mono LB14.out.size))
  have P1 := Lib.hid (P1.out.below hb)
  have T1 := Lib.hid (T1.out.below hb)
  have T2 := Lib.hid (T2.out.below hb)
  have Ry := Lib.hid hrow
  clear hb LB14 hrow
  go_wp2_with fail
  with_reducible refine Calls.mono (he3 _ _ _ Ry.out) ?_
  rintro e w16 ⟨rfl, hb⟩
  have LB16 := Lib.hid (LB15.out.trans (hb.mono LB15.out.size))
  have P1 := Lib.hid (P1.out.below hb)
  have T1 := Lib.hid (T1.out.below hb)
  have T2 := Lib.hid (T2.out.below hb)
  have Ry := Lib.hid (Ry.out.below hb Ry.out.lt)
  clear hb LB15 
  clear Ry
  have hA1 := Lib.hid (((((bel_alloc w16 (.cells #[.int .i64 0] 3)).trans ((bel_alloc _ (.cells #[.int .i64 1] 3)).mono (by simp; try omega))).trans ((bel_alloc _ (.cells #[.int .i64 2] 3)).mono (by simp; try omega))).trans ((bel_alloc _ (.cells #[.int .i64 3] 3)).mono (by simp; try omega))).trans ((bel_alloc _ (.cells #[.slice (some ⟨w16.heap.size, 0, none⟩) 1 1, .slice (some ⟨w16.heap.size + 1, 0, none⟩) 1 1, .slice (some ⟨w16.heap.size + 2, 0, none⟩) 1 1, .slice (some ⟨w16.heap.size + 3, 0, none⟩) 1 1] 45)).mono (by simp; try omega)))
  have hC1 := sameparts_t 4 DP (some ⟨w16.heap.size + 4, 0, none⟩) dP 4 _ _ _ (by omega) (by decide) (fun _ _ => rfl) (P1.out.below hA1.out) (lls_lit4 w16 [0] [1] [2] [3] #[.int .i64 0] #[.int .i64 1] #[.int .i64 2] #[.int .i64 3] rfl rfl rfl rfl)
  go_wp2_with fail
  with_reducible refine Calls.mono (hC1) ?_
  rintro e w17 ⟨rfl, hb⟩
  have hb := hA1.out.trans (hb.mono hA1.out.size)
  have LB17 := Lib.hid (LB16.out.trans (hb.mono LB16.out.size))
  have P1 := Lib.hid (P1.out.below hb)
  have T1 := Lib.hid (T1.out.below hb)
  have T2 := Lib.hid (T2.out.below hb)
  clear hb LB16 
  clear P1
  clear hC1 hA1
  have hC := (show Calls Try.prog 50 #[.slice D1 4 c1, .slice (some ⟨w17.heap.size, 0, none⟩) 4 4] (w17.alloc (.cells #[.int .i64 0, .int .i64 1, .int .i64 4, .int .i64 5] 3)) fun e w' => e = .returned (.bool true) ∧ Below (w17.alloc (.cells #[.int .i64 0, .int .i64 1, .int .i64 4, .int .i64 5] 3)).heap.size (w17.alloc (.cells #[.int .i64 0, .int .i64 1, .int .i64 4, .int .i64 5] 3)) w' from same_two (l1 := [0, 1, 4, 5]) (l2 := [0, 1, 4, 5]) _ _ _ (by decide) (T1.out.below (bel_alloc _ _)) (ll_lit w17 [0, 1, 4, 5] #[.int .i64 0, .int .i64 1, .int .i64 4, .int .i64 5] rfl))
  go_wp2_with fail
  with_reducible refine Calls.mono (hC) ?_
  rintro e w18 ⟨rfl, hb⟩
  have hb := (bel_alloc w17 (.cells #[.int .i64 0, .int .i64 1, .int .i64 4, .int .i64 5] 3)).trans (hb.mono (bel_alloc w17 (.cells #[.int .i64 0, .int .i64 1, .int .i64 4, .int .i64 5] 3)).size)
  have LB18 := Lib.hid (LB17.out.trans (hb.mono LB17.out.size))
  have T1 := Lib.hid (T1.out.below hb)
  have T2 := Lib.hid (T2.out.below hb)
  clear hb LB17 
  clear T1
  clear hC
  have hC := (show Calls Try.prog 50 #[.slice D2 4 c2, .slice (some ⟨w18.heap.size, 0, none⟩) 4 4] (w18.alloc (.cells #[.int .i64 2, .int .i64 3, .int .i64 6, .int .i64 7] 3)) fun e w' => e = .returned (.bool true) ∧ Below (w18.alloc (.cells #[.int .i64 2, .int .i64 3, .int .i64 6, .int .i64 7] 3)).heap.size (w18.alloc (.cells #[.int .i64 2, .int .i64 3, .int .i64 6, .int .i64 7] 3)) w' from same_two (l1 := [2, 3, 6, 7]) (l2 := [2, 3, 6, 7]) _ _ _ (by decide) (T2.out.below (bel_alloc _ _)) (ll_lit w18 [2, 3, 6, 7] #[.int .i64 2, .int .i64 3, .int .i64 6, .int .i64 7] rfl))
  go_wp2_with fail
  with_reducible refine Calls.mono (hC) ?_
  rintro e w19 ⟨rfl, hb⟩
  have hb := (bel_alloc w18 (.cells #[.int .i64 2, .int .i64 3, .int .i64 6, .int .i64 7] 3)).trans (hb.mono (bel_alloc w18 (.cells #[.int .i64 2, .int .i64 3, .int .i64 6, .int .i64 7] 3)).size)
  have LB19 := Lib.hid (LB18.out.trans (hb.mono LB18.out.size))
  have T2 := Lib.hid (T2.out.below hb)
  clear hb LB18 
  clear T2
  clear hC
  go_wp2_with fail
  with_reducible refine Calls.mono (two_any _) ?_
  rintro e w20 ⟨kRa6, rfl, _, hrow, hb⟩
  have LB20 := Lib.hid (LB19.out.trans (hb.mono LB19.out.size))
  have Ra6 := Lib.hid hrow
  clear hb LB19 hrow
  go_wp2_with fail
  with_reducible refine Calls.mono (on2 _ _ _ Ra6.out) ?_
  rintro e w21 ⟨rfl, hb⟩
  have hb := (bel_alloc w20 (.cells #[.int .i64 0, .int .i64 1] 3)).trans (hb.mono (bel_alloc w20 (.cells #[.int .i64 0, .int .i64 1] 3)).size)
  have LB21 := Lib.hid (LB20.out.trans (hb.mono LB20.out.size))
  have Ra6 := Lib.hid (Ra6.out.below hb Ra6.out.lt)
  clear hb LB20 
  clear Ra6
  have hb := bel_alloc w21 (.cells #[.int .i64 0, .int .i64 0, .slice none 0 0] 24)
  have LB22 := Lib.hid (LB21.out.trans (hb.mono LB21.out.size))
  clear hb LB21
  go_upto_region 11 with (fail)
  generalize w21.alloc (.cells #[.int .i64 0, .int .i64 0, .slice none 0 0] 24) = w22 at *
  go_wp2_with fail
  with_reducible refine Calls.mono (two_any _) ?_
  rintro e w23 ⟨kRa7, rfl, _, hrow, hb⟩
  have LB23 := Lib.hid (LB22.out.trans (hb.mono LB22.out.size))
  have Ra7 := Lib.hid hrow
  clear hb LB22 hrow
  go_wp2_with fail
  with_reducible refine Calls.mono (on3 _ _ _ Ra7.out) ?_
  rintro e w24 ⟨rfl, hb⟩
  have hb := (bel_alloc w23 (.cells #[.int .i64 1, .int .i64 0, .int .i64 4] 3)).trans (hb.mono (bel_alloc w23 (.cells #[.int .i64 1, .int .i64 0, .int .i64 4] 3)).size)
  have LB24 := Lib.hid (LB23.out.trans (hb.mono LB23.out.size))
  have Ra7 := Lib.hid (Ra7.out.below hb Ra7.out.lt)
  clear hb LB23 
  clear Ra7
  have hb := bel_alloc w24 (.cells #[.int .i64 0, .int .i64 0, .slice none 0 0] 24)
  have LB25 := Lib.hid (LB24.out.trans (hb.mono LB24.out.size))
  clear hb LB24
  go_upto_region 12 with (fail)
  generalize w24.alloc (.cells #[.int .i64 0, .int .i64 0, .slice none 0 0] 24) = w25 at *
  go_wp2_with fail
  with_reducible refine Calls.mono (two_any _) ?_
  rintro e w26 ⟨kRa8, rfl, _, hrow, hb⟩
  have LB26 := Lib.hid (LB25.out.trans (hb.mono LB25.out.size))
  have Ra8 := Lib.hid hrow
  clear hb LB25 hrow
  go_wp2_with fail
  with_reducible refine Calls.mono (on4 _ _ _ Ra8.out) ?_
  rintro e w27 ⟨rfl, hb⟩
  have LB27 := Lib.hid (LB26.out.trans (hb.mono LB26.out.size))
  have Ra8 := Lib.hid (Ra8.out.below hb Ra8.out.lt)
  clear hb LB26 
  clear Ra8
  have hb := bel_alloc w27 (.cells #[.int .i64 0, .int .i64 0, .slice none 0 0] 24)
  have LB28 := Lib.hid (LB27.out.trans (hb.mono LB27.out.size))
  clear hb LB27
  go_upto_region 13 with (fail)
  generalize w27.alloc (.cells #[.int .i64 0, .int .i64 0, .slice none 0 0] 24) = w28 at *
  go_wp2_with fail
  with_reducible refine Calls.mono (two_any _) ?_
  rintro e w29 ⟨kRa9, rfl, _, hrow, hb⟩
  have LB29 := Lib.hid (LB28.out.trans (hb.mono LB28.out.size))
  have Ra9 := Lib.hid hrow
  clear hb LB28 hrow
  go_wp2_with fail
  with_reducible refine Calls.mono (he4 _ _ _ Ra9.out) ?_
  rintro e w30 ⟨rfl, hb⟩
  have LB30 := Lib.hid (LB29.out.trans (hb.mono LB29.out.size))
  have Ra9 := Lib.hid (Ra9.out.below hb Ra9.out.lt)
  clear hb LB29 
  clear Ra9
  go_wp2_with fail
  with_reducible refine Calls.mono (two_any _) ?_
  rintro e w31 ⟨kRa10, rfl, _, hrow, hb⟩
  have LB31 := Lib.hid (LB30.out.trans (hb.mono LB30.out.size))
  have Ra10 := Lib.hid hrow
  clear hb LB30 hrow
  go_wp2_with fail
  with_reducible refine Calls.mono (he5 _ _ _ Ra10.out) ?_
  rintro e w32 ⟨rfl, hb⟩
  have LB32 := Lib.hid (LB31.out.trans (hb.mono LB31.out.size))
  have Ra10 := Lib.hid (Ra10.out.below hb Ra10.out.lt)
  clear hb LB31 
  clear Ra10
  go_wp2_with fail
  with_reducible refine Calls.mono (two_any _) ?_
  rintro e w33 ⟨kRa11, rfl, _, hrow, hb⟩
  have LB33 := Lib.hid (LB32.out.trans (hb.mono LB32.out.size))
  have Ra11 := Lib.hid hrow
  clear hb LB32 hrow
  go_wp2_with fail
  with_reducible refine Calls.mono (sp3 _ _ _ Ra11.out) ?_
  rintro e w34 ⟨D5, c5, D6, c6, rfl, _, _, hb⟩
  have LB34 := Lib.hid (LB33.out.trans (hb.mono LB33.out.size))
  have Ra11 := Lib.hid (Ra11.out.below hb Ra11.out.lt)
  clear hb LB33 
  clear Ra11
  go_wp2_with fail
  with_reducible refine Calls.mono (two_any _) ?_
  rintro e w35 ⟨kRa12, rfl, _, hrow, hb⟩
  have LB35 := Lib.hid (LB34.out.trans (hb.mono LB34.out.size))
  have Ra12 := Lib.hid hrow
  clear hb LB34 hrow
  go_wp2_with fail
  with_reducible refine Calls.mono (spm _ _ _ Ra12.out) ?_
  rintro e w36 ⟨D7, c7, D8, c8, rfl, _, _, hb⟩
  have LB36 := Lib.hid (LB35.out.trans (hb.mono LB35.out.size))
  have Ra12 := Lib.hid (Ra12.out.below hb Ra12.out.lt)
  clear hb LB35 
  clear Ra12
  go_wp2_with fail
  with_reducible refine Calls.mono (pt_zero _) ?_
  rintro e w37 ⟨D9, c9, rfl, _, _, hb⟩
  have LB37 := Lib.hid (LB36.out.trans (hb.mono LB36.out.size))
  clear hb LB36 
  go_wp2_with fail
  with_reducible refine Calls.mono (ly_wide _) ?_
  rintro e w38 ⟨D10, c10, rfl, _, hb⟩
  have LB38 := Lib.hid (LB37.out.trans (hb.mono LB37.out.size))
  clear hb LB37 
  go_wp2_with fail
  with_reducible refine Calls.mono (two_any _) ?_
  rintro e w39 ⟨kRa13, rfl, _, hrow, hb⟩
  have LB39 := Lib.hid (LB38.out.trans (hb.mono LB38.out.size))
  have Ra13 := Lib.hid hrow
  clear hb LB38 hrow
  go_wp2_with fail
  with_reducible refine Calls.mono (on5 _ _ _ Ra13.out) ?_
  rintro e w40 ⟨rfl, hb⟩
  have hb := (bel_alloc w39 (.cells #[.int .i64 0, .int .i64 4, .int .i64 8] 3)).trans (hb.mono (bel_alloc w39 (.cells #[.int .i64 0, .int .i64 4, .int .i64 8] 3)).size)
  have LB40 := Lib.hid (LB39.out.trans (hb.mono LB39.out.size))
  have Ra13 := Lib.hid (Ra13.out.below hb Ra13.out.lt)
  clear hb LB39 
  clear Ra13
  have hb := bel_alloc w40 (.cells #[.int .i64 0, .int .i64 0, .slice none 0 0] 24)
  have LB41 := Lib.hid (LB40.out.trans (hb.mono LB40.out.size))
  clear hb LB40
  go_upto_region 20 with (fail)
  generalize w40.alloc (.cells #[.int .i64 0, .int .i64 0, .slice none 0 0] 24) = w41 at *
  go_wp2_with fail
  with_reducible refine Calls.mono (alive11_any _) ?_
  rintro e w42 ⟨rfl, hb⟩
  have LB42 := Lib.hid (LB41.out.trans (hb.mono LB41.out.size))
  clear hb LB41 
  go_wp2
  go_ret
  exact ⟨rfl, LB42.out⟩
end Go.Proofs.Ytchbbphokpmacaa
