/- The walk of the statement ThreadNames. -/
import Derived.Test.YtcmpoblbjjoaiaaDoorTurw
namespace Go.Proofs.YtcmpoblbjjoaiaaDoor
open Go.RowKit
set_option linter.unusedVariables false
set_option linter.unusedSimpArgs false
set_option maxRecDepth 100000

theorem tile_six (A : Option Addr) (w : World) (h : Holds w w.heap.size A 2 (lt [1, 2])) : Calls Tryd.prog 12 #[.slice A 2 2, .int .i64 3] w (LOut w 6 (fun x => lt [1, 2] (x % 2)) 0) :=
  tile_ok A 2 2 _ 3 w h (by omega) (by decide) (fun _ => by decide)
theorem tile_nil (t : Int) (h0 : 0 ≤ t) (h1 : t ≤ 9223372036854775807) (w : World) (F : Nat → Int) : Calls Tryd.prog 12 #[.slice none 0 0, .int .i64 t] w (LOut w 0 F 0) := by
  obtain ⟨T, rfl⟩ : ∃ T : Nat, t = T := ⟨t.toNat, by omega⟩
  have h := tile_ok none 0 0 (fun _ => 0) T w Holds.none_ (by omega) (by decide) (fun h => absurd h (by omega))
  rw [Nat.zero_mul] at h
  exact h.mono fun e w' ⟨A, c, he, hn, _, hb⟩ => ⟨A, c, he, hn, fun h => absurd h (by omega), hb⟩
theorem used_550 (A : Option Addr) (w : World) (h : Holds w w.heap.size A 3 (lt [5, 5, 0])) : Calls Tryd.prog 16 #[.slice A 3 3] w (IOut w 2 0) :=
  used_ok A 3 3 _ w h (by decide)
theorem tx400 : tx (lt [399, 0]) 2 = [52, 48, 48, 32, 49] := by
  rw [tx_succ _ (by omega), tx_one]
  have e0 : wo (lt [399, 0] 0) = [52, 48, 48] := by show dd 400 = _; rw [dd_big (by omega), dd_big (by omega), dd_small (by omega)]; rfl
  have e1 : wo (lt [399, 0] 1) = [49] := by show dd 1 = _; rw [dd_small (by omega)]; rfl
  rw [e0, e1]
  rfl
theorem parse_400 (w : World) (h : Env w) : Calls Tryd.prog 15 #[.string ⟨#[52, 48, 48, 32, 49]⟩] w (LOut w 2 (lt [399, 0]) 0) := by
  obtain ⟨h1, h2⟩ := tx_back (f := lt [399, 0]) (n := 2) (by omega) (fun i hi => by
    have : i = 0 ∨ i = 1 := by omega
    rcases this with rfl | rfl <;> decide)
  rw [tx400] at h1 h2
  have e : psVals [52, 48, 48, 32, 49] = [399, 0] := by rw [h2]; rfl
  refine (parse_any ⟨#[52, 48, 48, 32, 49]⟩ (by decide) w h).mono ?_
  rintro e' w' (⟨_, A, c, he, hn, hr, hb⟩ | ⟨hn, _⟩)
  · have e3 : (⟨#[52, 48, 48, 32, 49]⟩ : ByteArray).data.toList = [52, 48, 48, 32, 49] := rfl
    rw [e3, e] at he hr
    refine ⟨A, c, he, hn, fun h0 => ?_, hb⟩
    obtain ⟨k, e4, hk, row⟩ := hr h0
    refine ⟨k, e4, hk, row.congr fun i hi => ?_⟩
    have : i = 0 ∨ i = 1 := by simp at hi; omega
    rcases this with rfl | rfl <;> rfl
  · exact absurd h1 hn
theorem wd_not {l : List UInt8} (h : ∀ v : Int, Lib.atoiAll l ≠ .ok v) : wd l = none := by
  cases hw : wd l with
  | none => rfl
  | some v =>
    obtain ⟨h1, h2⟩ := wd_spec hw
    have := dd_atoi (n := v + 1) (by omega)
    rw [h2] at this
    exact absurd this (h _)
theorem r0 : ¬ psAll [32] := not_ps (by simp) [] (by decide) wd_nil
theorem r1 : ¬ psAll [49, 32] := not_ps (by simp) [] (by decide) wd_nil
theorem r2 : ¬ psAll [43, 49] := not_ps (by simp) [43, 49] (by decide) (wd_first (by decide))
theorem r3 : ¬ psAll [45, 49] := not_ps (by simp) [45, 49] (by decide) (wd_first (by decide))
theorem r4 : ¬ psAll [49, 44, 50] := not_ps (by simp) [49, 44, 50] (by decide) (wd_not (by intro v hv; have : Lib.atoiAll [49, 44, 50] ≠ .ok v := (by intro h; cases h); exact this hv))
theorem r5 : ¬ psAll [57, 57, 57, 57, 57, 57, 57, 57, 57, 57, 57, 57, 57, 57, 57, 57, 57, 57, 57, 57] :=
  not_ps (by simp) [57, 57, 57, 57, 57, 57, 57, 57, 57, 57, 57, 57, 57, 57, 57, 57, 57, 57, 57, 57] (by decide) (wd_not (by intro v hv; have h : Lib.atoiAll [57, 57, 57, 57, 57, 57, 57, 57, 57, 57, 57, 57, 57, 57, 57, 57, 57, 57, 57, 57] = .range := (by decide); rw [h] at hv; cases hv))
theorem l401 : lchk 401 (fun _ => 0) = 4 := by unfold lchk; rw [if_pos (by omega)]
theorem j401 : jchk 400 (fun _ => 0) 1 (lt [1]) = 4 := by
  have h1 : lchk 400 (fun _ => 0) = 0 := lchk_of (by omega) fun i _ => by omega
  have h2 : lchk 1 (lt [1]) = 0 := by decide
  unfold jchk
  rw [bchk_of h1 h2, if_neg (by simp), if_pos (by omega)]
theorem nc1 : ¬ Cons (lt [1, 1]) (lt [1, 2]) 2 := fun h => absurd ((h 1 0 (by omega) (by omega)).1 (by decide)) (by decide)
theorem nc2 : ¬ Cons (lt [1, 2]) (lt [1, 1]) 2 := fun h => absurd ((h 1 0 (by omega) (by omega)).2 (by decide)) (by decide)
theorem match_no (A : Option Addr) (n c : Nat) (a : Nat → Int) (D : Option Addr) (d : Nat) (b : Nat → Int) (N : Nat) (w : World) (hr : Holds w w.heap.size A n a) (hs : Holds w w.heap.size D n b) (h0 : 0 < n)
    (hx : lchk n a = 0) (hy : lchk n b = 0) (hN : mxs a n + 1 = (N : Int)) (hc : ¬ Cons a b n) : Calls Tryd.prog 14 #[.slice A n c, .slice D n d] w (LOut w 0 (fun _ => 0) 6) :=
  (match_main A n c a D d b N w hr hs h0 (lchk_le hx) (bchk_of hx hy) hN (lchk_zero hx) (lchk_zero hy)).mono fun _ _ h => h.elim (fun h => absurd h.1 hc) (fun h => h.2)
theorem LV.next2 {v v' : World} {lo hi : Nat} {A : Option Addr} {n : Nat} {F : Nat → Int} (h : LV v lo hi A n F) (hb : Below v.heap.size v v') : LV v' lo hi A n F := h.next hb

set_option maxHeartbeats 25600000 in
theorem names_any (w : World) (h : Env w) : Calls Tryd.prog 3 #[] w fun e w' => e = .returned (.bool true) ∧ Below w.heap.size w w' := by
  have HE := Lib.hid h
  clear h
  obtain ⟨mc, hmc⟩ : ∃ mc, mc = madeCells #[.int .i64 0] 400 := ⟨_, rfl⟩
  obtain ⟨md, hmd⟩ : ∃ md, md = madeCells #[.int .i64 0] 401 := ⟨_, rfl⟩
  have hmk : ∀ w, (Instr.makeSlice 22 (.int .i64 400) (.int .i64 400)).run Tryd.prog w = .ok (.slice (some ⟨w.heap.size, 0, none⟩) 400 400) (w.alloc (.cells mc 3)) := by rw [hmc]; exact make_run 400 (by omega)
  have hml : ∀ w, (Instr.makeSlice 22 (.int .i64 401) (.int .i64 401)).run Tryd.prog w = .ok (.slice (some ⟨w.heap.size, 0, none⟩) 401 401) (w.alloc (.cells md 3)) := by rw [hmd]; exact make_run 401 (by omega)
  have HMC : Hid (∀ w : World, Row (w.alloc (.cells mc 3)) w.heap.size 400 (fun _ => 0)) := Lib.hid fun w => by rw [hmc]; exact Row.made w 400
  have HMD : Hid (∀ w : World, Row (w.alloc (.cells md 3)) w.heap.size 401 (fun _ => 0)) := Lib.hid fun w => by rw [hmd]; exact Row.made w 401
  clear hmc hmd
  go_enter Tryd.func3, Tryd.ntmps3
  have L0 := Lib.hid (Below.refl w.heap.size w)
  have T := Lib.hid (straight_ok 3 5 w (by decide) (by omega) (by omega) (by omega))
  go_wp2_with fail
  refine T.out.mono ?_
  rintro e u1 ⟨Aa, ca, rfl, -, hrow, hb⟩
  have Va := Lib.hid (LV.of hrow)
  clear hrow
  have L1 := Lib.hid (L0.out.trans (hb.mono L0.out.size))
  clear hb L0 T
  have T := Lib.hid (pointed_ok 1 3 u1 (by decide) (by omega) (by omega) (by omega))
  go_wp2_with fail
  refine T.out.mono ?_
  rintro e u2 ⟨Ab, cb, rfl, -, hrow, hb⟩
  have Vb := Lib.hid (LV.of hrow)
  clear hrow
  have L2 := Lib.hid (L1.out.trans (hb.mono L1.out.size))
  have Va_2 := Lib.hid (Va.out.next hb)
  clear hb L1 Va T
  have T := Lib.hid (pointed_ok 2 5 u2 (by decide) (by omega) (by omega) (by omega))
  go_wp2_with fail
  refine T.out.mono ?_
  rintro e u3 ⟨Ac, cc, rfl, -, hrow, hb⟩
  have Vc := Lib.hid (LV.of hrow)
  clear hrow
  have L3 := Lib.hid (L2.out.trans (hb.mono L2.out.size))
  have Va_3 := Lib.hid (Va_2.out.next hb)
  have Vb_3 := Lib.hid (Vb.out.next hb)
  clear hb L2 Va_2 Vb T
  have B := Lib.hid (((Below.refl u3.heap.size u3).alloc (by simp) (.cells #[.int .i64 1] 3)).alloc (by simp) (.cells #[.int .i64 2, .int .i64 3] 3))
  have R0 := Lib.hid ((lit_row u3 [1] (cs := #[.int .i64 1]) rfl).alloc (.cells #[.int .i64 2, .int .i64 3] 3))
  have R1 := Lib.hid (lit_row (u3.alloc (.cells #[.int .i64 1] 3)) [2, 3] (cs := #[.int .i64 2, .int .i64 3]) rfl)
  have T := Lib.hid (join_ok _ 1 1 _ _ 2 2 _ _ (R0.out.holds (by simp only [World.size_alloc]; omega)) (R1.out.holds (by simp only [World.size_alloc]; omega)) (by simp) (by simp) (by omega) (by omega) (by decide) (by omega))
  simp only [World.size_alloc] at T
  go_wp2_with fail
  refine T.out.mono ?_
  rintro e u4 ⟨Ad, cd, rfl, -, hrow, hb⟩
  have Vd := Lib.hid (LV.of hrow)
  clear hrow
  have hb := B.out.trans (hb.mono (by simp only [World.size_alloc]; omega))
  have L4 := Lib.hid (L3.out.trans (hb.mono L3.out.size))
  have Va_4 := Lib.hid (Va_3.out.next hb)
  have Vb_4 := Lib.hid (Vb_3.out.next hb)
  have Vc_4 := Lib.hid (Vc.out.next hb)
  clear hb B R0 R1 L3 Va_3 Vb_3 Vc T
  have B := Lib.hid ((Below.refl u4.heap.size u4).alloc (by simp) (.cells #[.int .i64 1, .int .i64 2] 3))
  have R0 := Lib.hid (lit_row u4 [1, 2] (cs := #[.int .i64 1, .int .i64 2]) rfl)
  have T := Lib.hid (tile_six _ _ (R0.out.holds (by simp only [World.size_alloc]; omega)))
  go_wp2_with fail
  refine T.out.mono ?_
  rintro e u5 ⟨Af, cf, rfl, -, hrow, hb⟩
  have Vf := Lib.hid (LV.of hrow)
  clear hrow
  have hb := B.out.trans (hb.mono (by simp only [World.size_alloc]; omega))
  have L5 := Lib.hid (L4.out.trans (hb.mono L4.out.size))
  have Va_5 := Lib.hid (Va_4.out.next hb)
  have Vb_5 := Lib.hid (Vb_4.out.next hb)
  have Vc_5 := Lib.hid (Vc_4.out.next hb)
  have Vd_5 := Lib.hid (Vd.out.next hb)
  clear hb B R0 L4 Va_4 Vb_4 Vc_4 Vd T
  have B := Lib.hid ((Below.refl u5.heap.size u5).alloc (by simp) (.cells #[.int .i64 1, .int .i64 2, .int .i64 3] 3))
  have R0 := Lib.hid (lit_row u5 [1, 2, 3] (cs := #[.int .i64 1, .int .i64 2, .int .i64 3]) rfl)
  have T := Lib.hid (rev_ok _ 3 3 _ _ (by omega) (R0.out.holds (by simp only [World.size_alloc]; omega)) (by decide))
  go_wp2_with fail
  refine T.out.mono ?_
  rintro e u6 ⟨Ag, cg, rfl, -, hrow, hb⟩
  have Vg := Lib.hid (LV.of hrow)
  clear hrow
  have hb := B.out.trans (hb.mono (by simp only [World.size_alloc]; omega))
  have L6 := Lib.hid (L5.out.trans (hb.mono L5.out.size))
  have Va_6 := Lib.hid (Va_5.out.next hb)
  have Vb_6 := Lib.hid (Vb_5.out.next hb)
  have Vc_6 := Lib.hid (Vc_5.out.next hb)
  have Vd_6 := Lib.hid (Vd_5.out.next hb)
  have Vf_6 := Lib.hid (Vf.out.next hb)
  clear hb B R0 L5 Va_5 Vb_5 Vc_5 Vd_5 Vf T
  have T := Lib.hid (match_nil none 0 (fun _ => 0) none 0 (fun _ => 0) (fun _ => 0) u6)
  go_wp2_with fail
  refine T.out.mono ?_
  rintro e u7 ⟨Am, cm, rfl, -, hrow, hb⟩
  have Vm := Lib.hid (LV.of hrow)
  clear hrow
  have L7 := Lib.hid (L6.out.trans (hb.mono L6.out.size))
  have Va_7 := Lib.hid (Va_6.out.next hb)
  have Vb_7 := Lib.hid (Vb_6.out.next hb)
  have Vc_7 := Lib.hid (Vc_6.out.next hb)
  have Vd_7 := Lib.hid (Vd_6.out.next hb)
  have Vf_7 := Lib.hid (Vf_6.out.next hb)
  have Vg_7 := Lib.hid (Vg.out.next hb)
  clear hb L6 Va_6 Vb_6 Vc_6 Vd_6 Vf_6 Vg T
  have T := Lib.hid (parse_400 u7 (HE.out.next L7.out))
  go_wp2_with fail
  refine T.out.mono ?_
  rintro e u8 ⟨Ap, cp, rfl, -, hrow, hb⟩
  have Vp := Lib.hid (LV.of hrow)
  clear hrow
  have L8 := Lib.hid (L7.out.trans (hb.mono L7.out.size))
  have Va_8 := Lib.hid (Va_7.out.next hb)
  have Vb_8 := Lib.hid (Vb_7.out.next hb)
  have Vc_8 := Lib.hid (Vc_7.out.next hb)
  have Vd_8 := Lib.hid (Vd_7.out.next hb)
  have Vf_8 := Lib.hid (Vf_7.out.next hb)
  have Vg_8 := Lib.hid (Vg_7.out.next hb)
  have Vm_8 := Lib.hid (Vm.out.next hb)
  clear hb L7 Va_7 Vb_7 Vc_7 Vd_7 Vf_7 Vg_7 Vm T
  have B := Lib.hid ((Below.refl u8.heap.size u8).alloc (by simp) (.cells #[.int .i64 5, .int .i64 5, .int .i64 0] 3))
  have R0 := Lib.hid (lit_row u8 [5, 5, 0] (cs := #[.int .i64 5, .int .i64 5, .int .i64 0]) rfl)
  have T := Lib.hid (used_550 _ _ (R0.out.holds (by simp only [World.size_alloc]; omega)))
  go_wp2_with fail
  refine T.out.mono ?_
  rintro e u9 ⟨rfl, hb⟩
  have hb := B.out.trans (hb.mono (by simp only [World.size_alloc]; omega))
  have L9 := Lib.hid (L8.out.trans (hb.mono L8.out.size))
  have Va_9 := Lib.hid (Va_8.out.next hb)
  have Vb_9 := Lib.hid (Vb_8.out.next hb)
  have Vc_9 := Lib.hid (Vc_8.out.next hb)
  have Vd_9 := Lib.hid (Vd_8.out.next hb)
  have Vf_9 := Lib.hid (Vf_8.out.next hb)
  have Vg_9 := Lib.hid (Vg_8.out.next hb)
  have Vm_9 := Lib.hid (Vm_8.out.next hb)
  have Vp_9 := Lib.hid (Vp.out.next hb)
  clear hb B R0 L8 Va_8 Vb_8 Vc_8 Vd_8 Vf_8 Vg_8 Vm_8 Vp T
  have T := Lib.hid (tile_nil 9223372036854775807 (by omega) (by omega) u9 (fun _ => 0))
  go_wp2_with fail
  refine T.out.mono ?_
  rintro e u10 ⟨As, cs, rfl, -, hrow, hb⟩
  have Vs := Lib.hid (LV.of hrow)
  clear hrow
  have L10 := Lib.hid (L9.out.trans (hb.mono L9.out.size))
  have Va_10 := Lib.hid (Va_9.out.next hb)
  have Vb_10 := Lib.hid (Vb_9.out.next hb)
  have Vc_10 := Lib.hid (Vc_9.out.next hb)
  have Vd_10 := Lib.hid (Vd_9.out.next hb)
  have Vf_10 := Lib.hid (Vf_9.out.next hb)
  have Vg_10 := Lib.hid (Vg_9.out.next hb)
  have Vm_10 := Lib.hid (Vm_9.out.next hb)
  have Vp_10 := Lib.hid (Vp_9.out.next hb)
  clear hb L9 Va_9 Vb_9 Vc_9 Vd_9 Vf_9 Vg_9 Vm_9 Vp_9 T
  have B := Lib.hid ((Below.refl u10.heap.size u10).alloc (by simp) (.cells #[.int .i64 0, .int .i64 1, .int .i64 2, .int .i64 0, .int .i64 1] 3))
  have R0 := Lib.hid (lit_row u10 [0, 1, 2, 0, 1] (cs := #[.int .i64 0, .int .i64 1, .int .i64 2, .int .i64 0, .int .i64 1]) rfl)
  have T := Lib.hid (is_yes _ _ 5 ca 5 _ _ _ (by omega) (Va_10.out.next B.out).holds (R0.out.holds (by simp only [World.size_alloc]; omega)) (by decide))
  go_wp2_with fail
  refine T.out.mono ?_
  rintro e u11 ⟨rfl, hb⟩
  have hb := B.out.trans (hb.mono (by simp only [World.size_alloc]; omega))
  have L11 := Lib.hid (L10.out.trans (hb.mono L10.out.size))
  have Vb_11 := Lib.hid (Vb_10.out.next hb)
  have Vc_11 := Lib.hid (Vc_10.out.next hb)
  have Vd_11 := Lib.hid (Vd_10.out.next hb)
  have Vf_11 := Lib.hid (Vf_10.out.next hb)
  have Vg_11 := Lib.hid (Vg_10.out.next hb)
  have Vm_11 := Lib.hid (Vm_10.out.next hb)
  have Vp_11 := Lib.hid (Vp_10.out.next hb)
  have Vs_11 := Lib.hid (Vs.out.next hb)
  clear hb B R0 L10 Vb_10 Vc_10 Vd_10 Vf_10 Vg_10 Vm_10 Vp_10 Vs T Va_10
  have B := Lib.hid ((Below.refl u11.heap.size u11).alloc (by simp) (.cells #[.int .i64 0, .int .i64 0, .int .i64 0] 3))
  have R0 := Lib.hid (lit_row u11 [0, 0, 0] (cs := #[.int .i64 0, .int .i64 0, .int .i64 0]) rfl)
  have T := Lib.hid (is_yes _ _ 3 cb 3 _ _ _ (by omega) (Vb_11.out.next B.out).holds (R0.out.holds (by simp only [World.size_alloc]; omega)) (by decide))
  go_wp2_with fail
  refine T.out.mono ?_
  rintro e u12 ⟨rfl, hb⟩
  have hb := B.out.trans (hb.mono (by simp only [World.size_alloc]; omega))
  have L12 := Lib.hid (L11.out.trans (hb.mono L11.out.size))
  have Vc_12 := Lib.hid (Vc_11.out.next hb)
  have Vd_12 := Lib.hid (Vd_11.out.next hb)
  have Vf_12 := Lib.hid (Vf_11.out.next hb)
  have Vg_12 := Lib.hid (Vg_11.out.next hb)
  have Vm_12 := Lib.hid (Vm_11.out.next hb)
  have Vp_12 := Lib.hid (Vp_11.out.next hb)
  have Vs_12 := Lib.hid (Vs_11.out.next hb)
  clear hb B R0 L11 Vc_11 Vd_11 Vf_11 Vg_11 Vm_11 Vp_11 Vs_11 T Vb_11
  have B := Lib.hid ((Below.refl u12.heap.size u12).alloc (by simp) (.cells #[.int .i64 0, .int .i64 1, .int .i64 0, .int .i64 1, .int .i64 0] 3))
  have R0 := Lib.hid (lit_row u12 [0, 1, 0, 1, 0] (cs := #[.int .i64 0, .int .i64 1, .int .i64 0, .int .i64 1, .int .i64 0]) rfl)
  have T := Lib.hid (is_yes _ _ 5 cc 5 _ _ _ (by omega) (Vc_12.out.next B.out).holds (R0.out.holds (by simp only [World.size_alloc]; omega)) (by decide))
  go_wp2_with fail
  refine T.out.mono ?_
  rintro e u13 ⟨rfl, hb⟩
  have hb := B.out.trans (hb.mono (by simp only [World.size_alloc]; omega))
  have L13 := Lib.hid (L12.out.trans (hb.mono L12.out.size))
  have Vd_13 := Lib.hid (Vd_12.out.next hb)
  have Vf_13 := Lib.hid (Vf_12.out.next hb)
  have Vg_13 := Lib.hid (Vg_12.out.next hb)
  have Vm_13 := Lib.hid (Vm_12.out.next hb)
  have Vp_13 := Lib.hid (Vp_12.out.next hb)
  have Vs_13 := Lib.hid (Vs_12.out.next hb)
  clear hb B R0 L12 Vd_12 Vf_12 Vg_12 Vm_12 Vp_12 Vs_12 T Vc_12
  have B := Lib.hid ((Below.refl u13.heap.size u13).alloc (by simp) (.cells #[.int .i64 1, .int .i64 2, .int .i64 3] 3))
  have R0 := Lib.hid (lit_row u13 [1, 2, 3] (cs := #[.int .i64 1, .int .i64 2, .int .i64 3]) rfl)
  have T := Lib.hid (is_yes _ _ 3 cd 3 _ _ _ (by omega) (Vd_13.out.next B.out).holds (R0.out.holds (by simp only [World.size_alloc]; omega)) (by decide))
  go_wp2_with fail
  refine T.out.mono ?_
  rintro e u14 ⟨rfl, hb⟩
  have hb := B.out.trans (hb.mono (by simp only [World.size_alloc]; omega))
  have L14 := Lib.hid (L13.out.trans (hb.mono L13.out.size))
  have Vf_14 := Lib.hid (Vf_13.out.next hb)
  have Vg_14 := Lib.hid (Vg_13.out.next hb)
  have Vm_14 := Lib.hid (Vm_13.out.next hb)
  have Vp_14 := Lib.hid (Vp_13.out.next hb)
  have Vs_14 := Lib.hid (Vs_13.out.next hb)
  clear hb B R0 L13 Vf_13 Vg_13 Vm_13 Vp_13 Vs_13 T Vd_13
  have B := Lib.hid ((Below.refl u14.heap.size u14).alloc (by simp) (.cells #[.int .i64 1, .int .i64 2, .int .i64 1, .int .i64 2, .int .i64 1, .int .i64 2] 3))
  have R0 := Lib.hid (lit_row u14 [1, 2, 1, 2, 1, 2] (cs := #[.int .i64 1, .int .i64 2, .int .i64 1, .int .i64 2, .int .i64 1, .int .i64 2]) rfl)
  have T := Lib.hid (is_yes _ _ 6 cf 6 _ _ _ (by omega) (Vf_14.out.next B.out).holds (R0.out.holds (by simp only [World.size_alloc]; omega)) (by decide))
  go_wp2_with fail
  refine T.out.mono ?_
  rintro e u15 ⟨rfl, hb⟩
  have hb := B.out.trans (hb.mono (by simp only [World.size_alloc]; omega))
  have L15 := Lib.hid (L14.out.trans (hb.mono L14.out.size))
  have Vg_15 := Lib.hid (Vg_14.out.next hb)
  have Vm_15 := Lib.hid (Vm_14.out.next hb)
  have Vp_15 := Lib.hid (Vp_14.out.next hb)
  have Vs_15 := Lib.hid (Vs_14.out.next hb)
  clear hb B R0 L14 Vg_14 Vm_14 Vp_14 Vs_14 T Vf_14
  have B := Lib.hid ((Below.refl u15.heap.size u15).alloc (by simp) (.cells #[.int .i64 3, .int .i64 2, .int .i64 1] 3))
  have R0 := Lib.hid (lit_row u15 [3, 2, 1] (cs := #[.int .i64 3, .int .i64 2, .int .i64 1]) rfl)
  have T := Lib.hid (is_yes _ _ 3 cg 3 _ _ _ (by omega) (Vg_15.out.next B.out).holds (R0.out.holds (by simp only [World.size_alloc]; omega)) (by decide))
  go_wp2_with fail
  refine T.out.mono ?_
  rintro e u16 ⟨rfl, hb⟩
  have hb := B.out.trans (hb.mono (by simp only [World.size_alloc]; omega))
  have L16 := Lib.hid (L15.out.trans (hb.mono L15.out.size))
  have Vm_16 := Lib.hid (Vm_15.out.next hb)
  have Vp_16 := Lib.hid (Vp_15.out.next hb)
  have Vs_16 := Lib.hid (Vs_15.out.next hb)
  clear hb B R0 L15 Vm_15 Vp_15 Vs_15 T Vg_15
  have T := Lib.hid (is_yes Am none 0 cm 0 (fun _ => 0) (fun _ => 0) u16 (by omega) Holds.none_ Holds.none_ (fun _ _ => rfl))
  go_wp2_with fail
  refine T.out.mono ?_
  rintro e u17 ⟨rfl, hb⟩
  have L17 := Lib.hid (L16.out.trans (hb.mono L16.out.size))
  have Vp_17 := Lib.hid (Vp_16.out.next hb)
  have Vs_17 := Lib.hid (Vs_16.out.next hb)
  clear hb L16 Vp_16 Vs_16 T Vm_16
  have B := Lib.hid ((Below.refl u17.heap.size u17).alloc (by simp) (.cells #[.int .i64 399, .int .i64 0] 3))
  have R0 := Lib.hid (lit_row u17 [399, 0] (cs := #[.int .i64 399, .int .i64 0]) rfl)
  have T := Lib.hid (is_yes _ _ 2 cp 2 _ _ _ (by omega) (Vp_17.out.next B.out).holds (R0.out.holds (by simp only [World.size_alloc]; omega)) (by decide))
  go_wp2_with fail
  refine T.out.mono ?_
  rintro e u18 ⟨rfl, hb⟩
  have hb := B.out.trans (hb.mono (by simp only [World.size_alloc]; omega))
  have L18 := Lib.hid (L17.out.trans (hb.mono L17.out.size))
  have Vs_18 := Lib.hid (Vs_17.out.next hb)
  clear hb B R0 L17 Vs_17 T Vp_17
  have T := Lib.hid (is_yes As none 0 cs 0 (fun _ => 0) (fun _ => 0) u18 (by omega) Holds.none_ Holds.none_ (fun _ _ => rfl))
  go_wp2_with fail
  refine T.out.mono ?_
  rintro e u19 ⟨rfl, hb⟩
  have L19 := Lib.hid (L18.out.trans (hb.mono L18.out.size))
  clear hb L18 T Vs_18
  have T := Lib.hid (straight_err 0 1 u19 (fun _ => 0) (by decide))
  go_wp2_with fail
  refine T.out.mono ?_
  rintro e u20 ⟨Ae1, ce1, rfl, -, hrow, hb⟩
  clear hrow
  have L20 := Lib.hid (L19.out.trans (hb.mono L19.out.size))
  clear hb L19 T
  have T := Lib.hid (pointed_err 401 1 u20 (fun _ => 0) (by decide))
  go_wp2_with fail
  refine T.out.mono ?_
  rintro e u21 ⟨Ae2, ce2, rfl, -, hrow, hb⟩
  clear hrow
  have L21 := Lib.hid (L20.out.trans (hb.mono L20.out.size))
  clear hb L20 T
  have T := Lib.hid (straight_err 1 401 u21 (fun _ => 0) (by decide))
  go_wp2_with fail
  refine T.out.mono ?_
  rintro e u22 ⟨Ae3, ce3, rfl, -, hrow, hb⟩
  clear hrow
  have L22 := Lib.hid (L21.out.trans (hb.mono L21.out.size))
  clear hb L21 T
  have B := Lib.hid (((Below.refl u22.heap.size u22).alloc (Nat.le_refl _) (.cells mc 3)).alloc (by simp) (.cells #[.int .i64 1] 3))
  have R0 := Lib.hid ((HMC.out u22).alloc (.cells #[.int .i64 1] 3))
  have R1 := Lib.hid (lit_row (u22.alloc (.cells mc 3)) [1] (cs := #[.int .i64 1]) rfl)
  have T := Lib.hid (join_err _ 400 400 _ _ 1 1 _ (fun _ => 0) _ 4 (R0.out.holds (by simp only [World.size_alloc]; omega)) (R1.out.holds (by simp only [World.size_alloc]; omega)) (by omega) (by omega) j401 (by decide))
  simp only [World.size_alloc] at T
  go_wp2_with fail
  refine T.out.mono ?_
  rintro e u23 ⟨Ae4, ce4, rfl, -, hrow, hb⟩
  clear hrow
  have hb := B.out.trans (hb.mono (by simp only [World.size_alloc]; omega))
  have L23 := Lib.hid (L22.out.trans (hb.mono L22.out.size))
  clear hb B R0 R1 L22 T
  have B := Lib.hid ((Below.refl u23.heap.size u23).alloc (by simp) (.cells #[.int .i64 1, .int .i64 2] 3))
  have R0 := Lib.hid (lit_row u23 [1, 2] (cs := #[.int .i64 1, .int .i64 2]) rfl)
  have T := Lib.hid (tile_err _ 2 2 _ (fun _ => 0) 201 _ 4 (by omega) (R0.out.holds (by simp only [World.size_alloc]; omega)) (by omega) (by omega) (by decide) (by decide))
  go_wp2_with fail
  refine T.out.mono ?_
  rintro e u24 ⟨Ae5, ce5, rfl, -, hrow, hb⟩
  clear hrow
  have hb := B.out.trans (hb.mono (by simp only [World.size_alloc]; omega))
  have L24 := Lib.hid (L23.out.trans (hb.mono L23.out.size))
  clear hb B R0 L23 T
  have B := Lib.hid ((Below.refl u24.heap.size u24).alloc (by simp) (.cells #[.int .i64 1] 3))
  have R0 := Lib.hid (lit_row u24 [1] (cs := #[.int .i64 1]) rfl)
  have T := Lib.hid (tile_err _ 1 1 _ (fun _ => 0) (-1) _ 2 (by omega) (R0.out.holds (by simp only [World.size_alloc]; omega)) (by omega) (by omega) (by decide) (by decide))
  go_wp2_with fail
  refine T.out.mono ?_
  rintro e u25 ⟨Ae6, ce6, rfl, -, hrow, hb⟩
  clear hrow
  have hb := B.out.trans (hb.mono (by simp only [World.size_alloc]; omega))
  have L25 := Lib.hid (L24.out.trans (hb.mono L24.out.size))
  clear hb B R0 L24 T
  have B := Lib.hid (((Below.refl u25.heap.size u25).alloc (by simp) (.cells #[.int .i64 1] 3)).alloc (by simp) (.cells #[.int .i64 1, .int .i64 2] 3))
  have R0 := Lib.hid ((lit_row u25 [1] (cs := #[.int .i64 1]) rfl).alloc (.cells #[.int .i64 1, .int .i64 2] 3))
  have R1 := Lib.hid (lit_row (u25.alloc (.cells #[.int .i64 1] 3)) [1, 2] (cs := #[.int .i64 1, .int .i64 2]) rfl)
  have T := Lib.hid (match_err _ 1 1 _ _ 2 2 _ (fun _ => 0) _ 2 (R0.out.holds (by simp only [World.size_alloc]; omega)) (R1.out.holds (by simp only [World.size_alloc]; omega)) (by omega) (by omega) (by decide) (by decide))
  simp only [World.size_alloc] at T
  go_wp2_with fail
  refine T.out.mono ?_
  rintro e u26 ⟨Ae7, ce7, rfl, -, hrow, hb⟩
  clear hrow
  have hb := B.out.trans (hb.mono (by simp only [World.size_alloc]; omega))
  have L26 := Lib.hid (L25.out.trans (hb.mono L25.out.size))
  clear hb B R0 R1 L25 T
  have B := Lib.hid (((Below.refl u26.heap.size u26).alloc (by simp) (.cells #[.int .i64 1, .int .i64 1] 3)).alloc (by simp) (.cells #[.int .i64 1, .int .i64 2] 3))
  have R0 := Lib.hid ((lit_row u26 [1, 1] (cs := #[.int .i64 1, .int .i64 1]) rfl).alloc (.cells #[.int .i64 1, .int .i64 2] 3))
  have R1 := Lib.hid (lit_row (u26.alloc (.cells #[.int .i64 1, .int .i64 1] 3)) [1, 2] (cs := #[.int .i64 1, .int .i64 2]) rfl)
  have T := Lib.hid (match_no _ 2 2 _ _ 2 _ 2 _ (R0.out.holds (by simp only [World.size_alloc]; omega)) (R1.out.holds (by simp only [World.size_alloc]; omega)) (by omega) (by decide) (by decide) (by decide) nc1)
  simp only [World.size_alloc] at T
  go_wp2_with fail
  refine T.out.mono ?_
  rintro e u27 ⟨Ae8, ce8, rfl, -, hrow, hb⟩
  clear hrow
  have hb := B.out.trans (hb.mono (by simp only [World.size_alloc]; omega))
  have L27 := Lib.hid (L26.out.trans (hb.mono L26.out.size))
  clear hb B R0 R1 L26 T
  have B := Lib.hid (((Below.refl u27.heap.size u27).alloc (by simp) (.cells #[.int .i64 1, .int .i64 2] 3)).alloc (by simp) (.cells #[.int .i64 1, .int .i64 1] 3))
  have R0 := Lib.hid ((lit_row u27 [1, 2] (cs := #[.int .i64 1, .int .i64 2]) rfl).alloc (.cells #[.int .i64 1, .int .i64 1] 3))
  have R1 := Lib.hid (lit_row (u27.alloc (.cells #[.int .i64 1, .int .i64 2] 3)) [1, 1] (cs := #[.int .i64 1, .int .i64 1]) rfl)
  have T := Lib.hid (match_no _ 2 2 _ _ 2 _ 3 _ (R0.out.holds (by simp only [World.size_alloc]; omega)) (R1.out.holds (by simp only [World.size_alloc]; omega)) (by omega) (by decide) (by decide) (by decide) nc2)
  simp only [World.size_alloc] at T
  go_wp2_with fail
  refine T.out.mono ?_
  rintro e u28 ⟨Ae9, ce9, rfl, -, hrow, hb⟩
  clear hrow
  have hb := B.out.trans (hb.mono (by simp only [World.size_alloc]; omega))
  have L28 := Lib.hid (L27.out.trans (hb.mono L27.out.size))
  clear hb B R0 R1 L27 T
  have B := Lib.hid ((Below.refl u28.heap.size u28).alloc (Nat.le_refl _) (.cells md 3))
  have R0 := Lib.hid (HMD.out u28)
  have T := Lib.hid (chk_is 401 (by omega) l401 _ (R0.out.holds (by simp only [World.size_alloc]; omega)))
  go_wp2_with fail
  refine T.out.mono ?_
  rintro e u29 ⟨rfl, hb⟩
  have hb := B.out.trans (hb.mono (by simp only [World.size_alloc]; omega))
  have L29 := Lib.hid (L28.out.trans (hb.mono L28.out.size))
  clear hb B R0 L28 T
  have B := Lib.hid ((Below.refl u29.heap.size u29).alloc (by simp) (.cells #[.int .i64 400] 3))
  have R0 := Lib.hid (lit_row u29 [400] (cs := #[.int .i64 400]) rfl)
  have T := Lib.hid (chk_is (err := 8) 1 (by simp) (by decide) _ (R0.out.holds (by simp only [World.size_alloc]; omega)))
  go_wp2_with fail
  refine T.out.mono ?_
  rintro e u30 ⟨rfl, hb⟩
  have hb := B.out.trans (hb.mono (by simp only [World.size_alloc]; omega))
  have L30 := Lib.hid (L29.out.trans (hb.mono L29.out.size))
  clear hb B R0 L29 T
  have B := Lib.hid ((Below.refl u30.heap.size u30).alloc (by simp) (.cells #[.int .i64 (-1)] 3))
  have R0 := Lib.hid (lit_row u30 [-1] (cs := #[.int .i64 (-1)]) rfl)
  have T := Lib.hid (chk_is (err := 8) 1 (by simp) (by decide) _ (R0.out.holds (by simp only [World.size_alloc]; omega)))
  go_wp2_with fail
  refine T.out.mono ?_
  rintro e u31 ⟨rfl, hb⟩
  have hb := B.out.trans (hb.mono (by simp only [World.size_alloc]; omega))
  have L31 := Lib.hid (L30.out.trans (hb.mono L30.out.size))
  clear hb B R0 L30 T
  have T := Lib.hid (chk_is (A := none) (n := 0) (err := 0) (f := fun _ => 0) 0 (by omega) (by decide) u31 Holds.none_)
  go_wp2_with fail
  refine T.out.mono ?_
  rintro e u32 ⟨rfl, hb⟩
  have L32 := Lib.hid (L31.out.trans (hb.mono L31.out.size))
  clear hb L31 T
  have T := Lib.hid (refused_yes ⟨#[32]⟩ (by decide) u32 (HE.out.next L32.out) r0)
  go_wp2_with fail
  refine T.out.mono ?_
  rintro e u33 ⟨rfl, hb⟩
  have L33 := Lib.hid (L32.out.trans (hb.mono L32.out.size))
  clear hb L32 T
  have T := Lib.hid (refused_yes ⟨#[49, 32]⟩ (by decide) u33 (HE.out.next L33.out) r1)
  go_wp2_with fail
  refine T.out.mono ?_
  rintro e u34 ⟨rfl, hb⟩
  have L34 := Lib.hid (L33.out.trans (hb.mono L33.out.size))
  clear hb L33 T
  have T := Lib.hid (refused_yes ⟨#[43, 49]⟩ (by decide) u34 (HE.out.next L34.out) r2)
  go_wp2_with fail
  refine T.out.mono ?_
  rintro e u35 ⟨rfl, hb⟩
  have L35 := Lib.hid (L34.out.trans (hb.mono L34.out.size))
  clear hb L34 T
  have T := Lib.hid (refused_yes ⟨#[45, 49]⟩ (by decide) u35 (HE.out.next L35.out) r3)
  go_wp2_with fail
  refine T.out.mono ?_
  rintro e u36 ⟨rfl, hb⟩
  have L36 := Lib.hid (L35.out.trans (hb.mono L35.out.size))
  clear hb L35 T
  have T := Lib.hid (refused_yes ⟨#[49, 44, 50]⟩ (by decide) u36 (HE.out.next L36.out) r4)
  go_wp2_with fail
  refine T.out.mono ?_
  rintro e u37 ⟨rfl, hb⟩
  have L37 := Lib.hid (L36.out.trans (hb.mono L36.out.size))
  clear hb L36 T
  have T := Lib.hid (refused_yes ⟨#[57, 57, 57, 57, 57, 57, 57, 57, 57, 57, 57, 57, 57, 57, 57, 57, 57, 57, 57, 57]⟩ (by decide) u37 (HE.out.next L37.out) r5)
  go_wp2_with fail
  refine T.out.mono ?_
  rintro e u38 ⟨rfl, hb⟩
  have L38 := Lib.hid (L37.out.trans (hb.mono L37.out.size))
  clear hb L37 T
  have T := Lib.hid (alive_any u38 (HE.out.next L38.out))
  go_wp2_with fail
  refine T.out.mono ?_
  rintro e u39 ⟨rfl, hb⟩
  have L39 := Lib.hid (L38.out.trans (hb.mono L38.out.size))
  clear hb L38 T
  go_wp2
  go_ret
  exact ⟨rfl, L39.out⟩
end Go.Proofs.YtcmpoblbjjoaiaaDoor
