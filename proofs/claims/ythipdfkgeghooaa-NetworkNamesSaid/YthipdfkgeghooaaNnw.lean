/- The walk of NetworkNames. -/
import Derived.Test.YthipdfkgeghooaaNne
namespace Go.Proofs.Ythipdfkgeghooaa
open Go.RowKit
set_option maxRecDepth 100000
set_option linter.unusedVariables false
set_option linter.unusedSimpArgs false

theorem made_next {v u : World} {m : Array Value} (hr : L2.Row (v.alloc (.cells m 3)) v.heap.size 65 (fun _ => 0)) (hb : Below (v.alloc (.cells m 3)).heap.size (v.alloc (.cells m 3)) u) : L2.Holds u u.heap.size (some ⟨v.heap.size, 0, none⟩) 65 (fun _ => 0) :=
  ((hr.holds (B := (v.alloc (.cells m 3)).heap.size) (by simp)).below hb).more hb.size
theorem made_next_d {v u : World} {m : Array Value} (hr : L2.Row (v.alloc (.cells m 3)) v.heap.size 65 (fun _ => 0)) (hb : Below (v.alloc (.cells m 3)).drew.heap.size (v.alloc (.cells m 3)).drew u) : L2.Holds u u.heap.size (some ⟨v.heap.size, 0, none⟩) 65 (fun _ => 0) :=
  (((show L2.Row (v.alloc (.cells m 3)).drew v.heap.size 65 (fun _ => 0) from hr).holds (B := (v.alloc (.cells m 3)).drew.heap.size) (by show v.heap.size < (v.alloc (.cells m 3)).heap.size; simp)).below hb).more hb.size
theorem made_now {v : World} {m : Array Value} (hr : L2.Row (v.alloc (.cells m 3)) v.heap.size 65 (fun _ => 0)) : L2.Holds (v.alloc (.cells m 3)) (v.alloc (.cells m 3)).heap.size (some ⟨v.heap.size, 0, none⟩) 65 (fun _ => 0) := hr.holds (by simp)
theorem four_now {v : World} {m : Array Value} {A : Option Addr} (h : NH v A 4 frb) : NH (v.alloc (.cells m 3)) A 4 frb := (h.below (bel_alloc v _)).more (bel_alloc v (.cells m 3)).size
theorem fin_a {w0 u1 u2 : World} {m : Obj} (hb : Below w0.heap.size w0 u1) (hb2 : Below (u1.alloc m).heap.size (u1.alloc m) u2) : Below w0.heap.size w0 u2 :=
  (hb.trans ((bel_alloc u1 m).mono hb.size)).trans (hb2.mono (Nat.le_trans hb.size (bel_alloc u1 m).size))
theorem fin_b {w0 u1 u2 : World} {m : Obj} (hb : Below (w0.alloc m).heap.size (w0.alloc m) u1) (hb2 : Below u1.heap.size u1 u2) : Below w0.heap.size w0 u2 :=
  ((bel_alloc w0 m).trans (hb.mono (bel_alloc w0 m).size)).trans (hb2.mono (Nat.le_trans (bel_alloc w0 m).size hb.size))
theorem fin_bd {w0 u1 u2 : World} {m : Obj} (hb : Below (w0.alloc m).drew.heap.size (w0.alloc m).drew u1) (hb2 : Below u1.heap.size u1 u2) : Below w0.heap.size w0 u2 :=
  ((bel_alloc w0 m).drew.trans (hb.mono (bel_alloc w0 m).drew.size)).trans (hb2.mono (Nat.le_trans (bel_alloc w0 m).drew.size hb.size))
theorem fin_d {w0 u : World} (h : Below w0.drew.heap.size w0.drew u) : Below w0.heap.size w0 u := ((Below.refl w0.heap.size w0).drew).trans h
set_option maxHeartbeats 12800000 in
theorem names_any (w : World) : Calls Try.prog 5 #[] w fun e w' => e = .returned (.bool true) ∧ Below w.heap.size w w' := by
  have hmk : ∀ u, (Instr.makeSlice 22 (.int .i64 65) (.int .i64 65)).run Try.prog u = .ok (.slice (some ⟨u.heap.size, 0, none⟩) 65 65) (u.alloc (.cells (madeCells #[.int .i64 0] 65) 3)) := fun u => mki_run 65 (by omega) u
  have HMR := Lib.hid (fun u : World => (L2.RowL.made u 65).row)
  obtain ⟨m, hm⟩ : ∃ m, madeCells #[.int .i64 0] 65 = m := ⟨_, rfl⟩
  have HNE := Lib.hid (nets_ok w m hm)
  simp only [hm] at hmk HMR
  clear hm
  have z0 : ((0 : Int) == 0) = true := rfl
  have z2 : ((2 : Int) == 2) = true := rfl
  have z8 : ((8 : Int) == 8) = true := rfl
  have z9 : ((8 : Int) != 8) = false := rfl
  go_enter Try.func5, Try.ntmps5
  go_upto_region 2 with (fail)
  generalize ((((((((w.alloc (.cells #[.int .i64 0] 3)).alloc (.cells #[.int .i64 0] 3)).alloc (.cells #[.int .i64 0] 3)).alloc (.cells #[.int .i64 0] 3)).alloc (.cells #[.int .i64 4] 3)).alloc (.cells #[.int .i64 (-1)] 3)).alloc (.cells m 3)).alloc (.cells #[.int .i64 0, .int .i64 0, .slice none 0 0, .int .i64 8, .int .i64 3, .slice (some ⟨w.heap.size, 0, none⟩) 1 1, .int .i64 41, .int .i64 41, .slice (some ⟨w.heap.size + 1, 0, none⟩) 1 1, .int .i64 8, .int .i64 0, .slice (some ⟨w.heap.size + 2, 0, none⟩) 1 1, .int .i64 8, .int .i64 16, .slice (some ⟨w.heap.size + 3, 0, none⟩) 1 1, .int .i64 8, .int .i64 4, .slice none 0 0, .int .i64 8, .int .i64 4, .slice (some ⟨w.heap.size + 4, 0, none⟩) 1 1, .int .i64 8, .int .i64 4, .slice (some ⟨w.heap.size + 5, 0, none⟩) 1 1, .int .i64 8, .int .i64 4, .slice (some ⟨w.heap.size + 6, 0, none⟩) 65 65] 24)) = w1 at *
  have LB1 := Lib.hid HNE.out.2
  have HN := Lib.hid HNE.out.1
  clear HNE
  generalize hd : w.heap.size + 7 = d0 at *
  clear hd
  go_wp2
  go_loopw [2] (fun i wr => ∃ j : Nat, j ≤ 9 ∧ i = .int .i64 (j : Nat) ∧ Hid (Below w1.heap.size w1 wr)) (fun i _ => 9 - (intOf i).toNat)
  case atStart => exact ⟨0, Nat.zero_le _, rfl, Lib.hid (Below.refl _ _)⟩
  case round =>
    obtain ⟨j, hj, rfl, HW⟩ := hrel
    by_cases hlt : j < 9
    · obtain ⟨S, N, A, n, c, f, h1, h2, h3, h4, h5, h6, h7⟩ := HN.out j hlt
      have y1 : (j : Int) < 9 := by omega
      have y2 : (0 : Int) ≤ (j : Int) := by omega
      have a0 := (HW.out.cell (p := ⟨d0, j * 3, none⟩) h7).trans h1
      have a1 := (HW.out.cell (p := ⟨d0, j * 3 + 1, none⟩) h7).trans h2
      have a2 := (HW.out.cell (p := ⟨d0, j * 3 + 2, none⟩) h7).trans h3
      have HX := Lib.hid (nck_any S N A n c f wr (by omega) ((h4.below HW.out).more HW.out.size))
      rw [h6] at HX
      clear h1 h2 h3 h4
      go_wp2_with fail
      with_reducible refine Calls.mono HX.out ?_
      rintro e wz ⟨rfl, hb⟩
      clear HX
      have HBp := Lib.hid (HW.out.trans (hb.mono HW.out.size))
      clear hb
      go_wp2
      go_roundw
      case rel => exact ⟨j + 1, by omega, by go_num, HBp⟩
      case measure => simp [intOf]; omega
    · obtain rfl : j = 9 := by omega
      have LBr := Lib.hid (LB1.out.trans (HW.out.mono LB1.out.size))
      clear HN LB1 HW
      obtain ⟨w0, rfl⟩ : ∃ x : World, x = wr := ⟨_, rfl⟩
      have LB0 := Lib.hid LBr.out
      clear LBr
      have HX := Lib.hid (four_any w0)
      go_wp2_with fail
      with_reducible refine Calls.mono HX.out ?_
      rintro e w1 ⟨k0, rfl, hr, hb⟩
      clear HX
      have HN := Lib.hid hr
      clear hr
      have LB1 := Lib.hid (LB0.out.trans (hb.mono LB0.out.size))
      clear hb
      have HX := Lib.hid (xa_no w1 _ 4 (-1) (Or.inl (by decide)) HN.out)
      go_wp2_with fail
      with_reducible refine Calls.mono HX.out ?_
      rintro e w2 ⟨rfl, hb⟩
      clear HX
      have LB2 := Lib.hid (LB1.out.trans (hb.mono LB1.out.size))
      replace HN := Lib.hid ((HN.out.below hb).more hb.size)
      clear hb
      clear HN
      have HX := Lib.hid (four_any w2)
      go_wp2_with fail
      with_reducible refine Calls.mono HX.out ?_
      rintro e w3 ⟨k2, rfl, hr, hb⟩
      clear HX
      have HN := Lib.hid hr
      clear hr
      have LB3 := Lib.hid (LB2.out.trans (hb.mono LB2.out.size))
      clear hb
      have HX := Lib.hid (xa_no w3 _ 4 64 (Or.inr (by decide)) HN.out)
      go_wp2_with fail
      with_reducible refine Calls.mono HX.out ?_
      rintro e w4 ⟨rfl, hb⟩
      clear HX
      have LB4 := Lib.hid (LB3.out.trans (hb.mono LB3.out.size))
      replace HN := Lib.hid ((HN.out.below hb).more hb.size)
      clear hb
      clear HN
      have HX := Lib.hid (four_any w4)
      go_wp2_with fail
      with_reducible refine Calls.mono HX.out ?_
      rintro e w5 ⟨k4, rfl, hr, hb⟩
      clear HX
      have HN := Lib.hid hr
      clear hr
      have LB5 := Lib.hid (LB4.out.trans (hb.mono LB4.out.size))
      clear hb
      have HX := Lib.hid (xa_63 w5 _ 4 HN.out)
      go_wp2_with fail
      with_reducible refine Calls.mono HX.out ?_
      rintro e w6 ⟨D1, c1, rfl, hr, hb⟩
      clear HX
      have R1 := Lib.hid hr
      clear hr
      have LB6 := Lib.hid (LB5.out.trans (hb.mono LB5.out.size))
      replace HN := Lib.hid ((HN.out.below hb).more hb.size)
      clear hb
      clear HN
      have HX := Lib.hid (four_any w6)
      go_wp2_with fail
      with_reducible refine Calls.mono HX.out ?_
      rintro e w7 ⟨k6, rfl, hr, hb⟩
      clear HX
      have HN := Lib.hid hr
      clear hr
      have LB7 := Lib.hid (LB6.out.trans (hb.mono LB6.out.size))
      replace R1 := Lib.hid ((R1.out.below hb).more hb.size)
      clear hb
      have HX := Lib.hid (xd_no w7 _ none 4 0 0 (fun _ => 0) (by decide) (by decide +kernel) HN.out (fun h => absurd h (Nat.lt_irrefl 0)))
      go_wp2_with fail
      with_reducible refine Calls.mono HX.out ?_
      rintro e w8 ⟨rfl, hb⟩
      clear HX
      have LB8 := Lib.hid (LB7.out.trans (hb.mono LB7.out.size))
      replace R1 := Lib.hid ((R1.out.below hb).more hb.size)
      replace HN := Lib.hid ((HN.out.below hb).more hb.size)
      clear hb
      clear HN
      have HX := Lib.hid (four_any w8)
      go_wp2_with fail
      with_reducible refine Calls.mono HX.out ?_
      rintro e w9 ⟨k8, rfl, hr, hb⟩
      clear HX
      have HN := Lib.hid hr
      clear hr
      have LB9 := Lib.hid (LB8.out.trans (hb.mono LB8.out.size))
      replace R1 := Lib.hid ((R1.out.below hb).more hb.size)
      clear hb
      have hb := bel_alloc w9 (.cells #[.int .i64 1001] 3)
      have HLIT := Lib.hid (nl_a1 w9)
      have LB10 := Lib.hid (LB9.out.trans (hb.mono LB9.out.size))
      replace R1 := Lib.hid ((R1.out.below hb).more hb.size)
      replace HN := Lib.hid ((HN.out.below hb).more hb.size)
      clear hb
      go_wp2_with fail
      generalize hs10 : w9.heap.size = d10 at *
      clear hs10
      generalize w9.alloc (.cells #[.int .i64 1001] 3) = w10 at *
      have HL := Lib.hid HLIT.out
      clear HLIT
      have HX := Lib.hid (xd_no w10 _ _ 4 1 1 _ (by decide) (by decide +kernel) HN.out HL.out)
      with_reducible refine Calls.mono HX.out ?_
      rintro e w11 ⟨rfl, hb⟩
      clear HX
      have LB11 := Lib.hid (LB10.out.trans (hb.mono LB10.out.size))
      replace R1 := Lib.hid ((R1.out.below hb).more hb.size)
      replace HN := Lib.hid ((HN.out.below hb).more hb.size)
      replace HL := Lib.hid ((HL.out.below hb).more hb.size)
      clear hb
      clear HN HL
      have HX := Lib.hid (four_any w11)
      go_wp2_with fail
      with_reducible refine Calls.mono HX.out ?_
      rintro e w12 ⟨k11, rfl, hr, hb⟩
      clear HX
      have HN := Lib.hid hr
      clear hr
      have LB12 := Lib.hid (LB11.out.trans (hb.mono LB11.out.size))
      replace R1 := Lib.hid ((R1.out.below hb).more hb.size)
      clear hb
      have hb := bel_alloc w12 (.cells #[.int .i64 (-1)] 3)
      have HLIT := Lib.hid (nl_a2 w12)
      have LB13 := Lib.hid (LB12.out.trans (hb.mono LB12.out.size))
      replace R1 := Lib.hid ((R1.out.below hb).more hb.size)
      replace HN := Lib.hid ((HN.out.below hb).more hb.size)
      clear hb
      go_wp2_with fail
      generalize hs13 : w12.heap.size = d13 at *
      clear hs13
      generalize w12.alloc (.cells #[.int .i64 (-1)] 3) = w13 at *
      have HL := Lib.hid HLIT.out
      clear HLIT
      have HX := Lib.hid (xd_no w13 _ _ 4 1 1 _ (by decide) (by decide +kernel) HN.out HL.out)
      with_reducible refine Calls.mono HX.out ?_
      rintro e w14 ⟨rfl, hb⟩
      clear HX
      have LB14 := Lib.hid (LB13.out.trans (hb.mono LB13.out.size))
      replace R1 := Lib.hid ((R1.out.below hb).more hb.size)
      replace HN := Lib.hid ((HN.out.below hb).more hb.size)
      replace HL := Lib.hid ((HL.out.below hb).more hb.size)
      clear hb
      clear HN HL
      go_upto_region 13 with (fail)
      go_cut [15, 16] from 43 (fun p q wx => p = .slice none 0 0 ∧ q = .int .i64 8 ∧ Hid (Below w14.heap.size w14 wx))
      case first =>
        go_region_with (first | (go_at_call 27; with_reducible refine Calls.mono (four_any _) ?_; rintro e u1 ⟨kk, rfl, hr, hb⟩) | (go_at_call 12; refine Calls.mono (xd_no _ _ _ 4 65 65 (fun _ => 0) (by decide) (by decide +kernel) (by first | exact hr | exact four_now hr) (by first | (have h := made_next_d (HMR.out _) hb; exact h) | (have h := made_next (HMR.out _) hb; exact h) | exact made_now (HMR.out _))) ?_; rintro e u2 ⟨rfl, hb2⟩))
        all_goals go_wp2_with fail
        all_goals go_meet
        all_goals exact ⟨rfl, rfl, Lib.hid (by first | exact fin_a hb hb2 | exact fin_b hb hb2 | exact fin_bd hb hb2 | exact (fin_bd hb hb2).drew | exact fin_d (fin_bd hb hb2) | exact fin_d (fin_a hb hb2) | exact fin_d (fin_b hb hb2) | exact (fin_a hb hb2).drew | exact (fin_b hb hb2).drew | exact (fin_d (fin_a hb hb2)).drew | exact (fin_d (fin_b hb hb2)).drew)⟩
      case rest =>
        obtain ⟨rfl, rfl, HB⟩ := hcut
        obtain ⟨w15, rfl⟩ : ∃ x : World, x = wc := ⟨_, rfl⟩
        have hb := HB.out
        have LB15 := Lib.hid (LB14.out.trans (hb.mono LB14.out.size))
        replace R1 := Lib.hid ((R1.out.below hb).more hb.size)
        clear hb HB
        have HX := Lib.hid (four_any w15)
        go_wp2_with fail
        with_reducible refine Calls.mono HX.out ?_
        rintro e w16 ⟨k15, rfl, hr, hb⟩
        clear HX
        have HN := Lib.hid hr
        clear hr
        have LB16 := Lib.hid (LB15.out.trans (hb.mono LB15.out.size))
        replace R1 := Lib.hid ((R1.out.below hb).more hb.size)
        clear hb
        have hb := bel_alloc w16 (.cells #[.int .i64 1000, .int .i64 0, .int .i64 4] 3)
        have HLIT := Lib.hid (nl_a3 w16)
        have LB17 := Lib.hid (LB16.out.trans (hb.mono LB16.out.size))
        replace R1 := Lib.hid ((R1.out.below hb).more hb.size)
        replace HN := Lib.hid ((HN.out.below hb).more hb.size)
        clear hb
        go_wp2_with fail
        generalize hs17 : w16.heap.size = d17 at *
        clear hs17
        generalize w16.alloc (.cells #[.int .i64 1000, .int .i64 0, .int .i64 4] 3) = w17 at *
        have HL := Lib.hid HLIT.out
        clear HLIT
        have HX := Lib.hid (xd_ok w17 _ _ 4 3 HN.out HL.out)
        with_reducible refine Calls.mono HX.out ?_
        rintro e w18 ⟨k2, rfl, hr, hb⟩
        clear HX
        have R2 := Lib.hid (hr.holds hr.lt)
        clear hr
        have LB18 := Lib.hid (LB17.out.trans (hb.mono LB17.out.size))
        replace R1 := Lib.hid ((R1.out.below hb).more hb.size)
        replace HN := Lib.hid ((HN.out.below hb).more hb.size)
        replace HL := Lib.hid ((HL.out.below hb).more hb.size)
        clear hb
        clear HN HL
        have HX := Lib.hid (ln_bad none 0 0 (fun _ => 0) (fun _ => 0) w18 (by decide) (fun h => absurd h (Nat.lt_irrefl 0)) (by decide +kernel))
        go_wp2_with fail
        with_reducible refine Calls.mono HX.out ?_
        rintro e w19 ⟨rfl, hb⟩
        clear HX
        have LB19 := Lib.hid (LB18.out.trans (hb.mono LB18.out.size))
        replace R1 := Lib.hid ((R1.out.below hb).more hb.size)
        replace R2 := Lib.hid ((R2.out.below hb).more hb.size)
        clear hb
        have hb := bel_alloc w19 (.cells #[.int .i64 1, .int .i64 0] 52)
        have HLIT := Lib.hid (nl_p1 w19)
        have LB20 := Lib.hid (LB19.out.trans (hb.mono LB19.out.size))
        replace R1 := Lib.hid ((R1.out.below hb).more hb.size)
        replace R2 := Lib.hid ((R2.out.below hb).more hb.size)
        clear hb
        go_wp2_with fail
        generalize hs20 : w19.heap.size = d20 at *
        clear hs20
        generalize w19.alloc (.cells #[.int .i64 1, .int .i64 0] 52) = w20 at *
        have HP := Lib.hid HLIT.out
        clear HLIT
        have HX := Lib.hid (ln_bad _ 1 1 _ _ w20 (by decide) HP.out (by decide +kernel))
        with_reducible refine Calls.mono HX.out ?_
        rintro e w21 ⟨rfl, hb⟩
        clear HX
        have LB21 := Lib.hid (LB20.out.trans (hb.mono LB20.out.size))
        replace R1 := Lib.hid ((R1.out.below hb).more hb.size)
        replace R2 := Lib.hid ((R2.out.below hb).more hb.size)
        replace HP := Lib.hid ((HP.out.below hb).more hb.size)
        clear hb
        clear HP
        have hb := bel_alloc w21 (.cells #[.int .i64 0, .int .i64 0, .int .i64 0, .int .i64 1] 52)
        have HLIT := Lib.hid (nl_p2 w21)
        have LB22 := Lib.hid (LB21.out.trans (hb.mono LB21.out.size))
        replace R1 := Lib.hid ((R1.out.below hb).more hb.size)
        replace R2 := Lib.hid ((R2.out.below hb).more hb.size)
        clear hb
        go_wp2_with fail
        generalize hs22 : w21.heap.size = d22 at *
        clear hs22
        generalize w21.alloc (.cells #[.int .i64 0, .int .i64 0, .int .i64 0, .int .i64 1] 52) = w22 at *
        have HP := Lib.hid HLIT.out
        clear HLIT
        have HX := Lib.hid (ln_bad _ 2 2 _ _ w22 (by decide) HP.out (by decide +kernel))
        with_reducible refine Calls.mono HX.out ?_
        rintro e w23 ⟨rfl, hb⟩
        clear HX
        have LB23 := Lib.hid (LB22.out.trans (hb.mono LB22.out.size))
        replace R1 := Lib.hid ((R1.out.below hb).more hb.size)
        replace R2 := Lib.hid ((R2.out.below hb).more hb.size)
        replace HP := Lib.hid ((HP.out.below hb).more hb.size)
        clear hb
        clear HP
        have hb := bel_alloc w23 (.cells #[.int .i64 0, .int .i64 0, .int .i64 64, .int .i64 0] 52)
        have HLIT := Lib.hid (nl_p3 w23)
        have LB24 := Lib.hid (LB23.out.trans (hb.mono LB23.out.size))
        replace R1 := Lib.hid ((R1.out.below hb).more hb.size)
        replace R2 := Lib.hid ((R2.out.below hb).more hb.size)
        clear hb
        go_wp2_with fail
        generalize hs24 : w23.heap.size = d24 at *
        clear hs24
        generalize w23.alloc (.cells #[.int .i64 0, .int .i64 0, .int .i64 64, .int .i64 0] 52) = w24 at *
        have HP := Lib.hid HLIT.out
        clear HLIT
        have HX := Lib.hid (ln_bad _ 2 2 _ _ w24 (by decide) HP.out (by decide +kernel))
        with_reducible refine Calls.mono HX.out ?_
        rintro e w25 ⟨rfl, hb⟩
        clear HX
        have LB25 := Lib.hid (LB24.out.trans (hb.mono LB24.out.size))
        replace R1 := Lib.hid ((R1.out.below hb).more hb.size)
        replace R2 := Lib.hid ((R2.out.below hb).more hb.size)
        replace HP := Lib.hid ((HP.out.below hb).more hb.size)
        clear hb
        clear HP
        have hb := bel_alloc w25 (.cells #[.int .i64 0, .int .i64 1001] 52)
        have HLIT := Lib.hid (nl_p4 w25)
        have LB26 := Lib.hid (LB25.out.trans (hb.mono LB25.out.size))
        replace R1 := Lib.hid ((R1.out.below hb).more hb.size)
        replace R2 := Lib.hid ((R2.out.below hb).more hb.size)
        clear hb
        go_wp2_with fail
        generalize hs26 : w25.heap.size = d26 at *
        clear hs26
        generalize w25.alloc (.cells #[.int .i64 0, .int .i64 1001] 52) = w26 at *
        have HP := Lib.hid HLIT.out
        clear HLIT
        have HX := Lib.hid (ln_bad _ 1 1 _ _ w26 (by decide) HP.out (by decide +kernel))
        with_reducible refine Calls.mono HX.out ?_
        rintro e w27 ⟨rfl, hb⟩
        clear HX
        have LB27 := Lib.hid (LB26.out.trans (hb.mono LB26.out.size))
        replace R1 := Lib.hid ((R1.out.below hb).more hb.size)
        replace R2 := Lib.hid ((R2.out.below hb).more hb.size)
        replace HP := Lib.hid ((HP.out.below hb).more hb.size)
        clear hb
        clear HP
        have hb := bel_alloc w27 (.cells #[.int .i64 0, .int .i64 3, .int .i64 2, .int .i64 0] 52)
        have HLIT := Lib.hid (nl_p5 w27)
        have LB28 := Lib.hid (LB27.out.trans (hb.mono LB27.out.size))
        replace R1 := Lib.hid ((R1.out.below hb).more hb.size)
        replace R2 := Lib.hid ((R2.out.below hb).more hb.size)
        clear hb
        go_wp2_with fail
        generalize hs28 : w27.heap.size = d28 at *
        clear hs28
        generalize w27.alloc (.cells #[.int .i64 0, .int .i64 3, .int .i64 2, .int .i64 0] 52) = w28 at *
        have HP := Lib.hid HLIT.out
        clear HLIT
        have HX := Lib.hid (xl_ok w28 _ HP.out)
        with_reducible refine Calls.mono HX.out ?_
        rintro e w29 ⟨k3, d3, rfl, hr, hb⟩
        clear HX
        have R3 := Lib.hid (hr.holds hr.lt)
        clear hr
        have LB29 := Lib.hid (LB28.out.trans (hb.mono LB28.out.size))
        replace R1 := Lib.hid ((R1.out.below hb).more hb.size)
        replace R2 := Lib.hid ((R2.out.below hb).more hb.size)
        replace HP := Lib.hid ((HP.out.below hb).more hb.size)
        clear hb
        clear HP
        have hb := bel_alloc w29 (.cells #[.int .i64 1] 3)
        have HLIT := Lib.hid (nl_a4 w29)
        have LB30 := Lib.hid (LB29.out.trans (hb.mono LB29.out.size))
        replace R1 := Lib.hid ((R1.out.below hb).more hb.size)
        replace R2 := Lib.hid ((R2.out.below hb).more hb.size)
        replace R3 := Lib.hid ((R3.out.below hb).more hb.size)
        clear hb
        go_wp2_with fail
        generalize hs30 : w29.heap.size = d30 at *
        clear hs30
        generalize w29.alloc (.cells #[.int .i64 1] 3) = w30 at *
        have HL := Lib.hid HLIT.out
        clear HLIT
        have HX := Lib.hid (xt_no w30 _ 1 0 (Or.inl (by decide)) HL.out)
        with_reducible refine Calls.mono HX.out ?_
        rintro e w31 ⟨rfl, hb⟩
        clear HX
        have LB31 := Lib.hid (LB30.out.trans (hb.mono LB30.out.size))
        replace R1 := Lib.hid ((R1.out.below hb).more hb.size)
        replace R2 := Lib.hid ((R2.out.below hb).more hb.size)
        replace R3 := Lib.hid ((R3.out.below hb).more hb.size)
        replace HL := Lib.hid ((HL.out.below hb).more hb.size)
        clear hb
        clear HL
        have hb := bel_alloc w31 (.cells #[.int .i64 1] 3)
        have HLIT := Lib.hid (nl_a4 w31)
        have LB32 := Lib.hid (LB31.out.trans (hb.mono LB31.out.size))
        replace R1 := Lib.hid ((R1.out.below hb).more hb.size)
        replace R2 := Lib.hid ((R2.out.below hb).more hb.size)
        replace R3 := Lib.hid ((R3.out.below hb).more hb.size)
        clear hb
        go_wp2_with fail
        generalize hs32 : w31.heap.size = d32 at *
        clear hs32
        generalize w31.alloc (.cells #[.int .i64 1] 3) = w32 at *
        have HL := Lib.hid HLIT.out
        clear HLIT
        have HX := Lib.hid (xt_no w32 _ 1 41 (Or.inr (by decide)) HL.out)
        with_reducible refine Calls.mono HX.out ?_
        rintro e w33 ⟨rfl, hb⟩
        clear HX
        have LB33 := Lib.hid (LB32.out.trans (hb.mono LB32.out.size))
        replace R1 := Lib.hid ((R1.out.below hb).more hb.size)
        replace R2 := Lib.hid ((R2.out.below hb).more hb.size)
        replace R3 := Lib.hid ((R3.out.below hb).more hb.size)
        replace HL := Lib.hid ((HL.out.below hb).more hb.size)
        clear hb
        clear HL
        have HX := Lib.hid (four_any w33)
        go_wp2_with fail
        with_reducible refine Calls.mono HX.out ?_
        rintro e w34 ⟨k33, rfl, hr, hb⟩
        clear HX
        have HN := Lib.hid hr
        clear hr
        have LB34 := Lib.hid (LB33.out.trans (hb.mono LB33.out.size))
        replace R1 := Lib.hid ((R1.out.below hb).more hb.size)
        replace R2 := Lib.hid ((R2.out.below hb).more hb.size)
        replace R3 := Lib.hid ((R3.out.below hb).more hb.size)
        clear hb
        have hb := bel_alloc w34 (.cells #[.int .i64 0, .int .i64 1, .int .i64 2, .int .i64 4] 3)
        have HLIT := Lib.hid (nl_a5 w34)
        have LB35 := Lib.hid (LB34.out.trans (hb.mono LB34.out.size))
        replace R1 := Lib.hid ((R1.out.below hb).more hb.size)
        replace R2 := Lib.hid ((R2.out.below hb).more hb.size)
        replace R3 := Lib.hid ((R3.out.below hb).more hb.size)
        replace HN := Lib.hid ((HN.out.below hb).more hb.size)
        clear hb
        go_wp2_with fail
        generalize hs35 : w34.heap.size = d35 at *
        clear hs35
        generalize w34.alloc (.cells #[.int .i64 0, .int .i64 1, .int .i64 2, .int .i64 4] 3) = w35 at *
        have HL := Lib.hid HLIT.out
        clear HLIT
        have HL2 := Lib.hid (show L2.Holds w35 w35.heap.size (some ⟨d35, 0, none⟩) 4 (fun i => (((fun i => ([0, 1, 2, 4] : List Nat).getD i 0) i : Nat) : Int)) from HL.out.congr fun i hi => by
          have : i = 0 ∨ i = 1 ∨ i = 2 ∨ i = 3 := by omega
          rcases this with rfl | rfl | rfl | rfl <;> rfl)
        have HX := Lib.hid (xo_no w35 _ _ 4 4 4 (fun i => ([0, 1, 2, 4] : List Nat).getD i 0) (by decide) (by decide +kernel) (by decide +kernel) HN.out HL2.out)
        with_reducible refine Calls.mono HX.out ?_
        rintro e w36 ⟨rfl, hb⟩
        clear HX
        have LB36 := Lib.hid (LB35.out.trans (hb.mono LB35.out.size))
        replace R1 := Lib.hid ((R1.out.below hb).more hb.size)
        replace R2 := Lib.hid ((R2.out.below hb).more hb.size)
        replace R3 := Lib.hid ((R3.out.below hb).more hb.size)
        replace HN := Lib.hid ((HN.out.below hb).more hb.size)
        replace HL := Lib.hid ((HL.out.below hb).more hb.size)
        clear hb
        clear HL2
        clear HN HL
        have HX := Lib.hid (four_any w36)
        go_wp2_with fail
        with_reducible refine Calls.mono HX.out ?_
        rintro e w37 ⟨k36, rfl, hr, hb⟩
        clear HX
        have HN := Lib.hid hr
        clear hr
        have LB37 := Lib.hid (LB36.out.trans (hb.mono LB36.out.size))
        replace R1 := Lib.hid ((R1.out.below hb).more hb.size)
        replace R2 := Lib.hid ((R2.out.below hb).more hb.size)
        replace R3 := Lib.hid ((R3.out.below hb).more hb.size)
        clear hb
        have hb := bel_alloc w37 (.cells #[.int .i64 8] 3)
        have HLIT := Lib.hid (nl_a6 w37)
        have LB38 := Lib.hid (LB37.out.trans (hb.mono LB37.out.size))
        replace R1 := Lib.hid ((R1.out.below hb).more hb.size)
        replace R2 := Lib.hid ((R2.out.below hb).more hb.size)
        replace R3 := Lib.hid ((R3.out.below hb).more hb.size)
        replace HN := Lib.hid ((HN.out.below hb).more hb.size)
        clear hb
        go_wp2_with fail
        generalize hs38 : w37.heap.size = d38 at *
        clear hs38
        generalize w37.alloc (.cells #[.int .i64 8] 3) = w38 at *
        have HL := Lib.hid HLIT.out
        clear HLIT
        have HL2 := Lib.hid (show L2.Holds w38 w38.heap.size (some ⟨d38, 0, none⟩) 1 (fun i => (((fun i => ([8] : List Nat).getD i 0) i : Nat) : Int)) from HL.out.congr fun i hi => by
          obtain rfl : i = 0 := by omega
          rfl)
        have HX := Lib.hid (xo_no w38 _ _ 4 1 1 (fun i => ([8] : List Nat).getD i 0) (by decide) (by decide +kernel) (by decide +kernel) HN.out HL2.out)
        with_reducible refine Calls.mono HX.out ?_
        rintro e w39 ⟨rfl, hb⟩
        clear HX
        have LB39 := Lib.hid (LB38.out.trans (hb.mono LB38.out.size))
        replace R1 := Lib.hid ((R1.out.below hb).more hb.size)
        replace R2 := Lib.hid ((R2.out.below hb).more hb.size)
        replace R3 := Lib.hid ((R3.out.below hb).more hb.size)
        replace HN := Lib.hid ((HN.out.below hb).more hb.size)
        replace HL := Lib.hid ((HL.out.below hb).more hb.size)
        clear hb
        clear HL2
        clear HN HL
        have hb := bel_alloc w39 (.cells #[.int .i64 0, .int .i64 1, .int .i64 2] 3)
        have HLIT := Lib.hid (nl_a7 w39)
        have LB40 := Lib.hid (LB39.out.trans (hb.mono LB39.out.size))
        replace R1 := Lib.hid ((R1.out.below hb).more hb.size)
        replace R2 := Lib.hid ((R2.out.below hb).more hb.size)
        replace R3 := Lib.hid ((R3.out.below hb).more hb.size)
        clear hb
        go_wp2_with fail
        generalize hs40 : w39.heap.size = d40 at *
        clear hs40
        generalize w39.alloc (.cells #[.int .i64 0, .int .i64 1, .int .i64 2] 3) = w40 at *
        have HL := Lib.hid HLIT.out
        clear HLIT
        have HX := Lib.hid (xp_1 w40 _ 3 HL.out)
        with_reducible refine Calls.mono HX.out ?_
        rintro e w41 ⟨rfl, hb⟩
        clear HX
        have LB41 := Lib.hid (LB40.out.trans (hb.mono LB40.out.size))
        replace R1 := Lib.hid ((R1.out.below hb).more hb.size)
        replace R2 := Lib.hid ((R2.out.below hb).more hb.size)
        replace R3 := Lib.hid ((R3.out.below hb).more hb.size)
        replace HL := Lib.hid ((HL.out.below hb).more hb.size)
        clear hb
        clear HL
        have hb := bel_alloc w41 (.cells #[.int .i64 0, .int .i64 1] 3)
        have HLIT := Lib.hid (nl_a8 w41)
        have LB42 := Lib.hid (LB41.out.trans (hb.mono LB41.out.size))
        replace R1 := Lib.hid ((R1.out.below hb).more hb.size)
        replace R2 := Lib.hid ((R2.out.below hb).more hb.size)
        replace R3 := Lib.hid ((R3.out.below hb).more hb.size)
        clear hb
        go_wp2_with fail
        generalize hs42 : w41.heap.size = d42 at *
        clear hs42
        generalize w41.alloc (.cells #[.int .i64 0, .int .i64 1] 3) = w42 at *
        have HL := Lib.hid HLIT.out
        clear HLIT
        have HX := Lib.hid (xp_2 w42 _ 2 HL.out)
        with_reducible refine Calls.mono HX.out ?_
        rintro e w43 ⟨rfl, hb⟩
        clear HX
        have LB43 := Lib.hid (LB42.out.trans (hb.mono LB42.out.size))
        replace R1 := Lib.hid ((R1.out.below hb).more hb.size)
        replace R2 := Lib.hid ((R2.out.below hb).more hb.size)
        replace R3 := Lib.hid ((R3.out.below hb).more hb.size)
        replace HL := Lib.hid ((HL.out.below hb).more hb.size)
        clear hb
        clear HL
        have HX := Lib.hid (alive_any w43)
        go_wp2_with fail
        with_reducible refine Calls.mono HX.out ?_
        rintro e w44 ⟨rfl, hb⟩
        clear HX
        have LB44 := Lib.hid (LB43.out.trans (hb.mono LB43.out.size))
        replace R1 := Lib.hid ((R1.out.below hb).more hb.size)
        replace R2 := Lib.hid ((R2.out.below hb).more hb.size)
        replace R3 := Lib.hid ((R3.out.below hb).more hb.size)
        clear hb
        have HX := Lib.hid (four_any w44)
        go_wp2_with fail
        with_reducible refine Calls.mono HX.out ?_
        rintro e w45 ⟨k44, rfl, hr, hb⟩
        clear HX
        have HN := Lib.hid hr
        clear hr
        have LB45 := Lib.hid (LB44.out.trans (hb.mono LB44.out.size))
        replace R1 := Lib.hid ((R1.out.below hb).more hb.size)
        replace R2 := Lib.hid ((R2.out.below hb).more hb.size)
        replace R3 := Lib.hid ((R3.out.below hb).more hb.size)
        clear hb
        have HX := Lib.hid (xc_four w45 _ 4 HN.out)
        go_wp2_with fail
        with_reducible refine Calls.mono HX.out ?_
        rintro e w46 ⟨rfl, hb⟩
        clear HX
        have LB46 := Lib.hid (LB45.out.trans (hb.mono LB45.out.size))
        replace R1 := Lib.hid ((R1.out.below hb).more hb.size)
        replace R2 := Lib.hid ((R2.out.below hb).more hb.size)
        replace R3 := Lib.hid ((R3.out.below hb).more hb.size)
        replace HN := Lib.hid ((HN.out.below hb).more hb.size)
        clear hb
        clear HN
        have hb := bel_alloc w46 (.cells #[.int .i64 3, .int .i64 7] 3)
        have HLIT := Lib.hid (nl_b1 w46)
        have LB47 := Lib.hid (LB46.out.trans (hb.mono LB46.out.size))
        replace R1 := Lib.hid ((R1.out.below hb).more hb.size)
        replace R2 := Lib.hid ((R2.out.below hb).more hb.size)
        replace R3 := Lib.hid ((R3.out.below hb).more hb.size)
        clear hb
        go_wp2_with fail
        generalize hs47 : w46.heap.size = d47 at *
        clear hs47
        generalize w46.alloc (.cells #[.int .i64 3, .int .i64 7] 3) = w47 at *
        have HT := Lib.hid HLIT.out
        clear HLIT
        have HX := Lib.hid (lv_same (n := 2) (by decide) ⟨R1.out⟩ ⟨HT.out⟩ c1 2 xs_1)
        with_reducible refine Calls.mono HX.out ?_
        rintro e w48 ⟨rfl, hb⟩
        clear HX
        have LB48 := Lib.hid (LB47.out.trans (hb.mono LB47.out.size))
        replace R1 := Lib.hid ((R1.out.below hb).more hb.size)
        replace R2 := Lib.hid ((R2.out.below hb).more hb.size)
        replace R3 := Lib.hid ((R3.out.below hb).more hb.size)
        replace HT := Lib.hid ((HT.out.below hb).more hb.size)
        clear hb
        clear HT R1
        have hb := bel_alloc w48 (.cells #[.int .i64 4, .int .i64 1, .int .i64 2] 3)
        have HLIT := Lib.hid (nl_b2 w48)
        have LB49 := Lib.hid (LB48.out.trans (hb.mono LB48.out.size))
        replace R2 := Lib.hid ((R2.out.below hb).more hb.size)
        replace R3 := Lib.hid ((R3.out.below hb).more hb.size)
        clear hb
        go_wp2_with fail
        generalize hs49 : w48.heap.size = d49 at *
        clear hs49
        generalize w48.alloc (.cells #[.int .i64 4, .int .i64 1, .int .i64 2] 3) = w49 at *
        have HT := Lib.hid HLIT.out
        clear HLIT
        have HX := Lib.hid (lv_same (n := 3) (by decide) ⟨R2.out⟩ ⟨HT.out⟩ 3 3 xs_2)
        with_reducible refine Calls.mono HX.out ?_
        rintro e w50 ⟨rfl, hb⟩
        clear HX
        have LB50 := Lib.hid (LB49.out.trans (hb.mono LB49.out.size))
        replace R2 := Lib.hid ((R2.out.below hb).more hb.size)
        replace R3 := Lib.hid ((R3.out.below hb).more hb.size)
        replace HT := Lib.hid ((HT.out.below hb).more hb.size)
        clear hb
        clear HT R2
        have hb := bel_alloc w50 (.cells #[.int .i64 3, .int .i64 2, .int .i64 0] 3)
        have HLIT := Lib.hid (nl_b3 w50)
        have LB51 := Lib.hid (LB50.out.trans (hb.mono LB50.out.size))
        replace R3 := Lib.hid ((R3.out.below hb).more hb.size)
        clear hb
        go_wp2_with fail
        generalize hs51 : w50.heap.size = d51 at *
        clear hs51
        generalize w50.alloc (.cells #[.int .i64 3, .int .i64 2, .int .i64 0] 3) = w51 at *
        have HT := Lib.hid HLIT.out
        clear HLIT
        have HX := Lib.hid (lv_same (n := 3) (by decide) ⟨R3.out⟩ ⟨HT.out⟩ d3 3 xs_3)
        with_reducible refine Calls.mono HX.out ?_
        rintro e w52 ⟨rfl, hb⟩
        clear HX
        have LB52 := Lib.hid (LB51.out.trans (hb.mono LB51.out.size))
        replace R3 := Lib.hid ((R3.out.below hb).more hb.size)
        replace HT := Lib.hid ((HT.out.below hb).more hb.size)
        clear hb
        clear HT R3
        go_wp2
        go_ret
        exact ⟨rfl, LB52.out⟩
end Go.Proofs.Ythipdfkgeghooaa
