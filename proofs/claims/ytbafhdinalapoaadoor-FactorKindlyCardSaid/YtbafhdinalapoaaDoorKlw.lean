/- The statement FactorKindly. -/
import Derived.Test.YtbafhdinalapoaaDoorKly
import Derived.Test.YtbafhdinalapoaaDoorTwn
namespace Go.Proofs.YtbafhdinalapoaaDoor
open Go.RowKit
set_option linter.unusedVariables false
set_option linter.unusedSimpArgs false
set_option maxRecDepth 100000

open L2 (nd ren)
theorem kl_holds {w' : World} {B n : Nat} {A : Option Addr} {F : Nat → Int} (h : 0 < n → ∃ k, A = some ⟨k, 0, none⟩ ∧ B ≤ k ∧ L2.Row w' k n F) : L2.Holds w' w'.heap.size A n F := fun hn => by
  obtain ⟨k, rfl, _, hr⟩ := h hn
  exact hr.holds hr.lt hn
theorem kl_lsm (n : Nat) (f g : Nat → Int) (h : ∀ i, i < n → f i = g i) : lsm n f n g = true := by
  unfold lsm
  rw [decide_eq_true_iff]
  exact ⟨rfl, h⟩

set_option maxHeartbeats 800000 in
theorem kl_great (W H : Int) (A : Option Addr) (n c : Nat) (w : World) (hE : Env w) (hn : 4200 < n) :
    Calls Tryd.prog 7 #[.agg #[.int .i64 W, .int .i64 H, .slice A n c]] w fun e w' => e = .returned (.bool true) ∧ Below w.heap.size w w' := by
  have LB0 := Lib.hid (show Below w.heap.size w (w.alloc (.cells #[.int .i64 W, .int .i64 H, .slice A n c] 25)) from (Below.refl _ _).alloc (Nat.le_refl _) _)
  have X0 := Lib.hid (Box.new w W H (.slice A n c))
  have HE := Lib.hid (fun v (h : Below w.heap.size w v) => hE.next h)
  clear hE
  go_enter Tryd.func7, Tryd.ntmps7
  obtain ⟨q0, q1, q2, q3, q4, q5, q6⟩ := X0.out.all
  go_wp2_with fail
  clear q0 q1 q2 q3 q4 q5 q6
  refine (great_yes W H A n c _ hn).mono ?_
  rintro e w1 ⟨rfl, hb⟩
  have LB1 := Lib.hid (LB0.out.trans (hb.mono LB0.out.size))
  clear hb
  go_wp2_with fail
  refine (alive_any _ (HE.out _ LB1.out)).mono ?_
  rintro e w2 ⟨rfl, hb⟩
  have LB2 := Lib.hid (LB1.out.trans (hb.mono LB1.out.size))
  clear hb
  go_wp2
  go_ret
  exact ⟨rfl, LB2.out⟩

set_option maxHeartbeats 800000 in
theorem kl_bad (W H : Int) (A : Option Addr) (n c : Nat) (w : World) (hE : Env w) (hn : n ≤ 4200) (z : Int) (hx : chk W H n = z) (hne : (z != 0) = true) :
    Calls Tryd.prog 7 #[.agg #[.int .i64 W, .int .i64 H, .slice A n c]] w fun e w' => e = .returned (.bool true) ∧ Below w.heap.size w w' := by
  have LB0 := Lib.hid (show Below w.heap.size w (w.alloc (.cells #[.int .i64 W, .int .i64 H, .slice A n c] 25)) from (Below.refl _ _).alloc (Nat.le_refl _) _)
  have X0 := Lib.hid (Box.new w W H (.slice A n c))
  have HE := Lib.hid (fun v (h : Below w.heap.size w v) => hE.next h)
  have HC := Lib.hid (fun v => rchk_err (A := A) (c := c) hn hx v)
  clear hE hx
  go_enter Tryd.func7, Tryd.ntmps7
  obtain ⟨q0, q1, q2, q3, q4, q5, q6⟩ := X0.out.all
  go_wp2_with fail
  clear q0 q1 q2 q3 q4 q5 q6
  refine (great_no W H A n c _ hn).mono ?_
  rintro e w1 ⟨rfl, hb⟩
  have LB1 := Lib.hid (LB0.out.trans (hb.mono LB0.out.size))
  have X1 := Lib.hid (X0.out.below hb X0.out.lt)
  clear hb
  obtain ⟨q0, q1, q2, q3, q4, q5, q6⟩ := X1.out.all
  go_wp2_with fail
  clear q0 q1 q2 q3 q4 q5 q6
  refine (HC.out _).mono ?_
  rintro e w2 ⟨rfl, hb⟩
  have LB2 := Lib.hid (LB1.out.trans (hb.mono LB1.out.size))
  clear hb
  go_wp2_with fail
  refine (alive_any _ (HE.out _ LB2.out)).mono ?_
  rintro e w3 ⟨rfl, hb⟩
  have LB3 := Lib.hid (LB2.out.trans (hb.mono LB2.out.size))
  clear hb
  go_wp2
  go_ret
  exact ⟨rfl, LB3.out⟩

set_option maxHeartbeats 3200000 in
theorem kl_main (W H n : Nat) (b o c : Nat) (f : Nat → Bool) (w : World) (hE : Env w) (hn : n = W * H) (hr : Holds w w.heap.size (some ⟨b, o, none⟩) n f) (hcap : n ≤ c) (hW0 : 1 ≤ W) (hW : W ≤ 64) (hH0 : 1 ≤ H) (hH : H ≤ 64) :
    Calls Tryd.prog 7 #[.agg #[.int .i64 W, .int .i64 H, .slice (some ⟨b, o, none⟩) n c]] w fun e w' => e = .returned (.bool true) ∧ Below w.heap.size w w' := by
  have hn2 : n ≤ 4096 := by rw [hn]; exact Nat.mul_le_mul hW hH
  have hck : chk (W : Int) (H : Int) n = 0 := by rw [hn]; exact chk_zero hW0 hW hH0 hH
  obtain ⟨b', o', e, hlt, hc⟩ := hr (by rw [hn]; exact Nat.mul_pos hW0 hH0)
  obtain ⟨rfl, rfl⟩ : b = b' ∧ o = o' := by cases e; exact ⟨rfl, rfl⟩
  clear e
  have HN := Lib.hid hn
  have HC := Lib.hid (fun v => rchk_err (A := some ⟨b, o, none⟩) (c := c) (show n ≤ 4200 by omega) hck v)
  have HE := Lib.hid (fun v (h : Below w.heap.size w v) => hE.next h)
  have HCELL := Lib.hid (fun v (h : Below w.heap.size w v) i (hi : i < n) => (h.cell (p := ⟨b, o + i, none⟩) hlt).trans (hc i hi))
  obtain ⟨cx, hcx⟩ : ∃ cx, rc H (tnf W H f) = cx := ⟨_, rfl⟩
  obtain ⟨cy, hcy⟩ : ∃ cy, rc W f = cy := ⟨_, rfl⟩
  have HCOL := Lib.hid (fun v (h : Below w.heap.size w v) => (show Calls Tryd.prog 20 #[.agg #[.int .i64 W, .int .i64 H, .slice (some ⟨b, o, none⟩) n c]] v (L2.LOut v W (ren cx) 0) by
    have := columns_ok W H b o c f v (by rw [← hn]; exact (hr.below h).more h.size) (by omega) hW0 hW hH0 hH
    rw [← hn, hcx] at this; exact this))
  have HCNT := Lib.hid (fun v (h : Below w.heap.size w v) => (show Calls Tryd.prog 15 #[.agg #[.int .i64 W, .int .i64 H, .slice (some ⟨b, o, none⟩) n c]] v (fun e w' => e = .returned (.tuple #[.int .i64 (nd cx W : Nat), .int .i64 (nd cy H : Nat), .int .i64 0]) ∧ Below v.heap.size v w') by
    have := count_ok W H b o c f v (by rw [← hn]; exact (hr.below h).more h.size) (by omega) hW0 hW hH0 hH
    rw [← hn, hcx, hcy] at this; exact this))
  have HTURN := Lib.hid (fun v (h : Below w.heap.size w v) => (show Calls Tryd.prog 32 #[.agg #[.int .i64 W, .int .i64 H, .slice (some ⟨b, o, none⟩) n c]] v (OkGrid v H W (tnf W H f)) by
    have := turn_tnf W H (some ⟨b, o, none⟩) c f v (by rw [← hn]; exact (hr.below h).more h.size) hW0 hW hH0 hH
    rw [← hn] at this; exact this))
  have HMANY := Lib.hid (fun (hm : 40 < nd (rc H (tnf W H f)) W ∨ 40 < nd (rc W f) H) v (h : Below w.heap.size w v) => (show Calls Tryd.prog 9 #[.agg #[.int .i64 W, .int .i64 H, .slice (some ⟨b, o, none⟩) n c]] v (ErrDr v 4) by
    have := of_many W H b o c f v (hE.next h) (by rw [← hn]; exact (hr.below h).more h.size) (by omega) hW0 hW hH0 hH hm
    rw [← hn] at this; exact this))
  have HOK := Lib.hid (fun (hm : ¬ (40 < nd (rc H (tnf W H f)) W ∨ 40 < nd (rc W f) H)) v (h : Below w.heap.size w v) => (show Calls Tryd.prog 9 #[.agg #[.int .i64 W, .int .i64 H, .slice (some ⟨b, o, none⟩) n c]] v (OkDr v (ofp W H f)) by
    have := of_ok W H b o c f v (hE.next h) (by rw [← hn]; exact (hr.below h).more h.size) (by omega) hW0 hW hH0 hH hm
    rw [← hn] at this; exact this))
  have HSAME := Lib.hid (fun x z => (show (decide (∀ y, y < H → f (y * W + x) = f (y * W + z)) != (ren cx x == ren cx z)) = false by rw [← hcx]; exact col_same W H f x z))
  have LB0 := Lib.hid (show Below w.heap.size w (w.alloc (.cells #[.int .i64 W, .int .i64 H, .slice (some ⟨b, o, none⟩) n c] 25)) from (Below.refl _ _).alloc (Nat.le_refl _) _)
  have X0 := Lib.hid (Box.new w W H (.slice (some ⟨b, o, none⟩) n c))
  clear hr hc hck hE hn
  go_enter Tryd.func7, Tryd.ntmps7
  obtain ⟨q0, q1, q2, q3, q4, q5, q6⟩ := X0.out.all
  go_wp2_with fail
  clear q0 q1 q2 q3 q4 q5 q6
  refine (great_no W H (some ⟨b, o, none⟩) n c _ (by omega)).mono ?_
  rintro e w1 ⟨rfl, hb⟩
  have X1 := Lib.hid (X0.out.below hb X0.out.lt)
  have LB1 := Lib.hid (LB0.out.trans (hb.mono LB0.out.size))
  clear hb X0 LB0
  obtain ⟨q0, q1, q2, q3, q4, q5, q6⟩ := X1.out.all
  go_wp2_with fail
  clear q0 q1 q2 q3 q4 q5 q6
  refine (HC.out _).mono ?_
  rintro e w2 ⟨rfl, hb⟩
  have X2 := Lib.hid (X1.out.below hb X1.out.lt)
  have LB2 := Lib.hid (LB1.out.trans (hb.mono LB1.out.size))
  clear hb X1 LB1
  obtain ⟨q0, q1, q2, q3, q4, q5, q6⟩ := X2.out.all
  go_wp2_with fail
  clear q0 q1 q2 q3 q4 q5 q6
  refine (HCOL.out _ LB2.out).mono ?_
  rintro e w3 ⟨A1, c1, rfl, -, hr1, hb⟩
  have X3 := Lib.hid (X2.out.below hb X2.out.lt)
  have LB3 := Lib.hid (LB2.out.trans (hb.mono LB2.out.size))
  clear hb X2 LB2
  obtain ⟨k1, rfl, hk1, hr1⟩ := hr1 hW0
  have C3 := Lib.hid (hr1)
  clear hr1
  obtain ⟨q0, q1, q2, q3, q4, q5, q6⟩ := X3.out.all
  go_wp2_with fail
  clear q0 q1 q2 q3 q4 q5 q6
  refine (L2.numbered_any (some ⟨k1, 0, none⟩) W c1 (ren cx) _ (by omega) (C3.out.holds C3.out.lt)).mono ?_
  rintro e w4 ⟨A2, c2, rfl, -, hr2, hb⟩
  have X4 := Lib.hid (X3.out.below hb X3.out.lt)
  have LB4 := Lib.hid (LB3.out.trans (hb.mono LB3.out.size))
  have C4 := Lib.hid (C3.out.below hb C3.out.lt)
  clear hb X3 LB3 C3
  have N4 := Lib.hid (kl_holds hr2)
  clear hr2
  rw [nd_ren]
  go_wp2_with fail
  refine (rieq_any A2 (some ⟨k1, 0, none⟩) W W c2 c1 (ren (ren cx)) (ren cx) _ (by omega) N4.out (C4.out.holds C4.out.lt)).mono ?_
  rintro e w5 ⟨rfl, hb⟩
  clear N4
  have X5 := Lib.hid (X4.out.below hb X4.out.lt)
  have LB5 := Lib.hid (LB4.out.trans (hb.mono LB4.out.size))
  have C5 := Lib.hid (C4.out.below hb C4.out.lt)
  clear hb X4 LB4 C4
  rw [kl_lsm _ _ _ fun i _ => ren_ren cx i]
  go_wp2_with fail
  have HROW := Lib.hid (fun v (h : Below w5.heap.size w5 v) => C5.out.below h C5.out.lt)
  have HBOX := Lib.hid (fun v (h : Below w5.heap.size w5 v) => X5.out.below h X5.out.lt)
  have HLB := Lib.hid (fun v (h : Below w5.heap.size w5 v) => LB5.out.trans (h.mono LB5.out.size))
  go_loopw [7] (fun i wr => ∃ x : Nat, x ≤ W ∧ i = .int .i64 x ∧ Hid (Below w5.heap.size w5 wr)) (fun i _ => W - (intOf i).toNat)
  case atStart => exact ⟨0, Nat.zero_le _, rfl, Lib.hid (Below.refl _ _)⟩
  case round =>
    obtain ⟨x, hx, rfl, hB⟩ := hrel
    by_cases hlx : x < W
    · have x1 : decide ((x : Int) < (W : Int)) = true := by simp; omega
      obtain ⟨q0, q1, q2, q3, q4, q5, q6⟩ := (HBOX.out _ hB.out).all
      go_wp2_with fail
      clear q0 q1 q2 q3 q4 q5 q6
      go_loopw [8] (fun i wr => ∃ z : Nat, z ≤ x ∧ i = .int .i64 z ∧ Hid (Below w5.heap.size w5 wr)) (fun i _ => x - (intOf i).toNat)
      case atStart => exact ⟨0, Nat.zero_le _, rfl, hB⟩
      case round =>
        clear hB
        obtain ⟨z, hz, rfl, hB2⟩ := hrel
        by_cases hlz : z < x
        · have y1 : decide ((z : Int) < (x : Int)) = true := by simp; omega
          go_wp2_with fail
          go_loopw [9, 10] (fun t i wr => ∃ y : Nat, y ≤ H ∧ i = .int .i64 y ∧ t = .bool (decide (∀ j, j < y → f (j * W + x) = f (j * W + z))) ∧ Hid (Below w5.heap.size w5 wr)) (fun _ i _ => H - (intOf i).toNat)
          case atStart => exact ⟨0, Nat.zero_le _, rfl, by simp, hB2⟩
          case round =>
            clear hB2
            obtain ⟨y, hy, rfl, rfl, hB3⟩ := hrel
            obtain ⟨q0, q1, q2, q3, q4, q5, q6⟩ := (HBOX.out _ hB3.out).all
            by_cases hly : y < H
            · have z1 : decide ((y : Int) < (H : Int)) = true := by simp; omega
              have hi1 : y * W + x < n := by rw [HN.out]; exact ix_bd hlx hly
              have hi2 : y * W + z < n := by rw [HN.out]; exact ix_bd (show z < W by omega) hly
              have cc1 := HCELL.out _ (HLB.out _ hB3.out) _ hi1
              have cc2 := HCELL.out _ (HLB.out _ hB3.out) _ hi2
              obtain ⟨bd1, bd2⟩ := mul_bd (W := (W : Int)) (y := (y : Int)) (by omega) (by omega) (by omega) (by omega)
              have bd3 : ((y : Nat) : Int) * (W : Int) + (x : Int) < (n : Int) := by have := Int.ofNat_lt.2 hi1; simpa using this
              have bd4 : ((y : Nat) : Int) * (W : Int) + (z : Int) < (n : Int) := by have := Int.ofNat_lt.2 hi2; simpa using this
              have hbl : b < wr.heap.size := Nat.lt_of_lt_of_le hlt (HLB.out _ hB3.out).size
              by_cases hs : ∀ j, j < y → f (j * W + x) = f (j * W + z)
              · have hd : decide (∀ j, j < y → f (j * W + x) = f (j * W + z)) = true := by simpa using hs
                have hd2 := Lib.hid (show (f (y * W + x) == f (y * W + z)) = decide (∀ j, j < y + 1 → f (j * W + x) = f (j * W + z)) by
                  rw [Bool.eq_iff_iff]
                  simp only [beq_iff_eq, decide_eq_true_eq]
                  exact ⟨fun h j hj => by rcases Nat.lt_succ_iff_lt_or_eq.1 hj with h1 | rfl; exact hs j h1; exact h, fun h => h y (by omega)⟩)
                rw [hd]
                clear hd hs hi1 hi2
                generalize f (y * W + x) = u1 at *
                generalize f (y * W + z) = u2 at *
                go_wp2_with fail
                go_quiet (fail)
                go_wp2
                exact ⟨⟨y + 1, by omega, by go_num, by rw [hd2.out], Lib.hid (Go.Proofs.below_drewN' hB3.out _)⟩, by simp [intOf]; omega⟩
              · have hd : decide (∀ j, j < y → f (j * W + x) = f (j * W + z)) = false := by rw [decide_eq_false_iff_not]; exact hs
                have hd2 := Lib.hid (show decide (∀ j, j < y + 1 → f (j * W + x) = f (j * W + z)) = false by rw [decide_eq_false_iff_not]; exact fun h => hs fun j hj => h j (by omega))
                rw [hd]
                clear hd hs hi1 hi2
                go_wp2_with fail
                go_quiet (fail)
                go_wp2
                exact ⟨⟨y + 1, by omega, by go_num, by rw [hd2.out], Lib.hid (Go.Proofs.below_drewN' hB3.out _)⟩, by simp [intOf]; omega⟩
            · have e : y = H := by omega
              have z1 : decide ((y : Int) < (H : Int)) = false := by simp; omega
              have hsm := HSAME.out x z
              rw [← e] at hsm
              have r1 := (HROW.out _ hB3.out).cell hlx
              have r2 := (HROW.out _ hB3.out).cell (show z < W by omega)
              have r3 := (HROW.out _ hB3.out).lt
              have b1 : (x : Int) < (W : Int) := by omega
              have b2 : (z : Int) < (W : Int) := by omega
              generalize decide (∀ j, j < y → f (j * W + x) = f (j * W + z)) = bq at *
              generalize ren cx x = u1 at *
              generalize ren cx z = u2 at *
              have key : (u1 == u2) = bq := by revert hsm; cases bq <;> cases (u1 == u2) <;> simp
              clear hsm
              cases bq
              all_goals
                go_wp2_with fail
                go_quiet (fail)
                go_wp2
                exact ⟨⟨z + 1, by omega, by go_num, Lib.hid (Go.Proofs.below_drewN' hB3.out _)⟩, by simp [intOf]; omega⟩
        · have e : z = x := by omega
          have y1 : decide ((z : Int) < (x : Int)) = false := by simp; omega
          go_wp2
          exact ⟨⟨x + 1, by omega, by go_num, hB2⟩, by simp [intOf]; omega⟩
    · have x1 : decide ((x : Int) < (W : Int)) = false := by simp; omega
      have X5 := Lib.hid (HBOX.out _ hB.out)
      have C5 := Lib.hid (HROW.out _ hB.out)
      have LB5 := Lib.hid (HLB.out _ hB.out)
      clear HSAME HCELL HROW HBOX HLB hB

      obtain ⟨q0, q1, q2, q3, q4, q5, q6⟩ := X5.out.all
      go_wp2_with fail
      clear q0 q1 q2 q3 q4 q5 q6
      refine (HTURN.out _ LB5.out).mono ?_
      rintro e w6 ⟨kt, rfl, hkt, hrt, hb⟩
      have hba := (show Below _ _ (w6.alloc (.cells #[.int .i64 H, .int .i64 W, .slice (some ⟨kt, 0, none⟩) (H * W) (H * W)] 25)) from hb.trans (((Below.refl _ _).alloc (Nat.le_refl _) _).mono hb.size))
      have Y6 := Lib.hid (Box.new w6 H W (.slice (some ⟨kt, 0, none⟩) (H * W) (H * W)))
      have R6 := Lib.hid (hrt.alloc (.cells #[.int .i64 H, .int .i64 W, .slice (some ⟨kt, 0, none⟩) (H * W) (H * W)] 25))
      clear hb hrt
      have X6 := Lib.hid (X5.out.below hba X5.out.lt)
      have LB6 := Lib.hid (LB5.out.trans (hba.mono LB5.out.size))
      have C6 := Lib.hid (C5.out.below hba C5.out.lt)
      clear hba X5 LB5 C5
      obtain ⟨q0, q1, q2, q3, q4, q5, q6⟩ := Y6.out.all
      go_wp2_with fail
      clear q0 q1 q2 q3 q4 q5 q6
      refine (rows_ok H W kt 0 (H * W) (tnf W H f) _ (R6.out.holds R6.out.lt) (Nat.le_refl _) hH0 hH hW0 hW).mono ?_
      rintro e w7 ⟨A3, c3, rfl, -, hr3, hb⟩
      rw [hcx] at hr3
      have X7 := Lib.hid (X6.out.below hb X6.out.lt)
      have LB7 := Lib.hid (LB6.out.trans (hb.mono LB6.out.size))
      have C7 := Lib.hid (C6.out.below hb C6.out.lt)
      have Y7 := Lib.hid (Y6.out.below hb Y6.out.lt)
      have R7 := Lib.hid (R6.out.below hb R6.out.lt)
      clear hb X6 LB6 C6 Y6 R6
      have K7 := Lib.hid (kl_holds hr3)
      clear hr3
      obtain ⟨q0, q1, q2, q3, q4, q5, q6⟩ := Y7.out.all
      go_wp2_with fail
      clear q0 q1 q2 q3 q4 q5 q6
      refine (count_ok H W kt 0 (H * W) (tnf W H f) _ (R7.out.holds R7.out.lt) (Nat.le_refl _) hH0 hH hW0 hW).mono ?_
      rintro e w8 ⟨rfl, hb⟩
      have X8 := Lib.hid (X7.out.below hb X7.out.lt)
      have LB8 := Lib.hid (LB7.out.trans (hb.mono LB7.out.size))
      have C8 := Lib.hid (C7.out.below hb C7.out.lt)
      have Y8 := Lib.hid (Y7.out.below hb Y7.out.lt)
      have R8 := Lib.hid (R7.out.below hb R7.out.lt)
      have K8 := Lib.hid ((K7.out.below hb).more hb.size)
      clear hb X7 LB7 C7 Y7 R7 K7
      rw [nd_congr H fun i hi => tnf2 (W := W) f hi, hcx, hcy]
      obtain ⟨q0, q1, q2, q3, q4, q5, q6⟩ := X8.out.all
      go_wp2_with fail
      clear q0 q1 q2 q3 q4 q5 q6
      refine (HCNT.out _ LB8.out).mono ?_
      rintro e w9 ⟨rfl, hb⟩
      have X9 := Lib.hid (X8.out.below hb X8.out.lt)
      have LB9 := Lib.hid (LB8.out.trans (hb.mono LB8.out.size))
      have C9 := Lib.hid (C8.out.below hb C8.out.lt)
      have Y9 := Lib.hid (Y8.out.below hb Y8.out.lt)
      have R9 := Lib.hid (R8.out.below hb R8.out.lt)
      have K9 := Lib.hid ((K8.out.below hb).more hb.size)
      clear hb X8 LB8 C8 Y8 R8 K8
      go_wp2_with fail
      refine (rieq_any A3 (some ⟨k1, 0, none⟩) W W c3 c1 (ren cx) (ren cx) _ (by omega) K9.out (C9.out.holds C9.out.lt)).mono ?_
      rintro e w10 ⟨rfl, hb⟩
      clear K9
      have X10 := Lib.hid (X9.out.below hb X9.out.lt)
      have LB10 := Lib.hid (LB9.out.trans (hb.mono LB9.out.size))
      have C10 := Lib.hid (C9.out.below hb C9.out.lt)
      have Y10 := Lib.hid (Y9.out.below hb Y9.out.lt)
      have R10 := Lib.hid (R9.out.below hb R9.out.lt)
      clear hb X9 LB9 C9 Y9 R9
      rw [kl_lsm _ _ _ fun i _ => rfl]
      have sx : (((nd cx W : Nat) : Int) != ((nd cx W : Nat) : Int)) = false := by simp
      have sy : (((nd cy H : Nat) : Int) != ((nd cy H : Nat) : Int)) = false := by simp
      clear C10
      by_cases hm : 40 < nd (rc H (tnf W H f)) W ∨ 40 < nd (rc W f) H
      · skip
        obtain ⟨q0, q1, q2, q3, q4, q5, q6⟩ := X10.out.all
        go_wp2_with fail
        clear q0 q1 q2 q3 q4 q5 q6
        refine (HMANY.out hm _ LB10.out).mono ?_
        rintro e w11 ⟨rfl, hb⟩
        have hba := (show Below _ _ (w11.alloc (.cells #[.int .i64 0, .int .i64 0, .slice none 0 0, .slice none 0 0, .int .i64 0, .int .i64 0, .slice none 0 0] 27)) from hb.trans (((Below.refl _ _).alloc (Nat.le_refl _) _).mono hb.size))
        clear hb
        have X11 := Lib.hid (X10.out.below hba X10.out.lt)
        have LB11 := Lib.hid (LB10.out.trans (hba.mono LB10.out.size))
        have Y11 := Lib.hid (Y10.out.below hba Y10.out.lt)
        have R11 := Lib.hid (R10.out.below hba R10.out.lt)
        clear hba X10 LB10 Y10 R10
        have hm2 : 40 < nd (rc W (tnf H W (tnf W H f))) H ∨ 40 < nd (rc H (tnf W H f)) W := by rw [nd_congr H fun i hi => tnf2 (W := W) f hi]; exact hm.symm
        obtain ⟨q0, q1, q2, q3, q4, q5, q6⟩ := Y11.out.all
        go_wp2_with fail
        clear q0 q1 q2 q3 q4 q5 q6
        refine (of_many H W kt 0 (H * W) (tnf W H f) _ (HE.out _ LB11.out) (R11.out.holds R11.out.lt) (Nat.le_refl _) hH0 hH hW0 hW hm2).mono ?_
        rintro e w12 ⟨rfl, hb⟩
        have hba := (show Below _ _ (w12.alloc (.cells #[.int .i64 0, .int .i64 0, .slice none 0 0, .slice none 0 0, .int .i64 0, .int .i64 0, .slice none 0 0] 27)) from hb.trans (((Below.refl _ _).alloc (Nat.le_refl _) _).mono hb.size))
        clear hb
        have X12 := Lib.hid (X11.out.below hba X11.out.lt)
        have LB12 := Lib.hid (LB11.out.trans (hba.mono LB11.out.size))
        have Y12 := Lib.hid (Y11.out.below hba Y11.out.lt)
        have R12 := Lib.hid (R11.out.below hba R11.out.lt)
        clear hba X11 LB11 Y11 R11
        go_wp2_with fail
        refine (alive_any _ (HE.out _ LB12.out)).mono ?_
        rintro e w13 ⟨rfl, hb⟩
        have X13 := Lib.hid (X12.out.below hb X12.out.lt)
        have LB13 := Lib.hid (LB12.out.trans (hb.mono LB12.out.size))
        have Y13 := Lib.hid (Y12.out.below hb Y12.out.lt)
        have R13 := Lib.hid (R12.out.below hb R12.out.lt)
        clear hb X12 LB12 Y12 R12
        go_wp2
        go_ret
        exact ⟨rfl, LB13.out⟩
      · skip
        obtain ⟨q0, q1, q2, q3, q4, q5, q6⟩ := X10.out.all
        go_wp2_with fail
        clear q0 q1 q2 q3 q4 q5 q6
        refine (HOK.out hm _ LB10.out).mono ?_
        rintro e w11 ⟨a1, d1, a2, d2, a3, d3, rfl, hr3, hb⟩
        have hba := (show Below _ _ (w11.alloc (.cells #[.int .i64 ((ofp W H f).S : Nat), .int .i64 ((ofp W H f).T : Nat), .slice (some ⟨a1, 0, none⟩) (ofp W H f).n d1, .slice (some ⟨a2, 0, none⟩) (ofp W H f).m d2, .int .i64 ((ofp W H f).T : Nat), .int .i64 ((ofp W H f).S : Nat), .slice (some ⟨a3, 0, none⟩) ((ofp W H f).T * (ofp W H f).S) d3] 27)) from hb.trans (((Below.refl _ _).alloc (Nat.le_refl _) _).mono hb.size))
        have Du_11 := Lib.hid (show DBox (w11.alloc (.cells #[.int .i64 ((ofp W H f).S : Nat), .int .i64 ((ofp W H f).T : Nat), .slice (some ⟨a1, 0, none⟩) (ofp W H f).n d1, .slice (some ⟨a2, 0, none⟩) (ofp W H f).m d2, .int .i64 ((ofp W H f).T : Nat), .int .i64 ((ofp W H f).S : Nat), .slice (some ⟨a3, 0, none⟩) ((ofp W H f).T * (ofp W H f).S) d3] 27)) w11.heap.size ((ofp W H f).dr a1 d1 a2 d2 a3 d3) from DBox.new w11 ((ofp W H f).dr a1 d1 a2 d2 a3 d3))
        have Qu_11 := Lib.hid (hr3.next ((Below.refl _ _).alloc (Nat.le_refl _) (.cells #[.int .i64 ((ofp W H f).S : Nat), .int .i64 ((ofp W H f).T : Nat), .slice (some ⟨a1, 0, none⟩) (ofp W H f).n d1, .slice (some ⟨a2, 0, none⟩) (ofp W H f).m d2, .int .i64 ((ofp W H f).T : Nat), .int .i64 ((ofp W H f).S : Nat), .slice (some ⟨a3, 0, none⟩) ((ofp W H f).T * (ofp W H f).S) d3] 27)))
        clear hb hr3
        have X11 := Lib.hid (X10.out.below hba X10.out.lt)
        have LB11 := Lib.hid (LB10.out.trans (hba.mono LB10.out.size))
        have Y11 := Lib.hid (Y10.out.below hba Y10.out.lt)
        have R11 := Lib.hid (R10.out.below hba R10.out.lt)
        clear hba X10 LB10 Y10 R10
        have hm2 : ¬ (40 < nd (rc W (tnf H W (tnf W H f))) H ∨ 40 < nd (rc H (tnf W H f)) W) := by rw [nd_congr H fun i hi => tnf2 (W := W) f hi]; exact fun h => hm h.symm
        obtain ⟨q0, q1, q2, q3, q4, q5, q6⟩ := Y11.out.all
        go_wp2_with fail
        clear q0 q1 q2 q3 q4 q5 q6
        refine (of_ok H W kt 0 (H * W) (tnf W H f) _ (HE.out _ LB11.out) (R11.out.holds R11.out.lt) (Nat.le_refl _) hH0 hH hW0 hW hm2).mono ?_
        rintro e w12 ⟨b1, g1, b2, g2, b3, g3, rfl, hr3, hb⟩
        have hba := (show Below _ _ (w12.alloc (.cells #[.int .i64 ((ofp H W (tnf W H f)).S : Nat), .int .i64 ((ofp H W (tnf W H f)).T : Nat), .slice (some ⟨b1, 0, none⟩) (ofp H W (tnf W H f)).n g1, .slice (some ⟨b2, 0, none⟩) (ofp H W (tnf W H f)).m g2, .int .i64 ((ofp H W (tnf W H f)).T : Nat), .int .i64 ((ofp H W (tnf W H f)).S : Nat), .slice (some ⟨b3, 0, none⟩) ((ofp H W (tnf W H f)).T * (ofp H W (tnf W H f)).S) g3] 27)) from hb.trans (((Below.refl _ _).alloc (Nat.le_refl _) _).mono hb.size))
        have Dv_12 := Lib.hid (show DBox (w12.alloc (.cells #[.int .i64 ((ofp H W (tnf W H f)).S : Nat), .int .i64 ((ofp H W (tnf W H f)).T : Nat), .slice (some ⟨b1, 0, none⟩) (ofp H W (tnf W H f)).n g1, .slice (some ⟨b2, 0, none⟩) (ofp H W (tnf W H f)).m g2, .int .i64 ((ofp H W (tnf W H f)).T : Nat), .int .i64 ((ofp H W (tnf W H f)).S : Nat), .slice (some ⟨b3, 0, none⟩) ((ofp H W (tnf W H f)).T * (ofp H W (tnf W H f)).S) g3] 27)) w12.heap.size ((ofp H W (tnf W H f)).dr b1 g1 b2 g2 b3 g3) from DBox.new w12 ((ofp H W (tnf W H f)).dr b1 g1 b2 g2 b3 g3))
        have Qv_12 := Lib.hid (hr3.next ((Below.refl _ _).alloc (Nat.le_refl _) (.cells #[.int .i64 ((ofp H W (tnf W H f)).S : Nat), .int .i64 ((ofp H W (tnf W H f)).T : Nat), .slice (some ⟨b1, 0, none⟩) (ofp H W (tnf W H f)).n g1, .slice (some ⟨b2, 0, none⟩) (ofp H W (tnf W H f)).m g2, .int .i64 ((ofp H W (tnf W H f)).T : Nat), .int .i64 ((ofp H W (tnf W H f)).S : Nat), .slice (some ⟨b3, 0, none⟩) ((ofp H W (tnf W H f)).T * (ofp H W (tnf W H f)).S) g3] 27)))
        clear hb hr3
        have X12 := Lib.hid (X11.out.below hba X11.out.lt)
        have LB12 := Lib.hid (LB11.out.trans (hba.mono LB11.out.size))
        have Y12 := Lib.hid (Y11.out.below hba Y11.out.lt)
        have R12 := Lib.hid (R11.out.below hba R11.out.lt)
        have Du_12 := Lib.hid (Du_11.out.next hba)
        have Qu_12 := Lib.hid (Qu_11.out.next hba)
        clear hba X11 LB11 Y11 R11 Du_11 Qu_11
        have hok := ofp_ok hW0 hW hH0 hH (f := f) (by omega) (by omega)
        obtain ⟨q0, q1, q2, q3, q4, q5, q6, q7⟩ := Du_12.out.all
        dsimp only [PD.dr] at q0 q1 q2 q3 q4 q5 q6
        go_wp2_with fail
        clear q0 q1 q2 q3 q4 q5 q6 q7
        refine (dturn_ok (PD.dr_is (ofp W H f) a1 d1 a2 d2 a3 d3) hok _ (Qu_12.out.dr d1 d2 d3)).mono ?_
        rintro e w13 ⟨t1, y1, t2, y2, t3, y3, rfl, hr3, hb⟩
        have hba := (show Below _ _ (w13.alloc (.cells #[.int .i64 ((ofp W H f).turn.S : Nat), .int .i64 ((ofp W H f).turn.T : Nat), .slice (some ⟨t1, 0, none⟩) (ofp W H f).turn.n y1, .slice (some ⟨t2, 0, none⟩) (ofp W H f).turn.m y2, .int .i64 ((ofp W H f).turn.T : Nat), .int .i64 ((ofp W H f).turn.S : Nat), .slice (some ⟨t3, 0, none⟩) ((ofp W H f).turn.T * (ofp W H f).turn.S) y3] 27)) from hb.trans (((Below.refl _ _).alloc (Nat.le_refl _) _).mono hb.size))
        have Dt_13 := Lib.hid (show DBox (w13.alloc (.cells #[.int .i64 ((ofp W H f).turn.S : Nat), .int .i64 ((ofp W H f).turn.T : Nat), .slice (some ⟨t1, 0, none⟩) (ofp W H f).turn.n y1, .slice (some ⟨t2, 0, none⟩) (ofp W H f).turn.m y2, .int .i64 ((ofp W H f).turn.T : Nat), .int .i64 ((ofp W H f).turn.S : Nat), .slice (some ⟨t3, 0, none⟩) ((ofp W H f).turn.T * (ofp W H f).turn.S) y3] 27)) w13.heap.size ((ofp W H f).turn.dr t1 y1 t2 y2 t3 y3) from DBox.new w13 ((ofp W H f).turn.dr t1 y1 t2 y2 t3 y3))
        have Qt_13 := Lib.hid (hr3.next ((Below.refl _ _).alloc (Nat.le_refl _) (.cells #[.int .i64 ((ofp W H f).turn.S : Nat), .int .i64 ((ofp W H f).turn.T : Nat), .slice (some ⟨t1, 0, none⟩) (ofp W H f).turn.n y1, .slice (some ⟨t2, 0, none⟩) (ofp W H f).turn.m y2, .int .i64 ((ofp W H f).turn.T : Nat), .int .i64 ((ofp W H f).turn.S : Nat), .slice (some ⟨t3, 0, none⟩) ((ofp W H f).turn.T * (ofp W H f).turn.S) y3] 27)))
        clear hb hr3
        have X13 := Lib.hid (X12.out.below hba X12.out.lt)
        have LB13 := Lib.hid (LB12.out.trans (hba.mono LB12.out.size))
        have Y13 := Lib.hid (Y12.out.below hba Y12.out.lt)
        have R13 := Lib.hid (R12.out.below hba R12.out.lt)
        have Du_13 := Lib.hid (Du_12.out.next hba)
        have Qu_13 := Lib.hid (Qu_12.out.next hba)
        have Dv_13 := Lib.hid (Dv_12.out.next hba)
        have Qv_13 := Lib.hid (Qv_12.out.next hba)
        clear hba X12 LB12 Y12 R12 Du_12 Qu_12 Dv_12 Qv_12
        obtain ⟨q0, q1, q2, q3, q4, q5, q6, q7⟩ := Dv_13.out.all
        dsimp only [PD.dr] at q0 q1 q2 q3 q4 q5 q6
        obtain ⟨r0, r1, r2, r3, r4, r5, r6, r7⟩ := Dt_13.out.all
        dsimp only [PD.dr] at r0 r1 r2 r3 r4 r5 r6
        go_wp2_with fail
        clear q0 q1 q2 q3 q4 q5 q6 q7 r0 r1 r2 r3 r4 r5 r6 r7
        refine (rdsame_any (PD.dr (ofp H W (tnf W H f)) b1 g1 b2 g2 b3 g3) (PD.dr (ofp W H f).turn t1 y1 t2 y2 t3 y3) _ ((PD.dr_is (ofp H W (tnf W H f)) b1 g1 b2 g2 b3 g3).small (ofp_ok hH0 hH hW0 hW (f := tnf W H f) (by omega) (by omega))) (Qv_13.out.dr g1 g2 g3) (Qt_13.out.dr y1 y2 y3)).mono ?_
        rintro e w14 ⟨rfl, hb⟩
        have X14 := Lib.hid (X13.out.below hb X13.out.lt)
        have LB14 := Lib.hid (LB13.out.trans (hb.mono LB13.out.size))
        have Y14 := Lib.hid (Y13.out.below hb Y13.out.lt)
        have R14 := Lib.hid (R13.out.below hb R13.out.lt)
        have Du_14 := Lib.hid (Du_13.out.next hb)
        have Qu_14 := Lib.hid (Qu_13.out.next hb)
        have Dv_14 := Lib.hid (Dv_13.out.next hb)
        have Qv_14 := Lib.hid (Qv_13.out.next hb)
        have Dt_14 := Lib.hid (Dt_13.out.next hb)
        have Qt_14 := Lib.hid (Qt_13.out.next hb)
        clear hb X13 LB13 Y13 R13 Du_13 Qu_13 Dv_13 Qv_13 Dt_13 Qt_13
        rw [(dsm_is (PD.dr_is (ofp H W (tnf W H f)) b1 g1 b2 g2 b3 g3) (PD.dr_is (ofp W H f).turn t1 y1 t2 y2 t3 y3) (ofp_ok hH0 hH hW0 hW (f := tnf W H f) (by omega) (by omega))).2 (oft_eqv W H f)]
        go_wp2_with fail
        refine (alive_any _ (HE.out _ LB14.out)).mono ?_
        rintro e w15 ⟨rfl, hb⟩
        have X15 := Lib.hid (X14.out.below hb X14.out.lt)
        have LB15 := Lib.hid (LB14.out.trans (hb.mono LB14.out.size))
        have Y15 := Lib.hid (Y14.out.below hb Y14.out.lt)
        have R15 := Lib.hid (R14.out.below hb R14.out.lt)
        have Du_15 := Lib.hid (Du_14.out.next hb)
        have Qu_15 := Lib.hid (Qu_14.out.next hb)
        have Dv_15 := Lib.hid (Dv_14.out.next hb)
        have Qv_15 := Lib.hid (Qv_14.out.next hb)
        have Dt_15 := Lib.hid (Dt_14.out.next hb)
        have Qt_15 := Lib.hid (Qt_14.out.next hb)
        clear hb X14 LB14 Y14 R14 Du_14 Qu_14 Dv_14 Qv_14 Dt_14 Qt_14
        go_wp2
        go_ret
        exact ⟨rfl, LB15.out⟩

theorem kl_any (W H : Int) (A : Option Addr) (n c : Nat) (f : Nat → Bool) (w : World) (hE : Env w) (hr : Holds w w.heap.size A n f) (hcap : n ≤ c) :
    Calls Tryd.prog 7 #[.agg #[.int .i64 W, .int .i64 H, .slice A n c]] w fun e w' => e = .returned (.bool true) ∧ Below w.heap.size w w' := by
  by_cases hn : n ≤ 4200
  · by_cases hx : chk W H n = 0
    · obtain ⟨a1, a2, a3, a4, a5⟩ := chk_ok hx
      obtain ⟨W', rfl⟩ : ∃ W' : Nat, W = W' := ⟨W.toNat, (Int.toNat_of_nonneg (by omega)).symm⟩
      obtain ⟨H', rfl⟩ : ∃ H' : Nat, H = H' := ⟨H.toNat, (Int.toNat_of_nonneg (by omega)).symm⟩
      have hNe : n = W' * H' := by exact_mod_cast a5
      obtain ⟨b, o, rfl, _, _⟩ := hr (by rw [hNe]; exact Nat.mul_pos (by omega) (by omega))
      exact kl_main W' H' n b o c f w hE hNe hr hcap (by omega) (by omega) (by omega) (by omega)
    · exact kl_bad W H A n c w hE hn _ rfl (by simpa using hx)
  · exact kl_great W H A n c w hE (by omega)
end Go.Proofs.YtbafhdinalapoaaDoor
