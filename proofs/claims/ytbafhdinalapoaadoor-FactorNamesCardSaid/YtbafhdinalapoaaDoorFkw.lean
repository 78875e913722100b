/- The statement FactorKinds. -/
import Derived.Test.YtbafhdinalapoaaDoorFrf
import Derived.Test.YtbafhdinalapoaaDoorTwn
namespace Go.Proofs.YtbafhdinalapoaaDoor
open Go.RowKit
set_option linter.unusedVariables false
set_option linter.unusedSimpArgs false
set_option maxRecDepth 100000

open L2 (nd ren)
/-- A draft and an error came back: the draft's elements lie somewhere in this memory. -/
def DOut (w : World) (E : Dr) (err : Int) (e : Ending) (w' : World) : Prop :=
  ∃ A c B d C e', e = .returned (.tuple #[.agg #[.int .i64 E.S, .int .i64 E.T, .slice A E.n c, .slice B E.m d, .int .i64 E.W, .int .i64 E.H, .slice C E.k e'], .int .i64 err]) ∧ (E.at_ A c B d C e').In w' w'.heap.size ∧ Below w.heap.size w w'
theorem OkDr.out {w w' : World} {Q : PD} {e : Ending} (h : OkDr w Q e w') : DOut w (Q.dr 0 0 0 0 0 0) 0 e w' := by
  obtain ⟨a, ca, b, cb, c, cc, he, hr, hb⟩ := h
  exact ⟨some ⟨a, 0, none⟩, ca, some ⟨b, 0, none⟩, cb, some ⟨c, 0, none⟩, cc, he, hr.dr ca cb cc, hb⟩
theorem ErrDr.out {w w' : World} {err : Int} {e : Ending} (h : ErrDr w err e w') : DOut w Dr.zero err e w' :=
  ⟨none, 0, none, 0, none, 0, h.1, ⟨fun h => absurd h (Nat.lt_irrefl 0), fun h => absurd h (Nat.lt_irrefl 0), fun h => absurd h (Nat.lt_irrefl 0)⟩, h.2⟩
theorem Dr.zero_small : Dr.zero.Small := ⟨by decide, by decide, by decide⟩
theorem PD.Ok.small {Q : PD} (h : Q.Ok) : (Q.dr 0 0 0 0 0 0).Small := (Q.dr_is 0 0 0 0 0 0).small h
theorem dsm_at (E : Dr) (A B C A' B' C' : Option Addr) (c d e c' d' e' : Nat) : dsm (E.at_ A c B d C e) (E.at_ A' c' B' d' C' e') = true := by
  unfold dsm lsm gsm
  simp [Dr.at_]
theorem lsm_self (n : Nat) (f : Nat → Int) : lsm n f n f = true := by unfold lsm; simp
theorem gsm_self (W H : Int) (n : Nat) (f : Nat → Bool) : gsm W H n f W H n f = true := by unfold gsm; simp
theorem lout_holds {w' : World} {B n : Nat} {A : Option Addr} {F : Nat → Int} (h : 0 < n → ∃ k, A = some ⟨k, 0, none⟩ ∧ B ≤ k ∧ L2.Row w' k n F) : L2.Holds w' w'.heap.size A n F := fun hn => by
  obtain ⟨k, rfl, _, hr⟩ := h hn
  exact hr.holds hr.lt hn
theorem bout_holds {w' : World} {B n : Nat} {A : Option Addr} {F : Nat → Bool} (h : 0 < n → ∃ k, A = some ⟨k, 0, none⟩ ∧ B ≤ k ∧ Row w' k n F) : Holds w' w'.heap.size A n F := fun hn => by
  obtain ⟨k, rfl, _, hr⟩ := h hn
  exact hr.holds hr.lt hn

/-- What both sides hand back of one grid. -/
structure FK (w : World) (args : Array Value) (n1 n2 : Nat) (F1 F2 : Nat → Int) (s t : Int) (e re : Int) (R : Dr) : Prop where
  a1 : Calls Tryd.prog 20 args w (L2.LOut w n1 F1 e)
  a2 : Calls Tryd.prog 21 args w (L2.LOut w n1 F1 e)
  b1 : Calls Tryd.prog 22 args w (L2.LOut w n2 F2 e)
  b2 : Calls Tryd.prog 23 args w (L2.LOut w n2 F2 e)
  c1 : Calls Tryd.prog 15 args w fun x w' => x = .returned (.tuple #[.int .i64 s, .int .i64 t, .int .i64 e]) ∧ Below w.heap.size w w'
  c2 : Calls Tryd.prog 24 args w fun x w' => x = .returned (.tuple #[.int .i64 s, .int .i64 t, .int .i64 e]) ∧ Below w.heap.size w w'
  d1 : Calls Tryd.prog 9 args w (DOut w R re)
  d2 : Calls Tryd.prog 25 args w (DOut w R re)
theorem fk_two (W H : Int) (A : Option Addr) (n c : Nat) (f : Nat → Bool) (w0 : World) (h0 : Holds w0 w0.heap.size A n f) (hn : n ≤ 4200) (hcap : n ≤ c) : ∃ (n1 n2 : Nat) (F1 F2 : Nat → Int) (s t e re : Int) (R : Dr), n1 ≤ 420 ∧ n2 ≤ 420 ∧ R.Small ∧
    ∀ w, Env w → Holds w w.heap.size A n f → FK w #[.agg #[.int .i64 W, .int .i64 H, .slice A n c]] n1 n2 F1 F2 s t e re R := by
  obtain ⟨z, hz⟩ : ∃ z, chk W H n = z := ⟨_, rfl⟩
  by_cases hx : z = 0
  · subst hx
    obtain ⟨a1, a2, a3, a4, a5⟩ := chk_ok hz
    obtain ⟨W', rfl⟩ : ∃ W' : Nat, W = W' := ⟨W.toNat, (Int.toNat_of_nonneg (by omega)).symm⟩
    obtain ⟨H', rfl⟩ : ∃ H' : Nat, H = H' := ⟨H.toNat, (Int.toNat_of_nonneg (by omega)).symm⟩
    have hNe : n = W' * H' := by exact_mod_cast a5
    subst hNe
    obtain ⟨b, o, rfl, _, _⟩ := h0 (Nat.mul_pos (by omega) (by omega))
    by_cases hm : 40 < nd (rc H' (tnf W' H' f)) W' ∨ 40 < nd (rc W' f) H'
    · exact ⟨W', H', ren (rc H' (tnf W' H' f)), ren (rc W' f), (nd (rc H' (tnf W' H' f)) W' : Nat), (nd (rc W' f) H' : Nat), 0, 4, Dr.zero, by omega, by omega, Dr.zero_small, fun w hE hr =>
        ⟨columns_ok W' H' b o c f w hr hcap (by omega) (by omega) (by omega) (by omega), rcolumns_ok W' H' b o c f w hr hcap (by omega) (by omega) (by omega) (by omega), rows_ok W' H' b o c f w hr hcap (by omega) (by omega) (by omega) (by omega), rrows_ok W' H' b o c f w hr hcap (by omega) (by omega) (by omega) (by omega),
         count_ok W' H' b o c f w hr hcap (by omega) (by omega) (by omega) (by omega), rcount_ok W' H' b o c f w hr hcap (by omega) (by omega) (by omega) (by omega),
         (of_many W' H' b o c f w hE hr hcap (by omega) (by omega) (by omega) (by omega) hm).mono fun _ _ h => h.out, (rof_many W' H' b o c f w hr hcap (by omega) (by omega) (by omega) (by omega) hm).mono fun _ _ h => h.out⟩⟩
    · exact ⟨W', H', ren (rc H' (tnf W' H' f)), ren (rc W' f), (nd (rc H' (tnf W' H' f)) W' : Nat), (nd (rc W' f) H' : Nat), 0, 0, (ofp W' H' f).dr 0 0 0 0 0 0, by omega, by omega, (ofp_ok (by omega) (by omega) (by omega) (by omega) (by omega) (by omega)).small, fun w hE hr =>
        ⟨columns_ok W' H' b o c f w hr hcap (by omega) (by omega) (by omega) (by omega), rcolumns_ok W' H' b o c f w hr hcap (by omega) (by omega) (by omega) (by omega), rows_ok W' H' b o c f w hr hcap (by omega) (by omega) (by omega) (by omega), rrows_ok W' H' b o c f w hr hcap (by omega) (by omega) (by omega) (by omega),
         count_ok W' H' b o c f w hr hcap (by omega) (by omega) (by omega) (by omega), rcount_ok W' H' b o c f w hr hcap (by omega) (by omega) (by omega) (by omega),
         (of_ok W' H' b o c f w hE hr hcap (by omega) (by omega) (by omega) (by omega) hm).mono fun _ _ h => h.out, (rof_ok W' H' b o c f w hr hcap (by omega) (by omega) (by omega) (by omega) hm).mono fun _ _ h => h.out⟩⟩
  · have hne : (z != 0) = true := by simpa using hx
    exact ⟨0, 0, fun _ => 0, fun _ => 0, 0, 0, z, z, Dr.zero, by omega, by omega, Dr.zero_small, fun w hE hr =>
      ⟨columns_err W H A n c _ w z hn hz hne, rcolumns_err W H A n c _ w z hn hz hne, rows_err W H A n c _ w z hn hz hne, rrows_err W H A n c _ w z hn hz hne, count_err W H A n c w z hn hz hne, rcount_err W H A n c w z hn hz hne,
       (of_err W H A n c w z hn hz hne).mono fun _ _ h => h.out, (rof_err W H A n c w z hn hz hne).mono fun _ _ h => h.out⟩⟩

set_option maxHeartbeats 800000 in
theorem fkinds_great (W H : Int) (A : Option Addr) (n c : Nat) (w : World) (hn : 4200 < n) :
    Calls Tryd.prog 4 #[.agg #[.int .i64 W, .int .i64 H, .slice A n c]] w fun e w' => e = .returned (.bool true) ∧ Below w.heap.size w w' := by
  have LB := Lib.hid (show Below w.heap.size w (w.alloc (.cells #[.int .i64 W, .int .i64 H, .slice A n c] 25)) from (Below.refl _ _).alloc (Nat.le_refl _) _)
  have X := Lib.hid (Box.new w W H (.slice A n c))
  go_enter Tryd.func4, Tryd.ntmps4
  obtain ⟨q0, q1, q2, q3, q4, q5, q6⟩ := X.out.all
  go_wp2_with fail
  clear q0 q1 q2 q3 q4 q5 q6
  refine (great_yes W H A n c _ hn).mono ?_
  rintro e w1 ⟨rfl, hb⟩
  have LB1 := Lib.hid (LB.out.trans (hb.mono LB.out.size))
  clear hb
  go_wp2
  go_ret
  exact ⟨rfl, LB1.out⟩

set_option maxHeartbeats 1600000 in
theorem fkinds_main (W H : Int) (A : Option Addr) (n c : Nat) (f : Nat → Bool) (w : World) (hE : Env w) (hr : Holds w w.heap.size A n f) (hn : n ≤ 4200) (hcap : n ≤ c) :
    Calls Tryd.prog 4 #[.agg #[.int .i64 W, .int .i64 H, .slice A n c]] w fun e w' => e = .returned (.bool true) ∧ Below w.heap.size w w' := by
  obtain ⟨n1, n2, F1, F2, s, t, er, re, R, b1, b2, hR, hfk⟩ := fk_two W H A n c f w hr hn hcap
  have FKH := Lib.hid (fun v (h : Below w.heap.size w v) => hfk v (hE.next h) ((hr.below h).more h.size))
  have HG := Lib.hid (fun v (h : Below w.heap.size w v) => (hr.below h).more h.size)
  have HR := Lib.hid hR
  have LB0 := Lib.hid (show Below w.heap.size w (w.alloc (.cells #[.int .i64 W, .int .i64 H, .slice A n c] 25)) from (Below.refl _ _).alloc (Nat.le_refl _) _)
  have X0 := Lib.hid (Box.new w W H (.slice A n c))
  clear hfk hE hr hR
  go_enter Tryd.func4, Tryd.ntmps4
  obtain ⟨q0, q1, q2, q3, q4, q5, q6⟩ := X0.out.all
  go_wp2_with fail
  clear q0 q1 q2 q3 q4 q5 q6
  refine (great_no W H A n c _ hn).mono ?_
  rintro e w1 ⟨rfl, hb⟩
  have X1 := Lib.hid (X0.out.below hb X0.out.lt)
  have LB1 := Lib.hid (LB0.out.trans (hb.mono LB0.out.size))
  clear X0 LB0
  clear hb
  obtain ⟨q0, q1, q2, q3, q4, q5, q6⟩ := X1.out.all
  go_wp2_with fail
  clear q0 q1 q2 q3 q4 q5 q6
  refine (twin_any W H A n c f _ hn (HG.out _ LB1.out)).mono ?_
  rintro e w2 ⟨At, ct, rfl, hrt, hb⟩
  have X2 := Lib.hid (X1.out.below hb X1.out.lt)
  have LB2 := Lib.hid (LB1.out.trans (hb.mono LB1.out.size))
  clear X1 LB1
  have ht0 := bout_holds hrt
  have hba : Below w2.heap.size w2 (w2.alloc (.cells #[.int .i64 W, .int .i64 H, .slice At n ct] 25)) := (Below.refl _ _).alloc (Nat.le_refl _) _
  have Y2 := Lib.hid (Box.new w2 W H (.slice At n ct))
  have T2 := Lib.hid ((ht0.below hba).more hba.size)
  have Xa := Lib.hid (X2.out.below hba X2.out.lt)
  have LBa := Lib.hid (LB2.out.trans (hba.mono LB2.out.size))
  clear hb hrt ht0 hba X2 LB2
  have X2 := Xa
  clear Xa
  have LB2 := LBa
  clear LBa
  obtain ⟨q0, q1, q2, q3, q4, q5, q6⟩ := X2.out.all
  go_wp2_with fail
  clear q0 q1 q2 q3 q4 q5 q6
  refine ((FKH.out _ LB2.out).a1).mono ?_
  rintro e w3 ⟨A1, e1, rfl, -, hr1, hb⟩
  have X3 := Lib.hid (X2.out.below hb X2.out.lt)
  have LB3 := Lib.hid (LB2.out.trans (hb.mono LB2.out.size))
  have Y3 := Lib.hid (Y2.out.below hb Y2.out.lt)
  have T3 := Lib.hid ((T2.out.below hb).more hb.size)
  clear X2 LB2 Y2 T2
  have K1_3 := Lib.hid (lout_holds hr1)
  clear hb hr1
  obtain ⟨q0, q1, q2, q3, q4, q5, q6⟩ := X3.out.all
  go_wp2_with fail
  clear q0 q1 q2 q3 q4 q5 q6
  refine ((FKH.out _ LB3.out).a2).mono ?_
  rintro e w4 ⟨A2, e2, rfl, -, hr2, hb⟩
  have X4 := Lib.hid (X3.out.below hb X3.out.lt)
  have LB4 := Lib.hid (LB3.out.trans (hb.mono LB3.out.size))
  have Y4 := Lib.hid (Y3.out.below hb Y3.out.lt)
  have T4 := Lib.hid ((T3.out.below hb).more hb.size)
  have K1_4 := Lib.hid ((K1_3.out.below hb).more hb.size)
  clear X3 LB3 Y3 T3 K1_3
  have K2_4 := Lib.hid (lout_holds hr2)
  clear hb hr2
  obtain ⟨q0, q1, q2, q3, q4, q5, q6⟩ := X4.out.all
  go_wp2_with fail
  clear q0 q1 q2 q3 q4 q5 q6
  refine ((FKH.out _ LB4.out).b1).mono ?_
  rintro e w5 ⟨A3, e3, rfl, -, hr3, hb⟩
  have X5 := Lib.hid (X4.out.below hb X4.out.lt)
  have LB5 := Lib.hid (LB4.out.trans (hb.mono LB4.out.size))
  have Y5 := Lib.hid (Y4.out.below hb Y4.out.lt)
  have T5 := Lib.hid ((T4.out.below hb).more hb.size)
  have K1_5 := Lib.hid ((K1_4.out.below hb).more hb.size)
  have K2_5 := Lib.hid ((K2_4.out.below hb).more hb.size)
  clear X4 LB4 Y4 T4 K1_4 K2_4
  have K3_5 := Lib.hid (lout_holds hr3)
  clear hb hr3
  obtain ⟨q0, q1, q2, q3, q4, q5, q6⟩ := X5.out.all
  go_wp2_with fail
  clear q0 q1 q2 q3 q4 q5 q6
  refine ((FKH.out _ LB5.out).b2).mono ?_
  rintro e w6 ⟨A4, e4, rfl, -, hr4, hb⟩
  have X6 := Lib.hid (X5.out.below hb X5.out.lt)
  have LB6 := Lib.hid (LB5.out.trans (hb.mono LB5.out.size))
  have Y6 := Lib.hid (Y5.out.below hb Y5.out.lt)
  have T6 := Lib.hid ((T5.out.below hb).more hb.size)
  have K1_6 := Lib.hid ((K1_5.out.below hb).more hb.size)
  have K2_6 := Lib.hid ((K2_5.out.below hb).more hb.size)
  have K3_6 := Lib.hid ((K3_5.out.below hb).more hb.size)
  clear X5 LB5 Y5 T5 K1_5 K2_5 K3_5
  have K4_6 := Lib.hid (lout_holds hr4)
  clear hb hr4
  obtain ⟨q0, q1, q2, q3, q4, q5, q6⟩ := X6.out.all
  go_wp2_with fail
  clear q0 q1 q2 q3 q4 q5 q6
  refine ((FKH.out _ LB6.out).c1).mono ?_
  rintro e w7 ⟨rfl, hb⟩
  have X7 := Lib.hid (X6.out.below hb X6.out.lt)
  have LB7 := Lib.hid (LB6.out.trans (hb.mono LB6.out.size))
  have Y7 := Lib.hid (Y6.out.below hb Y6.out.lt)
  have T7 := Lib.hid ((T6.out.below hb).more hb.size)
  have K1_7 := Lib.hid ((K1_6.out.below hb).more hb.size)
  have K2_7 := Lib.hid ((K2_6.out.below hb).more hb.size)
  have K3_7 := Lib.hid ((K3_6.out.below hb).more hb.size)
  have K4_7 := Lib.hid ((K4_6.out.below hb).more hb.size)
  clear X6 LB6 Y6 T6 K1_6 K2_6 K3_6 K4_6
  clear hb
  obtain ⟨q0, q1, q2, q3, q4, q5, q6⟩ := X7.out.all
  go_wp2_with fail
  clear q0 q1 q2 q3 q4 q5 q6
  refine ((FKH.out _ LB7.out).c2).mono ?_
  rintro e w8 ⟨rfl, hb⟩
  have X8 := Lib.hid (X7.out.below hb X7.out.lt)
  have LB8 := Lib.hid (LB7.out.trans (hb.mono LB7.out.size))
  have Y8 := Lib.hid (Y7.out.below hb Y7.out.lt)
  have T8 := Lib.hid ((T7.out.below hb).more hb.size)
  have K1_8 := Lib.hid ((K1_7.out.below hb).more hb.size)
  have K2_8 := Lib.hid ((K2_7.out.below hb).more hb.size)
  have K3_8 := Lib.hid ((K3_7.out.below hb).more hb.size)
  have K4_8 := Lib.hid ((K4_7.out.below hb).more hb.size)
  clear X7 LB7 Y7 T7 K1_7 K2_7 K3_7 K4_7
  clear hb
  obtain ⟨q0, q1, q2, q3, q4, q5, q6⟩ := X8.out.all
  go_wp2_with fail
  clear q0 q1 q2 q3 q4 q5 q6
  refine ((FKH.out _ LB8.out).d1).mono ?_
  rintro e w9 ⟨B01, g01, B02, g02, B03, g03, rfl, hd, hb⟩
  have X9 := Lib.hid (X8.out.below hb X8.out.lt)
  have LB9 := Lib.hid (LB8.out.trans (hb.mono LB8.out.size))
  have Y9 := Lib.hid (Y8.out.below hb Y8.out.lt)
  have T9 := Lib.hid ((T8.out.below hb).more hb.size)
  have K1_9 := Lib.hid ((K1_8.out.below hb).more hb.size)
  have K2_9 := Lib.hid ((K2_8.out.below hb).more hb.size)
  have K3_9 := Lib.hid ((K3_8.out.below hb).more hb.size)
  have K4_9 := Lib.hid ((K4_8.out.below hb).more hb.size)
  clear X8 LB8 Y8 T8 K1_8 K2_8 K3_8 K4_8
  have hba : Below w9.heap.size w9 (w9.alloc (.cells #[.int .i64 R.S, .int .i64 R.T, .slice B01 R.n g01, .slice B02 R.m g02, .int .i64 R.W, .int .i64 R.H, .slice B03 R.k g03] 27)) := (Below.refl _ _).alloc (Nat.le_refl _) _
  have PB0a := Lib.hid (show DBox (w9.alloc (.cells #[.int .i64 R.S, .int .i64 R.T, .slice B01 R.n g01, .slice B02 R.m g02, .int .i64 R.W, .int .i64 R.H, .slice B03 R.k g03] 27)) w9.heap.size (R.at_ B01 g01 B02 g02 B03 g03) from DBox.new w9 (R.at_ B01 g01 B02 g02 B03 g03))
  have PI0a := Lib.hid (hd.next hba)
  clear hb hd
  have Xa := Lib.hid (X9.out.below hba X9.out.lt)
  have LBa := Lib.hid (LB9.out.trans (hba.mono LB9.out.size))
  have Ya := Lib.hid (Y9.out.below hba Y9.out.lt)
  have Ta := Lib.hid ((T9.out.below hba).more hba.size)
  have K1_a := Lib.hid ((K1_9.out.below hba).more hba.size)
  have K2_a := Lib.hid ((K2_9.out.below hba).more hba.size)
  have K3_a := Lib.hid ((K3_9.out.below hba).more hba.size)
  have K4_a := Lib.hid ((K4_9.out.below hba).more hba.size)
  clear hba X9 LB9 Y9 T9 K1_9 K2_9 K3_9 K4_9
  have PB0_9 := PB0a
  have PI0_9 := PI0a
  clear PB0a PI0a
  have X9 := Xa
  clear Xa
  have LB9 := LBa
  clear LBa
  have Y9 := Ya
  clear Ya
  have T9 := Ta
  clear Ta
  have K1_9 := K1_a
  clear K1_a
  have K2_9 := K2_a
  clear K2_a
  have K3_9 := K3_a
  clear K3_a
  have K4_9 := K4_a
  clear K4_a
  obtain ⟨q0, q1, q2, q3, q4, q5, q6⟩ := X9.out.all
  go_wp2_with fail
  clear q0 q1 q2 q3 q4 q5 q6
  refine ((FKH.out _ LB9.out).d2).mono ?_
  rintro e w10 ⟨B11, g11, B12, g12, B13, g13, rfl, hd, hb⟩
  have X10 := Lib.hid (X9.out.below hb X9.out.lt)
  have LB10 := Lib.hid (LB9.out.trans (hb.mono LB9.out.size))
  have Y10 := Lib.hid (Y9.out.below hb Y9.out.lt)
  have T10 := Lib.hid ((T9.out.below hb).more hb.size)
  have K1_10 := Lib.hid ((K1_9.out.below hb).more hb.size)
  have K2_10 := Lib.hid ((K2_9.out.below hb).more hb.size)
  have K3_10 := Lib.hid ((K3_9.out.below hb).more hb.size)
  have K4_10 := Lib.hid ((K4_9.out.below hb).more hb.size)
  have PB0_10 := Lib.hid (PB0_9.out.next hb)
  have PI0_10 := Lib.hid (PI0_9.out.next hb)
  clear X9 LB9 Y9 T9 K1_9 K2_9 K3_9 K4_9 PB0_9 PI0_9
  have hba : Below w10.heap.size w10 (w10.alloc (.cells #[.int .i64 R.S, .int .i64 R.T, .slice B11 R.n g11, .slice B12 R.m g12, .int .i64 R.W, .int .i64 R.H, .slice B13 R.k g13] 27)) := (Below.refl _ _).alloc (Nat.le_refl _) _
  have PB1a := Lib.hid (show DBox (w10.alloc (.cells #[.int .i64 R.S, .int .i64 R.T, .slice B11 R.n g11, .slice B12 R.m g12, .int .i64 R.W, .int .i64 R.H, .slice B13 R.k g13] 27)) w10.heap.size (R.at_ B11 g11 B12 g12 B13 g13) from DBox.new w10 (R.at_ B11 g11 B12 g12 B13 g13))
  have PI1a := Lib.hid (hd.next hba)
  clear hb hd
  have Xa := Lib.hid (X10.out.below hba X10.out.lt)
  have LBa := Lib.hid (LB10.out.trans (hba.mono LB10.out.size))
  have Ya := Lib.hid (Y10.out.below hba Y10.out.lt)
  have Ta := Lib.hid ((T10.out.below hba).more hba.size)
  have K1_a := Lib.hid ((K1_10.out.below hba).more hba.size)
  have K2_a := Lib.hid ((K2_10.out.below hba).more hba.size)
  have K3_a := Lib.hid ((K3_10.out.below hba).more hba.size)
  have K4_a := Lib.hid ((K4_10.out.below hba).more hba.size)
  have PB0_a := Lib.hid (PB0_10.out.next hba)
  have PI0_a := Lib.hid (PI0_10.out.next hba)
  clear hba X10 LB10 Y10 T10 K1_10 K2_10 K3_10 K4_10 PB0_10 PI0_10
  have PB1_10 := PB1a
  have PI1_10 := PI1a
  clear PB1a PI1a
  have X10 := Xa
  clear Xa
  have LB10 := LBa
  clear LBa
  have Y10 := Ya
  clear Ya
  have T10 := Ta
  clear Ta
  have K1_10 := K1_a
  clear K1_a
  have K2_10 := K2_a
  clear K2_a
  have K3_10 := K3_a
  clear K3_a
  have K4_10 := K4_a
  clear K4_a
  have PB0_10 := PB0_a
  clear PB0_a
  have PI0_10 := PI0_a
  clear PI0_a
  go_wp2_with fail
  refine (rieq_any A1 A2 n1 n1 e1 e2 F1 F1 _ (by omega) K1_10.out K2_10.out).mono ?_
  rintro e w11 ⟨rfl, hb⟩
  have X11 := Lib.hid (X10.out.below hb X10.out.lt)
  have LB11 := Lib.hid (LB10.out.trans (hb.mono LB10.out.size))
  have Y11 := Lib.hid (Y10.out.below hb Y10.out.lt)
  have T11 := Lib.hid ((T10.out.below hb).more hb.size)
  have K1_11 := Lib.hid ((K1_10.out.below hb).more hb.size)
  have K2_11 := Lib.hid ((K2_10.out.below hb).more hb.size)
  have K3_11 := Lib.hid ((K3_10.out.below hb).more hb.size)
  have K4_11 := Lib.hid ((K4_10.out.below hb).more hb.size)
  have PB0_11 := Lib.hid (PB0_10.out.next hb)
  have PI0_11 := Lib.hid (PI0_10.out.next hb)
  have PB1_11 := Lib.hid (PB1_10.out.next hb)
  have PI1_11 := Lib.hid (PI1_10.out.next hb)
  clear X10 LB10 Y10 T10 K1_10 K2_10 K3_10 K4_10 PB0_10 PI0_10 PB1_10 PI1_10
  clear hb
  rw [lsm_self]
  go_wp2_with fail
  refine (rieq_any A3 A4 n2 n2 e3 e4 F2 F2 _ (by omega) K3_11.out K4_11.out).mono ?_
  rintro e w12 ⟨rfl, hb⟩
  have X12 := Lib.hid (X11.out.below hb X11.out.lt)
  have LB12 := Lib.hid (LB11.out.trans (hb.mono LB11.out.size))
  have Y12 := Lib.hid (Y11.out.below hb Y11.out.lt)
  have T12 := Lib.hid ((T11.out.below hb).more hb.size)
  have K1_12 := Lib.hid ((K1_11.out.below hb).more hb.size)
  have K2_12 := Lib.hid ((K2_11.out.below hb).more hb.size)
  have K3_12 := Lib.hid ((K3_11.out.below hb).more hb.size)
  have K4_12 := Lib.hid ((K4_11.out.below hb).more hb.size)
  have PB0_12 := Lib.hid (PB0_11.out.next hb)
  have PI0_12 := Lib.hid (PI0_11.out.next hb)
  have PB1_12 := Lib.hid (PB1_11.out.next hb)
  have PI1_12 := Lib.hid (PI1_11.out.next hb)
  clear X11 LB11 Y11 T11 K1_11 K2_11 K3_11 K4_11 PB0_11 PI0_11 PB1_11 PI1_11
  clear hb
  rw [lsm_self]
  obtain ⟨q0, q1, q2, q3, q4, q5, q6, q7⟩ := PB0_12.out.all
  try dsimp only [Dr.at_] at q0 q1 q2 q3 q4 q5 q6
  obtain ⟨r0, r1, r2, r3, r4, r5, r6, r7⟩ := PB1_12.out.all
  try dsimp only [Dr.at_] at r0 r1 r2 r3 r4 r5 r6
  go_wp2_with fail
  clear q0 q1 q2 q3 q4 q5 q6 q7 r0 r1 r2 r3 r4 r5 r6 r7
  refine (rdsame_any (R.at_ B01 g01 B02 g02 B03 g03) (R.at_ B11 g11 B12 g12 B13 g13) _ ⟨HR.out.a, HR.out.b, HR.out.c⟩ PI0_12.out PI1_12.out).mono ?_
  rintro e w13 ⟨rfl, hb⟩
  have X13 := Lib.hid (X12.out.below hb X12.out.lt)
  have LB13 := Lib.hid (LB12.out.trans (hb.mono LB12.out.size))
  have Y13 := Lib.hid (Y12.out.below hb Y12.out.lt)
  have T13 := Lib.hid ((T12.out.below hb).more hb.size)
  have K1_13 := Lib.hid ((K1_12.out.below hb).more hb.size)
  have K2_13 := Lib.hid ((K2_12.out.below hb).more hb.size)
  have K3_13 := Lib.hid ((K3_12.out.below hb).more hb.size)
  have K4_13 := Lib.hid ((K4_12.out.below hb).more hb.size)
  have PB0_13 := Lib.hid (PB0_12.out.next hb)
  have PI0_13 := Lib.hid (PI0_12.out.next hb)
  have PB1_13 := Lib.hid (PB1_12.out.next hb)
  have PI1_13 := Lib.hid (PI1_12.out.next hb)
  clear X12 LB12 Y12 T12 K1_12 K2_12 K3_12 K4_12 PB0_12 PI0_12 PB1_12 PI1_12
  clear hb
  rw [dsm_at]
  obtain ⟨q0, q1, q2, q3, q4, q5, q6⟩ := X13.out.all
  obtain ⟨r0, r1, r2, r3, r4, r5, r6⟩ := Y13.out.all
  go_wp2_with fail
  clear q0 q1 q2 q3 q4 q5 q6 r0 r1 r2 r3 r4 r5 r6
  refine (rgsm_any W H W H A At n n c ct f f _ (by omega) (HG.out _ LB13.out) T13.out).mono ?_
  rintro e w14 ⟨rfl, hb⟩
  have X14 := Lib.hid (X13.out.below hb X13.out.lt)
  have LB14 := Lib.hid (LB13.out.trans (hb.mono LB13.out.size))
  have Y14 := Lib.hid (Y13.out.below hb Y13.out.lt)
  have T14 := Lib.hid ((T13.out.below hb).more hb.size)
  have K1_14 := Lib.hid ((K1_13.out.below hb).more hb.size)
  have K2_14 := Lib.hid ((K2_13.out.below hb).more hb.size)
  have K3_14 := Lib.hid ((K3_13.out.below hb).more hb.size)
  have K4_14 := Lib.hid ((K4_13.out.below hb).more hb.size)
  have PB0_14 := Lib.hid (PB0_13.out.next hb)
  have PI0_14 := Lib.hid (PI0_13.out.next hb)
  have PB1_14 := Lib.hid (PB1_13.out.next hb)
  have PI1_14 := Lib.hid (PI1_13.out.next hb)
  clear X13 LB13 Y13 T13 K1_13 K2_13 K3_13 K4_13 PB0_13 PI0_13 PB1_13 PI1_13
  clear hb
  rw [gsm_self]
  go_wp2
  go_ret
  exact ⟨rfl, LB14.out⟩

theorem fkinds_any (W H : Int) (A : Option Addr) (n c : Nat) (f : Nat → Bool) (w : World) (hE : Env w) (hr : Holds w w.heap.size A n f) (hcap : n ≤ c) :
    Calls Tryd.prog 4 #[.agg #[.int .i64 W, .int .i64 H, .slice A n c]] w fun e w' => e = .returned (.bool true) ∧ Below w.heap.size w w' := by
  by_cases hn : n ≤ 4200
  · exact fkinds_main W H A n c f w hE hr hn hcap
  · exact fkinds_great W H A n c w (by omega)
end Go.Proofs.YtbafhdinalapoaaDoor
