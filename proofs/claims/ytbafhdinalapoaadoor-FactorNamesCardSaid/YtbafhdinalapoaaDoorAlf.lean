/- The chapter's examples hold: alive of layer 4. -/
import Derived.Test.YtbafhdinalapoaaDoorFof
import Derived.Test.YtbafhdinalapoaaDoorTx
import Derived.Test.YtbafhdinalapoaaDoorParse
import Derived.Test.YtbafhdinalapoaaDoorIxb
namespace Go.Proofs.YtbafhdinalapoaaDoor
open Go.RowKit
set_option linter.unusedVariables false
set_option linter.unusedSimpArgs false
set_option maxRecDepth 100000

open L2 (nd ren)
/-- The text of a grid. -/
def tx (W H : Nat) (f : Nat → Bool) : ByteArray := ⟨(rowsT W H f H).toArray⟩
/-- The elements of a list, by their places. -/
def at0 (l : List Int) : Nat → Int := fun i => l.getD i 0
theorem heap_new (w : World) (o : Obj) : (w.alloc o).heap[w.heap.size]? = some o := by
  show (w.heap.push o)[w.heap.size]? = some o
  simp
theorem irow_lit (w : World) (l : List Int) : L2.Row (w.alloc (.cells (l.map (Value.int .i64)).toArray 3)) w.heap.size l.length (at0 l) := by
  refine ⟨(l.map (Value.int .i64)).toArray, heap_new w _, by simp, fun i hi => ?_⟩
  simp [at0, List.getD, hi]
/-- A grid out of a text. -/
def POut (w : World) (W H n : Nat) (f : Nat → Bool) (e : Ending) (w' : World) : Prop := ∃ k, e = .returned (.tuple #[.agg #[.int .i64 W, .int .i64 H, .slice (some ⟨k, 0, none⟩) n n], .int .i64 0]) ∧ w.heap.size ≤ k ∧ Row w' k n f ∧ Below w.heap.size w w'
def COut (w : World) (W H n : Nat) (f : Nat → Bool) (e : Ending) (w' : World) : Prop := ∃ k, e = .returned (.agg #[.int .i64 W, .int .i64 H, .slice (some ⟨k, 0, none⟩) n n]) ∧ w.heap.size ≤ k ∧ Row w' k n f ∧ Below w.heap.size w w'
set_option maxHeartbeats 800000 in
theorem cloth_any (s : ByteArray) (W H n : Nat) (f : Nat → Bool) (hp : ∀ v, Calls Tryd.prog 37 #[.string s] v (POut v W H n f)) (w : World) : Calls Tryd.prog 10 #[.string s] w (COut w W H n f) := by
  have HP := Lib.hid hp
  have L0 := Lib.hid (show Below w.heap.size w (w.alloc (.cells #[.int .i64 0, .int .i64 0, .slice none 0 0] 25)) from (Below.refl _ _).alloc (Nat.le_refl _) _)
  have R0 := Lib.hid (Box.new w 0 0 (.slice none 0 0))
  have hs0 : (w.alloc (.cells #[.int .i64 0, .int .i64 0, .slice none 0 0] 25)).heap.size = w.heap.size + 1 := by simp
  clear hp
  go_enter Tryd.func10, Tryd.ntmps10
  go_wp2_with fail
  generalize w.alloc (.cells #[.int .i64 0, .int .i64 0, .slice none 0 0] 25) = v0 at *
  refine (HP.out _).mono ?_
  rintro e w1 ⟨k, rfl, hk, hrow, hb⟩
  have hkl := hrow.lt
  have R1 := Lib.hid ((R0.out.below hb R0.out.lt).alloc (.cells #[.int .i64 W, .int .i64 H, .slice (some ⟨k, 0, none⟩) n n] 25))
  have HW := Lib.hid (hrow.alloc (.cells #[.int .i64 W, .int .i64 H, .slice (some ⟨k, 0, none⟩) n n] 25))
  have LB := Lib.hid ((L0.out.trans (hb.mono L0.out.size)).alloc (Nat.le_trans L0.out.size hb.size) (.cells #[.int .i64 W, .int .i64 H, .slice (some ⟨k, 0, none⟩) n n] 25))
  obtain ⟨q0, q1, q2, q3, q4, q5, q6⟩ := R1.out.all
  obtain ⟨r0, r1, r2, r3, r4, r5, r6⟩ := (Box.new w1 W H (.slice (some ⟨k, 0, none⟩) n n)).all
  have hk2 : w.heap.size < k := by omega
  clear hrow hb
  go_wp2
  refine bodyPost_ret (v := .agg #[.int .i64 W, .int .i64 H, .slice (some ⟨k, 0, none⟩) n n]) (by simp [results, Tryd.results10, go_sem, q0, q1, q2]) rfl ⟨k, rfl, by omega, ?_, ?_⟩
  · exact ((HW.out.far (by simp; omega) _).far (by simp; omega) _).far (by simp; omega) _
  · exact ((LB.out.setCell (by simp) _).setCell (by simp) _).setCell (by simp) _

/-- The cells of the example. -/
def e1 (i : Nat) : Bool := i == 1 || i == 3 || i == 5
def e0 (_ : Nat) : Bool := false
theorem parse_e1 (w : World) : Calls Tryd.prog 37 #[.string ⟨#[120, 46, 120, 10, 46, 120, 46, 10]⟩] w (POut w 3 2 6 e1) := by
  refine (parse_ok ⟨#[120, 46, 120, 10, 46, 120, 46, 10]⟩ 3 2 w (by decide) (by omega) (by omega) (by omega) (by omega) (by decide) ⟨by decide, ?_⟩ (fun W' => ?_)).mono fun e w' ⟨k, he, hk, hr, hb⟩ => ⟨k, he, hk, hr.congr ?_, hb⟩
  · have key : ∀ i (h : i < 8), okAt ⟨#[120, 46, 120, 10, 46, 120, 46, 10]⟩ 3 i h := by unfold okAt; decide +kernel
    exact key
  · exact (Tryd.strings_IndexByte _ 10 W').mono fun e w' h => by
      refine ⟨?_, h.2⟩
      rw [h.1]
      rfl
  · decide
theorem parse_e0 (w : World) : Calls Tryd.prog 37 #[.string ⟨#[46, 46, 46, 10, 46, 46, 46, 10]⟩] w (POut w 3 2 6 e0) := by
  refine (parse_ok ⟨#[46, 46, 46, 10, 46, 46, 46, 10]⟩ 3 2 w (by decide) (by omega) (by omega) (by omega) (by omega) (by decide) ⟨by decide, ?_⟩ (fun W' => ?_)).mono fun e w' ⟨k, he, hk, hr, hb⟩ => ⟨k, he, hk, hr.congr ?_, hb⟩
  · have key : ∀ i (h : i < 8), okAt ⟨#[46, 46, 46, 10, 46, 46, 46, 10]⟩ 3 i h := by unfold okAt; decide +kernel
    exact key
  · exact (Tryd.strings_IndexByte _ 10 W').mono fun e w' h => by
      refine ⟨?_, h.2⟩
      rw [h.1]
      rfl
  · decide
/-- The least draft of the example. -/
def ep : PD := ⟨2, 2, 3, 2, fun i => if i = 1 then 1 else 0, fun i => if i = 1 then 1 else 0, fun t s => decide (t ≠ s)⟩
theorem all2 {T S : Nat} {P : Nat → Nat → Prop} (h : ∀ t, t < T → ∀ s, s < S → P t s) : ∀ t s, t < T → s < S → P t s := fun t s ht hs => h t ht s hs
theorem ep_eqv : (ofp 3 2 e1).Eqv ep := ⟨by decide, by decide, rfl, rfl, by decide, by decide, all2 (by decide)⟩
theorem Rows3.eqv {w : World} {lo a b c : Nat} {P Q : PD} (h : Rows3 w lo P a b c) (e : P.Eqv Q) : Rows3 w lo Q a b c := by
  refine ⟨h.ha, h.hb, h.hc, ?_, ?_, ?_⟩
  · rw [← e.n]; exact h.ra.congr fun i hi => by rw [e.f i hi]
  · rw [← e.m]; exact h.rb.congr fun i hi => by rw [e.g i hi]
  · rw [← e.T, ← e.S]
    exact h.rc.congr fun i hi => e.l _ _ (Nat.mod_lt _ (by rcases Nat.eq_zero_or_pos P.T with h0 | h0; (rw [h0] at hi; omega); exact h0)) (div_bd hi)
def EOut (w : World) (e : Ending) (w' : World) : Prop := ∃ a ca b cb c cc, e = .returned (.tuple #[.agg #[.int .i64 2, .int .i64 2, .slice (some ⟨a, 0, none⟩) 3 ca, .slice (some ⟨b, 0, none⟩) 2 cb, .int .i64 2, .int .i64 2, .slice (some ⟨c, 0, none⟩) 4 cc], .int .i64 0]) ∧ Rows3 w' w.heap.size ep a b c ∧ Below w.heap.size w w'
theorem of_ex1 (k : Nat) (w : World) (hE : Env w) (hr : Row w k 6 e1) : Calls Tryd.prog 9 #[.agg #[.int .i64 3, .int .i64 2, .slice (some ⟨k, 0, none⟩) 6 6]] w (EOut w) := by
  refine (of_ok 3 2 k 0 6 e1 w hE (hr.holds hr.lt) (by omega) (by omega) (by omega) (by omega) (by omega) (by decide)).mono fun e w' ⟨a, ca, b, cb, c, cc, he, hrw, hb⟩ => ⟨a, ca, b, cb, c, cc, ?_, hrw.eqv ep_eqv, hb⟩
  rw [he]
  have e1' : (ofp 3 2 e1).T = 2 := by decide
  have e2' : (ofp 3 2 e1).S = 2 := by decide
  rw [e1', e2']
  rfl
theorem col_e1 (k : Nat) (w : World) (hr : Row w k 6 e1) : Calls Tryd.prog 20 #[.agg #[.int .i64 3, .int .i64 2, .slice (some ⟨k, 0, none⟩) 6 6]] w (L2.LOut w 3 (ren (rc 2 (tnf 3 2 e1))) 0) :=
  columns_ok 3 2 k 0 6 e1 w (hr.holds hr.lt) (by omega) (by omega) (by omega) (by omega) (by omega)
theorem row_e1 (k : Nat) (w : World) (hr : Row w k 6 e1) : Calls Tryd.prog 22 #[.agg #[.int .i64 3, .int .i64 2, .slice (some ⟨k, 0, none⟩) 6 6]] w (L2.LOut w 2 (ren (rc 3 e1)) 0) :=
  rows_ok 3 2 k 0 6 e1 w (hr.holds hr.lt) (by omega) (by omega) (by omega) (by omega) (by omega)
theorem cnt_e0 (k : Nat) (w : World) (hr : Row w k 6 e0) : Calls Tryd.prog 15 #[.agg #[.int .i64 3, .int .i64 2, .slice (some ⟨k, 0, none⟩) 6 6]] w fun e w' => e = .returned (.tuple #[.int .i64 1, .int .i64 1, .int .i64 0]) ∧ Below w.heap.size w w' := by
  refine (count_ok 3 2 k 0 6 e0 w (hr.holds hr.lt) (by omega) (by omega) (by omega) (by omega) (by omega)).mono fun e w' ⟨he, hb⟩ => ⟨?_, hb⟩
  rw [he]
  have h1 : nd (rc 2 (tnf 3 2 e0)) 3 = 1 := by decide
  have h2 : nd (rc 3 e0) 2 = 1 := by decide
  rw [h1, h2]
  rfl
theorem txt_e1 (c cc : Nat) (w : World) (hr : Row w c 4 (fun i => ep.L (i % 2) (i / 2))) : Calls Tryd.prog 45 #[.agg #[.int .i64 2, .int .i64 2, .slice (some ⟨c, 0, none⟩) 4 cc]] w fun e w' => e = .returned (.tuple #[.string ⟨#[120, 46, 10, 46, 120, 10]⟩, .int .i64 0]) ∧ Below w.heap.size w w' := by
  have h := text_ok 2 2 (some ⟨c, 0, none⟩) cc (fun i => ep.L (i % 2) (i / 2)) w (hr.holds hr.lt) (by omega) (by omega) (by omega) (by omega)
  have e : tx 2 2 (fun i => ep.L (i % 2) (i / 2)) = ⟨#[120, 46, 10, 46, 120, 10]⟩ := by decide +kernel
  rw [← e]
  exact h
theorem sm_col (A : Option Addr) (c : Nat) (w : World) (hr : L2.Holds w w.heap.size A 3 (ren (rc 2 (tnf 3 2 e1)))) : Calls Tryd.prog 16 #[.slice A 3 c, .slice (some ⟨w.heap.size, 0, none⟩) 3 3] (w.alloc (.cells #[.int .i64 0, .int .i64 1, .int .i64 0] 3)) fun e w' => e = .returned (.bool true) ∧ Below (w.alloc (.cells #[.int .i64 0, .int .i64 1, .int .i64 0] 3)).heap.size (w.alloc (.cells #[.int .i64 0, .int .i64 1, .int .i64 0] 3)) w' := by
  have hb : Below w.heap.size w (w.alloc (.cells #[.int .i64 0, .int .i64 1, .int .i64 0] 3)) := (Below.refl _ _).alloc (Nat.le_refl _) _
  have hl : L2.Row (w.alloc (.cells #[.int .i64 0, .int .i64 1, .int .i64 0] 3)) w.heap.size 3 (at0 [0, 1, 0]) := irow_lit w [0, 1, 0]
  have h := rieq_any A (some ⟨w.heap.size, 0, none⟩) 3 3 c 3 (ren (rc 2 (tnf 3 2 e1))) (at0 [0, 1, 0]) _ (by omega) ((hr.below hb).more hb.size) (hl.holds hl.lt)
  rw [show lsm 3 (ren (rc 2 (tnf 3 2 e1))) 3 (at0 [0, 1, 0]) = true by decide] at h
  exact h
theorem sm_row (A : Option Addr) (c : Nat) (w : World) (hr : L2.Holds w w.heap.size A 2 (ren (rc 3 e1))) : Calls Tryd.prog 16 #[.slice A 2 c, .slice (some ⟨w.heap.size, 0, none⟩) 2 2] (w.alloc (.cells #[.int .i64 0, .int .i64 1] 3)) fun e w' => e = .returned (.bool true) ∧ Below (w.alloc (.cells #[.int .i64 0, .int .i64 1] 3)).heap.size (w.alloc (.cells #[.int .i64 0, .int .i64 1] 3)) w' := by
  have hb : Below w.heap.size w (w.alloc (.cells #[.int .i64 0, .int .i64 1] 3)) := (Below.refl _ _).alloc (Nat.le_refl _) _
  have hl : L2.Row (w.alloc (.cells #[.int .i64 0, .int .i64 1] 3)) w.heap.size 2 (at0 [0, 1]) := irow_lit w [0, 1]
  have h := rieq_any A (some ⟨w.heap.size, 0, none⟩) 2 2 c 2 (ren (rc 3 e1)) (at0 [0, 1]) _ (by omega) ((hr.below hb).more hb.size) (hl.holds hl.lt)
  rw [show lsm 2 (ren (rc 3 e1)) 2 (at0 [0, 1]) = true by decide] at h
  exact h
theorem sm_th (A : Option Addr) (c : Nat) (w : World) (hr : L2.Holds w w.heap.size A 3 (fun i => (ep.F i : Nat))) : Calls Tryd.prog 16 #[.slice A 3 c, .slice (some ⟨w.heap.size, 0, none⟩) 3 3] (w.alloc (.cells #[.int .i64 0, .int .i64 1, .int .i64 0] 3)) fun e w' => e = .returned (.bool true) ∧ Below (w.alloc (.cells #[.int .i64 0, .int .i64 1, .int .i64 0] 3)).heap.size (w.alloc (.cells #[.int .i64 0, .int .i64 1, .int .i64 0] 3)) w' := by
  have hb : Below w.heap.size w (w.alloc (.cells #[.int .i64 0, .int .i64 1, .int .i64 0] 3)) := (Below.refl _ _).alloc (Nat.le_refl _) _
  have hl : L2.Row (w.alloc (.cells #[.int .i64 0, .int .i64 1, .int .i64 0] 3)) w.heap.size 3 (at0 [0, 1, 0]) := irow_lit w [0, 1, 0]
  have h := rieq_any A (some ⟨w.heap.size, 0, none⟩) 3 3 c 3 (fun i => (ep.F i : Nat)) (at0 [0, 1, 0]) _ (by omega) ((hr.below hb).more hb.size) (hl.holds hl.lt)
  rw [show lsm 3 (fun i => (ep.F i : Nat)) 3 (at0 [0, 1, 0]) = true by decide] at h
  exact h
theorem sm_tr (A : Option Addr) (c : Nat) (w : World) (hr : L2.Holds w w.heap.size A 2 (fun i => (ep.G i : Nat))) : Calls Tryd.prog 16 #[.slice A 2 c, .slice (some ⟨w.heap.size, 0, none⟩) 2 2] (w.alloc (.cells #[.int .i64 0, .int .i64 1] 3)) fun e w' => e = .returned (.bool true) ∧ Below (w.alloc (.cells #[.int .i64 0, .int .i64 1] 3)).heap.size (w.alloc (.cells #[.int .i64 0, .int .i64 1] 3)) w' := by
  have hb : Below w.heap.size w (w.alloc (.cells #[.int .i64 0, .int .i64 1] 3)) := (Below.refl _ _).alloc (Nat.le_refl _) _
  have hl : L2.Row (w.alloc (.cells #[.int .i64 0, .int .i64 1] 3)) w.heap.size 2 (at0 [0, 1]) := irow_lit w [0, 1]
  have h := rieq_any A (some ⟨w.heap.size, 0, none⟩) 2 2 c 2 (fun i => (ep.G i : Nat)) (at0 [0, 1]) _ (by omega) ((hr.below hb).more hb.size) (hl.holds hl.lt)
  rw [show lsm 2 (fun i => (ep.G i : Nat)) 2 (at0 [0, 1]) = true by decide] at h
  exact h

theorem lholds {w' : World} {B n : Nat} {A : Option Addr} {F : Nat → Int} (h : 0 < n → ∃ k, A = some ⟨k, 0, none⟩ ∧ B ≤ k ∧ L2.Row w' k n F) : L2.Holds w' w'.heap.size A n F := fun hn => by
  obtain ⟨k, rfl, _, hr⟩ := h hn
  exact hr.holds hr.lt hn
set_option maxHeartbeats 1600000 in
theorem alive_any (w : World) (hE : Env w) : Calls Tryd.prog 17 #[] w fun e w' => e = .returned (.bool true) ∧ Below w.heap.size w w' := by
  have HE := Lib.hid (fun v (h : Below w.heap.size w v) => hE.next h)
  clear hE
  have LB0 := Lib.hid (Below.refl w.heap.size w)
  go_enter Tryd.func17, Tryd.ntmps17
  go_wp2_with fail
  refine (cloth_any ⟨#[120, 46, 120, 10, 46, 120, 46, 10]⟩ 3 2 6 e1 parse_e1 _).mono ?_
  rintro e w1 ⟨k1, rfl, -, hrow, hb⟩
  have LB1 := Lib.hid (LB0.out.trans (hb.mono LB0.out.size))
  clear LB0
  have R1 := Lib.hid (hrow)
  clear hrow hb
  go_wp2_with fail
  refine (col_e1 k1 _ R1.out).mono ?_
  rintro e w2 ⟨A1, c1, rfl, -, hr, hb⟩
  have LB2 := Lib.hid (LB1.out.trans (hb.mono LB1.out.size))
  have R2 := Lib.hid (R1.out.below hb R1.out.lt)
  clear LB1 R1
  clear R2
  have C12 := Lib.hid (lholds hr)
  clear hr hb
  go_wp2_with fail
  refine (cloth_any ⟨#[120, 46, 120, 10, 46, 120, 46, 10]⟩ 3 2 6 e1 parse_e1 _).mono ?_
  rintro e w3 ⟨k2, rfl, -, hrow, hb⟩
  have LB3 := Lib.hid (LB2.out.trans (hb.mono LB2.out.size))
  have C13 := Lib.hid ((C12.out.below hb).more hb.size)
  clear LB2 C12
  have R3 := Lib.hid (hrow)
  clear hrow hb
  go_wp2_with fail
  refine (row_e1 k2 _ R3.out).mono ?_
  rintro e w4 ⟨A2, c2, rfl, -, hr, hb⟩
  have LB4 := Lib.hid (LB3.out.trans (hb.mono LB3.out.size))
  have C14 := Lib.hid ((C13.out.below hb).more hb.size)
  have R4 := Lib.hid (R3.out.below hb R3.out.lt)
  clear LB3 C13 R3
  clear R4
  have C24 := Lib.hid (lholds hr)
  clear hr hb
  go_wp2_with fail
  refine (cloth_any ⟨#[120, 46, 120, 10, 46, 120, 46, 10]⟩ 3 2 6 e1 parse_e1 _).mono ?_
  rintro e w5 ⟨k3, rfl, -, hrow, hb⟩
  have LB5 := Lib.hid (LB4.out.trans (hb.mono LB4.out.size))
  have C15 := Lib.hid ((C14.out.below hb).more hb.size)
  have C25 := Lib.hid ((C24.out.below hb).more hb.size)
  clear LB4 C14 C24
  have R5 := Lib.hid (hrow)
  clear hrow hb
  go_wp2_with fail
  refine (of_ex1 k3 _ (HE.out _ LB5.out) R5.out).mono ?_
  rintro e w6 ⟨a, ca, b, cb, c, cc, rfl, hr3, hb⟩
  have LB6 := Lib.hid (LB5.out.trans (hb.mono LB5.out.size))
  have C16 := Lib.hid ((C15.out.below hb).more hb.size)
  have C26 := Lib.hid ((C25.out.below hb).more hb.size)
  have R6 := Lib.hid (R5.out.below hb R5.out.lt)
  clear LB5 C15 C25 R5
  clear R6
  have hba : Below w6.heap.size w6 (w6.alloc (.cells #[.int .i64 2, .int .i64 2, .slice (some ⟨a, 0, none⟩) 3 ca, .slice (some ⟨b, 0, none⟩) 2 cb, .int .i64 2, .int .i64 2, .slice (some ⟨c, 0, none⟩) 4 cc] 27)) := (Below.refl _ _).alloc (Nat.le_refl _) _
  have Da := Lib.hid (show DBox (w6.alloc (.cells #[.int .i64 2, .int .i64 2, .slice (some ⟨a, 0, none⟩) 3 ca, .slice (some ⟨b, 0, none⟩) 2 cb, .int .i64 2, .int .i64 2, .slice (some ⟨c, 0, none⟩) 4 cc] 27)) w6.heap.size (ep.dr a ca b cb c cc) from DBox.new w6 (ep.dr a ca b cb c cc))
  have Qa := Lib.hid (hr3.next hba)
  have LBa := Lib.hid (LB6.out.trans (hba.mono LB6.out.size))
  have C1a := Lib.hid ((C16.out.below hba).more hba.size)
  have C2a := Lib.hid ((C26.out.below hba).more hba.size)
  clear hb hr3 hba LB6 C16 C26
  have LB6 := LBa
  clear LBa
  have C16 := C1a
  clear C1a
  have C26 := C2a
  clear C2a
  have D6 := Da
  have Q6 := Qa
  clear Da Qa
  go_wp2_with fail
  refine (cloth_any ⟨#[46, 46, 46, 10, 46, 46, 46, 10]⟩ 3 2 6 e0 parse_e0 _).mono ?_
  rintro e w7 ⟨k4, rfl, -, hrow, hb⟩
  have LB7 := Lib.hid (LB6.out.trans (hb.mono LB6.out.size))
  have C17 := Lib.hid ((C16.out.below hb).more hb.size)
  have C27 := Lib.hid ((C26.out.below hb).more hb.size)
  have D7 := Lib.hid (D6.out.next hb)
  have Q7 := Lib.hid (Q6.out.next hb)
  clear LB6 C16 C26 D6 Q6
  have R7 := Lib.hid (hrow)
  clear hrow hb
  go_wp2_with fail
  refine (cnt_e0 k4 _ R7.out).mono ?_
  rintro e w8 ⟨rfl, hb⟩
  have LB8 := Lib.hid (LB7.out.trans (hb.mono LB7.out.size))
  have C18 := Lib.hid ((C17.out.below hb).more hb.size)
  have C28 := Lib.hid ((C27.out.below hb).more hb.size)
  have D8 := Lib.hid (D7.out.next hb)
  have Q8 := Lib.hid (Q7.out.next hb)
  have R8 := Lib.hid (R7.out.below hb R7.out.lt)
  clear LB7 C17 C27 D7 Q7 R7
  clear R8
  clear hb
  have tt := D8.out.all
  simp only [PD.dr] at tt
  obtain ⟨t0, t1, t2, t3, t4, t5, t6, t7⟩ := tt
  go_wp2_with fail
  refine (txt_e1 c cc _ Q8.out.rc).mono ?_
  rintro e w9 ⟨rfl, hb⟩
  clear t0 t1 t2 t3 t4 t5 t6 t7
  have LB9 := Lib.hid (LB8.out.trans (hb.mono LB8.out.size))
  have C19 := Lib.hid ((C18.out.below hb).more hb.size)
  have C29 := Lib.hid ((C28.out.below hb).more hb.size)
  have D9 := Lib.hid (D8.out.next hb)
  have Q9 := Lib.hid (Q8.out.next hb)
  clear LB8 C18 C28 D8 Q8
  clear hb
  go_wp2_with fail
  refine (sm_col A1 c1 _ C19.out).mono ?_
  rintro e w10 ⟨rfl, hb0⟩
  have hb : Below w9.heap.size w9 w10 := ((Below.refl _ _).alloc (Nat.le_refl _) (.cells #[.int .i64 0, .int .i64 1, .int .i64 0] 3)).trans (hb0.mono (by simp))
  clear hb0
  have LB10 := Lib.hid (LB9.out.trans (hb.mono LB9.out.size))
  have C110 := Lib.hid ((C19.out.below hb).more hb.size)
  have C210 := Lib.hid ((C29.out.below hb).more hb.size)
  have D10 := Lib.hid (D9.out.next hb)
  have Q10 := Lib.hid (Q9.out.next hb)
  clear LB9 C19 C29 D9 Q9
  clear hb
  go_wp2_with fail
  refine (sm_row A2 c2 _ C210.out).mono ?_
  rintro e w11 ⟨rfl, hb0⟩
  have hb : Below w10.heap.size w10 w11 := ((Below.refl _ _).alloc (Nat.le_refl _) (.cells #[.int .i64 0, .int .i64 1] 3)).trans (hb0.mono (by simp))
  clear hb0
  have LB11 := Lib.hid (LB10.out.trans (hb.mono LB10.out.size))
  have C111 := Lib.hid ((C110.out.below hb).more hb.size)
  have C211 := Lib.hid ((C210.out.below hb).more hb.size)
  have D11 := Lib.hid (D10.out.next hb)
  have Q11 := Lib.hid (Q10.out.next hb)
  clear LB10 C110 C210 D10 Q10
  clear hb
  have tt := D11.out.all
  simp only [PD.dr] at tt
  obtain ⟨t0, t1, t2, t3, t4, t5, t6, t7⟩ := tt
  go_wp2_with fail
  refine (sm_th (some ⟨a, 0, none⟩) ca _ (Q11.out.ra.holds Q11.out.ra.lt)).mono ?_
  rintro e w12 ⟨rfl, hb0⟩
  have hb : Below w11.heap.size w11 w12 := ((Below.refl _ _).alloc (Nat.le_refl _) (.cells #[.int .i64 0, .int .i64 1, .int .i64 0] 3)).trans (hb0.mono (by simp))
  clear hb0
  clear t0 t1 t2 t3 t4 t5 t6 t7
  have LB12 := Lib.hid (LB11.out.trans (hb.mono LB11.out.size))
  have C112 := Lib.hid ((C111.out.below hb).more hb.size)
  have C212 := Lib.hid ((C211.out.below hb).more hb.size)
  have D12 := Lib.hid (D11.out.next hb)
  have Q12 := Lib.hid (Q11.out.next hb)
  clear LB11 C111 C211 D11 Q11
  clear hb
  have tt := D12.out.all
  simp only [PD.dr] at tt
  obtain ⟨t0, t1, t2, t3, t4, t5, t6, t7⟩ := tt
  go_wp2_with fail
  refine (sm_tr (some ⟨b, 0, none⟩) cb _ (Q12.out.rb.holds Q12.out.rb.lt)).mono ?_
  rintro e w13 ⟨rfl, hb0⟩
  have hb : Below w12.heap.size w12 w13 := ((Below.refl _ _).alloc (Nat.le_refl _) (.cells #[.int .i64 0, .int .i64 1] 3)).trans (hb0.mono (by simp))
  clear hb0
  clear t0 t1 t2 t3 t4 t5 t6 t7
  have LB13 := Lib.hid (LB12.out.trans (hb.mono LB12.out.size))
  have C113 := Lib.hid ((C112.out.below hb).more hb.size)
  have C213 := Lib.hid ((C212.out.below hb).more hb.size)
  have D13 := Lib.hid (D12.out.next hb)
  have Q13 := Lib.hid (Q12.out.next hb)
  clear LB12 C112 C212 D12 Q12
  clear hb
  go_wp2
  go_ret
  exact ⟨rfl, LB13.out⟩
end Go.Proofs.YtbafhdinalapoaaDoor
