/- Merged: Dap Dat. -/
import Derived.Test.YtgmcbdnfgdmmaaaDbx
import Derived.Deep.RegionHeld3
import Derived.Deep.DeepCutAuto
import Derived.BigRegion

/- Apart of the program. -/
namespace Go.Proofs.Ytgmcbdnfgdmmaaa
open Go.RowKit
set_option maxRecDepth 100000
set_option linter.unusedVariables false
set_option linter.unusedSimpArgs false

theorem drw_size (w : World) : w.drew.heap.size = w.heap.size := rfl
theorem Holds.drw {w : World} {A : Option Addr} {n : Nat} {f : Nat → Bool} {B : Nat} (h : Holds w B A n f) : Holds w.drew B A n f := h
theorem Holds.st3 {w : World} {A : Option Addr} {n : Nat} {f : Nat → Bool} {B g : Nat} (h : Holds w B A n f) (hne : 0 < n → ∀ b o, A = some ⟨b, o, none⟩ → b ≠ g) (x y z : Value) : Holds (((w.setCell ⟨g, 0, none⟩ x).setCell ⟨g, 1, none⟩ y).setCell ⟨g, 2, none⟩ z) B A n f :=
  ((h.far (p := ⟨g, 0, none⟩) hne x).far (p := ⟨g, 1, none⟩) hne y).far (p := ⟨g, 2, none⟩) hne z
theorem Box.st3 {w : World} {g : Nat} {X Y : Int} {v : Value} (h : Box w g X Y v) (V U : Int) (u : Value) : Box (((w.setCell ⟨g, 0, none⟩ (.int .i64 V)).setCell ⟨g, 1, none⟩ (.int .i64 U)).setCell ⟨g, 2, none⟩ u) g V U u := by
  unfold Box at h ⊢
  simp [World.setCell, Array.getElem?_modify, h]
theorem Box.st3f {w : World} {g k : Nat} {X Y : Int} {v : Value} (h : Box w g X Y v) (hk : g ≠ k) (x y z : Value) : Box (((w.setCell ⟨k, 0, none⟩ x).setCell ⟨k, 1, none⟩ y).setCell ⟨k, 2, none⟩ z) g X Y v :=
  ((h.far (p := ⟨k, 0, none⟩) hk x).far (p := ⟨k, 1, none⟩) hk y).far (p := ⟨k, 2, none⟩) hk z
theorem size_st3 (w : World) (g : Nat) (x y z : Value) : (((w.setCell ⟨g, 0, none⟩ x).setCell ⟨g, 1, none⟩ y).setCell ⟨g, 2, none⟩ z).heap.size = w.heap.size := by simp
theorem bel_st3 {B : Nat} {w u : World} (h : Below B w u) {g : Nat} (hg : B ≤ g) (a b d : Value) : Below B w (((u.setCell ⟨g, 0, none⟩ a).setCell ⟨g, 1, none⟩ b).setCell ⟨g, 2, none⟩ d) :=
  ((h.setCell (p := ⟨g, 0, none⟩) hg _).setCell (p := ⟨g, 1, none⟩) hg _).setCell (p := ⟨g, 2, none⟩) hg _
/-- Nothing came back, with an error. -/
def ApN (w : World) (z : Int) (e : Ending) (w' : World) : Prop := e = .returned (.tuple #[.agg #[.int .i64 0, .int .i64 0, .slice none 0 0], .agg #[.int .i64 0, .int .i64 0, .slice none 0 0], .agg #[.int .i64 0, .int .i64 0, .slice none 0 0], .int .i64 z]) ∧ Below w.heap.size w w'
/-- Three grids came back. -/
def ApG (w : World) (P Q : Nat) (a b m : Nat → Bool) (e : Ending) (w' : World) : Prop :=
  ∃ A1 c1 A2 c2 A3 c3, e = .returned (.tuple #[.agg #[.int .i64 (P : Nat), .int .i64 (Q : Nat), .slice A1 (P * Q) c1], .agg #[.int .i64 (P : Nat), .int .i64 (Q : Nat), .slice A2 (P * Q) c2], .agg #[.int .i64 (P : Nat), .int .i64 (Q : Nat), .slice A3 (P * Q) c3], .int .i64 0]) ∧
    Holds w' w'.heap.size A1 (P * Q) a ∧ Holds w' w'.heap.size A2 (P * Q) b ∧ Holds w' w'.heap.size A3 (P * Q) m ∧ Below w.heap.size w w'
set_option maxHeartbeats 1600000 in
theorem apart_err {W H : Int} {A : Option Addr} {n c : Nat} {z : Int} (hn : n ≤ 4200) (hz : chk W H n = z) (hne : (z != 0) = true) (w : World) : Calls Try.prog 42 #[.agg #[.int .i64 W, .int .i64 H, .slice A n c]] w (ApN w z) := by
  have HK := Lib.hid (fun u => chk_err (A := A) (c := c) hn hz u)
  clear hz
  have LB0 := Lib.hid (Below.refl w.heap.size w)
  have XA := Lib.hid (Box.new w W H (.slice A n c))
  have LB0 := Lib.hid (LB0.out.alloc LB0.out.size (.cells #[.int .i64 W, .int .i64 H, .slice A n c] 24))
  have XA := Lib.hid (XA.out.alloc (.cells #[.int .i64 0, .int .i64 0, .slice none 0 0] 24))
  have X1 := Box.new (w.alloc (.cells #[.int .i64 W, .int .i64 H, .slice A n c] 24)) 0 0 (.slice none 0 0)
  rw [show ((w.alloc (.cells #[.int .i64 W, .int .i64 H, .slice A n c] 24))).heap.size = w.heap.size + 1 by simp] at X1
  have X1 := Lib.hid X1
  have LB0 := Lib.hid (LB0.out.alloc LB0.out.size (.cells #[.int .i64 0, .int .i64 0, .slice none 0 0] 24))
  have XA := Lib.hid (XA.out.alloc (.cells #[.int .i64 0, .int .i64 0, .slice none 0 0] 24))
  have X1 := Lib.hid (X1.out.alloc (.cells #[.int .i64 0, .int .i64 0, .slice none 0 0] 24))
  have X2 := Box.new ((w.alloc (.cells #[.int .i64 W, .int .i64 H, .slice A n c] 24)).alloc (.cells #[.int .i64 0, .int .i64 0, .slice none 0 0] 24)) 0 0 (.slice none 0 0)
  rw [show (((w.alloc (.cells #[.int .i64 W, .int .i64 H, .slice A n c] 24)).alloc (.cells #[.int .i64 0, .int .i64 0, .slice none 0 0] 24))).heap.size = w.heap.size + 2 by simp] at X2
  have X2 := Lib.hid X2
  have LB0 := Lib.hid (LB0.out.alloc LB0.out.size (.cells #[.int .i64 0, .int .i64 0, .slice none 0 0] 24))
  have XA := Lib.hid (XA.out.alloc (.cells #[.int .i64 0, .int .i64 0, .slice none 0 0] 24))
  have X1 := Lib.hid (X1.out.alloc (.cells #[.int .i64 0, .int .i64 0, .slice none 0 0] 24))
  have X2 := Lib.hid (X2.out.alloc (.cells #[.int .i64 0, .int .i64 0, .slice none 0 0] 24))
  have X3 := Box.new (((w.alloc (.cells #[.int .i64 W, .int .i64 H, .slice A n c] 24)).alloc (.cells #[.int .i64 0, .int .i64 0, .slice none 0 0] 24)).alloc (.cells #[.int .i64 0, .int .i64 0, .slice none 0 0] 24)) 0 0 (.slice none 0 0)
  rw [show ((((w.alloc (.cells #[.int .i64 W, .int .i64 H, .slice A n c] 24)).alloc (.cells #[.int .i64 0, .int .i64 0, .slice none 0 0] 24)).alloc (.cells #[.int .i64 0, .int .i64 0, .slice none 0 0] 24))).heap.size = w.heap.size + 3 by simp] at X3
  have X3 := Lib.hid X3
  have LB0 := Lib.hid (LB0.out.alloc LB0.out.size (.cells #[.int .i64 0, .int .i64 0, .slice none 0 0] 24))
  go_enter Try.func42, Try.ntmps42
  go_upto_region 1 with (fail)
  generalize (((w.alloc (.cells #[.int .i64 W, .int .i64 H, .slice A n c] 24)).alloc (.cells #[.int .i64 0, .int .i64 0, .slice none 0 0] 24)).alloc (.cells #[.int .i64 0, .int .i64 0, .slice none 0 0] 24)).alloc (.cells #[.int .i64 0, .int .i64 0, .slice none 0 0] 24) = w0 at *
  obtain ⟨b1, hb1⟩ : ∃ z, w.heap.size + 1 = z := ⟨_, rfl⟩
  obtain ⟨b2, hb2⟩ : ∃ z, w.heap.size + 2 = z := ⟨_, rfl⟩
  obtain ⟨b3, hb3⟩ : ∃ z, w.heap.size + 3 = z := ⟨_, rfl⟩
  have hbb : w.heap.size < b1 ∧ b1 < b2 ∧ b2 < b3 := by omega
  rw [hb1] at X1
  rw [hb2] at X2
  rw [hb3] at X3
  rw [hb3, hb2, hb1]
  clear hb1 hb2 hb3
  obtain ⟨q0, q1, q2, q3, q4, q5, q6⟩ := XA.out.all
  go_wp2_with fail
  clear q0 q1 q2 q3 q4 q5 q6
  with_reducible refine Calls.mono (HK.out _) ?_
  rintro e w1 ⟨rfl, hb⟩
  have LB1 := Lib.hid (LB0.out.trans (hb.mono LB0.out.size))
  have XA := Lib.hid (XA.out.below hb XA.out.lt)
  have X1 := Lib.hid (X1.out.below hb X1.out.lt)
  have X2 := Lib.hid (X2.out.below hb X2.out.lt)
  have X3 := Lib.hid (X3.out.below hb X3.out.lt)
  clear hb LB0 
  obtain ⟨q0, q1, q2, q3, q4, q5, q6⟩ := X1.out.all
  obtain ⟨q7, q8, q9, q10, q11, q12, q13⟩ := X2.out.all
  obtain ⟨q14, q15, q16, q17, q18, q19, q20⟩ := X3.out.all
  go_wp2
  refine bodyPost_ret (v := .tuple #[.agg #[.int .i64 0, .int .i64 0, .slice none 0 0], .agg #[.int .i64 0, .int .i64 0, .slice none 0 0], .agg #[.int .i64 0, .int .i64 0, .slice none 0 0], .int .i64 z]) (by simp [results, Try.results42, go_sem, q0, q1, q2, q3, q4, q5, q6, q7, q8, q9, q10, q11, q12, q13, q14, q15, q16, q17, q18, q19, q20]) rfl ?_
  refine ⟨rfl, ?_⟩
  exact (((((((((LB1.out.setCell (p := ⟨b1, 0, none⟩) (by show w.heap.size ≤ b1; omega) _).setCell (p := ⟨b1, 1, none⟩) (by show w.heap.size ≤ b1; omega) _).setCell (p := ⟨b1, 2, none⟩) (by show w.heap.size ≤ b1; omega) _).setCell (p := ⟨b2, 0, none⟩) (by show w.heap.size ≤ b2; omega) _).setCell (p := ⟨b2, 1, none⟩) (by show w.heap.size ≤ b2; omega) _).setCell (p := ⟨b2, 2, none⟩) (by show w.heap.size ≤ b2; omega) _).setCell (p := ⟨b3, 0, none⟩) (by show w.heap.size ≤ b3; omega) _).setCell (p := ⟨b3, 1, none⟩) (by show w.heap.size ≤ b3; omega) _).setCell (p := ⟨b3, 2, none⟩) (by show w.heap.size ≤ b3; omega) _)
/-- Three grids of any sizes came back. -/
def Ap3 (w : World) (V1 U1 N1 V2 U2 N2 V3 U3 N3 : Nat) (F1 F2 F3 : Nat → Bool) (e : Ending) (w' : World) : Prop :=
  ∃ A1 c1 A2 c2 A3 c3, e = .returned (.tuple #[.agg #[.int .i64 (V1 : Nat), .int .i64 (U1 : Nat), .slice A1 N1 c1], .agg #[.int .i64 (V2 : Nat), .int .i64 (U2 : Nat), .slice A2 N2 c2], .agg #[.int .i64 (V3 : Nat), .int .i64 (U3 : Nat), .slice A3 N3 c3], .int .i64 0]) ∧ Holds w' w'.heap.size A1 N1 F1 ∧ Holds w' w'.heap.size A2 N2 F2 ∧ Holds w' w'.heap.size A3 N3 F3 ∧ Below w.heap.size w w'
set_option maxHeartbeats 3200000 in
theorem apc_none {W H M : Nat} {A : Option Addr} {c : Nat} (w : World) (V1 U1 N1 V2 U2 N2 V3 U3 N3 : Nat) (F1 F2 F3 : Nat → Bool) (z : Int) (hz : (z != 0) = true)
    (hC : ∀ u, Calls Try.prog 69 #[.agg #[.int .i64 (W : Nat), .int .i64 (H : Nat), .slice A M c]] u fun e w' => e = .returned (.int .i64 0) ∧ Below u.heap.size u w')
    (h1 : ∀ u, Below w.heap.size w u → Calls Try.prog 88 #[.agg #[.int .i64 (W : Nat), .int .i64 (H : Nat), .slice A M c], .int .i64 0, .int .i64 0] u (GrR u V1 U1 N1 F1))
    (h2 : ∀ u, Below w.heap.size w u → Calls Try.prog 88 #[.agg #[.int .i64 (W : Nat), .int .i64 (H : Nat), .slice A M c], .int .i64 1, .int .i64 1] u (GrR u V2 U2 N2 F2))
    (h3 : ∀ u, Below w.heap.size w u → Calls Try.prog 88 #[.agg #[.int .i64 (W : Nat), .int .i64 (H : Nat), .slice A M c], .int .i64 0, .int .i64 1] u (GrR u V3 U3 N3 F3))
    (hV : ∀ u A1 c1 A2 c2 A3 c3, Below w.heap.size w u → Holds u u.heap.size A1 N1 F1 → Holds u u.heap.size A2 N2 F2 → Holds u u.heap.size A3 N3 F3 → Calls Try.prog 48 #[.agg #[.int .i64 (V1 : Nat), .int .i64 (U1 : Nat), .slice A1 N1 c1], .agg #[.int .i64 (V2 : Nat), .int .i64 (U2 : Nat), .slice A2 N2 c2], .agg #[.int .i64 (V3 : Nat), .int .i64 (U3 : Nat), .slice A3 N3 c3]] u (ErrGrid u z)) :
    Calls Try.prog 42 #[.agg #[.int .i64 (W : Nat), .int .i64 (H : Nat), .slice A M c]] w (ApN w 6) := by
  have HC := Lib.hid hC
  have E1 := Lib.hid h1
  have E2 := Lib.hid h2
  have E3 := Lib.hid h3
  have HV := Lib.hid hV
  clear hC h1 h2 h3 hV
  have LB0 := Lib.hid (Below.refl w.heap.size w)
  have XA := Lib.hid (Box.new w (W : Nat) (H : Nat) (.slice A M c))
  have LB0 := Lib.hid (LB0.out.alloc LB0.out.size (.cells #[.int .i64 (W : Nat), .int .i64 (H : Nat), .slice A M c] 24))
  have XA := Lib.hid (XA.out.alloc (.cells #[.int .i64 0, .int .i64 0, .slice none 0 0] 24))
  have X1 := Box.new (w.alloc (.cells #[.int .i64 (W : Nat), .int .i64 (H : Nat), .slice A M c] 24)) 0 0 (.slice none 0 0)
  rw [show ((w.alloc (.cells #[.int .i64 (W : Nat), .int .i64 (H : Nat), .slice A M c] 24))).heap.size = w.heap.size + 1 by simp] at X1
  have X1 := Lib.hid X1
  have LB0 := Lib.hid (LB0.out.alloc LB0.out.size (.cells #[.int .i64 0, .int .i64 0, .slice none 0 0] 24))
  have XA := Lib.hid (XA.out.alloc (.cells #[.int .i64 0, .int .i64 0, .slice none 0 0] 24))
  have X1 := Lib.hid (X1.out.alloc (.cells #[.int .i64 0, .int .i64 0, .slice none 0 0] 24))
  have X2 := Box.new ((w.alloc (.cells #[.int .i64 (W : Nat), .int .i64 (H : Nat), .slice A M c] 24)).alloc (.cells #[.int .i64 0, .int .i64 0, .slice none 0 0] 24)) 0 0 (.slice none 0 0)
  rw [show (((w.alloc (.cells #[.int .i64 (W : Nat), .int .i64 (H : Nat), .slice A M c] 24)).alloc (.cells #[.int .i64 0, .int .i64 0, .slice none 0 0] 24))).heap.size = w.heap.size + 2 by simp] at X2
  have X2 := Lib.hid X2
  have LB0 := Lib.hid (LB0.out.alloc LB0.out.size (.cells #[.int .i64 0, .int .i64 0, .slice none 0 0] 24))
  have XA := Lib.hid (XA.out.alloc (.cells #[.int .i64 0, .int .i64 0, .slice none 0 0] 24))
  have X1 := Lib.hid (X1.out.alloc (.cells #[.int .i64 0, .int .i64 0, .slice none 0 0] 24))
  have X2 := Lib.hid (X2.out.alloc (.cells #[.int .i64 0, .int .i64 0, .slice none 0 0] 24))
  have X3 := Box.new (((w.alloc (.cells #[.int .i64 (W : Nat), .int .i64 (H : Nat), .slice A M c] 24)).alloc (.cells #[.int .i64 0, .int .i64 0, .slice none 0 0] 24)).alloc (.cells #[.int .i64 0, .int .i64 0, .slice none 0 0] 24)) 0 0 (.slice none 0 0)
  rw [show ((((w.alloc (.cells #[.int .i64 (W : Nat), .int .i64 (H : Nat), .slice A M c] 24)).alloc (.cells #[.int .i64 0, .int .i64 0, .slice none 0 0] 24)).alloc (.cells #[.int .i64 0, .int .i64 0, .slice none 0 0] 24))).heap.size = w.heap.size + 3 by simp] at X3
  have X3 := Lib.hid X3
  have LB0 := Lib.hid (LB0.out.alloc LB0.out.size (.cells #[.int .i64 0, .int .i64 0, .slice none 0 0] 24))
  go_enter Try.func42, Try.ntmps42
  go_upto_region 1 with (fail)
  generalize (((w.alloc (.cells #[.int .i64 (W : Nat), .int .i64 (H : Nat), .slice A M c] 24)).alloc (.cells #[.int .i64 0, .int .i64 0, .slice none 0 0] 24)).alloc (.cells #[.int .i64 0, .int .i64 0, .slice none 0 0] 24)).alloc (.cells #[.int .i64 0, .int .i64 0, .slice none 0 0] 24) = w0 at *
  obtain ⟨b1, hb1⟩ : ∃ z, w.heap.size + 1 = z := ⟨_, rfl⟩
  obtain ⟨b2, hb2⟩ : ∃ z, w.heap.size + 2 = z := ⟨_, rfl⟩
  obtain ⟨b3, hb3⟩ : ∃ z, w.heap.size + 3 = z := ⟨_, rfl⟩
  have hbb : w.heap.size < b1 ∧ b1 < b2 ∧ b2 < b3 := by omega
  rw [hb1] at X1
  rw [hb2] at X2
  rw [hb3] at X3
  rw [hb3, hb2, hb1]
  clear hb1 hb2 hb3
  obtain ⟨q0, q1, q2, q3, q4, q5, q6⟩ := XA.out.all
  go_wp2_with fail
  clear q0 q1 q2 q3 q4 q5 q6
  with_reducible refine Calls.mono (HC.out _) ?_
  rintro e w1 ⟨rfl, hb⟩
  have LB1 := Lib.hid (LB0.out.trans (hb.mono LB0.out.size))
  have XA := Lib.hid (XA.out.below hb XA.out.lt)
  have X1 := Lib.hid (X1.out.below hb X1.out.lt)
  have X2 := Lib.hid (X2.out.below hb X2.out.lt)
  have X3 := Lib.hid (X3.out.below hb X3.out.lt)
  clear hb LB0 
  have hb3l := X3.out.lt
  have h12 : b1 ≤ b2 := by omega
  have h13 : b1 ≤ b3 := by omega
  have n12 : b1 ≠ b2 := by omega
  have n13 : b1 ≠ b3 := by omega
  have n23 : b2 ≠ b3 := by omega
  have n21 : b2 ≠ b1 := by omega
  have n31 : b3 ≠ b1 := by omega
  have n32 : b3 ≠ b2 := by omega
  obtain ⟨q0, q1, q2, q3, q4, q5, q6⟩ := XA.out.all
  go_upto_region 4 with (fail)
  have HK := Lib.hid (fun (u : World) (h : Below b1 w1 u) => (show u.cell? ⟨w.heap.size, 0, none⟩ = some (.int .i64 (W : Nat)) ∧ u.cell? ⟨w.heap.size, 1, none⟩ = some (.int .i64 (H : Nat)) ∧ u.cell? ⟨w.heap.size, 2, none⟩ = some (.slice A M c) from
    ⟨(h.cell (p := ⟨w.heap.size, 0, none⟩) hbb.1).trans q0, (h.cell (p := ⟨w.heap.size, 1, none⟩) hbb.1).trans q1, (h.cell (p := ⟨w.heap.size, 2, none⟩) hbb.1).trans q2⟩))
  have HL := Lib.hid (fun (u : World) (h : Below w1.heap.size w1 u) => LB1.out.trans (h.mono LB1.out.size))
  have D0 := Lib.hid (Below.refl w1.heap.size w1).drew
  have G0 := Lib.hid (D0.out.mono (show b1 ≤ w1.heap.size by omega))
  go_region_held3 (fun u => u.cell? ⟨w.heap.size, 0, none⟩ = some (.int .i64 (W : Nat)) ∧ u.cell? ⟨w.heap.size, 1, none⟩ = some (.int .i64 (H : Nat)) ∧ u.cell? ⟨w.heap.size, 2, none⟩ = some (.slice A M c))
    (first
      | with_reducible exact HK.out _ G0.out
      | with_reducible exact HK.out _ G2.out
      | with_reducible exact HK.out _ G3.out
      | with_reducible exact HK.out _ HB5.out
      | with_reducible exact HK.out _ (bel_st3 HB5.out (Nat.le_refl _) _ _ _)
      | with_reducible exact HK.out _ (bel_st3 (bel_st3 HB5.out (Nat.le_refl _) _ _ _) h12 _ _ _)
      | with_reducible exact HK.out _ (bel_st3 (bel_st3 (bel_st3 HB5.out (Nat.le_refl _) _ _ _) h12 _ _ _) h13 _ _ _))
    (first
      | (go_at_call 88
         with_reducible refine Calls.mono (E1.out _ (HL.out _ D0.out)) ?_
         rintro e u2 ⟨A1, c1, rfl, hh1, hb1⟩
         have HB2 := Lib.hid (D0.out.trans (hb1.mono D0.out.size))
         have HH1 := Lib.hid hh1
         have G2 := Lib.hid (HB2.out.mono (show b1 ≤ w1.heap.size by omega)))
      | (go_at_call 88
         with_reducible refine Calls.mono (E2.out _ (HL.out _ HB2.out)) ?_
         rintro e u3 ⟨A2, c2, rfl, hh2, hb2⟩
         have HB3 := Lib.hid (HB2.out.trans (hb2.mono HB2.out.size))
         have HH2 := Lib.hid hh2
         have G3 := Lib.hid (HB3.out.mono (show b1 ≤ w1.heap.size by omega)))
      | (go_at_call 88
         with_reducible refine Calls.mono (E3.out _ (HL.out _ HB3.out)) ?_
         rintro e u4 ⟨A3, c3, rfl, hh3, hb3⟩
         have HB4 := Lib.hid (HB3.out.trans (hb3.mono HB3.out.size))
         have HH3 := Lib.hid hh3
         have HB5 := Lib.hid (HB4.out.mono (show b1 ≤ w1.heap.size by omega))
         obtain ⟨r0, r1, r2, r3, r4, r5, r6⟩ := (X1.out.below HB4.out X1.out.lt).all
         obtain ⟨s0, s1, s2, s3, s4, s5, s6⟩ := (X2.out.below HB4.out X2.out.lt).all
         obtain ⟨t0, t1, t2, t3, t4, t5, t6⟩ := (X3.out.below HB4.out X3.out.lt).all))
  
  have Z1 := Lib.hid (X1.out.below HB4.out X1.out.lt)
  have Z2 := Lib.hid (X2.out.below HB4.out X2.out.lt)
  have Z3 := Lib.hid (X3.out.below HB4.out X3.out.lt)
  have ZA := Lib.hid (XA.out.below HB4.out XA.out.lt)
  have P1 := Lib.hid ((HH1.out.below hb2).below (hb3.mono hb2.size))
  have P15 := Lib.hid ((((((P1.out).st3 (fun h0 => P1.out.apart h0 Z1.out) (.int .i64 (V1 : Nat)) (.int .i64 (U1 : Nat)) (.slice A1 N1 c1))).st3 (fun h0 => P1.out.apart h0 Z2.out) (.int .i64 (V2 : Nat)) (.int .i64 (U2 : Nat)) (.slice A2 N2 c2))).st3 (fun h0 => P1.out.apart h0 Z3.out) (.int .i64 (V3 : Nat)) (.int .i64 (U3 : Nat)) (.slice A3 N3 c3))
  have P2 := Lib.hid (HH2.out.below hb3)
  have P25 := Lib.hid ((((((P2.out).st3 (fun h0 => P2.out.apart h0 Z1.out) (.int .i64 (V1 : Nat)) (.int .i64 (U1 : Nat)) (.slice A1 N1 c1))).st3 (fun h0 => P2.out.apart h0 Z2.out) (.int .i64 (V2 : Nat)) (.int .i64 (U2 : Nat)) (.slice A2 N2 c2))).st3 (fun h0 => P2.out.apart h0 Z3.out) (.int .i64 (V3 : Nat)) (.int .i64 (U3 : Nat)) (.slice A3 N3 c3))
  have P3 := Lib.hid (HH3.out)
  have P35 := Lib.hid ((((((P3.out).st3 (fun h0 => P3.out.apart h0 Z1.out) (.int .i64 (V1 : Nat)) (.int .i64 (U1 : Nat)) (.slice A1 N1 c1))).st3 (fun h0 => P3.out.apart h0 Z2.out) (.int .i64 (V2 : Nat)) (.int .i64 (U2 : Nat)) (.slice A2 N2 c2))).st3 (fun h0 => P3.out.apart h0 Z3.out) (.int .i64 (V3 : Nat)) (.int .i64 (U3 : Nat)) (.slice A3 N3 c3))
  have Y1 := Lib.hid ((((((Z1.out).st3 (V1 : Nat) (U1 : Nat) (.slice A1 N1 c1))).st3f n12 (.int .i64 (V2 : Nat)) (.int .i64 (U2 : Nat)) (.slice A2 N2 c2))).st3f n13 (.int .i64 (V3 : Nat)) (.int .i64 (U3 : Nat)) (.slice A3 N3 c3))
  have Y2 := Lib.hid ((((((Z2.out).st3f n21 (.int .i64 (V1 : Nat)) (.int .i64 (U1 : Nat)) (.slice A1 N1 c1))).st3 (V2 : Nat) (U2 : Nat) (.slice A2 N2 c2))).st3f n23 (.int .i64 (V3 : Nat)) (.int .i64 (U3 : Nat)) (.slice A3 N3 c3))
  have Y3 := Lib.hid ((((((Z3.out).st3f n31 (.int .i64 (V1 : Nat)) (.int .i64 (U1 : Nat)) (.slice A1 N1 c1))).st3f n32 (.int .i64 (V2 : Nat)) (.int .i64 (U2 : Nat)) (.slice A2 N2 c2))).st3 (V3 : Nat) (U3 : Nat) (.slice A3 N3 c3))
  have YA := Lib.hid ((((((ZA.out).st3f (k := b1) (by omega) (.int .i64 (V1 : Nat)) (.int .i64 (U1 : Nat)) (.slice A1 N1 c1))).st3f (k := b2) (by omega) (.int .i64 (V2 : Nat)) (.int .i64 (U2 : Nat)) (.slice A2 N2 c2))).st3f (k := b3) (by omega) (.int .i64 (V3 : Nat)) (.int .i64 (U3 : Nat)) (.slice A3 N3 c3))
  have LB5 := Lib.hid (bel_st3 (bel_st3 (bel_st3 (HL.out _ HB4.out) (g := b1) (by omega) (.int .i64 (V1 : Nat)) (.int .i64 (U1 : Nat)) (.slice A1 N1 c1)) (g := b2) (by omega) (.int .i64 (V2 : Nat)) (.int .i64 (U2 : Nat)) (.slice A2 N2 c2)) (g := b3) (by omega) (.int .i64 (V3 : Nat)) (.int .i64 (U3 : Nat)) (.slice A3 N3 c3))
  have hs5 : ((((((((((u4).setCell ⟨b1, 0, none⟩ (.int .i64 (V1 : Nat))).setCell ⟨b1, 1, none⟩ (.int .i64 (U1 : Nat))).setCell ⟨b1, 2, none⟩ (.slice A1 N1 c1)).setCell ⟨b2, 0, none⟩ (.int .i64 (V2 : Nat))).setCell ⟨b2, 1, none⟩ (.int .i64 (U2 : Nat))).setCell ⟨b2, 2, none⟩ (.slice A2 N2 c2)).setCell ⟨b3, 0, none⟩ (.int .i64 (V3 : Nat))).setCell ⟨b3, 1, none⟩ (.int .i64 (U3 : Nat))).setCell ⟨b3, 2, none⟩ (.slice A3 N3 c3)).heap.size = u4.heap.size := by rw [size_st3, size_st3, size_st3]
  have hs2 : u2.heap.size ≤ u4.heap.size := Nat.le_trans hb2.size hb3.size
  have hs3 : u3.heap.size ≤ u4.heap.size := hb3.size
  clear X1 X2 X3 XA Z1 Z2 Z3 ZA P1 P2 P3 HH1 HH2 HH3 hh1 hh2 hh3 hb1 hb2 hb3 HL HK G0 G2 G3 HB2 HB3 HB4 HB5 D0 E1 E2 E3 LB1 q0 q1 q2 q3 q4 q5 q6 r0 r1 r2 r3 r4 r5 r6 s0 s1 s2 s3 s4 s5 s6 t0 t1 t2 t3 t4 t5 t6
  generalize (((((((((u4).setCell ⟨b1, 0, none⟩ (.int .i64 (V1 : Nat))).setCell ⟨b1, 1, none⟩ (.int .i64 (U1 : Nat))).setCell ⟨b1, 2, none⟩ (.slice A1 N1 c1)).setCell ⟨b2, 0, none⟩ (.int .i64 (V2 : Nat))).setCell ⟨b2, 1, none⟩ (.int .i64 (U2 : Nat))).setCell ⟨b2, 2, none⟩ (.slice A2 N2 c2)).setCell ⟨b3, 0, none⟩ (.int .i64 (V3 : Nat))).setCell ⟨b3, 1, none⟩ (.int .i64 (U3 : Nat))).setCell ⟨b3, 2, none⟩ (.slice A3 N3 c3) = w5 at *
  have HH1 := Lib.hid (P15.out.more (show u2.heap.size ≤ w5.heap.size by omega))
  have HH2 := Lib.hid (P25.out.more (show u3.heap.size ≤ w5.heap.size by omega))
  have HH3 := Lib.hid (P35.out.more (show u4.heap.size ≤ w5.heap.size by omega))
  clear P15 P25 P35 hs2 hs3 hs5
  obtain ⟨q0, q1, q2, q3, q4, q5, q6⟩ := Y1.out.all
  obtain ⟨q7, q8, q9, q10, q11, q12, q13⟩ := Y2.out.all
  obtain ⟨q14, q15, q16, q17, q18, q19, q20⟩ := Y3.out.all
  go_wp2_with fail
  clear q0 q1 q2 q3 q4 q5 q6 q7 q8 q9 q10 q11 q12 q13 q14 q15 q16 q17 q18 q19 q20
  with_reducible refine Calls.mono (HV.out _ _ _ _ _ _ _ LB5.out HH1.out HH2.out HH3.out) ?_
  rintro e w6 ⟨rfl, hb⟩
  have LB6 := Lib.hid (LB5.out.trans (hb.mono LB5.out.size))
  have YA := Lib.hid (YA.out.below hb YA.out.lt)
  have Y1 := Lib.hid (Y1.out.below hb Y1.out.lt)
  have Y2 := Lib.hid (Y2.out.below hb Y2.out.lt)
  have Y3 := Lib.hid (Y3.out.below hb Y3.out.lt)
  clear hb LB5 
  have hz2 : (z == 0) = false := by rw [bne] at hz; simpa using hz
  have hb := bel_alloc w6 (.cells #[.int .i64 0, .int .i64 0, .slice none 0 0] 24)
  have LB7 := Lib.hid (LB6.out.trans (hb.mono LB6.out.size))
  have YA := Lib.hid (YA.out.below hb YA.out.lt)
  have Y1 := Lib.hid (Y1.out.below hb Y1.out.lt)
  have Y2 := Lib.hid (Y2.out.below hb Y2.out.lt)
  have Y3 := Lib.hid (Y3.out.below hb Y3.out.lt)
  clear hb LB6
  go_upto_region 6 with (fail)
  generalize w6.alloc (.cells #[.int .i64 0, .int .i64 0, .slice none 0 0] 24) = w7 at *
  obtain ⟨q0, q1, q2, q3, q4, q5, q6⟩ := Y1.out.all
  obtain ⟨q7, q8, q9, q10, q11, q12, q13⟩ := Y2.out.all
  obtain ⟨q14, q15, q16, q17, q18, q19, q20⟩ := Y3.out.all
  go_wp2
  refine bodyPost_ret (v := .tuple #[.agg #[.int .i64 0, .int .i64 0, .slice none 0 0], .agg #[.int .i64 0, .int .i64 0, .slice none 0 0], .agg #[.int .i64 0, .int .i64 0, .slice none 0 0], .int .i64 6]) (by simp [results, Try.results42, go_sem, q0, q1, q2, q3, q4, q5, q6, q7, q8, q9, q10, q11, q12, q13, q14, q15, q16, q17, q18, q19, q20]) rfl ?_
  refine ⟨rfl, ?_⟩
  exact (bel_st3 (bel_st3 (bel_st3 LB7.out (g := b1) (by omega) _ _ _) (g := b2) (by omega) _ _ _) (g := b3) (by omega) _ _ _)
set_option maxHeartbeats 3200000 in
theorem apc_no {W H M : Nat} {A : Option Addr} {c : Nat} (w : World) (V1 U1 N1 V2 U2 N2 V3 U3 N3 : Nat) (F1 F2 F3 : Nat → Bool) (V4 U4 : Nat) (F4 : Nat → Bool)
    (hC : ∀ u, Calls Try.prog 69 #[.agg #[.int .i64 (W : Nat), .int .i64 (H : Nat), .slice A M c]] u fun e w' => e = .returned (.int .i64 0) ∧ Below u.heap.size u w')
    (h1 : ∀ u, Below w.heap.size w u → Calls Try.prog 88 #[.agg #[.int .i64 (W : Nat), .int .i64 (H : Nat), .slice A M c], .int .i64 0, .int .i64 0] u (GrR u V1 U1 N1 F1))
    (h2 : ∀ u, Below w.heap.size w u → Calls Try.prog 88 #[.agg #[.int .i64 (W : Nat), .int .i64 (H : Nat), .slice A M c], .int .i64 1, .int .i64 1] u (GrR u V2 U2 N2 F2))
    (h3 : ∀ u, Below w.heap.size w u → Calls Try.prog 88 #[.agg #[.int .i64 (W : Nat), .int .i64 (H : Nat), .slice A M c], .int .i64 0, .int .i64 1] u (GrR u V3 U3 N3 F3))
    (hV : ∀ u A1 c1 A2 c2 A3 c3, Below w.heap.size w u → Holds u u.heap.size A1 N1 F1 → Holds u u.heap.size A2 N2 F2 → Holds u u.heap.size A3 N3 F3 → Calls Try.prog 48 #[.agg #[.int .i64 (V1 : Nat), .int .i64 (U1 : Nat), .slice A1 N1 c1], .agg #[.int .i64 (V2 : Nat), .int .i64 (U2 : Nat), .slice A2 N2 c2], .agg #[.int .i64 (V3 : Nat), .int .i64 (U3 : Nat), .slice A3 N3 c3]] u (OkRef u V4 U4 F4))
    (hS : ∀ u k d, Below w.heap.size w u → Row u k (V4 * U4) F4 → Calls Try.prog 89 #[.agg #[.int .i64 (V4 : Nat), .int .i64 (U4 : Nat), .slice (some ⟨k, 0, none⟩) (V4 * U4) d], .agg #[.int .i64 (W : Nat), .int .i64 (H : Nat), .slice A M c]] u fun e w' => e = .returned (.bool false) ∧ Below u.heap.size u w') :
    Calls Try.prog 42 #[.agg #[.int .i64 (W : Nat), .int .i64 (H : Nat), .slice A M c]] w (ApN w 6) := by
  have HC := Lib.hid hC
  have E1 := Lib.hid h1
  have E2 := Lib.hid h2
  have E3 := Lib.hid h3
  have HV := Lib.hid hV
  clear hC h1 h2 h3 hV
  have HS := Lib.hid hS
  clear hS
  have LB0 := Lib.hid (Below.refl w.heap.size w)
  have XA := Lib.hid (Box.new w (W : Nat) (H : Nat) (.slice A M c))
  have LB0 := Lib.hid (LB0.out.alloc LB0.out.size (.cells #[.int .i64 (W : Nat), .int .i64 (H : Nat), .slice A M c] 24))
  have XA := Lib.hid (XA.out.alloc (.cells #[.int .i64 0, .int .i64 0, .slice none 0 0] 24))
  have X1 := Box.new (w.alloc (.cells #[.int .i64 (W : Nat), .int .i64 (H : Nat), .slice A M c] 24)) 0 0 (.slice none 0 0)
  rw [show ((w.alloc (.cells #[.int .i64 (W : Nat), .int .i64 (H : Nat), .slice A M c] 24))).heap.size = w.heap.size + 1 by simp] at X1
  have X1 := Lib.hid X1
  have LB0 := Lib.hid (LB0.out.alloc LB0.out.size (.cells #[.int .i64 0, .int .i64 0, .slice none 0 0] 24))
  have XA := Lib.hid (XA.out.alloc (.cells #[.int .i64 0, .int .i64 0, .slice none 0 0] 24))
  have X1 := Lib.hid (X1.out.alloc (.cells #[.int .i64 0, .int .i64 0, .slice none 0 0] 24))
  have X2 := Box.new ((w.alloc (.cells #[.int .i64 (W : Nat), .int .i64 (H : Nat), .slice A M c] 24)).alloc (.cells #[.int .i64 0, .int .i64 0, .slice none 0 0] 24)) 0 0 (.slice none 0 0)
  rw [show (((w.alloc (.cells #[.int .i64 (W : Nat), .int .i64 (H : Nat), .slice A M c] 24)).alloc (.cells #[.int .i64 0, .int .i64 0, .slice none 0 0] 24))).heap.size = w.heap.size + 2 by simp] at X2
  have X2 := Lib.hid X2
  have LB0 := Lib.hid (LB0.out.alloc LB0.out.size (.cells #[.int .i64 0, .int .i64 0, .slice none 0 0] 24))
  have XA := Lib.hid (XA.out.alloc (.cells #[.int .i64 0, .int .i64 0, .slice none 0 0] 24))
  have X1 := Lib.hid (X1.out.alloc (.cells #[.int .i64 0, .int .i64 0, .slice none 0 0] 24))
  have X2 := Lib.hid (X2.out.alloc (.cells #[.int .i64 0, .int .i64 0, .slice none 0 0] 24))
  have X3 := Box.new (((w.alloc (.cells #[.int .i64 (W : Nat), .int .i64 (H : Nat), .slice A M c] 24)).alloc (.cells #[.int .i64 0, .int .i64 0, .slice none 0 0] 24)).alloc (.cells #[.int .i64 0, .int .i64 0, .slice none 0 0] 24)) 0 0 (.slice none 0 0)
  rw [show ((((w.alloc (.cells #[.int .i64 (W : Nat), .int .i64 (H : Nat), .slice A M c] 24)).alloc (.cells #[.int .i64 0, .int .i64 0, .slice none 0 0] 24)).alloc (.cells #[.int .i64 0, .int .i64 0, .slice none 0 0] 24))).heap.size = w.heap.size + 3 by simp] at X3
  have X3 := Lib.hid X3
  have LB0 := Lib.hid (LB0.out.alloc LB0.out.size (.cells #[.int .i64 0, .int .i64 0, .slice none 0 0] 24))
  go_enter Try.func42, Try.ntmps42
  go_upto_region 1 with (fail)
  generalize (((w.alloc (.cells #[.int .i64 (W : Nat), .int .i64 (H : Nat), .slice A M c] 24)).alloc (.cells #[.int .i64 0, .int .i64 0, .slice none 0 0] 24)).alloc (.cells #[.int .i64 0, .int .i64 0, .slice none 0 0] 24)).alloc (.cells #[.int .i64 0, .int .i64 0, .slice none 0 0] 24) = w0 at *
  obtain ⟨b1, hb1⟩ : ∃ z, w.heap.size + 1 = z := ⟨_, rfl⟩
  obtain ⟨b2, hb2⟩ : ∃ z, w.heap.size + 2 = z := ⟨_, rfl⟩
  obtain ⟨b3, hb3⟩ : ∃ z, w.heap.size + 3 = z := ⟨_, rfl⟩
  have hbb : w.heap.size < b1 ∧ b1 < b2 ∧ b2 < b3 := by omega
  rw [hb1] at X1
  rw [hb2] at X2
  rw [hb3] at X3
  rw [hb3, hb2, hb1]
  clear hb1 hb2 hb3
  obtain ⟨q0, q1, q2, q3, q4, q5, q6⟩ := XA.out.all
  go_wp2_with fail
  clear q0 q1 q2 q3 q4 q5 q6
  with_reducible refine Calls.mono (HC.out _) ?_
  rintro e w1 ⟨rfl, hb⟩
  have LB1 := Lib.hid (LB0.out.trans (hb.mono LB0.out.size))
  have XA := Lib.hid (XA.out.below hb XA.out.lt)
  have X1 := Lib.hid (X1.out.below hb X1.out.lt)
  have X2 := Lib.hid (X2.out.below hb X2.out.lt)
  have X3 := Lib.hid (X3.out.below hb X3.out.lt)
  clear hb LB0 
  have hb3l := X3.out.lt
  have h12 : b1 ≤ b2 := by omega
  have h13 : b1 ≤ b3 := by omega
  have n12 : b1 ≠ b2 := by omega
  have n13 : b1 ≠ b3 := by omega
  have n23 : b2 ≠ b3 := by omega
  have n21 : b2 ≠ b1 := by omega
  have n31 : b3 ≠ b1 := by omega
  have n32 : b3 ≠ b2 := by omega
  obtain ⟨q0, q1, q2, q3, q4, q5, q6⟩ := XA.out.all
  go_upto_region 4 with (fail)
  have HK := Lib.hid (fun (u : World) (h : Below b1 w1 u) => (show u.cell? ⟨w.heap.size, 0, none⟩ = some (.int .i64 (W : Nat)) ∧ u.cell? ⟨w.heap.size, 1, none⟩ = some (.int .i64 (H : Nat)) ∧ u.cell? ⟨w.heap.size, 2, none⟩ = some (.slice A M c) from
    ⟨(h.cell (p := ⟨w.heap.size, 0, none⟩) hbb.1).trans q0, (h.cell (p := ⟨w.heap.size, 1, none⟩) hbb.1).trans q1, (h.cell (p := ⟨w.heap.size, 2, none⟩) hbb.1).trans q2⟩))
  have HL := Lib.hid (fun (u : World) (h : Below w1.heap.size w1 u) => LB1.out.trans (h.mono LB1.out.size))
  have D0 := Lib.hid (Below.refl w1.heap.size w1).drew
  have G0 := Lib.hid (D0.out.mono (show b1 ≤ w1.heap.size by omega))
  go_region_held3 (fun u => u.cell? ⟨w.heap.size, 0, none⟩ = some (.int .i64 (W : Nat)) ∧ u.cell? ⟨w.heap.size, 1, none⟩ = some (.int .i64 (H : Nat)) ∧ u.cell? ⟨w.heap.size, 2, none⟩ = some (.slice A M c))
    (first
      | with_reducible exact HK.out _ G0.out
      | with_reducible exact HK.out _ G2.out
      | with_reducible exact HK.out _ G3.out
      | with_reducible exact HK.out _ HB5.out
      | with_reducible exact HK.out _ (bel_st3 HB5.out (Nat.le_refl _) _ _ _)
      | with_reducible exact HK.out _ (bel_st3 (bel_st3 HB5.out (Nat.le_refl _) _ _ _) h12 _ _ _)
      | with_reducible exact HK.out _ (bel_st3 (bel_st3 (bel_st3 HB5.out (Nat.le_refl _) _ _ _) h12 _ _ _) h13 _ _ _))
    (first
      | (go_at_call 88
         with_reducible refine Calls.mono (E1.out _ (HL.out _ D0.out)) ?_
         rintro e u2 ⟨A1, c1, rfl, hh1, hb1⟩
         have HB2 := Lib.hid (D0.out.trans (hb1.mono D0.out.size))
         have HH1 := Lib.hid hh1
         have G2 := Lib.hid (HB2.out.mono (show b1 ≤ w1.heap.size by omega)))
      | (go_at_call 88
         with_reducible refine Calls.mono (E2.out _ (HL.out _ HB2.out)) ?_
         rintro e u3 ⟨A2, c2, rfl, hh2, hb2⟩
         have HB3 := Lib.hid (HB2.out.trans (hb2.mono HB2.out.size))
         have HH2 := Lib.hid hh2
         have G3 := Lib.hid (HB3.out.mono (show b1 ≤ w1.heap.size by omega)))
      | (go_at_call 88
         with_reducible refine Calls.mono (E3.out _ (HL.out _ HB3.out)) ?_
         rintro e u4 ⟨A3, c3, rfl, hh3, hb3⟩
         have HB4 := Lib.hid (HB3.out.trans (hb3.mono HB3.out.size))
         have HH3 := Lib.hid hh3
         have HB5 := Lib.hid (HB4.out.mono (show b1 ≤ w1.heap.size by omega))
         obtain ⟨r0, r1, r2, r3, r4, r5, r6⟩ := (X1.out.below HB4.out X1.out.lt).all
         obtain ⟨s0, s1, s2, s3, s4, s5, s6⟩ := (X2.out.below HB4.out X2.out.lt).all
         obtain ⟨t0, t1, t2, t3, t4, t5, t6⟩ := (X3.out.below HB4.out X3.out.lt).all))
  
  have Z1 := Lib.hid (X1.out.below HB4.out X1.out.lt)
  have Z2 := Lib.hid (X2.out.below HB4.out X2.out.lt)
  have Z3 := Lib.hid (X3.out.below HB4.out X3.out.lt)
  have ZA := Lib.hid (XA.out.below HB4.out XA.out.lt)
  have P1 := Lib.hid ((HH1.out.below hb2).below (hb3.mono hb2.size))
  have P15 := Lib.hid ((((((P1.out).st3 (fun h0 => P1.out.apart h0 Z1.out) (.int .i64 (V1 : Nat)) (.int .i64 (U1 : Nat)) (.slice A1 N1 c1))).st3 (fun h0 => P1.out.apart h0 Z2.out) (.int .i64 (V2 : Nat)) (.int .i64 (U2 : Nat)) (.slice A2 N2 c2))).st3 (fun h0 => P1.out.apart h0 Z3.out) (.int .i64 (V3 : Nat)) (.int .i64 (U3 : Nat)) (.slice A3 N3 c3))
  have P2 := Lib.hid (HH2.out.below hb3)
  have P25 := Lib.hid ((((((P2.out).st3 (fun h0 => P2.out.apart h0 Z1.out) (.int .i64 (V1 : Nat)) (.int .i64 (U1 : Nat)) (.slice A1 N1 c1))).st3 (fun h0 => P2.out.apart h0 Z2.out) (.int .i64 (V2 : Nat)) (.int .i64 (U2 : Nat)) (.slice A2 N2 c2))).st3 (fun h0 => P2.out.apart h0 Z3.out) (.int .i64 (V3 : Nat)) (.int .i64 (U3 : Nat)) (.slice A3 N3 c3))
  have P3 := Lib.hid (HH3.out)
  have P35 := Lib.hid ((((((P3.out).st3 (fun h0 => P3.out.apart h0 Z1.out) (.int .i64 (V1 : Nat)) (.int .i64 (U1 : Nat)) (.slice A1 N1 c1))).st3 (fun h0 => P3.out.apart h0 Z2.out) (.int .i64 (V2 : Nat)) (.int .i64 (U2 : Nat)) (.slice A2 N2 c2))).st3 (fun h0 => P3.out.apart h0 Z3.out) (.int .i64 (V3 : Nat)) (.int .i64 (U3 : Nat)) (.slice A3 N3 c3))
  have Y1 := Lib.hid ((((((Z1.out).st3 (V1 : Nat) (U1 : Nat) (.slice A1 N1 c1))).st3f n12 (.int .i64 (V2 : Nat)) (.int .i64 (U2 : Nat)) (.slice A2 N2 c2))).st3f n13 (.int .i64 (V3 : Nat)) (.int .i64 (U3 : Nat)) (.slice A3 N3 c3))
  have Y2 := Lib.hid ((((((Z2.out).st3f n21 (.int .i64 (V1 : Nat)) (.int .i64 (U1 : Nat)) (.slice A1 N1 c1))).st3 (V2 : Nat) (U2 : Nat) (.slice A2 N2 c2))).st3f n23 (.int .i64 (V3 : Nat)) (.int .i64 (U3 : Nat)) (.slice A3 N3 c3))
  have Y3 := Lib.hid ((((((Z3.out).st3f n31 (.int .i64 (V1 : Nat)) (.int .i64 (U1 : Nat)) (.slice A1 N1 c1))).st3f n32 (.int .i64 (V2 : Nat)) (.int .i64 (U2 : Nat)) (.slice A2 N2 c2))).st3 (V3 : Nat) (U3 : Nat) (.slice A3 N3 c3))
  have YA := Lib.hid ((((((ZA.out).st3f (k := b1) (by omega) (.int .i64 (V1 : Nat)) (.int .i64 (U1 : Nat)) (.slice A1 N1 c1))).st3f (k := b2) (by omega) (.int .i64 (V2 : Nat)) (.int .i64 (U2 : Nat)) (.slice A2 N2 c2))).st3f (k := b3) (by omega) (.int .i64 (V3 : Nat)) (.int .i64 (U3 : Nat)) (.slice A3 N3 c3))
  have LB5 := Lib.hid (bel_st3 (bel_st3 (bel_st3 (HL.out _ HB4.out) (g := b1) (by omega) (.int .i64 (V1 : Nat)) (.int .i64 (U1 : Nat)) (.slice A1 N1 c1)) (g := b2) (by omega) (.int .i64 (V2 : Nat)) (.int .i64 (U2 : Nat)) (.slice A2 N2 c2)) (g := b3) (by omega) (.int .i64 (V3 : Nat)) (.int .i64 (U3 : Nat)) (.slice A3 N3 c3))
  have hs5 : ((((((((((u4).setCell ⟨b1, 0, none⟩ (.int .i64 (V1 : Nat))).setCell ⟨b1, 1, none⟩ (.int .i64 (U1 : Nat))).setCell ⟨b1, 2, none⟩ (.slice A1 N1 c1)).setCell ⟨b2, 0, none⟩ (.int .i64 (V2 : Nat))).setCell ⟨b2, 1, none⟩ (.int .i64 (U2 : Nat))).setCell ⟨b2, 2, none⟩ (.slice A2 N2 c2)).setCell ⟨b3, 0, none⟩ (.int .i64 (V3 : Nat))).setCell ⟨b3, 1, none⟩ (.int .i64 (U3 : Nat))).setCell ⟨b3, 2, none⟩ (.slice A3 N3 c3)).heap.size = u4.heap.size := by rw [size_st3, size_st3, size_st3]
  have hs2 : u2.heap.size ≤ u4.heap.size := Nat.le_trans hb2.size hb3.size
  have hs3 : u3.heap.size ≤ u4.heap.size := hb3.size
  clear X1 X2 X3 XA Z1 Z2 Z3 ZA P1 P2 P3 HH1 HH2 HH3 hh1 hh2 hh3 hb1 hb2 hb3 HL HK G0 G2 G3 HB2 HB3 HB4 HB5 D0 E1 E2 E3 LB1 q0 q1 q2 q3 q4 q5 q6 r0 r1 r2 r3 r4 r5 r6 s0 s1 s2 s3 s4 s5 s6 t0 t1 t2 t3 t4 t5 t6
  generalize (((((((((u4).setCell ⟨b1, 0, none⟩ (.int .i64 (V1 : Nat))).setCell ⟨b1, 1, none⟩ (.int .i64 (U1 : Nat))).setCell ⟨b1, 2, none⟩ (.slice A1 N1 c1)).setCell ⟨b2, 0, none⟩ (.int .i64 (V2 : Nat))).setCell ⟨b2, 1, none⟩ (.int .i64 (U2 : Nat))).setCell ⟨b2, 2, none⟩ (.slice A2 N2 c2)).setCell ⟨b3, 0, none⟩ (.int .i64 (V3 : Nat))).setCell ⟨b3, 1, none⟩ (.int .i64 (U3 : Nat))).setCell ⟨b3, 2, none⟩ (.slice A3 N3 c3) = w5 at *
  have HH1 := Lib.hid (P15.out.more (show u2.heap.size ≤ w5.heap.size by omega))
  have HH2 := Lib.hid (P25.out.more (show u3.heap.size ≤ w5.heap.size by omega))
  have HH3 := Lib.hid (P35.out.more (show u4.heap.size ≤ w5.heap.size by omega))
  clear P15 P25 P35 hs2 hs3 hs5
  obtain ⟨q0, q1, q2, q3, q4, q5, q6⟩ := Y1.out.all
  obtain ⟨q7, q8, q9, q10, q11, q12, q13⟩ := Y2.out.all
  obtain ⟨q14, q15, q16, q17, q18, q19, q20⟩ := Y3.out.all
  go_wp2_with fail
  clear q0 q1 q2 q3 q4 q5 q6 q7 q8 q9 q10 q11 q12 q13 q14 q15 q16 q17 q18 q19 q20
  with_reducible refine Calls.mono (HV.out _ _ _ _ _ _ _ LB5.out HH1.out HH2.out HH3.out) ?_
  rintro e w6 ⟨k, d4, rfl, hk, hrow, hb⟩
  have LB6 := Lib.hid (LB5.out.trans (hb.mono LB5.out.size))
  have YA := Lib.hid (YA.out.below hb YA.out.lt)
  have Y1 := Lib.hid (Y1.out.below hb Y1.out.lt)
  have Y2 := Lib.hid (Y2.out.below hb Y2.out.lt)
  have Y3 := Lib.hid (Y3.out.below hb Y3.out.lt)
  have HR := Lib.hid hrow
  clear hb LB5 hrow
  have XM := Box.new w6 (V4 : Nat) (U4 : Nat) (.slice (some ⟨k, 0, none⟩) (V4 * U4) d4)
  obtain ⟨mb, hmb⟩ : ∃ mb, w6.heap.size = mb := ⟨_, rfl⟩
  rw [hmb] at XM
  have XM := Lib.hid XM
  obtain ⟨N4, hN4⟩ : ∃ z, V4 * U4 = z := ⟨_, rfl⟩
  rw [hN4] at HR HS XM
  rw [hN4]
  clear hN4
  have hb := bel_alloc w6 (.cells #[.int .i64 (V4 : Nat), .int .i64 (U4 : Nat), .slice (some ⟨k, 0, none⟩) N4 d4] 24)
  have LB7 := Lib.hid (LB6.out.trans (hb.mono LB6.out.size))
  have YA := Lib.hid (YA.out.below hb YA.out.lt)
  have Y1 := Lib.hid (Y1.out.below hb Y1.out.lt)
  have Y2 := Lib.hid (Y2.out.below hb Y2.out.lt)
  have Y3 := Lib.hid (Y3.out.below hb Y3.out.lt)
  have HR := Lib.hid (HR.out.below hb HR.out.lt)
  clear hb LB6
  go_upto_region 6 with (fail)
  generalize w6.alloc (.cells #[.int .i64 (V4 : Nat), .int .i64 (U4 : Nat), .slice (some ⟨k, 0, none⟩) N4 d4] 24) = w7 at *
  clear hmb
  obtain ⟨q0, q1, q2, q3, q4, q5, q6⟩ := XM.out.all
  obtain ⟨q7, q8, q9, q10, q11, q12, q13⟩ := YA.out.all
  go_wp2_with fail
  clear q0 q1 q2 q3 q4 q5 q6 q7 q8 q9 q10 q11 q12 q13
  with_reducible refine Calls.mono (HS.out _ _ _ LB7.out HR.out) ?_
  rintro e w8 ⟨rfl, hb⟩
  have LB8 := Lib.hid (LB7.out.trans (hb.mono LB7.out.size))
  have YA := Lib.hid (YA.out.below hb YA.out.lt)
  have Y1 := Lib.hid (Y1.out.below hb Y1.out.lt)
  have Y2 := Lib.hid (Y2.out.below hb Y2.out.lt)
  have Y3 := Lib.hid (Y3.out.below hb Y3.out.lt)
  have HR := Lib.hid (HR.out.below hb HR.out.lt)
  have XM := Lib.hid (XM.out.below hb XM.out.lt)
  clear hb LB7 
  obtain ⟨q0, q1, q2, q3, q4, q5, q6⟩ := Y1.out.all
  obtain ⟨q7, q8, q9, q10, q11, q12, q13⟩ := Y2.out.all
  obtain ⟨q14, q15, q16, q17, q18, q19, q20⟩ := Y3.out.all
  go_wp2
  refine bodyPost_ret (v := .tuple #[.agg #[.int .i64 0, .int .i64 0, .slice none 0 0], .agg #[.int .i64 0, .int .i64 0, .slice none 0 0], .agg #[.int .i64 0, .int .i64 0, .slice none 0 0], .int .i64 6]) (by simp [results, Try.results42, go_sem, q0, q1, q2, q3, q4, q5, q6, q7, q8, q9, q10, q11, q12, q13, q14, q15, q16, q17, q18, q19, q20]) rfl ?_
  refine ⟨rfl, ?_⟩
  exact (bel_st3 (bel_st3 (bel_st3 LB8.out (g := b1) (by omega) _ _ _) (g := b2) (by omega) _ _ _) (g := b3) (by omega) _ _ _)
set_option maxHeartbeats 3200000 in
theorem apc_yes {W H M : Nat} {A : Option Addr} {c : Nat} (w : World) (V1 U1 N1 V2 U2 N2 V3 U3 N3 : Nat) (F1 F2 F3 : Nat → Bool) (V4 U4 : Nat) (F4 : Nat → Bool)
    (hC : ∀ u, Calls Try.prog 69 #[.agg #[.int .i64 (W : Nat), .int .i64 (H : Nat), .slice A M c]] u fun e w' => e = .returned (.int .i64 0) ∧ Below u.heap.size u w')
    (h1 : ∀ u, Below w.heap.size w u → Calls Try.prog 88 #[.agg #[.int .i64 (W : Nat), .int .i64 (H : Nat), .slice A M c], .int .i64 0, .int .i64 0] u (GrR u V1 U1 N1 F1))
    (h2 : ∀ u, Below w.heap.size w u → Calls Try.prog 88 #[.agg #[.int .i64 (W : Nat), .int .i64 (H : Nat), .slice A M c], .int .i64 1, .int .i64 1] u (GrR u V2 U2 N2 F2))
    (h3 : ∀ u, Below w.heap.size w u → Calls Try.prog 88 #[.agg #[.int .i64 (W : Nat), .int .i64 (H : Nat), .slice A M c], .int .i64 0, .int .i64 1] u (GrR u V3 U3 N3 F3))
    (hV : ∀ u A1 c1 A2 c2 A3 c3, Below w.heap.size w u → Holds u u.heap.size A1 N1 F1 → Holds u u.heap.size A2 N2 F2 → Holds u u.heap.size A3 N3 F3 → Calls Try.prog 48 #[.agg #[.int .i64 (V1 : Nat), .int .i64 (U1 : Nat), .slice A1 N1 c1], .agg #[.int .i64 (V2 : Nat), .int .i64 (U2 : Nat), .slice A2 N2 c2], .agg #[.int .i64 (V3 : Nat), .int .i64 (U3 : Nat), .slice A3 N3 c3]] u (OkRef u V4 U4 F4))
    (hS : ∀ u k d, Below w.heap.size w u → Row u k (V4 * U4) F4 → Calls Try.prog 89 #[.agg #[.int .i64 (V4 : Nat), .int .i64 (U4 : Nat), .slice (some ⟨k, 0, none⟩) (V4 * U4) d], .agg #[.int .i64 (W : Nat), .int .i64 (H : Nat), .slice A M c]] u fun e w' => e = .returned (.bool true) ∧ Below u.heap.size u w') :
    Calls Try.prog 42 #[.agg #[.int .i64 (W : Nat), .int .i64 (H : Nat), .slice A M c]] w (Ap3 w V1 U1 N1 V2 U2 N2 V3 U3 N3 F1 F2 F3) := by
  have HC := Lib.hid hC
  have E1 := Lib.hid h1
  have E2 := Lib.hid h2
  have E3 := Lib.hid h3
  have HV := Lib.hid hV
  clear hC h1 h2 h3 hV
  have HS := Lib.hid hS
  clear hS
  have LB0 := Lib.hid (Below.refl w.heap.size w)
  have XA := Lib.hid (Box.new w (W : Nat) (H : Nat) (.slice A M c))
  have LB0 := Lib.hid (LB0.out.alloc LB0.out.size (.cells #[.int .i64 (W : Nat), .int .i64 (H : Nat), .slice A M c] 24))
  have XA := Lib.hid (XA.out.alloc (.cells #[.int .i64 0, .int .i64 0, .slice none 0 0] 24))
  have X1 := Box.new (w.alloc (.cells #[.int .i64 (W : Nat), .int .i64 (H : Nat), .slice A M c] 24)) 0 0 (.slice none 0 0)
  rw [show ((w.alloc (.cells #[.int .i64 (W : Nat), .int .i64 (H : Nat), .slice A M c] 24))).heap.size = w.heap.size + 1 by simp] at X1
  have X1 := Lib.hid X1
  have LB0 := Lib.hid (LB0.out.alloc LB0.out.size (.cells #[.int .i64 0, .int .i64 0, .slice none 0 0] 24))
  have XA := Lib.hid (XA.out.alloc (.cells #[.int .i64 0, .int .i64 0, .slice none 0 0] 24))
  have X1 := Lib.hid (X1.out.alloc (.cells #[.int .i64 0, .int .i64 0, .slice none 0 0] 24))
  have X2 := Box.new ((w.alloc (.cells #[.int .i64 (W : Nat), .int .i64 (H : Nat), .slice A M c] 24)).alloc (.cells #[.int .i64 0, .int .i64 0, .slice none 0 0] 24)) 0 0 (.slice none 0 0)
  rw [show (((w.alloc (.cells #[.int .i64 (W : Nat), .int .i64 (H : Nat), .slice A M c] 24)).alloc (.cells #[.int .i64 0, .int .i64 0, .slice none 0 0] 24))).heap.size = w.heap.size + 2 by simp] at X2
  have X2 := Lib.hid X2
  have LB0 := Lib.hid (LB0.out.alloc LB0.out.size (.cells #[.int .i64 0, .int .i64 0, .slice none 0 0] 24))
  have XA := Lib.hid (XA.out.alloc (.cells #[.int .i64 0, .int .i64 0, .slice none 0 0] 24))
  have X1 := Lib.hid (X1.out.alloc (.cells #[.int .i64 0, .int .i64 0, .slice none 0 0] 24))
  have X2 := Lib.hid (X2.out.alloc (.cells #[.int .i64 0, .int .i64 0, .slice none 0 0] 24))
  have X3 := Box.new (((w.alloc (.cells #[.int .i64 (W : Nat), .int .i64 (H : Nat), .slice A M c] 24)).alloc (.cells #[.int .i64 0, .int .i64 0, .slice none 0 0] 24)).alloc (.cells #[.int .i64 0, .int .i64 0, .slice none 0 0] 24)) 0 0 (.slice none 0 0)
  rw [show ((((w.alloc (.cells #[.int .i64 (W : Nat), .int .i64 (H : Nat), .slice A M c] 24)).alloc (.cells #[.int .i64 0, .int .i64 0, .slice none 0 0] 24)).alloc (.cells #[.int .i64 0, .int .i64 0, .slice none 0 0] 24))).heap.size = w.heap.size + 3 by simp] at X3
  have X3 := Lib.hid X3
  have LB0 := Lib.hid (LB0.out.alloc LB0.out.size (.cells #[.int .i64 0, .int .i64 0, .slice none 0 0] 24))
  go_enter Try.func42, Try.ntmps42
  go_upto_region 1 with (fail)
  generalize (((w.alloc (.cells #[.int .i64 (W : Nat), .int .i64 (H : Nat), .slice A M c] 24)).alloc (.cells #[.int .i64 0, .int .i64 0, .slice none 0 0] 24)).alloc (.cells #[.int .i64 0, .int .i64 0, .slice none 0 0] 24)).alloc (.cells #[.int .i64 0, .int .i64 0, .slice none 0 0] 24) = w0 at *
  obtain ⟨b1, hb1⟩ : ∃ z, w.heap.size + 1 = z := ⟨_, rfl⟩
  obtain ⟨b2, hb2⟩ : ∃ z, w.heap.size + 2 = z := ⟨_, rfl⟩
  obtain ⟨b3, hb3⟩ : ∃ z, w.heap.size + 3 = z := ⟨_, rfl⟩
  have hbb : w.heap.size < b1 ∧ b1 < b2 ∧ b2 < b3 := by omega
  rw [hb1] at X1
  rw [hb2] at X2
  rw [hb3] at X3
  rw [hb3, hb2, hb1]
  clear hb1 hb2 hb3
  obtain ⟨q0, q1, q2, q3, q4, q5, q6⟩ := XA.out.all
  go_wp2_with fail
  clear q0 q1 q2 q3 q4 q5 q6
  with_reducible refine Calls.mono (HC.out _) ?_
  rintro e w1 ⟨rfl, hb⟩
  have LB1 := Lib.hid (LB0.out.trans (hb.mono LB0.out.size))
  have XA := Lib.hid (XA.out.below hb XA.out.lt)
  have X1 := Lib.hid (X1.out.below hb X1.out.lt)
  have X2 := Lib.hid (X2.out.below hb X2.out.lt)
  have X3 := Lib.hid (X3.out.below hb X3.out.lt)
  clear hb LB0 
  have hb3l := X3.out.lt
  have h12 : b1 ≤ b2 := by omega
  have h13 : b1 ≤ b3 := by omega
  have n12 : b1 ≠ b2 := by omega
  have n13 : b1 ≠ b3 := by omega
  have n23 : b2 ≠ b3 := by omega
  have n21 : b2 ≠ b1 := by omega
  have n31 : b3 ≠ b1 := by omega
  have n32 : b3 ≠ b2 := by omega
  obtain ⟨q0, q1, q2, q3, q4, q5, q6⟩ := XA.out.all
  go_upto_region 4 with (fail)
  have HK := Lib.hid (fun (u : World) (h : Below b1 w1 u) => (show u.cell? ⟨w.heap.size, 0, none⟩ = some (.int .i64 (W : Nat)) ∧ u.cell? ⟨w.heap.size, 1, none⟩ = some (.int .i64 (H : Nat)) ∧ u.cell? ⟨w.heap.size, 2, none⟩ = some (.slice A M c) from
    ⟨(h.cell (p := ⟨w.heap.size, 0, none⟩) hbb.1).trans q0, (h.cell (p := ⟨w.heap.size, 1, none⟩) hbb.1).trans q1, (h.cell (p := ⟨w.heap.size, 2, none⟩) hbb.1).trans q2⟩))
  have HL := Lib.hid (fun (u : World) (h : Below w1.heap.size w1 u) => LB1.out.trans (h.mono LB1.out.size))
  have D0 := Lib.hid (Below.refl w1.heap.size w1).drew
  have G0 := Lib.hid (D0.out.mono (show b1 ≤ w1.heap.size by omega))
  go_region_held3 (fun u => u.cell? ⟨w.heap.size, 0, none⟩ = some (.int .i64 (W : Nat)) ∧ u.cell? ⟨w.heap.size, 1, none⟩ = some (.int .i64 (H : Nat)) ∧ u.cell? ⟨w.heap.size, 2, none⟩ = some (.slice A M c))
    (first
      | with_reducible exact HK.out _ G0.out
      | with_reducible exact HK.out _ G2.out
      | with_reducible exact HK.out _ G3.out
      | with_reducible exact HK.out _ HB5.out
      | with_reducible exact HK.out _ (bel_st3 HB5.out (Nat.le_refl _) _ _ _)
      | with_reducible exact HK.out _ (bel_st3 (bel_st3 HB5.out (Nat.le_refl _) _ _ _) h12 _ _ _)
      | with_reducible exact HK.out _ (bel_st3 (bel_st3 (bel_st3 HB5.out (Nat.le_refl _) _ _ _) h12 _ _ _) h13 _ _ _))
    (first
      | (go_at_call 88
         with_reducible refine Calls.mono (E1.out _ (HL.out _ D0.out)) ?_
         rintro e u2 ⟨A1, c1, rfl, hh1, hb1⟩
         have HB2 := Lib.hid (D0.out.trans (hb1.mono D0.out.size))
         have HH1 := Lib.hid hh1
         have G2 := Lib.hid (HB2.out.mono (show b1 ≤ w1.heap.size by omega)))
      | (go_at_call 88
         with_reducible refine Calls.mono (E2.out _ (HL.out _ HB2.out)) ?_
         rintro e u3 ⟨A2, c2, rfl, hh2, hb2⟩
         have HB3 := Lib.hid (HB2.out.trans (hb2.mono HB2.out.size))
         have HH2 := Lib.hid hh2
         have G3 := Lib.hid (HB3.out.mono (show b1 ≤ w1.heap.size by omega)))
      | (go_at_call 88
         with_reducible refine Calls.mono (E3.out _ (HL.out _ HB3.out)) ?_
         rintro e u4 ⟨A3, c3, rfl, hh3, hb3⟩
         have HB4 := Lib.hid (HB3.out.trans (hb3.mono HB3.out.size))
         have HH3 := Lib.hid hh3
         have HB5 := Lib.hid (HB4.out.mono (show b1 ≤ w1.heap.size by omega))
         obtain ⟨r0, r1, r2, r3, r4, r5, r6⟩ := (X1.out.below HB4.out X1.out.lt).all
         obtain ⟨s0, s1, s2, s3, s4, s5, s6⟩ := (X2.out.below HB4.out X2.out.lt).all
         obtain ⟨t0, t1, t2, t3, t4, t5, t6⟩ := (X3.out.below HB4.out X3.out.lt).all))
  
  have Z1 := Lib.hid (X1.out.below HB4.out X1.out.lt)
  have Z2 := Lib.hid (X2.out.below HB4.out X2.out.lt)
  have Z3 := Lib.hid (X3.out.below HB4.out X3.out.lt)
  have ZA := Lib.hid (XA.out.below HB4.out XA.out.lt)
  have P1 := Lib.hid ((HH1.out.below hb2).below (hb3.mono hb2.size))
  have P15 := Lib.hid ((((((P1.out).st3 (fun h0 => P1.out.apart h0 Z1.out) (.int .i64 (V1 : Nat)) (.int .i64 (U1 : Nat)) (.slice A1 N1 c1))).st3 (fun h0 => P1.out.apart h0 Z2.out) (.int .i64 (V2 : Nat)) (.int .i64 (U2 : Nat)) (.slice A2 N2 c2))).st3 (fun h0 => P1.out.apart h0 Z3.out) (.int .i64 (V3 : Nat)) (.int .i64 (U3 : Nat)) (.slice A3 N3 c3))
  have P2 := Lib.hid (HH2.out.below hb3)
  have P25 := Lib.hid ((((((P2.out).st3 (fun h0 => P2.out.apart h0 Z1.out) (.int .i64 (V1 : Nat)) (.int .i64 (U1 : Nat)) (.slice A1 N1 c1))).st3 (fun h0 => P2.out.apart h0 Z2.out) (.int .i64 (V2 : Nat)) (.int .i64 (U2 : Nat)) (.slice A2 N2 c2))).st3 (fun h0 => P2.out.apart h0 Z3.out) (.int .i64 (V3 : Nat)) (.int .i64 (U3 : Nat)) (.slice A3 N3 c3))
  have P3 := Lib.hid (HH3.out)
  have P35 := Lib.hid ((((((P3.out).st3 (fun h0 => P3.out.apart h0 Z1.out) (.int .i64 (V1 : Nat)) (.int .i64 (U1 : Nat)) (.slice A1 N1 c1))).st3 (fun h0 => P3.out.apart h0 Z2.out) (.int .i64 (V2 : Nat)) (.int .i64 (U2 : Nat)) (.slice A2 N2 c2))).st3 (fun h0 => P3.out.apart h0 Z3.out) (.int .i64 (V3 : Nat)) (.int .i64 (U3 : Nat)) (.slice A3 N3 c3))
  have Y1 := Lib.hid ((((((Z1.out).st3 (V1 : Nat) (U1 : Nat) (.slice A1 N1 c1))).st3f n12 (.int .i64 (V2 : Nat)) (.int .i64 (U2 : Nat)) (.slice A2 N2 c2))).st3f n13 (.int .i64 (V3 : Nat)) (.int .i64 (U3 : Nat)) (.slice A3 N3 c3))
  have Y2 := Lib.hid ((((((Z2.out).st3f n21 (.int .i64 (V1 : Nat)) (.int .i64 (U1 : Nat)) (.slice A1 N1 c1))).st3 (V2 : Nat) (U2 : Nat) (.slice A2 N2 c2))).st3f n23 (.int .i64 (V3 : Nat)) (.int .i64 (U3 : Nat)) (.slice A3 N3 c3))
  have Y3 := Lib.hid ((((((Z3.out).st3f n31 (.int .i64 (V1 : Nat)) (.int .i64 (U1 : Nat)) (.slice A1 N1 c1))).st3f n32 (.int .i64 (V2 : Nat)) (.int .i64 (U2 : Nat)) (.slice A2 N2 c2))).st3 (V3 : Nat) (U3 : Nat) (.slice A3 N3 c3))
  have YA := Lib.hid ((((((ZA.out).st3f (k := b1) (by omega) (.int .i64 (V1 : Nat)) (.int .i64 (U1 : Nat)) (.slice A1 N1 c1))).st3f (k := b2) (by omega) (.int .i64 (V2 : Nat)) (.int .i64 (U2 : Nat)) (.slice A2 N2 c2))).st3f (k := b3) (by omega) (.int .i64 (V3 : Nat)) (.int .i64 (U3 : Nat)) (.slice A3 N3 c3))
  have LB5 := Lib.hid (bel_st3 (bel_st3 (bel_st3 (HL.out _ HB4.out) (g := b1) (by omega) (.int .i64 (V1 : Nat)) (.int .i64 (U1 : Nat)) (.slice A1 N1 c1)) (g := b2) (by omega) (.int .i64 (V2 : Nat)) (.int .i64 (U2 : Nat)) (.slice A2 N2 c2)) (g := b3) (by omega) (.int .i64 (V3 : Nat)) (.int .i64 (U3 : Nat)) (.slice A3 N3 c3))
  have hs5 : ((((((((((u4).setCell ⟨b1, 0, none⟩ (.int .i64 (V1 : Nat))).setCell ⟨b1, 1, none⟩ (.int .i64 (U1 : Nat))).setCell ⟨b1, 2, none⟩ (.slice A1 N1 c1)).setCell ⟨b2, 0, none⟩ (.int .i64 (V2 : Nat))).setCell ⟨b2, 1, none⟩ (.int .i64 (U2 : Nat))).setCell ⟨b2, 2, none⟩ (.slice A2 N2 c2)).setCell ⟨b3, 0, none⟩ (.int .i64 (V3 : Nat))).setCell ⟨b3, 1, none⟩ (.int .i64 (U3 : Nat))).setCell ⟨b3, 2, none⟩ (.slice A3 N3 c3)).heap.size = u4.heap.size := by rw [size_st3, size_st3, size_st3]
  have hs2 : u2.heap.size ≤ u4.heap.size := Nat.le_trans hb2.size hb3.size
  have hs3 : u3.heap.size ≤ u4.heap.size := hb3.size
  clear X1 X2 X3 XA Z1 Z2 Z3 ZA P1 P2 P3 HH1 HH2 HH3 hh1 hh2 hh3 hb1 hb2 hb3 HL HK G0 G2 G3 HB2 HB3 HB4 HB5 D0 E1 E2 E3 LB1 q0 q1 q2 q3 q4 q5 q6 r0 r1 r2 r3 r4 r5 r6 s0 s1 s2 s3 s4 s5 s6 t0 t1 t2 t3 t4 t5 t6
  generalize (((((((((u4).setCell ⟨b1, 0, none⟩ (.int .i64 (V1 : Nat))).setCell ⟨b1, 1, none⟩ (.int .i64 (U1 : Nat))).setCell ⟨b1, 2, none⟩ (.slice A1 N1 c1)).setCell ⟨b2, 0, none⟩ (.int .i64 (V2 : Nat))).setCell ⟨b2, 1, none⟩ (.int .i64 (U2 : Nat))).setCell ⟨b2, 2, none⟩ (.slice A2 N2 c2)).setCell ⟨b3, 0, none⟩ (.int .i64 (V3 : Nat))).setCell ⟨b3, 1, none⟩ (.int .i64 (U3 : Nat))).setCell ⟨b3, 2, none⟩ (.slice A3 N3 c3) = w5 at *
  have HH1 := Lib.hid (P15.out.more (show u2.heap.size ≤ w5.heap.size by omega))
  have HH2 := Lib.hid (P25.out.more (show u3.heap.size ≤ w5.heap.size by omega))
  have HH3 := Lib.hid (P35.out.more (show u4.heap.size ≤ w5.heap.size by omega))
  clear P15 P25 P35 hs2 hs3 hs5
  obtain ⟨q0, q1, q2, q3, q4, q5, q6⟩ := Y1.out.all
  obtain ⟨q7, q8, q9, q10, q11, q12, q13⟩ := Y2.out.all
  obtain ⟨q14, q15, q16, q17, q18, q19, q20⟩ := Y3.out.all
  go_wp2_with fail
  clear q0 q1 q2 q3 q4 q5 q6 q7 q8 q9 q10 q11 q12 q13 q14 q15 q16 q17 q18 q19 q20
  with_reducible refine Calls.mono (HV.out _ _ _ _ _ _ _ LB5.out HH1.out HH2.out HH3.out) ?_
  rintro e w6 ⟨k, d4, rfl, hk, hrow, hb⟩
  have LB6 := Lib.hid (LB5.out.trans (hb.mono LB5.out.size))
  have YA := Lib.hid (YA.out.below hb YA.out.lt)
  have Y1 := Lib.hid (Y1.out.below hb Y1.out.lt)
  have Y2 := Lib.hid (Y2.out.below hb Y2.out.lt)
  have Y3 := Lib.hid (Y3.out.below hb Y3.out.lt)
  have HH1 := Lib.hid ((HH1.out.below hb).more hb.size)
  have HH2 := Lib.hid ((HH2.out.below hb).more hb.size)
  have HH3 := Lib.hid ((HH3.out.below hb).more hb.size)
  have HR := Lib.hid hrow
  clear hb LB5 hrow
  have XM := Box.new w6 (V4 : Nat) (U4 : Nat) (.slice (some ⟨k, 0, none⟩) (V4 * U4) d4)
  obtain ⟨mb, hmb⟩ : ∃ mb, w6.heap.size = mb := ⟨_, rfl⟩
  rw [hmb] at XM
  have XM := Lib.hid XM
  obtain ⟨N4, hN4⟩ : ∃ z, V4 * U4 = z := ⟨_, rfl⟩
  rw [hN4] at HR HS XM
  rw [hN4]
  clear hN4
  have hb := bel_alloc w6 (.cells #[.int .i64 (V4 : Nat), .int .i64 (U4 : Nat), .slice (some ⟨k, 0, none⟩) N4 d4] 24)
  have LB7 := Lib.hid (LB6.out.trans (hb.mono LB6.out.size))
  have YA := Lib.hid (YA.out.below hb YA.out.lt)
  have Y1 := Lib.hid (Y1.out.below hb Y1.out.lt)
  have Y2 := Lib.hid (Y2.out.below hb Y2.out.lt)
  have Y3 := Lib.hid (Y3.out.below hb Y3.out.lt)
  have HH1 := Lib.hid ((HH1.out.below hb).more hb.size)
  have HH2 := Lib.hid ((HH2.out.below hb).more hb.size)
  have HH3 := Lib.hid ((HH3.out.below hb).more hb.size)
  have HR := Lib.hid (HR.out.below hb HR.out.lt)
  clear hb LB6
  go_upto_region 6 with (fail)
  generalize w6.alloc (.cells #[.int .i64 (V4 : Nat), .int .i64 (U4 : Nat), .slice (some ⟨k, 0, none⟩) N4 d4] 24) = w7 at *
  clear hmb
  obtain ⟨q0, q1, q2, q3, q4, q5, q6⟩ := XM.out.all
  obtain ⟨q7, q8, q9, q10, q11, q12, q13⟩ := YA.out.all
  go_wp2_with fail
  clear q0 q1 q2 q3 q4 q5 q6 q7 q8 q9 q10 q11 q12 q13
  with_reducible refine Calls.mono (HS.out _ _ _ LB7.out HR.out) ?_
  rintro e w8 ⟨rfl, hb⟩
  have LB8 := Lib.hid (LB7.out.trans (hb.mono LB7.out.size))
  have YA := Lib.hid (YA.out.below hb YA.out.lt)
  have Y1 := Lib.hid (Y1.out.below hb Y1.out.lt)
  have Y2 := Lib.hid (Y2.out.below hb Y2.out.lt)
  have Y3 := Lib.hid (Y3.out.below hb Y3.out.lt)
  have HH1 := Lib.hid ((HH1.out.below hb).more hb.size)
  have HH2 := Lib.hid ((HH2.out.below hb).more hb.size)
  have HH3 := Lib.hid ((HH3.out.below hb).more hb.size)
  have HR := Lib.hid (HR.out.below hb HR.out.lt)
  have XM := Lib.hid (XM.out.below hb XM.out.lt)
  clear hb LB7 
  go_upto_region 8 with (fail)
  clear XM YA HR
  obtain ⟨q0, q1, q2, q3, q4, q5, q6⟩ := Y1.out.all
  obtain ⟨q7, q8, q9, q10, q11, q12, q13⟩ := Y2.out.all
  obtain ⟨q14, q15, q16, q17, q18, q19, q20⟩ := Y3.out.all
  go_region
  clear q0 q1 q2 q3 q4 q5 q6 q7 q8 q9 q10 q11 q12 q13 q14 q15 q16 q17 q18 q19 q20
  have P1 := Lib.hid (((((((HH1.out).st3 (fun h0 => HH1.out.apart h0 Y1.out) (.int .i64 (V1 : Nat)) (.int .i64 (U1 : Nat)) (.slice A1 N1 c1))).st3 (fun h0 => HH1.out.apart h0 Y2.out) (.int .i64 (V2 : Nat)) (.int .i64 (U2 : Nat)) (.slice A2 N2 c2))).st3 (fun h0 => HH1.out.apart h0 Y3.out) (.int .i64 (V3 : Nat)) (.int .i64 (U3 : Nat)) (.slice A3 N3 c3))).drw
  have P2 := Lib.hid (((((((HH2.out).st3 (fun h0 => HH2.out.apart h0 Y1.out) (.int .i64 (V1 : Nat)) (.int .i64 (U1 : Nat)) (.slice A1 N1 c1))).st3 (fun h0 => HH2.out.apart h0 Y2.out) (.int .i64 (V2 : Nat)) (.int .i64 (U2 : Nat)) (.slice A2 N2 c2))).st3 (fun h0 => HH2.out.apart h0 Y3.out) (.int .i64 (V3 : Nat)) (.int .i64 (U3 : Nat)) (.slice A3 N3 c3))).drw
  have P3 := Lib.hid (((((((HH3.out).st3 (fun h0 => HH3.out.apart h0 Y1.out) (.int .i64 (V1 : Nat)) (.int .i64 (U1 : Nat)) (.slice A1 N1 c1))).st3 (fun h0 => HH3.out.apart h0 Y2.out) (.int .i64 (V2 : Nat)) (.int .i64 (U2 : Nat)) (.slice A2 N2 c2))).st3 (fun h0 => HH3.out.apart h0 Y3.out) (.int .i64 (V3 : Nat)) (.int .i64 (U3 : Nat)) (.slice A3 N3 c3))).drw
  have T1 := Lib.hid (((((((Y1.out).st3 (V1 : Nat) (U1 : Nat) (.slice A1 N1 c1))).st3f n12 (.int .i64 (V2 : Nat)) (.int .i64 (U2 : Nat)) (.slice A2 N2 c2))).st3f n13 (.int .i64 (V3 : Nat)) (.int .i64 (U3 : Nat)) (.slice A3 N3 c3))).drew
  have T2 := Lib.hid (((((((Y2.out).st3f n21 (.int .i64 (V1 : Nat)) (.int .i64 (U1 : Nat)) (.slice A1 N1 c1))).st3 (V2 : Nat) (U2 : Nat) (.slice A2 N2 c2))).st3f n23 (.int .i64 (V3 : Nat)) (.int .i64 (U3 : Nat)) (.slice A3 N3 c3))).drew
  have T3 := Lib.hid (((((((Y3.out).st3f n31 (.int .i64 (V1 : Nat)) (.int .i64 (U1 : Nat)) (.slice A1 N1 c1))).st3f n32 (.int .i64 (V2 : Nat)) (.int .i64 (U2 : Nat)) (.slice A2 N2 c2))).st3 (V3 : Nat) (U3 : Nat) (.slice A3 N3 c3))).drew
  have LB9 := Lib.hid ((bel_st3 (bel_st3 (bel_st3 LB8.out (g := b1) (by omega) (.int .i64 (V1 : Nat)) (.int .i64 (U1 : Nat)) (.slice A1 N1 c1)) (g := b2) (by omega) (.int .i64 (V2 : Nat)) (.int .i64 (U2 : Nat)) (.slice A2 N2 c2)) (g := b3) (by omega) (.int .i64 (V3 : Nat)) (.int .i64 (U3 : Nat)) (.slice A3 N3 c3))).drew
  have hs9 : w8.heap.size ≤ (((((((((((w8).setCell ⟨b1, 0, none⟩ (.int .i64 (V1 : Nat))).setCell ⟨b1, 1, none⟩ (.int .i64 (U1 : Nat))).setCell ⟨b1, 2, none⟩ (.slice A1 N1 c1)).setCell ⟨b2, 0, none⟩ (.int .i64 (V2 : Nat))).setCell ⟨b2, 1, none⟩ (.int .i64 (U2 : Nat))).setCell ⟨b2, 2, none⟩ (.slice A2 N2 c2)).setCell ⟨b3, 0, none⟩ (.int .i64 (V3 : Nat))).setCell ⟨b3, 1, none⟩ (.int .i64 (U3 : Nat))).setCell ⟨b3, 2, none⟩ (.slice A3 N3 c3)).drew).heap.size := by rw [drw_size, size_st3, size_st3, size_st3]; exact Nat.le_refl _
  clear Y1 Y2 Y3 HH1 HH2 HH3 LB8
  generalize ((((((((((w8).setCell ⟨b1, 0, none⟩ (.int .i64 (V1 : Nat))).setCell ⟨b1, 1, none⟩ (.int .i64 (U1 : Nat))).setCell ⟨b1, 2, none⟩ (.slice A1 N1 c1)).setCell ⟨b2, 0, none⟩ (.int .i64 (V2 : Nat))).setCell ⟨b2, 1, none⟩ (.int .i64 (U2 : Nat))).setCell ⟨b2, 2, none⟩ (.slice A2 N2 c2)).setCell ⟨b3, 0, none⟩ (.int .i64 (V3 : Nat))).setCell ⟨b3, 1, none⟩ (.int .i64 (U3 : Nat))).setCell ⟨b3, 2, none⟩ (.slice A3 N3 c3)).drew = w9 at *
  obtain ⟨q0, q1, q2, q3, q4, q5, q6⟩ := T1.out.all
  obtain ⟨q7, q8, q9, q10, q11, q12, q13⟩ := T2.out.all
  obtain ⟨q14, q15, q16, q17, q18, q19, q20⟩ := T3.out.all
  go_wp2
  refine bodyPost_ret (v := .tuple #[.agg #[.int .i64 (V1 : Nat), .int .i64 (U1 : Nat), .slice A1 N1 c1], .agg #[.int .i64 (V2 : Nat), .int .i64 (U2 : Nat), .slice A2 N2 c2], .agg #[.int .i64 (V3 : Nat), .int .i64 (U3 : Nat), .slice A3 N3 c3], .int .i64 0]) (by simp [results, Try.results42, go_sem, q0, q1, q2, q3, q4, q5, q6, q7, q8, q9, q10, q11, q12, q13, q14, q15, q16, q17, q18, q19, q20]) rfl ?_
  exact ⟨A1, c1, A2, c2, A3, c3, rfl, P1.out.more hs9, P2.out.more hs9, P3.out.more hs9, LB9.out⟩
end Go.Proofs.Ytgmcbdnfgdmmaaa

/- Apart of the program: what it answers. -/
namespace Go.Proofs.Ytgmcbdnfgdmmaaa
open Go.RowKit
set_option maxRecDepth 100000
set_option linter.unusedVariables false
set_option linter.unusedSimpArgs false

/-- A grid with even sides is the double cloth of what every second end and pick make. -/
def isD (P Q : Nat) (g : Nat → Bool) : Bool := decide (∀ i, i < 2 * P * (2 * Q) → dbl P (e2f P g 0 0) (e2f P g 1 1) (e2f P g 0 1) i = g i)
section
variable {A : Option Addr} {c : Nat} {g : Nat → Bool} {w : World}
theorem apart_even (P Q : Nat) (hP0 : 1 ≤ P) (hP : P ≤ 32) (hQ0 : 1 ≤ Q) (hQ : Q ≤ 32) (hg : Holds w w.heap.size A (2 * P * (2 * Q)) g) :
    (isD P Q g = false → Calls Try.prog 42 #[.agg #[.int .i64 ((2 * P : Nat) : Int), .int .i64 ((2 * Q : Nat) : Int), .slice A (2 * P * (2 * Q)) c]] w (ApN w 6)) ∧
    (isD P Q g = true → Calls Try.prog 42 #[.agg #[.int .i64 ((2 * P : Nat) : Int), .int .i64 ((2 * Q : Nat) : Int), .slice A (2 * P * (2 * Q)) c]] w (ApG w P Q (e2f P g 0 0) (e2f P g 1 1) (e2f P g 0 1))) := by
  have hM : 2 * P * (2 * Q) ≤ 4096 := Nat.mul_le_mul (show 2 * P ≤ 64 by omega) (show 2 * Q ≤ 64 by omega)
  have hC : ∀ u, Calls Try.prog 69 #[.agg #[.int .i64 ((2 * P : Nat) : Int), .int .i64 ((2 * Q : Nat) : Int), .slice A (2 * P * (2 * Q)) c]] u fun e w' => e = .returned (.int .i64 0) ∧ Below u.heap.size u w' := fun u => chk_valid A c u (by omega) (by omega) (by omega) (by omega)
  have hE : ∀ x0 y0, x0 < 2 → y0 < 2 → ∀ u, Below w.heap.size w u → Calls Try.prog 88 #[.agg #[.int .i64 ((2 * P : Nat) : Int), .int .i64 ((2 * Q : Nat) : Int), .slice A (2 * P * (2 * Q)) c], .int .i64 (x0 : Nat), .int .i64 (y0 : Nat)] u (GrR u P Q (P * Q) (e2f P g x0 y0)) :=
    fun x0 y0 hx hy u hb => es_even P Q x0 y0 hx hy hP0 hP hQ0 hQ A c g u ((hg.below hb).more hb.size)
  have hS : ∀ q, isD P Q g = q → ∀ u k d, Below w.heap.size w u → Row u k (2 * P * (2 * Q)) (dbl P (e2f P g 0 0) (e2f P g 1 1) (e2f P g 0 1)) → Calls Try.prog 89 #[.agg #[.int .i64 ((2 * P : Nat) : Int), .int .i64 ((2 * Q : Nat) : Int), .slice (some ⟨k, 0, none⟩) (2 * P * (2 * Q)) d], .agg #[.int .i64 ((2 * P : Nat) : Int), .int .i64 ((2 * Q : Nat) : Int), .slice A (2 * P * (2 * Q)) c]] u fun e w' => e = .returned (.bool q) ∧ Below u.heap.size u w' := fun q hq u k d hb hr => by
    have := same_any ((2 * P : Nat) : Int) ((2 * Q : Nat) : Int) ((2 * P : Nat) : Int) ((2 * Q : Nat) : Int) (some ⟨k, 0, none⟩) A (2 * P * (2 * Q)) (2 * P * (2 * Q)) d c _ g u (by omega) (hr.holds hr.lt) ((hg.below hb).more hb.size)
    refine this.mono fun e w' h => ⟨?_, h.2⟩
    rw [h.1]
    congr 2
    rw [← hq]
    unfold isD
    rw [Bool.eq_iff_iff, decide_eq_true_iff, decide_eq_true_iff]
    exact ⟨fun h => h.2.2.2, fun h => ⟨rfl, rfl, rfl, h⟩⟩
  have hV : ∀ u A1 c1 A2 c2 A3 c3, Below w.heap.size w u → Holds u u.heap.size A1 (P * Q) (e2f P g 0 0) → Holds u u.heap.size A2 (P * Q) (e2f P g 1 1) → Holds u u.heap.size A3 (P * Q) (e2f P g 0 1) → Calls Try.prog 48 #[.agg #[.int .i64 (P : Nat), .int .i64 (Q : Nat), .slice A1 (P * Q) c1], .agg #[.int .i64 (P : Nat), .int .i64 (Q : Nat), .slice A2 (P * Q) c2], .agg #[.int .i64 (P : Nat), .int .i64 (Q : Nat), .slice A3 (P * Q) c3]] u (OkRef u (2 * P) (2 * Q) (dbl P (e2f P g 0 0) (e2f P g 1 1) (e2f P g 0 1))) :=
    fun u A1 c1 A2 c2 A3 c3 _ h1 h2 h3 => weave_ok hP0 hP hQ0 hQ u h1 h2 h3
  constructor
  · intro hq
    exact apc_no w P Q (P * Q) P Q (P * Q) P Q (P * Q) _ _ _ (2 * P) (2 * Q) _ hC (hE 0 0 (by omega) (by omega)) (hE 1 1 (by omega) (by omega)) (hE 0 1 (by omega) (by omega)) hV (hS false hq)
  · intro hq
    exact (apc_yes w P Q (P * Q) P Q (P * Q) P Q (P * Q) _ _ _ (2 * P) (2 * Q) _ hC (hE 0 0 (by omega) (by omega)) (hE 1 1 (by omega) (by omega)) (hE 0 1 (by omega) (by omega)) hV (hS true hq)).mono fun e w' h => h
theorem apart_odd (W H : Nat) (hW0 : 1 ≤ W) (hW : W ≤ 64) (hH0 : 1 ≤ H) (hH : H ≤ 64) (ho : W % 2 ≠ 0 ∨ H % 2 ≠ 0) (hg : Holds w w.heap.size A (W * H) g) :
    Calls Try.prog 42 #[.agg #[.int .i64 (W : Nat), .int .i64 (H : Nat), .slice A (W * H) c]] w (ApN w 6) := by
  have hM : W * H ≤ 4096 := Nat.mul_le_mul hW hH
  have hC : ∀ u, Calls Try.prog 69 #[.agg #[.int .i64 (W : Nat), .int .i64 (H : Nat), .slice A (W * H) c]] u fun e w' => e = .returned (.int .i64 0) ∧ Below u.heap.size u w' := fun u => chk_valid A c u hW0 hW hH0 hH
  have h00 : ∀ u, Below w.heap.size w u → Calls Try.prog 88 #[.agg #[.int .i64 (W : Nat), .int .i64 (H : Nat), .slice A (W * H) c], .int .i64 0, .int .i64 0] u (GrR u ((W + 1) / 2) ((H + 1) / 2) ((W + 1) / 2 * ((H + 1) / 2)) (onF W g (evl ((W + 1) / 2) 0) (evl ((H + 1) / 2) 0))) :=
    fun u hb => es_pos W H ((W + 1) / 2) ((H + 1) / 2) 0 0 (by omega) (by omega) hW0 hW hH0 hH (fun k => by omega) (fun k => by omega) (by omega) (by omega) (by omega) (by omega) A c g u ((hg.below hb).more hb.size)
  have hL : ∀ a b, a ≤ 32 → b ≤ 32 → a * b ≤ 1024 := fun a b ha hb => Nat.mul_le_mul ha hb
  have l1 := hL ((W + 1) / 2) ((H + 1) / 2) (by omega) (by omega)
  have l2 := hL (W / 2) (H / 2) (by omega) (by omega)
  have l3 := hL ((W + 1) / 2) (H / 2) (by omega) (by omega)
  have k1 : chk (((W + 1) / 2 : Nat) : Int) (((H + 1) / 2 : Nat) : Int) ((W + 1) / 2 * ((H + 1) / 2)) = 0 := chk_zero (by omega) (by omega) (by omega) (by omega)
  by_cases h0 : W / 2 = 0 ∨ H / 2 = 0
  · have h11 : ∀ u, Below w.heap.size w u → Calls Try.prog 88 #[.agg #[.int .i64 (W : Nat), .int .i64 (H : Nat), .slice A (W * H) c], .int .i64 1, .int .i64 1] u (GrR u 0 0 0 (fun _ => false)) :=
      fun u hb => es_none W H (W / 2) (H / 2) 1 1 (by omega) (by omega) hW0 hW hH0 hH (fun k => by omega) (fun k => by omega) h0 (by omega) (by omega) A c g u ((hg.below hb).more hb.size)
    have k2 : chk ((0 : Nat) : Int) ((0 : Nat) : Int) 0 = 8 := by decide
    have hz : ∀ x y z a b c d e f g, chk x y z = 0 → fitZ (chk x y z) (chk ((0 : Nat) : Int) ((0 : Nat) : Int) 0) a b c d e f g = 8 := fun x y z a b c d e f g h => by unfold fitZ; rw [h, k2, if_neg (by decide), if_pos (by decide)]
    by_cases hq : H / 2 = 0
    · have h01 : ∀ u, Below w.heap.size w u → Calls Try.prog 88 #[.agg #[.int .i64 (W : Nat), .int .i64 (H : Nat), .slice A (W * H) c], .int .i64 0, .int .i64 1] u (GrR u 0 0 0 (fun _ => false)) :=
        fun u hb => es_none W H ((W + 1) / 2) (H / 2) 0 1 (by omega) (by omega) hW0 hW hH0 hH (fun k => by omega) (fun k => by omega) (.inr hq) (by omega) (by omega) A c g u ((hg.below hb).more hb.size)
      exact apc_none w _ _ _ _ _ _ _ _ _ _ _ _ 8 (by decide) hC h00 h11 h01 (fun u A1 c1 A2 c2 A3 c3 _ _ _ _ => weave_err (by omega) (by omega) (by omega) (hz _ _ _ _ _ _ _ _ _ _ k1) (by decide) u)
    · have h01 : ∀ u, Below w.heap.size w u → Calls Try.prog 88 #[.agg #[.int .i64 (W : Nat), .int .i64 (H : Nat), .slice A (W * H) c], .int .i64 0, .int .i64 1] u (GrR u ((W + 1) / 2) (H / 2) ((W + 1) / 2 * (H / 2)) (onF W g (evl ((W + 1) / 2) 0) (evl (H / 2) 1))) :=
        fun u hb => es_pos W H ((W + 1) / 2) (H / 2) 0 1 (by omega) (by omega) hW0 hW hH0 hH (fun k => by omega) (fun k => by omega) (by omega) (by omega) (by omega) (by omega) A c g u ((hg.below hb).more hb.size)
      exact apc_none w _ _ _ _ _ _ _ _ _ _ _ _ 8 (by decide) hC h00 h11 h01 (fun u A1 c1 A2 c2 A3 c3 _ _ _ _ => weave_err (by omega) (by omega) (by omega) (hz _ _ _ _ _ _ _ _ _ _ k1) (by decide) u)
  · have h11 : ∀ u, Below w.heap.size w u → Calls Try.prog 88 #[.agg #[.int .i64 (W : Nat), .int .i64 (H : Nat), .slice A (W * H) c], .int .i64 1, .int .i64 1] u (GrR u (W / 2) (H / 2) (W / 2 * (H / 2)) (onF W g (evl (W / 2) 1) (evl (H / 2) 1))) :=
      fun u hb => es_pos W H (W / 2) (H / 2) 1 1 (by omega) (by omega) hW0 hW hH0 hH (fun k => by omega) (fun k => by omega) (by omega) (by omega) (by omega) (by omega) A c g u ((hg.below hb).more hb.size)
    have h01 : ∀ u, Below w.heap.size w u → Calls Try.prog 88 #[.agg #[.int .i64 (W : Nat), .int .i64 (H : Nat), .slice A (W * H) c], .int .i64 0, .int .i64 1] u (GrR u ((W + 1) / 2) (H / 2) ((W + 1) / 2 * (H / 2)) (onF W g (evl ((W + 1) / 2) 0) (evl (H / 2) 1))) :=
      fun u hb => es_pos W H ((W + 1) / 2) (H / 2) 0 1 (by omega) (by omega) hW0 hW hH0 hH (fun k => by omega) (fun k => by omega) (by omega) (by omega) (by omega) (by omega) A c g u ((hg.below hb).more hb.size)
    have k2 : chk ((W / 2 : Nat) : Int) ((H / 2 : Nat) : Int) (W / 2 * (H / 2)) = 0 := chk_zero (by omega) (by omega) (by omega) (by omega)
    have k3 : chk (((W + 1) / 2 : Nat) : Int) ((H / 2 : Nat) : Int) ((W + 1) / 2 * (H / 2)) = 0 := chk_zero (by omega) (by omega) (by omega) (by omega)
    exact apc_none w _ _ _ _ _ _ _ _ _ _ _ _ 2 (by decide) hC h00 h11 h01 (fun u A1 c1 A2 c2 A3 c3 _ _ _ _ => weave_err (by omega) (by omega) (by omega) (by
      unfold fitZ
      rw [k1, k2, k3, if_neg (by decide), if_neg (by decide), if_neg (by decide), if_neg (by omega)]) (by decide) u)
end
end Go.Proofs.Ytgmcbdnfgdmmaaa
