/- The examples of the law: alive. -/
import Derived.Test.YtmcdfnhpaneanaaPce
import Derived.Test.YtmcdfnhpaneanaaPcg
import Derived.Test.YtmcdfnhpaneanaaPma
import Derived.Deep.RegionHeld3
namespace Go.Proofs.Ytmcdfnhpaneanaa
open Go.RowKit
set_option maxRecDepth 100000
set_option linter.unusedVariables false
set_option linter.unusedSimpArgs false

/-- Two numbers; four; nine. -/
def li2 (x y : Int) : Nat → Int := fun i => [x, y].getD i 0
def li4 (x y z t : Int) : Nat → Int := fun i => [x, y, z, t].getD i 0
def sq9 : Nat → Int := fun i => [0, 1, 2, 1, 2, 0, 2, 0, 1].getD i 0
def bi4 (x y z t : Bool) : Nat → Bool := fun i => [x, y, z, t].getD i false
theorem image_any (A : Option Addr) (n c : Nat) (w : World) : Calls Try.prog 29 #[.slice A n c] w fun e w' => e = .returned (.agg #[.int .i64 2, .int .i64 2, .slice A n c]) ∧ Below w.heap.size w w' := by
  have B := Lib.hid ((Below.refl w.heap.size w).alloc (Nat.le_refl _) (.cells #[.int .i64 2, .int .i64 2, .slice A n c] 24))
  obtain ⟨q0, q1, q2, q3, q4, q5, q6⟩ := (IBox.new w 2 2 (.slice A n c)).all
  go_enter Try.func29, Try.ntmps29
  go_wp2
  refine bodyPost_ret (v := .agg #[.int .i64 2, .int .i64 2, .slice A n c]) (by simp [results, Try.results29, go_sem, q0, q1, q2, q3, q4, q5]) rfl ?_
  exact ⟨rfl, B.out⟩
theorem grid_any (A : Option Addr) (n c : Nat) (w : World) : Calls Try.prog 32 #[.slice A n c] w fun e w' => e = .returned (.agg #[.int .i64 2, .int .i64 2, .slice A n c]) ∧ Below w.heap.size w w' := by
  have B := Lib.hid ((Below.refl w.heap.size w).alloc (Nat.le_refl _) (.cells #[.int .i64 2, .int .i64 2, .slice A n c] 27))
  obtain ⟨q0, q1, q2, q3, q4, q5, q6⟩ := (Box.new w 2 2 (.slice A n c)).all
  go_enter Try.func32, Try.ntmps32
  go_wp2
  refine bodyPost_ret (v := .agg #[.int .i64 2, .int .i64 2, .slice A n c]) (by simp [results, Try.results32, go_sem, q0, q1, q2, q3, q4, q5]) rfl ?_
  exact ⟨rfl, B.out⟩
theorem square_any (w : World) : Calls Try.prog 31 #[] w fun e w' => ∃ A, e = .returned (.agg #[.int .i64 3, .int .i64 3, .slice A 9 9]) ∧ L2.Holds w' w'.heap.size A 9 sq9 ∧ Below w.heap.size w w' := by
  have L := Lib.hid (show L2.Holds ((w.alloc (.cells #[.int .i64 3, .int .i64 3, .slice (some ⟨w.heap.size + 1, 0, none⟩) 9 9] 24)).alloc (.cells #[.int .i64 0, .int .i64 1, .int .i64 2, .int .i64 1, .int .i64 2, .int .i64 0, .int .i64 2, .int .i64 0, .int .i64 1] 3)) ((w.alloc (.cells #[.int .i64 3, .int .i64 3, .slice (some ⟨w.heap.size + 1, 0, none⟩) 9 9] 24)).alloc (.cells #[.int .i64 0, .int .i64 1, .int .i64 2, .int .i64 1, .int .i64 2, .int .i64 0, .int .i64 2, .int .i64 0, .int .i64 1] 3)).heap.size (some ⟨w.heap.size + 1, 0, none⟩) 9 sq9 from by
    have h := (lv_lit (w.alloc (.cells #[.int .i64 3, .int .i64 3, .slice (some ⟨w.heap.size + 1, 0, none⟩) 9 9] 24)) [0, 1, 2, 1, 2, 0, 2, 0, 1] #[.int .i64 0, .int .i64 1, .int .i64 2, .int .i64 1, .int .i64 2, .int .i64 0, .int .i64 2, .int .i64 0, .int .i64 1] rfl).h
    rw [show (w.alloc (.cells #[.int .i64 3, .int .i64 3, .slice (some ⟨w.heap.size + 1, 0, none⟩) 9 9] 24)).heap.size = w.heap.size + 1 by simp] at h
    exact h)
  have B := Lib.hid (((Below.refl w.heap.size w).alloc (Nat.le_refl _) (.cells #[.int .i64 3, .int .i64 3, .slice (some ⟨w.heap.size + 1, 0, none⟩) 9 9] 24)).alloc (by simp) (.cells #[.int .i64 0, .int .i64 1, .int .i64 2, .int .i64 1, .int .i64 2, .int .i64 0, .int .i64 2, .int .i64 0, .int .i64 1] 3))
  have X := Lib.hid ((IBox.new w 3 3 (.slice (some ⟨w.heap.size + 1, 0, none⟩) 9 9)).alloc (.cells #[.int .i64 0, .int .i64 1, .int .i64 2, .int .i64 1, .int .i64 2, .int .i64 0, .int .i64 2, .int .i64 0, .int .i64 1] 3))
  go_enter Try.func31, Try.ntmps31
  go_wp2
  generalize (w.alloc (.cells #[.int .i64 3, .int .i64 3, .slice (some ⟨w.heap.size + 1, 0, none⟩) 9 9] 24)).alloc (.cells #[.int .i64 0, .int .i64 1, .int .i64 2, .int .i64 1, .int .i64 2, .int .i64 0, .int .i64 2, .int .i64 0, .int .i64 1] 3) = wz at *
  obtain ⟨q0, q1, q2, q3, q4, q5, q6⟩ := X.out.all
  refine bodyPost_ret (v := .agg #[.int .i64 3, .int .i64 3, .slice (some ⟨w.heap.size + 1, 0, none⟩) 9 9]) (by simp [results, Try.results31, go_sem, q0, q1, q2]) rfl ?_
  exact ⟨_, rfl, L.out, B.out⟩
theorem sq_none : NoFit 3 3 sq9 := fun p hp _ => by
  have c00 := hp 0 0 (by decide) (by decide)
  have c10 := hp 1 0 (by decide) (by decide)
  have c20 := hp 2 0 (by decide) (by decide)
  have c01 := hp 0 1 (by decide) (by decide)
  have c11 := hp 1 1 (by decide) (by decide)
  have c21 := hp 2 1 (by decide) (by decide)
  have c02 := hp 0 2 (by decide) (by decide)
  have c12 := hp 1 2 (by decide) (by decide)
  have c22 := hp 2 2 (by decide) (by decide)
  simp only [sq9, List.getD] at c00 c10 c20 c01 c11 c21 c02 c12 c22
  simp at c00 c10 c20 c01 c11 c21 c02 c12 c22
  omega
theorem im_fits : Fits 2 2 (li4 0 1 1 1) (li4 0 0 1 1) := by
  intro x y hx hy
  have h : (x = 0 ∨ x = 1) ∧ (y = 0 ∨ y = 1) := by omega
  rcases h with ⟨rfl | rfl, rfl | rfl⟩ <;> decide
theorem im_cols : Cols 4 (li4 0 0 1 1) := by
  intro u hu
  have h : u = 0 ∨ u = 1 ∨ u = 2 ∨ u = 3 := by omega
  rcases h with rfl | rfl | rfl | rfl <;> decide
theorem im_first {p : Nat → Int} (h : Fst 2 2 (li4 0 1 1 1) p) : p 0 = 0 ∧ p 1 = 0 ∧ p 2 = 1 ∧ p 3 = 1 := by
  have c10 := h.fits 1 0 (by decide) (by decide)
  have c01 := h.fits 0 1 (by decide) (by decide)
  simp [li4] at c10 c01
  have k0 := h.cols 0 (by decide)
  have k1 := h.cols 1 (by decide)
  have k2 := h.cols 2 (by decide)
  have k3 := h.cols 3 (by decide)
  rcases h.lex _ im_fits im_cols with e | ⟨s, hs, hj, hl⟩
  · have e0 := e 0 (by decide)
    have e1 := e 1 (by decide)
    have e2 := e 2 (by decide)
    have e3 := e 3 (by decide)
    simp [li4] at e0 e1 e2 e3
    omega
  · exfalso
    have h4 : s = 0 ∨ s = 1 ∨ s = 2 ∨ s = 3 := by omega
    rcases h4 with rfl | rfl | rfl | rfl
    · simp [li4] at hl; omega
    · simp [li4] at hl; omega
    · have e0 := hj 0 (by decide)
      have e1 := hj 1 (by decide)
      simp [li4] at hl e0 e1; omega
    · have e0 := hj 0 (by decide)
      simp [li4] at hl e0; omega
theorem im_some : ¬ NoFit 2 2 (li4 0 1 1 1) := fun h => h _ im_fits im_cols
theorem im_fine : fine (2 * 2) (li4 0 1 1 1) = true := by decide
theorem im_all : AllF 2 (2 * 2) (li4 0 1 1 1) (li2 0 1) (li2 1 1) := by unfold AllF; decide
theorem sq_fine : fine (3 * 3) sq9 = true := by decide
theorem up_is : ∀ i, i < 4 → upF 2 (li4 0 1 1 1) (li2 0 1) (li2 1 1) i = bi4 true false false false i := by decide
theorem op_is : ∀ i, i < 4 → opF 2 (li4 0 1 1 1) (li2 0 1) (li2 1 1) i = bi4 false true false true i := by decide
theorem li2_at (w : World) (x y : Int) : L2.Holds (w.alloc (.cells #[.int .i64 x, .int .i64 y] 3)) (w.heap.size + 1) (some ⟨w.heap.size, 0, none⟩) 2 (li2 x y) := by
  have h := (lv_lit w [x, y] #[.int .i64 x, .int .i64 y] rfl).h
  rw [World.size_alloc] at h
  exact h
theorem li4_at (w : World) (x y z t : Int) : L2.Holds (w.alloc (.cells #[.int .i64 x, .int .i64 y, .int .i64 z, .int .i64 t] 3)) (w.heap.size + 1) (some ⟨w.heap.size, 0, none⟩) 4 (li4 x y z t) := by
  have h := (lv_lit w [x, y, z, t] #[.int .i64 x, .int .i64 y, .int .i64 z, .int .i64 t] rfl).h
  rw [World.size_alloc] at h
  exact h
theorem bi4_at (w : World) (x y z t : Bool) : Holds (w.alloc (.cells #[.bool x, .bool y, .bool z, .bool t] 4)) (w.heap.size + 1) (some ⟨w.heap.size, 0, none⟩) 4 (bi4 x y z t) := fun _ =>
  ⟨w.heap.size, 0, rfl, by omega, fun i hi => by
    rw [Lib.cell_of_heap (World.alloc_heap_new w (.cells #[.bool x, .bool y, .bool z, .bool t] 4)), Nat.zero_add]
    match i, hi with
    | 0, _ => rfl
    | 1, _ => rfl
    | 2, _ => rfl
    | 3, _ => rfl⟩
theorem bel_ad {w w' : World} {o : Obj} (hb : Below (w.alloc o).heap.size (w.alloc o) w') : Below w.heap.size w w' := (bel_alloc w o).trans (hb.mono (bel_alloc w o).size)
/-- A grid of two by two, whatever its cells. -/
def G2R (w : World) (F : Nat → Bool) (e : Ending) (w' : World) : Prop := ∃ A, e = .returned (.agg #[.int .i64 2, .int .i64 2, .slice A 4 4]) ∧ Holds w' w'.heap.size A 4 F ∧ Below w.heap.size w w'
set_option maxHeartbeats 3200000 in
theorem alive15_any (w : World) : Calls Try.prog 33 #[] w fun e w' => e = .returned (.bool true) ∧ Below w.heap.size w w' := by
  have LB0 := Lib.hid (Below.refl w.heap.size w)
  obtain ⟨w0, hw0⟩ : ∃ z : World, z = w := ⟨_, rfl⟩
  subst hw0
  have HI := Lib.hid (fun (u : World) => image_any (some ⟨u.heap.size, 0, none⟩) 4 4 (u.alloc (.cells #[.int .i64 0, .int .i64 1, .int .i64 1, .int .i64 1] 3)))
  have hbz := bel_alloc w0 (.cells #[.int .i64 0, .int .i64 1, .int .i64 1, .int .i64 1] 3)
  have H1 := Lib.hid ((li4_at w0 0 1 1 1).more (show w0.heap.size + 1 ≤ (w0.alloc (.cells #[.int .i64 0, .int .i64 1, .int .i64 1, .int .i64 1] 3)).heap.size by simp))
  go_enter Try.func33, Try.ntmps33
  go_wp2_with fail
  with_reducible refine Calls.mono (HI.out w0) ?_
  rintro e w1 ⟨rfl, hb⟩
  have LB1 := Lib.hid (bel_ad hb)
  have H1 := Lib.hid ((H1.out.below hb).more hb.size)
  clear hb hbz LB0
  have K1 := Lib.hid (((li2_at w1 0 1).more (B' := (w1.alloc (.cells #[.int .i64 0, .int .i64 1] 3)).heap.size) (by simp)).below (Below.refl _ _))
  have hb1 := bel_alloc w1 (.cells #[.int .i64 0, .int .i64 1] 3)
  have hb2 := bel_alloc (w1.alloc (.cells #[.int .i64 0, .int .i64 1] 3)) (.cells #[.int .i64 1, .int .i64 1] 3)
  have K2 := Lib.hid ((K1.out.below hb2).more hb2.size)
  have K3 := Lib.hid ((li2_at (w1.alloc (.cells #[.int .i64 0, .int .i64 1] 3)) 1 1).more (B' := ((w1.alloc (.cells #[.int .i64 0, .int .i64 1] 3)).alloc (.cells #[.int .i64 1, .int .i64 1] 3)).heap.size) (by simp))
  have H2 := Lib.hid ((((H1.out.below hb1).more hb1.size).below hb2).more hb2.size)
  have LB2 := Lib.hid (LB1.out.trans ((hb1.trans (hb2.mono hb1.size)).mono LB1.out.size))
  have HCE := Lib.hid (cells_ok 2 2 (some ⟨w0.heap.size, 0, none⟩) (some ⟨w1.heap.size, 0, none⟩) (some ⟨(w1.alloc (.cells #[.int .i64 0, .int .i64 1] 3)).heap.size, 0, none⟩) 4 2 2 (li4 0 1 1 1) (li2 0 1) (li2 1 1) _ H2.out K2.out K3.out (by decide) (by decide) (by decide) (by decide) im_fine (by decide) (by decide))
  rw [show (w1.alloc (.cells #[.int .i64 0, .int .i64 1] 3)).heap.size = w1.heap.size + 1 by simp] at HCE
  clear hb1 hb2 K1 K2 K3 H1 H2
  go_wp2_with fail
  with_reducible refine Calls.mono HCE.out ?_
  clear HCE
  rintro e w2 (⟨A1, c1, A2, c2, rfl, _, hh1, hh2, hb⟩ | ⟨_, hno, _⟩)
  case inr => exact absurd im_all hno
  have LB3 := Lib.hid (LB2.out.trans (hb.mono LB2.out.size))
  have G1 := Lib.hid (hh1.congr up_is)
  have G2 := Lib.hid (hh2.congr op_is)
  clear hb hh1 hh2 LB2 LB1
  
  
  have LB2 := LB3
  clear LB3
  have hb := (((Below.refl w2.heap.size w2).alloc (by simp; try omega) (.cells #[.int .i64 2, .int .i64 2, .slice A1 4 c1] 27)).alloc (by simp; try omega) (.cells #[.int .i64 2, .int .i64 2, .slice A2 4 c2] 27))
  have LB3 := Lib.hid (LB2.out.trans (hb.mono LB2.out.size))
  have G1 := Lib.hid ((G1.out.below hb).more hb.size)
  have G2 := Lib.hid ((G2.out.below hb).more hb.size)
  have X1 := Box.new w2 2 2 (.slice A1 4 c1)
  have X1 := Lib.hid X1
  have X1 := Lib.hid (X1.out.alloc (.cells #[.int .i64 2, .int .i64 2, .slice A2 4 c2] 27))
  have X2 := Box.new (w2.alloc (.cells #[.int .i64 2, .int .i64 2, .slice A1 4 c1] 27)) 2 2 (.slice A2 4 c2)
  rw [show (w2.alloc (.cells #[.int .i64 2, .int .i64 2, .slice A1 4 c1] 27)).heap.size = w2.heap.size + 1 by simp] at X2
  have X2 := Lib.hid X2
  clear hb LB2
  go_upto_region 2 with (fail)
  obtain ⟨b2, hb2⟩ : ∃ z, w2.heap.size + 1 = z := ⟨_, rfl⟩
  rw [hb2] at X2
  try rw [hb2]
  obtain ⟨b1, hb1⟩ : ∃ z, w2.heap.size = z := ⟨_, rfl⟩
  rw [hb1] at X1
  try rw [hb1]
  clear hb1 hb2
  generalize (w2.alloc (.cells #[.int .i64 2, .int .i64 2, .slice A1 4 c1] 27)).alloc (.cells #[.int .i64 2, .int .i64 2, .slice A2 4 c2] 27) = w3 at *
  have HI := Lib.hid (fun (u : World) => image_any (some ⟨u.heap.size, 0, none⟩) 4 4 (u.alloc (.cells #[.int .i64 0, .int .i64 1, .int .i64 1, .int .i64 1] 3)))
  have H1 := Lib.hid ((li4_at w3 0 1 1 1).more (show w3.heap.size + 1 ≤ (w3.alloc (.cells #[.int .i64 0, .int .i64 1, .int .i64 1, .int .i64 1] 3)).heap.size by simp))
  go_wp2_with fail
  with_reducible refine Calls.mono (HI.out w3) ?_
  rintro e w4 ⟨rfl, hb0⟩
  have H1 := Lib.hid ((H1.out.below hb0).more hb0.size)
  have hb := bel_ad hb0
  clear hb0
  have LB4 := Lib.hid (LB3.out.trans (hb.mono LB3.out.size))
  have G1 := Lib.hid ((G1.out.below hb).more hb.size)
  have G2 := Lib.hid ((G2.out.below hb).more hb.size)
  have X1 := Lib.hid (X1.out.below hb X1.out.lt)
  have X2 := Lib.hid (X2.out.below hb X2.out.lt)
  clear hb LB3
  have HFI := Lib.hid (first_ok 2 2 (some ⟨w3.heap.size, 0, none⟩) 4 (li4 0 1 1 1) w4 (by decide) (by decide) (by decide) (by decide) H1.out im_fine)
  go_wp2_with fail
  with_reducible refine Calls.mono HFI.out ?_
  clear HFI H1
  rintro e w5 (⟨p, P1, d1, P2, d2, rfl, hfst, hp1, hp2, hb⟩ | ⟨_, hno, _⟩)
  case inr => exact absurd hno im_some
  have HP1 := Lib.hid hp1
  have HP2 := Lib.hid hp2
  have HFS := Lib.hid (im_first hfst)
  clear hp1 hp2 hfst
  have LB5 := Lib.hid (LB4.out.trans (hb.mono LB4.out.size))
  have G1 := Lib.hid ((G1.out.below hb).more hb.size)
  have G2 := Lib.hid ((G2.out.below hb).more hb.size)
  have X1 := Lib.hid (X1.out.below hb X1.out.lt)
  have X2 := Lib.hid (X2.out.below hb X2.out.lt)
  clear hb LB4
  go_wp2_with fail
  with_reducible refine Calls.mono (square_any _) ?_
  rintro e w6 ⟨A5, rfl, hh, hb⟩
  have LB6 := Lib.hid (LB5.out.trans (hb.mono LB5.out.size))
  have G1 := Lib.hid ((G1.out.below hb).more hb.size)
  have G2 := Lib.hid ((G2.out.below hb).more hb.size)
  have X1 := Lib.hid (X1.out.below hb X1.out.lt)
  have X2 := Lib.hid (X2.out.below hb X2.out.lt)
  have HP1 := Lib.hid ((HP1.out.below hb).more hb.size)
  have HP2 := Lib.hid ((HP2.out.below hb).more hb.size)
  have H5 := Lib.hid hh
  clear hb LB5 hh
  have HFI := Lib.hid (first_ok 3 3 A5 9 sq9 w6 (by decide) (by decide) (by decide) (by decide) H5.out sq_fine)
  go_wp2_with fail
  with_reducible refine Calls.mono HFI.out ?_
  clear HFI
  rintro e w7 (⟨p', _, _, _, _, _, hfst, _⟩ | ⟨rfl, _, hb⟩)
  case inl => exact absurd sq_none hfst.some_
  have LB7 := Lib.hid (LB6.out.trans (hb.mono LB6.out.size))
  have G1 := Lib.hid ((G1.out.below hb).more hb.size)
  have G2 := Lib.hid ((G2.out.below hb).more hb.size)
  have X1 := Lib.hid (X1.out.below hb X1.out.lt)
  have X2 := Lib.hid (X2.out.below hb X2.out.lt)
  have HP1 := Lib.hid ((HP1.out.below hb).more hb.size)
  have HP2 := Lib.hid ((HP2.out.below hb).more hb.size)
  have H5 := Lib.hid ((H5.out.below hb).more hb.size)
  clear hb LB6 H5
  have N := Lib.hid LB7
  obtain ⟨p0, p1, p2, p3⟩ := HFS.out
  have HS1 := Lib.hid (fun u D (hb : Below w7.heap.size w7 u) (hl : Holds u u.heap.size D 4 (bi4 true false false false)) => (rsame_loop 2 2 2 2 A1 D 4 c1 4 (bi4 true false false false) (bi4 true false false false) u (by decide) rfl rfl ((G1.out.below hb).more hb.size) hl).mono fun e w' h => (show e = .returned (.bool true) ∧ Below u.heap.size u w' from ⟨by rw [h.1, decide_eq_true (fun i _ => rfl)], h.2⟩))
  have HS2 := Lib.hid (fun u D (hb : Below w7.heap.size w7 u) (hl : Holds u u.heap.size D 4 (bi4 false true false true)) => (rsame_loop 2 2 2 2 A2 D 4 c2 4 (bi4 false true false true) (bi4 false true false true) u (by decide) rfl rfl ((G2.out.below hb).more hb.size) hl).mono fun e w' h => (show e = .returned (.bool true) ∧ Below u.heap.size u w' from ⟨by rw [h.1, decide_eq_true (fun i _ => rfl)], h.2⟩))
  have HT1 := Lib.hid (fun u D (hb : Below w7.heap.size w7 u) (hl : L2.Holds u u.heap.size D 2 (li2 0 0)) => (L2.rsame_any P1 D 2 d1 2 p (li2 0 0) u (by decide) ((HP1.out.below hb).more hb.size) hl).mono fun e w' h => (show e = .returned (.bool true) ∧ Below u.heap.size u w' from ⟨by rw [h.1, decide_eq_true (fun i hi => by match i, hi with | 0, _ => exact p0 | 1, _ => exact p1)], h.2⟩))
  have HT2 := Lib.hid (fun u D (hb : Below w7.heap.size w7 u) (hl : L2.Holds u u.heap.size D 2 (li2 1 1)) => (L2.rsame_any P2 D 2 d2 2 (fun i => p (2 + i)) (li2 1 1) u (by decide) ((HP2.out.below hb).more hb.size) hl).mono fun e w' h => (show e = .returned (.bool true) ∧ Below u.heap.size u w' from ⟨by rw [h.1, decide_eq_true (fun i hi => by match i, hi with | 0, _ => exact p2 | 1, _ => exact p3)], h.2⟩))
  clear p0 p1 p2 p3 HP1 HP2 HFS N
  have HX := Lib.hid (fun u (h : Below w7.heap.size w7 u) => (show u.cell? ⟨b1, 0, none⟩ = some (.int .i64 2) ∧ u.cell? ⟨b1, 1, none⟩ = some (.int .i64 2) ∧ u.cell? ⟨b1, 2, none⟩ = some (.slice A1 4 c1) ∧ u.cell? ⟨b2, 0, none⟩ = some (.int .i64 2) ∧ u.cell? ⟨b2, 1, none⟩ = some (.int .i64 2) ∧ u.cell? ⟨b2, 2, none⟩ = some (.slice A2 4 c2) from ⟨(X1.out.below h X1.out.lt).c0, (X1.out.below h X1.out.lt).c1, (X1.out.below h X1.out.lt).c2, (X2.out.below h X2.out.lt).c0, (X2.out.below h X2.out.lt).c1, (X2.out.below h X2.out.lt).c2⟩))
  obtain ⟨q0, q1, q2, q3, q4, q5, q6⟩ := X1.out.all
  obtain ⟨r0, r1, r2, r3, r4, r5, r6⟩ := X2.out.all
  go_upto_region 4 with (fail)
  have HB0 := Lib.hid (Below.refl w7.heap.size w7).drew
  go_region_held3 (fun u => u.cell? ⟨b1, 0, none⟩ = some (.int .i64 2) ∧ u.cell? ⟨b1, 1, none⟩ = some (.int .i64 2) ∧ u.cell? ⟨b1, 2, none⟩ = some (.slice A1 4 c1) ∧ u.cell? ⟨b2, 0, none⟩ = some (.int .i64 2) ∧ u.cell? ⟨b2, 1, none⟩ = some (.int .i64 2) ∧ u.cell? ⟨b2, 2, none⟩ = some (.slice A2 4 c2))
    (first
      | with_reducible exact HX.out _ HB0.out
      | with_reducible exact HX.out _ (bel_alloc w7 _).drew
      | with_reducible exact HX.out _ HBa.out
      | with_reducible exact HX.out _ (HBa.out.alloc HBa.out.size _)
      | with_reducible exact HX.out _ HBb.out
      | with_reducible exact HX.out _ (HBb.out.alloc HBb.out.size _)
      | with_reducible exact HX.out _ HBc.out
      | with_reducible exact HX.out _ (HBc.out.alloc HBc.out.size _)
      | with_reducible exact HX.out _ HBd.out
      | with_reducible exact HX.out _ (HBd.out.alloc HBd.out.size _)
      | with_reducible exact HX.out _ HBe.out
      | with_reducible exact HX.out _ (HBe.out.alloc HBe.out.size _)
      | with_reducible exact HX.out _ HBf.out)
    ((first
      | (go_at_call 32
         with_reducible refine Calls.mono (grid_any _ _ _ _) ?_
         rintro e wa ⟨rfl, hba⟩
         have HBa := Lib.hid ((HB0.out.alloc HB0.out.size (.cells #[.bool true, .bool false, .bool false, .bool false] 4)).trans (hba.mono (HB0.out.alloc HB0.out.size (.cells #[.bool true, .bool false, .bool false, .bool false] 4)).size))
         have HLa : Hid (Holds wa wa.heap.size (some ⟨w7.heap.size, 0, none⟩) 4 (bi4 true false false false)) := Lib.hid ((((bi4_at w7.drew true false false false).more (B' := (w7.drew.alloc (.cells #[.bool true, .bool false, .bool false, .bool false] 4)).heap.size) (by simp)).below hba).more hba.size))
      | (go_at_call 20
         with_reducible refine Calls.mono (HS1.out _ _ HBa.out HLa.out) ?_
         rintro e wb ⟨rfl, hbb⟩
         have HBb := Lib.hid (HBa.out.trans (hbb.mono HBa.out.size)))
      | (go_at_call 32
         with_reducible refine Calls.mono (grid_any _ _ _ _) ?_
         rintro e wc ⟨rfl, hbc⟩
         have HBc := Lib.hid ((HBb.out.alloc HBb.out.size (.cells #[.bool false, .bool true, .bool false, .bool true] 4)).trans (hbc.mono (HBb.out.alloc HBb.out.size (.cells #[.bool false, .bool true, .bool false, .bool true] 4)).size))
         have HLc : Hid (Holds wc wc.heap.size (some ⟨wb.heap.size, 0, none⟩) 4 (bi4 false true false true)) := Lib.hid ((((bi4_at wb false true false true).more (B' := (wb.alloc (.cells #[.bool false, .bool true, .bool false, .bool true] 4)).heap.size) (by simp)).below hbc).more hbc.size))
      | (go_at_call 20
         with_reducible refine Calls.mono (HS2.out _ _ HBc.out HLc.out) ?_
         rintro e wd ⟨rfl, hbd⟩
         have HBd := Lib.hid (HBc.out.trans (hbd.mono HBc.out.size)))
      | (go_at_call 27
         with_reducible refine Calls.mono (HT1.out _ _ (HBd.out.alloc HBd.out.size (.cells #[.int .i64 0, .int .i64 0] 3)) ((li2_at wd 0 0).more (by simp))) ?_
         rintro e we ⟨rfl, hbe⟩
         have HBe := Lib.hid ((HBd.out.alloc HBd.out.size (.cells #[.int .i64 0, .int .i64 0] 3)).trans (hbe.mono (HBd.out.alloc HBd.out.size (.cells #[.int .i64 0, .int .i64 0] 3)).size)))
      | (go_at_call 27
         with_reducible refine Calls.mono (HT2.out _ _ (HBe.out.alloc HBe.out.size (.cells #[.int .i64 1, .int .i64 1] 3)) ((li2_at we 1 1).more (by simp))) ?_
         rintro e wf ⟨rfl, hbf⟩
         have HBf := Lib.hid ((HBe.out.alloc HBe.out.size (.cells #[.int .i64 1, .int .i64 1] 3)).trans (hbf.mono (HBe.out.alloc HBe.out.size (.cells #[.int .i64 1, .int .i64 1] 3)).size)))))
  go_wp2
  go_ret
  exact ⟨rfl, LB7.out.trans (HBf.out.mono LB7.out.size)⟩
end Go.Proofs.Ytmcdfnhpaneanaa
