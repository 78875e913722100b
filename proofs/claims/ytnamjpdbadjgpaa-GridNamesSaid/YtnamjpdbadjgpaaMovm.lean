/- The walk of the statement GridMoves. -/
import Derived.Test.YtnamjpdbadjgpaaPairm
import Derived.Test.YtnamjpdbadjgpaaLogw
namespace Go.Proofs.Ytnamjpdbadjgpaa
open Go.RowKit
set_option linter.unusedVariables false
set_option linter.unusedSimpArgs false

/-- The parameter in its box, in a later world. -/
structure LA (w v : World) (W H : Int) (A : Option Addr) (n c : Nat) : Prop where
  a : Box v w.heap.size W H (.slice A n c)
  bel : Below w.heap.size w v
section
variable {w v v' : World} {W H : Int} {A : Option Addr} {n c : Nat}
theorem LA.next (h : LA w v W H A n c) (hb : Below v.heap.size v v') : LA w v' W H A n c := ⟨h.a.below hb h.a.lt, h.bel.trans (hb.mono h.bel.size)⟩
theorem LA.alloc (h : LA w v W H A n c) (o : Obj) : LA w (v.alloc o) W H A n c := h.next ((Below.refl _ _).alloc (Nat.le_refl _) o)
theorem LA.far (h : LA w v W H A n c) {p : Addr} (hp : w.heap.size < p.block) (u : Value) : LA w (v.setCell p u) W H A n c := ⟨h.a.far (by omega) u, h.bel.setCell (by omega) u⟩
theorem LA.drew (h : LA w v W H A n c) : LA w v.drew W H A n c := ⟨h.a.drew, h.bel.drew⟩
end
theorem LA.start (w : World) (W H : Int) (A : Option Addr) (n c : Nat) : LA w (w.alloc (.cells #[.int .i64 W, .int .i64 H, .slice A n c] 24)) W H A n c :=
  ⟨Box.new w W H _, (Below.refl _ _).alloc (Nat.le_refl _) _⟩

/-- What the loop of the statement keeps. -/
structure MR (w v : World) (W H : Int) (A : Option Addr) (n c : Nat) (f : Nat → Bool) (lw bw : Nat) (Aw : Option Addr) (cw : Nat) (l1 b1 : Nat) (W1 H1 : Int) (A1 : Option Addr) (n1 c1 : Nat) : Prop where
  base : LA w v W H A n c
  was : Var v lw bw W H Aw n cw f
  v1 : ∃ F, Var v l1 b1 W1 H1 A1 n1 c1 F
  s0 : w.heap.size < lw
  s1 : lw ≤ bw
  s2 : bw < l1
  s3 : l1 ≤ b1
theorem MR.set_ {w v : World} {W H : Int} {A : Option Addr} {n c : Nat} {f : Nat → Bool} {lw bw : Nat} {Aw : Option Addr} {cw : Nat} {l1 b1 : Nat} {W1 H1 : Int} {A1 : Option Addr} {n1 c1 : Nat} (R : MR w v W H A n c f lw bw Aw cw l1 b1 W1 H1 A1 n1 c1)
    {k : Nat} (hk : A1 = some ⟨k, 0, none⟩) (hn : 0 < n1) (h1 : l1 ≤ k) (h2 : k < b1) (i : Nat) (u : Bool) : MR w (v.setCell ⟨k, i, none⟩ (.bool u)).drew W H A n c f lw bw Aw cw l1 b1 W1 H1 A1 n1 c1 := by
  obtain ⟨F1, V1⟩ := R.v1
  have s0 := R.s0
  have s1 := R.s1
  have s2 := R.s2
  have s3 := R.s3
  exact ⟨(R.base.far (by simp; omega) _).drew, (R.was.far (by simp; omega) (by omega) _).drew, ⟨_, (V1.set_ hk hn i u).drew⟩, s0, s1, s2, s3⟩

set_option maxRecDepth 100000 in
set_option maxHeartbeats 400000 in
theorem moves_great (W H : Int) (A : Option Addr) (n c : Nat) (f : Nat → Bool) (x y px py : Int) (w : World) (hn : 4200 < n) :
    Calls Try.prog 5 #[.agg #[.int .i64 W, .int .i64 H, .slice A n c], .int .i64 x, .int .i64 y, .int .i64 px, .int .i64 py] w fun e w' => e = .returned (.bool true) ∧ Below w.heap.size w w' := by
  have L0 := Lib.hid (LA.start w W H A n c)
  go_enter Try.func5, Try.ntmps5
  go_wp2_with fail
  refine (great_yes _ _ _ _ _ _ hn).mono ?_
  rintro e w1 ⟨rfl, hb⟩
  go_wp2
  go_ret
  exact ⟨rfl, (L0.out.next hb).bel⟩

set_option maxRecDepth 100000 in
set_option maxHeartbeats 4000000 in
theorem moves_main (W H : Int) (A : Option Addr) (n c : Nat) (f : Nat → Bool) (x y px py : Int) (w : World) (hn : n ≤ 4200) (hr : Holds w w.heap.size A n f)
    (x0 : -9223372036854775808 ≤ x) (x1 : x ≤ 9223372036854775807) (y0 : -9223372036854775808 ≤ y) (y1 : y ≤ 9223372036854775807) :
    Calls Try.prog 5 #[.agg #[.int .i64 W, .int .i64 H, .slice A n c], .int .i64 x, .int .i64 y, .int .i64 px, .int .i64 py] w fun e w' => e = .returned (.bool true) ∧ Below w.heap.size w w' := by
  obtain ⟨W1, H1, n1, F1, e1, l1, hN1, hM1⟩ := turn_pair W H A n c f w hn hr
  obtain ⟨W2, H2, n2, F2, e2, l2, hN2, hM2⟩ := mirror_pair W H A n c f x w hn hr
  obtain ⟨W3, H3, n3, F3, e3, l3, hN3, hM3⟩ := shift_pair W H A n c f x y w hn hr x0 x1 y0 y1
  obtain ⟨W4, H4, n4, F4, e4, l4, hN4, hM4⟩ := tile_pair W H A n c f px py w hn hr
  obtain ⟨W5, H5, n5, F5, e5, l5, hN5, hM5⟩ := part_pair W H A n c f x y px py w hn hr x1 y1
  have N1 := Lib.hid hN1
  have M1 := Lib.hid hM1
  clear hN1 hM1
  have z1 : (e1 != e1) = false := by simp
  have N2 := Lib.hid hN2
  have M2 := Lib.hid hM2
  clear hN2 hM2
  have z2 : (e2 != e2) = false := by simp
  have N3 := Lib.hid hN3
  have M3 := Lib.hid hM3
  clear hN3 hM3
  have z3 : (e3 != e3) = false := by simp
  have N4 := Lib.hid hN4
  have M4 := Lib.hid hM4
  clear hN4 hM4
  have z4 : (e4 != e4) = false := by simp
  have N5 := Lib.hid hN5
  have M5 := Lib.hid hM5
  clear hN5 hM5
  have z5 : (e5 != e5) = false := by simp
  have HR := Lib.hid hr
  clear hr x0 x1 y0 y1
  have L0 := LA.start w W H A n c
  go_enter Try.func5, Try.ntmps5
  go_wp2_with fail
  generalize w.alloc (.cells #[.int .i64 W, .int .i64 H, .slice A n c] 24) = v0 at *
  refine (great_no _ _ _ _ _ _ hn).mono ?_
  rintro e u2 ⟨rfl, hb⟩
  have L2 := L0.next hb
  clear hb L0
  obtain ⟨q0, q1, q2, q3, q4, q5, q6⟩ := L2.a.all
  go_wp2_with fail
  clear q0 q1 q2 q3 q4 q5 q6
  refine (twin_any W H A n c f _ hn ((HR.out.below L2.bel).more L2.bel.size)).mono ?_
  rintro e u3 ⟨Aw, cw, rfl, hrow, hb⟩
  have L3 := (L2.next hb).alloc (.cells #[.int .i64 W, .int .i64 H, .slice Aw n cw] 24)
  have VW := Var.new (W := W) (H := H) (c := cw) hrow
  have k0 : w.heap.size < u2.heap.size := L2.a.lt
  have kb : u2.heap.size ≤ u3.heap.size := hb.size
  obtain ⟨q0, q1, q2, q3, q4, q5, q6⟩ := (L2.next hb).a.all
  clear hb hrow L2
  go_wp2_with fail
  clear q0 q1 q2 q3 q4 q5 q6
  have j3 : u3.heap.size < (u3.alloc (.cells #[.int .i64 W, .int .i64 H, .slice Aw n cw] 24)).heap.size := VW.box.lt
  generalize u3.alloc (.cells #[.int .i64 W, .int .i64 H, .slice Aw n cw] 24) = v3 at *
  refine (N1.out _ L3.bel).mono ?_
  rintro e u4 ⟨A4, c4, rfl, hrow, hb⟩
  have L4 := (L3.next hb).alloc (.cells #[.int .i64 W1, .int .i64 H1, .slice A4 n1 c4] 24)
  have V4 := Var.new (W := W1) (H := H1) (c := c4) hrow
  have VW' := (VW.next hb).alloc (.cells #[.int .i64 W1, .int .i64 H1, .slice A4 n1 c4] 24)
  clear VW
  have VW := VW'
  clear VW'
  have k4 : v3.heap.size ≤ u4.heap.size := hb.size
  obtain ⟨q0, q1, q2, q3, q4, q5, q6⟩ := (L3.next hb).a.all
  clear hb hrow L3
  go_wp2_with fail
  clear q0 q1 q2 q3 q4 q5 q6
  have j4 : u4.heap.size < (u4.alloc (.cells #[.int .i64 W1, .int .i64 H1, .slice A4 n1 c4] 24)).heap.size := V4.box.lt
  generalize u4.alloc (.cells #[.int .i64 W1, .int .i64 H1, .slice A4 n1 c4] 24) = v4 at *
  refine (M1.out _ L4.bel).mono ?_
  rintro e u5 ⟨A5, c5, rfl, hrow, hb⟩
  have L5 := (L4.next hb).alloc (.cells #[.int .i64 W1, .int .i64 H1, .slice A5 n1 c5] 24)
  have V5 := Var.new (W := W1) (H := H1) (c := c5) hrow
  have VW' := (VW.next hb).alloc (.cells #[.int .i64 W1, .int .i64 H1, .slice A5 n1 c5] 24)
  clear VW
  have VW := VW'
  clear VW'
  have V4' := (V4.next hb).alloc (.cells #[.int .i64 W1, .int .i64 H1, .slice A5 n1 c5] 24)
  clear V4
  have V4 := V4'
  clear V4'
  have k5 : v4.heap.size ≤ u5.heap.size := hb.size
  obtain ⟨q0, q1, q2, q3, q4, q5, q6⟩ := (L4.next hb).a.all
  clear hb hrow L4
  go_wp2_with fail
  clear q0 q1 q2 q3 q4 q5 q6
  have j5 : u5.heap.size < (u5.alloc (.cells #[.int .i64 W1, .int .i64 H1, .slice A5 n1 c5] 24)).heap.size := V5.box.lt
  generalize u5.alloc (.cells #[.int .i64 W1, .int .i64 H1, .slice A5 n1 c5] 24) = v5 at *
  refine (N2.out _ L5.bel).mono ?_
  rintro e u6 ⟨A6, c6, rfl, hrow, hb⟩
  have L6 := (L5.next hb).alloc (.cells #[.int .i64 W2, .int .i64 H2, .slice A6 n2 c6] 24)
  have V6 := Var.new (W := W2) (H := H2) (c := c6) hrow
  have VW' := (VW.next hb).alloc (.cells #[.int .i64 W2, .int .i64 H2, .slice A6 n2 c6] 24)
  clear VW
  have VW := VW'
  clear VW'
  have V4' := (V4.next hb).alloc (.cells #[.int .i64 W2, .int .i64 H2, .slice A6 n2 c6] 24)
  clear V4
  have V4 := V4'
  clear V4'
  have V5' := (V5.next hb).alloc (.cells #[.int .i64 W2, .int .i64 H2, .slice A6 n2 c6] 24)
  clear V5
  have V5 := V5'
  clear V5'
  have k6 : v5.heap.size ≤ u6.heap.size := hb.size
  obtain ⟨q0, q1, q2, q3, q4, q5, q6⟩ := (L5.next hb).a.all
  clear hb hrow L5
  go_wp2_with fail
  clear q0 q1 q2 q3 q4 q5 q6
  have j6 : u6.heap.size < (u6.alloc (.cells #[.int .i64 W2, .int .i64 H2, .slice A6 n2 c6] 24)).heap.size := V6.box.lt
  generalize u6.alloc (.cells #[.int .i64 W2, .int .i64 H2, .slice A6 n2 c6] 24) = v6 at *
  refine (M2.out _ L6.bel).mono ?_
  rintro e u7 ⟨A7, c7, rfl, hrow, hb⟩
  have L7 := (L6.next hb).alloc (.cells #[.int .i64 W2, .int .i64 H2, .slice A7 n2 c7] 24)
  have V7 := Var.new (W := W2) (H := H2) (c := c7) hrow
  have VW' := (VW.next hb).alloc (.cells #[.int .i64 W2, .int .i64 H2, .slice A7 n2 c7] 24)
  clear VW
  have VW := VW'
  clear VW'
  have V4' := (V4.next hb).alloc (.cells #[.int .i64 W2, .int .i64 H2, .slice A7 n2 c7] 24)
  clear V4
  have V4 := V4'
  clear V4'
  have V5' := (V5.next hb).alloc (.cells #[.int .i64 W2, .int .i64 H2, .slice A7 n2 c7] 24)
  clear V5
  have V5 := V5'
  clear V5'
  have V6' := (V6.next hb).alloc (.cells #[.int .i64 W2, .int .i64 H2, .slice A7 n2 c7] 24)
  clear V6
  have V6 := V6'
  clear V6'
  have k7 : v6.heap.size ≤ u7.heap.size := hb.size
  obtain ⟨q0, q1, q2, q3, q4, q5, q6⟩ := (L6.next hb).a.all
  clear hb hrow L6
  go_wp2_with fail
  clear q0 q1 q2 q3 q4 q5 q6
  have j7 : u7.heap.size < (u7.alloc (.cells #[.int .i64 W2, .int .i64 H2, .slice A7 n2 c7] 24)).heap.size := V7.box.lt
  generalize u7.alloc (.cells #[.int .i64 W2, .int .i64 H2, .slice A7 n2 c7] 24) = v7 at *
  refine (N3.out _ L7.bel).mono ?_
  rintro e u8 ⟨A8, c8, rfl, hrow, hb⟩
  have L8 := (L7.next hb).alloc (.cells #[.int .i64 W3, .int .i64 H3, .slice A8 n3 c8] 24)
  have V8 := Var.new (W := W3) (H := H3) (c := c8) hrow
  have VW' := (VW.next hb).alloc (.cells #[.int .i64 W3, .int .i64 H3, .slice A8 n3 c8] 24)
  clear VW
  have VW := VW'
  clear VW'
  have V4' := (V4.next hb).alloc (.cells #[.int .i64 W3, .int .i64 H3, .slice A8 n3 c8] 24)
  clear V4
  have V4 := V4'
  clear V4'
  have V5' := (V5.next hb).alloc (.cells #[.int .i64 W3, .int .i64 H3, .slice A8 n3 c8] 24)
  clear V5
  have V5 := V5'
  clear V5'
  have V6' := (V6.next hb).alloc (.cells #[.int .i64 W3, .int .i64 H3, .slice A8 n3 c8] 24)
  clear V6
  have V6 := V6'
  clear V6'
  have V7' := (V7.next hb).alloc (.cells #[.int .i64 W3, .int .i64 H3, .slice A8 n3 c8] 24)
  clear V7
  have V7 := V7'
  clear V7'
  have k8 : v7.heap.size ≤ u8.heap.size := hb.size
  obtain ⟨q0, q1, q2, q3, q4, q5, q6⟩ := (L7.next hb).a.all
  clear hb hrow L7
  go_wp2_with fail
  clear q0 q1 q2 q3 q4 q5 q6
  have j8 : u8.heap.size < (u8.alloc (.cells #[.int .i64 W3, .int .i64 H3, .slice A8 n3 c8] 24)).heap.size := V8.box.lt
  generalize u8.alloc (.cells #[.int .i64 W3, .int .i64 H3, .slice A8 n3 c8] 24) = v8 at *
  refine (M3.out _ L8.bel).mono ?_
  rintro e u9 ⟨A9, c9, rfl, hrow, hb⟩
  have L9 := (L8.next hb).alloc (.cells #[.int .i64 W3, .int .i64 H3, .slice A9 n3 c9] 24)
  have V9 := Var.new (W := W3) (H := H3) (c := c9) hrow
  have VW' := (VW.next hb).alloc (.cells #[.int .i64 W3, .int .i64 H3, .slice A9 n3 c9] 24)
  clear VW
  have VW := VW'
  clear VW'
  have V4' := (V4.next hb).alloc (.cells #[.int .i64 W3, .int .i64 H3, .slice A9 n3 c9] 24)
  clear V4
  have V4 := V4'
  clear V4'
  have V5' := (V5.next hb).alloc (.cells #[.int .i64 W3, .int .i64 H3, .slice A9 n3 c9] 24)
  clear V5
  have V5 := V5'
  clear V5'
  have V6' := (V6.next hb).alloc (.cells #[.int .i64 W3, .int .i64 H3, .slice A9 n3 c9] 24)
  clear V6
  have V6 := V6'
  clear V6'
  have V7' := (V7.next hb).alloc (.cells #[.int .i64 W3, .int .i64 H3, .slice A9 n3 c9] 24)
  clear V7
  have V7 := V7'
  clear V7'
  have V8' := (V8.next hb).alloc (.cells #[.int .i64 W3, .int .i64 H3, .slice A9 n3 c9] 24)
  clear V8
  have V8 := V8'
  clear V8'
  have k9 : v8.heap.size ≤ u9.heap.size := hb.size
  obtain ⟨q0, q1, q2, q3, q4, q5, q6⟩ := (L8.next hb).a.all
  clear hb hrow L8
  go_wp2_with fail
  clear q0 q1 q2 q3 q4 q5 q6
  have j9 : u9.heap.size < (u9.alloc (.cells #[.int .i64 W3, .int .i64 H3, .slice A9 n3 c9] 24)).heap.size := V9.box.lt
  generalize u9.alloc (.cells #[.int .i64 W3, .int .i64 H3, .slice A9 n3 c9] 24) = v9 at *
  refine (N4.out _ L9.bel).mono ?_
  rintro e u10 ⟨A10, c10, rfl, hrow, hb⟩
  have L10 := (L9.next hb).alloc (.cells #[.int .i64 W4, .int .i64 H4, .slice A10 n4 c10] 24)
  have V10 := Var.new (W := W4) (H := H4) (c := c10) hrow
  have VW' := (VW.next hb).alloc (.cells #[.int .i64 W4, .int .i64 H4, .slice A10 n4 c10] 24)
  clear VW
  have VW := VW'
  clear VW'
  have V4' := (V4.next hb).alloc (.cells #[.int .i64 W4, .int .i64 H4, .slice A10 n4 c10] 24)
  clear V4
  have V4 := V4'
  clear V4'
  have V5' := (V5.next hb).alloc (.cells #[.int .i64 W4, .int .i64 H4, .slice A10 n4 c10] 24)
  clear V5
  have V5 := V5'
  clear V5'
  have V6' := (V6.next hb).alloc (.cells #[.int .i64 W4, .int .i64 H4, .slice A10 n4 c10] 24)
  clear V6
  have V6 := V6'
  clear V6'
  have V7' := (V7.next hb).alloc (.cells #[.int .i64 W4, .int .i64 H4, .slice A10 n4 c10] 24)
  clear V7
  have V7 := V7'
  clear V7'
  have V8' := (V8.next hb).alloc (.cells #[.int .i64 W4, .int .i64 H4, .slice A10 n4 c10] 24)
  clear V8
  have V8 := V8'
  clear V8'
  have V9' := (V9.next hb).alloc (.cells #[.int .i64 W4, .int .i64 H4, .slice A10 n4 c10] 24)
  clear V9
  have V9 := V9'
  clear V9'
  have k10 : v9.heap.size ≤ u10.heap.size := hb.size
  obtain ⟨q0, q1, q2, q3, q4, q5, q6⟩ := (L9.next hb).a.all
  clear hb hrow L9
  go_wp2_with fail
  clear q0 q1 q2 q3 q4 q5 q6
  have j10 : u10.heap.size < (u10.alloc (.cells #[.int .i64 W4, .int .i64 H4, .slice A10 n4 c10] 24)).heap.size := V10.box.lt
  generalize u10.alloc (.cells #[.int .i64 W4, .int .i64 H4, .slice A10 n4 c10] 24) = v10 at *
  refine (M4.out _ L10.bel).mono ?_
  rintro e u11 ⟨A11, c11, rfl, hrow, hb⟩
  have L11 := (L10.next hb).alloc (.cells #[.int .i64 W4, .int .i64 H4, .slice A11 n4 c11] 24)
  have V11 := Var.new (W := W4) (H := H4) (c := c11) hrow
  have VW' := (VW.next hb).alloc (.cells #[.int .i64 W4, .int .i64 H4, .slice A11 n4 c11] 24)
  clear VW
  have VW := VW'
  clear VW'
  have V4' := (V4.next hb).alloc (.cells #[.int .i64 W4, .int .i64 H4, .slice A11 n4 c11] 24)
  clear V4
  have V4 := V4'
  clear V4'
  have V5' := (V5.next hb).alloc (.cells #[.int .i64 W4, .int .i64 H4, .slice A11 n4 c11] 24)
  clear V5
  have V5 := V5'
  clear V5'
  have V6' := (V6.next hb).alloc (.cells #[.int .i64 W4, .int .i64 H4, .slice A11 n4 c11] 24)
  clear V6
  have V6 := V6'
  clear V6'
  have V7' := (V7.next hb).alloc (.cells #[.int .i64 W4, .int .i64 H4, .slice A11 n4 c11] 24)
  clear V7
  have V7 := V7'
  clear V7'
  have V8' := (V8.next hb).alloc (.cells #[.int .i64 W4, .int .i64 H4, .slice A11 n4 c11] 24)
  clear V8
  have V8 := V8'
  clear V8'
  have V9' := (V9.next hb).alloc (.cells #[.int .i64 W4, .int .i64 H4, .slice A11 n4 c11] 24)
  clear V9
  have V9 := V9'
  clear V9'
  have V10' := (V10.next hb).alloc (.cells #[.int .i64 W4, .int .i64 H4, .slice A11 n4 c11] 24)
  clear V10
  have V10 := V10'
  clear V10'
  have k11 : v10.heap.size ≤ u11.heap.size := hb.size
  obtain ⟨q0, q1, q2, q3, q4, q5, q6⟩ := (L10.next hb).a.all
  clear hb hrow L10
  go_wp2_with fail
  clear q0 q1 q2 q3 q4 q5 q6
  have j11 : u11.heap.size < (u11.alloc (.cells #[.int .i64 W4, .int .i64 H4, .slice A11 n4 c11] 24)).heap.size := V11.box.lt
  generalize u11.alloc (.cells #[.int .i64 W4, .int .i64 H4, .slice A11 n4 c11] 24) = v11 at *
  refine (N5.out _ L11.bel).mono ?_
  rintro e u12 ⟨A12, c12, rfl, hrow, hb⟩
  have L12 := (L11.next hb).alloc (.cells #[.int .i64 W5, .int .i64 H5, .slice A12 n5 c12] 24)
  have V12 := Var.new (W := W5) (H := H5) (c := c12) hrow
  have VW' := (VW.next hb).alloc (.cells #[.int .i64 W5, .int .i64 H5, .slice A12 n5 c12] 24)
  clear VW
  have VW := VW'
  clear VW'
  have V4' := (V4.next hb).alloc (.cells #[.int .i64 W5, .int .i64 H5, .slice A12 n5 c12] 24)
  clear V4
  have V4 := V4'
  clear V4'
  have V5' := (V5.next hb).alloc (.cells #[.int .i64 W5, .int .i64 H5, .slice A12 n5 c12] 24)
  clear V5
  have V5 := V5'
  clear V5'
  have V6' := (V6.next hb).alloc (.cells #[.int .i64 W5, .int .i64 H5, .slice A12 n5 c12] 24)
  clear V6
  have V6 := V6'
  clear V6'
  have V7' := (V7.next hb).alloc (.cells #[.int .i64 W5, .int .i64 H5, .slice A12 n5 c12] 24)
  clear V7
  have V7 := V7'
  clear V7'
  have V8' := (V8.next hb).alloc (.cells #[.int .i64 W5, .int .i64 H5, .slice A12 n5 c12] 24)
  clear V8
  have V8 := V8'
  clear V8'
  have V9' := (V9.next hb).alloc (.cells #[.int .i64 W5, .int .i64 H5, .slice A12 n5 c12] 24)
  clear V9
  have V9 := V9'
  clear V9'
  have V10' := (V10.next hb).alloc (.cells #[.int .i64 W5, .int .i64 H5, .slice A12 n5 c12] 24)
  clear V10
  have V10 := V10'
  clear V10'
  have V11' := (V11.next hb).alloc (.cells #[.int .i64 W5, .int .i64 H5, .slice A12 n5 c12] 24)
  clear V11
  have V11 := V11'
  clear V11'
  have k12 : v11.heap.size ≤ u12.heap.size := hb.size
  obtain ⟨q0, q1, q2, q3, q4, q5, q6⟩ := (L11.next hb).a.all
  clear hb hrow L11
  go_wp2_with fail
  clear q0 q1 q2 q3 q4 q5 q6
  have j12 : u12.heap.size < (u12.alloc (.cells #[.int .i64 W5, .int .i64 H5, .slice A12 n5 c12] 24)).heap.size := V12.box.lt
  generalize u12.alloc (.cells #[.int .i64 W5, .int .i64 H5, .slice A12 n5 c12] 24) = v12 at *
  refine (M5.out _ L12.bel).mono ?_
  rintro e u13 ⟨A13, c13, rfl, hrow, hb⟩
  have L13 := (L12.next hb).alloc (.cells #[.int .i64 W5, .int .i64 H5, .slice A13 n5 c13] 24)
  have V13 := Var.new (W := W5) (H := H5) (c := c13) hrow
  have VW' := (VW.next hb).alloc (.cells #[.int .i64 W5, .int .i64 H5, .slice A13 n5 c13] 24)
  clear VW
  have VW := VW'
  clear VW'
  have V4' := (V4.next hb).alloc (.cells #[.int .i64 W5, .int .i64 H5, .slice A13 n5 c13] 24)
  clear V4
  have V4 := V4'
  clear V4'
  have V5' := (V5.next hb).alloc (.cells #[.int .i64 W5, .int .i64 H5, .slice A13 n5 c13] 24)
  clear V5
  have V5 := V5'
  clear V5'
  have V6' := (V6.next hb).alloc (.cells #[.int .i64 W5, .int .i64 H5, .slice A13 n5 c13] 24)
  clear V6
  have V6 := V6'
  clear V6'
  have V7' := (V7.next hb).alloc (.cells #[.int .i64 W5, .int .i64 H5, .slice A13 n5 c13] 24)
  clear V7
  have V7 := V7'
  clear V7'
  have V8' := (V8.next hb).alloc (.cells #[.int .i64 W5, .int .i64 H5, .slice A13 n5 c13] 24)
  clear V8
  have V8 := V8'
  clear V8'
  have V9' := (V9.next hb).alloc (.cells #[.int .i64 W5, .int .i64 H5, .slice A13 n5 c13] 24)
  clear V9
  have V9 := V9'
  clear V9'
  have V10' := (V10.next hb).alloc (.cells #[.int .i64 W5, .int .i64 H5, .slice A13 n5 c13] 24)
  clear V10
  have V10 := V10'
  clear V10'
  have V11' := (V11.next hb).alloc (.cells #[.int .i64 W5, .int .i64 H5, .slice A13 n5 c13] 24)
  clear V11
  have V11 := V11'
  clear V11'
  have V12' := (V12.next hb).alloc (.cells #[.int .i64 W5, .int .i64 H5, .slice A13 n5 c13] 24)
  clear V12
  have V12 := V12'
  clear V12'
  have k13 : v12.heap.size ≤ u13.heap.size := hb.size
  clear hb hrow L12
  obtain ⟨q0, q1, q2, q3, q4, q5, q6⟩ := V4.box.all
  obtain ⟨p0, p1, p2, p3, p4, p5, p6⟩ := V5.box.all
  go_wp2_with fail
  clear q0 q1 q2 q3 q4 q5 q6 p0 p1 p2 p3 p4 p5 p6
  generalize u13.alloc (.cells #[.int .i64 W5, .int .i64 H5, .slice A13 n5 c13] 24) = v13 at *
  refine (rsame_eq W1 H1 A4 A5 n1 c4 c5 F1 _ l1 V4.holds V5.holds).mono ?_
  rintro e u14 ⟨rfl, hb⟩
  have L14 := L13.next hb
  clear L13
  clear V4
  clear V5
  have VW' := VW.next hb
  clear VW
  have VW := VW'
  clear VW'
  have V6' := V6.next hb
  clear V6
  have V6 := V6'
  clear V6'
  have V7' := V7.next hb
  clear V7
  have V7 := V7'
  clear V7'
  have V8' := V8.next hb
  clear V8
  have V8 := V8'
  clear V8'
  have V9' := V9.next hb
  clear V9
  have V9 := V9'
  clear V9'
  have V10' := V10.next hb
  clear V10
  have V10 := V10'
  clear V10'
  have V11' := V11.next hb
  clear V11
  have V11 := V11'
  clear V11'
  have V12' := V12.next hb
  clear V12
  have V12 := V12'
  clear V12'
  have V13' := V13.next hb
  clear V13
  have V13 := V13'
  clear V13'
  clear hb
  obtain ⟨q0, q1, q2, q3, q4, q5, q6⟩ := V6.box.all
  obtain ⟨p0, p1, p2, p3, p4, p5, p6⟩ := V7.box.all
  go_wp2_with fail
  clear q0 q1 q2 q3 q4 q5 q6 p0 p1 p2 p3 p4 p5 p6
  refine (rsame_eq W2 H2 A6 A7 n2 c6 c7 F2 _ l2 V6.holds V7.holds).mono ?_
  rintro e u15 ⟨rfl, hb⟩
  have L15 := L14.next hb
  clear L14
  clear V6
  clear V7
  have VW' := VW.next hb
  clear VW
  have VW := VW'
  clear VW'
  have V8' := V8.next hb
  clear V8
  have V8 := V8'
  clear V8'
  have V9' := V9.next hb
  clear V9
  have V9 := V9'
  clear V9'
  have V10' := V10.next hb
  clear V10
  have V10 := V10'
  clear V10'
  have V11' := V11.next hb
  clear V11
  have V11 := V11'
  clear V11'
  have V12' := V12.next hb
  clear V12
  have V12 := V12'
  clear V12'
  have V13' := V13.next hb
  clear V13
  have V13 := V13'
  clear V13'
  clear hb
  obtain ⟨q0, q1, q2, q3, q4, q5, q6⟩ := V8.box.all
  obtain ⟨p0, p1, p2, p3, p4, p5, p6⟩ := V9.box.all
  go_wp2_with fail
  clear q0 q1 q2 q3 q4 q5 q6 p0 p1 p2 p3 p4 p5 p6
  refine (rsame_eq W3 H3 A8 A9 n3 c8 c9 F3 _ l3 V8.holds V9.holds).mono ?_
  rintro e u16 ⟨rfl, hb⟩
  have L16 := L15.next hb
  clear L15
  clear V9
  have VW' := VW.next hb
  clear VW
  have VW := VW'
  clear VW'
  have V8' := V8.next hb
  clear V8
  have V8 := V8'
  clear V8'
  have V10' := V10.next hb
  clear V10
  have V10 := V10'
  clear V10'
  have V11' := V11.next hb
  clear V11
  have V11 := V11'
  clear V11'
  have V12' := V12.next hb
  clear V12
  have V12 := V12'
  clear V12'
  have V13' := V13.next hb
  clear V13
  have V13 := V13'
  clear V13'
  clear hb
  obtain ⟨q0, q1, q2, q3, q4, q5, q6⟩ := V10.box.all
  obtain ⟨p0, p1, p2, p3, p4, p5, p6⟩ := V11.box.all
  go_wp2_with fail
  clear q0 q1 q2 q3 q4 q5 q6 p0 p1 p2 p3 p4 p5 p6
  refine (rsame_eq W4 H4 A10 A11 n4 c10 c11 F4 _ l4 V10.holds V11.holds).mono ?_
  rintro e u17 ⟨rfl, hb⟩
  have L17 := L16.next hb
  clear L16
  clear V10
  clear V11
  have VW' := VW.next hb
  clear VW
  have VW := VW'
  clear VW'
  have V8' := V8.next hb
  clear V8
  have V8 := V8'
  clear V8'
  have V12' := V12.next hb
  clear V12
  have V12 := V12'
  clear V12'
  have V13' := V13.next hb
  clear V13
  have V13 := V13'
  clear V13'
  clear hb
  obtain ⟨q0, q1, q2, q3, q4, q5, q6⟩ := V12.box.all
  obtain ⟨p0, p1, p2, p3, p4, p5, p6⟩ := V13.box.all
  go_wp2_with fail
  clear q0 q1 q2 q3 q4 q5 q6 p0 p1 p2 p3 p4 p5 p6
  refine (rsame_eq W5 H5 A12 A13 n5 c12 c13 F5 _ l5 V12.holds V13.holds).mono ?_
  rintro e u18 ⟨rfl, hb⟩
  have L18 := L17.next hb
  clear L17
  clear V12
  clear V13
  have VW' := VW.next hb
  clear VW
  have VW := VW'
  clear VW'
  have V8' := V8.next hb
  clear V8
  have V8 := V8'
  clear V8'
  clear hb
  have R0 := Lib.hid (⟨L18, VW, ⟨_, V8⟩, k0, kb, by omega, k8⟩ : MR w u18 W H A n c f u2.heap.size u3.heap.size Aw cw v7.heap.size u8.heap.size W3 H3 A8 n3 c8)
  clear L18 VW V8 N1 M1 N2 M2 N3 M3 N4 M4 N5 M5
  go_wp2
  go_loopw [32] (fun i wr => ∃ z : Nat, z ≤ n3 ∧ i = .int .i64 z ∧ MR w wr W H A n c f u2.heap.size u3.heap.size Aw cw v7.heap.size u8.heap.size W3 H3 A8 n3 c8) (fun i _ => n3 - (intOf i).toNat)
  case atStart => exact ⟨0, Nat.zero_le _, rfl, R0.out⟩
  case round =>
    obtain ⟨z, hz, rfl, R⟩ := hrel
    obtain ⟨F, V⟩ := R.v1
    have q2 := V.box.c2
    have q6 := V.box.lt
    by_cases hlt : z < n3
    · obtain ⟨k, rfl, hk1, hk2, hrow⟩ := V.row (by omega)
      obtain ⟨u, hu⟩ : ∃ u, F z = u := ⟨_, rfl⟩
      have c1 := hrow.cell hlt
      rw [hu] at c1
      have cf := hrow.free z
      have y1 : (0 : Int) ≤ (z : Int) := by omega
      have y2 : (z : Int) < (n3 : Int) := by omega
      have hkl := hrow.lt
      have HR2 := Lib.hid R
      clear V R hrow hu
      go_wp2
      refine wp_region_still_tail 10 (by kernel_rfl) (by kernel_rfl) ?_
      simp only [List.take_succ_cons, List.take_zero, List.drop_succ_cons, List.drop_zero]
      iterate 10 (with_reducible refine wpStill_step ?_; intro K hK; go_simp; with_reducible refine hK _ ?_; clear hK K)
      with_reducible refine wpStill_nil ?_
      change wpList _ _ _ _ _ wr.drew
      go_wp2
      exact ⟨⟨z + 1, by omega, by go_num, HR2.out.set_ rfl (by omega) hk1 hk2 z (!u)⟩, by simp [intOf]; omega⟩
    · obtain ⟨r0, r1, r2, r3, r4, r5, r6⟩ := R.base.a.all
      obtain ⟨s0, s1, s2, s3, s4, s5, s6⟩ := R.was.box.all
      have HR2 := Lib.hid R
      clear V R
      go_wp2_with fail
      refine (rsame_eq W H A Aw n c cw f _ hn ((HR.out.below HR2.out.base.bel).more HR2.out.base.bel.size) HR2.out.was.holds).mono ?_
      rintro e u30 ⟨rfl, hb⟩
      go_wp2
      go_ret
      exact ⟨rfl, (HR2.out.base.next hb).bel⟩

theorem moves_any (W H : Int) (A : Option Addr) (n c : Nat) (f : Nat → Bool) (x y px py : Int) (w : World) (hr : Holds w w.heap.size A n f)
    (x0 : -9223372036854775808 ≤ x) (x1 : x ≤ 9223372036854775807) (y0 : -9223372036854775808 ≤ y) (y1 : y ≤ 9223372036854775807) :
    Calls Try.prog 5 #[.agg #[.int .i64 W, .int .i64 H, .slice A n c], .int .i64 x, .int .i64 y, .int .i64 px, .int .i64 py] w fun e w' => e = .returned (.bool true) ∧ Below w.heap.size w w' := by
  by_cases hn : n ≤ 4200
  · exact moves_main W H A n c f x y px py w hn hr x0 x1 y0 y1
  · exact moves_great W H A n c f x y px py w (by omega)
end Go.Proofs.Ytnamjpdbadjgpaa
