/- The walk of the statement GridLogic. -/
import Derived.Test.YtnamjpdbadjgpaaLogw
namespace Go.Proofs.Ytnamjpdbadjgpaa
open Go.RowKit

set_option maxRecDepth 100000 in
set_option maxHeartbeats 4000000 in
theorem logic_main (W H X Y : Int) (A D : Option Addr) (n c m d : Nat) (f g : Nat → Bool) (w : World) (hn : n ≤ 4200) (hm : m ≤ 4200) (hr : Holds w w.heap.size A n f) (hs : Holds w w.heap.size D m g) :
    Calls Try.prog 6 #[.agg #[.int .i64 W, .int .i64 H, .slice A n c], .agg #[.int .i64 X, .int .i64 Y, .slice D m d]] w fun e w' => e = .returned (.bool true) ∧ Below w.heap.size w w' := by
  obtain ⟨W1, H1, n1, F1, e1, l1, hN1, hM1⟩ := not_pair W H A n c f w hn hr
  obtain ⟨W2, H2, n2, F2, e2, l2, hN2, hM2⟩ := and_pair W H X Y A D n c m d f g w hn hm hr hs
  obtain ⟨W3, H3, n3, F3, e3, l3, hN3, hM3⟩ := or_pair W H X Y A D n c m d f g w hn hm hr hs
  have N1 := Lib.hid hN1
  have M1 := Lib.hid hM1
  have N2 := Lib.hid hN2
  have M2 := Lib.hid hM2
  have N3 := Lib.hid hN3
  have M3 := Lib.hid hM3
  have HR := Lib.hid hr
  clear hN1 hM1 hN2 hM2 hN3 hM3 hr hs
  have z1 : (e1 != e1) = false := by simp
  have z2 : (e2 != e2) = false := by simp
  have z3 : (e3 != e3) = false := by simp
  have L0 := LB.start w W H X Y A D n c m d
  go_enter Try.func6, Try.ntmps6
  go_wp2_with fail
  generalize (w.alloc (.cells #[.int .i64 W, .int .i64 H, .slice A n c] 24)).alloc (.cells #[.int .i64 X, .int .i64 Y, .slice D m d] 24) = v0 at *
  refine (great_no _ _ _ _ _ _ hn).mono ?_
  rintro e u1 ⟨rfl, hb⟩
  have L1 := L0.next hb
  clear hb L0
  obtain ⟨q0, q1, q2, q3, q4, q5, q6⟩ := L1.b.all
  go_wp2_with fail
  clear q0 q1 q2 q3 q4 q5 q6
  refine (great_no _ _ _ _ _ _ hm).mono ?_
  rintro e u2 ⟨rfl, hb⟩
  have L2 := L1.next hb
  clear hb L1
  obtain ⟨q0, q1, q2, q3, q4, q5, q6⟩ := L2.a.all
  go_wp2_with fail
  clear q0 q1 q2 q3 q4 q5 q6
  refine (twin_any W H A n c f _ hn ((HR.out.below L2.bel).more L2.bel.size)).mono ?_
  rintro e u3 ⟨Aw, cw, rfl, hrow, hb⟩
  have L3 := (L2.next hb).alloc (.cells #[.int .i64 W, .int .i64 H, .slice Aw n cw] 24)
  have VW := Var.new (W := W) (H := H) (c := cw) hrow
  have k0 : w.heap.size + 1 < u2.heap.size := L2.b.lt
  have kb : u2.heap.size ≤ u3.heap.size := hb.size
  obtain ⟨q0, q1, q2, q3, q4, q5, q6⟩ := (L2.next hb).a.all
  obtain ⟨p0, p1, p2, p3, p4, p5, p6⟩ := (L2.next hb).b.all
  clear hb hrow L2
  go_wp2_with fail
  clear q0 q1 q2 q3 q4 q5 q6 p0 p1 p2 p3 p4 p5 p6
  have j3 : u3.heap.size < (u3.alloc (.cells #[.int .i64 W, .int .i64 H, .slice Aw n cw] 24)).heap.size := VW.box.lt
  generalize u3.alloc (.cells #[.int .i64 W, .int .i64 H, .slice Aw n cw] 24) = v3 at *
  refine (N1.out _ L3.bel).mono ?_
  rintro e u4 ⟨A4, c4, rfl, hrow, hb⟩
  have L4 := (L3.next hb).alloc (.cells #[.int .i64 W1, .int .i64 H1, .slice A4 n1 c4] 24)
  have V4 := Var.new (W := W1) (H := H1) (c := c4) hrow
  have VW' := (VW.next hb).alloc (.cells #[.int .i64 W1, .int .i64 H1, .slice A4 n1 c4] 24)
  clear VW
  have VW := VW'
  clear VW'
  have k4 : v3.heap.size ≤ u4.heap.size := hb.size
  obtain ⟨q0, q1, q2, q3, q4, q5, q6⟩ := (L3.next hb).a.all
  obtain ⟨p0, p1, p2, p3, p4, p5, p6⟩ := (L3.next hb).b.all
  clear hb hrow L3
  go_wp2_with fail
  clear q0 q1 q2 q3 q4 q5 q6 p0 p1 p2 p3 p4 p5 p6
  have j4 : u4.heap.size < (u4.alloc (.cells #[.int .i64 W1, .int .i64 H1, .slice A4 n1 c4] 24)).heap.size := V4.box.lt
  generalize u4.alloc (.cells #[.int .i64 W1, .int .i64 H1, .slice A4 n1 c4] 24) = v4 at *
  refine (M1.out _ L4.bel).mono ?_
  rintro e u5 ⟨A5, c5, rfl, hrow, hb⟩
  have L5 := (L4.next hb).alloc (.cells #[.int .i64 W1, .int .i64 H1, .slice A5 n1 c5] 24)
  have V5 := Var.new (W := W1) (H := H1) (c := c5) hrow
  have VW' := (VW.next hb).alloc (.cells #[.int .i64 W1, .int .i64 H1, .slice A5 n1 c5] 24)
  clear VW
  have VW := VW'
  clear VW'
  have V4' := (V4.next hb).alloc (.cells #[.int .i64 W1, .int .i64 H1, .slice A5 n1 c5] 24)
  clear V4
  have V4 := V4'
  clear V4'
  have k5 : v4.heap.size ≤ u5.heap.size := hb.size
  obtain ⟨q0, q1, q2, q3, q4, q5, q6⟩ := (L4.next hb).a.all
  obtain ⟨p0, p1, p2, p3, p4, p5, p6⟩ := (L4.next hb).b.all
  clear hb hrow L4
  go_wp2_with fail
  clear q0 q1 q2 q3 q4 q5 q6 p0 p1 p2 p3 p4 p5 p6
  have j5 : u5.heap.size < (u5.alloc (.cells #[.int .i64 W1, .int .i64 H1, .slice A5 n1 c5] 24)).heap.size := V5.box.lt
  generalize u5.alloc (.cells #[.int .i64 W1, .int .i64 H1, .slice A5 n1 c5] 24) = v5 at *
  refine (N2.out _ L5.bel).mono ?_
  rintro e u6 ⟨A6, c6, rfl, hrow, hb⟩
  have L6 := (L5.next hb).alloc (.cells #[.int .i64 W2, .int .i64 H2, .slice A6 n2 c6] 24)
  have V6 := Var.new (W := W2) (H := H2) (c := c6) hrow
  have VW' := (VW.next hb).alloc (.cells #[.int .i64 W2, .int .i64 H2, .slice A6 n2 c6] 24)
  clear VW
  have VW := VW'
  clear VW'
  have V4' := (V4.next hb).alloc (.cells #[.int .i64 W2, .int .i64 H2, .slice A6 n2 c6] 24)
  clear V4
  have V4 := V4'
  clear V4'
  have V5' := (V5.next hb).alloc (.cells #[.int .i64 W2, .int .i64 H2, .slice A6 n2 c6] 24)
  clear V5
  have V5 := V5'
  clear V5'
  have k6 : v5.heap.size ≤ u6.heap.size := hb.size
  obtain ⟨q0, q1, q2, q3, q4, q5, q6⟩ := (L5.next hb).a.all
  obtain ⟨p0, p1, p2, p3, p4, p5, p6⟩ := (L5.next hb).b.all
  clear hb hrow L5
  go_wp2_with fail
  clear q0 q1 q2 q3 q4 q5 q6 p0 p1 p2 p3 p4 p5 p6
  have j6 : u6.heap.size < (u6.alloc (.cells #[.int .i64 W2, .int .i64 H2, .slice A6 n2 c6] 24)).heap.size := V6.box.lt
  generalize u6.alloc (.cells #[.int .i64 W2, .int .i64 H2, .slice A6 n2 c6] 24) = v6 at *
  refine (M2.out _ L6.bel).mono ?_
  rintro e u7 ⟨A7, c7, rfl, hrow, hb⟩
  have L7 := (L6.next hb).alloc (.cells #[.int .i64 W2, .int .i64 H2, .slice A7 n2 c7] 24)
  have V7 := Var.new (W := W2) (H := H2) (c := c7) hrow
  have VW' := (VW.next hb).alloc (.cells #[.int .i64 W2, .int .i64 H2, .slice A7 n2 c7] 24)
  clear VW
  have VW := VW'
  clear VW'
  have V4' := (V4.next hb).alloc (.cells #[.int .i64 W2, .int .i64 H2, .slice A7 n2 c7] 24)
  clear V4
  have V4 := V4'
  clear V4'
  have V5' := (V5.next hb).alloc (.cells #[.int .i64 W2, .int .i64 H2, .slice A7 n2 c7] 24)
  clear V5
  have V5 := V5'
  clear V5'
  have V6' := (V6.next hb).alloc (.cells #[.int .i64 W2, .int .i64 H2, .slice A7 n2 c7] 24)
  clear V6
  have V6 := V6'
  clear V6'
  have k7 : v6.heap.size ≤ u7.heap.size := hb.size
  obtain ⟨q0, q1, q2, q3, q4, q5, q6⟩ := (L6.next hb).a.all
  obtain ⟨p0, p1, p2, p3, p4, p5, p6⟩ := (L6.next hb).b.all
  clear hb hrow L6
  go_wp2_with fail
  clear q0 q1 q2 q3 q4 q5 q6 p0 p1 p2 p3 p4 p5 p6
  have j7 : u7.heap.size < (u7.alloc (.cells #[.int .i64 W2, .int .i64 H2, .slice A7 n2 c7] 24)).heap.size := V7.box.lt
  generalize u7.alloc (.cells #[.int .i64 W2, .int .i64 H2, .slice A7 n2 c7] 24) = v7 at *
  refine (N3.out _ L7.bel).mono ?_
  rintro e u8 ⟨A8, c8, rfl, hrow, hb⟩
  have L8 := (L7.next hb).alloc (.cells #[.int .i64 W3, .int .i64 H3, .slice A8 n3 c8] 24)
  have V8 := Var.new (W := W3) (H := H3) (c := c8) hrow
  have VW' := (VW.next hb).alloc (.cells #[.int .i64 W3, .int .i64 H3, .slice A8 n3 c8] 24)
  clear VW
  have VW := VW'
  clear VW'
  have V4' := (V4.next hb).alloc (.cells #[.int .i64 W3, .int .i64 H3, .slice A8 n3 c8] 24)
  clear V4
  have V4 := V4'
  clear V4'
  have V5' := (V5.next hb).alloc (.cells #[.int .i64 W3, .int .i64 H3, .slice A8 n3 c8] 24)
  clear V5
  have V5 := V5'
  clear V5'
  have V6' := (V6.next hb).alloc (.cells #[.int .i64 W3, .int .i64 H3, .slice A8 n3 c8] 24)
  clear V6
  have V6 := V6'
  clear V6'
  have V7' := (V7.next hb).alloc (.cells #[.int .i64 W3, .int .i64 H3, .slice A8 n3 c8] 24)
  clear V7
  have V7 := V7'
  clear V7'
  have k8 : v7.heap.size ≤ u8.heap.size := hb.size
  obtain ⟨q0, q1, q2, q3, q4, q5, q6⟩ := (L7.next hb).a.all
  obtain ⟨p0, p1, p2, p3, p4, p5, p6⟩ := (L7.next hb).b.all
  clear hb hrow L7
  go_wp2_with fail
  clear q0 q1 q2 q3 q4 q5 q6 p0 p1 p2 p3 p4 p5 p6
  have j8 : u8.heap.size < (u8.alloc (.cells #[.int .i64 W3, .int .i64 H3, .slice A8 n3 c8] 24)).heap.size := V8.box.lt
  generalize u8.alloc (.cells #[.int .i64 W3, .int .i64 H3, .slice A8 n3 c8] 24) = v8 at *
  refine (M3.out _ L8.bel).mono ?_
  rintro e u9 ⟨A9, c9, rfl, hrow, hb⟩
  have L9 := (L8.next hb).alloc (.cells #[.int .i64 W3, .int .i64 H3, .slice A9 n3 c9] 24)
  have V9 := Var.new (W := W3) (H := H3) (c := c9) hrow
  have VW' := (VW.next hb).alloc (.cells #[.int .i64 W3, .int .i64 H3, .slice A9 n3 c9] 24)
  clear VW
  have VW := VW'
  clear VW'
  have V4' := (V4.next hb).alloc (.cells #[.int .i64 W3, .int .i64 H3, .slice A9 n3 c9] 24)
  clear V4
  have V4 := V4'
  clear V4'
  have V5' := (V5.next hb).alloc (.cells #[.int .i64 W3, .int .i64 H3, .slice A9 n3 c9] 24)
  clear V5
  have V5 := V5'
  clear V5'
  have V6' := (V6.next hb).alloc (.cells #[.int .i64 W3, .int .i64 H3, .slice A9 n3 c9] 24)
  clear V6
  have V6 := V6'
  clear V6'
  have V7' := (V7.next hb).alloc (.cells #[.int .i64 W3, .int .i64 H3, .slice A9 n3 c9] 24)
  clear V7
  have V7 := V7'
  clear V7'
  have V8' := (V8.next hb).alloc (.cells #[.int .i64 W3, .int .i64 H3, .slice A9 n3 c9] 24)
  clear V8
  have V8 := V8'
  clear V8'
  have k9 : v8.heap.size ≤ u9.heap.size := hb.size
  obtain ⟨q0, q1, q2, q3, q4, q5, q6⟩ := (L8.next hb).a.all
  obtain ⟨p0, p1, p2, p3, p4, p5, p6⟩ := (L8.next hb).b.all
  clear hb hrow L8
  clear q0 q1 q2 q3 q4 q5 q6 p0 p1 p2 p3 p4 p5 p6
  obtain ⟨q0, q1, q2, q3, q4, q5, q6⟩ := V4.box.all
  obtain ⟨p0, p1, p2, p3, p4, p5, p6⟩ := V5.box.all
  go_wp2_with fail
  clear q0 q1 q2 q3 q4 q5 q6 p0 p1 p2 p3 p4 p5 p6
  generalize u9.alloc (.cells #[.int .i64 W3, .int .i64 H3, .slice A9 n3 c9] 24) = v9 at *
  refine (rsame_eq W1 H1 A4 A5 n1 c4 c5 F1 _ l1 V4.holds V5.holds).mono ?_
  rintro e u10 ⟨rfl, hb⟩
  have L10 := L9.next hb
  have VW' := VW.next hb
  clear VW
  have VW := VW'
  clear VW'
  have V4' := V4.next hb
  clear V4
  have V4 := V4'
  clear V4'
  have V6' := V6.next hb
  clear V6
  have V6 := V6'
  clear V6'
  have V7' := V7.next hb
  clear V7
  have V7 := V7'
  clear V7'
  have V8' := V8.next hb
  clear V8
  have V8 := V8'
  clear V8'
  have V9' := V9.next hb
  clear V9
  have V9 := V9'
  clear V9'
  clear hb L9
  clear V5
  obtain ⟨q0, q1, q2, q3, q4, q5, q6⟩ := V6.box.all
  obtain ⟨p0, p1, p2, p3, p4, p5, p6⟩ := V7.box.all
  go_wp2_with fail
  clear q0 q1 q2 q3 q4 q5 q6 p0 p1 p2 p3 p4 p5 p6
  refine (rsame_eq W2 H2 A6 A7 n2 c6 c7 F2 _ l2 V6.holds V7.holds).mono ?_
  rintro e u11 ⟨rfl, hb⟩
  have L11 := L10.next hb
  have VW' := VW.next hb
  clear VW
  have VW := VW'
  clear VW'
  have V4' := V4.next hb
  clear V4
  have V4 := V4'
  clear V4'
  have V6' := V6.next hb
  clear V6
  have V6 := V6'
  clear V6'
  have V8' := V8.next hb
  clear V8
  have V8 := V8'
  clear V8'
  have V9' := V9.next hb
  clear V9
  have V9 := V9'
  clear V9'
  clear hb L10
  clear V7
  obtain ⟨q0, q1, q2, q3, q4, q5, q6⟩ := V8.box.all
  obtain ⟨p0, p1, p2, p3, p4, p5, p6⟩ := V9.box.all
  go_wp2_with fail
  clear q0 q1 q2 q3 q4 q5 q6 p0 p1 p2 p3 p4 p5 p6
  refine (rsame_eq W3 H3 A8 A9 n3 c8 c9 F3 _ l3 V8.holds V9.holds).mono ?_
  rintro e u12 ⟨rfl, hb⟩
  have L12 := L11.next hb
  have VW' := VW.next hb
  clear VW
  have VW := VW'
  clear VW'
  have V4' := V4.next hb
  clear V4
  have V4 := V4'
  clear V4'
  have V6' := V6.next hb
  clear V6
  have V6 := V6'
  clear V6'
  have V8' := V8.next hb
  clear V8
  have V8 := V8'
  clear V8'
  clear hb L11
  clear V9
  have R0 := Lib.hid (⟨L12, VW, ⟨_, V4⟩, ⟨_, V6⟩, ⟨_, V8⟩, k0, kb, j3, k4, by omega, k6, by omega, k8⟩ : LR w u12 W H A n c X Y D m d f u2.heap.size u3.heap.size Aw cw v3.heap.size u4.heap.size W1 H1 A4 n1 c4 v5.heap.size u6.heap.size W2 H2 A6 n2 c6 v7.heap.size u8.heap.size W3 H3 A8 n3 c8)
  clear L12 VW V4 V6 V8 N1 M1 N2 M2 N3 M3
  go_wp2
  go_loopw [18] (fun i wr => ∃ z : Nat, z ≤ n1 ∧ i = .int .i64 z ∧ LR w wr W H A n c X Y D m d f u2.heap.size u3.heap.size Aw cw v3.heap.size u4.heap.size W1 H1 A4 n1 c4 v5.heap.size u6.heap.size W2 H2 A6 n2 c6 v7.heap.size u8.heap.size W3 H3 A8 n3 c8) (fun i _ => n1 - (intOf i).toNat)
  case atStart => exact ⟨0, Nat.zero_le _, rfl, R0.out⟩
  case round =>
    obtain ⟨z, hz, rfl, R⟩ := hrel
    obtain ⟨F, V⟩ := R.v1
    have q2 := V.box.c2
    have q6 := V.box.lt
    by_cases hlt : z < n1
    · obtain ⟨k, rfl, hk1, hk2, hrow⟩ := V.row (by omega)
      obtain ⟨u, hu⟩ : ∃ u, F z = u := ⟨_, rfl⟩
      have c1 := hrow.cell hlt
      rw [hu] at c1
      have cf := hrow.free z
      have y1 : (0 : Int) ≤ (z : Int) := by omega
      have y2 : (z : Int) < (n1 : Int) := by omega
      have hkl := hrow.lt
      have HV := Lib.hid V
      have HR2 := Lib.hid R
      clear V R hrow hu
      go_wp2
      refine wp_region_still_tail 10 (by kernel_rfl) (by kernel_rfl) ?_
      simp only [List.take_succ_cons, List.take_zero, List.drop_succ_cons, List.drop_zero]
      iterate 10 (with_reducible refine wpStill_step ?_; intro K hK; go_simp; with_reducible refine hK _ ?_; clear hK K)
      with_reducible refine wpStill_nil ?_
      change wpList _ _ _ _ _ wr.drew
      go_wp2
      exact ⟨⟨z + 1, by omega, by go_num, (HR2.out.set1 rfl (by omega) hk1 hk2 z (!u)).drew⟩, by simp [intOf]; omega⟩
    · have e : z = n1 := by omega
      subst e
      have R1 := Lib.hid R
      clear V R q2 q6 R0
      obtain ⟨F, V⟩ := R1.out.v1
      have q2 := V.box.c2
      have q6 := V.box.lt
      clear V
      go_wp2
      clear q2 q6
      go_loopw [19] (fun i wr => ∃ y : Nat, y ≤ n2 ∧ i = .int .i64 y ∧ LR w wr W H A n c X Y D m d f u2.heap.size u3.heap.size Aw cw v3.heap.size u4.heap.size W1 H1 A4 z c4 v5.heap.size u6.heap.size W2 H2 A6 n2 c6 v7.heap.size u8.heap.size W3 H3 A8 n3 c8) (fun i _ => n2 - (intOf i).toNat)
      case atStart => exact ⟨0, Nat.zero_le _, rfl, R1.out⟩
      case round =>
        obtain ⟨y, hy, rfl, R⟩ := hrel
        obtain ⟨F2, V2⟩ := R.v2
        obtain ⟨F3, V3⟩ := R.v3
        have q2 := V2.box.c2
        have q6 := V2.box.lt
        have p2 := V3.box.c2
        have p6 := V3.box.lt
        by_cases hlt : y < n2 ∧ y < n3
        · obtain ⟨hl2, hl3⟩ := hlt
          obtain ⟨k, rfl, hk1, hk2, hrow⟩ := V2.row (by omega)
          obtain ⟨k', rfl, hk1', hk2', hrow'⟩ := V3.row (by omega)
          obtain ⟨u, hu⟩ : ∃ u, F2 y = u := ⟨_, rfl⟩
          obtain ⟨u', hu'⟩ : ∃ u, F3 y = u := ⟨_, rfl⟩
          have c1 := hrow.cell hl2
          rw [hu] at c1
          have cf := hrow.free y
          have c1' := hrow'.cell hl3
          rw [hu'] at c1'
          have cf' := hrow'.free y
          have y1 : (0 : Int) ≤ (y : Int) := by omega
          have y2 : (y : Int) < (n2 : Int) := by omega
          have y3 : (y : Int) < (n3 : Int) := by omega
          have hkl := hrow.lt
          have hkl' := hrow'.lt
          have hne : k ≠ k' := by have := R.s5; have := R.s6; omega
          have hne' : k' ≠ k := fun h => hne h.symm
          have HR2 := Lib.hid R
          clear V2 V3 R hrow hrow' hu hu'
          go_wp2
          go_region
          go_wp2
          exact ⟨⟨y + 1, by omega, by go_num, ((HR2.out.set2 rfl (by omega) hk1 hk2 y (!u)).set3 rfl (by omega) hk1' hk2' y (!u')).drew⟩, by simp [intOf]; omega⟩
        · obtain ⟨r0, r1, r2, r3, r4, r5, r6⟩ := R.base.a.all
          obtain ⟨s0, s1, s2, s3, s4, s5, s6⟩ := R.was.box.all
          have HR2 := Lib.hid R
          clear V2 V3 R
          by_cases hl2 : y < n2
          · have hl3 : ¬ y < n3 := by omega
            clear hlt
            go_wp2_with fail
            refine (rsame_eq W H A Aw n c cw f _ hn ((HR.out.below HR2.out.base.bel).more HR2.out.base.bel.size) HR2.out.was.holds).mono ?_
            rintro e u13 ⟨rfl, hb⟩
            go_wp2
            go_ret
            exact ⟨rfl, (HR2.out.base.next hb).bel⟩
          · clear hlt
            go_wp2_with fail
            refine (rsame_eq W H A Aw n c cw f _ hn ((HR.out.below HR2.out.base.bel).more HR2.out.base.bel.size) HR2.out.was.holds).mono ?_
            rintro e u13 ⟨rfl, hb⟩
            go_wp2
            go_ret
            exact ⟨rfl, (HR2.out.base.next hb).bel⟩

theorem logic_any (W H X Y : Int) (A D : Option Addr) (n c m d : Nat) (f g : Nat → Bool) (w : World) (hr : Holds w w.heap.size A n f) (hs : Holds w w.heap.size D m g) :
    Calls Try.prog 6 #[.agg #[.int .i64 W, .int .i64 H, .slice A n c], .agg #[.int .i64 X, .int .i64 Y, .slice D m d]] w fun e w' => e = .returned (.bool true) ∧ Below w.heap.size w w' := by
  by_cases hn : n ≤ 4200
  · by_cases hm : m ≤ 4200
    · exact logic_main W H X Y A D n c m d f g w hn hm hr hs
    · exact logic_great2 W H X Y A D n c m d f g w hn (by omega)
  · exact logic_great1 W H X Y A D n c m d f g w (by omega)
end Go.Proofs.Ytnamjpdbadjgpaa
