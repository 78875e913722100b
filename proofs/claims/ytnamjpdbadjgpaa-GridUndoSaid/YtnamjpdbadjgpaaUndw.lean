/- The walk of the statement GridUndo. -/
import Derived.Test.YtnamjpdbadjgpaaGv
import Derived.Test.YtnamjpdbadjgpaaCo
import Derived.LoopN
namespace Go.Proofs.Ytnamjpdbadjgpaa
open Go.RowKit
set_option linter.unusedVariables false
set_option linter.unusedSimpArgs false

set_option maxRecDepth 100000 in
set_option maxHeartbeats 4000000 in
theorem undo_core (W H : Nat) (A : Option Addr) (c : Nat) (f ft fn fs fa fb : Nat → Bool) (dx dy nx ny : Int) (w : World)
    (a1 : 1 ≤ W) (a2 : W ≤ 64) (a3 : 1 ≤ H) (a4 : H ≤ 64) (x1 : -1000000000 ≤ dx) (x2 : dx ≤ 1000000000) (y1 : -1000000000 ≤ dy) (y2 : dy ≤ 1000000000)
    (HV : ∀ v, Calls Try.prog 43 #[.agg #[.int .i64 W, .int .i64 H, .slice A (W * H) c]] v fun e w' => e = .returned (.bool true) ∧ Below v.heap.size v w')
    (HT1 : ∀ v, Below w.heap.size w v → Calls Try.prog 34 #[.agg #[.int .i64 W, .int .i64 H, .slice A (W * H) c]] v (OkGrid v H W ft))
    (HT2 : ∀ v k, Row v k (H * W) ft → Calls Try.prog 34 #[.agg #[.int .i64 H, .int .i64 W, .slice (some ⟨k, 0, none⟩) (H * W) (H * W)]] v (OkGrid v W H f))
    (HN1 : ∀ v, Below w.heap.size w v → Calls Try.prog 12 #[.agg #[.int .i64 W, .int .i64 H, .slice A (W * H) c]] v (OkGrid v W H fn))
    (HN2 : ∀ v k, Row v k (W * H) fn → Calls Try.prog 12 #[.agg #[.int .i64 W, .int .i64 H, .slice (some ⟨k, 0, none⟩) (W * H) (W * H)]] v (OkGrid v W H f))
    (HS1 : ∀ v, Below w.heap.size w v → Calls Try.prog 19 #[.agg #[.int .i64 W, .int .i64 H, .slice A (W * H) c], .int .i64 dx, .int .i64 dy] v (OkGrid v W H fs))
    (HS2 : ∀ v k, Row v k (W * H) fs → Calls Try.prog 19 #[.agg #[.int .i64 W, .int .i64 H, .slice (some ⟨k, 0, none⟩) (W * H) (W * H)], .int .i64 (-dx), .int .i64 (-dy)] v (OkGrid v W H f))
    (HM1 : ∀ v, Below w.heap.size w v → Calls Try.prog 13 #[.agg #[.int .i64 W, .int .i64 H, .slice A (W * H) c], .int .i64 0] v (OkGrid v W H fa))
    (HM2 : ∀ v k, Row v k (W * H) fa → Calls Try.prog 13 #[.agg #[.int .i64 W, .int .i64 H, .slice (some ⟨k, 0, none⟩) (W * H) (W * H)], .int .i64 0] v (OkGrid v W H f))
    (HM3 : ∀ v, Below w.heap.size w v → Calls Try.prog 13 #[.agg #[.int .i64 W, .int .i64 H, .slice A (W * H) c], .int .i64 1] v (OkGrid v W H fb))
    (HM4 : ∀ v k, Row v k (W * H) fb → Calls Try.prog 13 #[.agg #[.int .i64 W, .int .i64 H, .slice (some ⟨k, 0, none⟩) (W * H) (W * H)], .int .i64 1] v (OkGrid v W H f))
    (HE : ∀ v k, Below w.heap.size w v → Row v k (W * H) f → Calls Try.prog 32 #[.agg #[.int .i64 W, .int .i64 H, .slice (some ⟨k, 0, none⟩) (W * H) (W * H)], .agg #[.int .i64 W, .int .i64 H, .slice A (W * H) c]] v fun e w' => e = .returned (.bool true) ∧ Below v.heap.size v w')
    (HA : ∀ v, Calls Try.prog 23 #[] v fun e w' => e = .returned (.bool true) ∧ Below v.heap.size v w')
    (HL : (∃ err : Int, (err != 0) = true ∧ (nx < 1 ∨ (¬ nx < 1 ∧ ny < 1) ∨ (¬ nx < 1 ∧ ¬ ny < 1 ∧ (64 : Int) / (W : Int) < nx) ∨ (¬ nx < 1 ∧ ¬ ny < 1 ∧ ¬ (64 : Int) / (W : Int) < nx ∧ (64 : Int) / (H : Int) < ny)) ∧ ∀ v, Below w.heap.size w v → Calls Try.prog 14 #[.agg #[.int .i64 W, .int .i64 H, .slice A (W * H) c], .int .i64 nx, .int .i64 ny] v (ErrGrid v err)) ∨
      (∃ (P Q : Nat) (fp : Nat → Bool), P ≤ 64 ∧ Q ≤ 64 ∧ W ≤ P ∧ H ≤ Q ∧ (∀ v, Below w.heap.size w v → Calls Try.prog 14 #[.agg #[.int .i64 W, .int .i64 H, .slice A (W * H) c], .int .i64 nx, .int .i64 ny] v (OkGrid v P Q fp)) ∧
        (∀ v k, Row v k (P * Q) fp → Calls Try.prog 15 #[.agg #[.int .i64 P, .int .i64 Q, .slice (some ⟨k, 0, none⟩) (P * Q) (P * Q)], .int .i64 ((P : Int) - (W : Int)), .int .i64 ((Q : Int) - (H : Int)), .int .i64 W, .int .i64 H] v (OkGrid v W H f)) ∧
        (∀ v k, Row v k (P * Q) fp → Calls Try.prog 15 #[.agg #[.int .i64 P, .int .i64 Q, .slice (some ⟨k, 0, none⟩) (P * Q) (P * Q)], .int .i64 0, .int .i64 0, .int .i64 W, .int .i64 H] v (OkGrid v W H f)) ∧
        (∀ v k, Row v k (P * Q) fp → Calls Try.prog 19 #[.agg #[.int .i64 P, .int .i64 Q, .slice (some ⟨k, 0, none⟩) (P * Q) (P * Q)], .int .i64 W, .int .i64 (-(H : Int))] v (OkGrid v P Q fp)) ∧
        (∀ v k l, Row v k (P * Q) fp → Row v l (P * Q) fp → Calls Try.prog 32 #[.agg #[.int .i64 P, .int .i64 Q, .slice (some ⟨k, 0, none⟩) (P * Q) (P * Q)], .agg #[.int .i64 P, .int .i64 Q, .slice (some ⟨l, 0, none⟩) (P * Q) (P * Q)]] v fun e w' => e = .returned (.bool true) ∧ Below v.heap.size v w'))) :
    Calls Try.prog 8 #[.agg #[.int .i64 W, .int .i64 H, .slice A (W * H) c], .int .i64 dx, .int .i64 dy, .int .i64 nx, .int .i64 ny] w fun e w' => e = .returned (.bool true) ∧ Below w.heap.size w w' := by
  have HV := Lib.hid HV
  have HT1 := Lib.hid HT1
  have HT2 := Lib.hid HT2
  have HN1 := Lib.hid HN1
  have HN2 := Lib.hid HN2
  have HS1 := Lib.hid HS1
  have HS2 := Lib.hid HS2
  have HM1 := Lib.hid HM1
  have HM2 := Lib.hid HM2
  have HM3 := Lib.hid HM3
  have HM4 := Lib.hid HM4
  have HE := Lib.hid HE
  have HA := Lib.hid HA
  have HL := Lib.hid HL
  have L0 := Lib.hid (LA.start w W H A (W * H) c)
  go_enter Try.func8, Try.ntmps8
  obtain ⟨pz0, pz1, pz2, pz3, pz4, pz5, pz6⟩ := L0.out.a.all
  go_wp2_with fail
  refine (HV.out _).mono ?_
  rintro e u1 ⟨rfl, hb⟩
  have L1 := Lib.hid (L0.out.next hb)
  clear hb L0 pz0 pz1 pz2 pz3 pz4 pz5 pz6
  obtain ⟨pz0, pz1, pz2, pz3, pz4, pz5, pz6⟩ := L1.out.a.all
  go_wp2_with fail
  refine (HT1.out _ L1.out.bel).mono ?_
  rintro e u2 ⟨k2, rfl, hk, hrow, hb⟩
  have D2 := Lib.hid (Nat.lt_of_lt_of_le L1.out.a.lt hb.size)
  have L2 := Lib.hid ((L1.out.next hb).alloc (.cells #[.int .i64 H, .int .i64 W, .slice (some ⟨k2, 0, none⟩) (H * W) (H * W)] 24))
  have Ga2 := Lib.hid (Gv.new H W hrow)
  clear hk hrow hb L1 pz0 pz1 pz2 pz3 pz4 pz5 pz6
  obtain ⟨pa0, pa1, pa2, pa3, pa4, pa5, pa6⟩ := Ga2.out.box.all
  go_wp2_with fail
  refine (HT2.out _ _ Ga2.out.row).mono ?_
  rintro e u3 ⟨k3, rfl, hk, hrow, hb⟩
  have dw := D2.out
  have L3 := Lib.hid ((L2.out.next hb).sto (p := u2.heap.size) dw (.int .i64 W) (.int .i64 H) (.slice (some ⟨k3, 0, none⟩) (W * H) (W * H)))
  have hlt := Ga2.out.box.lt
  obtain ⟨po3_0, po3_1, po3_2, po3_3, po3_4, po3_5, po3_6⟩ := (Ga2.out.next hb).box.all
  have Ga3 := Lib.hid (Gv.put (X' := W) (Y' := H) (Ga2.out.next hb).box hrow (by omega))
  clear hk hrow hb hlt dw L2 Ga2 D2 pa0 pa1 pa2 pa3 pa4 pa5 pa6
  obtain ⟨pz0, pz1, pz2, pz3, pz4, pz5, pz6⟩ := L3.out.a.all
  go_wp2_with fail
  refine (HN1.out _ L3.out.bel).mono ?_
  rintro e u4 ⟨k4, rfl, hk, hrow, hb⟩
  have D4 := Lib.hid (⟨Nat.lt_of_lt_of_le L3.out.a.lt hb.size, Nat.lt_of_lt_of_le Ga3.out.box.lt hb.size, Nat.lt_of_lt_of_le Ga3.out.row.lt hb.size⟩ : w.heap.size < u4.heap.size ∧ u2.heap.size < u4.heap.size ∧ k3 < u4.heap.size)
  have L4 := Lib.hid ((L3.out.next hb).alloc (.cells #[.int .i64 W, .int .i64 H, .slice (some ⟨k4, 0, none⟩) (W * H) (W * H)] 24))
  have Ga4 := Lib.hid ((Ga3.out.next hb).alloc (.cells #[.int .i64 W, .int .i64 H, .slice (some ⟨k4, 0, none⟩) (W * H) (W * H)] 24))
  have Gb4 := Lib.hid (Gv.new W H hrow)
  clear hk hrow hb L3 Ga3 po3_0 po3_1 po3_2 po3_3 po3_4 po3_5 po3_6 pz0 pz1 pz2 pz3 pz4 pz5 pz6
  obtain ⟨pa0, pa1, pa2, pa3, pa4, pa5, pa6⟩ := Gb4.out.box.all
  go_wp2_with fail
  refine (HN2.out _ _ Gb4.out.row).mono ?_
  rintro e u5 ⟨k5, rfl, hk, hrow, hb⟩
  obtain ⟨dw, db_a, dk_a⟩ := D4.out
  have L5 := Lib.hid ((L4.out.next hb).sto (p := u4.heap.size) dw (.int .i64 W) (.int .i64 H) (.slice (some ⟨k5, 0, none⟩) (W * H) (W * H)))
  have Ga5 := Lib.hid ((Ga4.out.next hb).sto (p := u4.heap.size) (by omega) (by omega) (.int .i64 W) (.int .i64 H) (.slice (some ⟨k5, 0, none⟩) (W * H) (W * H)))
  have hlt := Gb4.out.box.lt
  obtain ⟨po5_0, po5_1, po5_2, po5_3, po5_4, po5_5, po5_6⟩ := (Gb4.out.next hb).box.all
  have Gb5 := Lib.hid (Gv.put (X' := W) (Y' := H) (Gb4.out.next hb).box hrow (by omega))
  clear hk hrow hb hlt dw db_a dk_a L4 Gb4 D4 Ga4 pa0 pa1 pa2 pa3 pa4 pa5 pa6
  obtain ⟨pz0, pz1, pz2, pz3, pz4, pz5, pz6⟩ := L5.out.a.all
  go_wp2_with fail
  refine (HS1.out _ L5.out.bel).mono ?_
  rintro e u6 ⟨k6, rfl, hk, hrow, hb⟩
  have D6 := Lib.hid (⟨Nat.lt_of_lt_of_le L5.out.a.lt hb.size, Nat.lt_of_lt_of_le Ga5.out.box.lt hb.size, Nat.lt_of_lt_of_le Ga5.out.row.lt hb.size, Nat.lt_of_lt_of_le Gb5.out.box.lt hb.size, Nat.lt_of_lt_of_le Gb5.out.row.lt hb.size⟩ : w.heap.size < u6.heap.size ∧ u2.heap.size < u6.heap.size ∧ k3 < u6.heap.size ∧ u4.heap.size < u6.heap.size ∧ k5 < u6.heap.size)
  have L6 := Lib.hid ((L5.out.next hb).alloc (.cells #[.int .i64 W, .int .i64 H, .slice (some ⟨k6, 0, none⟩) (W * H) (W * H)] 24))
  have Ga6 := Lib.hid ((Ga5.out.next hb).alloc (.cells #[.int .i64 W, .int .i64 H, .slice (some ⟨k6, 0, none⟩) (W * H) (W * H)] 24))
  have Gb6 := Lib.hid ((Gb5.out.next hb).alloc (.cells #[.int .i64 W, .int .i64 H, .slice (some ⟨k6, 0, none⟩) (W * H) (W * H)] 24))
  have Gc6 := Lib.hid (Gv.new W H hrow)
  clear hk hrow hb L5 Ga5 Gb5 po5_0 po5_1 po5_2 po5_3 po5_4 po5_5 po5_6 pz0 pz1 pz2 pz3 pz4 pz5 pz6
  obtain ⟨pa0, pa1, pa2, pa3, pa4, pa5, pa6⟩ := Gc6.out.box.all
  go_wp2_with fail
  refine (HS2.out _ _ Gc6.out.row).mono ?_
  rintro e u7 ⟨k7, rfl, hk, hrow, hb⟩
  obtain ⟨dw, db_a, dk_a, db_b, dk_b⟩ := D6.out
  have L7 := Lib.hid ((L6.out.next hb).sto (p := u6.heap.size) dw (.int .i64 W) (.int .i64 H) (.slice (some ⟨k7, 0, none⟩) (W * H) (W * H)))
  have Ga7 := Lib.hid ((Ga6.out.next hb).sto (p := u6.heap.size) (by omega) (by omega) (.int .i64 W) (.int .i64 H) (.slice (some ⟨k7, 0, none⟩) (W * H) (W * H)))
  have Gb7 := Lib.hid ((Gb6.out.next hb).sto (p := u6.heap.size) (by omega) (by omega) (.int .i64 W) (.int .i64 H) (.slice (some ⟨k7, 0, none⟩) (W * H) (W * H)))
  have hlt := Gc6.out.box.lt
  obtain ⟨po7_0, po7_1, po7_2, po7_3, po7_4, po7_5, po7_6⟩ := (Gc6.out.next hb).box.all
  have Gc7 := Lib.hid (Gv.put (X' := W) (Y' := H) (Gc6.out.next hb).box hrow (by omega))
  clear hk hrow hb hlt dw db_a dk_a db_b dk_b L6 Gc6 D6 Ga6 Gb6 pa0 pa1 pa2 pa3 pa4 pa5 pa6
  obtain ⟨pa0, pa1, pa2, pa3, pa4, pa5, pa6⟩ := Ga7.out.box.all
  obtain ⟨pz0, pz1, pz2, pz3, pz4, pz5, pz6⟩ := L7.out.a.all
  go_wp2_with fail
  refine (HE.out _ _ L7.out.bel Ga7.out.row).mono ?_
  rintro e u8 ⟨rfl, hb⟩
  have L8 := Lib.hid (L7.out.next hb)
  have Gb8 := Lib.hid (Gb7.out.next hb)
  have Gc8 := Lib.hid (Gc7.out.next hb)
  clear hb L7 Ga7 Gb7 Gc7 po7_0 po7_1 po7_2 po7_3 po7_4 po7_5 po7_6 pa0 pa1 pa2 pa3 pa4 pa5 pa6 pz0 pz1 pz2 pz3 pz4 pz5 pz6
  obtain ⟨pa0, pa1, pa2, pa3, pa4, pa5, pa6⟩ := Gb8.out.box.all
  obtain ⟨pz0, pz1, pz2, pz3, pz4, pz5, pz6⟩ := L8.out.a.all
  go_wp2_with fail
  refine (HE.out _ _ L8.out.bel Gb8.out.row).mono ?_
  rintro e u9 ⟨rfl, hb⟩
  have L9 := Lib.hid (L8.out.next hb)
  have Gc9 := Lib.hid (Gc8.out.next hb)
  clear hb L8 Gb8 Gc8 pa0 pa1 pa2 pa3 pa4 pa5 pa6 pz0 pz1 pz2 pz3 pz4 pz5 pz6
  obtain ⟨pa0, pa1, pa2, pa3, pa4, pa5, pa6⟩ := Gc9.out.box.all
  obtain ⟨pz0, pz1, pz2, pz3, pz4, pz5, pz6⟩ := L9.out.a.all
  go_wp2_with fail
  refine (HE.out _ _ L9.out.bel Gc9.out.row).mono ?_
  rintro e u10 ⟨rfl, hb⟩
  have L10 := Lib.hid (L9.out.next hb)
  clear hb L9 Gc9 pa0 pa1 pa2 pa3 pa4 pa5 pa6 pz0 pz1 pz2 pz3 pz4 pz5 pz6
  clear HV HT1 HT2 HN1 HN2 HS1 HS2
  go_wp2
  refine wp_loop_rounds 3 ?_
  rw [rounds_succ]
  obtain ⟨pz0, pz1, pz2, pz3, pz4, pz5, pz6⟩ := L10.out.a.all
  go_wp2_with fail
  refine (HM1.out _ L10.out.bel).mono ?_
  rintro e u11 ⟨k11, rfl, hk, hrow, hb⟩
  have D11 := Lib.hid (Nat.lt_of_lt_of_le L10.out.a.lt hb.size)
  have L11 := Lib.hid ((L10.out.next hb).alloc (.cells #[.int .i64 W, .int .i64 H, .slice (some ⟨k11, 0, none⟩) (W * H) (W * H)] 24))
  have Gd11 := Lib.hid (Gv.new W H hrow)
  clear hk hrow hb L10 pz0 pz1 pz2 pz3 pz4 pz5 pz6
  obtain ⟨pa0, pa1, pa2, pa3, pa4, pa5, pa6⟩ := Gd11.out.box.all
  go_wp2_with fail
  refine (HM2.out _ _ Gd11.out.row).mono ?_
  rintro e u12 ⟨k12, rfl, hk, hrow, hb⟩
  have dw := D11.out
  have L12 := Lib.hid ((L11.out.next hb).sto (p := u11.heap.size) dw (.int .i64 W) (.int .i64 H) (.slice (some ⟨k12, 0, none⟩) (W * H) (W * H)))
  have hlt := Gd11.out.box.lt
  obtain ⟨po12_0, po12_1, po12_2, po12_3, po12_4, po12_5, po12_6⟩ := (Gd11.out.next hb).box.all
  have Gd12 := Lib.hid (Gv.put (X' := W) (Y' := H) (Gd11.out.next hb).box hrow (by omega))
  clear hk hrow hb hlt dw L11 Gd11 D11 pa0 pa1 pa2 pa3 pa4 pa5 pa6
  obtain ⟨pa0, pa1, pa2, pa3, pa4, pa5, pa6⟩ := Gd12.out.box.all
  obtain ⟨pz0, pz1, pz2, pz3, pz4, pz5, pz6⟩ := L12.out.a.all
  go_wp2_with fail
  refine (HE.out _ _ L12.out.bel Gd12.out.row).mono ?_
  rintro e u13 ⟨rfl, hb⟩
  have L13 := Lib.hid (L12.out.next hb)
  clear hb L12 Gd12 po12_0 po12_1 po12_2 po12_3 po12_4 po12_5 po12_6 pa0 pa1 pa2 pa3 pa4 pa5 pa6 pz0 pz1 pz2 pz3 pz4 pz5 pz6
  go_wp2
  rw [rounds_succ]
  obtain ⟨pz0, pz1, pz2, pz3, pz4, pz5, pz6⟩ := L13.out.a.all
  go_wp2_with fail
  refine (HM3.out _ L13.out.bel).mono ?_
  rintro e u14 ⟨k14, rfl, hk, hrow, hb⟩
  have D14 := Lib.hid (Nat.lt_of_lt_of_le L13.out.a.lt hb.size)
  have L14 := Lib.hid ((L13.out.next hb).alloc (.cells #[.int .i64 W, .int .i64 H, .slice (some ⟨k14, 0, none⟩) (W * H) (W * H)] 24))
  have Gd14 := Lib.hid (Gv.new W H hrow)
  clear hk hrow hb L13 pz0 pz1 pz2 pz3 pz4 pz5 pz6
  obtain ⟨pa0, pa1, pa2, pa3, pa4, pa5, pa6⟩ := Gd14.out.box.all
  go_wp2_with fail
  refine (HM4.out _ _ Gd14.out.row).mono ?_
  rintro e u15 ⟨k15, rfl, hk, hrow, hb⟩
  have dw := D14.out
  have L15 := Lib.hid ((L14.out.next hb).sto (p := u14.heap.size) dw (.int .i64 W) (.int .i64 H) (.slice (some ⟨k15, 0, none⟩) (W * H) (W * H)))
  have hlt := Gd14.out.box.lt
  obtain ⟨po15_0, po15_1, po15_2, po15_3, po15_4, po15_5, po15_6⟩ := (Gd14.out.next hb).box.all
  have Gd15 := Lib.hid (Gv.put (X' := W) (Y' := H) (Gd14.out.next hb).box hrow (by omega))
  clear hk hrow hb hlt dw L14 Gd14 D14 pa0 pa1 pa2 pa3 pa4 pa5 pa6
  obtain ⟨pa0, pa1, pa2, pa3, pa4, pa5, pa6⟩ := Gd15.out.box.all
  obtain ⟨pz0, pz1, pz2, pz3, pz4, pz5, pz6⟩ := L15.out.a.all
  go_wp2_with fail
  refine (HE.out _ _ L15.out.bel Gd15.out.row).mono ?_
  rintro e u16 ⟨rfl, hb⟩
  have L16 := Lib.hid (L15.out.next hb)
  clear hb L15 Gd15 po15_0 po15_1 po15_2 po15_3 po15_4 po15_5 po15_6 pa0 pa1 pa2 pa3 pa4 pa5 pa6 pz0 pz1 pz2 pz3 pz4 pz5 pz6
  go_wp2
  rw [rounds_succ]
  clear HM1 HM2 HM3 HM4
  obtain ⟨pz0, pz1, pz2, pz3, pz4, pz5, pz6⟩ := L16.out.a.all
  rcases HL.out with ⟨err, hne, hx, HTe⟩ | ⟨P, Q, fp, b1, b2, b3, b4, HT1, HT2, HT3, HT4, HT5⟩
  · have HTE := Lib.hid HTe
    have HX := Lib.hid hx
    have HNE := Lib.hid hne
    obtain ⟨d1, d2, d3⟩ := quo_bd W a1
    obtain ⟨d4, d5, d6⟩ := quo_bd H a3
    have z1 : ¬ W = 0 := by omega
    have z2 : ¬ H = 0 := by omega
    have z3 : (1 : Int) ≤ (W : Int) := by omega
    have z4 : (1 : Int) ≤ (H : Int) := by omega
    clear HL HTe hx
    go_wp2_with fail
    refine (HTE.out _ L16.out.bel).mono ?_
    rintro e u50 ⟨rfl, hb⟩
    have L50 := Lib.hid ((L16.out.next hb).alloc (.cells #[.int .i64 0, .int .i64 0, .slice none 0 0] 24))
    clear hb HTE L16 pz0 pz1 pz2 pz3 pz4 pz5 pz6
    obtain ⟨pz0, pz1, pz2, pz3, pz4, pz5, pz6⟩ := L50.out.a.all
    rcases HX.out with h1 | ⟨h1, h2⟩ | ⟨h1, h2, h3⟩ | ⟨h1, h2, h3, h4⟩
    all_goals
      go_wp2_with fail
      refine (HA.out _).mono ?_
      rintro e u51 ⟨rfl, hb⟩
      have L51 := Lib.hid (L50.out.next hb)
      clear hb L50 pz0 pz1 pz2 pz3 pz4 pz5 pz6
      go_wp2_with fail
      refine bodyPost_ret (v := .bool true) (by simp [results, Try.results8, go_sem]) rfl ⟨rfl, L51.out.bel⟩
  · have HT1 := Lib.hid HT1
    have HT2 := Lib.hid HT2
    have HT3 := Lib.hid HT3
    have HT4 := Lib.hid HT4
    have HT5 := Lib.hid HT5
    clear HL
    clear pz0 pz1 pz2 pz3 pz4 pz5 pz6
    obtain ⟨pz0, pz1, pz2, pz3, pz4, pz5, pz6⟩ := L16.out.a.all
    go_wp2_with fail
    refine (HT1.out _ L16.out.bel).mono ?_
    rintro e u17 ⟨k17, rfl, hk, hrow, hb⟩
    have L17 := Lib.hid ((L16.out.next hb).alloc (.cells #[.int .i64 P, .int .i64 Q, .slice (some ⟨k17, 0, none⟩) (P * Q) (P * Q)] 24))
    have Gt17 := Lib.hid (Gv.new P Q hrow)
    clear hk hrow hb L16 pz0 pz1 pz2 pz3 pz4 pz5 pz6
    obtain ⟨pa0, pa1, pa2, pa3, pa4, pa5, pa6⟩ := Gt17.out.box.all
    obtain ⟨pz0, pz1, pz2, pz3, pz4, pz5, pz6⟩ := L17.out.a.all
    go_wp2_with fail
    refine (HT2.out _ _ Gt17.out.row).mono ?_
    rintro e u18 ⟨k18, rfl, hk, hrow, hb⟩
    have L18 := Lib.hid ((L17.out.next hb).alloc (.cells #[.int .i64 W, .int .i64 H, .slice (some ⟨k18, 0, none⟩) (W * H) (W * H)] 24))
    have Gt18 := Lib.hid ((Gt17.out.next hb).alloc (.cells #[.int .i64 W, .int .i64 H, .slice (some ⟨k18, 0, none⟩) (W * H) (W * H)] 24))
    have Gp18 := Lib.hid (Gv.new W H hrow)
    clear hk hrow hb L17 Gt17 pa0 pa1 pa2 pa3 pa4 pa5 pa6 pz0 pz1 pz2 pz3 pz4 pz5 pz6
    obtain ⟨pa0, pa1, pa2, pa3, pa4, pa5, pa6⟩ := Gt18.out.box.all
    obtain ⟨pz0, pz1, pz2, pz3, pz4, pz5, pz6⟩ := L18.out.a.all
    go_wp2_with fail
    refine (HT3.out _ _ Gt18.out.row).mono ?_
    rintro e u19 ⟨k19, rfl, hk, hrow, hb⟩
    have L19 := Lib.hid ((L18.out.next hb).alloc (.cells #[.int .i64 W, .int .i64 H, .slice (some ⟨k19, 0, none⟩) (W * H) (W * H)] 24))
    have Gt19 := Lib.hid ((Gt18.out.next hb).alloc (.cells #[.int .i64 W, .int .i64 H, .slice (some ⟨k19, 0, none⟩) (W * H) (W * H)] 24))
    have Gp19 := Lib.hid ((Gp18.out.next hb).alloc (.cells #[.int .i64 W, .int .i64 H, .slice (some ⟨k19, 0, none⟩) (W * H) (W * H)] 24))
    have Gq19 := Lib.hid (Gv.new W H hrow)
    clear hk hrow hb L18 Gt18 Gp18 pa0 pa1 pa2 pa3 pa4 pa5 pa6 pz0 pz1 pz2 pz3 pz4 pz5 pz6
    obtain ⟨pa0, pa1, pa2, pa3, pa4, pa5, pa6⟩ := Gt19.out.box.all
    obtain ⟨pz0, pz1, pz2, pz3, pz4, pz5, pz6⟩ := L19.out.a.all
    go_wp2_with fail
    refine (HT4.out _ _ Gt19.out.row).mono ?_
    rintro e u20 ⟨k20, rfl, hk, hrow, hb⟩
    have L20 := Lib.hid ((L19.out.next hb).alloc (.cells #[.int .i64 P, .int .i64 Q, .slice (some ⟨k20, 0, none⟩) (P * Q) (P * Q)] 24))
    have Gt20 := Lib.hid ((Gt19.out.next hb).alloc (.cells #[.int .i64 P, .int .i64 Q, .slice (some ⟨k20, 0, none⟩) (P * Q) (P * Q)] 24))
    have Gp20 := Lib.hid ((Gp19.out.next hb).alloc (.cells #[.int .i64 P, .int .i64 Q, .slice (some ⟨k20, 0, none⟩) (P * Q) (P * Q)] 24))
    have Gq20 := Lib.hid ((Gq19.out.next hb).alloc (.cells #[.int .i64 P, .int .i64 Q, .slice (some ⟨k20, 0, none⟩) (P * Q) (P * Q)] 24))
    have Gs20 := Lib.hid (Gv.new P Q hrow)
    clear hk hrow hb L19 Gt19 Gp19 Gq19 pa0 pa1 pa2 pa3 pa4 pa5 pa6 pz0 pz1 pz2 pz3 pz4 pz5 pz6
    obtain ⟨pa0, pa1, pa2, pa3, pa4, pa5, pa6⟩ := Gp20.out.box.all
    obtain ⟨pz0, pz1, pz2, pz3, pz4, pz5, pz6⟩ := L20.out.a.all
    go_wp2_with fail
    refine (HE.out _ _ L20.out.bel Gp20.out.row).mono ?_
    rintro e u21 ⟨rfl, hb⟩
    have L21 := Lib.hid (L20.out.next hb)
    have Gt21 := Lib.hid (Gt20.out.next hb)
    have Gq21 := Lib.hid (Gq20.out.next hb)
    have Gs21 := Lib.hid (Gs20.out.next hb)
    clear hb L20 Gp20 Gt20 Gq20 Gs20 pa0 pa1 pa2 pa3 pa4 pa5 pa6 pz0 pz1 pz2 pz3 pz4 pz5 pz6
    obtain ⟨pa0, pa1, pa2, pa3, pa4, pa5, pa6⟩ := Gq21.out.box.all
    obtain ⟨pz0, pz1, pz2, pz3, pz4, pz5, pz6⟩ := L21.out.a.all
    go_wp2_with fail
    refine (HE.out _ _ L21.out.bel Gq21.out.row).mono ?_
    rintro e u22 ⟨rfl, hb⟩
    have L22 := Lib.hid (L21.out.next hb)
    have Gt22 := Lib.hid (Gt21.out.next hb)
    have Gs22 := Lib.hid (Gs21.out.next hb)
    clear hb L21 Gq21 Gt21 Gs21 pa0 pa1 pa2 pa3 pa4 pa5 pa6 pz0 pz1 pz2 pz3 pz4 pz5 pz6
    obtain ⟨pa0, pa1, pa2, pa3, pa4, pa5, pa6⟩ := Gs22.out.box.all
    obtain ⟨pb0, pb1, pb2, pb3, pb4, pb5, pb6⟩ := Gt22.out.box.all
    go_wp2_with fail
    refine (HT5.out _ _ _ Gs22.out.row Gt22.out.row).mono ?_
    rintro e u23 ⟨rfl, hb⟩
    have L23 := Lib.hid (L22.out.next hb)
    clear hb L22 Gs22 Gt22 pa0 pa1 pa2 pa3 pa4 pa5 pa6 pb0 pb1 pb2 pb3 pb4 pb5 pb6
    go_wp2_with fail
    refine (HA.out _).mono ?_
    rintro e u24 ⟨rfl, hb⟩
    have L24 := Lib.hid (L23.out.next hb)
    clear hb L23 
    go_wp2_with fail
    refine bodyPost_ret (v := .bool true) (by simp [results, Try.results8, go_sem]) rfl ⟨rfl, L24.out.bel⟩
end Go.Proofs.Ytnamjpdbadjgpaa
