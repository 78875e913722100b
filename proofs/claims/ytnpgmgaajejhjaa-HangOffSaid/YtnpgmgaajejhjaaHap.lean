/- Accept of the program. -/
import Derived.Test.YtnpgmgaajejhjaaHac
namespace Go.Proofs.Ytnpgmgaajejhjaa
open Go.RowKit
set_option maxRecDepth 100000
set_option linter.unusedVariables false
set_option linter.unusedSimpArgs false

set_option maxHeartbeats 1600000 in
theorem hasall_any (W H N : Nat) (hNN : W + H = N) (A : Option Addr) (M c : Nat) (D : Option Addr) (n d : Nat) (l : Nat → Int) (w : World) (hW : W ≤ 64) (hH : H ≤ 64) (hn : n ≤ 30000) (hr : L2.Holds w w.heap.size D n l) :
    Calls Try.prog 88 #[.agg #[.int .i64 (W : Nat), .int .i64 (H : Nat), .slice A M c], .slice D n d] w fun e w' => e = .returned (.bool ((List.range N).all (mem n l))) ∧ Below w.heap.size w w' := by
  have HC := Lib.hid (fun u (h : Below w.heap.size w u) (a : Nat) => contains_any D n d l a u hn ((hr.below h).more h.size))
  have X0 := Lib.hid (Box.new w (W : Nat) (H : Nat) (.slice A (M) c))
  have LB0 := Lib.hid (show Below w.heap.size w (w.alloc (.cells #[.int .i64 (W : Nat), .int .i64 (H : Nat), (.slice A (M) c)] 24)) from (Below.refl _ _).alloc (Nat.le_refl _) _)
  clear hr
  go_enter Try.func88, Try.ntmps88
  go_wp2_with fail
  generalize w.alloc (.cells #[.int .i64 (W : Nat), .int .i64 (H : Nat), .slice A M c] 24) = w0 at *
  obtain ⟨q0, q1, q2, q3, q4, q5, q6⟩ := X0.out.all
  go_wp2
  clear q0 q1 q2 q3 q4 q5 q6
  go_loopw [11] (fun i wr => ∃ k : Nat, k ≤ N ∧ i = .int .i64 k ∧ Hid ((List.range k).all (mem n l) = true) ∧ Hid (Below w.heap.size w wr)) (fun i _ => N - (intOf i).toNat)
  case atStart => exact ⟨0, Nat.zero_le _, rfl, Lib.hid rfl, LB0⟩
  case round =>
    obtain ⟨k, hk, rfl, HS, HL⟩ := hrel
    by_cases hlt : k < N
    · have y1 : (k : Int) < (W : Int) + (H : Int) := by omega
      go_wp2_with fail
      with_reducible refine Calls.mono (HC.out _ HL.out k) ?_
      rintro e w1 ⟨rfl, hb⟩
      have HL1 := Lib.hid (HL.out.trans (hb.mono HL.out.size))
      clear hb
      cases hm : mem n l k
      · have E := Lib.hid (show (List.range N).all (mem n l) = false by rw [List.all_eq_false]; exact ⟨k, List.mem_range.2 hlt, by rw [hm]; simp⟩)
        clear hm
        go_wp2
        go_ret
        exact ⟨ret_bool E.out.symm, HL1.out⟩
      · have E := Lib.hid (show (List.range (k + 1)).all (mem n l) = true by rw [List.range_succ, List.all_append, HS.out]; simp [hm])
        clear hm
        go_wp2
        go_roundw
        case rel => exact ⟨k + 1, by omega, by go_num, E, HL1⟩
        case measure => simp [intOf]; omega
    · have e : k = N := by omega
      have y1 : ¬ (k : Int) < (W : Int) + (H : Int) := by omega
      have E := Lib.hid (show (List.range N).all (mem n l) = true by rw [← e]; exact HS.out)
      clear e
      go_wp2
      go_ret
      exact ⟨ret_bool E.out.symm, HL.out⟩
/-- A list is a walk. -/
def iswB (R : Nat → Nat → Bool) (N n : Nat) (l : Nat → Int) : Bool :=
  decide (2 ≤ n) && (l 0 == l (n - 1)) && ((List.range n).all fun i => decide (0 ≤ l i) && decide (l i < (N : Int))) && ((List.range (n - 1)).all fun i => R (l i).toNat (l (i + 1)).toNat)
theorem accB_eq (R : Nat → Nat → Bool) (N n : Nat) (l : Nat → Int) : accB R N n l = (iswB R N n l && (List.range N).all (mem n l)) := rfl
theorem iswB_iff {R : Nat → Nat → Bool} {N n : Nat} {l : Nat → Int} : iswB R N n l = true ↔ 2 ≤ n ∧ l 0 = l (n - 1) ∧ pre R N l n := by
  unfold iswB pre
  rw [Bool.and_eq_true, Bool.and_eq_true, Bool.and_eq_true, decide_eq_true_iff, List.all_eq_true, List.all_eq_true, and_assoc, and_assoc]
  constructor
  · rintro ⟨h1, h2, h3, h4⟩
    refine ⟨h1, eq_of_beq h2, fun i hi => ?_, fun i hi => h4 i (List.mem_range.2 (by omega))⟩
    have := h3 i (List.mem_range.2 hi)
    simpa using this
  · rintro ⟨h1, h2, h3, h4⟩
    refine ⟨h1, beq_iff_eq.2 h2, fun i hi => ?_, fun i hi => h4 i (by have := List.mem_range.1 hi; omega)⟩
    have := h3 i (List.mem_range.1 hi)
    simpa using this
theorem isw_no {R : Nat → Nat → Bool} {N n : Nat} {l : Nat → Int} (h : ¬ (2 ≤ n ∧ l 0 = l (n - 1) ∧ pre R N l n)) : iswB R N n l = false := by
  cases ha : iswB R N n l
  · rfl
  · exact absurd (iswB_iff.1 ha) h
set_option maxHeartbeats 3200000 in
theorem iswalk_any (W H N : Nat) (hNN : W + H = N) (A : Option Addr) (c : Nat) (g : Nat → Bool) (D : Option Addr) (n d : Nat) (l : Nat → Int) (w : World) (hg : Holds w w.heap.size A (W * H) g) (hW0 : 1 ≤ W) (hW : W ≤ 64) (hH0 : 1 ≤ H) (hH : H ≤ 64) (hn : n ≤ 20100) (hcp : n ≤ d) (hr : L2.Holds w w.heap.size D n l) :
    Calls Try.prog 87 #[.agg #[.int .i64 (W : Nat), .int .i64 (H : Nat), .slice A (W * H) c], .slice D n d] w fun e w' => e = .returned (.bool (iswB (ov W g) N n l)) ∧ Below w.heap.size w w' := by
  have HR := Lib.hid hr
  have HT := Lib.hid (fun u t => isthr_any W H A (W * H) c t u hW hH)
  have HA := Lib.hid (fun u (h : Below w.heap.size w u) a b ha hb => isover_any W H A c g a b u ((hg.below h).more h.size) hW hH ha hb)
  rw [hNN] at HT HA
  have hN : N ≤ 128 := by omega
  have X0 := Lib.hid (Box.new w (W : Nat) (H : Nat) (.slice A (W * H) c))
  have LB0 := Lib.hid (show Below w.heap.size w (w.alloc (.cells #[.int .i64 (W : Nat), .int .i64 (H : Nat), (.slice A (W * H) c)] 24)) from (Below.refl _ _).alloc (Nat.le_refl _) _)
  clear hg hr hNN
  generalize W * H = M at *
  go_enter Try.func87, Try.ntmps87
  go_wp2_with fail
  generalize w.alloc (.cells #[.int .i64 (W : Nat), .int .i64 (H : Nat), .slice A M c] 24) = w0 at *
  obtain ⟨I, Wf, i0, h0, hbf, hcl⟩ := family w0
  have HCL := Lib.hid hcl
  have BF := Lib.hid hbf
  clear hbf hcl
  have hne : Nonempty I := ⟨i0⟩
  have x0 := fun n => (X0.out.below (BF.out n) X0.out.lt).c0
  have x1 := fun n => (X0.out.below (BF.out n) X0.out.lt).c1
  have x2 := fun n => (X0.out.below (BF.out n) X0.out.lt).c2
  by_cases h2 : 2 ≤ n
  · have z2' : decide (n < 2) = false := by simp; omega
    have z2'' : decide ((n : Int) < 2) = false := by simp; omega
    have y5 : IntKind.i64.wrap ((n : Int) - 1) = (n : Int) - 1 := IntWalk.i64_in _ (by omega)
    have y6 : 0 ≤ (n : Int) - 1 := by omega
    have y6' : 1 ≤ n := by omega
    have y7 : (n : Int) - 1 < (n : Int) := by omega
    have y8 : (0 : Int) < (n : Int) := by omega
    have ea : ((n : Int) - 1).toNat = n - 1 := by omega
    obtain ⟨b, o, rfl, hbl, hc⟩ := (HR.out.below LB0.out) (by omega)
    have c1 := hc 0 (by omega)
    have c2 := hc (n - 1) (by omega)
    rw [Nat.add_zero] at c1
    clear hc
    have hbs := LB0.out.size
    obtain ⟨u, hu⟩ : ∃ u, l 0 = u := ⟨_, rfl⟩
    obtain ⟨v, hv⟩ : ∃ v, l (n - 1) = v := ⟨_, rfl⟩
    rw [hu] at c1
    rw [hv] at c2
    have HU := Lib.hid hu
    have HV := Lib.hid hv
    clear hu hv
    have x3 := fun n_ => ((BF.out n_).cell (p := ⟨b, o, none⟩) (by show b < _; omega)).trans c1
    have x4 := fun n_ => ((BF.out n_).cell (p := ⟨b, o + (n - 1), none⟩) (by show b < _; omega)).trans c2
    by_cases huv : u = v
    · have z3 : (u != v) = false := by simp [huv]
      have HUV := Lib.hid (show l 0 = l (n - 1) by rw [HU.out, HV.out, huv])
      clear HV
      subst huv
      by_cases ht : 0 ≤ u ∧ u < (N : Int)
      · have HTu := Lib.hid (fun v => HT.out v u)
        rw [decide_eq_true ht] at HTu
        have HTT := Lib.hid ht
        clear ht
        have C1 := Lib.hid (fun n => (HTu.out (Wf n)).mono fun e w2 h => (⟨h.1, HCL.out n _ h.2⟩ : _ ∧ ∃ m, w2 = Wf m))
        refine wp_region_fam Wf i0 h0 (by kernel_rfl) (by kernel_rfl) ?_
        clear h0
        repeat (go_big_quiet_step (first | exact rfl | (go_at_call 84; with_reducible exact C1.out _)))
        refine wpQuiet_nil ?_
        rintro _ ⟨nq, rfl⟩
        have LB1 := Lib.hid (LB0.out.trans ((BF.out nq).mono LB0.out.size))
        have X1 := Lib.hid (X0.out.below (BF.out nq) X0.out.lt)
        clear x0 x1 x2 x3 x4 C1 X0 LB0 c1 c2 HTu y5 y6 y7 ea
        generalize Wf nq = w4 at *
        have y9 : IntKind.i64.wrap ((n : Int) - 1) = (n : Int) - 1 := IntWalk.i64_in _ (by omega)
        go_wp2
        obtain ⟨m, hm⟩ : ∃ m, n - 1 = m := ⟨_, rfl⟩
        rw [hm]
        have HM := Lib.hid hm
        have hmn : n = m + 1 := by omega
        have HMN := Lib.hid hmn
        clear hm hmn
        go_loopw [33] (fun i wr => ∃ k : Nat, k ≤ m ∧ i = .int .i64 k ∧ Hid (pre (ov W g) N l (k + 1)) ∧ Hid (Box wr w.heap.size (W : Nat) (H : Nat) (.slice A M c)) ∧ Hid (Below w.heap.size w wr)) (fun i _ => m - (intOf i).toNat)
        case atStart => exact ⟨0, Nat.zero_le _, rfl, Lib.hid ⟨fun i hi => by have e : i = 0 := by omega
                                                                              rw [e, HU.out]; exact HTT.out, fun i hi => by omega⟩, X1, LB1⟩
        case round =>
          obtain ⟨k, hk, rfl, HS, HX, HL⟩ := hrel
          clear X1 LB1 HTT
          by_cases hlt : k < m
          · have hkn : k + 1 < n := by have := HMN.out; omega
            obtain ⟨b', o', eb, hbl', hc⟩ := (HR.out.below HL.out) (by omega)
            cases eb
            have c1 := hc k (by omega)
            have c2 := hc (k + 1) hkn
            rw [show o + (k + 1) = o + 1 + k by omega] at c2
            clear hc
            have hbs := HL.out.size
            have y1 : (0 : Int) ≤ (k : Int) := by omega
            have y2 : (k : Int) < (m : Int) := by omega
            have y3 : (k : Int) < (n : Int) := by omega
            have hp0 := HS.out.1 k (by omega)
            obtain ⟨p, hp⟩ : ∃ p, l k = p := ⟨_, rfl⟩
            rw [hp] at c1 hp0
            have HP := Lib.hid hp
            obtain ⟨v, hv⟩ : ∃ v, l (k + 1) = v := ⟨_, rfl⟩
            rw [hv] at c2
            have HV := Lib.hid hv
            clear hp hv
            obtain ⟨pp, hpp⟩ : ∃ a : Nat, p = (a : Int) := ⟨p.toNat, by omega⟩
            subst hpp
            have hp2 : pp < N := by omega
            go_wp2
            obtain ⟨I2, Wf2, i02, h02, hbf, hcl⟩ := family wr
            have HCL2 := Lib.hid hcl
            have BF2 := Lib.hid hbf
            clear hbf hcl
            have hne2 : Nonempty I2 := ⟨i02⟩
            have x0 := fun n => (HX.out.below (BF2.out n) HX.out.lt).c0
            have x1 := fun n => (HX.out.below (BF2.out n) HX.out.lt).c1
            have x2 := fun n => (HX.out.below (BF2.out n) HX.out.lt).c2
            have x3 := fun n_ => ((BF2.out n_).cell (p := ⟨b, o + k, none⟩) (by show b < _; omega)).trans c1
            by_cases ht : 0 ≤ v ∧ v < (N : Int)
            · have HTu := Lib.hid (fun z => HT.out z v)
              rw [decide_eq_true ht] at HTu
              have HTT := Lib.hid ht
              clear ht
              have C1 := Lib.hid (fun n => (HTu.out (Wf2 n)).mono fun e w2 h => (⟨h.1, HCL2.out n _ h.2⟩ : _ ∧ ∃ m, w2 = Wf2 m))
              obtain ⟨vv, hvv⟩ : ∃ a : Nat, v = (a : Int) := ⟨v.toNat, by have := HTT.out; omega⟩
              subst hvv
              have hv2 : vv < N := by have := HTT.out; omega
              obtain ⟨bo, hbo⟩ : ∃ q, ov W g pp vv = q := ⟨_, rfl⟩
              have C2 := Lib.hid (fun n => (HA.out (Wf2 n) (HL.out.trans ((BF2.out n).mono HL.out.size)) pp vv hp2 hv2).mono fun e w2 h => (⟨h.1, HCL2.out n _ h.2⟩ : _ ∧ ∃ m, w2 = Wf2 m))
              rw [hbo] at C2
              have HBO := Lib.hid hbo
              clear hbo hp0
              cases bo
              · have E := Lib.hid (show iswB (ov W g) N n l = false from isw_no fun h => by
                  have h1 := h.2.2.2 k hkn
                  rw [HP.out, HV.out, Int.toNat_natCast, Int.toNat_natCast, HBO.out] at h1
                  cases h1)
                refine wp_region_fam Wf2 i02 h02 (by kernel_rfl) (by kernel_rfl) ?_
                clear h02
                repeat (go_big_quiet_step (first | exact rfl | (go_at_call 84; with_reducible exact C1.out _) | (go_at_call 85; with_reducible exact C2.out _)))
                refine wpQuiet_nil ?_
                rintro _ ⟨nq2, rfl⟩
                have HX1 := Lib.hid (HX.out.below (BF2.out nq2) HX.out.lt)
                have HL1 := Lib.hid (HL.out.trans ((BF2.out nq2).mono HL.out.size))
                clear x0 x1 x2 x3 c1 c2 C1 C2 HX HL
                generalize Wf2 nq2 = w6 at *
                go_wp2
                go_ret
                exact ⟨ret_bool E.out.symm, HL1.out⟩
              · have E := Lib.hid (show pre (ov W g) N l (k + 1 + 1) from pre_next HS.out (by rw [HV.out]; exact HTT.out) (fun _ => by rw [show k + 1 - 1 = k by omega, HP.out, HV.out, Int.toNat_natCast, Int.toNat_natCast]; exact HBO.out))
                refine wp_region_fam Wf2 i02 h02 (by kernel_rfl) (by kernel_rfl) ?_
                clear h02
                repeat (go_big_quiet_step (first | exact rfl | (go_at_call 84; with_reducible exact C1.out _) | (go_at_call 85; with_reducible exact C2.out _)))
                refine wpQuiet_nil ?_
                rintro _ ⟨nq2, rfl⟩
                have HX1 := Lib.hid (HX.out.below (BF2.out nq2) HX.out.lt)
                have HL1 := Lib.hid (HL.out.trans ((BF2.out nq2).mono HL.out.size))
                clear x0 x1 x2 x3 c1 c2 C1 C2 HX HL
                generalize Wf2 nq2 = w6 at *
                go_wp2
                go_roundw
                case rel => exact ⟨k + 1, by omega, by go_num, E, HX1, HL1⟩
                case measure => simp [intOf]; omega
            · have HTu := Lib.hid (fun z => HT.out z v)
              rw [decide_eq_false ht] at HTu
              have E := Lib.hid (show iswB (ov W g) N n l = false from isw_no fun h => ht (by have h1 := h.2.2.1 (k + 1) hkn; rwa [HV.out] at h1))
              clear ht
              have C1 := Lib.hid (fun n => (HTu.out (Wf2 n)).mono fun e w2 h => (⟨h.1, HCL2.out n _ h.2⟩ : _ ∧ ∃ m, w2 = Wf2 m))
              refine wp_region_fam Wf2 i02 h02 (by kernel_rfl) (by kernel_rfl) ?_
              clear h02
              repeat (go_big_quiet_step (first | exact rfl | (go_at_call 84; with_reducible exact C1.out _)))
              refine wpQuiet_nil ?_
              rintro _ ⟨nq2, rfl⟩
              have HX1 := Lib.hid (HX.out.below (BF2.out nq2) HX.out.lt)
              have HL1 := Lib.hid (HL.out.trans ((BF2.out nq2).mono HL.out.size))
              clear x0 x1 x2 x3 c1 c2 C1 HX HL
              generalize Wf2 nq2 = w6 at *
              go_wp2
              go_ret
              exact ⟨ret_bool E.out.symm, HL1.out⟩
          · have e : k = m := by omega
            have E := Lib.hid (show iswB (ov W g) N n l = true from iswB_iff.2 ⟨h2, HUV.out, by rw [HMN.out, ← e]; exact HS.out⟩)
            have y2 : ¬ (k : Int) < (m : Int) := by omega
            clear e
            go_wp2
            go_ret
            exact ⟨ret_bool E.out.symm, HL.out⟩
      · have HTu := Lib.hid (fun v => HT.out v u)
        rw [decide_eq_false ht] at HTu
        have E := Lib.hid (show iswB (ov W g) N n l = false from isw_no fun h => ht (by have := h.2.2.1 0 (by omega); rwa [HU.out] at this))
        clear ht
        have C1 := Lib.hid (fun n => (HTu.out (Wf n)).mono fun e w2 h => (⟨h.1, HCL.out n _ h.2⟩ : _ ∧ ∃ m, w2 = Wf m))
        refine wp_region_fam Wf i0 h0 (by kernel_rfl) (by kernel_rfl) ?_
        clear h0
        repeat (go_big_quiet_step (first | exact rfl | (go_at_call 84; with_reducible exact C1.out _)))
        refine wpQuiet_nil ?_
        rintro _ ⟨nq, rfl⟩
        have LB1 := Lib.hid (LB0.out.trans ((BF.out nq).mono LB0.out.size))
        clear x0 x1 x2 x3 x4 C1
        generalize Wf nq = w4 at *
        go_wp2
        go_ret
        exact ⟨ret_bool E.out.symm, LB1.out⟩
    · have z3 : (u != v) = true := by simp [huv]
      have E := Lib.hid (show iswB (ov W g) N n l = false from isw_no fun h => huv (by have := h.2.1; rwa [HU.out, HV.out] at this))
      refine wp_region_fam Wf i0 h0 (by kernel_rfl) (by kernel_rfl) ?_
      clear h0
      repeat (go_big_quiet_step (first | exact rfl))
      refine wpQuiet_nil ?_
      rintro _ ⟨nq, rfl⟩
      have LB1 := Lib.hid (LB0.out.trans ((BF.out nq).mono LB0.out.size))
      clear x0 x1 x2 x3 x4
      generalize Wf nq = w4 at *
      go_wp2
      go_ret
      exact ⟨ret_bool E.out.symm, LB1.out⟩
  · have z2' : decide (n < 2) = true := by simp; omega
    have z2'' : decide ((n : Int) < 2) = true := by simp; omega
    have E := Lib.hid (show iswB (ov W g) N n l = false from isw_no fun h => h2 h.1)
    refine wp_region_fam Wf i0 h0 (by kernel_rfl) (by kernel_rfl) ?_
    clear h0
    repeat (go_big_quiet_step (first | exact rfl))
    refine wpQuiet_nil ?_
    rintro _ ⟨nq, rfl⟩
    have LB1 := Lib.hid (LB0.out.trans ((BF.out nq).mono LB0.out.size))
    clear x0 x1 x2
    generalize Wf nq = w4 at *
    go_wp2
    go_ret
    exact ⟨ret_bool E.out.symm, LB1.out⟩
theorem paccept_err {W H : Int} {A : Option Addr} {N c : Nat} (D : Option Addr) (n d : Nat) (z : Int) (hN : N ≤ 4200) (hz : chk W H N = z) (hne : (z != 0) = true) (w : World) :
    Calls Try.prog 47 #[.agg #[.int .i64 W, .int .i64 H, .slice A N c], .slice D n d] w (BRet w false z) := by
  have HK := Lib.hid (fun u => chk_err (A := A) (c := c) hN hz u)
  have LB0 := Lib.hid (show Below w.heap.size w (w.alloc (.cells #[.int .i64 W, .int .i64 H, (.slice A N c)] 24)) from (Below.refl _ _).alloc (Nat.le_refl _) _)
  clear hz
  go_enter Try.func47, Try.ntmps47
  go_wp2_with fail
  with_reducible refine Calls.mono (HK.out _) ?_
  rintro e w1 ⟨rfl, hb⟩
  have LB1 := Lib.hid (LB0.out.trans (hb.mono LB0.out.size))
  clear hb LB0
  go_wp2
  go_ret2
  exact ⟨rfl, LB1.out⟩
theorem paccept_many (W H : Nat) (A : Option Addr) (c : Nat) (D : Option Addr) (n d : Nat) (w : World) (hW0 : 1 ≤ W) (hW : W ≤ 64) (hH0 : 1 ≤ H) (hH : H ≤ 64) (hn : 20000 < n) :
    Calls Try.prog 47 #[.agg #[.int .i64 (W : Nat), .int .i64 (H : Nat), .slice A (W * H) c], .slice D n d] w (BRet w false 4) := by
  have HK := Lib.hid (fun u => chk_valid A c u hW0 hW hH0 hH)
  have z1 : (20000 : Int) < (n : Int) := by omega
  have X0 := Lib.hid (Box.new w (W : Nat) (H : Nat) (.slice A (W * H) c))
  have LB0 := Lib.hid (show Below w.heap.size w (w.alloc (.cells #[.int .i64 (W : Nat), .int .i64 (H : Nat), (.slice A (W * H) c)] 24)) from (Below.refl _ _).alloc (Nat.le_refl _) _)
  generalize W * H = M at *
  go_enter Try.func47, Try.ntmps47
  go_wp2_with fail
  generalize w.alloc (.cells #[.int .i64 (W : Nat), .int .i64 (H : Nat), .slice A M c] 24) = w0 at *
  obtain ⟨q0, q1, q2, q3, q4, q5, q6⟩ := X0.out.all
  go_wp2_with fail
  clear q0 q1 q2 q3 q4 q5 q6
  with_reducible refine Calls.mono (HK.out _) ?_
  rintro e w1 ⟨rfl, hb⟩
  have X1 := Lib.hid (X0.out.below hb X0.out.lt)
  have LB1 := Lib.hid (LB0.out.trans (hb.mono LB0.out.size))
  clear hb X0 LB0
  obtain ⟨q0, q1, q2, q3, q4, q5, q6⟩ := X1.out.all
  clear q0 q1 q2 q3 q4 q5 q6
  go_wp2
  go_ret2
  exact ⟨rfl, LB1.out⟩
set_option maxHeartbeats 800000 in
theorem paccept_ok (W H N : Nat) (hNN : W + H = N) (A : Option Addr) (c : Nat) (g : Nat → Bool) (D : Option Addr) (n d : Nat) (l : Nat → Int) (w : World) (hg : Holds w w.heap.size A (W * H) g) (hW0 : 1 ≤ W) (hW : W ≤ 64) (hH0 : 1 ≤ H) (hH : H ≤ 64) (hn : n ≤ 20100) (hcp : n ≤ d) (hr : L2.Holds w w.heap.size D n l) (hm : ¬ 20000 < n) :
    Calls Try.prog 47 #[.agg #[.int .i64 (W : Nat), .int .i64 (H : Nat), .slice A (W * H) c], .slice D n d] w (BRet w (accB (ov W g) N n l) 0) := by
  have HK := Lib.hid (fun u => chk_valid A c u hW0 hW hH0 hH)
  have HI := Lib.hid (fun u (h : Below w.heap.size w u) => iswalk_any W H N hNN A c g D n d l u ((hg.below h).more h.size) hW0 hW hH0 hH hn hcp ((hr.below h).more h.size))
  have HH := Lib.hid (fun u (h : Below w.heap.size w u) => hasall_any W H N hNN A (W * H) c D n d l u hW hH (by omega) ((hr.below h).more h.size))
  rw [accB_eq]
  have z1 : ¬ (20000 : Int) < (n : Int) := by omega
  have X0 := Lib.hid (Box.new w (W : Nat) (H : Nat) (.slice A (W * H) c))
  have LB0 := Lib.hid (show Below w.heap.size w (w.alloc (.cells #[.int .i64 (W : Nat), .int .i64 (H : Nat), (.slice A (W * H) c)] 24)) from (Below.refl _ _).alloc (Nat.le_refl _) _)
  clear hg hr hNN
  generalize W * H = M at *
  generalize (List.range N).all (mem n l) = q2 at *
  generalize iswB (ov W g) N n l = q1 at *
  cases q1
  · show Calls _ _ _ _ (BRet w false 0)
    go_enter Try.func47, Try.ntmps47
    go_wp2_with fail
    generalize w.alloc (.cells #[.int .i64 (W : Nat), .int .i64 (H : Nat), .slice A M c] 24) = w0 at *
    obtain ⟨q0, q1, q2, q3, q4, q5, q6⟩ := X0.out.all
    go_wp2_with fail
    clear q0 q1 q2 q3 q4 q5 q6
    with_reducible refine Calls.mono (HK.out _) ?_
    rintro e w1 ⟨rfl, hb⟩
    have X1 := Lib.hid (X0.out.below hb X0.out.lt)
    have LB1 := Lib.hid (LB0.out.trans (hb.mono LB0.out.size))
    clear hb X0 LB0
    obtain ⟨q0, q1, q2, q3, q4, q5, q6⟩ := X1.out.all
    go_wp2_with fail
    clear q0 q1 q2 q3 q4 q5 q6
    with_reducible refine Calls.mono (HI.out _ LB1.out) ?_
    rintro e w2 ⟨rfl, hb⟩
    have X2 := Lib.hid (X1.out.below hb X1.out.lt)
    have LB2 := Lib.hid (LB1.out.trans (hb.mono LB1.out.size))
    clear hb X1 LB1
    obtain ⟨q0, q1, q2, q3, q4, q5, q6⟩ := X2.out.all
    clear q0 q1 q2 q3 q4 q5 q6
    go_wp2
    go_ret2
    exact ⟨rfl, LB2.out⟩
  · show Calls _ _ _ _ (BRet w q2 0)
    go_enter Try.func47, Try.ntmps47
    go_wp2_with fail
    generalize w.alloc (.cells #[.int .i64 (W : Nat), .int .i64 (H : Nat), .slice A M c] 24) = w0 at *
    obtain ⟨q0, q1, q2, q3, q4, q5, q6⟩ := X0.out.all
    go_wp2_with fail
    clear q0 q1 q2 q3 q4 q5 q6
    with_reducible refine Calls.mono (HK.out _) ?_
    rintro e w1 ⟨rfl, hb⟩
    have X1 := Lib.hid (X0.out.below hb X0.out.lt)
    have LB1 := Lib.hid (LB0.out.trans (hb.mono LB0.out.size))
    clear hb X0 LB0
    obtain ⟨q0, q1, q2, q3, q4, q5, q6⟩ := X1.out.all
    go_wp2_with fail
    clear q0 q1 q2 q3 q4 q5 q6
    with_reducible refine Calls.mono (HI.out _ LB1.out) ?_
    rintro e w2 ⟨rfl, hb⟩
    have X2 := Lib.hid (X1.out.below hb X1.out.lt)
    have LB2 := Lib.hid (LB1.out.trans (hb.mono LB1.out.size))
    clear hb X1 LB1
    obtain ⟨q0, q1, q2, q3, q4, q5, q6⟩ := X2.out.all
    go_wp2_with fail
    clear q0 q1 q2 q3 q4 q5 q6
    with_reducible refine Calls.mono (HH.out _ LB2.out) ?_
    rintro e w3 ⟨rfl, hb⟩
    have X3 := Lib.hid (X2.out.below hb X2.out.lt)
    have LB3 := Lib.hid (LB2.out.trans (hb.mono LB2.out.size))
    clear hb X2 LB2
    obtain ⟨q0, q1, q2, q3, q4, q5, q6⟩ := X3.out.all
    clear q0 q1 q2 q3 q4 q5 q6
    go_wp2
    go_ret2
    exact ⟨rfl, LB3.out⟩
end Go.Proofs.Ytnpgmgaajejhjaa
