/- Accept of both sides. -/
import Derived.Test.YtnpgmgaajejhjaaHrg
namespace Go.Proofs.Ytnpgmgaajejhjaa
open Go.RowKit
set_option maxRecDepth 100000
set_option linter.unusedVariables false
set_option linter.unusedSimpArgs false

/-- The first k numbers are threads, each over the next one. -/
def pre (R : Nat → Nat → Bool) (N : Nat) (l : Nat → Int) (k : Nat) : Prop := (∀ i, i < k → 0 ≤ l i ∧ l i < (N : Int)) ∧ ∀ i, i + 1 < k → R (l i).toNat (l (i + 1)).toNat = true
theorem pre_next {R : Nat → Nat → Bool} {N k : Nat} {l : Nat → Int} (h : pre R N l k) (h1 : 0 ≤ l k ∧ l k < (N : Int)) (h2 : 0 < k → R (l (k - 1)).toNat (l k).toNat = true) : pre R N l (k + 1) := by
  refine ⟨fun i hi => ?_, fun i hi => ?_⟩
  · rcases Nat.lt_succ_iff_lt_or_eq.1 hi with c | c
    · exact h.1 i c
    · rw [c]; exact h1
  · by_cases e : i + 1 < k
    · exact h.2 i e
    · have := h2 (by omega)
      rwa [show k - 1 = i by omega, show k = i + 1 by omega] at this
theorem acc_t {R : Nat → Nat → Bool} {N n k : Nat} {l : Nat → Int} (hk : k < n) (h : ¬ (0 ≤ l k ∧ l k < (N : Int))) : accB R N n l = false := by
  cases ha : accB R N n l
  · rfl
  · exact absurd ((accB_iff.1 ha).2.2.1 k hk) h
theorem acc_r {R : Nat → Nat → Bool} {N n k : Nat} {l : Nat → Int} (hk : k < n) (h0 : 0 < k) (h : R (l (k - 1)).toNat (l k).toNat = false) : accB R N n l = false := by
  cases ha : accB R N n l
  · rfl
  · have := (accB_iff.1 ha).2.2.2.1 (k - 1) (by omega)
    rw [show k - 1 + 1 = k by omega, h] at this
    cases this
theorem acc_few {R : Nat → Nat → Bool} {N n : Nat} {l : Nat → Int} (h : ¬ 2 ≤ n) : accB R N n l = false := by
  cases ha : accB R N n l
  · rfl
  · exact absurd (accB_iff.1 ha).1 h
theorem acc_end {R : Nat → Nat → Bool} {N n : Nat} {l : Nat → Int} (h : ¬ l 0 = l (n - 1)) : accB R N n l = false := by
  cases ha : accB R N n l
  · rfl
  · exact absurd (accB_iff.1 ha).2.1 h
theorem acc_m {R : Nat → Nat → Bool} {N n k : Nat} {l : Nat → Int} (hk : k < N) (h : mem n l k = false) : accB R N n l = false := by
  cases ha : accB R N n l
  · rfl
  · have := (accB_iff.1 ha).2.2.2.2 k hk
    rw [h] at this
    cases this
theorem acc_y {R : Nat → Nat → Bool} {N n : Nat} {l : Nat → Int} (h1 : 2 ≤ n) (h2 : l 0 = l (n - 1)) (h3 : pre R N l n) (h4 : ∀ t, t < N → mem n l t = true) : accB R N n l = true := accB_iff.2 ⟨h1, h2, h3.1, h3.2, h4⟩
theorem raccept_err {W H : Int} {A : Option Addr} {N c : Nat} (D : Option Addr) (n d : Nat) (z : Int) (hN : N ≤ 4200) (hz : chk W H N = z) (hne : (z != 0) = true) (w : World) :
    Calls Try.prog 55 #[.agg #[.int .i64 W, .int .i64 H, .slice A N c], .slice D n d] w (BRet w false z) := by
  have HK := Lib.hid (fun u => rchk_err (A := A) (c := c) hN hz u)
  have X0 := Lib.hid (Box.new w W H (.slice A N c))
  have LB0 := Lib.hid (show Below w.heap.size w (w.alloc (.cells #[.int .i64 W, .int .i64 H, (.slice A N c)] 24)) from (Below.refl _ _).alloc (Nat.le_refl _) _)
  clear hz
  go_enter Try.func55, Try.ntmps55
  go_wp2_with fail
  generalize w.alloc (.cells #[.int .i64 W, .int .i64 H, .slice A N c] 24) = w0 at *
  obtain ⟨q0, q1, q2, q3, q4, q5, q6⟩ := X0.out.all
  go_wp2_with fail
  clear q0 q1 q2 q3 q4 q5 q6
  with_reducible refine Calls.mono (HK.out _) ?_
  rintro e w1 ⟨rfl, hb⟩
  have X1 := Lib.hid (X0.out.below hb X0.out.lt)
  have LB1 := Lib.hid (LB0.out.trans (hb.mono LB0.out.size))
  clear hb X0 LB0
  obtain ⟨q0, q1, q2, q3, q4, q5, q6⟩ := X1.out.all
  go_wp2_with fail
  clear q0 q1 q2 q3 q4 q5 q6
  with_reducible refine Calls.mono (HK.out _) ?_
  rintro e w2 ⟨rfl, hb⟩
  have X2 := Lib.hid (X1.out.below hb X1.out.lt)
  have LB2 := Lib.hid (LB1.out.trans (hb.mono LB1.out.size))
  clear hb X1 LB1
  obtain ⟨q0, q1, q2, q3, q4, q5, q6⟩ := X2.out.all
  clear q0 q1 q2 q3 q4 q5 q6
  go_wp2
  go_ret2
  exact ⟨rfl, LB2.out⟩
theorem raccept_many (W H : Nat) (A : Option Addr) (c : Nat) (D : Option Addr) (n d : Nat) (w : World) (hW0 : 1 ≤ W) (hW : W ≤ 64) (hH0 : 1 ≤ H) (hH : H ≤ 64) (hn : 20000 < n) :
    Calls Try.prog 55 #[.agg #[.int .i64 (W : Nat), .int .i64 (H : Nat), .slice A (W * H) c], .slice D n d] w (BRet w false 4) := by
  have HK := Lib.hid (fun u => rchk_valid A c u hW0 hW hH0 hH)
  have z1 : (20000 : Int) < (n : Int) := by omega
  have X0 := Lib.hid (Box.new w (W : Nat) (H : Nat) (.slice A (W * H) c))
  have LB0 := Lib.hid (show Below w.heap.size w (w.alloc (.cells #[.int .i64 (W : Nat), .int .i64 (H : Nat), (.slice A (W * H) c)] 24)) from (Below.refl _ _).alloc (Nat.le_refl _) _)
  generalize W * H = M at *
  go_enter Try.func55, Try.ntmps55
  go_wp2_with fail
  generalize w.alloc (.cells #[.int .i64 (W : Nat), .int .i64 (H : Nat), .slice A M c] 24) = w0 at *
  obtain ⟨q0, q1, q2, q3, q4, q5, q6⟩ := X0.out.all
  go_wp2_with fail
  clear q0 q1 q2 q3 q4 q5 q6
  with_reducible refine Calls.mono (HK.out _) ?_
  rintro e w1 ⟨rfl, hb⟩
  have X1 := Lib.hid (X0.out.below hb X0.out.lt)
  have LB1 := Lib.hid (LB0.out.trans (hb.mono LB0.out.size))
  clear hb X0 LB0
  obtain ⟨q0, q1, q2, q3, q4, q5, q6⟩ := X1.out.all
  clear q0 q1 q2 q3 q4 q5 q6
  go_wp2
  go_ret2
  exact ⟨rfl, LB1.out⟩
set_option maxHeartbeats 3200000 in
theorem raccept_ok (W H N : Nat) (hNN : W + H = N) (A : Option Addr) (c : Nat) (g : Nat → Bool) (D : Option Addr) (n d : Nat) (l : Nat → Int) (w : World) (hg : Holds w w.heap.size A (W * H) g) (hW0 : 1 ≤ W) (hW : W ≤ 64) (hH0 : 1 ≤ H) (hH : H ≤ 64) (hn : n ≤ 20100) (hr : L2.Holds w w.heap.size D n l) (hm : ¬ 20000 < n) :
    Calls Try.prog 55 #[.agg #[.int .i64 (W : Nat), .int .i64 (H : Nat), .slice A (W * H) c], .slice D n d] w (BRet w (accB (ov W g) N n l) 0) := by
  have HR := Lib.hid hr
  have HK := Lib.hid (fun u => rchk_valid A c u hW0 hW hH0 hH)
  have HT := Lib.hid (fun u t => ris_any W H A (W * H) c t u hW hH)
  have HA := Lib.hid (fun u (h : Below w.heap.size w u) a b ha hb => above_any W H A c g a b u ((hg.below h).more h.size) hW hH ha hb)
  have HM := Lib.hid (fun u (h : Below w.heap.size w u) hs => marks_any W H A (W * H) c D n d l u hW hH (by omega) ((hr.below h).more h.size) hs)
  rw [hNN] at HT HA HM
  have hN : N ≤ 128 := by omega
  have z1 : ¬ (20000 : Int) < (n : Int) := by omega
  have X0 := Lib.hid (Box.new w (W : Nat) (H : Nat) (.slice A (W * H) c))
  have LB0 := Lib.hid (show Below w.heap.size w (w.alloc (.cells #[.int .i64 (W : Nat), .int .i64 (H : Nat), (.slice A (W * H) c)] 24)) from (Below.refl _ _).alloc (Nat.le_refl _) _)
  clear hg hr hNN
  generalize W * H = M at *
  go_enter Try.func55, Try.ntmps55
  go_wp2_with fail
  generalize w.alloc (.cells #[.int .i64 (W : Nat), .int .i64 (H : Nat), .slice A M c] 24) = w0 at *
  obtain ⟨q0, q1, q2, q3, q4, q5, q6⟩ := X0.out.all
  go_wp2_with fail
  clear q0 q1 q2 q3 q4 q5 q6
  with_reducible refine Calls.mono (HK.out _) ?_
  rintro e w1 ⟨rfl, hb⟩
  have X1 := Lib.hid (X0.out.below hb X0.out.lt)
  have LB1 := Lib.hid (LB0.out.trans (hb.mono LB0.out.size))
  clear hb X0 LB0
  obtain ⟨q0, q1, q2, q3, q4, q5, q6⟩ := X1.out.all
  clear q0 q1 q2 q3 q4 q5 q6
  go_wp2
  go_loopw [6] (fun i wr => ∃ k : Nat, k ≤ n ∧ i = .int .i64 k ∧ Hid (pre (ov W g) N l k) ∧ Hid (Box wr w.heap.size (W : Nat) (H : Nat) (.slice A M c)) ∧ Hid (Below w.heap.size w wr)) (fun i _ => n - (intOf i).toNat)
  case atStart => exact ⟨0, Nat.zero_le _, rfl, Lib.hid ⟨fun i hi => by omega, fun i hi => by omega⟩, X1, LB1⟩
  case round =>
    obtain ⟨k, hk, rfl, HS, HX, HL⟩ := hrel
    clear X1 LB1
    by_cases hlt : k < n
    · obtain ⟨b, o, rfl, hbl, hc⟩ := (HR.out.below HL.out) (by omega)
      have c1 := hc k hlt
      have c2 : 0 < k → wr.cell? ⟨b, o + (k - 1), none⟩ = some (.int .i64 (l (k - 1))) := fun _ => hc (k - 1) (by omega)
      clear hc
      have hbs := HL.out.size
      have y1 : (0 : Int) ≤ (k : Int) := by omega
      have y2 : (k : Int) < (n : Int) := by omega
      obtain ⟨u, hu⟩ : ∃ u, l k = u := ⟨_, rfl⟩
      rw [hu] at c1
      have HU := Lib.hid hu
      clear hu
      go_wp2
      obtain ⟨I, Wf, i0, h0, hbf, hcl⟩ := family wr
      have HCL := Lib.hid hcl
      have BF := Lib.hid hbf
      clear hbf hcl
      have hne : Nonempty I := ⟨i0⟩
      have x0 := fun n => (HX.out.below (BF.out n) HX.out.lt).c0
      have x1 := fun n => (HX.out.below (BF.out n) HX.out.lt).c1
      have x2 := fun n => (HX.out.below (BF.out n) HX.out.lt).c2
      have x3 := fun n => ((BF.out n).cell (p := ⟨b, o + k, none⟩) (by show b < _; omega)).trans c1
      by_cases ht : 0 ≤ u ∧ u < (N : Int)
      · have HTu := Lib.hid (fun v => HT.out v u)
        rw [decide_eq_true ht] at HTu
        have HTT := Lib.hid ht
        clear ht
        have C1 := Lib.hid (fun n => (HTu.out (Wf n)).mono fun e w2 h => (⟨h.1, HCL.out n _ h.2⟩ : _ ∧ ∃ m, w2 = Wf m))
        by_cases hk0 : k = 0
        · have y3' : decide (0 < k) = false := by simp; omega
          have y3 : ¬ (0 : Int) < (k : Int) := by omega
          have E := Lib.hid (show pre (ov W g) N l (k + 1) from pre_next HS.out (by rw [HU.out]; exact HTT.out) (fun h => absurd h (by omega)))
          clear c2 hk0
          refine wp_region_fam Wf i0 h0 (by kernel_rfl) (by kernel_rfl) ?_
          clear h0
          repeat (go_big_quiet_step (first | exact rfl | (go_at_call 57; with_reducible exact C1.out _)))
          refine wpQuiet_nil ?_
          rintro _ ⟨nq, rfl⟩
          have HX1 := Lib.hid (HX.out.below (BF.out nq) HX.out.lt)
          have HL1 := Lib.hid (HL.out.trans ((BF.out nq).mono HL.out.size))
          clear x0 x1 x2 x3 c1 C1 HX HL
          generalize Wf nq = w4 at *
          go_wp2
          go_roundw
          case rel => exact ⟨k + 1, by omega, by go_num, E, HX1, HL1⟩
          case measure => simp [intOf]; omega
        · have c3 := c2 (by omega)
          have hp0 := HS.out.1 (k - 1) (by omega)
          obtain ⟨p, hp⟩ : ∃ p, l (k - 1) = p := ⟨_, rfl⟩
          rw [hp] at c3 hp0
          have HP := Lib.hid hp
          have x4 := fun n => ((BF.out n).cell (p := ⟨b, o + (k - 1), none⟩) (by show b < _; omega)).trans c3
          have y3 : decide (0 < k) = true := by simp; omega
          have y5 : IntKind.i64.wrap ((k : Int) - 1) = (k : Int) - 1 := IntWalk.i64_in _ (by omega)
          have y6 : 0 ≤ (k : Int) - 1 := by omega
          have y6' : 1 ≤ k := by omega
          have y7 : (k : Int) - 1 < (n : Int) := by omega
          have ea : ((k : Int) - 1).toNat = k - 1 := by omega
          clear c2 hp c3
          obtain ⟨up_, hup⟩ : ∃ a : Nat, u = (a : Int) := ⟨u.toNat, by have := HTT.out; omega⟩
          obtain ⟨pp, hpp⟩ : ∃ a : Nat, p = (a : Int) := ⟨p.toNat, by omega⟩
          subst hup
          subst hpp
          have hu2 : up_ < N := by have := HTT.out; omega
          have hp2 : pp < N := by omega
          obtain ⟨bo, hbo⟩ : ∃ o, ov W g pp up_ = o := ⟨_, rfl⟩
          have C2 := Lib.hid (fun n => (HA.out (Wf n) (HL.out.trans ((BF.out n).mono HL.out.size)) pp up_ hp2 hu2).mono fun e w2 h => (⟨h.1, HCL.out n _ h.2⟩ : _ ∧ ∃ m, w2 = Wf m))
          rw [hbo] at C2
          have HBO := Lib.hid hbo
          clear hbo hp0
          cases bo
          · have E := Lib.hid (show accB (ov W g) N n l = false from acc_r hlt (by omega) (by rw [HU.out, HP.out, Int.toNat_natCast, Int.toNat_natCast]; exact HBO.out))
            refine wp_region_fam Wf i0 h0 (by kernel_rfl) (by kernel_rfl) ?_
            clear h0
            repeat (go_big_quiet_step (first | exact rfl | (go_at_call 57; with_reducible exact C1.out _) | (go_at_call 90; with_reducible exact C2.out _)))
            refine wpQuiet_nil ?_
            rintro _ ⟨nq, rfl⟩
            have HX1 := Lib.hid (HX.out.below (BF.out nq) HX.out.lt)
            have HL1 := Lib.hid (HL.out.trans ((BF.out nq).mono HL.out.size))
            clear x0 x1 x2 x3 x4 c1 C1 C2 HX HL
            generalize Wf nq = w4 at *
            go_wp2
            go_ret2
            exact ⟨by rw [E.out]; rfl, HL1.out⟩
          · have E := Lib.hid (show pre (ov W g) N l (k + 1) from pre_next HS.out (by rw [HU.out]; exact HTT.out) (fun _ => by rw [HU.out, HP.out, Int.toNat_natCast, Int.toNat_natCast]; exact HBO.out))
            refine wp_region_fam Wf i0 h0 (by kernel_rfl) (by kernel_rfl) ?_
            clear h0
            repeat (go_big_quiet_step (first | exact rfl | (go_at_call 57; with_reducible exact C1.out _) | (go_at_call 90; with_reducible exact C2.out _)))
            refine wpQuiet_nil ?_
            rintro _ ⟨nq, rfl⟩
            have HX1 := Lib.hid (HX.out.below (BF.out nq) HX.out.lt)
            have HL1 := Lib.hid (HL.out.trans ((BF.out nq).mono HL.out.size))
            clear x0 x1 x2 x3 x4 c1 C1 C2 HX HL
            generalize Wf nq = w4 at *
            go_wp2
            go_roundw
            case rel => exact ⟨k + 1, by omega, by go_num, E, HX1, HL1⟩
            case measure => simp [intOf]; omega
      · have HTu := Lib.hid (fun v => HT.out v u)
        rw [decide_eq_false ht] at HTu
        have E := Lib.hid (show accB (ov W g) N n l = false from acc_t hlt (fun h => ht (by rwa [HU.out] at h)))
        clear ht c2
        have C1 := Lib.hid (fun n => (HTu.out (Wf n)).mono fun e w2 h => (⟨h.1, HCL.out n _ h.2⟩ : _ ∧ ∃ m, w2 = Wf m))
        refine wp_region_fam Wf i0 h0 (by kernel_rfl) (by kernel_rfl) ?_
        clear h0
        repeat (go_big_quiet_step (first | exact rfl | (go_at_call 57; with_reducible exact C1.out _)))
        refine wpQuiet_nil ?_
        rintro _ ⟨nq, rfl⟩
        have HX1 := Lib.hid (HX.out.below (BF.out nq) HX.out.lt)
        have HL1 := Lib.hid (HL.out.trans ((BF.out nq).mono HL.out.size))
        clear x0 x1 x2 x3 c1 C1 HX HL
        generalize Wf nq = w4 at *
        go_wp2
        go_ret2
        exact ⟨by rw [E.out]; rfl, HL1.out⟩
    · have e : k = n := by omega
      subst e
      have HP := HS
      by_cases h2 : 2 ≤ k
      · obtain ⟨b, o, rfl, hbl, hc⟩ := (HR.out.below HL.out) (by omega)
        have c1 := hc 0 (by omega)
        have c2 := hc (k - 1) (by omega)
        rw [Nat.add_zero] at c1
        clear hc
        have z2 : ¬ (k : Int) < 2 := by omega
        have z2' : decide (k < 2) = false := by simp; omega
        have z2'' : decide ((k : Int) < 2) = false := by simp; omega
        have y5 : IntKind.i64.wrap ((k : Int) - 1) = (k : Int) - 1 := IntWalk.i64_in _ (by omega)
        have y6 : 0 ≤ (k : Int) - 1 := by omega
        have y6' : 1 ≤ k := by omega
        have y7 : (k : Int) - 1 < (k : Int) := by omega
        have y8 : (0 : Int) < (k : Int) := by omega
        have ea : ((k : Int) - 1).toNat = k - 1 := by omega
        obtain ⟨u, hu⟩ : ∃ u, l 0 = u := ⟨_, rfl⟩
        obtain ⟨v, hv⟩ : ∃ v, l (k - 1) = v := ⟨_, rfl⟩
        rw [hu] at c1
        rw [hv] at c2
        have HU := Lib.hid hu
        have HV := Lib.hid hv
        clear hu hv
        by_cases huv : u = v
        · have z3 : (u != v) = false := by simp [huv]
          have HUV := Lib.hid (show l 0 = l (k - 1) by rw [HU.out, HV.out, huv])
          subst huv
          have HMk := Lib.hid (fun nq => HM.out (wr.drewN nq) (below_drewN' HL.out nq) HP.out.1)
          have HL1 := Lib.hid (fun nq => below_drewN' HL.out nq)
          go_wp2
          go_quiet (fail)
          clear c1 c2 y5 y6 y6' y7 ea
          obtain ⟨q0, q1, q2, q3, q4, q5, q6⟩ := HX.out.all
          go_wp2_with fail
          clear q0 q1 q2 q3 q4 q5 q6
          with_reducible refine Calls.mono (HMk.out _) ?_
          rintro e w5 ⟨kr, rfl, hkr, hrow, hb⟩
          have HL5 := Lib.hid ((HL1.out _).trans (hb.mono (HL1.out _).size))
          have RW := Lib.hid hrow
          clear hb hrow HX HL HL1 HMk
          go_wp2
          go_loopw [8] (fun i wr => ∃ j : Nat, j ≤ N ∧ i = .int .i64 j ∧ wr = w5 ∧ Hid (∀ t, t < j → mem k l t = true)) (fun i _ => N - (intOf i).toNat)
          case atStart => exact ⟨0, Nat.zero_le _, rfl, rfl, Lib.hid (fun t ht => by omega)⟩
          case round =>
            obtain ⟨j, hj, rfl, rfl, HJ⟩ := hrel
            by_cases hltj : j < N
            · have y1 : (j : Int) < (N : Int) := by omega
              have y3 : (0 : Int) ≤ (j : Int) := by omega
              have c1 := RW.out.cell hltj
              obtain ⟨bm, hbm⟩ : ∃ b, mem k l j = b := ⟨_, rfl⟩
              rw [hbm] at c1
              have HBM := Lib.hid hbm
              clear hbm
              cases bm
              · have E := Lib.hid (show accB (ov W g) N k l = false from acc_m hltj HBM.out)
                go_wp2
                go_ret2
                exact ⟨by rw [E.out]; rfl, HL5.out⟩
              · have E := Lib.hid (show ∀ t, t < j + 1 → mem k l t = true from fun t ht => by
                  rcases Nat.lt_succ_iff_lt_or_eq.1 ht with c | c
                  · exact HJ.out t c
                  · rw [c]; exact HBM.out)
                go_wp2
                go_roundw
                case rel => exact ⟨j + 1, by omega, by go_num, (by first | rfl | trivial), E⟩
                case measure => simp [intOf]; omega
            · have e : j = N := by omega
              have E := Lib.hid (show accB (ov W g) N k l = true from acc_y h2 HUV.out HP.out (by rw [← e]; exact HJ.out))
              subst e
              go_wp2
              go_ret2
              exact ⟨by rw [E.out]; rfl, HL5.out⟩
        · have z3 : (u != v) = true := by simp [huv]
          have E := Lib.hid (show accB (ov W g) N k l = false from acc_end (by rw [HU.out, HV.out]; exact huv))
          go_wp2
          go_quiet (fail)
          go_wp2
          go_ret2
          exact ⟨by rw [E.out]; rfl, below_drewN' HL.out _⟩
      · have z2 : (k : Int) < 2 := by omega
        have z2' : decide (k < 2) = true := by simp; omega
        have z2'' : decide ((k : Int) < 2) = true := by simp; omega
        have E := Lib.hid (show accB (ov W g) N k l = false from acc_few h2)
        go_wp2
        go_quiet (fail)
        go_wp2
        go_ret2
        exact ⟨by rw [E.out]; rfl, below_drewN' HL.out _⟩
end Go.Proofs.Ytnpgmgaajejhjaa
