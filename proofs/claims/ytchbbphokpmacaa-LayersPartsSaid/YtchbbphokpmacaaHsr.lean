/- Set, Marks and Off of the reference; Off of the program. -/
import Derived.Test.YtchbbphokpmacaaHso
namespace Go.Proofs.Ytchbbphokpmacaa
open Go.RowKit
set_option maxRecDepth 100000
set_option linter.unusedVariables false
set_option linter.unusedSimpArgs false

set_option maxHeartbeats 1600000 in
theorem rset_any (W H : Nat) (A : Option Addr) (N c : Nat) (D : Option Addr) (n d : Nat) (f : Nat → Int) (w : World) (hW : W ≤ 64) (hH : H ≤ 64) (hn : n ≤ 30000) (hr : L2.Holds w w.heap.size D n f) :
    Calls Try.prog 65 #[.agg #[.int .i64 (W : Nat), .int .i64 (H : Nat), .slice A N c], .slice D n d] w fun e w' => e = .returned (.bool (setB (W + H) n f)) ∧ Below w.heap.size w w' := by
  have HR := Lib.hid hr
  have HT := Lib.hid (fun u t => ris_any W H A N c t u hW hH)
  have X0 := Lib.hid (Box.new w (W : Nat) (H : Nat) (.slice A N c))
  have LB0 := Lib.hid (show Below w.heap.size w (w.alloc (.cells #[.int .i64 (W : Nat), .int .i64 (H : Nat), (.slice A N c)] 24)) from (Below.refl _ _).alloc (Nat.le_refl _) _)
  clear hr
  go_enter Try.func65, Try.ntmps65
  go_wp2_with fail
  generalize w.alloc (.cells #[.int .i64 (W : Nat), .int .i64 (H : Nat), .slice A N c] 24) = w0 at *
  go_wp2
  go_loopw [5] (fun i wr => ∃ k : Nat, k ≤ n ∧ i = .int .i64 k ∧ Hid (setB (W + H) k f = true) ∧ Hid (Box wr w.heap.size (W : Nat) (H : Nat) (.slice A N c)) ∧ Hid (Below w.heap.size w wr)) (fun i _ => n - (intOf i).toNat)
  case atStart => exact ⟨0, Nat.zero_le _, rfl, Lib.hid (setB_zero _ _), X0, LB0⟩
  case round =>
    obtain ⟨k, hk, rfl, HS, HX, HL⟩ := hrel
    by_cases hlt : k < n
    · obtain ⟨b, o, rfl, hbl, hc⟩ := (HR.out.below HL.out) (by omega)
      have c1 := hc k hlt
      have c2 : 0 < k → wr.cell? ⟨b, o + (k - 1), none⟩ = some (.int .i64 (f (k - 1))) := fun _ => hc (k - 1) (by omega)
      clear hc
      have hbs := HL.out.size
      have y1 : (0 : Int) ≤ (k : Int) := by omega
      have y2 : (k : Int) < (n : Int) := by omega
      obtain ⟨u, hu⟩ : ∃ u, f k = u := ⟨_, rfl⟩
      rw [hu] at c1
      have HU := Lib.hid hu
      clear hu
      go_wp2
      obtain ⟨I, Wf, i0, h0, hbf, hcl⟩ := family wr
      have HCL := Lib.hid hcl
      have BF := Lib.hid hbf
      clear hbf hcl
      have hne : Nonempty I := ⟨i0⟩
      have x0 := fun n => (HX.out.below (BF.out n) HX.out.lt).c0
      have x1 := fun n => (HX.out.below (BF.out n) HX.out.lt).c1
      have x2 := fun n => (HX.out.below (BF.out n) HX.out.lt).c2
      have x3 := fun n => ((BF.out n).cell (p := ⟨b, o + k, none⟩) (by show b < _; omega)).trans c1
      by_cases ht : 0 ≤ u ∧ u < ((W + H : Nat) : Int)
      · have HTu := Lib.hid (fun v => HT.out v u)
        rw [decide_eq_true ht] at HTu
        have HTT := Lib.hid ht
        clear ht
        have C1 := Lib.hid (fun n => (HTu.out (Wf n)).mono fun e w2 h => (⟨h.1, HCL.out n _ h.2⟩ : _ ∧ ∃ m, w2 = Wf m))
        by_cases hk0 : k = 0
        · have y3 : ¬ (0 : Int) < (k : Int) := by omega
          have y3' : decide (0 < k) = false := by simp; omega
          have E := Lib.hid (show setB (W + H) (k + 1) f = true from setB_yes HS.out ⟨by rw [HU.out]; exact HTT.out, fun h => absurd h (by omega)⟩)
          clear c2 hk0
          refine wp_region_fam Wf i0 h0 (by kernel_rfl) (by kernel_rfl) ?_
          clear h0
          repeat (go_big_quiet_step (first | exact rfl | (go_at_call 41; with_reducible exact C1.out _)))
          refine wpQuiet_nil ?_
          rintro _ ⟨nq, rfl⟩
          have HX1 := Lib.hid (HX.out.below (BF.out nq) HX.out.lt)
          have HL1 := Lib.hid (HL.out.trans ((BF.out nq).mono HL.out.size))
          clear x0 x1 x2 x3 c1 C1 HX HL
          generalize Wf nq = w4 at *
          go_wp2
          go_roundw
          case rel => exact ⟨k + 1, by omega, by go_num, E, HX1, HL1⟩
          case measure => simp [intOf]; omega
        · have c3 := c2 (by omega)
          obtain ⟨p, hp⟩ : ∃ p, f (k - 1) = p := ⟨_, rfl⟩
          rw [hp] at c3
          have HP := Lib.hid hp
          have x4 := fun n => ((BF.out n).cell (p := ⟨b, o + (k - 1), none⟩) (by show b < _; omega)).trans c3
          have y3 : decide (0 < k) = true := by simp; omega
          have y5 : IntKind.i64.wrap ((k : Int) - 1) = (k : Int) - 1 := IntWalk.i64_in _ (by omega)
          have y6 : 0 ≤ (k : Int) - 1 := by omega
          have y7 : (k : Int) - 1 < (n : Int) := by omega
          have ea : ((k : Int) - 1).toNat = k - 1 := by omega
          clear c2 hp c3
          by_cases hup : p < u
          · have z : decide (u ≤ p) = false := by simp; omega
            have E := Lib.hid (show setB (W + H) (k + 1) f = true from setB_yes HS.out ⟨by rw [HU.out]; exact HTT.out, fun _ => by rw [HU.out, HP.out]; exact hup⟩)
            refine wp_region_fam Wf i0 h0 (by kernel_rfl) (by kernel_rfl) ?_
            clear h0
            repeat (go_big_quiet_step (first | exact rfl | (go_at_call 41; with_reducible exact C1.out _)))
            refine wpQuiet_nil ?_
            rintro _ ⟨nq, rfl⟩
            have HX1 := Lib.hid (HX.out.below (BF.out nq) HX.out.lt)
            have HL1 := Lib.hid (HL.out.trans ((BF.out nq).mono HL.out.size))
            clear x0 x1 x2 x3 x4 c1 C1 HX HL
            generalize Wf nq = w4 at *
            go_wp2
            go_roundw
            case rel => exact ⟨k + 1, by omega, by go_num, E, HX1, HL1⟩
            case measure => simp [intOf]; omega
          · have z : decide (u ≤ p) = true := by simp; omega
            have E := Lib.hid (show setB (W + H) n f = false from setB_no hlt (fun h => by have := h.2 (by omega); rw [HU.out, HP.out] at this; omega))
            refine wp_region_fam Wf i0 h0 (by kernel_rfl) (by kernel_rfl) ?_
            clear h0
            repeat (go_big_quiet_step (first | exact rfl | (go_at_call 41; with_reducible exact C1.out _)))
            refine wpQuiet_nil ?_
            rintro _ ⟨nq, rfl⟩
            have HX1 := Lib.hid (HX.out.below (BF.out nq) HX.out.lt)
            have HL1 := Lib.hid (HL.out.trans ((BF.out nq).mono HL.out.size))
            clear x0 x1 x2 x3 x4 c1 C1 HX HL
            generalize Wf nq = w4 at *
            go_wp2
            go_ret
            exact ⟨ret_bool E.out.symm, HL1.out⟩
      · have HTu := Lib.hid (fun v => HT.out v u)
        rw [decide_eq_false ht] at HTu
        have E := Lib.hid (show setB (W + H) n f = false from setB_no hlt (fun h => ht (by have := h.1; rwa [HU.out] at this)))
        clear ht c2
        have C1 := Lib.hid (fun n => (HTu.out (Wf n)).mono fun e w2 h => (⟨h.1, HCL.out n _ h.2⟩ : _ ∧ ∃ m, w2 = Wf m))
        refine wp_region_fam Wf i0 h0 (by kernel_rfl) (by kernel_rfl) ?_
        clear h0
        repeat (go_big_quiet_step (first | exact rfl | (go_at_call 41; with_reducible exact C1.out _)))
        refine wpQuiet_nil ?_
        rintro _ ⟨nq, rfl⟩
        have HX1 := Lib.hid (HX.out.below (BF.out nq) HX.out.lt)
        have HL1 := Lib.hid (HL.out.trans ((BF.out nq).mono HL.out.size))
        clear x0 x1 x2 x3 c1 C1 HX HL
        generalize Wf nq = w4 at *
        go_wp2
        go_ret
        exact ⟨ret_bool E.out.symm, HL1.out⟩
    · have e : k = n := by omega
      subst e
      go_wp2
      go_ret
      exact ⟨ret_bool HS.out.symm, HL.out⟩
theorem mkb_run (N : Nat) (hN : N ≤ 4096) (w : World) :
    (Instr.makeSlice 22 (.int .i64 (N : Nat)) (.int .i64 (N : Nat))).run Try.prog w = .ok (.slice (some ⟨w.heap.size, 0, none⟩) N N) (w.alloc (.cells (madeCells #[.bool false] N) 4)) :=
  run_make_row' (P := Try.prog) 22 4 (.bool false) 1 Try.underlying22 Try.info4 rfl .i64 .i64 N (by omega) (by omega) w
set_option maxHeartbeats 800000 in
theorem marks_any (W H : Nat) (A : Option Addr) (N c : Nat) (D : Option Addr) (n d : Nat) (f : Nat → Int) (w : World) (hW : W ≤ 64) (hH : H ≤ 64) (hn : n ≤ 30000) (hr : L2.Holds w w.heap.size D n f) (hs : ∀ i, i < n → 0 ≤ f i ∧ f i < ((W + H : Nat) : Int)) :
    Calls Try.prog 64 #[.agg #[.int .i64 (W : Nat), .int .i64 (H : Nat), .slice A N c], .slice D n d] w fun e w' => ∃ k, e = .returned (.slice (some ⟨k, 0, none⟩) (W + H) (W + H)) ∧ w.heap.size ≤ k ∧ Row w' k (W + H) (mem n f) ∧ Below w.heap.size w w' := by
  have HR := Lib.hid hr
  have HS := Lib.hid hs
  have HT := Lib.hid (fun u => rthr_any W H A N c u hW hH)
  have LB0 := Lib.hid (show Below w.heap.size w (w.alloc (.cells #[.int .i64 (W : Nat), .int .i64 (H : Nat), (.slice A N c)] 24)) from (Below.refl _ _).alloc (Nat.le_refl _) _)
  have hmk := mkb_run (W + H) (by omega)
  clear hr hs
  generalize W + H = M at *
  go_enter Try.func64, Try.ntmps64
  go_wp2_with fail
  with_reducible refine Calls.mono (HT.out _) ?_
  rintro e w1 ⟨rfl, hb⟩
  have HL := Lib.hid (LB0.out.trans (hb.mono LB0.out.size))
  have hs1 := HL.out.size
  have HM := Lib.hid (Row.made w1 M)
  have HL2 := Lib.hid (HL.out.alloc hs1 (.cells (madeCells #[.bool false] M) 4))
  clear hb HL LB0
  go_wp2
  go_loopw [6] (fun i wr => ∃ k : Nat, k ≤ n ∧ i = .int .i64 k ∧ Hid (Row wr w1.heap.size M (mem k f)) ∧ Hid (Below w.heap.size w wr)) (fun i _ => n - (intOf i).toNat)
  case atStart => exact ⟨0, Nat.zero_le _, rfl, Lib.hid (HM.out.congr fun _ _ => rfl), HL2⟩
  case round =>
    obtain ⟨k, hk, rfl, HW, HL⟩ := hrel
    by_cases hlt : k < n
    · obtain ⟨b, o, rfl, hbl, hc⟩ := (HR.out.below HL.out) (by omega)
      have c1 := hc k hlt
      clear hc
      have hbs := HL.out.size
      have y1 : (0 : Int) ≤ (k : Int) := by omega
      have y2 : (k : Int) < (n : Int) := by omega
      have hfk := HS.out k hlt
      obtain ⟨u, hu⟩ : ∃ u : Nat, f k = (u : Int) := ⟨(f k).toNat, by omega⟩
      rw [hu] at c1 hfk
      have HU := Lib.hid hu
      have hum : u < M := by omega
      have y3 : (u : Int) < (M : Int) := by omega
      have c2 := HW.out.cell hum
      have c3 := HW.out.free u
      have HW1 := Lib.hid ((HW.out.set_ u true).congr (f' := mem (k + 1) f) fun j _ => by
        show (if j = u then true else mem k f j) = mem (k + 1) f j
        rw [mem_succ, HU.out]
        by_cases e : j = u
        · rw [if_pos e, e]; simp
        · rw [if_neg e, show (((u : Nat) : Int) == (j : Int)) = false by rw [beq_eq_false_iff_ne]; omega, Bool.or_false])
      have HL1 := Lib.hid (HL.out.setCell (p := ⟨w1.heap.size, u, none⟩) (by exact hs1) (.bool true))
      clear hu HW HL hfk
      go_wp2
      go_roundw
      case rel => exact ⟨k + 1, by omega, by go_num, HW1, HL1⟩
      case measure => simp [intOf]; omega
    · have e : k = n := by omega
      subst e
      go_wp2
      go_ret
      exact ⟨_, rfl, hs1, HW.out, HL.out⟩
end Go.Proofs.Ytchbbphokpmacaa
