/- The search of the reference: Steps and Upon. -/
import Derived.Test.YtchbbphokpmacaaHvv
import Derived.Test.YtchbbphokpmacaaVra
import Derived.Deep.LoopGhost
namespace Go.Proofs.Ytchbbphokpmacaa
open Go.RowKit
set_option maxRecDepth 100000
set_option linter.unusedVariables false
set_option linter.unusedSimpArgs false

theorem Bf.bd {R : Nat → Nat → Bool} {N tt k j : Nat} {s : St} (h : Bf R N tt k j s) (a : Nat) : -1 ≤ s.far a ∧ s.far a ≤ (N : Nat) := by
  by_cases hm : ∃ m, m < s.q.length ∧ s.at m = a
  · obtain ⟨m, m1, m2⟩ := hm
    have := h.fq m m1
    have := h.len
    rw [m2] at *
    omega
  · have := h.neg a fun i hi e => hm ⟨i, hi, e⟩
    omega
theorem vis_yes {R : Nat → Nat → Bool} {c a : Nat} {s : St} (h : s.far a < 0) (hR : R a c = true) : vis R c s a = ⟨fun j => if j = a then s.far c + 1 else s.far j, s.q ++ [a]⟩ := by
  unfold vis
  rw [decide_eq_true h, hR]; rfl
theorem vis_old {R : Nat → Nat → Bool} {c a : Nat} {s : St} (h : ¬ s.far a < 0) : vis R c s a = s := by
  unfold vis
  rw [decide_eq_false h]; rfl
theorem vis_off {R : Nat → Nat → Bool} {c a : Nat} {s : St} (hR : R a c = false) : vis R c s a = s := by
  unfold vis
  rw [hR, Bool.and_false]; rfl
theorem lf_at (s : St) (i : Nat) : lf s.q i = (s.at i : Nat) := rfl
theorem own_one (w : World) {base : Nat} (hb : base ≤ w.heap.size) (y : Nat) : L2.Own (w.alloc (.cells #[.int .i64 (y : Nat)] 3)) base (.slice (some ⟨w.heap.size, 0, none⟩) 1 1) 1 (lf [y]) :=
  ⟨by rw [L2.news_length], .inr ⟨w.heap.size, 1, #[.int .i64 (y : Nat)], rfl, hb, World.alloc_heap_new w _, Nat.le_refl _, by unfold maxLen; omega, rfl, rfl⟩⟩
theorem own_app {w : World} {base : Nat} {v : Value} {l : List Nat} (h : L2.Own w base v l.length (lf l)) (y : Nat) : L2.Own w base v l.length (lf (l ++ [y])) := h.congr fun i hi => lf_app hi
set_option maxHeartbeats 3200000 in
theorem rsteps_n (W H N : Nat) (hNN : W + H = N) (A : Option Addr) (c : Nat) (g : Nat → Bool) (tt : Nat) (w : World) (hg : Holds w w.heap.size A (W * H) g) (hW : W ≤ 64) (hH : H ≤ 64) (hto : tt < N) :
    Calls Try.prog 104 #[.agg #[.int .i64 (W : Nat), .int .i64 (H : Nat), .slice A (W * H) c], .int .i64 (tt : Nat)] w fun e w' => ∃ k, e = .returned (.slice (some ⟨k, 0, none⟩) N N) ∧ w.heap.size ≤ k ∧ L2.Row w' k N (far (ov W g) N tt) ∧ Below w.heap.size w w' := by
  have HT := Lib.hid (fun u => rthr_any W H A (W * H) c u hW hH)
  have HA := Lib.hid (fun u (h : Below w.heap.size w u) a b ha hb => above_any W H A c g a b u ((hg.below h).more h.size) hW hH ha hb)
  rw [hNN] at HT HA
  have hN : N ≤ 128 := by omega
  have HST := Lib.hid (fun k (h : k ≤ (bst (ov W g) N tt k).q.length) => Bf.st (R := ov W g) hto k h)
  have hmk := mki_run N (by omega)
  clear hNN
  have X0 := Lib.hid (Box.new w (W : Nat) (H : Nat) (.slice A (W * H) c))
  have LB0 := Lib.hid (show Below w.heap.size w (w.alloc (.cells #[.int .i64 (W : Nat), .int .i64 (H : Nat), (.slice A (W * H) c)] 24)) from (Below.refl _ _).alloc (Nat.le_refl _) _)
  clear hg
  generalize W * H = M at *
  go_enter Try.func104, Try.ntmps104
  go_wp2_with fail
  generalize w.alloc (.cells #[.int .i64 (W : Nat), .int .i64 (H : Nat), .slice A M c] 24) = w0 at *
  obtain ⟨q0, q1, q2, q3, q4, q5, q6⟩ := X0.out.all
  go_wp2_with fail
  clear q0 q1 q2 q3 q4 q5 q6
  with_reducible refine Calls.mono (HT.out _) ?_
  rintro e w1 ⟨rfl, hb⟩
  have X1 := Lib.hid (X0.out.below hb X0.out.lt)
  have LB1 := Lib.hid (LB0.out.trans (hb.mono LB0.out.size))
  clear hb X0 LB0 HT
  have RW := Lib.hid ((VR.made w1 N (.int .i64 0) 3))
  have X2 := Lib.hid (X1.out.alloc (.cells (madeCells #[.int .i64 0] N) 3))
  have LB2 := Lib.hid (LB1.out.alloc LB1.out.size (.cells (madeCells #[.int .i64 0] N) 3))
  have hs1 := LB1.out.size
  have hgb := X1.out.lt
  have hsz : w1.heap.size + 1 ≤ (w1.alloc (.cells (madeCells #[.int .i64 0] N) 3)).heap.size := by simp
  clear X1 LB1
  obtain ⟨fr, hfr⟩ : ∃ fr, w1.heap.size = fr := ⟨_, rfl⟩
  rw [hfr] at RW hs1 hgb hsz
  have HFR := Lib.hid hfr
  go_wp2
  rw [hfr] at *
  clear hmk hfr
  generalize w1.alloc (.cells (madeCells #[.int .i64 0] N) 3) = w2 at *
  go_loopw [6] (fun i wr => ∃ k : Nat, k ≤ N ∧ i = .int .i64 k ∧ Hid (L2.Row wr fr N (fun j => if j < k then -1 else 0)) ∧ Hid (Box wr w.heap.size (W : Nat) (H : Nat) (.slice A M c)) ∧ Hid (Below w.heap.size w wr) ∧ fr + 1 ≤ wr.heap.size) (fun i _ => N - (intOf i).toNat)
  case atStart => exact ⟨0, Nat.zero_le _, rfl, Lib.hid (by obtain ⟨cs, a1, a2, a3⟩ := RW.out; exact ⟨cs, a1, a2, fun i hi => by rw [a3 i hi]; rfl⟩), X2, LB2, hsz⟩
  case round =>
    obtain ⟨k, hk, rfl, HW, HX, HL, hs2⟩ := hrel
    clear RW X2 LB2 hsz
    by_cases hlt : k < N
    · have y1 : (k : Int) < (N : Int) := by omega
      have y3 : (0 : Int) ≤ (k : Int) := by omega
      have c1 := HW.out.cell hlt
      have c2 := HW.out.free k
      have HW1 := Lib.hid ((HW.out.set_ k (-1)).congr (f' := fun j => if j < k + 1 then -1 else 0) fun j _ => by
        show (if j = k then (-1 : Int) else if j < k then -1 else 0) = _
        by_cases e : j = k
        · rw [if_pos e, if_pos (by omega)]
        · rw [if_neg e]
          by_cases e2 : j < k
          · rw [if_pos e2, if_pos (by omega)]
          · rw [if_neg e2, if_neg (by omega)])
      have HX1 := Lib.hid (HX.out.far (p := ⟨fr, k, none⟩) (by show w.heap.size ≠ fr; omega) (.int .i64 (-1)))
      have HL1 := Lib.hid (HL.out.setCell (p := ⟨fr, k, none⟩) (by exact hs1) (.int .i64 (-1)))
      clear HW HX HL
      go_wp2
      go_roundw
      case rel => exact ⟨k + 1, by omega, by go_num, HW1, HX1, HL1, by simpa using hs2⟩
      case measure => simp [intOf]; omega
    · have e : k = N := by omega
      subst e
      have y1 : (tt : Int) < (k : Int) := by omega
      have y3 : (0 : Int) ≤ (tt : Int) := by omega
      have c1 := HW.out.cell hto
      have c2 := HW.out.free tt
      have HW1 := Lib.hid ((HW.out.set_ tt 0).congr (f' := (ini tt).far) fun j hj => by
        show (if j = tt then (0 : Int) else if j < k then -1 else 0) = (if j = tt then 0 else -1)
        by_cases e : j = tt
        · rw [if_pos e, if_pos e]
        · rw [if_neg e, if_neg e, if_pos hj])
      have HX1 := Lib.hid (HX.out.far (p := ⟨fr, tt, none⟩) (by show w.heap.size ≠ fr; omega) (.int .i64 0))
      have HL1 := Lib.hid (HL.out.setCell (p := ⟨fr, tt, none⟩) (by exact hs1) (.int .i64 0))
      have hs3 : fr + 1 ≤ (wr.setCell ⟨fr, tt, none⟩ (.int .i64 0)).heap.size := by simpa using hs2
      have HE3 := Lib.hid (show (wr.setCell ⟨fr, tt, none⟩ (.int .i64 0)).heap.size = wr.heap.size by simp)
      clear HW HX HL hs2
      go_wp2
      clear c1 c2
      generalize wr.setCell ⟨fr, tt, none⟩ (.int .i64 0) = w3 at *
      have HO0 := own_one w3 hs3 tt
      rw [HE3.out] at HO0
      have HO0 := Lib.hid HO0
      have HW2 := Lib.hid (HW1.out.alloc (.cells #[.int .i64 (tt : Nat)] 3))
      have HX2 := Lib.hid (HX1.out.alloc (.cells #[.int .i64 (tt : Nat)] 3))
      have HL2 := Lib.hid (HL1.out.alloc HL1.out.size (.cells #[.int .i64 (tt : Nat)] 3))
      have hs4 : fr + 1 ≤ (w3.alloc (.cells #[.int .i64 (tt : Nat)] 3)).heap.size := by simp; omega
      clear HW1 HX1 HL1 hs3
      go_loopw [7, 8] (fun q i wr => ∃ m : Nat, i = .int .i64 m ∧ Hid (m ≤ (bst (ov W g) k tt m).q.length ∧ m ≤ k) ∧ Hid (L2.Row wr fr k (bst (ov W g) k tt m).far) ∧ Hid (L2.Own wr (fr + 1) q (bst (ov W g) k tt m).q.length (lf (bst (ov W g) k tt m).q)) ∧ Hid (Box wr w.heap.size (W : Nat) (H : Nat) (.slice A M c)) ∧ Hid (Below w.heap.size w wr) ∧ fr + 1 ≤ wr.heap.size) (fun _ i _ => k - (intOf i).toNat)
      case atStart => exact ⟨0, rfl, Lib.hid ⟨Nat.zero_le _, Nat.zero_le _⟩, HW2, HO0, HX2, HL2, hs4⟩
      case round =>
        obtain ⟨m, rfl, HM, HW, HO, HX, HL, hs5⟩ := hrel
        clear HW2 HO0 HX2 HL2 hs4
        have HB := Lib.hid (HST.out m HM.out.1)
        have hlen := HB.out.len
        obtain ⟨A', c', rfl, _, hrow⟩ := HO.out.out
        obtain ⟨s, hs⟩ : ∃ s, bst (ov W g) k tt m = s := ⟨_, rfl⟩
        have HS := Lib.hid hs
        rw [hs] at HM HW HO HB hlen hrow ⊢
        clear hs
        have hmL := HM.out.1
        have HROW := Lib.hid hrow
        clear hrow
        by_cases hlm : m < s.q.length
        · have y5 : (m : Int) < (s.q.length : Int) := by omega
          have HNX := Lib.hid (show bst (ov W g) k tt (m + 1) = rndk (ov W g) (s.at m) s k by rw [← HS.out]; exact bst_go (by rw [HS.out]; exact hlm))
          have HAT := Lib.hid (fun j => rndk_at (R := ov W g) (c := s.at m) hlm j)
          have HBJ := Lib.hid (fun j hj => HB.out.rnd hlm j hj)
          obtain ⟨cc, hcc⟩ : ∃ cc, s.at m = cc := ⟨_, rfl⟩
          have hcN : cc < k := by rw [← hcc]; exact HB.out.lt m hlm
          have HCC := Lib.hid hcc
          rw [hcc] at HNX HAT HBJ
          clear hcc
          generalize hq0 : s.q.length = L0 at *
          have HQ0 := Lib.hid hq0
          clear hq0
          go_wp2
          obtain ⟨wo, rfl⟩ : ∃ wo : World, wo = wr := ⟨_, rfl⟩
          go_loopw [7, 9] (fun q i wr => ∃ j : Nat, j ≤ k ∧ i = .int .i64 j ∧ Hid (L2.Row wr fr k (rndk (ov W g) cc s j).far) ∧ Hid (L2.Own wr (fr + 1) q (rndk (ov W g) cc s j).q.length (lf (rndk (ov W g) cc s j).q)) ∧ Hid (Box wr w.heap.size (W : Nat) (H : Nat) (.slice A M c)) ∧ Hid (Below w.heap.size w wr) ∧ fr + 1 ≤ wr.heap.size) (fun _ i _ => k - (intOf i).toNat)
          case atStart => exact ⟨0, Nat.zero_le _, rfl, HW, (by rw [rndk_zero, HQ0.out]; exact HO), HX, HL, hs5⟩
          case round =>
            obtain ⟨j, hj, rfl, HW2, HO2, HX2, HL2, hs6⟩ := hrel
            clear HW HO HX HL hs5 HROW
            have HBj := Lib.hid (HBJ.out j hj)
            have HAj := Lib.hid (HAT.out j)
            have HVJ := Lib.hid (rndk_succ (ov W g) cc s j)
            by_cases hlj : j < k
            · have y6 : (j : Int) < (k : Int) := by omega
              have y7 : (0 : Int) ≤ (j : Int) := by omega
              have y8 : (0 : Int) ≤ (m : Int) := by omega
              have y9 : (0 : Int) ≤ (cc : Int) := by omega
              have y10 : (cc : Int) < (k : Int) := by omega
              generalize rndk (ov W g) cc s j = s' at *
              have hlen2 := HBj.out.len
              have hml2 : m < s'.q.length := by have := HAj.out.2; have := HQ0.out; omega
              obtain ⟨A2, c2, rfl, _, hrow2⟩ := HO2.out.out
              obtain ⟨kq, rfl, hkq, hrw⟩ := hrow2 (by omega)
              have HRW := Lib.hid hrw
              have hqc : lf s'.q m = (cc : Int) := by rw [lf_at, HAj.out.1]
              have c1 := HRW.out.cell hml2
              rw [hqc] at c1
              have c3 := HW2.out.cell hlj
              have c4 := HW2.out.cell hcN
              have hbj := HBj.out.bd j
              have hbc := HBj.out.bd cc
              obtain ⟨fj, hfj⟩ : ∃ x, s'.far j = x := ⟨_, rfl⟩
              obtain ⟨fc, hfc⟩ : ∃ x, s'.far cc = x := ⟨_, rfl⟩
              rw [hfj] at c3 hbj
              rw [hfc] at c4 hbc
              have HFJ := Lib.hid hfj
              have HFC := Lib.hid hfc
              clear hfj hfc hrow2 hrw hqc
              have y11 : (m : Int) < (s'.q.length : Int) := by omega
              obtain ⟨L, hL⟩ : ∃ L, s'.q.length = L := ⟨_, rfl⟩
              have HLL := Lib.hid hL
              rw [hL] at hml2 hlen2 y11 HO2 HRW
              rw [hL]
              clear hL
              go_wp2
              obtain ⟨I, Wf, i0, h0, hbf, hcl⟩ := family wr
              have HCL := Lib.hid hcl
              have BF := Lib.hid hbf
              clear hbf hcl
              have hne : Nonempty I := ⟨i0⟩
              have x0 := fun n => (HX2.out.below (BF.out n) HX2.out.lt).c0
              have x1 := fun n => (HX2.out.below (BF.out n) HX2.out.lt).c1
              have x2 := fun n => (HX2.out.below (BF.out n) HX2.out.lt).c2
              have x3 := fun n => ((HW2.out.below (BF.out n) HW2.out.lt)).cell hlj
              simp only [HFJ.out] at x3
              have x4 := fun n => ((BF.out n).cell (p := ⟨kq, m, none⟩) HRW.out.lt).trans c1
              have hne2 := HL2.out
              by_cases hneg : fj < 0
              · have d1 : decide (fj < 0) = true := by simp; omega
                obtain ⟨bo, hbo⟩ : ∃ b, ov W g j cc = b := ⟨_, rfl⟩
                have C1 := Lib.hid (fun n => (HA.out (Wf n) (HL2.out.trans ((BF.out n).mono HL2.out.size)) j cc hlj hcN).mono fun e w2 h => (⟨h.1, HCL.out n _ h.2⟩ : _ ∧ ∃ m, w2 = Wf m))
                rw [hbo] at C1
                have HBO := Lib.hid hbo
                clear hbo
                cases bo
                · have E := Lib.hid (show rndk (ov W g) cc s (j + 1) = s' by rw [HVJ.out]; exact vis_off HBO.out)
                  refine wp_region_fam Wf i0 h0 (by kernel_rfl) (by kernel_rfl) ?_
                  clear h0
                  repeat (go_big_quiet_step (first | exact rfl | (go_at_call 138; with_reducible exact C1.out _)))
                  refine wpQuiet_nil ?_
                  rintro _ ⟨nq, rfl⟩
                  have HW3 := Lib.hid (HW2.out.below (BF.out nq) HW2.out.lt)
                  have HO3 := Lib.hid (HO2.out.below (BF.out nq))
                  have HX3 := Lib.hid (HX2.out.below (BF.out nq) HX2.out.lt)
                  have HL3 := Lib.hid (HL2.out.trans ((BF.out nq).mono HL2.out.size))
                  have hs7 := Nat.le_trans hs6 (BF.out nq).size
                  clear x0 x1 x2 x3 x4 C1 HW2 HO2 HX2 HL2 hs6 hne2 c1 c3 c4
                  generalize Wf nq = w5 at *
                  go_wp2
                  go_roundw
                  case rel => exact ⟨j + 1, by omega, by go_num, by rw [E.out]; exact HW3, by rw [E.out, HLL.out]; exact HO3, HX3, HL3, hs7⟩
                  case measure => simp [intOf]; omega
                · have E := Lib.hid (show rndk (ov W g) cc s (j + 1) = ⟨fun x => if x = j then s'.far cc + 1 else s'.far x, s'.q ++ [j]⟩ by rw [HVJ.out]; exact vis_yes (by rw [HFJ.out]; exact hneg) HBO.out)
                  refine wp_region_fam Wf i0 h0 (by kernel_rfl) (by kernel_rfl) ?_
                  clear h0
                  repeat (go_big_quiet_step (first | exact rfl | (go_at_call 138; with_reducible exact C1.out _)))
                  refine wpQuiet_nil ?_
                  rintro _ ⟨nq, rfl⟩
                  have HW3 := Lib.hid (HW2.out.below (BF.out nq) HW2.out.lt)
                  have HO3 := Lib.hid (HO2.out.below (BF.out nq))
                  have HX3 := Lib.hid (HX2.out.below (BF.out nq) HX2.out.lt)
                  have HL3 := Lib.hid (HL2.out.trans ((BF.out nq).mono HL2.out.size))
                  have hs7 := Nat.le_trans hs6 (BF.out nq).size
                  have d1' := ((BF.out nq).cell (p := ⟨kq, m, none⟩) HRW.out.lt).trans c1
                  clear x0 x1 x2 x3 x4 C1 HW2 HO2 HX2 HL2 hs6 hne2 c1 c3 c4
                  generalize Wf nq = w5 at *
                  have d2 := HW3.out.cell hlj
                  have d3 := HW3.out.cell hcN
                  have d4 := HW3.out.free j
                  rw [HFC.out] at d3
                  have HW4 := Lib.hid (HW3.out.set_ j (fc + 1))
                  have HX4 := Lib.hid (HX3.out.far (p := ⟨fr, j, none⟩) (by show w.heap.size ≠ fr; omega) (.int .i64 (fc + 1)))
                  have HL4 := Lib.hid (HL3.out.setCell (p := ⟨fr, j, none⟩) (by exact hs1) (.int .i64 (fc + 1)))
                  have HO4 := Lib.hid (HO3.out.far (p := ⟨fr, j, none⟩) (by show fr < fr + 1; omega) (.int .i64 (fc + 1)))
                  have hs8 : fr + 1 ≤ (w5.setCell ⟨fr, j, none⟩ (.int .i64 (fc + 1))).heap.size := by simpa using hs7
                  have HO5 := Lib.hid (HO4.out.congr (g := lf (s'.q ++ [j])) fun i hi => lf_app (by rw [HLL.out]; exact hi))
                  have HY := Lib.hid (show lf (s'.q ++ [j]) L = (j : Int) by rw [← HLL.out]; exact lf_last _ _)
                  have HL5 := Lib.hid (show (s'.q ++ [j]).length = L + 1 by rw [List.length_append, HLL.out]; rfl)
                  clear HW3 HX3 HL3 HO3 HO4
                  go_upto_region 16 with (fail)
                  clear d1' d2 d3 d4
                  generalize w5.setCell ⟨fr, j, none⟩ (.int .i64 (fc + 1)) = w7 at *
                  go_wp2_with (at_builtin; refine L2.app1 _ rfl _ _ (by rfl) (fr + 1) (by rfl) HO5.out (j : Int) (by rfl) HY.out (by omega) hs8 ?_; intro v' w6 hown6 hb6; have HO6 := Lib.hid hown6; have HB6 := Lib.hid hb6; clear hown6 hb6)
                  have HW6 := Lib.hid (HW4.out.below HB6.out (by omega))
                  have HX6 := Lib.hid (HX4.out.below HB6.out (by omega))
                  have HL6 := Lib.hid (HL4.out.trans (HB6.out.mono (by omega)))
                  have hs9 := Nat.le_trans hs8 HB6.out.size
                  go_roundw
                  case rel => exact ⟨j + 1, by omega, by go_num, by rw [E.out, HFC.out]; exact HW6, by rw [E.out, HL5.out]; exact HO6, HX6, HL6, hs9⟩
                  case measure => simp [intOf]; omega
              · have d1 : decide (fj < 0) = false := by simp; omega
                have E := Lib.hid (show rndk (ov W g) cc s (j + 1) = s' by rw [HVJ.out]; exact vis_old (by rw [HFJ.out]; exact hneg))
                refine wp_region_fam Wf i0 h0 (by kernel_rfl) (by kernel_rfl) ?_
                clear h0
                repeat (go_big_quiet_step (first | exact rfl))
                refine wpQuiet_nil ?_
                rintro _ ⟨nq, rfl⟩
                have HW3 := Lib.hid (HW2.out.below (BF.out nq) HW2.out.lt)
                have HO3 := Lib.hid (HO2.out.below (BF.out nq))
                have HX3 := Lib.hid (HX2.out.below (BF.out nq) HX2.out.lt)
                have HL3 := Lib.hid (HL2.out.trans ((BF.out nq).mono HL2.out.size))
                have hs7 := Nat.le_trans hs6 (BF.out nq).size
                clear x0 x1 x2 x3 x4 HW2 HO2 HX2 HL2 hs6 hne2 c1 c3 c4
                generalize Wf nq = w5 at *
                go_wp2
                go_roundw
                case rel => exact ⟨j + 1, by omega, by go_num, by rw [E.out]; exact HW3, by rw [E.out, HLL.out]; exact HO3, HX3, HL3, hs7⟩
                case measure => simp [intOf]; omega
            · have e : j = k := by omega
              subst e
              have hlen2 := HBj.out.len
              have hgr := HAj.out.2
              have hq00 := HQ0.out
              go_wp2
              go_roundw
              case rel => exact ⟨m + 1, by go_num, Lib.hid ⟨by rw [HNX.out]; omega, by omega⟩, by rw [HNX.out]; exact HW2, by rw [HNX.out]; exact HO2, HX2, HL2, hs6⟩
              case measure => simp [intOf]; omega
        · have e : m = s.q.length := by omega
          have y5 : ¬ (m : Int) < (s.q.length : Int) := by omega
          have E := Lib.hid (show far (ov W g) k tt = s.far by
            unfold far
            have h1 := bst_stop (R := ov W g) (N := k) (tt := tt) (k := m) (by rw [HS.out]; omega) (k - m)
            rw [show m + (k - m) = k by omega] at h1
            rw [h1, HS.out])
          clear e
          go_wp2
          go_ret
          exact ⟨fr, rfl, hs1, by rw [E.out]; exact HW.out, HL.out⟩
end Go.Proofs.Ytchbbphokpmacaa
