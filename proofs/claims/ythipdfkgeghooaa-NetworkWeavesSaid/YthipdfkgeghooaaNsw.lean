/- The walk of NetworkStays. -/
import Derived.Test.YthipdfkgeghooaaNri
namespace Go.Proofs.Ythipdfkgeghooaa
open Go.RowKit
set_option maxRecDepth 100000
set_option linter.unusedVariables false
set_option linter.unusedSimpArgs false

/-- The shaft of an end. -/
def vx (S N n : Nat) (b : Nat → Nat) (l : Nat → Int) (x : Nat) : Nat := nv S N (b (x % n)) (l x)
theorem vx_nst {S N n : Nat} {b : Nat → Nat} (hO : NOk S N n b) (l : Nat → Int) (x : Nat) : Nst S N (b (x % n)) (l x) (vx S N n b l x) := nv_nst hO.dv hO.n0 hO.ns (hO.b _ (Nat.mod_lt _ (by have := hO.l0; omega)))
theorem vx_self {S N n : Nat} {b : Nat → Nat} (hO : NOk S N n b) (l : Nat → Int) (x : Nat) : drf S N n b (drf S N n b l) x = drf S N n b l x := by
  have h := vx_nst hO l x
  unfold drf
  rw [nv_eq (v := vx S N n b l x) ⟨h.1, h.2.1, fun s _ _ => ?_⟩]
  · rfl
  · have e : aw ((vx S N n b l x : Nat) : Int) ((nv S N (b (x % n)) (l x) : Nat) : Int) = 0 := by unfold vx aw; split <;> omega
    rw [e]
    unfold vx aw
    split <;> omega
theorem vx_chk {S N n m : Nat} {b : Nat → Nat} (hO : NOk S N n b) (l : Nat → Int) (hm : m ≤ 64) : L2.lchk m (fun i => ((vx S N n b l i : Nat) : Int)) = 0 := by
  unfold L2.lchk
  rw [if_neg (by omega), if_pos (decide_eq_true fun i hi => ?_)]
  have := (vx_nst hO l i).1
  have := hO.s1
  show 0 ≤ ((vx S N n b l i : Nat) : Int) ∧ ((vx S N n b l i : Nat) : Int) < 400
  omega
theorem vx_on {S N n m : Nat} {b : Nat → Nat} (hO : NOk S N n b) (l : Nat → Int) : onB S N n b m (vx S N n b l) = true := decide_eq_true fun x _ => ⟨(vx_nst hO l x).1, (vx_nst hO l x).2.1⟩
set_option maxHeartbeats 3200000 in
theorem stays_no (S N : Int) (A D : Option Addr) (n c m d : Nat) (f l : Nat → Int) (w : World) (hA : L2.Holds w w.heap.size A n f) (hD : L2.Holds w w.heap.size D m l) (hf : fitB S N n f m l = false) :
    Calls Try.prog 6 #[.agg #[.int .i64 S, .int .i64 N, .slice A n c], .slice D m d] w fun e w' => e = .returned (.bool true) ∧ Below w.heap.size w w' := by
  have HA := Lib.hid hA
  have HD := Lib.hid hD
  have HFB := Lib.hid hf
  clear hA hD hf
  have LB0 := Lib.hid (Below.refl w.heap.size w)
  have X1 := IBox.new w S N (.slice A n c)
  have X1 := Lib.hid X1
  have LB0 := Lib.hid (LB0.out.alloc LB0.out.size (.cells #[.int .i64 S, .int .i64 N, .slice A n c] 24))
  have hb := bel_alloc w (.cells #[.int .i64 S, .int .i64 N, .slice A n c] 24)
  replace HA := Lib.hid ((HA.out.below hb).more hb.size)
  replace HD := Lib.hid ((HD.out.below hb).more hb.size)
  clear hb
  go_enter Try.func6, Try.ntmps6
  go_upto_region 1 with (fail)
  generalize w.alloc (.cells #[.int .i64 S, .int .i64 N, .slice A n c] 24) = w0 at *
  have HX := Lib.hid (alive_any w0)
  obtain ⟨q0, q1, q2, q3, q4, q5, q6⟩ := X1.out.all
  go_wp2_with fail
  clear q0 q1 q2 q3 q4 q5 q6
  with_reducible refine Calls.mono HX.out ?_
  clear HX
  rintro e w1 ⟨rfl, hb⟩
  have LB1 := Lib.hid (LB0.out.trans (hb.mono LB0.out.size))
  replace X1 := Lib.hid (X1.out.below hb X1.out.lt)
  replace HA := Lib.hid ((HA.out.below hb).more hb.size)
  replace HD := Lib.hid ((HD.out.below hb).more hb.size)
  clear hb
  have HFT := Lib.hid (fit_any S N A D n c m d f l w1 HA.out HD.out)
  rw [HFB.out] at HFT
  have HX := Lib.hid (HFT.out)
  obtain ⟨q0, q1, q2, q3, q4, q5, q6⟩ := X1.out.all
  go_wp2_with fail
  clear q0 q1 q2 q3 q4 q5 q6
  with_reducible refine Calls.mono HX.out ?_
  clear HX
  rintro e w2 ⟨rfl, hb⟩
  have LB2 := Lib.hid (LB1.out.trans (hb.mono LB1.out.size))
  replace X1 := Lib.hid (X1.out.below hb X1.out.lt)
  replace HA := Lib.hid ((HA.out.below hb).more hb.size)
  replace HD := Lib.hid ((HD.out.below hb).more hb.size)
  clear hb
  go_wp2
  go_ret
  exact ⟨rfl, LB2.out⟩
set_option maxHeartbeats 6400000 in
theorem stays_yes (S N n : Nat) (A : Option Addr) (c : Nat) (b : Nat → Nat) (hO : NOk S N n b) (D : Option Addr) (m d : Nat) (l : Nat → Int) (w : World) (hA : NH w A n b) (hD : L2.Holds w w.heap.size D m l) (hh : hts m l = true) (hfb : fitB (S : Nat) (N : Nat) n (fun i => ((b i : Nat) : Int)) m l = true) :
    Calls Try.prog 6 #[.agg #[.int .i64 (S : Nat), .int .i64 (N : Nat), .slice A n c], .slice D m d] w fun e w' => e = .returned (.bool true) ∧ Below w.heap.size w w' := by
  obtain ⟨hm0, hm1, hml⟩ := hts_of hh
  have HA : Hid (L2.Holds w w.heap.size A n (fun i => ((b i : Nat) : Int))) := Lib.hid hA
  have HD := Lib.hid hD
  have HFB := Lib.hid hfb
  have HO := Lib.hid hO
  have HH := Lib.hid hh
  have HML := Lib.hid hml
  have s40 := hO.s1
  have hNS := hO.ns
  have hn0 := hO.n0
  have hl0 := hO.l0
  have hl1 := hO.l1
  have z0 : ((0 : Int) != 0) = false := rfl
  have z00 : ((0 : Int) == 0) = true := rfl
  have zm : ((m : Int) != (m : Int)) = false := by simp
  have HON := Lib.hid (vx_on hO l (m := m))
  have HCK := Lib.hid (vx_chk hO l hm1)
  clear hA hD hfb hh hml hO
  have LB0 := Lib.hid (Below.refl w.heap.size w)
  have X1 := IBox.new w (S : Nat) (N : Nat) (.slice A n c)
  have X1 := Lib.hid X1
  have LB0 := Lib.hid (LB0.out.alloc LB0.out.size (.cells #[.int .i64 (S : Nat), .int .i64 (N : Nat), .slice A n c] 24))
  have hb := bel_alloc w (.cells #[.int .i64 (S : Nat), .int .i64 (N : Nat), .slice A n c] 24)
  replace HA := Lib.hid ((HA.out.below hb).more hb.size)
  replace HD := Lib.hid ((HD.out.below hb).more hb.size)
  clear hb
  go_enter Try.func6, Try.ntmps6
  go_upto_region 1 with (fail)
  generalize w.alloc (.cells #[.int .i64 (S : Nat), .int .i64 (N : Nat), .slice A n c] 24) = w0 at *
  have HX := Lib.hid (alive_any w0)
  obtain ⟨q0, q1, q2, q3, q4, q5, q6⟩ := X1.out.all
  go_wp2_with fail
  clear q0 q1 q2 q3 q4 q5 q6
  with_reducible refine Calls.mono HX.out ?_
  clear HX
  rintro e w1 ⟨rfl, hb⟩
  have LB1 := Lib.hid (LB0.out.trans (hb.mono LB0.out.size))
  replace X1 := Lib.hid (X1.out.below hb X1.out.lt)
  replace HA := Lib.hid ((HA.out.below hb).more hb.size)
  replace HD := Lib.hid ((HD.out.below hb).more hb.size)
  clear hb
  have HFT := Lib.hid (fit_any (S : Nat) (N : Nat) A D n c m d (fun i => ((b i : Nat) : Int)) l w1 HA.out HD.out)
  rw [HFB.out] at HFT
  have HX := Lib.hid (HFT.out)
  obtain ⟨q0, q1, q2, q3, q4, q5, q6⟩ := X1.out.all
  go_wp2_with fail
  clear q0 q1 q2 q3 q4 q5 q6
  with_reducible refine Calls.mono HX.out ?_
  clear HX
  rintro e w2 ⟨rfl, hb⟩
  have LB2 := Lib.hid (LB1.out.trans (hb.mono LB1.out.size))
  replace X1 := Lib.hid (X1.out.below hb X1.out.lt)
  replace HA := Lib.hid ((HA.out.below hb).more hb.size)
  replace HD := Lib.hid ((HD.out.below hb).more hb.size)
  clear hb
  have HX := Lib.hid (dr_ok S N n A c b HO.out D m d l w2 HA.out HD.out HH.out)
  obtain ⟨q0, q1, q2, q3, q4, q5, q6⟩ := X1.out.all
  go_wp2_with fail
  clear q0 q1 q2 q3 q4 q5 q6
  with_reducible refine Calls.mono HX.out ?_
  clear HX
  rintro e w3 ⟨k1, rfl, hr, hb⟩
  have LB3 := Lib.hid (LB2.out.trans (hb.mono LB2.out.size))
  replace X1 := Lib.hid (X1.out.below hb X1.out.lt)
  replace HA := Lib.hid ((HA.out.below hb).more hb.size)
  replace HD := Lib.hid ((HD.out.below hb).more hb.size)
  clear hb
  have R1 : Hid (L2.Holds w3 w3.heap.size (some ⟨k1, 0, none⟩) m (fun i => ((vx S N n b l i : Nat) : Int))) := Lib.hid (hr.holds hr.lt)
  clear hr
  have HX := Lib.hid (on_ok S N n A c b HO.out (some ⟨k1, 0, none⟩) m m (vx S N n b l) (by omega) w3 HA.out R1.out HCK.out)
  obtain ⟨q0, q1, q2, q3, q4, q5, q6⟩ := X1.out.all
  go_wp2_with fail
  clear q0 q1 q2 q3 q4 q5 q6
  with_reducible refine Calls.mono HX.out ?_
  clear HX
  rintro e w4 ⟨rfl, hb⟩
  rw [HON.out]
  have LB4 := Lib.hid (LB3.out.trans (hb.mono LB3.out.size))
  replace X1 := Lib.hid (X1.out.below hb X1.out.lt)
  replace HA := Lib.hid ((HA.out.below hb).more hb.size)
  replace HD := Lib.hid ((HD.out.below hb).more hb.size)
  replace R1 := Lib.hid ((R1.out.below hb).more hb.size)
  clear hb
  have HX := Lib.hid (tl_ok (some ⟨k1, 0, none⟩) m m (vx S N n b l) N w4 (by omega) R1.out HCK.out hn0 (by omega))
  obtain ⟨q0, q1, q2, q3, q4, q5, q6⟩ := X1.out.all
  go_wp2_with fail
  clear q0 q1 q2 q3 q4 q5 q6
  with_reducible refine Calls.mono HX.out ?_
  clear HX
  rintro e w5 ⟨k2, rfl, hr, hb⟩
  have LB5 := Lib.hid (LB4.out.trans (hb.mono LB4.out.size))
  replace X1 := Lib.hid (X1.out.below hb X1.out.lt)
  replace HA := Lib.hid ((HA.out.below hb).more hb.size)
  replace HD := Lib.hid ((HD.out.below hb).more hb.size)
  replace R1 := Lib.hid ((R1.out.below hb).more hb.size)
  clear hb
  have R2 := Lib.hid (hr.holds hr.lt)
  clear hr
  obtain ⟨q0, q1, q2, q3, q4, q5, q6⟩ := X1.out.all
  go_wp2
  clear q0 q1 q2 q3 q4 q5 q6
  go_loopw [12] (fun i wr => ∃ x : Nat, x ≤ m ∧ i = .int .i64 (x : Nat) ∧ Hid (Below w5.heap.size w5 wr)) (fun i _ => m - (intOf i).toNat)
  case atStart => exact ⟨0, Nat.zero_le _, rfl, Lib.hid (Below.refl _ _)⟩
  case round =>
    obtain ⟨x, hx, rfl, HW⟩ := hrel
    have Y1 := Lib.hid (X1.out.below HW.out X1.out.lt)
    have HAx := Lib.hid ((HA.out.below HW.out).more HW.out.size)
    have HDx := Lib.hid ((HD.out.below HW.out).more HW.out.size)
    have R1x := Lib.hid ((R1.out.below HW.out).more HW.out.size)
    have R2x := Lib.hid ((R2.out.below HW.out).more HW.out.size)
    have LBr := Lib.hid (LB5.out.trans (HW.out.mono LB5.out.size))
    obtain ⟨q0, q1, q2, q3, q4, q5, q6⟩ := Y1.out.all
    by_cases hlt : x < m
    · have y1 : (x : Int) < (m : Int) := by omega
      have y2 : (0 : Int) ≤ (x : Int) := by omega
      have HX := Lib.hid (al_ok S N n A c b x HO.out (by omega) wr HAx.out)
      have HNS := Lib.hid (vx_nst HO.out l x)
      have HTL := Lib.hid (show tlf (vx S N n b l) N x = ((b (x % n) : Nat) : Int) by unfold tlf; rw [(vx_nst HO.out l x).2.1])
      have hlx := HML.out x hlt
      have hvx : vx S N n b l x < S := HNS.out.1
      have hK40 : S / N ≤ 40 := by have := Nat.div_le_self S N; omega
      have HJ0 : Hid (∃ j0, j0 < S / N ∧ vx S N n b l x = b (x % n) + N * j0) := Lib.hid (by
        obtain ⟨e1, e2⟩ := cls_ix HO.out.dv hn0 HNS.out.1 HNS.out.2.1
        exact ⟨_, e1, e2⟩)
      have HRB := Lib.hid (HO.out.b _ (Nat.mod_lt x (show 0 < n by omega)))
      have HCL := Lib.hid (fun i (hi : i < S / N) => cls_lt HO.out.dv HRB.out hi)
      go_wp2_with fail
      clear q0 q1 q2 q3 q4 q5 q6
      with_reducible refine Calls.mono HX.out ?_
      clear HX
      rintro e wa ⟨D3, c3, rfl, hr, hb⟩
      have R3 := Lib.hid hr
      have Y2 := Lib.hid (Y1.out.below hb Y1.out.lt)
      have HAy := Lib.hid ((HAx.out.below hb).more hb.size)
      have HDy := Lib.hid ((HDx.out.below hb).more hb.size)
      have R1y := Lib.hid ((R1x.out.below hb).more hb.size)
      have R2y := Lib.hid ((R2x.out.below hb).more hb.size)
      have HWa := Lib.hid (HW.out.trans (hb.mono HW.out.size))
      clear hr hb Y1 HAx HDx R1x R2x LBr HW
      obtain ⟨j0, hj0, hvj⟩ := HJ0.out
      clear HJ0
      have HVJ := Lib.hid hvj
      clear hvj
      go_wp2
      go_loopw [15, 16] (fun bv i wr => ∃ i' : Nat, i' ≤ S / N ∧ i = .int .i64 (i' : Nat) ∧ bv = .bool (decide (j0 < i')) ∧ Hid (Below wa.heap.size wa wr)) (fun _ i _ => S / N - (intOf i).toNat)
      case atStart => exact ⟨0, Nat.zero_le _, rfl, by simp, Lib.hid (Below.refl _ _)⟩
      case round =>
        obtain ⟨i', hi', rfl, rfl, HWi⟩ := hrel
        by_cases hli : i' < S / N
        · have y3 : (i' : Int) < ((S / N : Nat) : Int) := by omega
          have y4 : (0 : Int) ≤ (i' : Int) := by omega
          obtain ⟨b3, o3, rfl, hl3, hc3⟩ := (R3.out.below HWi.out) (by omega)
          obtain ⟨b1, o1, e1, hl1', hc1⟩ := (R1y.out.below HWi.out) (by omega)
          cases e1
          obtain ⟨bd, od, rfl, hld, hcd⟩ := (HDy.out.below HWi.out) (by omega)
          have a0 : wr.cell? ⟨b3, o3 + i', none⟩ = some (.int .i64 (cls N (b (x % n)) i')) := hc3 i' hli
          have a1 : wr.cell? ⟨k1, 0 + x, none⟩ = some (.int .i64 ((vx S N n b l x : Nat) : Int)) := hc1 x hlt
          rw [Nat.zero_add] at a1
          have a2 : wr.cell? ⟨bd, od + x, none⟩ = some (.int .i64 (l x)) := hcd x hlt
          have hci := HCL.out i' hli
          have HMIN := Lib.hid (HNS.out.2.2 (b (x % n) + N * i') hci (cls_sum HRB.out))
          have HCE : Hid (cls N (b (x % n)) i' = ((b (x % n) + N * i' : Nat) : Int)) := Lib.hid rfl
          have HEQ : Hid (i' = j0 ↔ (b (x % n) + N * i') = vx S N n b l x) := Lib.hid (by
            rw [HVJ.out]
            constructor
            · rintro rfl; rfl
            · intro q
              have q2 : N * i' = N * j0 := by omega
              exact Nat.eq_of_mul_eq_mul_left hn0 q2)
          have HA1 := Lib.hid (fun u => away_any (cls N (b (x % n)) i') (l x) u (by rw [HCE.out]; omega) (by omega))
          have HA2 := Lib.hid (fun u => away_any ((vx S N n b l x : Nat) : Int) (l x) u (by omega) (by omega))
          rw [HCE.out] at a0 HA1
          generalize b (x % n) + N * i' = ci at *
          generalize vx S N n b l x = v at *
          generalize l x = h at *
          clear hc3 hc1 hcd
          have HM2 := Lib.hid HMIN.out
          have hle : decide (aw ((ci : Nat) : Int) h < aw ((v : Nat) : Int) h) = false := by
            have := HMIN.out
            exact decide_eq_false (by omega)
          clear HMIN
          generalize aw ((ci : Nat) : Int) h = aci at *
          generalize aw ((v : Nat) : Int) h = av at *
          by_cases g : j0 < i'
          · have v5 : decide (j0 < i') = true := decide_eq_true g
            rw [v5]
            by_cases g9 : ci < v
            · have u1 : decide ((ci : Int) < (v : Int)) = true := by simp; exact g9
              have u2 : (aci == av) = false := by
                have := HM2.out
                rw [beq_eq_false_iff_ne]
                omega
              clear HM2
              go_wp2
              go_quiet (fail)
              generalize hwd : World.drewN wr _ = wd
              have HWd : Hid (Below wa.heap.size wa wd) := Lib.hid (by rw [← hwd]; exact Go.Proofs.below_drewN' HWi.out _)
              have a0 : wd.cell? ⟨b3, o3 + i', none⟩ = some (.int .i64 ((ci : Nat) : Int)) := by rw [← hwd]; exact a0
              have a1 : wd.cell? ⟨k1, x, none⟩ = some (.int .i64 ((v : Nat) : Int)) := by rw [← hwd]; exact a1
              have a2 : wd.cell? ⟨bd, od + x, none⟩ = some (.int .i64 h) := by rw [← hwd]; exact a2
              have hl3' : b3 < wd.heap.size := by rw [← hwd]; exact Nat.lt_of_lt_of_le hl3 HWi.out.size
              have hl1'' : k1 < wd.heap.size := by rw [← hwd]; exact Nat.lt_of_lt_of_le hl1' HWi.out.size
              have hld' : bd < wd.heap.size := by rw [← hwd]; exact Nat.lt_of_lt_of_le hld HWi.out.size
              clear hwd HWi hl3 hl1' hld
              obtain ⟨I, Wf, i0, h0f, hbf, hcf⟩ := family wd
              have C2 := Lib.hid (fun n' => (HA1.out (Wf n')).mono fun e w2 h => (⟨h.1, n', h.2⟩ : _ ∧ ∃ m, w2 = Wf m))
              have C3 := Lib.hid (fun n' => (HA2.out (Wf n')).mono fun e w2 h => (⟨h.1, n', h.2⟩ : _ ∧ ∃ m, w2 = Wf m))
              have x0 := fun n' => ((hbf n').cell (p := ⟨b3, o3 + i', none⟩) hl3').trans a0
              have x1 := fun n' => ((hbf n').cell (p := ⟨k1, x, none⟩) hl1'').trans a1
              have x2 := fun n' => ((hbf n').cell (p := ⟨bd, od + x, none⟩) hld').trans a2
              have BF := Lib.hid hbf
              clear hbf hcf a0 a1 a2
              go_wp2
              refine wp_region_fam Wf i0 h0f (by kernel_rfl) (by kernel_rfl) ?_
              clear h0f
              try dsimp only [List.append]
              repeat (go_big_quiet_step (first | exact rfl | (go_at_call 30; first | with_reducible exact C2.out _ | with_reducible exact C3.out _)))
              refine wpQuiet_nil ?_
              rintro _ ⟨nq, rfl⟩
              have HBp := Lib.hid (HWd.out.trans ((BF.out nq).mono HWd.out.size))
              clear x0 x1 x2 C2 C3 BF
              go_wp2
              go_roundw
              case rel => exact ⟨i' + 1, by omega, by go_num, by rw [decide_eq_true (show j0 < i' + 1 by omega)], HBp⟩
              case measure => simp [intOf]; omega
            · have u1 : decide ((ci : Int) < (v : Int)) = false := by simp; omega
              clear HM2
              go_wp2
              go_quiet (fail)
              generalize hwd : World.drewN wr _ = wd
              have HWd : Hid (Below wa.heap.size wa wd) := Lib.hid (by rw [← hwd]; exact Go.Proofs.below_drewN' HWi.out _)
              have a0 : wd.cell? ⟨b3, o3 + i', none⟩ = some (.int .i64 ((ci : Nat) : Int)) := by rw [← hwd]; exact a0
              have a1 : wd.cell? ⟨k1, x, none⟩ = some (.int .i64 ((v : Nat) : Int)) := by rw [← hwd]; exact a1
              have a2 : wd.cell? ⟨bd, od + x, none⟩ = some (.int .i64 h) := by rw [← hwd]; exact a2
              have hl3' : b3 < wd.heap.size := by rw [← hwd]; exact Nat.lt_of_lt_of_le hl3 HWi.out.size
              have hl1'' : k1 < wd.heap.size := by rw [← hwd]; exact Nat.lt_of_lt_of_le hl1' HWi.out.size
              have hld' : bd < wd.heap.size := by rw [← hwd]; exact Nat.lt_of_lt_of_le hld HWi.out.size
              clear hwd HWi hl3 hl1' hld
              obtain ⟨I, Wf, i0, h0f, hbf, hcf⟩ := family wd
              have C2 := Lib.hid (fun n' => (HA1.out (Wf n')).mono fun e w2 h => (⟨h.1, n', h.2⟩ : _ ∧ ∃ m, w2 = Wf m))
              have C3 := Lib.hid (fun n' => (HA2.out (Wf n')).mono fun e w2 h => (⟨h.1, n', h.2⟩ : _ ∧ ∃ m, w2 = Wf m))
              have x0 := fun n' => ((hbf n').cell (p := ⟨b3, o3 + i', none⟩) hl3').trans a0
              have x1 := fun n' => ((hbf n').cell (p := ⟨k1, x, none⟩) hl1'').trans a1
              have x2 := fun n' => ((hbf n').cell (p := ⟨bd, od + x, none⟩) hld').trans a2
              have BF := Lib.hid hbf
              clear hbf hcf a0 a1 a2
              go_wp2
              refine wp_region_fam Wf i0 h0f (by kernel_rfl) (by kernel_rfl) ?_
              clear h0f
              try dsimp only [List.append]
              repeat (go_big_quiet_step (first | exact rfl | (go_at_call 30; first | with_reducible exact C2.out _ | with_reducible exact C3.out _)))
              refine wpQuiet_nil ?_
              rintro _ ⟨nq, rfl⟩
              have HBp := Lib.hid (HWd.out.trans ((BF.out nq).mono HWd.out.size))
              clear x0 x1 x2 C2 C3 BF
              go_wp2
              go_roundw
              case rel => exact ⟨i' + 1, by omega, by go_num, by rw [decide_eq_true (show j0 < i' + 1 by omega)], HBp⟩
              case measure => simp [intOf]; omega
          · have v5 : decide (j0 < i') = false := decide_eq_false g
            rw [v5]
            by_cases g2 : i' = j0
            · have hcv := HEQ.out.1 g2
              clear g HEQ
              subst g2
              subst hcv
              have v6 : ((ci : Int) == (ci : Int)) = true := by simp
              have u1 : decide ((ci : Int) < (ci : Int)) = false := by simp
              clear HM2
              go_wp2
              go_quiet (fail)
              generalize hwd : World.drewN wr _ = wd
              have HWd : Hid (Below wa.heap.size wa wd) := Lib.hid (by rw [← hwd]; exact Go.Proofs.below_drewN' HWi.out _)
              have a0 : wd.cell? ⟨b3, o3 + i', none⟩ = some (.int .i64 ((ci : Nat) : Int)) := by rw [← hwd]; exact a0
              have a1 : wd.cell? ⟨k1, x, none⟩ = some (.int .i64 ((ci : Nat) : Int)) := by rw [← hwd]; exact a1
              have a2 : wd.cell? ⟨bd, od + x, none⟩ = some (.int .i64 h) := by rw [← hwd]; exact a2
              have hl3' : b3 < wd.heap.size := by rw [← hwd]; exact Nat.lt_of_lt_of_le hl3 HWi.out.size
              have hl1'' : k1 < wd.heap.size := by rw [← hwd]; exact Nat.lt_of_lt_of_le hl1' HWi.out.size
              have hld' : bd < wd.heap.size := by rw [← hwd]; exact Nat.lt_of_lt_of_le hld HWi.out.size
              clear hwd HWi hl3 hl1' hld
              obtain ⟨I, Wf, i0, h0f, hbf, hcf⟩ := family wd
              have C2 := Lib.hid (fun n' => (HA1.out (Wf n')).mono fun e w2 h => (⟨h.1, n', h.2⟩ : _ ∧ ∃ m, w2 = Wf m))
              have C3 := Lib.hid (fun n' => (HA2.out (Wf n')).mono fun e w2 h => (⟨h.1, n', h.2⟩ : _ ∧ ∃ m, w2 = Wf m))
              have x0 := fun n' => ((hbf n').cell (p := ⟨b3, o3 + i', none⟩) hl3').trans a0
              have x1 := fun n' => ((hbf n').cell (p := ⟨k1, x, none⟩) hl1'').trans a1
              have x2 := fun n' => ((hbf n').cell (p := ⟨bd, od + x, none⟩) hld').trans a2
              have BF := Lib.hid hbf
              clear hbf hcf a0 a1 a2
              go_wp2
              refine wp_region_fam Wf i0 h0f (by kernel_rfl) (by kernel_rfl) ?_
              clear h0f
              try dsimp only [List.append]
              repeat (go_big_quiet_step (first | exact rfl | (go_at_call 30; first | with_reducible exact C2.out _ | with_reducible exact C3.out _)))
              refine wpQuiet_nil ?_
              rintro _ ⟨nq, rfl⟩
              have HBp := Lib.hid (HWd.out.trans ((BF.out nq).mono HWd.out.size))
              clear x0 x1 x2 C2 C3 BF
              go_wp2
              go_roundw
              case rel => exact ⟨i' + 1, by omega, by go_num, by simp, HBp⟩
              case measure => simp [intOf]; omega
            · have v6 : ((ci : Int) == (v : Int)) = false := by
                rw [beq_eq_false_iff_ne]
                intro q
                exact g2 (HEQ.out.2 (by omega))
              by_cases g9 : ci < v
              · have u1 : decide ((ci : Int) < (v : Int)) = true := by simp; exact g9
                have u2 : (aci == av) = false := by
                  have := HM2.out
                  rw [beq_eq_false_iff_ne]
                  omega
                clear HM2
                go_wp2
                go_quiet (fail)
                generalize hwd : World.drewN wr _ = wd
                have HWd : Hid (Below wa.heap.size wa wd) := Lib.hid (by rw [← hwd]; exact Go.Proofs.below_drewN' HWi.out _)
                have a0 : wd.cell? ⟨b3, o3 + i', none⟩ = some (.int .i64 ((ci : Nat) : Int)) := by rw [← hwd]; exact a0
                have a1 : wd.cell? ⟨k1, x, none⟩ = some (.int .i64 ((v : Nat) : Int)) := by rw [← hwd]; exact a1
                have a2 : wd.cell? ⟨bd, od + x, none⟩ = some (.int .i64 h) := by rw [← hwd]; exact a2
                have hl3' : b3 < wd.heap.size := by rw [← hwd]; exact Nat.lt_of_lt_of_le hl3 HWi.out.size
                have hl1'' : k1 < wd.heap.size := by rw [← hwd]; exact Nat.lt_of_lt_of_le hl1' HWi.out.size
                have hld' : bd < wd.heap.size := by rw [← hwd]; exact Nat.lt_of_lt_of_le hld HWi.out.size
                clear hwd HWi hl3 hl1' hld
                obtain ⟨I, Wf, i0, h0f, hbf, hcf⟩ := family wd
                have C2 := Lib.hid (fun n' => (HA1.out (Wf n')).mono fun e w2 h => (⟨h.1, n', h.2⟩ : _ ∧ ∃ m, w2 = Wf m))
                have C3 := Lib.hid (fun n' => (HA2.out (Wf n')).mono fun e w2 h => (⟨h.1, n', h.2⟩ : _ ∧ ∃ m, w2 = Wf m))
                have x0 := fun n' => ((hbf n').cell (p := ⟨b3, o3 + i', none⟩) hl3').trans a0
                have x1 := fun n' => ((hbf n').cell (p := ⟨k1, x, none⟩) hl1'').trans a1
                have x2 := fun n' => ((hbf n').cell (p := ⟨bd, od + x, none⟩) hld').trans a2
                have BF := Lib.hid hbf
                clear hbf hcf a0 a1 a2
                go_wp2
                refine wp_region_fam Wf i0 h0f (by kernel_rfl) (by kernel_rfl) ?_
                clear h0f
                try dsimp only [List.append]
                repeat (go_big_quiet_step (first | exact rfl | (go_at_call 30; first | with_reducible exact C2.out _ | with_reducible exact C3.out _)))
                refine wpQuiet_nil ?_
                rintro _ ⟨nq, rfl⟩
                have HBp := Lib.hid (HWd.out.trans ((BF.out nq).mono HWd.out.size))
                clear x0 x1 x2 C2 C3 BF
                go_wp2
                go_roundw
                case rel => exact ⟨i' + 1, by omega, by go_num, by rw [decide_eq_false (show ¬ j0 < i' + 1 by omega)], HBp⟩
                case measure => simp [intOf]; omega
              · have u1 : decide ((ci : Int) < (v : Int)) = false := by simp; omega
                clear HM2
                go_wp2
                go_quiet (fail)
                generalize hwd : World.drewN wr _ = wd
                have HWd : Hid (Below wa.heap.size wa wd) := Lib.hid (by rw [← hwd]; exact Go.Proofs.below_drewN' HWi.out _)
                have a0 : wd.cell? ⟨b3, o3 + i', none⟩ = some (.int .i64 ((ci : Nat) : Int)) := by rw [← hwd]; exact a0
                have a1 : wd.cell? ⟨k1, x, none⟩ = some (.int .i64 ((v : Nat) : Int)) := by rw [← hwd]; exact a1
                have a2 : wd.cell? ⟨bd, od + x, none⟩ = some (.int .i64 h) := by rw [← hwd]; exact a2
                have hl3' : b3 < wd.heap.size := by rw [← hwd]; exact Nat.lt_of_lt_of_le hl3 HWi.out.size
                have hl1'' : k1 < wd.heap.size := by rw [← hwd]; exact Nat.lt_of_lt_of_le hl1' HWi.out.size
                have hld' : bd < wd.heap.size := by rw [← hwd]; exact Nat.lt_of_lt_of_le hld HWi.out.size
                clear hwd HWi hl3 hl1' hld
                obtain ⟨I, Wf, i0, h0f, hbf, hcf⟩ := family wd
                have C2 := Lib.hid (fun n' => (HA1.out (Wf n')).mono fun e w2 h => (⟨h.1, n', h.2⟩ : _ ∧ ∃ m, w2 = Wf m))
                have C3 := Lib.hid (fun n' => (HA2.out (Wf n')).mono fun e w2 h => (⟨h.1, n', h.2⟩ : _ ∧ ∃ m, w2 = Wf m))
                have x0 := fun n' => ((hbf n').cell (p := ⟨b3, o3 + i', none⟩) hl3').trans a0
                have x1 := fun n' => ((hbf n').cell (p := ⟨k1, x, none⟩) hl1'').trans a1
                have x2 := fun n' => ((hbf n').cell (p := ⟨bd, od + x, none⟩) hld').trans a2
                have BF := Lib.hid hbf
                clear hbf hcf a0 a1 a2
                go_wp2
                refine wp_region_fam Wf i0 h0f (by kernel_rfl) (by kernel_rfl) ?_
                clear h0f
                try dsimp only [List.append]
                repeat (go_big_quiet_step (first | exact rfl | (go_at_call 30; first | with_reducible exact C2.out _ | with_reducible exact C3.out _)))
                refine wpQuiet_nil ?_
                rintro _ ⟨nq, rfl⟩
                have HBp := Lib.hid (HWd.out.trans ((BF.out nq).mono HWd.out.size))
                clear x0 x1 x2 C2 C3 BF
                go_wp2
                go_roundw
                case rel => exact ⟨i' + 1, by omega, by go_num, by rw [decide_eq_false (show ¬ j0 < i' + 1 by omega)], HBp⟩
                case measure => simp [intOf]; omega
        · obtain rfl : i' = S / N := by omega
          have y3 : ¬ ((S / N : Nat) : Int) < ((S / N : Nat) : Int) := by omega
          have v5 : decide (j0 < S / N) = true := decide_eq_true hj0
          rw [v5]
          obtain ⟨bb, oo, rfl, hlb, hcb⟩ := (HAy.out.below HWi.out) hl0
          obtain ⟨b2, o2, e2, hl2, hc2⟩ := (R2y.out.below HWi.out) (by omega)
          cases e2
          have hmn : x % n < n := Nat.mod_lt _ (by omega)
          have a0 : wr.cell? ⟨k2, 0 + x, none⟩ = some (.int .i64 (tlf (vx S N n b l) N x)) := hc2 x hlt
          rw [Nat.zero_add, HTL.out] at a0
          have a1 : wr.cell? ⟨bb, oo + x % n, none⟩ = some (.int .i64 ((b (x % n) : Nat) : Int)) := hcb (x % n) hmn
          have q0 := (Y2.out.below HWi.out Y2.out.lt).c0
          have q1 := (Y2.out.below HWi.out Y2.out.lt).c1
          have q2 := (Y2.out.below HWi.out Y2.out.lt).c2
          have u1 : ((S : Nat) : Int).tdiv ((N : Nat) : Int) = ((S / N : Nat) : Int) := rfl
          have u2 : IntKind.i64.wrap ((S / N : Nat) : Int) = ((S / N : Nat) : Int) := IntWalk.i64_in _ (by omega)
          have u3 := tmod_nat x n
          have u4 : ¬ N = 0 := by omega
          have u5 : ¬ n = 0 := by omega
          have u6 : (((S / N : Nat) : Int) != ((S / N : Nat) : Int)) = false := by simp
          have u7 : ((x % n : Nat) : Int) < (n : Int) := by omega
          have u8 : (0 : Int) ≤ ((x % n : Nat) : Int) := by omega
          have u9 : (((b (x % n) : Nat) : Int) != ((b (x % n) : Nat) : Int)) = false := by simp
          clear hcb hc2 hj0
          generalize S / N = K at *
          generalize b (x % n) = r at *
          generalize x % n = xm at *
          go_wp2
          go_quiet (fail)
          go_wp2
          go_roundw
          case rel => exact ⟨x + 1, by omega, by go_num, Lib.hid (HWa.out.trans ((Go.Proofs.below_drewN' HWi.out _).mono HWa.out.size))⟩
          case measure => simp [intOf]; omega
    · obtain rfl : x = m := by omega
      have y1 : ¬ (x : Int) < (x : Int) := by omega
      have HR1 : Hid (L2.Holds wr wr.heap.size (some ⟨k1, 0, none⟩) x (drf S N n b l)) := Lib.hid R1x.out
      have HHT := Lib.hid (hts_mk (m := x) (l := drf S N n b l) hm0 hm1 (fun i hi => by
        have h1 := (vx_nst HO.out l i).1
        show 0 ≤ ((vx S N n b l i : Nat) : Int) ∧ ((vx S N n b l i : Nat) : Int) ≤ 1000
        omega))
      have HX := Lib.hid (dr_ok S N n A c b HO.out (some ⟨k1, 0, none⟩) x x (drf S N n b l) wr HAx.out HR1.out HHT.out)
      have HSE := Lib.hid (fun i (_ : i < x) => vx_self HO.out l i)
      go_wp2_with fail
      clear q0 q1 q2 q3 q4 q5 q6
      with_reducible refine Calls.mono HX.out ?_
      clear HX
      rintro e wz ⟨k5, rfl, hr, hb⟩
      have LBz := Lib.hid (LBr.out.trans (hb.mono LBr.out.size))
      have R5 := Lib.hid ((HR1.out.below hb).more hb.size)
      have R6 := Lib.hid (hr.holds hr.lt)
      have HX := Lib.hid (lv_same (n := x) (by omega) ⟨R6.out⟩ ⟨R5.out⟩ x x HSE.out)
      clear hb hr
      go_wp2_with fail
      with_reducible refine Calls.mono HX.out ?_
      clear HX
      rintro e wy ⟨rfl, hb⟩
      have LBy := Lib.hid (LBz.out.trans (hb.mono LBz.out.size))
      clear hb
      go_wp2
      go_ret
      exact ⟨rfl, LBy.out⟩
theorem stays_any (S N : Int) (A D : Option Addr) (n c m d : Nat) (f l : Nat → Int) (w : World) (hA : L2.Holds w w.heap.size A n f) (hD : L2.Holds w w.heap.size D m l) :
    Calls Try.prog 6 #[.agg #[.int .i64 S, .int .i64 N, .slice A n c], .slice D m d] w fun e w' => e = .returned (.bool true) ∧ Below w.heap.size w w' := by
  cases hf : fitB S N n f m l with
  | false => exact stays_no S N A D n c m d f l w hA hD hf
  | true =>
    obtain ⟨h1, h2, h3, h4⟩ := fit_of hf
    obtain ⟨P, Q, b, rfl, rfl, hO, hb⟩ := nck_ok h3
    have hf2 : fitB (P : Nat) (Q : Nat) n (fun i => ((b i : Nat) : Int)) m l = true := by
      unfold fitB at hf ⊢
      rw [nck_congr hb] at hf
      exact hf
    exact stays_yes P Q n A c b hO D m d l w (hA.congr hb) hD h4 hf2
end Go.Proofs.Ythipdfkgeghooaa
