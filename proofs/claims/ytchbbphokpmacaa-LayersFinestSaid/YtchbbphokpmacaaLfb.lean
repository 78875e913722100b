/- The walk of LayersFinest. -/
import Derived.Test.YtchbbphokpmacaaLfa
import Derived.Deep.DeepCutAuto
namespace Go.Proofs.Ytchbbphokpmacaa
open Go.RowKit
set_option maxRecDepth 100000
set_option linter.unusedVariables false
set_option linter.unusedSimpArgs false

set_option maxHeartbeats 6400000 in
theorem fin_t (W H N : Nat) (hNN : W + H = N) (A : Option Addr) (c : Nat) (g : Nat → Bool) (E : Option Addr) (m d : Nat) (s : Nat → Int) (w : World) (hg : Holds w w.heap.size A (W * H) g) (hs : L2.Holds w w.heap.size E m s) (hW0 : 1 ≤ W) (hW : W ≤ 64) (hH0 : 1 ≤ H) (hH : H ≤ 64) (hv : grt (W : Nat) (H : Nat) (W * H) = false) (hm40 : m ≤ 40) (hset : setB (W + H) m s = true) :
    Calls Try.prog 13 #[.agg #[.int .i64 (W : Nat), .int .i64 (H : Nat), .slice A (W * H) c], .slice E m d] w fun e w' => e = .returned (.bool true) ∧ Below w.heap.size w w' := by
  have hN : N ≤ 128 := by omega
  have hN0 : 0 < N := by omega
  have HV := Lib.hid (fun u => valid_yes (A := A) (c := c) hv (chk_zero hW0 hW hH0 hH) u)
  have HPA := Lib.hid (fun u (h : Below w.heap.size w u) => parts_n W H N hNN A c g u ((hg.below h).more h.size) hW0 hW hH0 hH)
  have HHA := Lib.hid (fun u (h : Below w.heap.size w u) => phangs_core W H N hNN A c g u ((hg.below h).more h.size) hW0 hW hH0 hH _ (pno_hangs hN0))
  have HOF := Lib.hid (fun u (h : Below w.heap.size w u) => poff_t W H A c g E m d s u ((hg.below h).more h.size) hW0 hW hH0 hH (by omega) ((hs.below h).more h.size) hset)
  have HMK := Lib.hid (fun u (h : Below w.heap.size w u) => marks_any W H A (W * H) c E m d s u hW hH (by omega) ((hs.below h).more h.size) fun i hi => by obtain ⟨a, ha, e⟩ := setB_at hset hi; rw [e]; omega)
  have HWH := Lib.hid (show offB (ov W g) (W + H) m s = true → ∀ a b, a < N → cls (ov W g) N a b = true → mem m s a = mem m s b from fun h a b ha hc => off_whole (N := N) (by rw [← hNN]; exact (off_P hset).1 h) ha hc)
  generalize mem m s = U at *
  generalize offB (ov W g) (W + H) m s = off at *
  have HTR := Lib.hid (fun u => rthr_any W H A (W * H) c u hW hH)
  have HSE := Lib.hid (fun u D n d f (hn : n ≤ 30000) (hr : L2.Holds u u.heap.size D n f) => rset_any W H A (W * H) c D n d f u hW hH hn hr)
  have HSP := Lib.hid (fun u (h : Below w.heap.size w u) n (hn : n ≤ pno (ov W g) N) => psplit_n W H N hNN A c g n u ((hg.below h).more h.size) hW0 hW hH0 hH hn)
  have HOT := Lib.hid (fun u (h : Below w.heap.size w u) n (hn : n < pno (ov W g) N) D d (hl : LL u D (ofl (topS (ov W g) N n) N)) => (show Calls Try.prog 40 #[.agg #[.int .i64 (W : Nat), .int .i64 (H : Nat), .slice A (W * H) c], .slice D (ofl (topS (ov W g) N n) N).length d] u (BRet u (decide (0 < n)) 0) from by
    have h9 := poff_t W H A c g D (ofl (topS (ov W g) N n) N).length d (lf (ofl (topS (ov W g) N n) N)) u ((hg.below h).more h.size) hW0 hW hH0 hH (by have := ofl_len (topS (ov W g) N n) N; omega) hl (by rw [hNN]; exact setB_ofl)
    rw [hNN, top_comes hn] at h9
    exact h9))
  rw [hNN] at HTR HSE HMK
  have hmkb := mkb_run N (by omega)
  have hmki := mki_run N (by omega)
  generalize hR : ov W g = R at *
  clear hR
  have hm0 := (pno_all R N).1
  have hmp := pno_pos (R := R) hN0
  have HLT := Lib.hid (fun k => prt_len R N k)
  have HPM := Lib.hid (fun n (h : n < pno R N) => prt_pos (pno_ne h))
  have HSB := Lib.hid (fun n (h : n < pno R N) => setB_prt h)
  have HGD := Lib.hid (fun n k (h : n < pno R N) (hk : k < (prt R N n).length) => prt_getD h hk)
  have HTB := Lib.hid (fun n => top_bot R N n)
  have HC0 := Lib.hid (fun n k (h : n < pno R N) (hk : k < (prt R N n).length) => cnt_zero h hk)
  have HCN := Lib.hid (fun n (h : n < pno R N) a (ha : a < N) => cnt_next h ha)
  have HCE := Lib.hid (fun a (ha : a < N) => cnt_end (R := R) ha)
  have y40 : ¬ (40 : Int) < (m : Int) := by omega
  have y41 : ¬ (m : Int) > 40 := by omega
  have X0 := Lib.hid (Box.new w (W : Nat) (H : Nat) (.slice A (W * H) c))
  have LB0 := Lib.hid (show Below w.heap.size w (w.alloc (.cells #[.int .i64 (W : Nat), .int .i64 (H : Nat), (.slice A (W * H) c)] 24)) from (Below.refl _ _).alloc (Nat.le_refl _) _)
  clear hg hs hNN hv hset
  generalize W * H = M at *
  obtain ⟨pn, hpn⟩ : ∃ x, pno R N = x := ⟨_, rfl⟩
  have HPN := Lib.hid hpn
  rw [hpn] at HPA HHA HSP HOT hm0 hmp HPM HSB HGD HC0 HCN HCE
  clear hpn
  go_enter Try.func13, Try.ntmps13
  go_wp2_with fail
  generalize w.alloc (.cells #[.int .i64 (W : Nat), .int .i64 (H : Nat), .slice A M c] 24) = w0 at *
  obtain ⟨q0, q1, q2, q3, q4, q5, q6⟩ := X0.out.all
  go_wp2_with fail
  clear q0 q1 q2 q3 q4 q5 q6
  with_reducible refine Calls.mono (HV.out _) ?_
  rintro e w1 ⟨rfl, hb⟩
  have X1 := Lib.hid (X0.out.below hb X0.out.lt)
  have LB1 := Lib.hid (LB0.out.trans (hb.mono LB0.out.size))
  clear hb X0 LB0 
  obtain ⟨q0, q1, q2, q3, q4, q5, q6⟩ := X1.out.all
  go_wp2_with fail
  clear q0 q1 q2 q3 q4 q5 q6
  with_reducible refine Calls.mono (HPA.out _ LB1.out) ?_
  rintro e w2 ⟨DP, dP, rfl, _, hls, hb⟩
  have X2 := Lib.hid (X1.out.below hb X1.out.lt)
  have LB2 := Lib.hid (LB1.out.trans (hb.mono LB1.out.size))
  have P := Lib.hid hls
  clear hb X1 LB1 hls
  obtain ⟨q0, q1, q2, q3, q4, q5, q6⟩ := X2.out.all
  go_wp2_with fail
  clear q0 q1 q2 q3 q4 q5 q6
  with_reducible refine Calls.mono (HHA.out _ LB2.out) ?_
  rintro e w3 ⟨rfl, hb⟩
  have X3 := Lib.hid (X2.out.below hb X2.out.lt)
  have LB3 := Lib.hid (LB2.out.trans (hb.mono LB2.out.size))
  have P := Lib.hid (P.out.below hb)
  clear hb X2 LB2 
  have e1 : decide (pn = 1) = ((pn : Int) == 1) := by
    rw [Bool.eq_iff_iff, decide_eq_true_iff, beq_iff_eq]; omega
  have e2 : (decide (pn = 1) != ((pn : Int) == 1)) = false := by rw [e1]; simp
  obtain ⟨b1, hb1⟩ : ∃ b, decide (pn = 1) = b := ⟨_, rfl⟩
  have e3 : ((pn : Int) == 1) = b1 := by rw [← hb1, e1]
  clear e1 e2
  rw [hb1]
  clear hb1 HHA HPA HV
  have f1 : (b1 != b1) = false := by cases b1 <;> rfl
  obtain ⟨q0, q1, q2, q3, q4, q5, q6⟩ := X3.out.all
  go_wp2_with fail
  clear q0 q1 q2 q3 q4 q5 q6
  with_reducible refine Calls.mono (HOF.out _ LB3.out) ?_
  rintro e w4 ⟨rfl, hb⟩
  have X4 := Lib.hid (X3.out.below hb X3.out.lt)
  have LB4 := Lib.hid (LB3.out.trans (hb.mono LB3.out.size))
  have P := Lib.hid (P.out.below hb)
  clear hb X3 LB3 
  obtain ⟨q0, q1, q2, q3, q4, q5, q6⟩ := X4.out.all
  go_wp2_with fail
  clear q0 q1 q2 q3 q4 q5 q6
  with_reducible refine Calls.mono (HTR.out _) ?_
  rintro e w5 ⟨rfl, hb⟩
  have X5 := Lib.hid (X4.out.below hb X4.out.lt)
  have LB5 := Lib.hid (LB4.out.trans (hb.mono LB4.out.size))
  have P := Lib.hid (P.out.below hb)
  clear hb X4 LB4 
  have UM := Lib.hid (Row.made w5 N)
  have XA := Lib.hid (X5.out.alloc (.cells (madeCells #[.bool false] N) 4))
  have PA := Lib.hid (P.out.below (bel_alloc _ (.cells (madeCells #[.bool false] N) 4)))
  have LBA := Lib.hid (LB5.out.alloc LB5.out.size (.cells (madeCells #[.bool false] N) 4))
  clear X5 LB5 P
  go_upto_region 9 with (fail)
  generalize w5.heap.size = kb0 at *
  generalize w5.alloc (.cells (madeCells #[.bool false] N) 4) = wa at *
  obtain ⟨q0, q1, q2, q3, q4, q5, q6⟩ := XA.out.all
  go_wp2_with fail
  clear q0 q1 q2 q3 q4 q5 q6
  with_reducible refine Calls.mono (HMK.out _ LBA.out) ?_
  rintro e wc ⟨kb, rfl, hkb, hrow, hb⟩
  have XC := Lib.hid (XA.out.below hb XA.out.lt)
  have PC := Lib.hid (PA.out.below hb)
  have LBC := Lib.hid (LBA.out.trans (hb.mono LBA.out.size))
  have UC := Lib.hid hrow
  clear hb hrow hkb XA PA LBA UM HMK
  have hoff := HWH.out
  have HWH := Lib.hid (show off = true → ∀ x y, x < N → cls R N x y = true → U x = U y from hoff)
  clear hoff
  have hcl := XC.out.lt
  have hul := UC.out.lt
  have RW := Lib.hid ((VR.made wc N (.int .i64 0) 3))
  have HB0 := Lib.hid (bel_alloc wc (.cells (madeCells #[.int .i64 0] N) 3))
  go_wp2
  clear hmkb hmki
  obtain ⟨cb, hcb⟩ : ∃ cb, wc.heap.size = cb := ⟨_, rfl⟩
  have HCB := Lib.hid hcb
  rw [hcb] at RW HB0 hcl hul ⊢
  clear hcb
  generalize wc.alloc (.cells (madeCells #[.int .i64 0] N) 3) = w20 at *
  have RW0 : Hid (L2.Row w20 cb N (cntF R N 0 0)) := Lib.hid (by obtain ⟨cs, a1, a2, a3⟩ := RW.out; exact ⟨cs, a1, a2, fun i hi => by rw [a3 i hi]; rfl⟩)
  clear RW
  have hwc : w.heap.size ≤ cb := by have := LBC.out.size; rw [HCB.out] at this; exact this
  go_loopw [13] (fun i wr => ∃ n : Nat, n ≤ pn ∧ i = .int .i64 n ∧ Hid (L2.Row wr cb N (cntF R N n 0)) ∧ Hid (Below cb wc wr)) (fun i _ => pn - (intOf i).toNat)
  case atStart => exact ⟨0, Nat.zero_le _, rfl, RW0, HB0⟩
  case round =>
    obtain ⟨n, hn, rfl, HW, HB⟩ := hrel
    clear RW0 HB0
    by_cases hlt : n < pn
    · have y1 : (n : Int) < (pn : Int) := by omega
      have y2 : (0 : Int) ≤ (n : Int) := by omega
      obtain ⟨b1, o1, rfl, hb1, hc1⟩ := (PC.out.below (by rw [HCB.out]; exact HB.out)) (by omega)
      obtain ⟨E1, d1, a1, _, l1⟩ := hc1 n hlt
      obtain ⟨b1w, o1w, e1w, hb1w, hc1w⟩ := PC.out (by omega)
      cases e1w
      obtain ⟨E1w, d1w, a1w, _, l1w⟩ := hc1w n hlt
      have hcell := HB.out.cell (p := ⟨b1, o1 + n, none⟩) (by rw [← HCB.out]; exact hb1w)
      rw [a1, a1w] at hcell
      cases hcell
      rw [HCB.out] at hb1w
      have hpl := HLT.out n
      have hpp := HPM.out n hlt
      have hsb := HSB.out n hlt
      obtain ⟨I, Wf, i0, h0, hbf, hcf⟩ := family wr
      have hne : Nonempty I := ⟨i0⟩
      have C1 := Lib.hid (fun n' => (HSE.out (Wf n') E1 (prt R N n).length d1 (lf (prt R N n)) (by omega) (l1.below (hbf n'))).mono fun e w2 h => (⟨h.1, hcf n' _ h.2⟩ : _ ∧ ∃ m, w2 = Wf m))
      rw [hsb] at C1
      have x1 := fun n' => ((hbf n').cell (p := ⟨b1, o1 + n, none⟩) hb1).trans a1
      have XW := XC.out.below HB.out hcl
      have x2 := fun n' => (XW.below (hbf n') XW.lt).c0
      have x3 := fun n' => (XW.below (hbf n') XW.lt).c1
      have x4 := fun n' => (XW.below (hbf n') XW.lt).c2
      have BF := Lib.hid hbf
      have HEL := Lib.hid (show LL wc E1 (prt R N n) from l1w)
      have HZ0 := Lib.hid (fun k hk => HC0.out n k hlt hk)
      have HGDn := Lib.hid (fun k hk => HGD.out n k hlt hk)
      have HCS := Lib.hid (fun k (hk : k < (prt R N n).length) a => cnt_succ (R := R) (N := N) (n := n) hk a)
      have HCNn := Lib.hid (fun a ha => HCN.out n hlt a ha)
      have HA1 := Lib.hid (show wc.cell? ⟨b1, o1 + n, none⟩ = some (.slice E1 (prt R N n).length d1) from a1w)
      clear hcf hbf hb1 hc1 l1 a1 XW hsb hc1w a1w l1w
      obtain ⟨ln, hln⟩ : ∃ x, (prt R N n).length = x := ⟨_, rfl⟩
      have HLN := Lib.hid hln
      rw [hln] at x1 C1 hpp hpl HZ0 HGDn HCS HCNn HA1
      clear hln
      have z1 : ((ln : Int) == 0) = false := by rw [beq_eq_false_iff_ne]; omega
      go_wp2
      refine wp_region_fam Wf i0 h0 (by kernel_rfl) (by kernel_rfl) ?_
      clear h0
      repeat (go_big_quiet_step (first | exact rfl | (go_at_call 65; with_reducible exact C1.out _)))
      refine wpQuiet_nil ?_
      rintro _ ⟨nq, rfl⟩
      have HB2 := Lib.hid (HB.out.trans ((BF.out nq).mono (by have := HW.out.lt; omega)))
      have HW2 := Lib.hid (HW.out.below (BF.out nq) HW.out.lt)
      clear x1 x2 x3 x4 C1 hne HW HB
      generalize Wf nq = w21 at *
      go_wp2
      go_loopw [14] (fun i wr => ∃ k : Nat, k ≤ ln ∧ i = .int .i64 k ∧ Hid (L2.Row wr cb N (cntF R N n k)) ∧ Hid (Below cb wc wr)) (fun i _ => ln - (intOf i).toNat)
      case atStart => exact ⟨0, Nat.zero_le _, rfl, HW2, HB2⟩
      case round =>
        obtain ⟨k, hk, rfl, HW3, HB3⟩ := hrel
        clear HW2 HB2
        have a1 := (HB3.out.cell (p := ⟨b1, o1 + n, none⟩) hb1w).trans HA1.out
        by_cases hlk : k < ln
        · have y3 : (k : Int) < (ln : Int) := by omega
          have y4 : (0 : Int) ≤ (k : Int) := by omega
          have y4b : (0 : Int) < (ln : Int) := by omega
          obtain ⟨b2, o2, rfl, hb2, hc2⟩ := HEL.out (by rw [HLN.out]; omega)
          rw [HCB.out] at hb2
          have a2 := (HB3.out.cell (p := ⟨b2, o2 + k, none⟩) hb2).trans (hc2 k (by rw [HLN.out]; exact hlk))
          have a3 := (HB3.out.cell (p := ⟨b2, o2 + 0, none⟩) hb2).trans (hc2 0 (by rw [HLN.out]; exact hpp))
          rw [Nat.add_zero] at a3
          rw [show lf (prt R N n) k = (((prt R N n).getD k 0 : Nat) : Int) from rfl] at a2
          rw [show lf (prt R N n) 0 = (((prt R N n).getD 0 0 : Nat) : Int) from rfl] at a3
          obtain ⟨hxN, hxc⟩ := HGDn.out k hlk
          obtain ⟨hyN, hyc⟩ := HGDn.out 0 hpp
          have hz := HZ0.out k hlk
          have hcs := HCS.out k hlk
          have hxy : cls R N ((prt R N n).getD k 0) ((prt R N n).getD 0 0) = true := cls_trans hxN (cls_symm hxc) hyc
          have HXY := Lib.hid hxy
          obtain ⟨x, hx⟩ : ∃ x, (prt R N n).getD k 0 = x := ⟨_, rfl⟩
          obtain ⟨y, hy⟩ : ∃ y, (prt R N n).getD 0 0 = y := ⟨_, rfl⟩
          rw [hx] at a2 hxN hz hcs HXY
          rw [hy] at a3 hyN HXY
          have d1' := HW3.out.cell hxN
          rw [hz] at d1'
          have d2 := HW3.out.free x
          have HW4 := Lib.hid ((HW3.out.set_ x 1).congr (f' := cntF R N n (k + 1)) fun j _ => hcs j)
          have HB4 := Lib.hid (HB3.out.setCell (p := ⟨cb, x, none⟩) (Nat.le_refl _) (.int .i64 1))
          have y5 : (x : Int) < (N : Int) := by omega
          have y6 : (0 : Int) ≤ (x : Int) := by omega
          have y7 : (y : Int) < (N : Int) := by omega
          have y8 : (0 : Int) ≤ (y : Int) := by omega
          have a3' : wc.cell? ⟨b2, o2, none⟩ = some (.int .i64 (y : Nat)) := by
            have h9 := hc2 0 (by rw [HLN.out]; exact hpp)
            rw [Nat.add_zero, show lf (prt R N n) 0 = (((prt R N n).getD 0 0 : Nat) : Int) from rfl, hy] at h9
            exact h9
          have a2' : wc.cell? ⟨b2, o2 + k, none⟩ = some (.int .i64 (x : Nat)) := by
            have h9 := hc2 k (by rw [HLN.out]; exact hlk)
            rw [show lf (prt R N n) k = (((prt R N n).getD k 0 : Nat) : Int) from rfl, hx] at h9
            exact h9
          have HFA := Lib.hid (fun (u : World) (h : Below cb wc u) => (show u.cell? ⟨b1, o1 + n, none⟩ = some (.slice (some ⟨b2, o2, none⟩) ln d1) ∧ u.cell? ⟨b2, o2 + k, none⟩ = some (.int .i64 (x : Nat)) ∧ u.cell? ⟨b2, o2, none⟩ = some (.int .i64 (y : Nat)) ∧ u.cell? ⟨kb, x, none⟩ = some (.bool (U x)) ∧ u.cell? ⟨kb, y, none⟩ = some (.bool (U y)) from
            ⟨(h.cell (p := ⟨b1, o1 + n, none⟩) hb1w).trans HA1.out, (h.cell (p := ⟨b2, o2 + k, none⟩) hb2).trans a2', (h.cell (p := ⟨b2, o2, none⟩) hb2).trans a3', (UC.out.below h hul).cell hxN, (UC.out.below h hul).cell hyN⟩))
          clear a2' a3' hb2
          clear hx hy hxc hyc hcs hz hxy HW3 HB3 hc2
          go_upto_region 21 with (fail)
          clear d1' d2 a1 a2 a3
          obtain ⟨w22, hw22⟩ : ∃ w22, wr.setCell ⟨cb, x, none⟩ (.int .i64 1) = w22 := ⟨_, rfl⟩
          rw [hw22] at HW4 HB4 ⊢
          clear hw22
          obtain ⟨a1, a2, a3, a4, a5⟩ := HFA.out _ HB4.out
          cases off
          · clear HFA
            go_quiet (fail)
            go_wp2
            go_roundw
            case rel => exact ⟨k + 1, by omega, by go_num, Lib.hid (HW4.out.drewN _), Lib.hid (Go.Proofs.below_drewN' HB4.out _)⟩
            case measure => simp [intOf]; omega
          · have hu := HWH.out rfl x y hxN HXY.out
            obtain ⟨ub, hub⟩ : ∃ z, U y = z := ⟨_, rfl⟩
            rw [hu, hub] at a4
            rw [hub] at a5
            have zu : (ub != ub) = false := by cases ub <;> rfl
            clear hu hub HFA
            go_quiet (fail)
            go_wp2
            go_roundw
            case rel => exact ⟨k + 1, by omega, by go_num, Lib.hid (HW4.out.drewN _), Lib.hid (Go.Proofs.below_drewN' HB4.out _)⟩
            case measure => simp [intOf]; omega
        · have e : k = ln := by omega
          have y3 : ¬ (k : Int) < (ln : Int) := by omega
          have HW5 := Lib.hid (HW3.out.congr (f' := cntF R N (n + 1) 0) fun j hj => by rw [e]; exact HCNn.out j hj)
          clear HW3 e
          have LBW := Lib.hid (LBC.out.trans (HB3.out.mono hwc))
          have HSPn := Lib.hid (HSP.out wr LBW.out n (by omega))
          have htb := HTB.out n
          have HOTn := Lib.hid (fun u (h : Below w.heap.size w u) D d hl => HOT.out u h n hlt D d hl)
          have XW := Lib.hid (XC.out.below HB3.out hcl)
          have hrl := HW5.out.lt
          obtain ⟨q0, q1, q2, q3, q4, q5, q6⟩ := XW.out.all
          obtain ⟨t1, ht1⟩ : ∃ x, (ofl (topS R N n) N).length = x := ⟨_, rfl⟩
          obtain ⟨t2, ht2⟩ : ∃ x, (ofl (out R N n) N).length = x := ⟨_, rfl⟩
          rw [ht1, ht2] at htb
          rw [ht1] at HOTn
          have HT1 := Lib.hid ht1
          have HT2 := Lib.hid ht2
          clear ht1 ht2
          go_wp2_with fail
          clear q0 q1 q2 q3 q4 q5 q6 a1
          with_reducible refine Calls.mono HSPn.out ?_
          rintro e9 w23 ⟨D1, e1, D2, e2, rfl, ⟨_, hl1⟩, _, hb⟩
          have HO1 := Lib.hid (HOTn.out w23 (LBW.out.trans (hb.mono LBW.out.size)) D1 e1 hl1)
          have HB5 := Lib.hid (HB3.out.trans (hb.mono (by omega)))
          have HW6 := Lib.hid (HW5.out.below hb HW5.out.lt)
          have X5 := Lib.hid (XW.out.below hb XW.out.lt)
          rw [HT1.out, HT2.out]
          obtain ⟨bo, hbo⟩ : ∃ x, decide (0 < n) = x := ⟨_, rfl⟩
          rw [hbo] at HO1
          have HBO := Lib.hid hbo
          clear hb hl1 HB3 HW5 XW HSPn HOTn hbo
          obtain ⟨q0, q1, q2, q3, q4, q5, q6⟩ := X5.out.all
          go_wp2_with fail
          clear q0 q1 q2 q3 q4 q5 q6
          with_reducible refine Calls.mono HO1.out ?_
          rintro e9 w24 ⟨rfl, hb⟩
          have HB6 := Lib.hid (HB5.out.trans (hb.mono (by have := HW6.out.lt; omega)))
          have HW7 := Lib.hid (HW6.out.below hb HW6.out.lt)
          clear hb HB5 HW6 X5 HO1
          have z2 : IntKind.i64.wrap ((t1 : Int) + (t2 : Int)) = (N : Int) := by rw [IntWalk.i64_in _ (by omega)]; omega
          have z3 : ((N : Int) != (N : Int)) = false := by simp
          have z4 : ((t1 : Int) + (t2 : Int) != (N : Int)) = false := by rw [show (t1 : Int) + (t2 : Int) = (N : Int) by omega]; simp
          by_cases h0 : 0 < n
          · have h1 := HBO.out
            rw [decide_eq_true h0] at h1
            subst h1
            have z5 : (n : Int) > 0 := by omega
            have z6 : (0 : Int) < (n : Int) := by omega
            clear htb HBO
            go_wp2
            go_roundw
            case rel => exact ⟨n + 1, by omega, by go_num, HW7, HB6⟩
            case measure => simp [intOf]; omega
          · have h1 := HBO.out
            rw [decide_eq_false h0] at h1
            subst h1
            have z5 : ¬ (n : Int) > 0 := by omega
            have z6 : ¬ (0 : Int) < (n : Int) := by omega
            clear htb HBO
            go_wp2
            go_roundw
            case rel => exact ⟨n + 1, by omega, by go_num, HW7, HB6⟩
            case measure => simp [intOf]; omega
    · have e : n = pn := by omega
      have y1 : ¬ (n : Int) < (pn : Int) := by omega
      rw [e] at HW
      have LBW := Lib.hid (LBC.out.trans (HB.out.mono hwc))
      clear e HB
      go_wp2
      go_loop [20] (fun i => ∃ a : Nat, a ≤ N ∧ i = .int .i64 a) (fun i => N - (intOf i).toNat)
      case atStart => exact ⟨0, Nat.zero_le _, rfl⟩
      case round =>
        obtain ⟨a, ha, rfl⟩ := hrel
        by_cases hlt2 : a < N
        · have y3 : (a : Int) < (N : Int) := by omega
          have y4 : (0 : Int) ≤ (a : Int) := by omega
          have c1 := HW.out.cell hlt2
          rw [HCE.out a hlt2] at c1
          go_wp2
          go_round
          case rel => exact ⟨a + 1, by omega, by go_num⟩
          case measure => simp [intOf]; omega
        · have y3 : ¬ (a : Int) < (N : Int) := by omega
          go_wp2_with fail
          with_reducible refine Calls.mono (alive11_any _) ?_
          rintro e w30 ⟨rfl, hb⟩
          have LBZ := Lib.hid (LBW.out.trans (hb.mono LBW.out.size))
          clear hb
          go_wp2
          go_ret
          exact ⟨rfl, LBZ.out⟩
end Go.Proofs.Ytchbbphokpmacaa
