/- Layer 14 of the reference: Back, Turn, Equal. -/
import Derived.Test.YtppepcijpdamhaaRfr
namespace Go.Proofs.Ytppepcijpdamhaa
open Go.RowKit
set_option maxRecDepth 100000
set_option linter.unusedVariables false
set_option linter.unusedSimpArgs false

set_option maxHeartbeats 3200000 in
theorem rback_ok (W H : Nat) (A B C : Option Addr) (c d e : Nat) (f : Nat → Bool) (a b : Nat → Int) (w : World) (hf : Holds w w.heap.size A (W * H) f) (ha : L2.Holds w w.heap.size B W a) (hb1 : L2.Holds w w.heap.size C H b) (W0 : 1 ≤ W) (W1 : W ≤ 64) (H0 : 1 ≤ H) (H1 : H ≤ 64) (hx : fine W a = true) (hy : fine H b = true) : Calls Try.prog 16 #[.agg #[.int .i64 (W : Nat), .int .i64 (H : Nat), .slice A (W * H) c], .slice B W d, .slice C H e] w (RI w (W : Nat) (H : Nat) (W * H) (bkF W f a b) 0) := by
  have HT := Lib.hid (fun u (hb : Below w.heap.size w u) => rth_any (W : Nat) (H : Nat) A B C (W * H) c W d H e a b u (show W * H ≤ 4200 by have := Nat.mul_le_mul W1 H1; omega) (by omega) (by omega) ((ha.below hb).more hb.size) ((hb1.below hb).more hb.size))
  rw [thE_ok (chk_zero W0 W1 H0 H1) ⟨rfl, rfl⟩ ⟨hx, hy⟩] at HT
  have y1 : ((0 : Int) != 0) = false := rfl
  have HS := Lib.hid (fun u (hb : Below w.heap.size w u) => rshown_any W H A B C c d e f a b true u ((hf.below hb).more hb.size) ((ha.below hb).more hb.size) ((hb1.below hb).more hb.size) W0 W1 H0 H1)
  have HE : (fun i => f i != true) = (fun i => !f i) := by funext i; cases f i <;> rfl
  rw [HE] at HS
  clear HE hf ha hb1 hx hy
  have hN : W * H ≤ 4096 := Nat.mul_le_mul W1 H1
  obtain ⟨F0, hF0⟩ : ∃ F0, shF W (fun i => !f i) a b = F0 := ⟨_, rfl⟩
  have HAT := Lib.hid (fun z D q (x y : Nat) (xi : Int) (hxi : xi = (x : Int)) (hx : x < W) (hy : y < H) (hr : L2.Holds z z.heap.size D (W * H) F0) => rat_nat W H D q xi (y : Nat) F0 z hr W1 H1 x y hxi rfl hx hy)
  have HIX := Lib.hid (fun x y (hx : x < W) (hy : y < H) => ix_bd (W := W) (H := H) hx hy)
  have HN0 := Lib.hid (Nat.mul_pos W0 H0)
  obtain ⟨F, hF⟩ : ∃ F : Nat → Int, F = bkF W f a b := ⟨_, rfl⟩
  have HFV := Lib.hid (fun x y (hx : x < W) => show F (y * W + x) = F0 (y * W + (W - 1 - x)) by rw [hF, ← hF0]; show shF W (fun i => !f i) a b ((y * W + x) / W * W + (W - 1 - (y * W + x) % W)) = _; rw [(co y hx).1, (co y hx).2])
  rw [← hF]
  rw [hF0] at HS
  have HCM := Lib.hid (Nat.mul_comm W H)
  clear hF hF0
  obtain ⟨N, hNe⟩ : ∃ N, W * H = N := ⟨_, rfl⟩
  simp only [hNe] at HAT HIX HS HT HN0 hN HCM ⊢
  clear hNe
  have LB0 := Lib.hid (Below.refl w.heap.size w)
  have X1 := Box.new w (W : Nat) (H : Nat) (.slice A N c)
  have X1 := Lib.hid X1
  have LB0 := Lib.hid (LB0.out.alloc LB0.out.size (.cells #[.int .i64 (W : Nat), .int .i64 (H : Nat), .slice A N c] 24))
  have X1 := Lib.hid (X1.out.alloc (.cells #[.int .i64 0, .int .i64 0, .slice none 0 0] 29))
  have R0 := IBox.new (w.alloc (.cells #[.int .i64 (W : Nat), .int .i64 (H : Nat), .slice A N c] 24)) 0 0 (.slice none 0 0)
  rw [show ((w.alloc (.cells #[.int .i64 (W : Nat), .int .i64 (H : Nat), .slice A N c] 24))).heap.size = w.heap.size + 1 by simp] at R0
  have R0 := Lib.hid R0
  have LB0 := Lib.hid (LB0.out.alloc LB0.out.size (.cells #[.int .i64 0, .int .i64 0, .slice none 0 0] 29))
  go_enter Try.func16, Try.ntmps16
  go_upto_region 1 with (fail)
  generalize (w.alloc (.cells #[.int .i64 (W : Nat), .int .i64 (H : Nat), .slice A N c] 24)).alloc (.cells #[.int .i64 0, .int .i64 0, .slice none 0 0] 29) = w0 at *
  obtain ⟨q0, q1, q2, q3, q4, q5, q6⟩ := X1.out.all
  go_wp2_with fail
  clear q0 q1 q2 q3 q4 q5 q6
  with_reducible refine Calls.mono (HT.out _ LB0.out) ?_
  rintro e w1 ⟨rfl, hb⟩
  have LB1 := Lib.hid (LB0.out.trans (hb.mono LB0.out.size))
  have X1 := Lib.hid (X1.out.below hb X1.out.lt)
  have R0 := Lib.hid (R0.out.below hb R0.out.lt)
  clear hb LB0 
  obtain ⟨rb, hrb⟩ : ∃ z, w.heap.size + 1 = z := ⟨_, rfl⟩
  have hrw : w.heap.size ≤ rb := by omega
  rw [hrb] at R0 ⊢
  clear hrb
  obtain ⟨q0, q1, q2, q3, q4, q5, q6⟩ := X1.out.all
  go_wp2_with fail
  clear q0 q1 q2 q3 q4 q5 q6
  with_reducible refine Calls.mono (HS.out _ LB1.out) ?_
  rintro e w2 ⟨k2, c2, rfl, hk, hrow, hb⟩
  have LB2 := Lib.hid (LB1.out.trans (hb.mono LB1.out.size))
  have X1 := Lib.hid (X1.out.below hb X1.out.lt)
  have R0 := Lib.hid (R0.out.below hb R0.out.lt)
  have RW := Lib.hid hrow
  clear hb hrow
  have HRO : Hid (rb < w2.heap.size) := Lib.hid R0.out.lt
  have hb := ((Below.refl w2.heap.size w2).alloc (by simp; try omega) (.cells #[.int .i64 (W : Nat), .int .i64 (H : Nat), .slice (some ⟨k2, 0, none⟩) N c2] 29))
  have LB3 := Lib.hid (LB2.out.trans (hb.mono LB2.out.size))
  have X1 := Lib.hid (X1.out.below hb X1.out.lt)
  have R0 := Lib.hid (R0.out.below hb R0.out.lt)
  have RW := Lib.hid (RW.out.below hb RW.out.lt)
  have XM := IBox.new w2 (W : Nat) (H : Nat) (.slice (some ⟨k2, 0, none⟩) N c2)
  have XM := Lib.hid XM
  clear hb LB2
  go_upto_region 4 with (fail)
  obtain ⟨mb, hmb⟩ : ∃ z, w2.heap.size = z := ⟨_, rfl⟩
  rw [hmb] at XM HRO
  try rw [hmb]
  clear hmb
  generalize w2.alloc (.cells #[.int .i64 (W : Nat), .int .i64 (H : Nat), .slice (some ⟨k2, 0, none⟩) N c2] 29) = w3 at *
  have HMO : Hid (mb < w3.heap.size) := Lib.hid XM.out.lt
  have HKO : Hid (k2 < w3.heap.size) := Lib.hid RW.out.lt
  obtain ⟨q0, q1, q2, q3, q4, q5, q6⟩ := XM.out.all
  have hb := ((Below.refl w3.heap.size w3).alloc (by simp; try omega) (.cells #[.int .i64 (W : Nat), .int .i64 (H : Nat), .slice none 0 0] 29))
  have LB4 := Lib.hid (LB3.out.trans (hb.mono LB3.out.size))
  have X1 := Lib.hid (X1.out.below hb X1.out.lt)
  have R0 := Lib.hid (R0.out.below hb R0.out.lt)
  have RW := Lib.hid (RW.out.below hb RW.out.lt)
  have XM := Lib.hid (XM.out.below hb XM.out.lt)
  have XO := IBox.new w3 (W : Nat) (H : Nat) (.slice none 0 0)
  have XO := Lib.hid XO
  clear hb LB3
  go_upto_region 5 with (fail)
  obtain ⟨ob, hob⟩ : ∃ z, w3.heap.size = z := ⟨_, rfl⟩
  rw [hob] at XO HMO HKO
  try rw [hob]
  clear hob
  generalize w3.alloc (.cells #[.int .i64 (W : Nat), .int .i64 (H : Nat), .slice none 0 0] 29) = w4 at *
  clear q0 q1 q2 q3 q4 q5 q6
  have hmo : mb < ob := HMO.out
  have hro : rb < ob := Nat.lt_trans HRO.out hmo
  have hko : k2 < ob := HKO.out
  have V0 := Lib.hid (L2.Own.nil w4 (ob + 1) F)
  have HX1 := Lib.hid (fun (z : World) (hb : Below ob w4 z) => (show IBox z mb (W : Nat) (H : Nat) (.slice (some ⟨k2, 0, none⟩) N c2) from XM.out.below hb hmo))
  have HRW := Lib.hid (fun (z : World) (hb : Below ob w4 z) => (show L2.Row z k2 N F0 from RW.out.below hb hko))
  have HLB := Lib.hid (fun (z : World) (hb : Below ob w4 z) => (show Below w.heap.size w z from LB4.out.trans (hb.mono (by omega))))
  clear HRO HMO HKO
  obtain ⟨p0, p1, p2, p3, p4, p5, p6⟩ := XM.out.all
  go_wp2
  clear p0 p1 p2 p3 p4 p5 p6
  go_loopw [10] (fun i wr => ∃ y : Nat, y ≤ H ∧ i = .int .i64 y ∧ ∃ D d, Hid (L2.Own wr (ob + 1) (.slice D (y * W) d) (y * W) F) ∧ Hid (IBox wr ob (W : Nat) (H : Nat) (.slice D (y * W) d)) ∧ Hid (Below ob w4 wr)) (fun i _ => H - (intOf i).toNat)
  case atStart => exact ⟨0, Nat.zero_le _, rfl, none, 0, by rw [Nat.zero_mul]; exact V0, by rw [Nat.zero_mul]; exact XO, Lib.hid (Below.refl _ _)⟩
  case round =>
    obtain ⟨y, hy, rfl, D, d, HO, HX, HB⟩ := hrel
    obtain ⟨p0, p1, p2, p3, p4, p5, p6⟩ := (HX1.out _ HB.out).all
    by_cases hlt : y < H
    · have y1 : (y : Int) < (H : Int) := by omega
      have y2 : (0 : Int) ≤ (y : Int) := by omega
      have f1 : IntKind.i64.wrap ((W : Int) - 1) = (W : Int) - 1 := IntWalk.i64_in _ (by omega)
      go_wp2
      clear p0 p1 p2 p3 p4 p5 p6
      go_loopw [11] (fun i wr => ∃ x : Nat, x ≤ W ∧ i = .int .i64 ((W : Int) - 1 - (x : Int)) ∧ ∃ D d, Hid (L2.Own wr (ob + 1) (.slice D (y * W + x) d) (y * W + x) F) ∧ Hid (IBox wr ob (W : Nat) (H : Nat) (.slice D (y * W + x) d)) ∧ Hid (Below ob w4 wr)) (fun i _ => (intOf i + 1).toNat)
      case atStart => exact ⟨0, Nat.zero_le _, by simp, D, d, HO, HX, HB⟩
      case round =>
        obtain ⟨x, hx, rfl, D, d, HO2, HX2, HB2⟩ := hrel
        clear HO HX HB
        obtain ⟨p0, p1, p2, p3, p4, p5, p6⟩ := (HX1.out _ HB2.out).all
        obtain ⟨xi, hxi⟩ : ∃ z : Int, (W : Int) - 1 - (x : Int) = z := ⟨_, rfl⟩
        rw [hxi]
        by_cases hlx : x < W
        · have y3 : (0 : Int) ≤ xi := by omega
          have y5 : xi < 64 := by omega
          have f2 : IntKind.i64.wrap (xi - 1) = xi - 1 := IntWalk.i64_in _ (by omega)
          have hix := HIX.out x y hlx hlt
          have HFQ := Lib.hid (HFV.out x y hlx)
          have HATx := Lib.hid (fun z (hr : L2.Row z k2 N F0) => HAT.out z (some ⟨k2, 0, none⟩) c2 (W - 1 - x) y xi (by omega) (by omega) hlt (hr.holds hr.lt))
          have HE := Lib.hid (show y * W + (x + 1) = y * W + x + 1 by omega)
          have HXE := Lib.hid (show xi - 1 = (W : Int) - 1 - ((x + 1 : Nat) : Int) by omega)
          obtain ⟨m, hm⟩ : ∃ z, y * W + x = z := ⟨_, rfl⟩
          simp only [hm] at HO2 HX2 HFQ HE hix
          clear hm hxi
          obtain ⟨fv, hfv⟩ : ∃ z, F0 (y * W + (W - 1 - x)) = z := ⟨_, rfl⟩
          simp only [hfv] at HFQ HATx
          clear hfv
          obtain ⟨t0, t1, t2, t3, t4, t5, t6⟩ := HX2.out.all
          go_wp2
          go_region_law (first
            | (go_simp
               with_reducible refine Calls.mono (HATx.out _ (irow_drw (HRW.out _ HB2.out))) ?_
               rintro e wb ⟨rfl, hb⟩
               have hbd : Below wr.heap.size wr wb := (Below.refl _ _).drew.trans hb
               have HBb := Lib.hid (HB2.out.trans (hbd.mono (Nat.le_of_lt HX2.out.lt)))
               have HXb := Lib.hid (HX2.out.below hbd HX2.out.lt)
               have HOb := Lib.hid ((HO2.out.below hbd).alloc (.cells #[.int .i64 fv] 3))
               have HCb := Lib.hid (new_cell wb fv)
               have hsz : ob + 1 ≤ (wb.alloc (.cells #[.int .i64 fv] 3)).heap.size := by simp; have := HXb.out.lt; omega
               obtain ⟨v0, v1, v2, v3, v4, v5, v6⟩ := HXb.out.all
               obtain ⟨u0, u1, u2, u3, u4', u5', u6⟩ := (HX1.out _ HBb.out).all
               clear hb hbd)
            | (refine step_appi rfl (.tmp 45) (.tmp 50) rfl (ob + 1) rfl HOb.out fv wb.heap.size rfl HCb.out HFQ.out (by omega) hsz ?_
               intro v' wn hown' hbn'
               obtain ⟨D', d', rfl⟩ := orow_shape hown'
               have HON := Lib.hid (own_put hown' (.slice D' (m + 1) d'))
               have HXN := Lib.hid ((HXb.out.alloc (.cells #[.int .i64 fv] 3)).below hbn' (Nat.lt_succ_self _))
               have HBN := Lib.hid ((HBb.out.alloc (Nat.le_of_lt HXb.out.lt) (.cells #[.int .i64 fv] 3)).trans (hbn'.mono (Nat.le_succ _)))
               obtain ⟨v0, v1, v2, v3, v4, v5, v6⟩ := HXN.out.all
               clear hown' hbn'))
          all_goals
            have HXP := Lib.hid (HXN.out.put2 (.slice D' (m + 1) d'))
            have HBP := Lib.hid (HBN.out.setCell (p := ⟨ob, 2, none⟩) (Nat.le_refl _) (.slice D' (m + 1) d'))
            clear p0 p1 p2 p3 p4 p5 p6 t0 t1 t2 t3 t4 t5 t6 v0 v1 v2 v3 v4 v5 v6 u0 u1 u2 u3 u4' u5' u6
            go_wp2
            go_roundw
            case rel => exact ⟨x + 1, by omega, by rw [HXE.out], D', d', by rw [HE.out]; exact HON, by rw [HE.out]; exact HXP, HBP⟩
            case measure => simp [intOf]; omega
        · have e : x = W := by omega
          have y3 : ¬ (0 : Int) ≤ xi := by omega
          have HE := Lib.hid (show y * W + x = (y + 1) * W by rw [Nat.add_mul, Nat.one_mul, e])
          rw [HE.out] at HO2 HX2
          clear e hxi
          go_wp2
          go_roundw
          case rel => exact ⟨y + 1, by omega, by go_num, D, d, HO2, HX2, HB2⟩
          case measure => simp [intOf]; omega
    · have e : y = H := by omega
      have y1 : ¬ (y : Int) < (H : Int) := by omega
      rw [e, ← HCM.out] at HO HX
      clear e
      obtain ⟨k3, c3, hv, hk3, hrow⟩ := HO.out.row HN0.out
      have hv1 : D = some ⟨k3, 0, none⟩ := by cases hv; rfl
      have hv2 : d = c3 := by cases hv; rfl
      subst hv1 hv2
      have HR := Lib.hid hrow
      have R0r := Lib.hid (show IBox wr rb 0 0 (.slice none 0 0) from R0.out.below HB.out hro)
      have LBr := Lib.hid (HLB.out _ HB.out)
      have hkr : rb < k3 := by omega
      clear hv hrow HO
      obtain ⟨t0, t1, t2, t3, t4, t5, t6⟩ := HX.out.all
      obtain ⟨v0, v1, v2, v3, v4, v5, v6⟩ := R0r.out.all
      go_wp2
      refine bodyPost_ret (v := .tuple #[.agg #[.int .i64 (W : Nat), .int .i64 (H : Nat), .slice (some ⟨k3, 0, none⟩) N d], .int .i64 0]) (by simp [results, Try.results16, go_sem, v0, v1, v2, v3, v4, v5]) rfl ?_
      exact fin_im hrw hkr HR.out LBr.out
set_option maxHeartbeats 800000 in
theorem rturn_err (W H : Int) (A : Option Addr) (n c : Nat) (f F : Nat → Int) (w : World) (hf : L2.Holds w w.heap.size A n f) (hz : ick W H n f ≠ 0) : Calls Try.prog 26 #[.agg #[.int .i64 W, .int .i64 H, .slice A n c]] w (RI w 0 0 0 F (ick W H n f)) := by
  have HK := Lib.hid (fun u (hb : Below w.heap.size w u) => rick_any W H A n c f u ((hf.below hb).more hb.size))
  have y1 : (ick W H n f != 0) = true := by rw [bne_iff_ne]; exact hz
  clear hf hz
  generalize ick W H n f = z at *
  have LB0 := Lib.hid (Below.refl w.heap.size w)
  have X1 := IBox.new w W H (.slice A n c)
  have X1 := Lib.hid X1
  have LB0 := Lib.hid (LB0.out.alloc LB0.out.size (.cells #[.int .i64 W, .int .i64 H, .slice A n c] 29))
  have X1 := Lib.hid (X1.out.alloc (.cells #[.int .i64 0, .int .i64 0, .slice none 0 0] 29))
  have R0 := IBox.new (w.alloc (.cells #[.int .i64 W, .int .i64 H, .slice A n c] 29)) 0 0 (.slice none 0 0)
  rw [show ((w.alloc (.cells #[.int .i64 W, .int .i64 H, .slice A n c] 29))).heap.size = w.heap.size + 1 by simp] at R0
  have R0 := Lib.hid R0
  have LB0 := Lib.hid (LB0.out.alloc LB0.out.size (.cells #[.int .i64 0, .int .i64 0, .slice none 0 0] 29))
  go_enter Try.func26, Try.ntmps26
  go_upto_region 1 with (fail)
  generalize (w.alloc (.cells #[.int .i64 W, .int .i64 H, .slice A n c] 29)).alloc (.cells #[.int .i64 0, .int .i64 0, .slice none 0 0] 29) = w0 at *
  obtain ⟨q0, q1, q2, q3, q4, q5, q6⟩ := X1.out.all
  go_wp2_with fail
  clear q0 q1 q2 q3 q4 q5 q6
  with_reducible refine Calls.mono (HK.out _ LB0.out) ?_
  rintro e w1 ⟨rfl, hb⟩
  have LB1 := Lib.hid (LB0.out.trans (hb.mono LB0.out.size))
  have X1 := Lib.hid (X1.out.below hb X1.out.lt)
  have R0 := Lib.hid (R0.out.below hb R0.out.lt)
  clear hb LB0 
  obtain ⟨q0, q1, q2, q3, q4, q5, q6⟩ := X1.out.all
  go_wp2_with fail
  clear q0 q1 q2 q3 q4 q5 q6
  with_reducible refine Calls.mono (HK.out _ LB1.out) ?_
  rintro e w2 ⟨rfl, hb⟩
  have LB2 := Lib.hid (LB1.out.trans (hb.mono LB1.out.size))
  have X1 := Lib.hid (X1.out.below hb X1.out.lt)
  have R0 := Lib.hid (R0.out.below hb R0.out.lt)
  clear hb LB1 
  obtain ⟨rb, hrb⟩ : ∃ z, w.heap.size + 1 = z := ⟨_, rfl⟩
  have hrw : w.heap.size ≤ rb := by omega
  rw [hrb] at R0 ⊢
  clear hrb
  obtain ⟨q0, q1, q2, q3, q4, q5, q6⟩ := R0.out.all
  go_wp2
  refine bodyPost_ret (v := .tuple #[.agg #[.int .i64 0, .int .i64 0, .slice none 0 0], .int .i64 z]) (by simp [results, Try.results26, go_sem, q0, q1, q2, q3, q4, q5]) rfl ?_
  exact fin_ie _ hrw LB2.out
set_option maxHeartbeats 800000 in
theorem rturn_ok (W H : Nat) (A : Option Addr) (c : Nat) (f : Nat → Int) (w : World) (hf : L2.Holds w w.heap.size A (W * H) f) (W0 : 1 ≤ W) (W1 : W ≤ 64) (H0 : 1 ≤ H) (H1 : H ≤ 64) (hx : fine (W * H) f = true) :
    Calls Try.prog 26 #[.agg #[.int .i64 (W : Nat), .int .i64 (H : Nat), .slice A (W * H) c]] w (RI w (H : Nat) (W : Nat) (H * W) (fun i => f (i % H * W + i / H)) 0) := by
  have HK := Lib.hid (fun u (hb : Below w.heap.size w u) => rick_any (W : Nat) (H : Nat) A (W * H) c f u ((hf.below hb).more hb.size))
  rw [ick_zero W0 W1 H0 H1 hx] at HK
  have HT := Lib.hid (fun u (hb : Below w.heap.size w u) => rturned_any W H A c f u ((hf.below hb).more hb.size) W0 W1 H0 H1)
  have y1 : ((0 : Int) != 0) = false := rfl
  clear hf hx
  have LB0 := Lib.hid (Below.refl w.heap.size w)
  have X1 := IBox.new w (W : Nat) (H : Nat) (.slice A (W * H) c)
  have X1 := Lib.hid X1
  have LB0 := Lib.hid (LB0.out.alloc LB0.out.size (.cells #[.int .i64 (W : Nat), .int .i64 (H : Nat), .slice A (W * H) c] 29))
  have X1 := Lib.hid (X1.out.alloc (.cells #[.int .i64 0, .int .i64 0, .slice none 0 0] 29))
  have R0 := IBox.new (w.alloc (.cells #[.int .i64 (W : Nat), .int .i64 (H : Nat), .slice A (W * H) c] 29)) 0 0 (.slice none 0 0)
  rw [show ((w.alloc (.cells #[.int .i64 (W : Nat), .int .i64 (H : Nat), .slice A (W * H) c] 29))).heap.size = w.heap.size + 1 by simp] at R0
  have R0 := Lib.hid R0
  have LB0 := Lib.hid (LB0.out.alloc LB0.out.size (.cells #[.int .i64 0, .int .i64 0, .slice none 0 0] 29))
  go_enter Try.func26, Try.ntmps26
  go_upto_region 1 with (fail)
  generalize (w.alloc (.cells #[.int .i64 (W : Nat), .int .i64 (H : Nat), .slice A (W * H) c] 29)).alloc (.cells #[.int .i64 0, .int .i64 0, .slice none 0 0] 29) = w0 at *
  obtain ⟨q0, q1, q2, q3, q4, q5, q6⟩ := X1.out.all
  go_wp2_with fail
  clear q0 q1 q2 q3 q4 q5 q6
  with_reducible refine Calls.mono (HK.out _ LB0.out) ?_
  rintro e w1 ⟨rfl, hb⟩
  have LB1 := Lib.hid (LB0.out.trans (hb.mono LB0.out.size))
  have X1 := Lib.hid (X1.out.below hb X1.out.lt)
  have R0 := Lib.hid (R0.out.below hb R0.out.lt)
  clear hb LB0 
  obtain ⟨rb, hrb⟩ : ∃ z, w.heap.size + 1 = z := ⟨_, rfl⟩
  have hrw : w.heap.size ≤ rb := by omega
  rw [hrb] at R0 ⊢
  clear hrb
  have hrs := R0.out.lt
  obtain ⟨q0, q1, q2, q3, q4, q5, q6⟩ := X1.out.all
  go_wp2_with fail
  clear q0 q1 q2 q3 q4 q5 q6
  with_reducible refine Calls.mono (HT.out _ LB1.out) ?_
  rintro e w2 ⟨k2, c2, rfl, hk, hrow, hb⟩
  have LB2 := Lib.hid (LB1.out.trans (hb.mono LB1.out.size))
  have X1 := Lib.hid (X1.out.below hb X1.out.lt)
  have R0 := Lib.hid (R0.out.below hb R0.out.lt)
  have HRW := Lib.hid hrow
  have hk2 : rb < k2 := by omega
  clear hb hrow hk
  obtain ⟨q0, q1, q2, q3, q4, q5, q6⟩ := R0.out.all
  go_wp2
  refine bodyPost_ret (v := .tuple #[.agg #[.int .i64 (H : Nat), .int .i64 (W : Nat), .slice (some ⟨k2, 0, none⟩) (H * W) c2], .int .i64 0]) (by simp [results, Try.results26, go_sem, q0, q1, q2, q3, q4, q5]) rfl ?_
  exact fin_im hrw hk2 HRW.out LB2.out
end Go.Proofs.Ytppepcijpdamhaa
