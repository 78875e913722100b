/- The statement SatinTurned: the walk. -/
import Derived.Test.YtmakjdfkldacaaaAlv
import Derived.Test.YtmakjdfkldacaaaOpl
import Derived.Test.YtmakjdfkldacaaaCet
import Derived.Test.YtmakjdfkldacaaaTwr
import Derived.Test.YtmakjdfkldacaaaTum
import Derived.Test.YtmakjdfkldacaaaMva
namespace Go.Proofs.Ytmakjdfkldacaaa
open Go.RowKit
set_option maxRecDepth 100000
set_option linter.unusedVariables false
set_option linter.unusedSimpArgs false

/-- A grid of letters came back; with room. -/
def GrM (w : World) (W H : Int) (N : Nat) (F : Nat → Bool) (e : Ending) (w' : World) : Prop :=
  ∃ k, e = .returned (.tuple #[.agg #[.int .i64 W, .int .i64 H, .slice (some ⟨k, 0, none⟩) N N], .int .i64 0]) ∧ w.heap.size ≤ k ∧ Row w' k N F ∧ Below w.heap.size w w'
def GrR (w : World) (W H : Int) (N : Nat) (F : Nat → Bool) (e : Ending) (w' : World) : Prop :=
  ∃ k c, e = .returned (.tuple #[.agg #[.int .i64 W, .int .i64 H, .slice (some ⟨k, 0, none⟩) N c], .int .i64 0]) ∧ N ≤ c ∧ w.heap.size ≤ k ∧ Row w' k N F ∧ Below w.heap.size w w'
theorem turned9_err (n m : Int) (w0 : World) (h : mv n m = false) : Calls Try.prog 7 #[.int .i64 n, .int .i64 m] w0 fun e w' => e = .returned (.bool true) ∧ Below w0.heap.size w0 w' := by
  have HS := Lib.hid (fun u => pst_err h u)
  go_enter Try.func7, Try.ntmps7
  go_wp2_with fail
  refine (HS.out _).mono ?_
  rintro e w1 ⟨rfl, hb⟩
  have hb1 := hb.alloc hb.size (.cells #[.int .i64 0, .int .i64 0, .slice none 0 0] 24)
  go_wp2_with fail
  refine (alive9_any _).mono ?_
  rintro e w2 ⟨rfl, hb2⟩
  go_wp2
  go_ret
  exact ⟨rfl, hb1.trans (hb2.mono hb1.size)⟩
theorem turned9_big (n m : Nat) (w0 : World) (h : mv (n : Nat) (m : Nat) = true) (g1 : 20 < n) : Calls Try.prog 7 #[.int .i64 (n : Nat), .int .i64 (m : Nat)] w0 fun e w' => e = .returned (.bool true) ∧ Below w0.heap.size w0 w' := by
  have HS := Lib.hid (fun u => pst_ok h u)
  have y1 : (20 : Int) < (n : Int) := by omega
  go_enter Try.func7, Try.ntmps7
  go_wp2_with fail
  refine (HS.out _).mono ?_
  rintro e w1 ⟨k, c, rfl, hk, hrow, hb⟩
  have hb1 := hb.alloc hb.size (.cells #[.int .i64 (n : Nat), .int .i64 (n : Nat), .slice (some ⟨k, 0, none⟩) (n * n) c] 24)
  go_wp2_with fail
  refine (alive9_any _).mono ?_
  rintro e w2 ⟨rfl, hb2⟩
  go_wp2
  go_ret
  exact ⟨rfl, hb1.trans (hb2.mono hb1.size)⟩
set_option maxHeartbeats 3200000 in
theorem turned9_main (n m : Nat) (w0 : World) (h : mv (n : Nat) (m : Nat) = true) (g1 : n ≤ 20) : Calls Try.prog 7 #[.int .i64 (n : Nat), .int .i64 (m : Nat)] w0 fun e w' => e = .returned (.bool true) ∧ Below w0.heap.size w0 w' := by
  obtain ⟨a, b, ha, hb, h5, h64, h2, hm, hg⟩ := mv_nat h
  obtain rfl : n = a := by omega
  obtain rfl : m = b := by omega
  obtain ⟨j, hj, ⟨j1, hjm⟩, hjl⟩ := inv_least (by omega) (show m < n by omega) (by omega) hg
  have hvj := inv_mv h5 h64 h2 hm hj hjm
  have hvo := opp_mv h5 h64 h2 hm hg
  obtain ⟨N, hN⟩ : ∃ N, n * n = N := ⟨_, rfl⟩
  have HSt := Lib.hid (fun u => (show Calls Try.prog 13 #[.int .i64 (n : Nat), .int .i64 (m : Nat)] u (GrR u (n : Nat) (n : Nat) N (stf n m)) by rw [← hN]; exact pst_okr h u))
  have HSa := Lib.hid (fun u => (show Calls Try.prog 13 #[.int .i64 (n : Nat), .int .i64 (j : Nat)] u (GrR u (n : Nat) (n : Nat) N (stf n j)) by rw [← hN]; exact pst_okr hvj u))
  have HSb := Lib.hid (fun u => (show Calls Try.prog 13 #[.int .i64 (n : Nat), .int .i64 ((n : Int) - (m : Int))] u (GrR u (n : Nat) (n : Nat) N (stf n (n - m))) by rw [← hN, show (n : Int) - (m : Int) = ((n - m : Nat) : Int) by omega]; exact pst_okr hvo u))
  have HTu := Lib.hid (fun u k c (hr : Row u k N (stf n m)) => (show Calls Try.prog 33 #[.agg #[.int .i64 (n : Nat), .int .i64 (n : Nat), .slice (some ⟨k, 0, none⟩) N c]] u (GrM u (n : Nat) (n : Nat) N (stf n j)) by
    rw [← hN]; rw [← hN] at hr
    exact (turn_ok n n _ c (stf n m) u (hr.holds hr.lt) (by omega) h64 (by omega) h64).mono fun e w' ⟨k', p1, p2, p3, p4⟩ => ⟨k', p1, p2, p3.congr fun i hi => stf_tn hjm hi, p4⟩))
  obtain ⟨fm, hfm⟩ : ∃ fm, (fun i => stf n m (i / n * n + (n - 1 - i % n))) = fm := ⟨_, rfl⟩
  have HMi := Lib.hid (fun u k c (hr : Row u k N (stf n m)) => (show Calls Try.prog 34 #[.agg #[.int .i64 (n : Nat), .int .i64 (n : Nat), .slice (some ⟨k, 0, none⟩) N c], .int .i64 0] u (GrM u (n : Nat) (n : Nat) N fm) by
    rw [← hN, ← hfm]; rw [← hN] at hr
    exact mirror_ok0 n n _ c (stf n m) u (hr.holds hr.lt) (by omega) h64 (by omega) h64))
  have hSm : Sat n (n - m) (-1) true fm := by rw [← hfm]; exact stf_m0 (by omega) (by omega)
  obtain ⟨oa, ob, hF⟩ := fout_ok hSm (stf_sat (n := n) (m := n - m) (by omega))
  have HOa := Lib.hid (fun u k k2 c2 (hc2 : N ≤ c2) (hr : Row u k N (stf n j)) (hr2 : Row u k2 N (stf n j)) => (show Calls Try.prog 35 #[.agg #[.int .i64 (n : Nat), .int .i64 (n : Nat), .slice (some ⟨k, 0, none⟩) N N], .agg #[.int .i64 (n : Nat), .int .i64 (n : Nat), .slice (some ⟨k2, 0, none⟩) N c2]] u fun e w' => e = .returned (.tuple #[.agg #[.int .i64 0, .int .i64 0], .int .i64 0]) ∧ Below u.heap.size u w' by
    rw [← hN] at hr hr2 hc2 ⊢
    exact poff_is (FOut2.zero (fun x y => by rw [Int.add_zero, Int.add_zero])) k 0 (n * n) k2 0 c2 u hr.lt hr2.lt (fun i hi => by rw [Nat.zero_add]; exact hr.cell hi) (fun i hi => by rw [Nat.zero_add]; exact hr2.cell hi) (Nat.le_refl _) hc2 (by omega) h64 (by omega) h64 (by omega) h64 (by omega) h64))
  have HOb := Lib.hid (fun u k k2 c2 (hc2 : N ≤ c2) (hr : Row u k N fm) (hr2 : Row u k2 N (stf n (n - m))) => (show Calls Try.prog 35 #[.agg #[.int .i64 (n : Nat), .int .i64 (n : Nat), .slice (some ⟨k, 0, none⟩) N N], .agg #[.int .i64 (n : Nat), .int .i64 (n : Nat), .slice (some ⟨k2, 0, none⟩) N c2]] u fun e w' => e = .returned (.tuple #[.agg #[.int .i64 oa, .int .i64 ob], .int .i64 0]) ∧ Below u.heap.size u w' by
    rw [← hN] at hr hr2 hc2 ⊢
    exact poff_is hF k 0 (n * n) k2 0 c2 u hr.lt hr2.lt (fun i hi => by rw [Nat.zero_add]; exact hr.cell hi) (fun i hi => by rw [Nat.zero_add]; exact hr2.cell hi) (Nat.le_refl _) hc2 (by omega) h64 (by omega) h64 (by omega) h64 (by omega) h64))
  have HCo := Lib.hid (fun u => pcou_ok h5 h64 u)
  obtain ⟨p1, hp1⟩ := place_mv h64 h
  obtain ⟨p2, hp2⟩ := place_mv h64 hvj
  obtain ⟨p3, hp3⟩ := place_mv h64 hvo
  rw [show ((n - m : Nat) : Int) = (n : Int) - (m : Int) by omega] at hp3
  generalize (ofl (mT n) n).length = L at *
  generalize lf (ofl (mT n) n) = l at *
  have HP1 := Lib.hid hp1
  have HP2 := Lib.hid hp2
  have HP3 := Lib.hid hp3
  have HJ := Lib.hid hjl
  have HJ1 := Lib.hid hjm
  have hN64 : N ≤ 400 := by rw [← hN]; exact Nat.mul_le_mul g1 g1
  have y1 : ¬ (20 : Int) < (n : Int) := by omega
  have y2 : IntKind.i64.wrap ((n : Int) - (m : Int)) = (n : Int) - (m : Int) := IntWalk.i64_in _ (by omega)
  clear hp1 hp2 hp3 hjl hjm hF hSm hfm hvj hvo hN hg h
  generalize stf n j = sj at *
  generalize stf n m = st at *
  generalize stf n (n - m) = so at *
  have LB0 := Lib.hid (Below.refl w0.heap.size w0)
  go_enter Try.func7, Try.ntmps7
  go_wp2_with fail
  with_reducible refine Calls.mono (HSt.out _) ?_
  rintro e w1 ⟨kg, cg, rfl, hdg, hkg, hrow, hb⟩
  have hba := hb.trans ((((Below.refl _ w1).alloc (Nat.le_refl _) (.cells #[.int .i64 (n : Nat), .int .i64 (n : Nat), .slice (some ⟨kg, 0, none⟩) N cg] 24))).mono hb.size)
  have Bg1 := Lib.hid (Box.new w1 (n : Nat) (n : Nat) (.slice (some ⟨kg, 0, none⟩) N cg))
  have Rg1 := Lib.hid (hrow.alloc (.cells #[.int .i64 (n : Nat), .int .i64 (n : Nat), .slice (some ⟨kg, 0, none⟩) N cg] 24))
  clear hb hrow hkg
  have LB1 := Lib.hid (LB0.out.trans (hba.mono LB0.out.size))
  clear hba LB0
  go_wp2
  obtain ⟨wg, hwg⟩ : ∃ wg, w1.alloc (.cells #[.int .i64 (n : Nat), .int .i64 (n : Nat), .slice (some ⟨kg, 0, none⟩) N cg] 24) = wg := ⟨_, rfl⟩
  rw [hwg] at LB1 Bg1 Rg1 ⊢
  have HSZ := Lib.hid hwg
  clear hwg
  go_loopw [7] (fun i wr => ∃ x : Nat, 1 ≤ x ∧ x ≤ j ∧ i = .int .i64 x ∧ wr = wg) (fun i _ => j - (intOf i).toNat)
  case atStart => exact ⟨1, Nat.le_refl _, j1, rfl, rfl⟩
  case round =>
    obtain ⟨x, hx1, hx, rfl, hww⟩ := hrel
    subst hww
    have x1 : (x : Int) < (n : Int) := by omega
    have m1 : m * x ≤ 20 * 20 := Nat.mul_le_mul (by omega) (by omega)
    have e1 : (m : Int) * (x : Int) = ((m * x : Nat) : Int) := by rw [Int.natCast_mul]
    have e2 : IntKind.i64.wrap ((m : Int) * (x : Int)) = ((m * x : Nat) : Int) := by rw [e1]; exact IntWalk.i64_in _ (by omega)
    have e3 : ((m * x : Nat) : Int).tmod (n : Int) = ((m * x % n : Nat) : Int) := by rw [Int.tmod_eq_emod_of_nonneg (by omega), Int.natCast_emod]
    have e9 : IntKind.i64.wrap ((m * x : Nat) : Int) = ((m * x : Nat) : Int) := IntWalk.i64_in _ (by omega)
    have e4 : ¬ (n : Int) = 0 := by omega
    have e5 : ¬ n = 0 := by omega
    by_cases hlx : x < j
    · have hr := fun e => HJ.out x hlx ⟨hx1, e⟩
      generalize m * x % n = r at *
      generalize m * x = q at *
      have hr1 : r ≠ 1 := hr
      have z1 : ((r : Int) != 1) = true := by simp; omega
      clear hr hr1
      go_wp2
      exact ⟨⟨x + 1, by omega, by omega, by go_num, trivial⟩, by simp [intOf]; omega⟩
    · have e : x = j := by omega
      subst e
      rw [HJ1.out] at e3
      generalize m * x = q at *
      clear HJ HJ1
      obtain ⟨q0, q1, q2, q3, q4, q5, q6⟩ := Bg1.out.all
      go_wp2_with fail
      clear q0 q1 q2 q3 q4 q5 q6
      with_reducible refine Calls.mono (HTu.out _ kg cg Rg1.out) ?_
      rintro e w2 ⟨kt, rfl, hkt, hrow, hb⟩
      have hba := hb.trans ((((Below.refl _ w2).alloc (Nat.le_refl _) (.cells #[.int .i64 (n : Nat), .int .i64 (n : Nat), .slice (some ⟨kt, 0, none⟩) N N] 24))).mono hb.size)
      have Bt2 := Lib.hid (Box.new w2 (n : Nat) (n : Nat) (.slice (some ⟨kt, 0, none⟩) N N))
      have Rt2 := Lib.hid (hrow.alloc (.cells #[.int .i64 (n : Nat), .int .i64 (n : Nat), .slice (some ⟨kt, 0, none⟩) N N] 24))
      clear hb hrow hkt
      have LB2 := Lib.hid (LB1.out.trans (hba.mono LB1.out.size))
      have Bg2 := Lib.hid (Bg1.out.below hba Bg1.out.lt)
      have Rg2 := Lib.hid (Rg1.out.below hba Rg1.out.lt)
      clear hba LB1 Bg1 Rg1
      obtain ⟨q0, q1, q2, q3, q4, q5, q6⟩ := Bg2.out.all
      go_wp2_with fail
      clear q0 q1 q2 q3 q4 q5 q6
      with_reducible refine Calls.mono (HMi.out _ kg cg Rg2.out) ?_
      rintro e w3 ⟨kx, rfl, hkx, hrow, hb⟩
      have hba := hb.trans ((((Below.refl _ w3).alloc (Nat.le_refl _) (.cells #[.int .i64 (n : Nat), .int .i64 (n : Nat), .slice (some ⟨kx, 0, none⟩) N N] 24))).mono hb.size)
      have Bx3 := Lib.hid (Box.new w3 (n : Nat) (n : Nat) (.slice (some ⟨kx, 0, none⟩) N N))
      have Rx3 := Lib.hid (hrow.alloc (.cells #[.int .i64 (n : Nat), .int .i64 (n : Nat), .slice (some ⟨kx, 0, none⟩) N N] 24))
      clear hb hrow hkx
      have LB3 := Lib.hid (LB2.out.trans (hba.mono LB2.out.size))
      have Bg3 := Lib.hid (Bg2.out.below hba Bg2.out.lt)
      have Rg3 := Lib.hid (Rg2.out.below hba Rg2.out.lt)
      have Bt3 := Lib.hid (Bt2.out.below hba Bt2.out.lt)
      have Rt3 := Lib.hid (Rt2.out.below hba Rt2.out.lt)
      clear hba LB2 Bg2 Rg2 Bt2 Rt2
      clear Bg3
      clear Rg3
      go_wp2_with fail
      with_reducible refine Calls.mono (HSa.out _) ?_
      rintro e w4 ⟨ka, ca, rfl, hda, hka, hrow, hb⟩
      have hba := hb.trans ((((Below.refl _ w4).alloc (Nat.le_refl _) (.cells #[.int .i64 (n : Nat), .int .i64 (n : Nat), .slice (some ⟨ka, 0, none⟩) N ca] 24))).mono hb.size)
      have Ba4 := Lib.hid (Box.new w4 (n : Nat) (n : Nat) (.slice (some ⟨ka, 0, none⟩) N ca))
      have Ra4 := Lib.hid (hrow.alloc (.cells #[.int .i64 (n : Nat), .int .i64 (n : Nat), .slice (some ⟨ka, 0, none⟩) N ca] 24))
      clear hb hrow hka
      have LB4 := Lib.hid (LB3.out.trans (hba.mono LB3.out.size))
      have Bt4 := Lib.hid (Bt3.out.below hba Bt3.out.lt)
      have Rt4 := Lib.hid (Rt3.out.below hba Rt3.out.lt)
      have Bx4 := Lib.hid (Bx3.out.below hba Bx3.out.lt)
      have Rx4 := Lib.hid (Rx3.out.below hba Rx3.out.lt)
      clear hba LB3 Bt3 Rt3 Bx3 Rx3
      go_wp2_with fail
      with_reducible refine Calls.mono (HSb.out _) ?_
      rintro e w5 ⟨kb, cb, rfl, hdb, hkb, hrow, hb⟩
      have hba := hb.trans ((((Below.refl _ w5).alloc (Nat.le_refl _) (.cells #[.int .i64 (n : Nat), .int .i64 (n : Nat), .slice (some ⟨kb, 0, none⟩) N cb] 24))).mono hb.size)
      have Bb5 := Lib.hid (Box.new w5 (n : Nat) (n : Nat) (.slice (some ⟨kb, 0, none⟩) N cb))
      have Rb5 := Lib.hid (hrow.alloc (.cells #[.int .i64 (n : Nat), .int .i64 (n : Nat), .slice (some ⟨kb, 0, none⟩) N cb] 24))
      clear hb hrow hkb
      have LB5 := Lib.hid (LB4.out.trans (hba.mono LB4.out.size))
      have Bt5 := Lib.hid (Bt4.out.below hba Bt4.out.lt)
      have Rt5 := Lib.hid (Rt4.out.below hba Rt4.out.lt)
      have Bx5 := Lib.hid (Bx4.out.below hba Bx4.out.lt)
      have Rx5 := Lib.hid (Rx4.out.below hba Rx4.out.lt)
      have Ba5 := Lib.hid (Ba4.out.below hba Ba4.out.lt)
      have Ra5 := Lib.hid (Ra4.out.below hba Ra4.out.lt)
      clear hba LB4 Bt4 Rt4 Bx4 Rx4 Ba4 Ra4
      obtain ⟨q0, q1, q2, q3, q4, q5, q6⟩ := Bt5.out.all
      obtain ⟨r0, r1, r2, r3, r4, r5, r6⟩ := Ba5.out.all
      go_wp2_with fail
      clear q0 q1 q2 q3 q4 q5 q6 r0 r1 r2 r3 r4 r5 r6
      with_reducible refine Calls.mono (HOa.out _ kt ka ca hda Rt5.out Ra5.out) ?_
      rintro e w6 ⟨rfl, hb⟩
      have hba := hb.trans ((((Below.refl _ w6).alloc (Nat.le_refl _) (.cells #[.int .i64 0, .int .i64 0] 59))).mono hb.size)
      clear hb
      have LB6 := Lib.hid (LB5.out.trans (hba.mono LB5.out.size))
      have Bt6 := Lib.hid (Bt5.out.below hba Bt5.out.lt)
      have Rt6 := Lib.hid (Rt5.out.below hba Rt5.out.lt)
      have Bx6 := Lib.hid (Bx5.out.below hba Bx5.out.lt)
      have Rx6 := Lib.hid (Rx5.out.below hba Rx5.out.lt)
      have Ba6 := Lib.hid (Ba5.out.below hba Ba5.out.lt)
      have Ra6 := Lib.hid (Ra5.out.below hba Ra5.out.lt)
      have Bb6 := Lib.hid (Bb5.out.below hba Bb5.out.lt)
      have Rb6 := Lib.hid (Rb5.out.below hba Rb5.out.lt)
      clear hba LB5 Bt5 Rt5 Bx5 Rx5 Ba5 Ra5 Bb5 Rb5
      obtain ⟨q0, q1, q2, q3, q4, q5, q6⟩ := Bx6.out.all
      obtain ⟨r0, r1, r2, r3, r4, r5, r6⟩ := Bb6.out.all
      go_wp2_with fail
      clear q0 q1 q2 q3 q4 q5 q6 r0 r1 r2 r3 r4 r5 r6
      with_reducible refine Calls.mono (HOb.out _ kx kb cb hdb Rx6.out Rb6.out) ?_
      rintro e w7 ⟨rfl, hb⟩
      have hba := hb.trans ((((Below.refl _ w7).alloc (Nat.le_refl _) (.cells #[.int .i64 oa, .int .i64 ob] 59))).mono hb.size)
      clear hb
      have LB7 := Lib.hid (LB6.out.trans (hba.mono LB6.out.size))
      have Bt7 := Lib.hid (Bt6.out.below hba Bt6.out.lt)
      have Rt7 := Lib.hid (Rt6.out.below hba Rt6.out.lt)
      have Bx7 := Lib.hid (Bx6.out.below hba Bx6.out.lt)
      have Rx7 := Lib.hid (Rx6.out.below hba Rx6.out.lt)
      have Ba7 := Lib.hid (Ba6.out.below hba Ba6.out.lt)
      have Ra7 := Lib.hid (Ra6.out.below hba Ra6.out.lt)
      have Bb7 := Lib.hid (Bb6.out.below hba Bb6.out.lt)
      have Rb7 := Lib.hid (Rb6.out.below hba Rb6.out.lt)
      clear hba LB6 Bt6 Rt6 Bx6 Rx6 Ba6 Ra6 Bb6 Rb6
      clear Bx7
      clear Rx7
      clear Bb7
      clear Rb7
      go_wp2_with fail
      with_reducible refine Calls.mono (HCo.out _) ?_
      rintro e w8 ⟨DL, dL, rfl, hl, hb⟩
      have L8 := Lib.hid (LV.of hl)
      have LB8 := Lib.hid (LB7.out.trans (hb.mono LB7.out.size))
      have Bt8 := Lib.hid (Bt7.out.below hb Bt7.out.lt)
      have Rt8 := Lib.hid (Rt7.out.below hb Rt7.out.lt)
      have Ba8 := Lib.hid (Ba7.out.below hb Ba7.out.lt)
      have Ra8 := Lib.hid (Ra7.out.below hb Ra7.out.lt)
      clear hb LB7 Bt7 Rt7 Ba7 Ra7
      clear hl
      go_wp2_with fail
      with_reducible refine Calls.mono (HP1.out DL dL _ L8.out.h) ?_
      rintro e w9 ⟨rfl, hb⟩
      have LB9 := Lib.hid (LB8.out.trans (hb.mono LB8.out.size))
      have Bt9 := Lib.hid (Bt8.out.below hb Bt8.out.lt)
      have Rt9 := Lib.hid (Rt8.out.below hb Rt8.out.lt)
      have Ba9 := Lib.hid (Ba8.out.below hb Ba8.out.lt)
      have Ra9 := Lib.hid (Ra8.out.below hb Ra8.out.lt)
      have L9 := Lib.hid (L8.out.next hb)
      clear hb LB8 Bt8 Rt8 Ba8 Ra8 L8
      go_wp2_with fail
      with_reducible refine Calls.mono (HP2.out DL dL _ L9.out.h) ?_
      rintro e w10 ⟨rfl, hb⟩
      have LB10 := Lib.hid (LB9.out.trans (hb.mono LB9.out.size))
      have Bt10 := Lib.hid (Bt9.out.below hb Bt9.out.lt)
      have Rt10 := Lib.hid (Rt9.out.below hb Rt9.out.lt)
      have Ba10 := Lib.hid (Ba9.out.below hb Ba9.out.lt)
      have Ra10 := Lib.hid (Ra9.out.below hb Ra9.out.lt)
      have L10 := Lib.hid (L9.out.next hb)
      clear hb LB9 Bt9 Rt9 Ba9 Ra9 L9
      go_wp2_with fail
      with_reducible refine Calls.mono (HP3.out DL dL _ L10.out.h) ?_
      rintro e w11 ⟨rfl, hb⟩
      have LB11 := Lib.hid (LB10.out.trans (hb.mono LB10.out.size))
      have Bt11 := Lib.hid (Bt10.out.below hb Bt10.out.lt)
      have Rt11 := Lib.hid (Rt10.out.below hb Rt10.out.lt)
      have Ba11 := Lib.hid (Ba10.out.below hb Ba10.out.lt)
      have Ra11 := Lib.hid (Ra10.out.below hb Ra10.out.lt)
      have L11 := Lib.hid (L10.out.next hb)
      clear hb LB10 Bt10 Rt10 Ba10 Ra10 L10
      obtain ⟨q0, q1, q2, q3, q4, q5, q6⟩ := Bt11.out.all
      obtain ⟨r0, r1, r2, r3, r4, r5, r6⟩ := Ba11.out.all
      go_wp2_with fail
      clear q0 q1 q2 q3 q4 q5 q6 r0 r1 r2 r3 r4 r5 r6
      with_reducible refine Calls.mono (rsame_se (n : Nat) (n : Nat) (some ⟨kt, 0, none⟩) (some ⟨ka, 0, none⟩) N N ca sj _ (by omega) (Rt11.out.holds Rt11.out.lt) (Ra11.out.holds Ra11.out.lt)) ?_
      rintro e w12 ⟨rfl, hb⟩
      have LB12 := Lib.hid (LB11.out.trans (hb.mono LB11.out.size))
      have Bt12 := Lib.hid (Bt11.out.below hb Bt11.out.lt)
      have Rt12 := Lib.hid (Rt11.out.below hb Rt11.out.lt)
      have Ba12 := Lib.hid (Ba11.out.below hb Ba11.out.lt)
      have Ra12 := Lib.hid (Ra11.out.below hb Ra11.out.lt)
      have L12 := Lib.hid (L11.out.next hb)
      clear hb LB11 Bt11 Rt11 Ba11 Ra11 L11
      go_wp2_with fail
      with_reducible refine Calls.mono (alive9_any _) ?_
      rintro e w13 ⟨rfl, hb⟩
      have LB13 := Lib.hid (LB12.out.trans (hb.mono LB12.out.size))
      have Bt13 := Lib.hid (Bt12.out.below hb Bt12.out.lt)
      have Rt13 := Lib.hid (Rt12.out.below hb Rt12.out.lt)
      have Ba13 := Lib.hid (Ba12.out.below hb Ba12.out.lt)
      have Ra13 := Lib.hid (Ra12.out.below hb Ra12.out.lt)
      have L13 := Lib.hid (L12.out.next hb)
      clear hb LB12 Bt12 Rt12 Ba12 Ra12 L12
      go_wp2
      go_ret
      exact ⟨rfl, LB13.out⟩
theorem turned9_any (n m : Int) (w0 : World) : Calls Try.prog 7 #[.int .i64 n, .int .i64 m] w0 fun e w' => e = .returned (.bool true) ∧ Below w0.heap.size w0 w' := by
  cases h : mv n m
  · exact turned9_err n m w0 h
  obtain ⟨a, b, rfl, rfl, _⟩ := mv_nat h
  by_cases g1 : a ≤ 20
  · exact turned9_main a b w0 h g1
  · exact turned9_big a b w0 h (by omega)
end Go.Proofs.Ytmakjdfkldacaaa
