/- The statement DraftProduct. -/
import Derived.Test.YtbafhdinalapoaaPrh
import Derived.BigQuiet
namespace Go.Proofs.Ytbafhdinalapoaa
open Go.RowKit
set_option linter.unusedVariables false
set_option linter.unusedSimpArgs false
set_option maxRecDepth 100000

theorem rgsm_eq (W H : Int) (A D : Option Addr) (n c d : Nat) (f g : Nat → Bool) (w : World) (hn : n ≤ 5000) (hr : Holds w w.heap.size A n f) (hs : Holds w w.heap.size D n g) (e : ∀ i, i < n → f i = g i) :
    Calls Try.prog 31 #[.agg #[.int .i64 W, .int .i64 H, .slice A n c], .agg #[.int .i64 W, .int .i64 H, .slice D n d]] w fun e w' => e = .returned (.bool true) ∧ Below w.heap.size w w' := by
  have h := rgsm_any W H W H A D n n c d f g w hn hr hs
  have e : gsm W H n f W H n g = true := by unfold gsm; simp only [decide_eq_true_eq]; exact ⟨trivial, trivial, trivial, e⟩
  rw [e] at h
  exact h

set_option maxHeartbeats 800000 in
theorem product_no (D : Dr) (w : World) (hv : ∀ v, Below w.heap.size w v → Calls Try.prog 37 #[.agg #[.int .i64 D.S, .int .i64 D.T, .slice D.A D.n D.c, .slice D.B D.m D.d, .int .i64 D.W, .int .i64 D.H, .slice D.C D.k D.e]] v fun e w' => e = .returned (.bool false) ∧ Below v.heap.size v w') :
    Calls Try.prog 7 #[.agg #[.int .i64 D.S, .int .i64 D.T, .slice D.A D.n D.c, .slice D.B D.m D.d, .int .i64 D.W, .int .i64 D.H, .slice D.C D.k D.e]] w fun e w' => e = .returned (.bool true) ∧ Below w.heap.size w w' := by
  have HV := Lib.hid hv
  have L0 := Lib.hid (show Bl w (w.alloc (.cells #[.int .i64 D.S, .int .i64 D.T, .slice D.A D.n D.c, .slice D.B D.m D.d, .int .i64 D.W, .int .i64 D.H, .slice D.C D.k D.e] 30)) from ⟨(Below.refl _ _).alloc (Nat.le_refl _) _⟩)
  clear hv
  go_enter Try.func7, Try.ntmps7
  go_wp2_with fail
  refine (HV.out _ L0.out.bel).mono ?_
  rintro e w1 ⟨rfl, hb⟩
  have L1 := Lib.hid (L0.out.next hb)
  clear hb L0
  go_wp2_with fail
  refine (alive_any _).mono ?_
  rintro e w2 ⟨rfl, hb⟩
  have L2' := Lib.hid (L1.out.next hb)
  clear hb L1
  go_wp2
  refine bodyPost_ret (v := .bool true) (by simp [results, Try.results7, go_sem]) rfl ⟨rfl, L2'.out.bel⟩

open L2 (nd)
set_option maxHeartbeats 8000000 in
theorem product_main {P : PD} (hP : P.Ok) (A : Option Addr) (c : Nat) (B : Option Addr) (d : Nat) (C : Option Addr) (e' : Nat) (f g : Nat → Int) (b : Nat → Bool) (w : World) (NT N1 N2 K : Nat)
    (hNT : P.T * P.S = NT) (hN1 : P.n * P.m = N1) (hN2 : P.S * P.m = N2) (hK : K ≤ P.T) (hH : PH P w A c B d C e' NT N1 N2 K)
    (hd : (⟨P.S, P.T, A, P.n, c, B, P.m, d, P.T, P.S, C, NT, e', f, g, b⟩ : Dr).In w w.heap.size) (hf : ∀ i, i < P.n → f i = P.F i) (hg : ∀ i, i < P.m → g i = P.G i) (hb : ∀ t s, t < P.T → s < P.S → b (s * P.T + t) = P.L t s) :
    Calls Try.prog 7 #[.agg #[.int .i64 P.S, .int .i64 P.T, .slice A P.n c, .slice B P.m d, .int .i64 P.T, .int .i64 P.S, .slice C NT e']] w fun e w' => e = .returned (.bool true) ∧ Below w.heap.size w w' := by
  obtain ⟨hx, hz⟩ := dps1 w (⟨P.S, P.T, A, P.n, c, B, P.m, d, P.T, P.S, C, NT, e', f, g, b⟩ : Dr) hd
  have HH := Lib.hid hH
  have HF := Lib.hid hf
  have HG := Lib.hid hg
  have HB := Lib.hid hb
  have PF := Lib.hid hP.f
  have PG := Lib.hid hP.g
  obtain ⟨p1, p2, p3, p4, p5, p6, p7, p8, _, _⟩ := hP
  have HNT := Lib.hid hNT
  have HN1 := Lib.hid hN1
  have HN2 := Lib.hid hN2
  have m1 : 0 ≤ (P.n : Int) * (P.m : Int) ∧ (P.n : Int) * (P.m : Int) ≤ 4096 := by
    have e : (P.n : Int) * (P.m : Int) = (N1 : Int) := by rw [← hN1]; simp
    have := Nat.mul_le_mul p6 p8
    rw [e]; omega
  have m2 : 0 ≤ (P.S : Int) * (P.m : Int) ∧ (P.S : Int) * (P.m : Int) ≤ 4096 := by
    have e : (P.S : Int) * (P.m : Int) = (N2 : Int) := by rw [← hN2]; simp
    have := Nat.mul_le_mul p2 p8
    rw [e]; omega
  obtain ⟨m3, m4⟩ := m1
  obtain ⟨m5, m6⟩ := m2
  have z1 : ((N1 : Int) != (P.n : Int) * (P.m : Int)) = false := by rw [← hN1]; simp
  have z2 : ((N2 : Int) != (P.S : Int) * (P.m : Int)) = false := by rw [← hN2]; simp
  have z3 : decide ((K : Int) ≤ (P.T : Int)) = true := by simp; omega
  have P_0 := Lib.hid (hx)
  have L_0 := Lib.hid (hz)
  clear hx hz hd hH hf hg hb hNT hN1 hN2
  go_enter Try.func7, Try.ntmps7
  go_wp2_with fail
  refine (HH.out.hv _ L_0.out.bel).mono ?_
  rintro e wu1 ⟨rfl, hb⟩
  have P_1 := Lib.hid (P_0.out.next hb)
  have L_1 := Lib.hid (L_0.out.next hb)
  clear P_0 L_0
  clear hb
  have ff := P_1.out.box.all
  dsimp only at ff
  obtain ⟨f0_0, f0_1, f0_2, f0_3, f0_4, f0_5, f0_6, f0_7⟩ := ff
  go_wp2_with fail
  clear f0_0 f0_1 f0_2 f0_3 f0_4 f0_5 f0_6 f0_7
  refine (HH.out.wv _ L_1.out.bel).mono ?_
  rintro e wu2 ⟨k1, rfl, hrow, hb⟩
  have P_2 := Lib.hid (P_1.out.next hb)
  have L_2 := Lib.hid (L_1.out.next hb)
  clear P_1 L_1
  have G1_2 := Lib.hid (show GP (wu2.alloc (.cells #[.int .i64 P.n, .int .i64 P.m, .slice (some ⟨k1, 0, none⟩) N1 N1] 24)) 0 wu2.heap.size k1 P.n P.m (some ⟨k1, 0, none⟩) N1 N1 (fun i => P.L (P.G (i / P.n)) (P.F (i % P.n))) from GP.new (fun _ => ⟨rfl, Nat.zero_le _, hrow⟩))
  clear hb hrow
  have ff := P_2.out.box.all
  dsimp only at ff
  obtain ⟨f0_0, f0_1, f0_2, f0_3, f0_4, f0_5, f0_6, f0_7⟩ := ff
  go_wp2_with fail
  clear f0_0 f0_1 f0_2 f0_3 f0_4 f0_5 f0_6 f0_7
  have Pa_3 := Lib.hid (P_2.out.next ((Below.refl _ _).alloc (Nat.le_refl _) (.cells #[.int .i64 P.n, .int .i64 P.m, .slice (some ⟨k1, 0, none⟩) N1 N1] 24)))
  clear P_2
  have La_3 := Lib.hid (L_2.out.next ((Below.refl _ _).alloc (Nat.le_refl _) (.cells #[.int .i64 P.n, .int .i64 P.m, .slice (some ⟨k1, 0, none⟩) N1 N1] 24)))
  clear L_2
  generalize wu2.alloc (.cells #[.int .i64 P.n, .int .i64 P.m, .slice (some ⟨k1, 0, none⟩) N1 N1] 24) = wv2 at *
  refine (HH.out.lf _ La_3.out.bel).mono ?_
  rintro e wu3 ⟨k2, rfl, hrow, hb⟩
  have P_3 := Lib.hid (Pa_3.out.next hb)
  have L_3 := Lib.hid (La_3.out.next hb)
  have G1_3 := Lib.hid (G1_2.out.next hb)
  clear Pa_3 La_3 G1_2
  have G2_3 := Lib.hid (show GP (wu3.alloc (.cells #[.int .i64 P.S, .int .i64 P.m, .slice (some ⟨k2, 0, none⟩) N2 N2] 24)) 0 wu3.heap.size k2 P.S P.m (some ⟨k2, 0, none⟩) N2 N2 (P.lf) from GP.new (fun _ => ⟨rfl, Nat.zero_le _, hrow⟩))
  clear hb hrow
  have ff := P_3.out.box.all
  dsimp only at ff
  obtain ⟨f0_0, f0_1, f0_2, f0_3, f0_4, f0_5, f0_6, f0_7⟩ := ff
  obtain ⟨r0, r1, r2, r3, r4, r5, r6⟩ := G1_3.out.box.all
  go_wp2
  clear f0_0 f0_1 f0_2 f0_3 f0_4 f0_5 f0_6 f0_7 r0 r1 r2 r3 r4 r5 r6
  have Pa_3 := Lib.hid (P_3.out.next ((Below.refl _ _).alloc (Nat.le_refl _) (.cells #[.int .i64 P.S, .int .i64 P.m, .slice (some ⟨k2, 0, none⟩) N2 N2] 24)))
  clear P_3
  have La_3 := Lib.hid (L_3.out.next ((Below.refl _ _).alloc (Nat.le_refl _) (.cells #[.int .i64 P.S, .int .i64 P.m, .slice (some ⟨k2, 0, none⟩) N2 N2] 24)))
  clear L_3
  have G1a_3 := Lib.hid (G1_3.out.next ((Below.refl _ _).alloc (Nat.le_refl _) (.cells #[.int .i64 P.S, .int .i64 P.m, .slice (some ⟨k2, 0, none⟩) N2 N2] 24)))
  clear G1_3
  generalize wu3.alloc (.cells #[.int .i64 P.S, .int .i64 P.m, .slice (some ⟨k2, 0, none⟩) N2 N2] 24) = wv3 at *
  have PS := Pa_3
  clear Pa_3
  have LS := La_3
  clear La_3
  have G1S := G1a_3
  clear G1a_3
  have G2S := G2_3
  clear G2_3
  go_loopw [7] (fun i wr => ∃ x : Nat, x ≤ P.n ∧ i = .int .i64 x ∧ Hid (Below wv3.heap.size wv3 wr)) (fun i _ => P.n - (intOf i).toNat)
  case atStart => exact ⟨0, Nat.zero_le _, rfl, Below.refl _ _⟩
  case round =>
    obtain ⟨x, hx, rfl, hbv⟩ := hrel
    obtain ⟨wo, rfl⟩ : ∃ wo : World, wo = wr := ⟨_, rfl⟩
    have hbv := Lib.hid hbv.out
    obtain ⟨r0, r1, r2, r3, r4, r5, r6⟩ := (G1S.out.next hbv.out).box.all
    by_cases hlx : x < P.n
    · go_wp2
      clear r0 r1 r2 r3 r4 r5 r6
      go_loopw [8] (fun i wr => ∃ y : Nat, y ≤ P.m ∧ i = .int .i64 y ∧ Hid (Below wv3.heap.size wv3 wr)) (fun i _ => P.m - (intOf i).toNat)
      case atStart => exact ⟨0, Nat.zero_le _, rfl, hbv.out⟩
      case round =>
        obtain ⟨y, hy, rfl, hbv⟩ := hrel
        have hbv := Lib.hid hbv.out
        obtain ⟨r0, r1, r2, r3, r4, r5, r6⟩ := (G1S.out.next hbv.out).box.all
        by_cases hly : y < P.m
        · obtain ⟨s0, s1, s2, s3, s4, s5, s6⟩ := (G2S.out.next hbv.out).box.all
          have ff := (PS.out.next hbv.out).box.all
          dsimp only at ff
          obtain ⟨f0_0, f0_1, f0_2, f0_3, f0_4, f0_5, f0_6, f0_7⟩ := ff
          have hin := (PS.out.next hbv.out).cells
          obtain ⟨bA, oA, hAA, hbA, hcA⟩ := hin.th (show 0 < P.n by omega)
          obtain ⟨bB, oB, hBB, hbB, hcB⟩ := hin.tr (show 0 < P.m by omega)
          have pfx := PF.out x hlx
          have pgy := PG.out y hly
          have hi3 := ix_bd pgy pfx
          have hi4 := ix_bd hlx hly
          have hi5 := ix_bd pfx hly
          rw [HNT.out] at hi3
          rw [HN1.out] at hi4
          rw [HN2.out] at hi5
          obtain ⟨bC, oC, hCC, hbC, hcC⟩ := hin.ti (show 0 < NT by omega)
          try dsimp only at hAA hBB hCC hcA hcB hcC
          have cA := hcA x hlx
          have cB := hcB y hly
          have cC := hcC _ hi3
          rw [HF.out x hlx] at cA
          rw [HG.out y hly] at cB
          rw [HB.out _ _ pgy pfx] at cC
          obtain ⟨_, _, _, rw1⟩ := (G1S.out.next hbv.out).row (by omega)
          obtain ⟨_, _, _, rw2⟩ := (G2S.out.next hbv.out).row (by omega)
          have c1 := rw1.cell hi4
          have c2 := rw2.cell hi5
          have e1 : P.L (P.G ((y * P.n + x) / P.n)) (P.F ((y * P.n + x) % P.n)) = P.L (P.G y) (P.F x) := by
            rw [show (y * P.n + x) % P.n = x by rw [Nat.mul_comm, Nat.mul_add_mod, Nat.mod_eq_of_lt hlx], show (y * P.n + x) / P.n = y by rw [Nat.mul_comm, Nat.mul_add_div (by omega), Nat.div_eq_of_lt hlx]; omega]
          try dsimp only at c1
          rw [e1] at c1
          rw [P.lf_at pfx] at c2
          have x3 : (((P.F x : Nat) : Int) * (P.T : Int) + ((P.G y : Nat) : Int)).toNat = P.F x * P.T + P.G y := by
            rw [show ((P.F x : Nat) : Int) * (P.T : Int) + ((P.G y : Nat) : Int) = ((P.F x * P.T + P.G y : Nat) : Int) by simp, Int.toNat_natCast]
          have x4 : ((y : Int) * (P.n : Int) + (x : Int)).toNat = y * P.n + x := by
            rw [show (y : Int) * (P.n : Int) + (x : Int) = ((y * P.n + x : Nat) : Int) by simp, Int.toNat_natCast]
          have x5 : ((y : Int) * (P.S : Int) + ((P.F x : Nat) : Int)).toNat = y * P.S + P.F x := by
            rw [show (y : Int) * (P.S : Int) + ((P.F x : Nat) : Int) = ((y * P.S + P.F x : Nat) : Int) by simp, Int.toNat_natCast]
          obtain ⟨n1, n2⟩ := mul_bd (W := (P.T : Int)) (y := ((P.F x : Nat) : Int)) (by omega) (by omega) (by omega) (by omega)
          obtain ⟨n3, n4⟩ := mul_bd (W := (P.n : Int)) (y := (y : Int)) (by omega) (by omega) (by omega) (by omega)
          obtain ⟨n5, n6⟩ := mul_bd (W := (P.S : Int)) (y := (y : Int)) (by omega) (by omega) (by omega) (by omega)
          rw [← x3] at cC
          rw [← x4] at c1
          rw [← x5] at c2
          have j3 : ((P.F x : Nat) : Int) * (P.T : Int) + ((P.G y : Nat) : Int) < (NT : Int) := by omega
          have j4 : (y : Int) * (P.n : Int) + (x : Int) < (N1 : Int) := by omega
          have j5 : (y : Int) * (P.S : Int) + ((P.F x : Nat) : Int) < (N2 : Int) := by omega
          have i3 : 0 ≤ ((P.F x : Nat) : Int) * (P.T : Int) + ((P.G y : Nat) : Int) := by omega
          have i4 : 0 ≤ (y : Int) * (P.n : Int) + (x : Int) := by omega
          have i5 : 0 ≤ (y : Int) * (P.S : Int) + ((P.F x : Nat) : Int) := by omega
          have w1 : IntKind.i64.wrap (((P.F x : Nat) : Int) * (P.T : Int)) = ((P.F x : Nat) : Int) * (P.T : Int) := IntWalk.i64_in _ (by omega)
          have w2 : IntKind.i64.wrap (((P.F x : Nat) : Int) * (P.T : Int) + ((P.G y : Nat) : Int)) = ((P.F x : Nat) : Int) * (P.T : Int) + ((P.G y : Nat) : Int) := IntWalk.i64_in _ (by omega)
          have w3 : IntKind.i64.wrap ((y : Int) * (P.n : Int)) = (y : Int) * (P.n : Int) := IntWalk.i64_in _ (by omega)
          have w4 : IntKind.i64.wrap ((y : Int) * (P.n : Int) + (x : Int)) = (y : Int) * (P.n : Int) + (x : Int) := IntWalk.i64_in _ (by omega)
          have w5 : IntKind.i64.wrap ((y : Int) * (P.S : Int)) = (y : Int) * (P.S : Int) := IntWalk.i64_in _ (by omega)
          have w6 : IntKind.i64.wrap ((y : Int) * (P.S : Int) + ((P.F x : Nat) : Int)) = (y : Int) * (P.S : Int) + ((P.F x : Nat) : Int) := IntWalk.i64_in _ (by omega)
          have y1 : (0 : Int) ≤ (x : Int) := by omega
          have y2 : (x : Int) < (P.n : Int) := by omega
          have y3 : (0 : Int) ≤ (y : Int) := by omega
          have y4 : (y : Int) < (P.m : Int) := by omega
          have y5 : (0 : Int) ≤ ((P.F x : Nat) : Int) := by omega
          have y6 : (0 : Int) ≤ ((P.G y : Nat) : Int) := by omega
          clear hcA hcB hcC hin rw1 rw2 e1 x3 x4 x5 hi3 hi4 hi5 pfx pgy hbA hbB hbC
          obtain ⟨px, hpx⟩ : ∃ z, P.F x = z := ⟨_, rfl⟩
          obtain ⟨py, hpy⟩ : ∃ z, P.G y = z := ⟨_, rfl⟩
          obtain ⟨u, hu⟩ : ∃ z, P.L (P.G y) (P.F x) = z := ⟨_, rfl⟩
          rw [hu] at cC c1 c2
          rw [hpx] at cA cC c2 n1 n2 j3 j5 y5 i3 i5 w1 w2 w6
          rw [hpy] at cB cC j3 y6 i3 w2
          clear hu hpx hpy
          subst hAA hBB hCC
          cases u
          all_goals
            go_wp2
            go_quiet (fail)
            go_wp2
            go_quiet (fail)
            go_wp2
            exact ⟨⟨y + 1, by omega, by go_num, by first | exact Go.Proofs.below_drewN' hbv.out _ | exact Go.Proofs.below_drewN' (Go.Proofs.below_drewN' hbv.out _) _⟩, by simp [intOf]; omega⟩
        · have e : y = P.m := by omega
          have y5 : decide ((y : Int) < (P.m : Int)) = false := by simp; omega
          go_wp2
          exact ⟨⟨x + 1, by omega, by go_num, hbv.out⟩, by simp [intOf]; omega⟩
    · have y5 : decide ((x : Int) < (P.n : Int)) = false := by simp; omega
      have P0 := Lib.hid (PS.out.next hbv.out)
      have L0 := Lib.hid (LS.out.next hbv.out)
      have G10 := Lib.hid (G1S.out.next hbv.out)
      have G20 := Lib.hid (G2S.out.next hbv.out)
      clear PS LS G1S G2S hbv
      have ff := P0.out.box.all
      dsimp only at ff
      obtain ⟨f0_0, f0_1, f0_2, f0_3, f0_4, f0_5, f0_6, f0_7⟩ := ff
      obtain ⟨g0_0, g0_1, g0_2, g0_3, g0_4, g0_5, g0_6⟩ := G20.out.box.all
      go_wp2_with fail
      clear f0_0 f0_1 f0_2 f0_3 f0_4 f0_5 f0_6 f0_7 r0 r1 r2 r3 r4 r5 r6 g0_0 g0_1 g0_2 g0_3 g0_4 g0_5 g0_6
      refine (HH.out.fl _ k2 L0.out.bel (G20.out.row (by have h1 := Nat.mul_le_mul p1 p7; have h2 := HN2.out; omega)).2.2.2).mono ?_
      rintro e wu21 ⟨a1, ca1, b1, cb1, c1, cc1, rfl, ⟨DD, hDD, hin, hWW, hLL⟩, hb⟩
      have P_21 := Lib.hid (P0.out.next hb)
      have L_21 := Lib.hid (L0.out.next hb)
      have G1_21 := Lib.hid (G10.out.next hb)
      have G2_21 := Lib.hid (G20.out.next hb)
      clear P0 L0 G10 G20
      have M_21 := Lib.hid (show DP (wu21.alloc (.cells #[.int .i64 P.S, .int .i64 K, .slice (some ⟨a1, 0, none⟩) P.n ca1, .slice (some ⟨b1, 0, none⟩) P.m cb1, .int .i64 K, .int .i64 P.S, .slice (some ⟨c1, 0, none⟩) (K * P.S) cc1] 30)) wu21.heap.size wu21.heap.size DD from by have h := DP.new _ hin; rw [hDD] at h ⊢; exact h)
      clear hb hin
      have HWW := Lib.hid hWW
      have HLL := Lib.hid hLL
      have HDD := Lib.hid hDD
      clear hWW hLL hDD
      have ff := M_21.out.box.all
      rw [HDD.out] at ff
      dsimp only at ff
      obtain ⟨f0_0, f0_1, f0_2, f0_3, f0_4, f0_5, f0_6, f0_7⟩ := ff
      go_wp2_with fail
      clear f0_0 f0_1 f0_2 f0_3 f0_4 f0_5 f0_6 f0_7
      have Pa_22 := Lib.hid (P_21.out.next ((Below.refl _ _).alloc (Nat.le_refl _) (.cells #[.int .i64 P.S, .int .i64 K, .slice (some ⟨a1, 0, none⟩) P.n ca1, .slice (some ⟨b1, 0, none⟩) P.m cb1, .int .i64 K, .int .i64 P.S, .slice (some ⟨c1, 0, none⟩) (K * P.S) cc1] 30)))
      clear P_21
      have La_22 := Lib.hid (L_21.out.next ((Below.refl _ _).alloc (Nat.le_refl _) (.cells #[.int .i64 P.S, .int .i64 K, .slice (some ⟨a1, 0, none⟩) P.n ca1, .slice (some ⟨b1, 0, none⟩) P.m cb1, .int .i64 K, .int .i64 P.S, .slice (some ⟨c1, 0, none⟩) (K * P.S) cc1] 30)))
      clear L_21
      have G1a_22 := Lib.hid (G1_21.out.next ((Below.refl _ _).alloc (Nat.le_refl _) (.cells #[.int .i64 P.S, .int .i64 K, .slice (some ⟨a1, 0, none⟩) P.n ca1, .slice (some ⟨b1, 0, none⟩) P.m cb1, .int .i64 K, .int .i64 P.S, .slice (some ⟨c1, 0, none⟩) (K * P.S) cc1] 30)))
      clear G1_21
      have G2a_22 := Lib.hid (G2_21.out.next ((Below.refl _ _).alloc (Nat.le_refl _) (.cells #[.int .i64 P.S, .int .i64 K, .slice (some ⟨a1, 0, none⟩) P.n ca1, .slice (some ⟨b1, 0, none⟩) P.m cb1, .int .i64 K, .int .i64 P.S, .slice (some ⟨c1, 0, none⟩) (K * P.S) cc1] 30)))
      clear G2_21
      generalize wu21.alloc (.cells #[.int .i64 P.S, .int .i64 K, .slice (some ⟨a1, 0, none⟩) P.n ca1, .slice (some ⟨b1, 0, none⟩) P.m cb1, .int .i64 K, .int .i64 P.S, .slice (some ⟨c1, 0, none⟩) (K * P.S) cc1] 30) = wv21 at *
      refine (HWW.out _ M_21.out.in_).mono ?_
      rintro e wu22 ⟨k3, rfl, hrow, hb⟩
      have P_22 := Lib.hid (Pa_22.out.next hb)
      have L_22 := Lib.hid (La_22.out.next hb)
      have G1_22 := Lib.hid (G1a_22.out.next hb)
      have G2_22 := Lib.hid (G2a_22.out.next hb)
      have M_22 := Lib.hid (M_21.out.next hb)
      clear Pa_22 La_22 G1a_22 G2a_22 M_21
      have G3_22 := Lib.hid (show GP (wu22.alloc (.cells #[.int .i64 P.n, .int .i64 P.m, .slice (some ⟨k3, 0, none⟩) N1 N1] 24)) 0 wu22.heap.size k3 P.n P.m (some ⟨k3, 0, none⟩) N1 N1 (fun i => P.L (P.G (i / P.n)) (P.F (i % P.n))) from GP.new (fun _ => ⟨rfl, Nat.zero_le _, hrow⟩))
      clear hb hrow
      have ff := M_22.out.box.all
      rw [HDD.out] at ff
      dsimp only at ff
      obtain ⟨f0_0, f0_1, f0_2, f0_3, f0_4, f0_5, f0_6, f0_7⟩ := ff
      go_wp2_with fail
      clear f0_0 f0_1 f0_2 f0_3 f0_4 f0_5 f0_6 f0_7
      have Pa_23 := Lib.hid (P_22.out.next ((Below.refl _ _).alloc (Nat.le_refl _) (.cells #[.int .i64 P.n, .int .i64 P.m, .slice (some ⟨k3, 0, none⟩) N1 N1] 24)))
      clear P_22
      have La_23 := Lib.hid (L_22.out.next ((Below.refl _ _).alloc (Nat.le_refl _) (.cells #[.int .i64 P.n, .int .i64 P.m, .slice (some ⟨k3, 0, none⟩) N1 N1] 24)))
      clear L_22
      have G1a_23 := Lib.hid (G1_22.out.next ((Below.refl _ _).alloc (Nat.le_refl _) (.cells #[.int .i64 P.n, .int .i64 P.m, .slice (some ⟨k3, 0, none⟩) N1 N1] 24)))
      clear G1_22
      have G2a_23 := Lib.hid (G2_22.out.next ((Below.refl _ _).alloc (Nat.le_refl _) (.cells #[.int .i64 P.n, .int .i64 P.m, .slice (some ⟨k3, 0, none⟩) N1 N1] 24)))
      clear G2_22
      have Ma_23 := Lib.hid (M_22.out.next ((Below.refl _ _).alloc (Nat.le_refl _) (.cells #[.int .i64 P.n, .int .i64 P.m, .slice (some ⟨k3, 0, none⟩) N1 N1] 24)))
      clear M_22
      generalize wu22.alloc (.cells #[.int .i64 P.n, .int .i64 P.m, .slice (some ⟨k3, 0, none⟩) N1 N1] 24) = wv22 at *
      refine (HLL.out _ Ma_23.out.in_).mono ?_
      rintro e wu23 ⟨k4, rfl, hrow, hb⟩
      have P_23 := Lib.hid (Pa_23.out.next hb)
      have L_23 := Lib.hid (La_23.out.next hb)
      have G1_23 := Lib.hid (G1a_23.out.next hb)
      have G2_23 := Lib.hid (G2a_23.out.next hb)
      have M_23 := Lib.hid (Ma_23.out.next hb)
      have G3_23 := Lib.hid (G3_22.out.next hb)
      clear Pa_23 La_23 G1a_23 G2a_23 Ma_23 G3_22
      have G4_23 := Lib.hid (show GP (wu23.alloc (.cells #[.int .i64 P.S, .int .i64 P.m, .slice (some ⟨k4, 0, none⟩) N2 N2] 24)) 0 wu23.heap.size k4 P.S P.m (some ⟨k4, 0, none⟩) N2 N2 (P.lf) from GP.new (fun _ => ⟨rfl, Nat.zero_le _, hrow⟩))
      clear hb hrow
      obtain ⟨h0_0, h0_1, h0_2, h0_3, h0_4, h0_5, h0_6⟩ := G3_23.out.box.all
      obtain ⟨h1_0, h1_1, h1_2, h1_3, h1_4, h1_5, h1_6⟩ := G1_23.out.box.all
      go_wp2_with fail
      clear  h0_0 h0_1 h0_2 h0_3 h0_4 h0_5 h0_6 h1_0 h1_1 h1_2 h1_3 h1_4 h1_5 h1_6
      have Pa_24 := Lib.hid (P_23.out.next ((Below.refl _ _).alloc (Nat.le_refl _) (.cells #[.int .i64 P.S, .int .i64 P.m, .slice (some ⟨k4, 0, none⟩) N2 N2] 24)))
      clear P_23
      have La_24 := Lib.hid (L_23.out.next ((Below.refl _ _).alloc (Nat.le_refl _) (.cells #[.int .i64 P.S, .int .i64 P.m, .slice (some ⟨k4, 0, none⟩) N2 N2] 24)))
      clear L_23
      have G1a_24 := Lib.hid (G1_23.out.next ((Below.refl _ _).alloc (Nat.le_refl _) (.cells #[.int .i64 P.S, .int .i64 P.m, .slice (some ⟨k4, 0, none⟩) N2 N2] 24)))
      clear G1_23
      have G2a_24 := Lib.hid (G2_23.out.next ((Below.refl _ _).alloc (Nat.le_refl _) (.cells #[.int .i64 P.S, .int .i64 P.m, .slice (some ⟨k4, 0, none⟩) N2 N2] 24)))
      clear G2_23
      have Ma_24 := Lib.hid (M_23.out.next ((Below.refl _ _).alloc (Nat.le_refl _) (.cells #[.int .i64 P.S, .int .i64 P.m, .slice (some ⟨k4, 0, none⟩) N2 N2] 24)))
      clear M_23
      have G3a_24 := Lib.hid (G3_23.out.next ((Below.refl _ _).alloc (Nat.le_refl _) (.cells #[.int .i64 P.S, .int .i64 P.m, .slice (some ⟨k4, 0, none⟩) N2 N2] 24)))
      clear G3_23
      generalize wu23.alloc (.cells #[.int .i64 P.S, .int .i64 P.m, .slice (some ⟨k4, 0, none⟩) N2 N2] 24) = wv23 at *
      refine (rgsm_eq _ _ _ _ _ _ _ _ _ _ (by have h1 := Nat.mul_le_mul p6 p8; have h2 := HN1.out; omega) G3a_24.out.holds G1a_24.out.holds (fun _ _ => rfl)).mono ?_
      rintro e wu24 ⟨rfl, hb⟩
      have P_24 := Lib.hid (Pa_24.out.next hb)
      have L_24 := Lib.hid (La_24.out.next hb)
      have G1_24 := Lib.hid (G1a_24.out.next hb)
      have G2_24 := Lib.hid (G2a_24.out.next hb)
      have M_24 := Lib.hid (Ma_24.out.next hb)
      have G3_24 := Lib.hid (G3a_24.out.next hb)
      have G4_24 := Lib.hid (G4_23.out.next hb)
      clear Pa_24 La_24 G1a_24 G2a_24 Ma_24 G3a_24 G4_23
      clear hb 
      obtain ⟨h0_0, h0_1, h0_2, h0_3, h0_4, h0_5, h0_6⟩ := G4_24.out.box.all
      obtain ⟨h1_0, h1_1, h1_2, h1_3, h1_4, h1_5, h1_6⟩ := G2_24.out.box.all
      go_wp2_with fail
      clear  h0_0 h0_1 h0_2 h0_3 h0_4 h0_5 h0_6 h1_0 h1_1 h1_2 h1_3 h1_4 h1_5 h1_6
      refine (rgsm_eq _ _ _ _ _ _ _ _ _ _ (by have h1 := Nat.mul_le_mul p2 p8; have h2 := HN2.out; omega) G4_24.out.holds G2_24.out.holds (fun _ _ => rfl)).mono ?_
      rintro e wu25 ⟨rfl, hb⟩
      have P_25 := Lib.hid (P_24.out.next hb)
      have L_25 := Lib.hid (L_24.out.next hb)
      have G1_25 := Lib.hid (G1_24.out.next hb)
      have G2_25 := Lib.hid (G2_24.out.next hb)
      have M_25 := Lib.hid (M_24.out.next hb)
      have G3_25 := Lib.hid (G3_24.out.next hb)
      have G4_25 := Lib.hid (G4_24.out.next hb)
      clear P_24 L_24 G1_24 G2_24 M_24 G3_24 G4_24
      clear hb 
      have ff := M_25.out.box.all
      rw [HDD.out] at ff
      dsimp only at ff
      obtain ⟨f0_0, f0_1, f0_2, f0_3, f0_4, f0_5, f0_6, f0_7⟩ := ff
      have fp := P_25.out.box.all
      dsimp only at fp
      obtain ⟨k0_0, k0_1, k0_2, k0_3, k0_4, k0_5, k0_6, k0_7⟩ := fp
      go_wp2_with fail
      clear f0_0 f0_1 f0_2 f0_3 f0_4 f0_5 f0_6 f0_7 k0_0 k0_1 k0_2 k0_3 k0_4 k0_5 k0_6 k0_7
      refine (alive_any _).mono ?_
      rintro e wu26 ⟨rfl, hb⟩
      have P_26 := Lib.hid (P_25.out.next hb)
      have L_26 := Lib.hid (L_25.out.next hb)
      have G1_26 := Lib.hid (G1_25.out.next hb)
      have G2_26 := Lib.hid (G2_25.out.next hb)
      have M_26 := Lib.hid (M_25.out.next hb)
      have G3_26 := Lib.hid (G3_25.out.next hb)
      have G4_26 := Lib.hid (G4_25.out.next hb)
      clear P_25 L_25 G1_25 G2_25 M_25 G3_25 G4_25
      clear hb 
      go_wp2
      refine bodyPost_ret (v := .bool true) (by simp [results, Try.results7, go_sem]) rfl ⟨rfl, L_26.out.bel⟩

theorem product_any (D : Dr) (w : World) (hd : D.In w w.heap.size) :
    Calls Try.prog 7 #[.agg #[.int .i64 D.S, .int .i64 D.T, .slice D.A D.n D.c, .slice D.B D.m D.d, .int .i64 D.W, .int .i64 D.H, .slice D.C D.k D.e]] w fun e w' => e = .returned (.bool true) ∧ Below w.heap.size w w' := by
  rcases valid_case D w hd with ⟨P, hP, hI, hs, hv⟩ | hv
  · obtain ⟨S, T, A, n, c, B, m, d, W, H, C, kk, e', f, g, b⟩ := D
    have hI2 := hI
    obtain ⟨eS, eT, en, em, eW, eH, ek, ef, eg, eb⟩ := hI
    dsimp only at *
    subst eS eT en em eW eH ek
    exact product_main hP A c B d C e' f g b w _ _ _ _ rfl rfl rfl (kinds_le hP) (product_hyps hP A c B d C e' f g b w hI2 hd hv) hd ef eg eb
  · exact product_no D w hv
end Go.Proofs.Ytbafhdinalapoaa
