/- The statement SatinTwill: the walk. -/
import Derived.Test.YtmakjdfkldacaaaAlv
import Derived.Test.YtmakjdfkldacaaaIsr
import Derived.Test.YtmakjdfkldacaaaOpl
import Derived.Test.YtmakjdfkldacaaaCet
import Derived.Test.YtmakjdfkldacaaaTwr
import Derived.Test.YtmakjdfkldacaaaTwm
import Derived.Test.YtmakjdfkldacaaaRtw
namespace Go.Proofs.Ytmakjdfkldacaaa
open Go.RowKit
set_option maxRecDepth 100000
set_option linter.unusedVariables false
set_option linter.unusedSimpArgs false

theorem rvr_many (A : Option Addr) (n c : Nat) (w : World) (n3 : 64 < n) : Calls Try.prog 37 #[.slice A n c] w fun e w' => e = .returned (.bool false) ∧ w' = w := by
  have x1 : ¬ (n : Int) < 2 := by omega
  have x2 : 64 < (n : Int) := by omega
  go_enter Try.func37, Try.ntmps37
  go_wp2
  go_ret
  exact ⟨rfl, rfl⟩
theorem twill9_bad (A : Option Addr) (n c : Nat) (f : Nat → Int) (st : Int) (w0 : World) (hr : L2.Holds w0 w0.heap.size A n f) (h : vr f n = false) : Calls Try.prog 8 #[.slice A n c, .int .i64 st] w0 fun e w' => e = .returned (.bool true) ∧ Below w0.heap.size w0 w' := by
  have HV := Lib.hid (show Calls Try.prog 37 #[.slice A n c] w0 fun e w' => e = .returned (.bool false) ∧ w' = w0 by
    by_cases hn : 64 < n
    · exact rvr_many A n c w0 hn
    · have k := rvr_any A n c f w0 (by omega) hr
      rwa [h] at k)
  clear hr
  go_enter Try.func8, Try.ntmps8
  go_wp2_with fail
  refine HV.out.mono ?_
  rintro e w1 ⟨rfl, hw⟩
  subst hw
  go_wp2_with fail
  refine (alive9_any _).mono ?_
  rintro e w2 ⟨rfl, hb⟩
  go_wp2
  go_ret
  exact ⟨rfl, hb⟩
theorem twill9_big (A : Option Addr) (n c : Nat) (f : Nat → Int) (st : Int) (w0 : World) (hr : L2.Holds w0 w0.heap.size A n f) (hv : VR f n) (h : 20 < sm f n) : Calls Try.prog 8 #[.slice A n c, .int .i64 st] w0 fun e w' => e = .returned (.bool true) ∧ Below w0.heap.size w0 w' := by
  have hn := hv.nle
  have HV := Lib.hid (show Calls Try.prog 37 #[.slice A n c] w0 fun e w' => e = .returned (.bool true) ∧ w' = w0 by have k := rvr_any A n c f w0 (by omega) hr; rwa [vr_iff.2 hv] at k)
  have HR := Lib.hid (rrow_any hv A c w0 hr)
  have y1 : (20 : Int) < ((sm f n : Nat) : Int) := by omega
  clear hr
  generalize sm f n = N at *
  go_enter Try.func8, Try.ntmps8
  go_wp2_with fail
  refine HV.out.mono ?_
  rintro e w1 ⟨rfl, hw⟩
  subst hw
  go_wp2_with fail
  refine HR.out.mono ?_
  rintro e w2 ⟨k, d, rfl, hk, hrow, hb⟩
  go_wp2_with fail
  refine (alive9_any _).mono ?_
  rintro e w3 ⟨rfl, hb3⟩
  go_wp2
  go_ret
  exact ⟨rfl, hb.trans (hb3.mono hb.size)⟩
set_option maxHeartbeats 3000000 in
theorem twill9_main (A : Option Addr) (n c : Nat) (f : Nat → Int) (st : Int) (w0 : World) (hr : L2.Holds w0 w0.heap.size A n f) (hv : VR f n) (h20 : sm f n ≤ 20) (h0 : -9223372036854775808 ≤ st) (h1 : st ≤ 9223372036854775807) : Calls Try.prog 8 #[.slice A n c, .int .i64 st] w0 fun e w' => e = .returned (.bool true) ∧ Below w0.heap.size w0 w' := by
  have hn := hv.nle
  have N2 := hv.sge
  obtain ⟨N, hN⟩ : ∃ N, sm f n = N := ⟨_, rfl⟩
  obtain ⟨r, hrr⟩ : ∃ r, rowf f n = r := ⟨_, rfl⟩
  have e0 := Int.emod_nonneg st (show ((sm f n : Nat) : Int) ≠ 0 by omega)
  have e1 := Int.emod_lt_of_pos st (show 0 < ((sm f n : Nat) : Int) by omega)
  obtain ⟨s, hs⟩ := Int.eq_ofNat_of_zero_le e0
  rw [hs] at e1
  have hsN : s < sm f n := by have := e1; omega
  have hg0 : 0 < Nat.gcd (sm f n) s := Nat.gcd_pos_of_pos_left _ (by omega)
  have hV1 : 1 ≤ sm f n / Nat.gcd (sm f n) s := Nat.div_pos (Nat.gcd_le_left _ (by omega)) hg0
  have hVN : sm f n / Nat.gcd (sm f n) s ≤ sm f n := Nat.div_le_self _ _
  obtain ⟨V, hV⟩ : ∃ V, sm f n / Nat.gcd (sm f n) s = V := ⟨_, rfl⟩
  obtain ⟨M, hM⟩ : ∃ M, N * V = M := ⟨_, rfl⟩
  obtain ⟨tw, htw⟩ : ∃ tw, twf N s r = tw := ⟨_, rfl⟩
  obtain ⟨a, b, d, hL0⟩ := IsL.ex (sm f n) (sm f n / Nat.gcd (sm f n) s) (twf (sm f n) s (rowf f n)) (by omega) hV1
  obtain ⟨hd1, hB⟩ := tw_isl (by omega) (rowf f n) hL0
  subst hd1
  have hsv0 := sv_zero (N := sm f n) (s := s) (by omega)
  have hsvp := fun y hy0 hy => sv_pos (N := sm f n) (s := s) (y := y) (by omega) hy0 hy
  have q0 := Int.emod_nonneg (1 : Int) (show ((sm f n / Nat.gcd (sm f n) s : Nat) : Int) ≠ 0 by omega)
  obtain ⟨q, hq⟩ := Int.eq_ofNat_of_zero_le q0
  have hrep := tw_rep (by omega) (rowf f n) q hq
  have HV := Lib.hid (fun u (hb : Below w0.heap.size w0 u) => (show Calls Try.prog 37 #[.slice A n c] u fun e w' => e = .returned (.bool true) ∧ Below u.heap.size u w' by
    have k := rvr_any A n c f u (by omega) ((hr.below hb).more hb.size)
    rw [vr_iff.2 hv] at k
    exact k.mono fun e w' ⟨p1, p2⟩ => ⟨p1, by rw [p2]; exact Below.refl _ _⟩))
  have HR := Lib.hid (fun u (hb : Below w0.heap.size w0 u) => (show Calls Try.prog 38 #[.slice A n c] u (BRet u N r) by rw [← hN, ← hrr]; exact rrow_any hv A c u ((hr.below hb).more hb.size)))
  have HTw := Lib.hid (fun u (hb : Below w0.heap.size w0 u) => (show Calls Try.prog 11 #[.slice A n c, .int .i64 st] u fun e w' => ∃ k c2, e = .returned (.tuple #[.agg #[.int .i64 (N : Nat), .int .i64 (V : Nat), .slice (some ⟨k, 0, none⟩) M c2], .int .i64 0]) ∧ M ≤ c2 ∧ u.heap.size ≤ k ∧ Row w' k M tw ∧ Below u.heap.size u w' by
    rw [← hM, ← htw, ← hrr, ← hV, ← hN]
    exact ptw_okr hv A c st s hs h0 h1 u ((hr.below hb).more hb.size)))
  have hN0 : N ≤ 20 := by omega
  have hN2 : 2 ≤ N := by omega
  rw [hV, hN] at hL0
  rw [hV] at hq
  rw [hrr, htw] at hL0
  rw [hV, hN, hrr, htw] at hrep
  rw [hN] at hs e1 hsN hsv0 hB
  simp only [hN] at hsvp
  rw [hN] at hV hVN
  rw [hN, hV] at hV1
  rw [hV] at hVN hsv0
  rw [hV] at hsvp
  have hK0 : M ≤ 400 := by rw [← hM]; exact Nat.mul_le_mul hN0 (Nat.le_trans hVN hN0)
  have HK := Lib.hid (fun u k c2 => (show Calls Try.prog 31 #[.agg #[.int .i64 (N : Nat), .int .i64 (V : Nat), .slice (some ⟨k, 0, none⟩) M c2]] u fun e w' => e = .returned (.int .i64 0) ∧ Below u.heap.size u w' by rw [← hM]; exact rchk_valid _ c2 u (by omega) (by omega) hV1 (by omega)))
  have HNM := Lib.hid (show N ≤ M by rw [← hM]; exact Nat.le_mul_of_pos_right N hV1)
  have HRu := Lib.hid (fun u k c2 (hrow : Row u k M tw) => (show Calls Try.prog 20 #[.slice (some ⟨k, 0, none⟩) N c2] u (LOut u n f 0) by
    have hcell : ∀ i, i < N → u.cell? ⟨k, 0 + i, none⟩ = some (.bool (rowf f n i)) := fun i hi => by
      rw [Nat.zero_add, hrow.cell (Nat.lt_of_lt_of_le hi HNM.out), ← htw, twf_row hi, hrr]
    have k1 := prun_ok k 0 N c2 (rowf f n) u hrow.lt hN2 (by omega) hcell (rowf_zero hv) (by rw [← hN]; exact rowf_last hv)
    rw [show cn (rowf f n) N = n by rw [← hN]; exact cn_all hv] at k1
    have hrl : ∀ i, i < n → rlI (rowf f n) N i = f i := fun i hi => by rw [← hN]; exact rl_rowf hv hi
    exact k1.mono fun e w' ⟨D, d, p1, p2, p3⟩ => ⟨D, d, p1, fun hn => (p2 hn).imp fun k ⟨p4, p5, p6⟩ => ⟨p4, p5, p6.congr hrl⟩, p3⟩))
  have HIs := Lib.hid (fun u k c2 (hc2 : M ≤ c2) (hrow : Row u k M tw) => (show Calls Try.prog 39 #[.agg #[.int .i64 (N : Nat), .int .i64 (V : Nat), .slice (some ⟨k, 0, none⟩) M c2], .int .i64 st, .int .i64 1] u fun e w' => e = .returned (.tuple #[.bool true, .int .i64 0]) ∧ Below u.heap.size u w' by
    rw [← hM] at hrow hc2 ⊢
    have k1 := pis_ok N V k 0 c2 tw st 1 s q u hrow.lt hc2 (fun i hi => by rw [Nat.zero_add]; exact hrow.cell hi) (by omega) (by omega) hV1 (by omega) h0 h1 (by omega) (by omega) hs hq
    rwa [decide_eq_true hrep] at k1))
  have HOf := Lib.hid (fun u k c2 (hc2 : M ≤ c2) (hrow : Row u k M tw) => (show Calls Try.prog 40 #[.agg #[.int .i64 (N : Nat), .int .i64 (V : Nat), .slice (some ⟨k, 0, none⟩) M c2]] u fun e w' => e = .returned (.tuple #[.agg #[.int .i64 (a : Nat), .int .i64 (b : Nat), .int .i64 1], .int .i64 0]) ∧ Below u.heap.size u w' by
    rw [← hM] at hrow hc2 ⊢
    exact pof_at hL0 _ c2 u (hrow.holds hrow.lt) hc2 (by omega) hV1 (by omega)))
  have HMo := Lib.hid (fun u k c2 (hc2 : M ≤ c2) (hrow : Row u k M tw) => (show Calls Try.prog 16 #[.agg #[.int .i64 (N : Nat), .int .i64 (V : Nat), .slice (some ⟨k, 0, none⟩) M c2]] u (LOut u 1 (fun _ => (b : Int)) 0) from
    pmo_yes (N : Nat) (V : Nat) _ M c2 (a : Nat) (b : Nat) 1 0 u rfl rfl (fun v hv2 => HOf.out v k c2 hc2 (hrow.below hv2 hrow.lt))))
  have a0 := hL0.a0
  have aw := hL0.aw
  have hMA := fun u => mod_any st (a : Nat) u (by omega) (by omega) h0 h1
  rw [hB st hs] at hMA
  have HMA := Lib.hid hMA
  have hMN := fun u => mod_any st (N : Nat) u (by omega) (by omega) h0 h1
  rw [hs] at hMN
  have HMN := Lib.hid hMN
  have HL := Lib.hid (fun v (hb : Below w0.heap.size w0 v) => (⟨(hr.below hb).more hb.size⟩ : LV v A n f))
  have HAT := Lib.hid (fun x y (hx : x < N) (hy : y < V) => (show y * N + x < M ∧ tw (y * N + x) = r (((x : Int) - ((s * y % N : Nat) : Int)) % (N : Int)).toNat ∧ s * y ≤ 400 from by
    refine ⟨by rw [← hM]; exact ix_bd hx hy, ?_, Nat.le_trans (Nat.mul_le_mul (show s ≤ 20 by omega) (show y ≤ 20 by omega)) (by omega)⟩
    rw [← htw, twf_at hx]
    congr 2
    have e := Nat.mod_add_div (s * y) N
    generalize s * y % N = z at *
    generalize s * y / N = p at *
    rw [show (x : Int) - ((s * y : Nat) : Int) = ((x : Int) - (z : Int)) + N * (-(p : Int)) by
      have : ((s * y : Nat) : Int) = z + N * p := by exact_mod_cast e.symm
      rw [this, Int.mul_neg]; omega, Int.add_mul_emod_self_left]))
  have HTR := Lib.hid (fun i (hi : i < N) => show tw i = r i from by rw [← htw]; exact twf_row hi)
  have HSV := Lib.hid hsvp
  have z1 : ((N : Int) != (N : Int)) = false := by simp
  have z2 : ¬ (N : Int) < (V : Int) := by omega
  have z3 : ((b : Int) != (b : Int)) = false := by simp
  have z4 : ¬ (20 : Int) < (N : Int) := by omega
  have z5 : (N : Int) ≤ (M : Int) := by have := HNM.out; omega
  have m1 : s * V ≤ 400 := Nat.le_trans (Nat.mul_le_mul (show s ≤ 20 by omega) (show V ≤ 20 by omega)) (by omega)
  have ev1 : (s : Int) * (V : Int) = ((s * V : Nat) : Int) := by rw [Int.natCast_mul]
  have ev2 : IntKind.i64.wrap ((s : Int) * (V : Int)) = ((s * V : Nat) : Int) := by rw [ev1]; exact IntWalk.i64_in _ (by omega)
  have ev3 : ((s * V : Nat) : Int).tmod (N : Int) = 0 := by rw [Int.tmod_eq_emod_of_nonneg (by omega), ← Int.natCast_emod, hsv0]; rfl
  have ev4 : IntKind.i64.wrap ((s * V : Nat) : Int) = ((s * V : Nat) : Int) := IntWalk.i64_in _ (by omega)
  have en1 : ¬ (N : Int) = 0 := by omega
  have en2 : ¬ N = 0 := by omega
  clear hr hv hL0 hB hrep hs hq hM htw hrr hN hV hsvp hsv0 e0 e1 q0 hg0
  generalize s * V = sV at *
  have LB0 := Lib.hid (Below.refl w0.heap.size w0)
  go_enter Try.func8, Try.ntmps8
  go_wp2_with fail
  with_reducible refine Calls.mono (HV.out _ LB0.out) ?_
  rintro e w1 ⟨rfl, hb⟩
  have LB1 := Lib.hid (LB0.out.trans (hb.mono LB0.out.size))
  clear hb LB0
  go_wp2_with fail
  with_reducible refine Calls.mono (HR.out _ LB1.out) ?_
  rintro e w2 ⟨kr0, dr0, rfl, hkr0, hrow0, hb⟩
  have LB2 := Lib.hid (LB1.out.trans (hb.mono LB1.out.size))
  clear hb LB1
  clear hrow0 hkr0
  go_wp2_with fail
  with_reducible refine Calls.mono (HTw.out _ LB2.out) ?_
  rintro e w3 ⟨kg, cg, rfl, hdg, hkg, hrow, hb⟩
  have hba := hb.trans ((((Below.refl _ w3).alloc (Nat.le_refl _) (.cells #[.int .i64 (N : Nat), .int .i64 (V : Nat), .slice (some ⟨kg, 0, none⟩) M cg] 24))).mono hb.size)
  have B3 := Lib.hid (Box.new w3 (N : Nat) (V : Nat) (.slice (some ⟨kg, 0, none⟩) M cg))
  have R3 := Lib.hid (hrow.alloc (.cells #[.int .i64 (N : Nat), .int .i64 (V : Nat), .slice (some ⟨kg, 0, none⟩) M cg] 24))
  have zc : (M : Int) ≤ (cg : Int) := by omega
  have zc2 : N ≤ cg := Nat.le_trans HNM.out hdg
  have zc3 : (N : Int) ≤ (cg : Int) := by omega
  clear hb hrow hkg
  have LB3 := Lib.hid (LB2.out.trans (hba.mono LB2.out.size))
  clear hba LB2
  go_wp2_with fail
  with_reducible refine Calls.mono (HR.out _ LB3.out) ?_
  rintro e w4 ⟨kr1, dr1, rfl, hkr1, hrow1, hb⟩
  have LB4 := Lib.hid (LB3.out.trans (hb.mono LB3.out.size))
  have B4 := Lib.hid (B3.out.below hb B3.out.lt)
  have R4 := Lib.hid (R3.out.below hb R3.out.lt)
  clear hb LB3 B3 R3
  clear hrow1 hkr1
  obtain ⟨q0, q1, q2, q3, q4, q5, q6⟩ := B4.out.all
  go_wp2_with fail
  clear q0 q1 q2 q3 q4 q5 q6
  with_reducible refine Calls.mono (HK.out _ kg cg) ?_
  rintro e w5 ⟨rfl, hb⟩
  have LB5 := Lib.hid (LB4.out.trans (hb.mono LB4.out.size))
  have B5 := Lib.hid (B4.out.below hb B4.out.lt)
  have R5 := Lib.hid (R4.out.below hb R4.out.lt)
  clear hb LB4 B4 R4
  obtain ⟨q0, q1, q2, q3, q4, q5, q6⟩ := B5.out.all
  go_wp2_with fail
  clear q0 q1 q2 q3 q4 q5 q6
  with_reducible refine Calls.mono (HRu.out _ kg cg R5.out) ?_
  rintro e w6 ⟨DP, dP, rfl, hl, hb⟩
  have P6 := Lib.hid (LV.of hl)
  have LB6 := Lib.hid (LB5.out.trans (hb.mono LB5.out.size))
  have B6 := Lib.hid (B5.out.below hb B5.out.lt)
  have R6 := Lib.hid (R5.out.below hb R5.out.lt)
  clear hb LB5 B5 R5
  clear hl
  obtain ⟨q0, q1, q2, q3, q4, q5, q6⟩ := B6.out.all
  go_wp2_with fail
  clear q0 q1 q2 q3 q4 q5 q6
  with_reducible refine Calls.mono (HIs.out _ kg cg hdg R6.out) ?_
  rintro e w7 ⟨rfl, hb⟩
  have LB7 := Lib.hid (LB6.out.trans (hb.mono LB6.out.size))
  have B7 := Lib.hid (B6.out.below hb B6.out.lt)
  have R7 := Lib.hid (R6.out.below hb R6.out.lt)
  have P7 := Lib.hid (P6.out.next hb)
  clear hb LB6 B6 R6 P6
  obtain ⟨q0, q1, q2, q3, q4, q5, q6⟩ := B7.out.all
  go_wp2_with fail
  clear q0 q1 q2 q3 q4 q5 q6
  with_reducible refine Calls.mono (HMo.out _ kg cg hdg R7.out) ?_
  rintro e w8 ⟨DQ, dQ, rfl, hl, hb⟩
  have Q8 := Lib.hid (LV.of hl)
  have LB8 := Lib.hid (LB7.out.trans (hb.mono LB7.out.size))
  have B8 := Lib.hid (B7.out.below hb B7.out.lt)
  have R8 := Lib.hid (R7.out.below hb R7.out.lt)
  have P8 := Lib.hid (P7.out.next hb)
  clear hb LB7 B7 R7 P7
  clear hl
  obtain ⟨q0, q1, q2, q3, q4, q5, q6⟩ := B8.out.all
  go_wp2_with fail
  clear q0 q1 q2 q3 q4 q5 q6
  with_reducible refine Calls.mono (HOf.out _ kg cg hdg R8.out) ?_
  rintro e w9 ⟨rfl, hb⟩
  have hba := hb.trans ((((Below.refl _ w9).alloc (Nat.le_refl _) (.cells #[.int .i64 (a : Nat), .int .i64 (b : Nat), .int .i64 1] 68))).mono hb.size)
  have T9 := Lib.hid (Tri.new w9 (a : Nat) (b : Nat) 1)
  clear hb
  have LB9 := Lib.hid (LB8.out.trans (hba.mono LB8.out.size))
  have B9 := Lib.hid (B8.out.below hba B8.out.lt)
  have R9 := Lib.hid (R8.out.below hba R8.out.lt)
  have P9 := Lib.hid (P8.out.next hba)
  have Q9 := Lib.hid (Q8.out.next hba)
  clear hba LB8 B8 R8 P8 Q8
  obtain ⟨pb, po, hpe, hpb, hpc⟩ := Q9.out.h (by omega)
  have hp0 := hpc 0 (by omega)
  rw [Nat.add_zero] at hp0
  subst hpe
  obtain ⟨t0, t1, t2, t3, t4, t5⟩ := T9.out.all
  have gbl := B9.out.lt
  have kgl := R9.out.lt
  have tbl := T9.out.lt
  generalize w3.heap.size = gb at *
  generalize hbw : w9.heap.size = tb at *
  go_upto_region 11 with fail
  obtain ⟨wg, hwg⟩ : ∃ wg, w9.alloc (.cells #[.int .i64 (a : Nat), .int .i64 (b : Nat), .int .i64 1] 68) = wg := ⟨_, rfl⟩
  rw [hwg] at LB9 B9 R9 P9 hp0 hpb t0 gbl kgl ⊢
  go_cut [119] (fun v wx => v = .bool false ∧ Below wg.heap.size wg wx)
  case first =>
    have HS1 := Lib.hid (fun u (h : Below wg.heap.size wg u) => (show u.cell? ⟨tb, 0, none⟩ = some (.int .i64 (a : Nat)) ∧ u.cell? ⟨pb, po, none⟩ = some (.int .i64 (b : Nat)) from ⟨(h.cell (p := ⟨tb, 0, none⟩) (by rw [← hwg, ← hbw]; simp)).trans t0, (h.cell (p := ⟨pb, po, none⟩) hpb).trans hp0⟩))
    have HSm := Lib.hid (fun u (h : Below wg.heap.size wg u) => lv_same (by omega) (P9.out.next h) (HL.out u (LB9.out.trans (h.mono LB9.out.size))) dP c (fun _ _ => rfl))
    go_region_held3 (fun w' => w'.cell? ⟨tb, 0, none⟩ = some (.int .i64 (a : Nat)) ∧ w'.cell? ⟨pb, po, none⟩ = some (.int .i64 (b : Nat)))
      (exact HS1.out _ (by (repeat' (first | assumption | exact Below.refl _ _ | refine Below.drew ?_ | refine bdN ?_ _))))
      (first
        | (go_at_call 19
           with_reducible refine Calls.mono (HSm.out _ (by (repeat' (first | assumption | exact Below.refl _ _ | refine Below.drew ?_ | refine bdN ?_ _)))) ?_
           rintro e u1 ⟨rfl, hb1⟩
           have hx1 : Below wg.heap.size wg u1 := Below.trans (by (repeat' (first | assumption | exact Below.refl _ _ | refine Below.drew ?_ | refine bdN ?_ _))) hb1)
        | (go_at_call 41
           with_reducible refine Calls.mono (HMA.out _) ?_
           rintro e u2 ⟨rfl, rfl⟩))
    all_goals
      go_wp2_with fail
      go_meet
      exact ⟨rfl, by (repeat' (first | assumption | exact Below.refl _ _ | refine Below.drew ?_ | refine bdN ?_ _))⟩
  case rest =>
    obtain ⟨rfl, hb⟩ := hcut
    have LBc := Lib.hid (LB9.out.trans (hb.mono LB9.out.size))
    have BC := Lib.hid (B9.out.below hb gbl)
    have RC := Lib.hid (R9.out.below hb kgl)
    clear LB9 B9 R9 P9 hp0 hpb t0 t1 t2 t3 t4 t5 hb T9 Q9
    have HCC := Lib.hid (fun i (hi : i < M) => RC.out.cell hi)
    obtain ⟨c0, c1, c2, c3, c4, c5, c6⟩ := BC.out.all
    go_wp2
    go_loopw [16] (fun i wr => ∃ y : Nat, 1 ≤ y ∧ y ≤ V ∧ i = .int .i64 y ∧ Hid (∃ m, wr = wc.drewN m)) (fun i _ => V - (intOf i).toNat)
    case atStart => exact ⟨1, Nat.le_refl _, hV1, rfl, Lib.hid ⟨0, rfl⟩⟩
    case round =>
      obtain ⟨y, hy1, hy, rfl, HW⟩ := hrel
      obtain ⟨mw, rfl⟩ := HW.out
      clear HW
      by_cases hly : y < V
      · have x1 : (y : Int) < (V : Int) := by omega
        have hz := HSV.out y hy1 hly
        have hm2 := (HAT.out 0 y (by omega) hly).2.2
        have e1 : (s : Int) * (y : Int) = ((s * y : Nat) : Int) := by rw [Int.natCast_mul]
        have e2 : IntKind.i64.wrap ((s : Int) * (y : Int)) = ((s * y : Nat) : Int) := by rw [e1]; exact IntWalk.i64_in _ (by omega)
        have e3 : ((s * y : Nat) : Int).tmod (N : Int) = ((s * y % N : Nat) : Int) := by rw [Int.tmod_eq_emod_of_nonneg (by omega), Int.natCast_emod]
        have e4 : IntKind.i64.wrap ((s * y : Nat) : Int) = ((s * y : Nat) : Int) := IntWalk.i64_in _ (by omega)
        have e5 : s * y % N < N := Nat.mod_lt _ (by omega)
        have HAY := Lib.hid (fun x hx => HAT.out x y hx hly)
        generalize s * y % N = z at *
        generalize s * y = sy at *
        have x2 : ((z : Int) == 0) = false := by simp; omega
        have e6 : IntKind.i64.wrap (z : Int) = (z : Int) := IntWalk.i64_in _ (by omega)
        clear hz
        go_wp2_with fail
        refine (HMN.out _).mono ?_
        rintro e w9 ⟨rfl, hw9⟩
        subst hw9
        go_wp2
        go_loopw [18] (fun i wr => ∃ x : Nat, x ≤ N ∧ i = .int .i64 x ∧ Hid (∃ m, wr = wc.drewN m)) (fun i _ => N - (intOf i).toNat)
        case atStart => exact ⟨0, by omega, rfl, Lib.hid ⟨mw, rfl⟩⟩
        case round =>
          obtain ⟨x, hx, rfl, HW⟩ := hrel
          obtain ⟨mx, rfl⟩ := HW.out
          clear HW
          by_cases hlx : x < N
          · have x3 : (x : Int) < (N : Int) := by omega
            obtain ⟨f1, f2, _⟩ := HAY.out x hlx
            have g0 := Int.emod_nonneg ((x : Int) - (z : Int)) (show (N : Int) ≠ 0 by omega)
            have g1 := Int.emod_lt_of_pos ((x : Int) - (z : Int)) (show 0 < (N : Int) by omega)
            have hMx := fun u => mod_any ((x : Int) - (z : Int)) (N : Nat) u (by omega) (by omega) (by omega) (by omega)
            obtain ⟨i2, hi2⟩ := Int.eq_ofNat_of_zero_le g0
            rw [hi2] at hMx f2 g1
            (try simp only [Int.ofNat_eq_natCast, Int.toNat_natCast] at hMx f2 g1)
            have i2N : i2 < N := by omega
            have f3 := HTR.out i2 i2N
            have b1 := HCC.out _ f1
            have b2 := HCC.out i2 (Nat.lt_of_lt_of_le i2N HNM.out)
            rw [f2] at b1
            rw [f3] at b2
            have HMX := Lib.hid hMx
            clear hMx hi2 f2 f3 g0
            generalize r i2 = bv at *
            have m3 : y * N ≤ 400 := by omega
            have p1 : (y : Int) * (N : Int) = ((y * N : Nat) : Int) := by rw [Int.natCast_mul]
            have p2 : IntKind.i64.wrap ((y : Int) * (N : Int)) = ((y * N : Nat) : Int) := by rw [p1]; exact IntWalk.i64_in _ (by omega)
            have p3 : IntKind.i64.wrap (((y * N : Nat) : Int) + (x : Int)) = ((y * N + x : Nat) : Int) := by rw [← Int.natCast_add]; exact IntWalk.i64_in _ (by omega)
            have p4 : ((y * N : Nat) : Int) + (x : Int) = ((y * N + x : Nat) : Int) := by rw [Int.natCast_add]
            have p5 : IntKind.i64.wrap ((y * N : Nat) : Int) = ((y * N : Nat) : Int) := IntWalk.i64_in _ (by omega)
            have p6 : IntKind.i64.wrap ((y * N + x : Nat) : Int) = ((y * N + x : Nat) : Int) := IntWalk.i64_in _ (by omega)
            have p7 : ((y * N + x : Nat) : Int) < (M : Int) := by omega
            have p8 : (0 : Int) ≤ ((y * N + x : Nat) : Int) := by omega
            have p9 : (i2 : Int) < (M : Int) := by omega
            have pa : (0 : Int) ≤ (i2 : Int) := by omega
            have pb_ : IntKind.i64.wrap ((x : Int) - (z : Int)) = (x : Int) - (z : Int) := IntWalk.i64_in _ (by omega)
            generalize y * N + x = ix at *
            generalize y * N = yN at *
            cases bv
            all_goals
              go_wp2
              go_quiet ((go_at_call 41; with_reducible refine Calls.mono (HMX.out _) ?_; rintro e w2 ⟨rfl, rfl⟩; exact ⟨rfl, _, rfl⟩))
              go_wp2
              exact ⟨⟨x + 1, by omega, by go_num, Lib.hid ⟨mx + nq, by first | rfl | rw [drewN_two]⟩⟩, by simp [intOf]; omega⟩
          · have e : x = N := by omega
            have x3 : ¬ (x : Int) < (N : Int) := by omega
            go_wp2
            exact ⟨⟨y + 1, by omega, by omega, by go_num, Lib.hid ⟨mx, rfl⟩⟩, by simp [intOf]; omega⟩
      · have e : y = V := by omega
        have x1 : ¬ (y : Int) < (V : Int) := by omega
        clear HAT HSV HCC
        have HS2 := Lib.hid (fun u (h : Below wc.heap.size wc u) => (BC.out.below h BC.out.lt).c1)
        go_wp2
        go_region_held3 (fun w' => w'.cell? ⟨gb, 1, none⟩ = some (.int .i64 (V : Nat)))
          (exact HS2.out _ (by (repeat' (first | assumption | exact Below.refl _ _ | refine Below.drew ?_ | refine bdN ?_ _))))
          (first
            | (go_at_call 41
               with_reducible refine Calls.mono (HMN.out _) ?_
               rintro e u2 ⟨rfl, rfl⟩)
            | (go_at_call 21
               with_reducible refine Calls.mono (alive9_any _) ?_
               rintro e u1 ⟨rfl, hb1⟩
               have hx1 : Below wc.heap.size wc u1 := Below.trans (by (repeat' (first | assumption | exact Below.refl _ _ | refine Below.drew ?_ | refine bdN ?_ _))) hb1))
        all_goals
          go_wp2
          go_ret
          exact ⟨rfl, LBc.out.trans ((show Below wc.heap.size wc _ by (repeat' (first | assumption | exact Below.refl _ _ | refine Below.drew ?_ | refine bdN ?_ _))).mono LBc.out.size)⟩
theorem twill9_any (A : Option Addr) (n c : Nat) (f : Nat → Int) (st : Int) (w0 : World) (hr : L2.Holds w0 w0.heap.size A n f) (hA : A = none → c = 0) (h0 : -9223372036854775808 ≤ st) (h1 : st ≤ 9223372036854775807) : Calls Try.prog 8 #[.slice A n c, .int .i64 st] w0 fun e w' => e = .returned (.bool true) ∧ Below w0.heap.size w0 w' := by
  cases h : vr f n
  · exact twill9_bad A n c f st w0 hr h
  · have hv := vr_iff.1 h
    by_cases g : 20 < sm f n
    · exact twill9_big A n c f st w0 hr hv g
    · exact twill9_main A n c f st w0 hr hv (by omega) h0 h1
end Go.Proofs.Ytmakjdfkldacaaa
