/- The statement SatinMakes: the walk. -/
import Derived.Test.YtmakjdfkldacaaaRtw
import Derived.Test.YtmakjdfkldacaaaRun
import Derived.Test.YtmakjdfkldacaaaOpl
import Derived.Test.YtmakjdfkldacaaaCet
namespace Go.Proofs.Ytmakjdfkldacaaa
open Go.RowKit
set_option maxRecDepth 100000
set_option linter.unusedVariables false
set_option linter.unusedSimpArgs false

/-- Satin of both sides. -/
theorem st_two (n m : Int) : ∃ (U V : Int) (N : Nat) (F : Nat → Bool) (z : Int), N ≤ 5000 ∧ ∀ w, Calls Try.prog 13 #[.int .i64 n, .int .i64 m] w (RG w U V N F z) ∧ Calls Try.prog 23 #[.int .i64 n, .int .i64 m] w (RG w U V N F z) := by
  cases h : mv n m
  · exact ⟨_, _, _, _, _, by omega, fun w => ⟨(pst_err h w).mono fun e w' k => k.rg, (rst_err h w).mono fun e w' k => k.rg⟩⟩
  · obtain ⟨a, b, rfl, rfl, h5, h64, h2, hm, hg⟩ := mv_nat h
    have : a * a ≤ 64 * 64 := Nat.mul_le_mul h64 h64
    exact ⟨_, _, _, _, _, (show a * a ≤ 5000 by omega), fun w => ⟨(pst_ok h w).mono fun e w' k => k.rg, (rst_ok h w).mono fun e w' k => k.rg⟩⟩
/-- Twill of both sides. -/
theorem tw_two (A : Option Addr) (n c : Nat) (f : Nat → Int) (st : Int) (w : World) (hn : n ≤ 5000) (hr : L2.Holds w w.heap.size A n f) (h0 : -9223372036854775808 ≤ st) (h1 : st ≤ 9223372036854775807) : ∃ (U V : Int) (N : Nat) (F : Nat → Bool) (z : Int), N ≤ 5000 ∧ ∀ v, Below w.heap.size w v →
    Calls Try.prog 11 #[.slice A n c, .int .i64 st] v (RG v U V N F z) ∧ Calls Try.prog 24 #[.slice A n c, .int .i64 st] v (RG v U V N F z) := by
  cases h : vr f n
  · exact ⟨_, _, _, _, _, by omega, fun v hv => ⟨(ptw_err A n c f st v hn ((hr.below hv).more hv.size) h).mono fun e w' k => k.rg, (rtw_err A n c f st v hn ((hr.below hv).more hv.size) h).mono fun e w' k => k.rg⟩⟩
  · have hv := vr_iff.1 h
    have h2 := hv.sge
    have h64 := hv.le
    have e0 := Int.emod_nonneg st (show ((sm f n : Nat) : Int) ≠ 0 by omega)
    obtain ⟨s, hs⟩ := Int.eq_ofNat_of_zero_le e0
    have : sm f n * (sm f n / Nat.gcd (sm f n) s) ≤ 64 * 64 := Nat.mul_le_mul h64 (Nat.le_trans (Nat.div_le_self _ _) h64)
    exact ⟨_, _, _, _, _, (show sm f n * (sm f n / Nat.gcd (sm f n) s) ≤ 5000 by omega), fun v hb => ⟨(ptw_ok hv A c st s hs h0 h1 v ((hr.below hb).more hb.size)).mono fun e w' k => k.rg, (rtw_ok hv A c st s hs h0 h1 v ((hr.below hb).more hb.size)).mono fun e w' k => k.rg⟩⟩
theorem own_copy {w : World} {base n : Nat} {v : Value} {g f : Nat → Int} (h : L2.Own w base v (0 + n) (L2.both 0 g f)) : ∃ A c, v = .slice A n c ∧ LV w A n f := by
  rw [Nat.zero_add] at h
  obtain ⟨A, c, rfl, _, h1⟩ := h.out
  refine ⟨A, c, rfl, ⟨fun hn => ?_⟩⟩
  obtain ⟨k, rfl, _, hr⟩ := h1 hn
  exact (hr.congr fun i hi => by unfold L2.both; simp).holds hr.lt hn
theorem makes9_n (a b : Int) (A : Option Addr) (n c : Nat) (f : Nat → Int) (st : Int) (D : Option Addr) (m d : Nat) (g : Nat → Bool) (w : World) (hn : 70 < n) : Calls Try.prog 4 #[.int .i64 a, .int .i64 b, .slice A n c, .int .i64 st, .slice D m d] w fun e w' => e = .returned (.bool true) ∧ Below w.heap.size w w' := by
  have x1 : (70 : Int) < (n : Int) := by omega
  go_enter Try.func4, Try.ntmps4
  go_wp2
  go_ret
  exact ⟨rfl, Below.refl _ _⟩
theorem makes9_m (a b : Int) (A : Option Addr) (n c : Nat) (f : Nat → Int) (st : Int) (D : Option Addr) (m d : Nat) (g : Nat → Bool) (w : World) (hn : n ≤ 70) (hm : 70 < m) : Calls Try.prog 4 #[.int .i64 a, .int .i64 b, .slice A n c, .int .i64 st, .slice D m d] w fun e w' => e = .returned (.bool true) ∧ Below w.heap.size w w' := by
  have x1 : ¬ (70 : Int) < (n : Int) := by omega
  have x2 : (70 : Int) < (m : Int) := by omega
  go_enter Try.func4, Try.ntmps4
  go_wp2
  go_ret
  exact ⟨rfl, Below.refl _ _⟩
set_option maxHeartbeats 3200000 in
theorem makes9_main (a b : Int) (A : Option Addr) (n c : Nat) (f : Nat → Int) (st : Int) (D : Option Addr) (m d : Nat) (g : Nat → Bool) (w : World) (hn : n ≤ 70) (hm : m ≤ 70) (hr : L2.Holds w w.heap.size A n f) (hA : A = none → c = 0) (hs : Holds w w.heap.size D m g) (h0 : -9223372036854775808 ≤ st) (h1 : st ≤ 9223372036854775807) : Calls Try.prog 4 #[.int .i64 a, .int .i64 b, .slice A n c, .int .i64 st, .slice D m d] w fun e w' => e = .returned (.bool true) ∧ Below w.heap.size w w' := by
  have x1 : ¬ (70 : Int) < (n : Int) := by omega
  have x2 : ¬ (70 : Int) < (m : Int) := by omega
  obtain ⟨N1, f1, z1, hN1, k1⟩ := cou_two a
  obtain ⟨U2, V2, N2, F2, z2, hN2, k2⟩ := st_two a b
  obtain ⟨U3, V3, N3, F3, z3, hN3, k3⟩ := tw_two A n c f st w (by omega) hr h0 h1
  obtain ⟨N4, f4, z4, hN4, k4⟩ := run_two D m d g w hs (by omega)
  have K1 := Lib.hid k1
  have K2 := Lib.hid k2
  have K3 := Lib.hid k3
  have K4 := Lib.hid k4
  have HR := Lib.hid hr
  have HA := Lib.hid hA
  have HL := Lib.hid (fun v (hb : Below w.heap.size w v) => (⟨(hr.below hb).more hb.size⟩ : LV v A n f))
  have s1 : (z1 == z1) = true := by simp
  have s2 : (z2 == z2) = true := by simp
  have s3 : (z3 == z3) = true := by simp
  have s4 : (z4 == z4) = true := by simp
  clear k1 k2 k3 k4 hr hA hs
  go_enter Try.func4, Try.ntmps4
  go_wp2_with (at_builtin; refine L2.appN _ rfl _ _ (by rfl) w.heap.size (by rfl) (L2.Own.empty w (Nat.le_refl _) f) (by rfl) HA.out (HR.out.below ((Below.refl _ _).alloc (Nat.le_refl _) _)) (by omega) (by omega) (by simp) ?_; intro v' w0 hown0 hb0; obtain ⟨E, e1, rfl, hwas⟩ := own_copy hown0; clear hown0)
  have LB0 := Lib.hid (show Below w.heap.size w w0 from ((Below.refl _ _).alloc (Nat.le_refl _) _).trans hb0)
  have S0 := Lib.hid hwas
  clear hwas hb0
  skip
  go_wp2_with fail
  refine ((K1.out _).1).mono ?_
  rintro e w1 ⟨DP, dP, rfl, hl, hb⟩
  have P1 := Lib.hid (LV.of hl)
  have LB1 := Lib.hid (LB0.out.trans (hb.mono LB0.out.size))
  have S1 := Lib.hid (S0.out.next hb)
  clear hb LB0 S0
  clear hl
  go_wp2_with fail
  refine ((K1.out _).2).mono ?_
  rintro e w2 ⟨DQ, dQ, rfl, hl, hb⟩
  have Q2 := Lib.hid (LV.of hl)
  have LB2 := Lib.hid (LB1.out.trans (hb.mono LB1.out.size))
  have S2 := Lib.hid (S1.out.next hb)
  have P2 := Lib.hid (P1.out.next hb)
  clear hb LB1 S1 P1
  clear hl
  go_wp2_with fail
  refine ((K2.out _).1).mono ?_
  rintro e w3 ⟨Ga, ga, rfl, hwr, hb⟩
  have hba := (show Below _ _ (w3.alloc (.cells #[.int .i64 U2, .int .i64 V2, .slice Ga N2 ga] 24)) from hb.trans (((Below.refl _ _).alloc (Nat.le_refl _) _).mono hb.size))
  have Ba3 := Lib.hid (Box.new w3 U2 V2 (.slice Ga N2 ga))
  have Ra3 := Lib.hid (hwr.next ((Below.refl _ _).alloc (Nat.le_refl _) (.cells #[.int .i64 U2, .int .i64 V2, .slice Ga N2 ga] 24)))
  clear hb hwr
  have LB3 := Lib.hid (LB2.out.trans (hba.mono LB2.out.size))
  have S3 := Lib.hid (S2.out.next hba)
  have P3 := Lib.hid (P2.out.next hba)
  have Q3 := Lib.hid (Q2.out.next hba)
  clear hba LB2 S2 P2 Q2
  go_wp2_with fail
  refine ((K2.out _).2).mono ?_
  rintro e w4 ⟨Gb, gb, rfl, hwr, hb⟩
  have hba := (show Below _ _ (w4.alloc (.cells #[.int .i64 U2, .int .i64 V2, .slice Gb N2 gb] 24)) from hb.trans (((Below.refl _ _).alloc (Nat.le_refl _) _).mono hb.size))
  have Bb4 := Lib.hid (Box.new w4 U2 V2 (.slice Gb N2 gb))
  have Rb4 := Lib.hid (hwr.next ((Below.refl _ _).alloc (Nat.le_refl _) (.cells #[.int .i64 U2, .int .i64 V2, .slice Gb N2 gb] 24)))
  clear hb hwr
  have LB4 := Lib.hid (LB3.out.trans (hba.mono LB3.out.size))
  have S4 := Lib.hid (S3.out.next hba)
  have P4 := Lib.hid (P3.out.next hba)
  have Q4 := Lib.hid (Q3.out.next hba)
  have Ba4 := Lib.hid (Ba3.out.below hba Ba3.out.lt)
  have Ra4 := Lib.hid (Ra3.out.next hba)
  clear hba LB3 S3 P3 Q3 Ba3 Ra3
  go_wp2_with fail
  refine ((K3.out _ LB4.out).1).mono ?_
  rintro e w5 ⟨Gc, gc, rfl, hwr, hb⟩
  have hba := (show Below _ _ (w5.alloc (.cells #[.int .i64 U3, .int .i64 V3, .slice Gc N3 gc] 24)) from hb.trans (((Below.refl _ _).alloc (Nat.le_refl _) _).mono hb.size))
  have Bc5 := Lib.hid (Box.new w5 U3 V3 (.slice Gc N3 gc))
  have Rc5 := Lib.hid (hwr.next ((Below.refl _ _).alloc (Nat.le_refl _) (.cells #[.int .i64 U3, .int .i64 V3, .slice Gc N3 gc] 24)))
  clear hb hwr
  have LB5 := Lib.hid (LB4.out.trans (hba.mono LB4.out.size))
  have S5 := Lib.hid (S4.out.next hba)
  have P5 := Lib.hid (P4.out.next hba)
  have Q5 := Lib.hid (Q4.out.next hba)
  have Ba5 := Lib.hid (Ba4.out.below hba Ba4.out.lt)
  have Ra5 := Lib.hid (Ra4.out.next hba)
  have Bb5 := Lib.hid (Bb4.out.below hba Bb4.out.lt)
  have Rb5 := Lib.hid (Rb4.out.next hba)
  clear hba LB4 S4 P4 Q4 Ba4 Ra4 Bb4 Rb4
  go_wp2_with fail
  refine ((K3.out _ LB5.out).2).mono ?_
  rintro e w6 ⟨Gd, gd, rfl, hwr, hb⟩
  have hba := (show Below _ _ (w6.alloc (.cells #[.int .i64 U3, .int .i64 V3, .slice Gd N3 gd] 24)) from hb.trans (((Below.refl _ _).alloc (Nat.le_refl _) _).mono hb.size))
  have Bd6 := Lib.hid (Box.new w6 U3 V3 (.slice Gd N3 gd))
  have Rd6 := Lib.hid (hwr.next ((Below.refl _ _).alloc (Nat.le_refl _) (.cells #[.int .i64 U3, .int .i64 V3, .slice Gd N3 gd] 24)))
  clear hb hwr
  have LB6 := Lib.hid (LB5.out.trans (hba.mono LB5.out.size))
  have S6 := Lib.hid (S5.out.next hba)
  have P6 := Lib.hid (P5.out.next hba)
  have Q6 := Lib.hid (Q5.out.next hba)
  have Ba6 := Lib.hid (Ba5.out.below hba Ba5.out.lt)
  have Ra6 := Lib.hid (Ra5.out.next hba)
  have Bb6 := Lib.hid (Bb5.out.below hba Bb5.out.lt)
  have Rb6 := Lib.hid (Rb5.out.next hba)
  have Bc6 := Lib.hid (Bc5.out.below hba Bc5.out.lt)
  have Rc6 := Lib.hid (Rc5.out.next hba)
  clear hba LB5 S5 P5 Q5 Ba5 Ra5 Bb5 Rb5 Bc5 Rc5
  go_wp2_with fail
  refine ((K4.out _ LB6.out).1).mono ?_
  rintro e w7 ⟨DV, dV, rfl, hl, hb⟩
  have V7 := Lib.hid (LV.of hl)
  have LB7 := Lib.hid (LB6.out.trans (hb.mono LB6.out.size))
  have S7 := Lib.hid (S6.out.next hb)
  have P7 := Lib.hid (P6.out.next hb)
  have Q7 := Lib.hid (Q6.out.next hb)
  have Ba7 := Lib.hid (Ba6.out.below hb Ba6.out.lt)
  have Ra7 := Lib.hid (Ra6.out.next hb)
  have Bb7 := Lib.hid (Bb6.out.below hb Bb6.out.lt)
  have Rb7 := Lib.hid (Rb6.out.next hb)
  have Bc7 := Lib.hid (Bc6.out.below hb Bc6.out.lt)
  have Rc7 := Lib.hid (Rc6.out.next hb)
  have Bd7 := Lib.hid (Bd6.out.below hb Bd6.out.lt)
  have Rd7 := Lib.hid (Rd6.out.next hb)
  clear hb LB6 S6 P6 Q6 Ba6 Ra6 Bb6 Rb6 Bc6 Rc6 Bd6 Rd6
  clear hl
  go_wp2_with fail
  refine ((K4.out _ LB7.out).2).mono ?_
  rintro e w8 ⟨DW, dW, rfl, hl, hb⟩
  have W8 := Lib.hid (LV.of hl)
  have LB8 := Lib.hid (LB7.out.trans (hb.mono LB7.out.size))
  have S8 := Lib.hid (S7.out.next hb)
  have P8 := Lib.hid (P7.out.next hb)
  have Q8 := Lib.hid (Q7.out.next hb)
  have Ba8 := Lib.hid (Ba7.out.below hb Ba7.out.lt)
  have Ra8 := Lib.hid (Ra7.out.next hb)
  have Bb8 := Lib.hid (Bb7.out.below hb Bb7.out.lt)
  have Rb8 := Lib.hid (Rb7.out.next hb)
  have Bc8 := Lib.hid (Bc7.out.below hb Bc7.out.lt)
  have Rc8 := Lib.hid (Rc7.out.next hb)
  have Bd8 := Lib.hid (Bd7.out.below hb Bd7.out.lt)
  have Rd8 := Lib.hid (Rd7.out.next hb)
  have V8 := Lib.hid (V7.out.next hb)
  clear hb LB7 S7 P7 Q7 Ba7 Ra7 Bb7 Rb7 Bc7 Rc7 Bd7 Rd7 V7
  clear hl
  go_wp2_with fail
  refine (lv_same (by omega) P8.out Q8.out dP dQ (fun _ _ => rfl)).mono ?_
  rintro e w9 ⟨rfl, hb⟩
  have LB9 := Lib.hid (LB8.out.trans (hb.mono LB8.out.size))
  have S9 := Lib.hid (S8.out.next hb)
  have P9 := Lib.hid (P8.out.next hb)
  have Q9 := Lib.hid (Q8.out.next hb)
  have Ba9 := Lib.hid (Ba8.out.below hb Ba8.out.lt)
  have Ra9 := Lib.hid (Ra8.out.next hb)
  have Bb9 := Lib.hid (Bb8.out.below hb Bb8.out.lt)
  have Rb9 := Lib.hid (Rb8.out.next hb)
  have Bc9 := Lib.hid (Bc8.out.below hb Bc8.out.lt)
  have Rc9 := Lib.hid (Rc8.out.next hb)
  have Bd9 := Lib.hid (Bd8.out.below hb Bd8.out.lt)
  have Rd9 := Lib.hid (Rd8.out.next hb)
  have V9 := Lib.hid (V8.out.next hb)
  have W9 := Lib.hid (W8.out.next hb)
  clear hb LB8 S8 P8 Q8 Ba8 Ra8 Bb8 Rb8 Bc8 Rc8 Bd8 Rd8 V8 W8
  obtain ⟨q0, q1, q2, q3, q4, q5, q6⟩ := Ba9.out.all
  obtain ⟨r0, r1, r2, r3, r4, r5, r6⟩ := Bb9.out.all
  go_wp2_with fail
  clear q0 q1 q2 q3 q4 q5 q6 r0 r1 r2 r3 r4 r5 r6
  refine (rsame_se U2 V2 Ga Gb N2 ga gb F2 _ hN2 Ra9.out.holds Rb9.out.holds).mono ?_
  rintro e w10 ⟨rfl, hb⟩
  have LB10 := Lib.hid (LB9.out.trans (hb.mono LB9.out.size))
  have S10 := Lib.hid (S9.out.next hb)
  have P10 := Lib.hid (P9.out.next hb)
  have Q10 := Lib.hid (Q9.out.next hb)
  have Ba10 := Lib.hid (Ba9.out.below hb Ba9.out.lt)
  have Ra10 := Lib.hid (Ra9.out.next hb)
  have Bb10 := Lib.hid (Bb9.out.below hb Bb9.out.lt)
  have Rb10 := Lib.hid (Rb9.out.next hb)
  have Bc10 := Lib.hid (Bc9.out.below hb Bc9.out.lt)
  have Rc10 := Lib.hid (Rc9.out.next hb)
  have Bd10 := Lib.hid (Bd9.out.below hb Bd9.out.lt)
  have Rd10 := Lib.hid (Rd9.out.next hb)
  have V10 := Lib.hid (V9.out.next hb)
  have W10 := Lib.hid (W9.out.next hb)
  clear hb LB9 S9 P9 Q9 Ba9 Ra9 Bb9 Rb9 Bc9 Rc9 Bd9 Rd9 V9 W9
  obtain ⟨q0, q1, q2, q3, q4, q5, q6⟩ := Bc10.out.all
  obtain ⟨r0, r1, r2, r3, r4, r5, r6⟩ := Bd10.out.all
  go_wp2_with fail
  clear q0 q1 q2 q3 q4 q5 q6 r0 r1 r2 r3 r4 r5 r6
  refine (rsame_se U3 V3 Gc Gd N3 gc gd F3 _ hN3 Rc10.out.holds Rd10.out.holds).mono ?_
  rintro e w11 ⟨rfl, hb⟩
  have LB11 := Lib.hid (LB10.out.trans (hb.mono LB10.out.size))
  have S11 := Lib.hid (S10.out.next hb)
  have P11 := Lib.hid (P10.out.next hb)
  have Q11 := Lib.hid (Q10.out.next hb)
  have Ba11 := Lib.hid (Ba10.out.below hb Ba10.out.lt)
  have Ra11 := Lib.hid (Ra10.out.next hb)
  have Bb11 := Lib.hid (Bb10.out.below hb Bb10.out.lt)
  have Rb11 := Lib.hid (Rb10.out.next hb)
  have Bc11 := Lib.hid (Bc10.out.below hb Bc10.out.lt)
  have Rc11 := Lib.hid (Rc10.out.next hb)
  have Bd11 := Lib.hid (Bd10.out.below hb Bd10.out.lt)
  have Rd11 := Lib.hid (Rd10.out.next hb)
  have V11 := Lib.hid (V10.out.next hb)
  have W11 := Lib.hid (W10.out.next hb)
  clear hb LB10 S10 P10 Q10 Ba10 Ra10 Bb10 Rb10 Bc10 Rc10 Bd10 Rd10 V10 W10
  go_wp2_with fail
  refine (lv_same (by omega) V11.out W11.out dV dW (fun _ _ => rfl)).mono ?_
  rintro e w12 ⟨rfl, hb⟩
  have LB12 := Lib.hid (LB11.out.trans (hb.mono LB11.out.size))
  have S12 := Lib.hid (S11.out.next hb)
  have P12 := Lib.hid (P11.out.next hb)
  have Q12 := Lib.hid (Q11.out.next hb)
  have Ba12 := Lib.hid (Ba11.out.below hb Ba11.out.lt)
  have Ra12 := Lib.hid (Ra11.out.next hb)
  have Bb12 := Lib.hid (Bb11.out.below hb Bb11.out.lt)
  have Rb12 := Lib.hid (Rb11.out.next hb)
  have Bc12 := Lib.hid (Bc11.out.below hb Bc11.out.lt)
  have Rc12 := Lib.hid (Rc11.out.next hb)
  have Bd12 := Lib.hid (Bd11.out.below hb Bd11.out.lt)
  have Rd12 := Lib.hid (Rd11.out.next hb)
  have V12 := Lib.hid (V11.out.next hb)
  have W12 := Lib.hid (W11.out.next hb)
  clear hb LB11 S11 P11 Q11 Ba11 Ra11 Bb11 Rb11 Bc11 Rc11 Bd11 Rd11 V11 W11
  go_wp2_with fail
  refine (lv_same (by omega) (HL.out _ LB12.out) S12.out c e1 (fun _ _ => rfl)).mono ?_
  rintro e w13 ⟨rfl, hb⟩
  have LB13 := Lib.hid (LB12.out.trans (hb.mono LB12.out.size))
  have S13 := Lib.hid (S12.out.next hb)
  have P13 := Lib.hid (P12.out.next hb)
  have Q13 := Lib.hid (Q12.out.next hb)
  have Ba13 := Lib.hid (Ba12.out.below hb Ba12.out.lt)
  have Ra13 := Lib.hid (Ra12.out.next hb)
  have Bb13 := Lib.hid (Bb12.out.below hb Bb12.out.lt)
  have Rb13 := Lib.hid (Rb12.out.next hb)
  have Bc13 := Lib.hid (Bc12.out.below hb Bc12.out.lt)
  have Rc13 := Lib.hid (Rc12.out.next hb)
  have Bd13 := Lib.hid (Bd12.out.below hb Bd12.out.lt)
  have Rd13 := Lib.hid (Rd12.out.next hb)
  have V13 := Lib.hid (V12.out.next hb)
  have W13 := Lib.hid (W12.out.next hb)
  clear hb LB12 S12 P12 Q12 Ba12 Ra12 Bb12 Rb12 Bc12 Rc12 Bd12 Rd12 V12 W12
  go_wp2
  go_ret
  exact ⟨rfl, LB13.out⟩
theorem makes9_any (a b : Int) (A : Option Addr) (n c : Nat) (f : Nat → Int) (st : Int) (D : Option Addr) (m d : Nat) (g : Nat → Bool) (w : World) (hr : L2.Holds w w.heap.size A n f) (hA : A = none → c = 0) (hs : Holds w w.heap.size D m g) (h0 : -9223372036854775808 ≤ st) (h1 : st ≤ 9223372036854775807) : Calls Try.prog 4 #[.int .i64 a, .int .i64 b, .slice A n c, .int .i64 st, .slice D m d] w fun e w' => e = .returned (.bool true) ∧ Below w.heap.size w w' := by
  by_cases hn : 70 < n
  · exact makes9_n a b A n c f st D m d g w hn
  by_cases hm : 70 < m
  · exact makes9_m a b A n c f st D m d g w (by omega) hm
  exact makes9_main a b A n c f st D m d g w (by omega) (by omega) hr hA hs h0 h1
end Go.Proofs.Ytmakjdfkldacaaa
