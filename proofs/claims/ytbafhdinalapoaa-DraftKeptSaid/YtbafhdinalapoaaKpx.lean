/- The statement DraftKept. -/
import Derived.Test.YtbafhdinalapoaaKpw
import Derived.BigRegion
import Derived.Deep.DeepCutAuto
namespace Go.Proofs.Ytbafhdinalapoaa
open Go.RowKit
set_option linter.unusedVariables false
set_option linter.unusedSimpArgs false
set_option maxRecDepth 100000

theorem prm_new {N : Nat} {f : Nat → Int} (h : prm N f N = true) {i : Nat} (hi : i < N) : ¬ L2.fst f (f i) i < i := by
  unfold prm at h
  rw [decide_eq_true_iff] at h
  exact h.2.2 i hi
/-- Two new rows side by side. -/
structure Two2 (w v : World) (x1 x2 S T : Nat) : Prop where
  ne : x1 ≠ x2
  b1 : w.heap.size ≤ x1
  b2 : w.heap.size ≤ x2
  r1 : L2.Row v x1 S (fun _ => 0)
  r2 : L2.Row v x2 T (fun _ => 0)
  bel : Below w.heap.size w v
theorem Two2.one (w : World) (S T : Nat) : Two2 w (((w.alloc (.cells (madeCells #[.int .i64 0] S) 3)).alloc (.cells (madeCells #[.int .i64 0] T) 3)).drew) w.heap.size (w.heap.size + 1) S T := by
  have h2 := L2.Row.made (w.alloc (.cells (madeCells #[.int .i64 0] S) 3)) T
  simp only [World.size_alloc] at h2
  exact ⟨by omega, Nat.le_refl _, by omega, (L2.Row.made w S).alloc _, h2, (((Below.refl _ _).alloc (Nat.le_refl _) _).alloc (by simp) _).drew⟩
theorem Two2.two (w : World) (S T : Nat) : Two2 w (((w.alloc (.cells (madeCells #[.int .i64 0] T) 3)).alloc (.cells (madeCells #[.int .i64 0] S) 3)).drew) (w.heap.size + 1) w.heap.size S T := by
  have h2 := L2.Row.made (w.alloc (.cells (madeCells #[.int .i64 0] T) 3)) S
  simp only [World.size_alloc] at h2
  exact ⟨by omega, by omega, Nat.le_refl _, h2, (L2.Row.made w T).alloc _, (((Below.refl _ _).alloc (Nat.le_refl _) _).alloc (by simp) _).drew⟩

set_option maxHeartbeats 3200000 in
theorem kept_C (D : Dr) (P : PD) (hP : P.Ok) (hI : D.Is P) (hs : D.Small) (A1 A2 : Option Addr) (c1 c2 : Nat) (f1 f2 : Nat → Int) (w : World) (hd : D.In w w.heap.size) (h1 : L2.Holds w w.heap.size A1 P.S f1) (h2 : L2.Holds w w.heap.size A2 P.T f2) (hn1 : P.S ≤ 70) (hn2 : P.T ≤ 70) (hv : ∀ v, Below w.heap.size w v → Calls Try.prog 37 #[.agg #[.int .i64 D.S, .int .i64 D.T, .slice D.A D.n D.c, .slice D.B D.m D.d, .int .i64 D.W, .int .i64 D.H, .slice D.C D.k D.e]] v fun e w' => e = .returned (.bool true) ∧ Below v.heap.size v w') (hpa : Hid (prm P.S f1 P.S = true)) (hpb : Hid (prm P.T f2 P.T = true)) :
    Calls Try.prog 9 #[.agg #[.int .i64 D.S, .int .i64 D.T, .slice D.A D.n D.c, .slice D.B D.m D.d, .int .i64 D.W, .int .i64 D.H, .slice D.C D.k D.e], .slice A1 P.S c1, .slice A2 P.T c2] w fun e w' => e = .returned (.bool true) ∧ Below w.heap.size w w' := by
  obtain ⟨hx, hz⟩ := dps1 w D hd
  have HV := Lib.hid hv
  have HP := Lib.hid hP
  have HI := Lib.hid hI
  have n0 := Lib.hid (And.intro hP.n0 (And.intro hP.n1 (And.intro hP.m0 hP.m1)))
  have z1 : decide ((70 : Int) < (P.S : Int)) = false := by simp; omega
  have z2 : decide ((70 : Int) < (P.T : Int)) = false := by simp; omega
  obtain ⟨Q, hQ⟩ : ∃ Q, P.prune = Q := ⟨_, rfl⟩
  obtain ⟨R, hR⟩ : ∃ R, Q.prune = R := ⟨_, rfl⟩
  have HQ := Lib.hid hQ
  have HR := Lib.hid hR
  have HQO := Lib.hid (show Q.Ok by rw [← hQ]; exact PD.prune_ok hP)
  have HQW := Lib.hid (show Q.Whole by rw [← hQ]; exact prune_whole hP)
  have HRO := Lib.hid (show R.Ok by rw [← hR]; exact PD.prune_ok HQO.out)
  have HQR := Lib.hid (show Q.Eqv R by rw [← hR]; exact (prune_same HQO.out HQW.out).symm)
  have HQn := Lib.hid (show Q.n = P.n ∧ Q.m = P.m ∧ ∀ i, i < P.n * P.m → Q.wv i = P.wv i by rw [← hQ]; exact ⟨rfl, rfl, fun i hi => prune_wv hP hi⟩)
  have P_0 := Lib.hid (hx)
  have L_0 := Lib.hid (hz)
  have S_0 := Lib.hid ((show LX _ w.heap.size A1 P.S f1 from ⟨h1, Nat.le_refl _⟩).next ((Below.refl _ _).alloc (Nat.le_refl _) (.cells #[.int .i64 D.S, .int .i64 D.T, .slice D.A D.n D.c, .slice D.B D.m D.d, .int .i64 D.W, .int .i64 D.H, .slice D.C D.k D.e] 30)))
  have T_0 := Lib.hid ((show LX _ w.heap.size A2 P.T f2 from ⟨h2, Nat.le_refl _⟩).next ((Below.refl _ _).alloc (Nat.le_refl _) (.cells #[.int .i64 D.S, .int .i64 D.T, .slice D.A D.n D.c, .slice D.B D.m D.d, .int .i64 D.W, .int .i64 D.H, .slice D.C D.k D.e] 30)))
  clear hx hz hd hv hP hI hs h1 h2 hQ hR
  go_enter Try.func9, Try.ntmps9
  go_wp2_with fail
  with_reducible refine Calls.mono (HV.out _ L_0.out.bel) ?_
  rintro e wu1 ⟨rfl, hb⟩
  have P_1 := Lib.hid (P_0.out.next hb)
  have L_1 := Lib.hid (L_0.out.next hb)
  have S_1 := Lib.hid (S_0.out.next hb)
  have T_1 := Lib.hid (T_0.out.next hb)
  clear P_0 L_0 S_0 T_0
  clear hb
  have ff := P_1.out.box.all
  try dsimp only [PD.dr] at ff
  obtain ⟨f0_0, f0_1, f0_2, f0_3, f0_4, f0_5, f0_6, f0_7⟩ := ff
  go_wp2_with fail
  clear f0_0 f0_1 f0_2 f0_3 f0_4 f0_5 f0_6 f0_7
  with_reducible refine Calls.mono (weaveD HI.out HP.out _ P_1.out.in_) ?_
  rintro e wu2 ⟨k1, rfl, hk, hrow, hb⟩
  have P_2 := Lib.hid (P_1.out.next hb)
  have L_2 := Lib.hid (L_1.out.next hb)
  have S_2 := Lib.hid (S_1.out.next hb)
  have T_2 := Lib.hid (T_1.out.next hb)
  clear P_1 L_1 S_1 T_1
  have G1_2 := Lib.hid (show GP (wu2.alloc (.cells #[.int .i64 P.n, .int .i64 P.m, .slice (some ⟨k1, 0, none⟩) (P.n * P.m) (P.n * P.m)] 24)) 0 wu2.heap.size k1 P.n P.m (some ⟨k1, 0, none⟩) (P.n * P.m) (P.n * P.m) P.wv from GP.new (fun _ => ⟨rfl, Nat.zero_le _, hrow⟩))
  clear hb hk hrow
  have ff := (P_2.out.next ((Below.refl _ _).alloc (Nat.le_refl _) (.cells #[.int .i64 P.n, .int .i64 P.m, .slice (some ⟨k1, 0, none⟩) (P.n * P.m) (P.n * P.m)] 24))).box.all
  try dsimp only [PD.dr] at ff
  obtain ⟨f0_0, f0_1, f0_2, f0_3, f0_4, f0_5, f0_6, f0_7⟩ := ff
  go_wp2_with fail
  clear f0_0 f0_1 f0_2 f0_3 f0_4 f0_5 f0_6 f0_7
  have Pa_3 := Lib.hid (P_2.out.next ((Below.refl _ _).alloc (Nat.le_refl _) (.cells #[.int .i64 P.n, .int .i64 P.m, .slice (some ⟨k1, 0, none⟩) (P.n * P.m) (P.n * P.m)] 24)))
  clear P_2
  have La_3 := Lib.hid (L_2.out.next ((Below.refl _ _).alloc (Nat.le_refl _) (.cells #[.int .i64 P.n, .int .i64 P.m, .slice (some ⟨k1, 0, none⟩) (P.n * P.m) (P.n * P.m)] 24)))
  clear L_2
  have Sa_3 := Lib.hid (S_2.out.next ((Below.refl _ _).alloc (Nat.le_refl _) (.cells #[.int .i64 P.n, .int .i64 P.m, .slice (some ⟨k1, 0, none⟩) (P.n * P.m) (P.n * P.m)] 24)))
  clear S_2
  have Ta_3 := Lib.hid (T_2.out.next ((Below.refl _ _).alloc (Nat.le_refl _) (.cells #[.int .i64 P.n, .int .i64 P.m, .slice (some ⟨k1, 0, none⟩) (P.n * P.m) (P.n * P.m)] 24)))
  clear T_2
  generalize wu2.alloc (.cells #[.int .i64 P.n, .int .i64 P.m, .slice (some ⟨k1, 0, none⟩) (P.n * P.m) (P.n * P.m)] 24) = wv2 at *
  with_reducible refine Calls.mono (prune1 HI.out HP.out HQ.out _ Pa_3.out.in_) ?_
  rintro e wu3 ⟨a3, ca3, b3, cb3, c3, cc3, rfl, hin, hb⟩
  have P_3 := Lib.hid (Pa_3.out.next hb)
  have L_3 := Lib.hid (La_3.out.next hb)
  have S_3 := Lib.hid (Sa_3.out.next hb)
  have T_3 := Lib.hid (Ta_3.out.next hb)
  have G1_3 := Lib.hid (G1_2.out.next hb)
  clear Pa_3 La_3 Sa_3 Ta_3 G1_2
  have U_3 := Lib.hid (show DP (wu3.alloc (.cells #[.int .i64 Q.S, .int .i64 Q.T, .slice (some ⟨a3, 0, none⟩) Q.n ca3, .slice (some ⟨b3, 0, none⟩) Q.m cb3, .int .i64 Q.T, .int .i64 Q.S, .slice (some ⟨c3, 0, none⟩) (Q.T * Q.S) cc3] 30)) wu3.heap.size wu3.heap.size (Q.dr a3 ca3 b3 cb3 c3 cc3) from DP.new _ hin)
  clear hb hin
  have ff := U_3.out.box.all
  try dsimp only [PD.dr] at ff
  obtain ⟨f0_0, f0_1, f0_2, f0_3, f0_4, f0_5, f0_6, f0_7⟩ := ff
  go_wp2_with fail
  clear f0_0 f0_1 f0_2 f0_3 f0_4 f0_5 f0_6 f0_7
  have Pa_4 := Lib.hid (P_3.out.next ((Below.refl _ _).alloc (Nat.le_refl _) (.cells #[.int .i64 Q.S, .int .i64 Q.T, .slice (some ⟨a3, 0, none⟩) Q.n ca3, .slice (some ⟨b3, 0, none⟩) Q.m cb3, .int .i64 Q.T, .int .i64 Q.S, .slice (some ⟨c3, 0, none⟩) (Q.T * Q.S) cc3] 30)))
  clear P_3
  have La_4 := Lib.hid (L_3.out.next ((Below.refl _ _).alloc (Nat.le_refl _) (.cells #[.int .i64 Q.S, .int .i64 Q.T, .slice (some ⟨a3, 0, none⟩) Q.n ca3, .slice (some ⟨b3, 0, none⟩) Q.m cb3, .int .i64 Q.T, .int .i64 Q.S, .slice (some ⟨c3, 0, none⟩) (Q.T * Q.S) cc3] 30)))
  clear L_3
  have Sa_4 := Lib.hid (S_3.out.next ((Below.refl _ _).alloc (Nat.le_refl _) (.cells #[.int .i64 Q.S, .int .i64 Q.T, .slice (some ⟨a3, 0, none⟩) Q.n ca3, .slice (some ⟨b3, 0, none⟩) Q.m cb3, .int .i64 Q.T, .int .i64 Q.S, .slice (some ⟨c3, 0, none⟩) (Q.T * Q.S) cc3] 30)))
  clear S_3
  have Ta_4 := Lib.hid (T_3.out.next ((Below.refl _ _).alloc (Nat.le_refl _) (.cells #[.int .i64 Q.S, .int .i64 Q.T, .slice (some ⟨a3, 0, none⟩) Q.n ca3, .slice (some ⟨b3, 0, none⟩) Q.m cb3, .int .i64 Q.T, .int .i64 Q.S, .slice (some ⟨c3, 0, none⟩) (Q.T * Q.S) cc3] 30)))
  clear T_3
  have G1a_4 := Lib.hid (G1_3.out.next ((Below.refl _ _).alloc (Nat.le_refl _) (.cells #[.int .i64 Q.S, .int .i64 Q.T, .slice (some ⟨a3, 0, none⟩) Q.n ca3, .slice (some ⟨b3, 0, none⟩) Q.m cb3, .int .i64 Q.T, .int .i64 Q.S, .slice (some ⟨c3, 0, none⟩) (Q.T * Q.S) cc3] 30)))
  clear G1_3
  generalize wu3.alloc (.cells #[.int .i64 Q.S, .int .i64 Q.T, .slice (some ⟨a3, 0, none⟩) Q.n ca3, .slice (some ⟨b3, 0, none⟩) Q.m cb3, .int .i64 Q.T, .int .i64 Q.S, .slice (some ⟨c3, 0, none⟩) (Q.T * Q.S) cc3] 30) = wv3 at *
  with_reducible refine Calls.mono (weaveQ HQO.out HQn.out.1 HQn.out.2.1 HQn.out.2.2 _ _ _ _ _ _ _ U_3.out.in_) ?_
  rintro e wu4 ⟨k2, rfl, hk, hrow, hb⟩
  have P_4 := Lib.hid (Pa_4.out.next hb)
  have L_4 := Lib.hid (La_4.out.next hb)
  have S_4 := Lib.hid (Sa_4.out.next hb)
  have T_4 := Lib.hid (Ta_4.out.next hb)
  have G1_4 := Lib.hid (G1a_4.out.next hb)
  have U_4 := Lib.hid (U_3.out.next hb)
  clear Pa_4 La_4 Sa_4 Ta_4 G1a_4 U_3
  have G2_4 := Lib.hid (show GP (wu4.alloc (.cells #[.int .i64 P.n, .int .i64 P.m, .slice (some ⟨k2, 0, none⟩) (P.n * P.m) (P.n * P.m)] 24)) 0 wu4.heap.size k2 P.n P.m (some ⟨k2, 0, none⟩) (P.n * P.m) (P.n * P.m) P.wv from GP.new (fun _ => ⟨rfl, Nat.zero_le _, hrow⟩))
  clear hb hk hrow
  have ff := (U_4.out.next ((Below.refl _ _).alloc (Nat.le_refl _) (.cells #[.int .i64 P.n, .int .i64 P.m, .slice (some ⟨k2, 0, none⟩) (P.n * P.m) (P.n * P.m)] 24))).box.all
  try dsimp only [PD.dr] at ff
  obtain ⟨f0_0, f0_1, f0_2, f0_3, f0_4, f0_5, f0_6, f0_7⟩ := ff
  go_wp2_with fail
  clear f0_0 f0_1 f0_2 f0_3 f0_4 f0_5 f0_6 f0_7
  have Pa_5 := Lib.hid (P_4.out.next ((Below.refl _ _).alloc (Nat.le_refl _) (.cells #[.int .i64 P.n, .int .i64 P.m, .slice (some ⟨k2, 0, none⟩) (P.n * P.m) (P.n * P.m)] 24)))
  clear P_4
  have La_5 := Lib.hid (L_4.out.next ((Below.refl _ _).alloc (Nat.le_refl _) (.cells #[.int .i64 P.n, .int .i64 P.m, .slice (some ⟨k2, 0, none⟩) (P.n * P.m) (P.n * P.m)] 24)))
  clear L_4
  have Sa_5 := Lib.hid (S_4.out.next ((Below.refl _ _).alloc (Nat.le_refl _) (.cells #[.int .i64 P.n, .int .i64 P.m, .slice (some ⟨k2, 0, none⟩) (P.n * P.m) (P.n * P.m)] 24)))
  clear S_4
  have Ta_5 := Lib.hid (T_4.out.next ((Below.refl _ _).alloc (Nat.le_refl _) (.cells #[.int .i64 P.n, .int .i64 P.m, .slice (some ⟨k2, 0, none⟩) (P.n * P.m) (P.n * P.m)] 24)))
  clear T_4
  have G1a_5 := Lib.hid (G1_4.out.next ((Below.refl _ _).alloc (Nat.le_refl _) (.cells #[.int .i64 P.n, .int .i64 P.m, .slice (some ⟨k2, 0, none⟩) (P.n * P.m) (P.n * P.m)] 24)))
  clear G1_4
  have Ua_5 := Lib.hid (U_4.out.next ((Below.refl _ _).alloc (Nat.le_refl _) (.cells #[.int .i64 P.n, .int .i64 P.m, .slice (some ⟨k2, 0, none⟩) (P.n * P.m) (P.n * P.m)] 24)))
  clear U_4
  generalize wu4.alloc (.cells #[.int .i64 P.n, .int .i64 P.m, .slice (some ⟨k2, 0, none⟩) (P.n * P.m) (P.n * P.m)] 24) = wv4 at *
  with_reducible refine Calls.mono (prune2 HQO.out HR.out _ _ _ _ _ _ _ Ua_5.out.in_) ?_
  rintro e wu5 ⟨a4, ca4, b4, cb4, c4, cc4, rfl, hin, hb⟩
  have P_5 := Lib.hid (Pa_5.out.next hb)
  have L_5 := Lib.hid (La_5.out.next hb)
  have S_5 := Lib.hid (Sa_5.out.next hb)
  have T_5 := Lib.hid (Ta_5.out.next hb)
  have G1_5 := Lib.hid (G1a_5.out.next hb)
  have U_5 := Lib.hid (Ua_5.out.next hb)
  have G2_5 := Lib.hid (G2_4.out.next hb)
  clear Pa_5 La_5 Sa_5 Ta_5 G1a_5 Ua_5 G2_4
  have V_5 := Lib.hid (show DP (wu5.alloc (.cells #[.int .i64 R.S, .int .i64 R.T, .slice (some ⟨a4, 0, none⟩) R.n ca4, .slice (some ⟨b4, 0, none⟩) R.m cb4, .int .i64 R.T, .int .i64 R.S, .slice (some ⟨c4, 0, none⟩) (R.T * R.S) cc4] 30)) wu5.heap.size wu5.heap.size (R.dr a4 ca4 b4 cb4 c4 cc4) from DP.new _ hin)
  clear hb hin
  have ff := (G1_5.out.next ((Below.refl _ _).alloc (Nat.le_refl _) (.cells #[.int .i64 R.S, .int .i64 R.T, .slice (some ⟨a4, 0, none⟩) R.n ca4, .slice (some ⟨b4, 0, none⟩) R.m cb4, .int .i64 R.T, .int .i64 R.S, .slice (some ⟨c4, 0, none⟩) (R.T * R.S) cc4] 30))).box.all
  obtain ⟨f0_0, f0_1, f0_2, f0_3, f0_4, f0_5, f0_6⟩ := ff
  have ff := (G2_5.out.next ((Below.refl _ _).alloc (Nat.le_refl _) (.cells #[.int .i64 R.S, .int .i64 R.T, .slice (some ⟨a4, 0, none⟩) R.n ca4, .slice (some ⟨b4, 0, none⟩) R.m cb4, .int .i64 R.T, .int .i64 R.S, .slice (some ⟨c4, 0, none⟩) (R.T * R.S) cc4] 30))).box.all
  obtain ⟨f1_0, f1_1, f1_2, f1_3, f1_4, f1_5, f1_6⟩ := ff
  go_wp2_with fail
  clear f0_0 f0_1 f0_2 f0_3 f0_4 f0_5 f0_6 f1_0 f1_1 f1_2 f1_3 f1_4 f1_5 f1_6
  have Pa_6 := Lib.hid (P_5.out.next ((Below.refl _ _).alloc (Nat.le_refl _) (.cells #[.int .i64 R.S, .int .i64 R.T, .slice (some ⟨a4, 0, none⟩) R.n ca4, .slice (some ⟨b4, 0, none⟩) R.m cb4, .int .i64 R.T, .int .i64 R.S, .slice (some ⟨c4, 0, none⟩) (R.T * R.S) cc4] 30)))
  clear P_5
  have La_6 := Lib.hid (L_5.out.next ((Below.refl _ _).alloc (Nat.le_refl _) (.cells #[.int .i64 R.S, .int .i64 R.T, .slice (some ⟨a4, 0, none⟩) R.n ca4, .slice (some ⟨b4, 0, none⟩) R.m cb4, .int .i64 R.T, .int .i64 R.S, .slice (some ⟨c4, 0, none⟩) (R.T * R.S) cc4] 30)))
  clear L_5
  have Sa_6 := Lib.hid (S_5.out.next ((Below.refl _ _).alloc (Nat.le_refl _) (.cells #[.int .i64 R.S, .int .i64 R.T, .slice (some ⟨a4, 0, none⟩) R.n ca4, .slice (some ⟨b4, 0, none⟩) R.m cb4, .int .i64 R.T, .int .i64 R.S, .slice (some ⟨c4, 0, none⟩) (R.T * R.S) cc4] 30)))
  clear S_5
  have Ta_6 := Lib.hid (T_5.out.next ((Below.refl _ _).alloc (Nat.le_refl _) (.cells #[.int .i64 R.S, .int .i64 R.T, .slice (some ⟨a4, 0, none⟩) R.n ca4, .slice (some ⟨b4, 0, none⟩) R.m cb4, .int .i64 R.T, .int .i64 R.S, .slice (some ⟨c4, 0, none⟩) (R.T * R.S) cc4] 30)))
  clear T_5
  have G1a_6 := Lib.hid (G1_5.out.next ((Below.refl _ _).alloc (Nat.le_refl _) (.cells #[.int .i64 R.S, .int .i64 R.T, .slice (some ⟨a4, 0, none⟩) R.n ca4, .slice (some ⟨b4, 0, none⟩) R.m cb4, .int .i64 R.T, .int .i64 R.S, .slice (some ⟨c4, 0, none⟩) (R.T * R.S) cc4] 30)))
  clear G1_5
  have Ua_6 := Lib.hid (U_5.out.next ((Below.refl _ _).alloc (Nat.le_refl _) (.cells #[.int .i64 R.S, .int .i64 R.T, .slice (some ⟨a4, 0, none⟩) R.n ca4, .slice (some ⟨b4, 0, none⟩) R.m cb4, .int .i64 R.T, .int .i64 R.S, .slice (some ⟨c4, 0, none⟩) (R.T * R.S) cc4] 30)))
  clear U_5
  have G2a_6 := Lib.hid (G2_5.out.next ((Below.refl _ _).alloc (Nat.le_refl _) (.cells #[.int .i64 R.S, .int .i64 R.T, .slice (some ⟨a4, 0, none⟩) R.n ca4, .slice (some ⟨b4, 0, none⟩) R.m cb4, .int .i64 R.T, .int .i64 R.S, .slice (some ⟨c4, 0, none⟩) (R.T * R.S) cc4] 30)))
  clear G2_5
  generalize wu5.alloc (.cells #[.int .i64 R.S, .int .i64 R.T, .slice (some ⟨a4, 0, none⟩) R.n ca4, .slice (some ⟨b4, 0, none⟩) R.m cb4, .int .i64 R.T, .int .i64 R.S, .slice (some ⟨c4, 0, none⟩) (R.T * R.S) cc4] 30) = wv5 at *
  with_reducible refine Calls.mono (rgsm_eq' _ _ _ _ _ _ _ _ _ (by have h1 := n0.out; have h2 := Nat.mul_le_mul h1.2.1 h1.2.2.2; omega) G1a_6.out.holds G2a_6.out.holds) ?_
  rintro e wu6 ⟨rfl, hb⟩
  have P_6 := Lib.hid (Pa_6.out.next hb)
  have L_6 := Lib.hid (La_6.out.next hb)
  have S_6 := Lib.hid (Sa_6.out.next hb)
  have T_6 := Lib.hid (Ta_6.out.next hb)
  have G1_6 := Lib.hid (G1a_6.out.next hb)
  have U_6 := Lib.hid (Ua_6.out.next hb)
  have G2_6 := Lib.hid (G2a_6.out.next hb)
  have V_6 := Lib.hid (V_5.out.next hb)
  clear Pa_6 La_6 Sa_6 Ta_6 G1a_6 Ua_6 G2a_6 V_5
  clear hb
  have ff := U_6.out.box.all
  try dsimp only [PD.dr] at ff
  obtain ⟨f0_0, f0_1, f0_2, f0_3, f0_4, f0_5, f0_6, f0_7⟩ := ff
  have ff := V_6.out.box.all
  try dsimp only [PD.dr] at ff
  obtain ⟨f1_0, f1_1, f1_2, f1_3, f1_4, f1_5, f1_6, f1_7⟩ := ff
  go_wp2_with fail
  clear f0_0 f0_1 f0_2 f0_3 f0_4 f0_5 f0_6 f0_7 f1_0 f1_1 f1_2 f1_3 f1_4 f1_5 f1_6 f1_7
  with_reducible refine Calls.mono (rdsame_eqv HQO.out HRO.out HQR.out _ _ _ _ _ _ _ _ _ _ _ _ _ U_6.out.in_ V_6.out.in_) ?_
  rintro e wu7 ⟨rfl, hb⟩
  have P_7 := Lib.hid (P_6.out.next hb)
  have L_7 := Lib.hid (L_6.out.next hb)
  have S_7 := Lib.hid (S_6.out.next hb)
  have T_7 := Lib.hid (T_6.out.next hb)
  have G1_7 := Lib.hid (G1_6.out.next hb)
  have U_7 := Lib.hid (U_6.out.next hb)
  have G2_7 := Lib.hid (G2_6.out.next hb)
  have V_7 := Lib.hid (V_6.out.next hb)
  clear P_6 L_6 S_6 T_6 G1_6 U_6 G2_6 V_6
  clear hb
  have ff := U_7.out.box.all
  try dsimp only [PD.dr] at ff
  obtain ⟨f0_0, f0_1, f0_2, f0_3, f0_4, f0_5, f0_6, f0_7⟩ := ff
  go_wp2_with fail
  clear f0_0 f0_1 f0_2 f0_3 f0_4 f0_5 f0_6 f0_7
  with_reducible refine Calls.mono (numbT HQO.out HQW.out _ _ _ _ _ _ _ U_7.out.in_) ?_
  rintro e wu8 ⟨A5, d5, rfl, hb⟩
  have P_8 := Lib.hid (P_7.out.next hb)
  have L_8 := Lib.hid (L_7.out.next hb)
  have S_8 := Lib.hid (S_7.out.next hb)
  have T_8 := Lib.hid (T_7.out.next hb)
  have G1_8 := Lib.hid (G1_7.out.next hb)
  have U_8 := Lib.hid (U_7.out.next hb)
  have G2_8 := Lib.hid (G2_7.out.next hb)
  have V_8 := Lib.hid (V_7.out.next hb)
  clear P_7 L_7 S_7 T_7 G1_7 U_7 G2_7 V_7
  clear hb
  have ff := U_8.out.box.all
  try dsimp only [PD.dr] at ff
  obtain ⟨f0_0, f0_1, f0_2, f0_3, f0_4, f0_5, f0_6, f0_7⟩ := ff
  go_wp2_with fail
  clear f0_0 f0_1 f0_2 f0_3 f0_4 f0_5 f0_6 f0_7
  with_reducible refine Calls.mono (numbR HQO.out HQW.out _ _ _ _ _ _ _ U_8.out.in_) ?_
  rintro e wu9 ⟨A6, d6, rfl, hb⟩
  have P_9 := Lib.hid (P_8.out.next hb)
  have L_9 := Lib.hid (L_8.out.next hb)
  have S_9 := Lib.hid (S_8.out.next hb)
  have T_9 := Lib.hid (T_8.out.next hb)
  have G1_9 := Lib.hid (G1_8.out.next hb)
  have U_9 := Lib.hid (U_8.out.next hb)
  have G2_9 := Lib.hid (G2_8.out.next hb)
  have V_9 := Lib.hid (V_8.out.next hb)
  clear P_8 L_8 S_8 T_8 G1_8 U_8 G2_8 V_8
  clear hb
  have ff := U_9.out.box.all
  try dsimp only [PD.dr] at ff
  obtain ⟨f0_0, f0_1, f0_2, f0_3, f0_4, f0_5, f0_6, f0_7⟩ := ff
  have ff := P_9.out.box.all
  try dsimp only [PD.dr] at ff
  obtain ⟨f1_0, f1_1, f1_2, f1_3, f1_4, f1_5, f1_6, f1_7⟩ := ff
  have zq1 : ((Q.S : Int) != (Q.S : Int)) = false := by simp
  have zq2 : ((Q.T : Int) != (Q.T : Int)) = false := by simp
  obtain ⟨N, hN⟩ : ∃ N, P.rnm f1 f2 = N := ⟨_, rfl⟩
  have HN := Lib.hid hN
  have HNO := Lib.hid (show N.Ok by rw [← hN]; exact rnm_ok HP.out hpa.out hpb.out)
  have HNn := Lib.hid (show N.n = P.n ∧ N.m = P.m ∧ ∀ i, i < P.n * P.m → N.wv i = P.wv i by rw [← hN]; exact ⟨rfl, rfl, fun i hi => rnm_wv HP.out hpa.out hpb.out hi⟩)
  have HNs := Lib.hid (show N.S = P.S ∧ N.T = P.T by rw [← hN]; exact ⟨rfl, rfl⟩)
  obtain ⟨O, hO⟩ : ∃ O, N.rnm (fun v => L2.plc f1 (v : Nat) P.S) (fun v => L2.plc f2 (v : Nat) P.T) = O := ⟨_, rfl⟩
  have HO := Lib.hid hO
  have HOO := Lib.hid (show O.Ok by rw [← hO]; exact rnm_ok HNO.out (by rw [HNs.out.1]; exact prm_inv hpa.out) (by rw [HNs.out.2]; exact prm_inv hpb.out))
  have HOP := Lib.hid (show O.Eqv P by rw [← hO, ← hN]; exact rnm_back HP.out hpa.out hpb.out)
  clear hN hO
  go_wp2_with fail
  clear f0_0 f0_1 f0_2 f0_3 f0_4 f0_5 f0_6 f0_7 f1_0 f1_1 f1_2 f1_3 f1_4 f1_5 f1_6 f1_7
  with_reducible refine Calls.mono (ren1 HI.out HP.out HN.out A1 A2 P.S P.T c1 c2 hpa.out hpb.out _ P_9.out.in_ S_9.out.holds T_9.out.holds) ?_
  rintro e wu10 ⟨a7, ca7, b7, cb7, c7, cc7, rfl, hin, hb⟩
  have P_10 := Lib.hid (P_9.out.next hb)
  have L_10 := Lib.hid (L_9.out.next hb)
  have S_10 := Lib.hid (S_9.out.next hb)
  have T_10 := Lib.hid (T_9.out.next hb)
  have G1_10 := Lib.hid (G1_9.out.next hb)
  have U_10 := Lib.hid (U_9.out.next hb)
  have G2_10 := Lib.hid (G2_9.out.next hb)
  have V_10 := Lib.hid (V_9.out.next hb)
  clear P_9 L_9 S_9 T_9 G1_9 U_9 G2_9 V_9
  have X_10 := Lib.hid (show DP (wu10.alloc (.cells #[.int .i64 N.S, .int .i64 N.T, .slice (some ⟨a7, 0, none⟩) N.n ca7, .slice (some ⟨b7, 0, none⟩) N.m cb7, .int .i64 N.T, .int .i64 N.S, .slice (some ⟨c7, 0, none⟩) (N.T * N.S) cc7] 30)) wu10.heap.size wu10.heap.size (N.dr a7 ca7 b7 cb7 c7 cc7) from DP.new _ hin)
  clear hb hin
  have ff := X_10.out.box.all
  try dsimp only [PD.dr] at ff
  obtain ⟨f0_0, f0_1, f0_2, f0_3, f0_4, f0_5, f0_6, f0_7⟩ := ff
  go_wp2_with fail
  clear f0_0 f0_1 f0_2 f0_3 f0_4 f0_5 f0_6 f0_7
  have Pa_11 := Lib.hid (P_10.out.next ((Below.refl _ _).alloc (Nat.le_refl _) (.cells #[.int .i64 N.S, .int .i64 N.T, .slice (some ⟨a7, 0, none⟩) N.n ca7, .slice (some ⟨b7, 0, none⟩) N.m cb7, .int .i64 N.T, .int .i64 N.S, .slice (some ⟨c7, 0, none⟩) (N.T * N.S) cc7] 30)))
  clear P_10
  have La_11 := Lib.hid (L_10.out.next ((Below.refl _ _).alloc (Nat.le_refl _) (.cells #[.int .i64 N.S, .int .i64 N.T, .slice (some ⟨a7, 0, none⟩) N.n ca7, .slice (some ⟨b7, 0, none⟩) N.m cb7, .int .i64 N.T, .int .i64 N.S, .slice (some ⟨c7, 0, none⟩) (N.T * N.S) cc7] 30)))
  clear L_10
  have Sa_11 := Lib.hid (S_10.out.next ((Below.refl _ _).alloc (Nat.le_refl _) (.cells #[.int .i64 N.S, .int .i64 N.T, .slice (some ⟨a7, 0, none⟩) N.n ca7, .slice (some ⟨b7, 0, none⟩) N.m cb7, .int .i64 N.T, .int .i64 N.S, .slice (some ⟨c7, 0, none⟩) (N.T * N.S) cc7] 30)))
  clear S_10
  have Ta_11 := Lib.hid (T_10.out.next ((Below.refl _ _).alloc (Nat.le_refl _) (.cells #[.int .i64 N.S, .int .i64 N.T, .slice (some ⟨a7, 0, none⟩) N.n ca7, .slice (some ⟨b7, 0, none⟩) N.m cb7, .int .i64 N.T, .int .i64 N.S, .slice (some ⟨c7, 0, none⟩) (N.T * N.S) cc7] 30)))
  clear T_10
  have G1a_11 := Lib.hid (G1_10.out.next ((Below.refl _ _).alloc (Nat.le_refl _) (.cells #[.int .i64 N.S, .int .i64 N.T, .slice (some ⟨a7, 0, none⟩) N.n ca7, .slice (some ⟨b7, 0, none⟩) N.m cb7, .int .i64 N.T, .int .i64 N.S, .slice (some ⟨c7, 0, none⟩) (N.T * N.S) cc7] 30)))
  clear G1_10
  have Ua_11 := Lib.hid (U_10.out.next ((Below.refl _ _).alloc (Nat.le_refl _) (.cells #[.int .i64 N.S, .int .i64 N.T, .slice (some ⟨a7, 0, none⟩) N.n ca7, .slice (some ⟨b7, 0, none⟩) N.m cb7, .int .i64 N.T, .int .i64 N.S, .slice (some ⟨c7, 0, none⟩) (N.T * N.S) cc7] 30)))
  clear U_10
  have G2a_11 := Lib.hid (G2_10.out.next ((Below.refl _ _).alloc (Nat.le_refl _) (.cells #[.int .i64 N.S, .int .i64 N.T, .slice (some ⟨a7, 0, none⟩) N.n ca7, .slice (some ⟨b7, 0, none⟩) N.m cb7, .int .i64 N.T, .int .i64 N.S, .slice (some ⟨c7, 0, none⟩) (N.T * N.S) cc7] 30)))
  clear G2_10
  have Va_11 := Lib.hid (V_10.out.next ((Below.refl _ _).alloc (Nat.le_refl _) (.cells #[.int .i64 N.S, .int .i64 N.T, .slice (some ⟨a7, 0, none⟩) N.n ca7, .slice (some ⟨b7, 0, none⟩) N.m cb7, .int .i64 N.T, .int .i64 N.S, .slice (some ⟨c7, 0, none⟩) (N.T * N.S) cc7] 30)))
  clear V_10
  generalize wu10.alloc (.cells #[.int .i64 N.S, .int .i64 N.T, .slice (some ⟨a7, 0, none⟩) N.n ca7, .slice (some ⟨b7, 0, none⟩) N.m cb7, .int .i64 N.T, .int .i64 N.S, .slice (some ⟨c7, 0, none⟩) (N.T * N.S) cc7] 30) = wv10 at *
  with_reducible refine Calls.mono (weaveQ HNO.out HNn.out.1 HNn.out.2.1 HNn.out.2.2 _ _ _ _ _ _ _ X_10.out.in_) ?_
  rintro e wu11 ⟨k8, rfl, hk, hrow, hb⟩
  have P_11 := Lib.hid (Pa_11.out.next hb)
  have L_11 := Lib.hid (La_11.out.next hb)
  have S_11 := Lib.hid (Sa_11.out.next hb)
  have T_11 := Lib.hid (Ta_11.out.next hb)
  have G1_11 := Lib.hid (G1a_11.out.next hb)
  have U_11 := Lib.hid (Ua_11.out.next hb)
  have G2_11 := Lib.hid (G2a_11.out.next hb)
  have V_11 := Lib.hid (Va_11.out.next hb)
  have X_11 := Lib.hid (X_10.out.next hb)
  clear Pa_11 La_11 Sa_11 Ta_11 G1a_11 Ua_11 G2a_11 Va_11 X_10
  have G8_11 := Lib.hid (show GP (wu11.alloc (.cells #[.int .i64 P.n, .int .i64 P.m, .slice (some ⟨k8, 0, none⟩) (P.n * P.m) (P.n * P.m)] 24)) 0 wu11.heap.size k8 P.n P.m (some ⟨k8, 0, none⟩) (P.n * P.m) (P.n * P.m) P.wv from GP.new (fun _ => ⟨rfl, Nat.zero_le _, hrow⟩))
  clear hb hk hrow
  have ff := G8_11.out.box.all
  obtain ⟨f0_0, f0_1, f0_2, f0_3, f0_4, f0_5, f0_6⟩ := ff
  have ff := (G1_11.out.next ((Below.refl _ _).alloc (Nat.le_refl _) (.cells #[.int .i64 P.n, .int .i64 P.m, .slice (some ⟨k8, 0, none⟩) (P.n * P.m) (P.n * P.m)] 24))).box.all
  obtain ⟨f1_0, f1_1, f1_2, f1_3, f1_4, f1_5, f1_6⟩ := ff
  go_wp2_with fail
  clear f0_0 f0_1 f0_2 f0_3 f0_4 f0_5 f0_6 f1_0 f1_1 f1_2 f1_3 f1_4 f1_5 f1_6
  have Pa_12 := Lib.hid (P_11.out.next ((Below.refl _ _).alloc (Nat.le_refl _) (.cells #[.int .i64 P.n, .int .i64 P.m, .slice (some ⟨k8, 0, none⟩) (P.n * P.m) (P.n * P.m)] 24)))
  clear P_11
  have La_12 := Lib.hid (L_11.out.next ((Below.refl _ _).alloc (Nat.le_refl _) (.cells #[.int .i64 P.n, .int .i64 P.m, .slice (some ⟨k8, 0, none⟩) (P.n * P.m) (P.n * P.m)] 24)))
  clear L_11
  have Sa_12 := Lib.hid (S_11.out.next ((Below.refl _ _).alloc (Nat.le_refl _) (.cells #[.int .i64 P.n, .int .i64 P.m, .slice (some ⟨k8, 0, none⟩) (P.n * P.m) (P.n * P.m)] 24)))
  clear S_11
  have Ta_12 := Lib.hid (T_11.out.next ((Below.refl _ _).alloc (Nat.le_refl _) (.cells #[.int .i64 P.n, .int .i64 P.m, .slice (some ⟨k8, 0, none⟩) (P.n * P.m) (P.n * P.m)] 24)))
  clear T_11
  have G1a_12 := Lib.hid (G1_11.out.next ((Below.refl _ _).alloc (Nat.le_refl _) (.cells #[.int .i64 P.n, .int .i64 P.m, .slice (some ⟨k8, 0, none⟩) (P.n * P.m) (P.n * P.m)] 24)))
  clear G1_11
  have Ua_12 := Lib.hid (U_11.out.next ((Below.refl _ _).alloc (Nat.le_refl _) (.cells #[.int .i64 P.n, .int .i64 P.m, .slice (some ⟨k8, 0, none⟩) (P.n * P.m) (P.n * P.m)] 24)))
  clear U_11
  have G2a_12 := Lib.hid (G2_11.out.next ((Below.refl _ _).alloc (Nat.le_refl _) (.cells #[.int .i64 P.n, .int .i64 P.m, .slice (some ⟨k8, 0, none⟩) (P.n * P.m) (P.n * P.m)] 24)))
  clear G2_11
  have Va_12 := Lib.hid (V_11.out.next ((Below.refl _ _).alloc (Nat.le_refl _) (.cells #[.int .i64 P.n, .int .i64 P.m, .slice (some ⟨k8, 0, none⟩) (P.n * P.m) (P.n * P.m)] 24)))
  clear V_11
  have Xa_12 := Lib.hid (X_11.out.next ((Below.refl _ _).alloc (Nat.le_refl _) (.cells #[.int .i64 P.n, .int .i64 P.m, .slice (some ⟨k8, 0, none⟩) (P.n * P.m) (P.n * P.m)] 24)))
  clear X_11
  generalize wu11.alloc (.cells #[.int .i64 P.n, .int .i64 P.m, .slice (some ⟨k8, 0, none⟩) (P.n * P.m) (P.n * P.m)] 24) = wv11 at *
  with_reducible refine Calls.mono (rgsm_eq' _ _ _ _ _ _ _ _ _ (by have h1 := n0.out; have h2 := Nat.mul_le_mul h1.2.1 h1.2.2.2; omega) G8_11.out.holds G1a_12.out.holds) ?_
  rintro e wu12 ⟨rfl, hb⟩
  have P_12 := Lib.hid (Pa_12.out.next hb)
  have L_12 := Lib.hid (La_12.out.next hb)
  have S_12 := Lib.hid (Sa_12.out.next hb)
  have T_12 := Lib.hid (Ta_12.out.next hb)
  have G1_12 := Lib.hid (G1a_12.out.next hb)
  have U_12 := Lib.hid (Ua_12.out.next hb)
  have G2_12 := Lib.hid (G2a_12.out.next hb)
  have V_12 := Lib.hid (Va_12.out.next hb)
  have X_12 := Lib.hid (Xa_12.out.next hb)
  have G8_12 := Lib.hid (G8_11.out.next hb)
  clear Pa_12 La_12 Sa_12 Ta_12 G1a_12 Ua_12 G2a_12 Va_12 Xa_12 G8_11
  clear hb
  have ff := P_12.out.box.all
  try dsimp only [PD.dr] at ff
  obtain ⟨f0_0, f0_1, f0_2, f0_3, f0_4, f0_5, f0_6, f0_7⟩ := ff
  rw [HI.out.S] at f0_0
  rw [HI.out.T] at f0_1
  go_wp2_with fail
  clear f0_0 f0_1 f0_2 f0_3 f0_4 f0_5 f0_6 f0_7
  with_reducible refine Calls.mono (each_is hpa.out S_12.out.holds (by omega) (by have := HP.out.s1; omega)) ?_
  rintro e wu13 ⟨rfl, hb⟩
  have P_13 := Lib.hid (P_12.out.next hb)
  have L_13 := Lib.hid (L_12.out.next hb)
  have S_13 := Lib.hid (S_12.out.next hb)
  have T_13 := Lib.hid (T_12.out.next hb)
  have G1_13 := Lib.hid (G1_12.out.next hb)
  have U_13 := Lib.hid (U_12.out.next hb)
  have G2_13 := Lib.hid (G2_12.out.next hb)
  have V_13 := Lib.hid (V_12.out.next hb)
  have X_13 := Lib.hid (X_12.out.next hb)
  have G8_13 := Lib.hid (G8_12.out.next hb)
  clear P_12 L_12 S_12 T_12 G1_12 U_12 G2_12 V_12 X_12 G8_12
  clear hb
  have ff := P_13.out.box.all
  try dsimp only [PD.dr] at ff
  obtain ⟨f0_0, f0_1, f0_2, f0_3, f0_4, f0_5, f0_6, f0_7⟩ := ff
  rw [HI.out.S] at f0_0
  rw [HI.out.T] at f0_1
  go_wp2_with fail
  clear f0_0 f0_1 f0_2 f0_3 f0_4 f0_5 f0_6 f0_7
  with_reducible refine Calls.mono (each_is hpb.out T_13.out.holds (by omega) (by have := HP.out.t1; omega)) ?_
  rintro e wu14 ⟨rfl, hb⟩
  have P_14 := Lib.hid (P_13.out.next hb)
  have L_14 := Lib.hid (L_13.out.next hb)
  have S_14 := Lib.hid (S_13.out.next hb)
  have T_14 := Lib.hid (T_13.out.next hb)
  have G1_14 := Lib.hid (G1_13.out.next hb)
  have U_14 := Lib.hid (U_13.out.next hb)
  have G2_14 := Lib.hid (G2_13.out.next hb)
  have V_14 := Lib.hid (V_13.out.next hb)
  have X_14 := Lib.hid (X_13.out.next hb)
  have G8_14 := Lib.hid (G8_13.out.next hb)
  clear P_13 L_13 S_13 T_13 G1_13 U_13 G2_13 V_13 X_13 G8_13
  clear hb
  have ff := P_14.out.box.all
  try dsimp only [PD.dr] at ff
  obtain ⟨f0_0, f0_1, f0_2, f0_3, f0_4, f0_5, f0_6, f0_7⟩ := ff
  rw [HI.out.S] at f0_0
  rw [HI.out.T] at f0_1
  have hs40 := HP.out.s1
  have ht40 := HP.out.t1
  have hmk1 := L2.make_run P.S (by omega)
  have hmk2 := L2.make_run P.T (by omega)
  go_upto_region 19 with fail
  go_cut [23, 24] (fun p q wx => ∃ x1 x2, p = .slice (some ⟨x1, 0, none⟩) P.S P.S ∧ q = .slice (some ⟨x2, 0, none⟩) P.T P.T ∧ Two2 wu14 wx x1 x2 P.S P.T)
  case first =>
    go_region
    all_goals
      go_wp2_with fail
      go_meet
      first
        | exact ⟨_, _, rfl, rfl, Two2.one _ _ _⟩
        | exact ⟨_, _, rfl, rfl, Two2.two _ _ _⟩
  case rest =>
    clear f0_0 f0_1 f0_2 f0_3 f0_4 f0_5 f0_6 f0_7 hmk1 hmk2
    obtain ⟨x1, x2, rfl, rfl, htw⟩ := hcut
    have P_c := Lib.hid (P_14.out.next htw.bel)
    have L_c := Lib.hid (L_14.out.next htw.bel)
    have S_c := Lib.hid (S_14.out.next htw.bel)
    have T_c := Lib.hid (T_14.out.next htw.bel)
    have G1_c := Lib.hid (G1_14.out.next htw.bel)
    have U_c := Lib.hid (U_14.out.next htw.bel)
    have G2_c := Lib.hid (G2_14.out.next htw.bel)
    have V_c := Lib.hid (V_14.out.next htw.bel)
    have X_c := Lib.hid (X_14.out.next htw.bel)
    have G8_c := Lib.hid (G8_14.out.next htw.bel)
    have TW := Lib.hid htw
    clear htw
    have LEN1 := Lib.hid (S_c.out.cells)
    go_wp2
    go_loopw [25] (fun i wr => ∃ y : Nat, y ≤ P.S ∧ i = .int .i64 y ∧ Hid (L2.Row wr x1 P.S (fun v => max 0 (L2.plc f1 (v : Nat) y))) ∧ Hid (L2.Row wr x2 P.T (fun _ => 0)) ∧ Hid (Below wu14.heap.size wu14 wr)) (fun i _ => P.S - (intOf i).toNat)
    case atStart => exact ⟨0, Nat.zero_le _, rfl, Lib.hid (TW.out.r1.congr fun i _ => by (simp [L2.plc]; decide)), Lib.hid TW.out.r2, Lib.hid TW.out.bel⟩
    case round =>
      obtain ⟨y, hy, rfl, hra, hrb, hbl⟩ := hrel
      have RA0 := Lib.hid hra.out
      have RB0 := Lib.hid hrb.out
      have BB0 := Lib.hid hbl.out
      clear hra hrb hbl
      by_cases hlt : y < P.S
      · have y1 : decide ((y : Int) < (P.S : Int)) = true := by simp; omega
        have hh := (S_14.out.next BB0.out).cells
        obtain ⟨ba, oa, rfl, hba, hca⟩ := hh (by omega)
        have e1 := hca y hlt
        have hin := prm_in hpa.out hlt
        obtain ⟨v, hve⟩ : ∃ v : Nat, f1 y = v := ⟨(f1 y).toNat, (Int.toNat_of_nonneg hin.1).symm⟩
        have HVE := Lib.hid hve
        rw [hve] at e1 hin
        have g0 : (0 : Int) ≤ (y : Int) := by omega
        have g1 : (y : Int) < (P.S : Int) := by omega
        have g2 : (0 : Int) ≤ (v : Int) := by omega
        have g3 := hin.2
        have r0 := RA0.out.cell (i := v) (by omega)
        have r1 := RA0.out.free v
        have r2 := RA0.out.lt
        have hx0 : wu14.heap.size ≤ x1 := TW.out.b1
        have hne : x2 ≠ x1 := Ne.symm TW.out.ne
        clear hve hin hca hh hba
        go_wp2
        refine ⟨⟨y + 1, by omega, by go_num, Lib.hid ?_, Lib.hid (RB0.out.far (by exact hne) _), Lib.hid (BB0.out.setCell (by exact hx0) _)⟩, by simp [intOf]; omega⟩
        refine (RA0.out.set_ v (y : Int)).congr fun j hj => ?_
        have hps := prm_plc hpa.out hlt
        rw [plc_succ (prm_new hpa.out hlt), HVE.out]
        by_cases e : j = v
        · rw [if_pos e, if_pos (by omega)]; omega
        · rw [if_neg e, if_neg (by omega)]
      · have e : y = P.S := by omega
        subst e
        have y1 : decide ((P.S : Int) < (P.S : Int)) = false := by simp
        obtain ⟨wq, rfl⟩ : ∃ wq : World, wq = wr := ⟨_, rfl⟩
        have RA := Lib.hid (RA0.out.congr (f' := fun v => L2.plc f1 (v : Nat) P.S) fun v hv => by have := prm_has hpa.out hv; rw [this.1]; omega)
        have RB := Lib.hid RB0.out
        have BB := Lib.hid BB0.out
        go_wp2
        go_loopw [26] (fun i wr => ∃ y : Nat, y ≤ P.T ∧ i = .int .i64 y ∧ Hid (L2.Row wr x2 P.T (fun v => max 0 (L2.plc f2 (v : Nat) y))) ∧ Hid (L2.Row wr x1 P.S (fun v => L2.plc f1 (v : Nat) P.S)) ∧ Hid (Below wu14.heap.size wu14 wr)) (fun i _ => P.T - (intOf i).toNat)
        case atStart => exact ⟨0, Nat.zero_le _, rfl, Lib.hid (RB.out.congr fun i _ => by (simp [L2.plc]; decide)), RA, BB⟩
        case round =>
          obtain ⟨y, hy, rfl, hra, hrb, hbl⟩ := hrel
          have RA0 := Lib.hid hra.out
          have RB0 := Lib.hid hrb.out
          have BB0 := Lib.hid hbl.out
          clear hra hrb hbl
          by_cases hlt : y < P.T
          · have y1 : decide ((y : Int) < (P.T : Int)) = true := by simp; omega
            have hh := (T_14.out.next BB0.out).cells
            obtain ⟨ba, oa, rfl, hba, hca⟩ := hh (by omega)
            have e1 := hca y hlt
            have hin := prm_in hpb.out hlt
            obtain ⟨v, hve⟩ : ∃ v : Nat, f2 y = v := ⟨(f2 y).toNat, (Int.toNat_of_nonneg hin.1).symm⟩
            have HVE := Lib.hid hve
            rw [hve] at e1 hin
            have g0 : (0 : Int) ≤ (y : Int) := by omega
            have g1 : (y : Int) < (P.T : Int) := by omega
            have g2 : (0 : Int) ≤ (v : Int) := by omega
            have g3 := hin.2
            have r0 := RA0.out.cell (i := v) (by omega)
            have r1 := RA0.out.free v
            have r2 := RA0.out.lt
            have hx0 : wu14.heap.size ≤ x2 := TW.out.b2
            have hne : x1 ≠ x2 := TW.out.ne
            clear hve hin hca hh hba
            go_wp2
            refine ⟨⟨y + 1, by omega, by go_num, Lib.hid ?_, Lib.hid (RB0.out.far (by exact hne) _), Lib.hid (BB0.out.setCell (by exact hx0) _)⟩, by simp [intOf]; omega⟩
            refine (RA0.out.set_ v (y : Int)).congr fun j hj => ?_
            have hps := prm_plc hpb.out hlt
            rw [plc_succ (prm_new hpb.out hlt), HVE.out]
            by_cases e : j = v
            · rw [if_pos e, if_pos (by omega)]; omega
            · rw [if_neg e, if_neg (by omega)]
          · have e : y = P.T := by omega
            subst e
            have y1 : decide ((P.T : Int) < (P.T : Int)) = false := by simp
            have RT := Lib.hid (RA0.out.congr (f' := fun v => L2.plc f2 (v : Nat) P.T) fun v hv => by have := prm_has hpb.out hv; rw [this.1]; omega)
            have RS := Lib.hid RB0.out
            have P_d := Lib.hid (P_14.out.next BB0.out)
            have L_d := Lib.hid (L_14.out.next BB0.out)
            have S_d := Lib.hid (S_14.out.next BB0.out)
            have T_d := Lib.hid (T_14.out.next BB0.out)
            have G1_d := Lib.hid (G1_14.out.next BB0.out)
            have U_d := Lib.hid (U_14.out.next BB0.out)
            have G2_d := Lib.hid (G2_14.out.next BB0.out)
            have V_d := Lib.hid (V_14.out.next BB0.out)
            have X_d := Lib.hid (X_14.out.next BB0.out)
            have G8_d := Lib.hid (G8_14.out.next BB0.out)
            have ff := X_d.out.box.all
            try dsimp only [PD.dr] at ff
            obtain ⟨f0_0, f0_1, f0_2, f0_3, f0_4, f0_5, f0_6, f0_7⟩ := ff
            go_wp2_with fail
            clear f0_0 f0_1 f0_2 f0_3 f0_4 f0_5 f0_6 f0_7
            with_reducible refine Calls.mono (ren2 HNO.out HO.out _ _ _ _ _ _ (some ⟨x1, 0, none⟩) (some ⟨x2, 0, none⟩) P.S P.T P.S P.T (by rw [HNs.out.1]; exact prm_inv hpa.out) (by rw [HNs.out.2]; exact prm_inv hpb.out) _ X_d.out.in_ (RS.out.holds RS.out.lt) (RT.out.holds RT.out.lt)) ?_
            rintro e wu15 ⟨a9, ca9, b9, cb9, c9, cc9, rfl, hin, hb⟩
            have P_15 := Lib.hid (P_d.out.next hb)
            have L_15 := Lib.hid (L_d.out.next hb)
            have S_15 := Lib.hid (S_d.out.next hb)
            have T_15 := Lib.hid (T_d.out.next hb)
            have G1_15 := Lib.hid (G1_d.out.next hb)
            have U_15 := Lib.hid (U_d.out.next hb)
            have G2_15 := Lib.hid (G2_d.out.next hb)
            have V_15 := Lib.hid (V_d.out.next hb)
            have X_15 := Lib.hid (X_d.out.next hb)
            have G8_15 := Lib.hid (G8_d.out.next hb)
            clear P_d L_d S_d T_d G1_d U_d G2_d V_d X_d G8_d
            have Y_15 := Lib.hid (show DP (wu15.alloc (.cells #[.int .i64 O.S, .int .i64 O.T, .slice (some ⟨a9, 0, none⟩) O.n ca9, .slice (some ⟨b9, 0, none⟩) O.m cb9, .int .i64 O.T, .int .i64 O.S, .slice (some ⟨c9, 0, none⟩) (O.T * O.S) cc9] 30)) wu15.heap.size wu15.heap.size (O.dr a9 ca9 b9 cb9 c9 cc9) from DP.new _ hin)
            clear hb hin
            have ff := Y_15.out.box.all
            try dsimp only [PD.dr] at ff
            obtain ⟨f0_0, f0_1, f0_2, f0_3, f0_4, f0_5, f0_6, f0_7⟩ := ff
            have ff := (P_15.out.next ((Below.refl _ _).alloc (Nat.le_refl _) (.cells #[.int .i64 O.S, .int .i64 O.T, .slice (some ⟨a9, 0, none⟩) O.n ca9, .slice (some ⟨b9, 0, none⟩) O.m cb9, .int .i64 O.T, .int .i64 O.S, .slice (some ⟨c9, 0, none⟩) (O.T * O.S) cc9] 30))).box.all
            try dsimp only [PD.dr] at ff
            obtain ⟨f1_0, f1_1, f1_2, f1_3, f1_4, f1_5, f1_6, f1_7⟩ := ff
            go_wp2_with fail
            clear f0_0 f0_1 f0_2 f0_3 f0_4 f0_5 f0_6 f0_7 f1_0 f1_1 f1_2 f1_3 f1_4 f1_5 f1_6 f1_7
            have Pa_16 := Lib.hid (P_15.out.next ((Below.refl _ _).alloc (Nat.le_refl _) (.cells #[.int .i64 O.S, .int .i64 O.T, .slice (some ⟨a9, 0, none⟩) O.n ca9, .slice (some ⟨b9, 0, none⟩) O.m cb9, .int .i64 O.T, .int .i64 O.S, .slice (some ⟨c9, 0, none⟩) (O.T * O.S) cc9] 30)))
            clear P_15
            have La_16 := Lib.hid (L_15.out.next ((Below.refl _ _).alloc (Nat.le_refl _) (.cells #[.int .i64 O.S, .int .i64 O.T, .slice (some ⟨a9, 0, none⟩) O.n ca9, .slice (some ⟨b9, 0, none⟩) O.m cb9, .int .i64 O.T, .int .i64 O.S, .slice (some ⟨c9, 0, none⟩) (O.T * O.S) cc9] 30)))
            clear L_15
            have Sa_16 := Lib.hid (S_15.out.next ((Below.refl _ _).alloc (Nat.le_refl _) (.cells #[.int .i64 O.S, .int .i64 O.T, .slice (some ⟨a9, 0, none⟩) O.n ca9, .slice (some ⟨b9, 0, none⟩) O.m cb9, .int .i64 O.T, .int .i64 O.S, .slice (some ⟨c9, 0, none⟩) (O.T * O.S) cc9] 30)))
            clear S_15
            have Ta_16 := Lib.hid (T_15.out.next ((Below.refl _ _).alloc (Nat.le_refl _) (.cells #[.int .i64 O.S, .int .i64 O.T, .slice (some ⟨a9, 0, none⟩) O.n ca9, .slice (some ⟨b9, 0, none⟩) O.m cb9, .int .i64 O.T, .int .i64 O.S, .slice (some ⟨c9, 0, none⟩) (O.T * O.S) cc9] 30)))
            clear T_15
            have G1a_16 := Lib.hid (G1_15.out.next ((Below.refl _ _).alloc (Nat.le_refl _) (.cells #[.int .i64 O.S, .int .i64 O.T, .slice (some ⟨a9, 0, none⟩) O.n ca9, .slice (some ⟨b9, 0, none⟩) O.m cb9, .int .i64 O.T, .int .i64 O.S, .slice (some ⟨c9, 0, none⟩) (O.T * O.S) cc9] 30)))
            clear G1_15
            have Ua_16 := Lib.hid (U_15.out.next ((Below.refl _ _).alloc (Nat.le_refl _) (.cells #[.int .i64 O.S, .int .i64 O.T, .slice (some ⟨a9, 0, none⟩) O.n ca9, .slice (some ⟨b9, 0, none⟩) O.m cb9, .int .i64 O.T, .int .i64 O.S, .slice (some ⟨c9, 0, none⟩) (O.T * O.S) cc9] 30)))
            clear U_15
            have G2a_16 := Lib.hid (G2_15.out.next ((Below.refl _ _).alloc (Nat.le_refl _) (.cells #[.int .i64 O.S, .int .i64 O.T, .slice (some ⟨a9, 0, none⟩) O.n ca9, .slice (some ⟨b9, 0, none⟩) O.m cb9, .int .i64 O.T, .int .i64 O.S, .slice (some ⟨c9, 0, none⟩) (O.T * O.S) cc9] 30)))
            clear G2_15
            have Va_16 := Lib.hid (V_15.out.next ((Below.refl _ _).alloc (Nat.le_refl _) (.cells #[.int .i64 O.S, .int .i64 O.T, .slice (some ⟨a9, 0, none⟩) O.n ca9, .slice (some ⟨b9, 0, none⟩) O.m cb9, .int .i64 O.T, .int .i64 O.S, .slice (some ⟨c9, 0, none⟩) (O.T * O.S) cc9] 30)))
            clear V_15
            have Xa_16 := Lib.hid (X_15.out.next ((Below.refl _ _).alloc (Nat.le_refl _) (.cells #[.int .i64 O.S, .int .i64 O.T, .slice (some ⟨a9, 0, none⟩) O.n ca9, .slice (some ⟨b9, 0, none⟩) O.m cb9, .int .i64 O.T, .int .i64 O.S, .slice (some ⟨c9, 0, none⟩) (O.T * O.S) cc9] 30)))
            clear X_15
            have G8a_16 := Lib.hid (G8_15.out.next ((Below.refl _ _).alloc (Nat.le_refl _) (.cells #[.int .i64 O.S, .int .i64 O.T, .slice (some ⟨a9, 0, none⟩) O.n ca9, .slice (some ⟨b9, 0, none⟩) O.m cb9, .int .i64 O.T, .int .i64 O.S, .slice (some ⟨c9, 0, none⟩) (O.T * O.S) cc9] 30)))
            clear G8_15
            generalize wu15.alloc (.cells #[.int .i64 O.S, .int .i64 O.T, .slice (some ⟨a9, 0, none⟩) O.n ca9, .slice (some ⟨b9, 0, none⟩) O.m cb9, .int .i64 O.T, .int .i64 O.S, .slice (some ⟨c9, 0, none⟩) (O.T * O.S) cc9] 30) = wv15 at *
            with_reducible refine Calls.mono (rdsame_eqD HI.out HP.out HOO.out HOP.out _ _ _ _ _ _ _ Y_15.out.in_ Pa_16.out.in_) ?_
            rintro e wu16 ⟨rfl, hb⟩
            have P_16 := Lib.hid (Pa_16.out.next hb)
            have L_16 := Lib.hid (La_16.out.next hb)
            have S_16 := Lib.hid (Sa_16.out.next hb)
            have T_16 := Lib.hid (Ta_16.out.next hb)
            have G1_16 := Lib.hid (G1a_16.out.next hb)
            have U_16 := Lib.hid (Ua_16.out.next hb)
            have G2_16 := Lib.hid (G2a_16.out.next hb)
            have V_16 := Lib.hid (Va_16.out.next hb)
            have X_16 := Lib.hid (Xa_16.out.next hb)
            have G8_16 := Lib.hid (G8a_16.out.next hb)
            have Y_16 := Lib.hid (Y_15.out.next hb)
            clear Pa_16 La_16 Sa_16 Ta_16 G1a_16 Ua_16 G2a_16 Va_16 Xa_16 G8a_16 Y_15
            clear hb
            go_wp2_with fail
            with_reducible refine Calls.mono (alive_any _) ?_
            rintro e wu17 ⟨rfl, hb⟩
            have P_17 := Lib.hid (P_16.out.next hb)
            have L_17 := Lib.hid (L_16.out.next hb)
            have S_17 := Lib.hid (S_16.out.next hb)
            have T_17 := Lib.hid (T_16.out.next hb)
            have G1_17 := Lib.hid (G1_16.out.next hb)
            have U_17 := Lib.hid (U_16.out.next hb)
            have G2_17 := Lib.hid (G2_16.out.next hb)
            have V_17 := Lib.hid (V_16.out.next hb)
            have X_17 := Lib.hid (X_16.out.next hb)
            have G8_17 := Lib.hid (G8_16.out.next hb)
            have Y_17 := Lib.hid (Y_16.out.next hb)
            clear P_16 L_16 S_16 T_16 G1_16 U_16 G2_16 V_16 X_16 G8_16 Y_16
            clear hb
            go_wp2
            refine bodyPost_ret (v := .bool true) (by simp [results, Try.results9, go_sem]) rfl ⟨rfl, L_17.out.bel⟩

theorem dkept_any (D : Dr) (A1 A2 : Option Addr) (n1 n2 c1 c2 : Nat) (f1 f2 : Nat → Int) (w : World) (hd : D.In w w.heap.size) (h1 : L2.Holds w w.heap.size A1 n1 f1) (h2 : L2.Holds w w.heap.size A2 n2 f2) :
    Calls Try.prog 9 #[.agg #[.int .i64 D.S, .int .i64 D.T, .slice D.A D.n D.c, .slice D.B D.m D.d, .int .i64 D.W, .int .i64 D.H, .slice D.C D.k D.e], .slice A1 n1 c1, .slice A2 n2 c2] w fun e w' => e = .returned (.bool true) ∧ Below w.heap.size w w' := by
  rcases valid_case D w hd with ⟨P, hP, hI, hs, hv⟩ | hv
  · by_cases g1 : 70 < n1
    · exact kept_s D A1 A2 n1 n2 c1 c2 w hv g1
    by_cases g2 : 70 < n2
    · exact kept_t D A1 A2 n1 n2 c1 c2 w hv (by omega) g2
    cases ha : prm n1 f1 P.S with
    | false => exact kept_A D P hP hI hs A1 A2 n1 n2 c1 c2 f1 f2 w hd h1 h2 (by omega) (by omega) hv (Lib.hid ha)
    | true =>
      cases hb : prm n2 f2 P.T with
      | false => exact kept_B D P hP hI hs A1 A2 n1 n2 c1 c2 f1 f2 w hd h1 h2 (by omega) (by omega) hv (Lib.hid ha) (Lib.hid hb)
      | true =>
        obtain rfl := prm_len ha
        obtain rfl := prm_len hb
        exact kept_C D P hP hI hs A1 A2 c1 c2 f1 f2 w hd h1 h2 (by omega) (by omega) hv (Lib.hid ha) (Lib.hid hb)
  · exact kept_no D A1 A2 n1 n2 c1 c2 w hv
end Go.Proofs.Ytbafhdinalapoaa
