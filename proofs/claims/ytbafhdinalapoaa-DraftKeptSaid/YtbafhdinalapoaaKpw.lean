/- DraftKept: the lists that do not renumber. -/
import Derived.Test.YtbafhdinalapoaaKpm
import Derived.Test.YtbafhdinalapoaaAlv
import Derived.Test.YtbafhdinalapoaaLfw
import Derived.Test.YtbafhdinalapoaaRra
namespace Go.Proofs.Ytbafhdinalapoaa
open Go.RowKit
set_option linter.unusedVariables false
set_option linter.unusedSimpArgs false
set_option maxRecDepth 100000

/-- A list somewhere below B. -/
structure LX (v : World) (B : Nat) (A : Option Addr) (n : Nat) (f : Nat → Int) : Prop where
  cells : L2.Holds v B A n f
  le : B ≤ v.heap.size
theorem LX.next {v v' : World} {B : Nat} {A : Option Addr} {n : Nat} {f : Nat → Int} (h : LX v B A n f) (hb : Below v.heap.size v v') : LX v' B A n f :=
  ⟨h.cells.below (hb.mono h.le), Nat.le_trans h.le hb.size⟩
theorem LX.holds {v : World} {B : Nat} {A : Option Addr} {n : Nat} {f : Nat → Int} (h : LX v B A n f) : L2.Holds v v.heap.size A n f := h.cells.more h.le

set_option maxHeartbeats 800000 in
theorem kept_no (D : Dr) (A1 A2 : Option Addr) (n1 n2 c1 c2 : Nat) (w : World) (hv : ∀ v, Below w.heap.size w v → Calls Try.prog 37 #[.agg #[.int .i64 D.S, .int .i64 D.T, .slice D.A D.n D.c, .slice D.B D.m D.d, .int .i64 D.W, .int .i64 D.H, .slice D.C D.k D.e]] v fun e w' => e = .returned (.bool false) ∧ Below v.heap.size v w') :
    Calls Try.prog 9 #[.agg #[.int .i64 D.S, .int .i64 D.T, .slice D.A D.n D.c, .slice D.B D.m D.d, .int .i64 D.W, .int .i64 D.H, .slice D.C D.k D.e], .slice A1 n1 c1, .slice A2 n2 c2] w fun e w' => e = .returned (.bool true) ∧ Below w.heap.size w w' := by
  have HV := Lib.hid hv
  have L0 := Lib.hid (show Bl w (w.alloc (.cells #[.int .i64 D.S, .int .i64 D.T, .slice D.A D.n D.c, .slice D.B D.m D.d, .int .i64 D.W, .int .i64 D.H, .slice D.C D.k D.e] 30)) from ⟨(Below.refl _ _).alloc (Nat.le_refl _) _⟩)
  clear hv
  go_enter Try.func9, Try.ntmps9
  go_wp2_with fail
  refine (HV.out _ L0.out.bel).mono ?_
  rintro e w1 ⟨rfl, hb⟩
  have L1 := Lib.hid (L0.out.next hb)
  clear hb L0
  go_wp2_with fail
  refine (alive_any _).mono ?_
  rintro e w2 ⟨rfl, hb⟩
  have L2' := Lib.hid (L1.out.next hb)
  clear hb L1
  go_wp2
  refine bodyPost_ret (v := .bool true) (by simp [results, Try.results9, go_sem]) rfl ⟨rfl, L2'.out.bel⟩

set_option maxHeartbeats 800000 in
theorem kept_s (D : Dr) (A1 A2 : Option Addr) (n1 n2 c1 c2 : Nat) (w : World) (hv : ∀ v, Below w.heap.size w v → Calls Try.prog 37 #[.agg #[.int .i64 D.S, .int .i64 D.T, .slice D.A D.n D.c, .slice D.B D.m D.d, .int .i64 D.W, .int .i64 D.H, .slice D.C D.k D.e]] v fun e w' => e = .returned (.bool true) ∧ Below v.heap.size v w') (hn : 70 < n1) :
    Calls Try.prog 9 #[.agg #[.int .i64 D.S, .int .i64 D.T, .slice D.A D.n D.c, .slice D.B D.m D.d, .int .i64 D.W, .int .i64 D.H, .slice D.C D.k D.e], .slice A1 n1 c1, .slice A2 n2 c2] w fun e w' => e = .returned (.bool true) ∧ Below w.heap.size w w' := by
  have HV := Lib.hid hv
  have z1 : decide ((70 : Int) < (n1 : Int)) = true := by simp; omega
  have L0 := Lib.hid (show Bl w (w.alloc (.cells #[.int .i64 D.S, .int .i64 D.T, .slice D.A D.n D.c, .slice D.B D.m D.d, .int .i64 D.W, .int .i64 D.H, .slice D.C D.k D.e] 30)) from ⟨(Below.refl _ _).alloc (Nat.le_refl _) _⟩)
  clear hv
  go_enter Try.func9, Try.ntmps9
  go_wp2_with fail
  refine (HV.out _ L0.out.bel).mono ?_
  rintro e w1 ⟨rfl, hb⟩
  have L1 := Lib.hid (L0.out.next hb)
  clear hb L0
  go_wp2_with fail
  refine (alive_any _).mono ?_
  rintro e w2 ⟨rfl, hb⟩
  have L2' := Lib.hid (L1.out.next hb)
  clear hb L1
  go_wp2
  refine bodyPost_ret (v := .bool true) (by simp [results, Try.results9, go_sem]) rfl ⟨rfl, L2'.out.bel⟩

set_option maxHeartbeats 800000 in
theorem kept_t (D : Dr) (A1 A2 : Option Addr) (n1 n2 c1 c2 : Nat) (w : World) (hv : ∀ v, Below w.heap.size w v → Calls Try.prog 37 #[.agg #[.int .i64 D.S, .int .i64 D.T, .slice D.A D.n D.c, .slice D.B D.m D.d, .int .i64 D.W, .int .i64 D.H, .slice D.C D.k D.e]] v fun e w' => e = .returned (.bool true) ∧ Below v.heap.size v w') (hn1 : n1 ≤ 70) (hn : 70 < n2) :
    Calls Try.prog 9 #[.agg #[.int .i64 D.S, .int .i64 D.T, .slice D.A D.n D.c, .slice D.B D.m D.d, .int .i64 D.W, .int .i64 D.H, .slice D.C D.k D.e], .slice A1 n1 c1, .slice A2 n2 c2] w fun e w' => e = .returned (.bool true) ∧ Below w.heap.size w w' := by
  have HV := Lib.hid hv
  have z1 : decide ((70 : Int) < (n1 : Int)) = false := by simp; omega
  have z2 : decide ((70 : Int) < (n2 : Int)) = true := by simp; omega
  have L0 := Lib.hid (show Bl w (w.alloc (.cells #[.int .i64 D.S, .int .i64 D.T, .slice D.A D.n D.c, .slice D.B D.m D.d, .int .i64 D.W, .int .i64 D.H, .slice D.C D.k D.e] 30)) from ⟨(Below.refl _ _).alloc (Nat.le_refl _) _⟩)
  clear hv
  go_enter Try.func9, Try.ntmps9
  go_wp2_with fail
  refine (HV.out _ L0.out.bel).mono ?_
  rintro e w1 ⟨rfl, hb⟩
  have L1 := Lib.hid (L0.out.next hb)
  clear hb L0
  go_wp2_with fail
  refine (alive_any _).mono ?_
  rintro e w2 ⟨rfl, hb⟩
  have L2' := Lib.hid (L1.out.next hb)
  clear hb L1
  go_wp2
  refine bodyPost_ret (v := .bool true) (by simp [results, Try.results9, go_sem]) rfl ⟨rfl, L2'.out.bel⟩

set_option maxHeartbeats 2000000 in
theorem kept_A (D : Dr) (P : PD) (hP : P.Ok) (hI : D.Is P) (hs : D.Small) (A1 A2 : Option Addr) (n1 n2 c1 c2 : Nat) (f1 f2 : Nat → Int) (w : World) (hd : D.In w w.heap.size) (h1 : L2.Holds w w.heap.size A1 n1 f1) (h2 : L2.Holds w w.heap.size A2 n2 f2) (hn1 : n1 ≤ 70) (hn2 : n2 ≤ 70) (hv : ∀ v, Below w.heap.size w v → Calls Try.prog 37 #[.agg #[.int .i64 D.S, .int .i64 D.T, .slice D.A D.n D.c, .slice D.B D.m D.d, .int .i64 D.W, .int .i64 D.H, .slice D.C D.k D.e]] v fun e w' => e = .returned (.bool true) ∧ Below v.heap.size v w') (hpa : Hid (prm n1 f1 P.S = false)) :
    Calls Try.prog 9 #[.agg #[.int .i64 D.S, .int .i64 D.T, .slice D.A D.n D.c, .slice D.B D.m D.d, .int .i64 D.W, .int .i64 D.H, .slice D.C D.k D.e], .slice A1 n1 c1, .slice A2 n2 c2] w fun e w' => e = .returned (.bool true) ∧ Below w.heap.size w w' := by
  obtain ⟨hx, hz⟩ := dps1 w D hd
  have HV := Lib.hid hv
  have HP := Lib.hid hP
  have HI := Lib.hid hI
  have n0 := Lib.hid (And.intro hP.n0 (And.intro hP.n1 (And.intro hP.m0 hP.m1)))
  have z1 : decide ((70 : Int) < (n1 : Int)) = false := by simp; omega
  have z2 : decide ((70 : Int) < (n2 : Int)) = false := by simp; omega
  obtain ⟨Q, hQ⟩ : ∃ Q, P.prune = Q := ⟨_, rfl⟩
  obtain ⟨R, hR⟩ : ∃ R, Q.prune = R := ⟨_, rfl⟩
  have HQ := Lib.hid hQ
  have HR := Lib.hid hR
  have HQO := Lib.hid (show Q.Ok by rw [← hQ]; exact PD.prune_ok hP)
  have HQW := Lib.hid (show Q.Whole by rw [← hQ]; exact prune_whole hP)
  have HRO := Lib.hid (show R.Ok by rw [← hR]; exact PD.prune_ok HQO.out)
  have HQR := Lib.hid (show Q.Eqv R by rw [← hR]; exact (prune_same HQO.out HQW.out).symm)
  have HQn := Lib.hid (show Q.n = P.n ∧ Q.m = P.m ∧ ∀ i, i < P.n * P.m → Q.wv i = P.wv i by rw [← hQ]; exact ⟨rfl, rfl, fun i hi => prune_wv hP hi⟩)
  have P_0 := Lib.hid (hx)
  have L_0 := Lib.hid (hz)
  have S_0 := Lib.hid ((show LX _ w.heap.size A1 n1 f1 from ⟨h1, Nat.le_refl _⟩).next ((Below.refl _ _).alloc (Nat.le_refl _) (.cells #[.int .i64 D.S, .int .i64 D.T, .slice D.A D.n D.c, .slice D.B D.m D.d, .int .i64 D.W, .int .i64 D.H, .slice D.C D.k D.e] 30)))
  have T_0 := Lib.hid ((show LX _ w.heap.size A2 n2 f2 from ⟨h2, Nat.le_refl _⟩).next ((Below.refl _ _).alloc (Nat.le_refl _) (.cells #[.int .i64 D.S, .int .i64 D.T, .slice D.A D.n D.c, .slice D.B D.m D.d, .int .i64 D.W, .int .i64 D.H, .slice D.C D.k D.e] 30)))
  clear hx hz hd hv hP hI hs h1 h2 hQ hR
  go_enter Try.func9, Try.ntmps9
  go_wp2_with fail
  with_reducible refine Calls.mono (HV.out _ L_0.out.bel) ?_
  rintro e wu1 ⟨rfl, hb⟩
  have P_1 := Lib.hid (P_0.out.next hb)
  have L_1 := Lib.hid (L_0.out.next hb)
  have S_1 := Lib.hid (S_0.out.next hb)
  have T_1 := Lib.hid (T_0.out.next hb)
  clear P_0 L_0 S_0 T_0
  clear hb
  have ff := P_1.out.box.all
  try dsimp only [PD.dr] at ff
  obtain ⟨f0_0, f0_1, f0_2, f0_3, f0_4, f0_5, f0_6, f0_7⟩ := ff
  go_wp2_with fail
  clear f0_0 f0_1 f0_2 f0_3 f0_4 f0_5 f0_6 f0_7
  with_reducible refine Calls.mono (weaveD HI.out HP.out _ P_1.out.in_) ?_
  rintro e wu2 ⟨k1, rfl, hk, hrow, hb⟩
  have P_2 := Lib.hid (P_1.out.next hb)
  have L_2 := Lib.hid (L_1.out.next hb)
  have S_2 := Lib.hid (S_1.out.next hb)
  have T_2 := Lib.hid (T_1.out.next hb)
  clear P_1 L_1 S_1 T_1
  have G1_2 := Lib.hid (show GP (wu2.alloc (.cells #[.int .i64 P.n, .int .i64 P.m, .slice (some ⟨k1, 0, none⟩) (P.n * P.m) (P.n * P.m)] 24)) 0 wu2.heap.size k1 P.n P.m (some ⟨k1, 0, none⟩) (P.n * P.m) (P.n * P.m) P.wv from GP.new (fun _ => ⟨rfl, Nat.zero_le _, hrow⟩))
  clear hb hk hrow
  have ff := (P_2.out.next ((Below.refl _ _).alloc (Nat.le_refl _) (.cells #[.int .i64 P.n, .int .i64 P.m, .slice (some ⟨k1, 0, none⟩) (P.n * P.m) (P.n * P.m)] 24))).box.all
  try dsimp only [PD.dr] at ff
  obtain ⟨f0_0, f0_1, f0_2, f0_3, f0_4, f0_5, f0_6, f0_7⟩ := ff
  go_wp2_with fail
  clear f0_0 f0_1 f0_2 f0_3 f0_4 f0_5 f0_6 f0_7
  have Pa_3 := Lib.hid (P_2.out.next ((Below.refl _ _).alloc (Nat.le_refl _) (.cells #[.int .i64 P.n, .int .i64 P.m, .slice (some ⟨k1, 0, none⟩) (P.n * P.m) (P.n * P.m)] 24)))
  clear P_2
  have La_3 := Lib.hid (L_2.out.next ((Below.refl _ _).alloc (Nat.le_refl _) (.cells #[.int .i64 P.n, .int .i64 P.m, .slice (some ⟨k1, 0, none⟩) (P.n * P.m) (P.n * P.m)] 24)))
  clear L_2
  have Sa_3 := Lib.hid (S_2.out.next ((Below.refl _ _).alloc (Nat.le_refl _) (.cells #[.int .i64 P.n, .int .i64 P.m, .slice (some ⟨k1, 0, none⟩) (P.n * P.m) (P.n * P.m)] 24)))
  clear S_2
  have Ta_3 := Lib.hid (T_2.out.next ((Below.refl _ _).alloc (Nat.le_refl _) (.cells #[.int .i64 P.n, .int .i64 P.m, .slice (some ⟨k1, 0, none⟩) (P.n * P.m) (P.n * P.m)] 24)))
  clear T_2
  generalize wu2.alloc (.cells #[.int .i64 P.n, .int .i64 P.m, .slice (some ⟨k1, 0, none⟩) (P.n * P.m) (P.n * P.m)] 24) = wv2 at *
  with_reducible refine Calls.mono (prune1 HI.out HP.out HQ.out _ Pa_3.out.in_) ?_
  rintro e wu3 ⟨a3, ca3, b3, cb3, c3, cc3, rfl, hin, hb⟩
  have P_3 := Lib.hid (Pa_3.out.next hb)
  have L_3 := Lib.hid (La_3.out.next hb)
  have S_3 := Lib.hid (Sa_3.out.next hb)
  have T_3 := Lib.hid (Ta_3.out.next hb)
  have G1_3 := Lib.hid (G1_2.out.next hb)
  clear Pa_3 La_3 Sa_3 Ta_3 G1_2
  have U_3 := Lib.hid (show DP (wu3.alloc (.cells #[.int .i64 Q.S, .int .i64 Q.T, .slice (some ⟨a3, 0, none⟩) Q.n ca3, .slice (some ⟨b3, 0, none⟩) Q.m cb3, .int .i64 Q.T, .int .i64 Q.S, .slice (some ⟨c3, 0, none⟩) (Q.T * Q.S) cc3] 30)) wu3.heap.size wu3.heap.size (Q.dr a3 ca3 b3 cb3 c3 cc3) from DP.new _ hin)
  clear hb hin
  have ff := U_3.out.box.all
  try dsimp only [PD.dr] at ff
  obtain ⟨f0_0, f0_1, f0_2, f0_3, f0_4, f0_5, f0_6, f0_7⟩ := ff
  go_wp2_with fail
  clear f0_0 f0_1 f0_2 f0_3 f0_4 f0_5 f0_6 f0_7
  have Pa_4 := Lib.hid (P_3.out.next ((Below.refl _ _).alloc (Nat.le_refl _) (.cells #[.int .i64 Q.S, .int .i64 Q.T, .slice (some ⟨a3, 0, none⟩) Q.n ca3, .slice (some ⟨b3, 0, none⟩) Q.m cb3, .int .i64 Q.T, .int .i64 Q.S, .slice (some ⟨c3, 0, none⟩) (Q.T * Q.S) cc3] 30)))
  clear P_3
  have La_4 := Lib.hid (L_3.out.next ((Below.refl _ _).alloc (Nat.le_refl _) (.cells #[.int .i64 Q.S, .int .i64 Q.T, .slice (some ⟨a3, 0, none⟩) Q.n ca3, .slice (some ⟨b3, 0, none⟩) Q.m cb3, .int .i64 Q.T, .int .i64 Q.S, .slice (some ⟨c3, 0, none⟩) (Q.T * Q.S) cc3] 30)))
  clear L_3
  have Sa_4 := Lib.hid (S_3.out.next ((Below.refl _ _).alloc (Nat.le_refl _) (.cells #[.int .i64 Q.S, .int .i64 Q.T, .slice (some ⟨a3, 0, none⟩) Q.n ca3, .slice (some ⟨b3, 0, none⟩) Q.m cb3, .int .i64 Q.T, .int .i64 Q.S, .slice (some ⟨c3, 0, none⟩) (Q.T * Q.S) cc3] 30)))
  clear S_3
  have Ta_4 := Lib.hid (T_3.out.next ((Below.refl _ _).alloc (Nat.le_refl _) (.cells #[.int .i64 Q.S, .int .i64 Q.T, .slice (some ⟨a3, 0, none⟩) Q.n ca3, .slice (some ⟨b3, 0, none⟩) Q.m cb3, .int .i64 Q.T, .int .i64 Q.S, .slice (some ⟨c3, 0, none⟩) (Q.T * Q.S) cc3] 30)))
  clear T_3
  have G1a_4 := Lib.hid (G1_3.out.next ((Below.refl _ _).alloc (Nat.le_refl _) (.cells #[.int .i64 Q.S, .int .i64 Q.T, .slice (some ⟨a3, 0, none⟩) Q.n ca3, .slice (some ⟨b3, 0, none⟩) Q.m cb3, .int .i64 Q.T, .int .i64 Q.S, .slice (some ⟨c3, 0, none⟩) (Q.T * Q.S) cc3] 30)))
  clear G1_3
  generalize wu3.alloc (.cells #[.int .i64 Q.S, .int .i64 Q.T, .slice (some ⟨a3, 0, none⟩) Q.n ca3, .slice (some ⟨b3, 0, none⟩) Q.m cb3, .int .i64 Q.T, .int .i64 Q.S, .slice (some ⟨c3, 0, none⟩) (Q.T * Q.S) cc3] 30) = wv3 at *
  with_reducible refine Calls.mono (weaveQ HQO.out HQn.out.1 HQn.out.2.1 HQn.out.2.2 _ _ _ _ _ _ _ U_3.out.in_) ?_
  rintro e wu4 ⟨k2, rfl, hk, hrow, hb⟩
  have P_4 := Lib.hid (Pa_4.out.next hb)
  have L_4 := Lib.hid (La_4.out.next hb)
  have S_4 := Lib.hid (Sa_4.out.next hb)
  have T_4 := Lib.hid (Ta_4.out.next hb)
  have G1_4 := Lib.hid (G1a_4.out.next hb)
  have U_4 := Lib.hid (U_3.out.next hb)
  clear Pa_4 La_4 Sa_4 Ta_4 G1a_4 U_3
  have G2_4 := Lib.hid (show GP (wu4.alloc (.cells #[.int .i64 P.n, .int .i64 P.m, .slice (some ⟨k2, 0, none⟩) (P.n * P.m) (P.n * P.m)] 24)) 0 wu4.heap.size k2 P.n P.m (some ⟨k2, 0, none⟩) (P.n * P.m) (P.n * P.m) P.wv from GP.new (fun _ => ⟨rfl, Nat.zero_le _, hrow⟩))
  clear hb hk hrow
  have ff := (U_4.out.next ((Below.refl _ _).alloc (Nat.le_refl _) (.cells #[.int .i64 P.n, .int .i64 P.m, .slice (some ⟨k2, 0, none⟩) (P.n * P.m) (P.n * P.m)] 24))).box.all
  try dsimp only [PD.dr] at ff
  obtain ⟨f0_0, f0_1, f0_2, f0_3, f0_4, f0_5, f0_6, f0_7⟩ := ff
  go_wp2_with fail
  clear f0_0 f0_1 f0_2 f0_3 f0_4 f0_5 f0_6 f0_7
  have Pa_5 := Lib.hid (P_4.out.next ((Below.refl _ _).alloc (Nat.le_refl _) (.cells #[.int .i64 P.n, .int .i64 P.m, .slice (some ⟨k2, 0, none⟩) (P.n * P.m) (P.n * P.m)] 24)))
  clear P_4
  have La_5 := Lib.hid (L_4.out.next ((Below.refl _ _).alloc (Nat.le_refl _) (.cells #[.int .i64 P.n, .int .i64 P.m, .slice (some ⟨k2, 0, none⟩) (P.n * P.m) (P.n * P.m)] 24)))
  clear L_4
  have Sa_5 := Lib.hid (S_4.out.next ((Below.refl _ _).alloc (Nat.le_refl _) (.cells #[.int .i64 P.n, .int .i64 P.m, .slice (some ⟨k2, 0, none⟩) (P.n * P.m) (P.n * P.m)] 24)))
  clear S_4
  have Ta_5 := Lib.hid (T_4.out.next ((Below.refl _ _).alloc (Nat.le_refl _) (.cells #[.int .i64 P.n, .int .i64 P.m, .slice (some ⟨k2, 0, none⟩) (P.n * P.m) (P.n * P.m)] 24)))
  clear T_4
  have G1a_5 := Lib.hid (G1_4.out.next ((Below.refl _ _).alloc (Nat.le_refl _) (.cells #[.int .i64 P.n, .int .i64 P.m, .slice (some ⟨k2, 0, none⟩) (P.n * P.m) (P.n * P.m)] 24)))
  clear G1_4
  have Ua_5 := Lib.hid (U_4.out.next ((Below.refl _ _).alloc (Nat.le_refl _) (.cells #[.int .i64 P.n, .int .i64 P.m, .slice (some ⟨k2, 0, none⟩) (P.n * P.m) (P.n * P.m)] 24)))
  clear U_4
  generalize wu4.alloc (.cells #[.int .i64 P.n, .int .i64 P.m, .slice (some ⟨k2, 0, none⟩) (P.n * P.m) (P.n * P.m)] 24) = wv4 at *
  with_reducible refine Calls.mono (prune2 HQO.out HR.out _ _ _ _ _ _ _ Ua_5.out.in_) ?_
  rintro e wu5 ⟨a4, ca4, b4, cb4, c4, cc4, rfl, hin, hb⟩
  have P_5 := Lib.hid (Pa_5.out.next hb)
  have L_5 := Lib.hid (La_5.out.next hb)
  have S_5 := Lib.hid (Sa_5.out.next hb)
  have T_5 := Lib.hid (Ta_5.out.next hb)
  have G1_5 := Lib.hid (G1a_5.out.next hb)
  have U_5 := Lib.hid (Ua_5.out.next hb)
  have G2_5 := Lib.hid (G2_4.out.next hb)
  clear Pa_5 La_5 Sa_5 Ta_5 G1a_5 Ua_5 G2_4
  have V_5 := Lib.hid (show DP (wu5.alloc (.cells #[.int .i64 R.S, .int .i64 R.T, .slice (some ⟨a4, 0, none⟩) R.n ca4, .slice (some ⟨b4, 0, none⟩) R.m cb4, .int .i64 R.T, .int .i64 R.S, .slice (some ⟨c4, 0, none⟩) (R.T * R.S) cc4] 30)) wu5.heap.size wu5.heap.size (R.dr a4 ca4 b4 cb4 c4 cc4) from DP.new _ hin)
  clear hb hin
  have ff := (G1_5.out.next ((Below.refl _ _).alloc (Nat.le_refl _) (.cells #[.int .i64 R.S, .int .i64 R.T, .slice (some ⟨a4, 0, none⟩) R.n ca4, .slice (some ⟨b4, 0, none⟩) R.m cb4, .int .i64 R.T, .int .i64 R.S, .slice (some ⟨c4, 0, none⟩) (R.T * R.S) cc4] 30))).box.all
  obtain ⟨f0_0, f0_1, f0_2, f0_3, f0_4, f0_5, f0_6⟩ := ff
  have ff := (G2_5.out.next ((Below.refl _ _).alloc (Nat.le_refl _) (.cells #[.int .i64 R.S, .int .i64 R.T, .slice (some ⟨a4, 0, none⟩) R.n ca4, .slice (some ⟨b4, 0, none⟩) R.m cb4, .int .i64 R.T, .int .i64 R.S, .slice (some ⟨c4, 0, none⟩) (R.T * R.S) cc4] 30))).box.all
  obtain ⟨f1_0, f1_1, f1_2, f1_3, f1_4, f1_5, f1_6⟩ := ff
  go_wp2_with fail
  clear f0_0 f0_1 f0_2 f0_3 f0_4 f0_5 f0_6 f1_0 f1_1 f1_2 f1_3 f1_4 f1_5 f1_6
  have Pa_6 := Lib.hid (P_5.out.next ((Below.refl _ _).alloc (Nat.le_refl _) (.cells #[.int .i64 R.S, .int .i64 R.T, .slice (some ⟨a4, 0, none⟩) R.n ca4, .slice (some ⟨b4, 0, none⟩) R.m cb4, .int .i64 R.T, .int .i64 R.S, .slice (some ⟨c4, 0, none⟩) (R.T * R.S) cc4] 30)))
  clear P_5
  have La_6 := Lib.hid (L_5.out.next ((Below.refl _ _).alloc (Nat.le_refl _) (.cells #[.int .i64 R.S, .int .i64 R.T, .slice (some ⟨a4, 0, none⟩) R.n ca4, .slice (some ⟨b4, 0, none⟩) R.m cb4, .int .i64 R.T, .int .i64 R.S, .slice (some ⟨c4, 0, none⟩) (R.T * R.S) cc4] 30)))
  clear L_5
  have Sa_6 := Lib.hid (S_5.out.next ((Below.refl _ _).alloc (Nat.le_refl _) (.cells #[.int .i64 R.S, .int .i64 R.T, .slice (some ⟨a4, 0, none⟩) R.n ca4, .slice (some ⟨b4, 0, none⟩) R.m cb4, .int .i64 R.T, .int .i64 R.S, .slice (some ⟨c4, 0, none⟩) (R.T * R.S) cc4] 30)))
  clear S_5
  have Ta_6 := Lib.hid (T_5.out.next ((Below.refl _ _).alloc (Nat.le_refl _) (.cells #[.int .i64 R.S, .int .i64 R.T, .slice (some ⟨a4, 0, none⟩) R.n ca4, .slice (some ⟨b4, 0, none⟩) R.m cb4, .int .i64 R.T, .int .i64 R.S, .slice (some ⟨c4, 0, none⟩) (R.T * R.S) cc4] 30)))
  clear T_5
  have G1a_6 := Lib.hid (G1_5.out.next ((Below.refl _ _).alloc (Nat.le_refl _) (.cells #[.int .i64 R.S, .int .i64 R.T, .slice (some ⟨a4, 0, none⟩) R.n ca4, .slice (some ⟨b4, 0, none⟩) R.m cb4, .int .i64 R.T, .int .i64 R.S, .slice (some ⟨c4, 0, none⟩) (R.T * R.S) cc4] 30)))
  clear G1_5
  have Ua_6 := Lib.hid (U_5.out.next ((Below.refl _ _).alloc (Nat.le_refl _) (.cells #[.int .i64 R.S, .int .i64 R.T, .slice (some ⟨a4, 0, none⟩) R.n ca4, .slice (some ⟨b4, 0, none⟩) R.m cb4, .int .i64 R.T, .int .i64 R.S, .slice (some ⟨c4, 0, none⟩) (R.T * R.S) cc4] 30)))
  clear U_5
  have G2a_6 := Lib.hid (G2_5.out.next ((Below.refl _ _).alloc (Nat.le_refl _) (.cells #[.int .i64 R.S, .int .i64 R.T, .slice (some ⟨a4, 0, none⟩) R.n ca4, .slice (some ⟨b4, 0, none⟩) R.m cb4, .int .i64 R.T, .int .i64 R.S, .slice (some ⟨c4, 0, none⟩) (R.T * R.S) cc4] 30)))
  clear G2_5
  generalize wu5.alloc (.cells #[.int .i64 R.S, .int .i64 R.T, .slice (some ⟨a4, 0, none⟩) R.n ca4, .slice (some ⟨b4, 0, none⟩) R.m cb4, .int .i64 R.T, .int .i64 R.S, .slice (some ⟨c4, 0, none⟩) (R.T * R.S) cc4] 30) = wv5 at *
  with_reducible refine Calls.mono (rgsm_eq' _ _ _ _ _ _ _ _ _ (by have h1 := n0.out; have h2 := Nat.mul_le_mul h1.2.1 h1.2.2.2; omega) G1a_6.out.holds G2a_6.out.holds) ?_
  rintro e wu6 ⟨rfl, hb⟩
  have P_6 := Lib.hid (Pa_6.out.next hb)
  have L_6 := Lib.hid (La_6.out.next hb)
  have S_6 := Lib.hid (Sa_6.out.next hb)
  have T_6 := Lib.hid (Ta_6.out.next hb)
  have G1_6 := Lib.hid (G1a_6.out.next hb)
  have U_6 := Lib.hid (Ua_6.out.next hb)
  have G2_6 := Lib.hid (G2a_6.out.next hb)
  have V_6 := Lib.hid (V_5.out.next hb)
  clear Pa_6 La_6 Sa_6 Ta_6 G1a_6 Ua_6 G2a_6 V_5
  clear hb
  have ff := U_6.out.box.all
  try dsimp only [PD.dr] at ff
  obtain ⟨f0_0, f0_1, f0_2, f0_3, f0_4, f0_5, f0_6, f0_7⟩ := ff
  have ff := V_6.out.box.all
  try dsimp only [PD.dr] at ff
  obtain ⟨f1_0, f1_1, f1_2, f1_3, f1_4, f1_5, f1_6, f1_7⟩ := ff
  go_wp2_with fail
  clear f0_0 f0_1 f0_2 f0_3 f0_4 f0_5 f0_6 f0_7 f1_0 f1_1 f1_2 f1_3 f1_4 f1_5 f1_6 f1_7
  with_reducible refine Calls.mono (rdsame_eqv HQO.out HRO.out HQR.out _ _ _ _ _ _ _ _ _ _ _ _ _ U_6.out.in_ V_6.out.in_) ?_
  rintro e wu7 ⟨rfl, hb⟩
  have P_7 := Lib.hid (P_6.out.next hb)
  have L_7 := Lib.hid (L_6.out.next hb)
  have S_7 := Lib.hid (S_6.out.next hb)
  have T_7 := Lib.hid (T_6.out.next hb)
  have G1_7 := Lib.hid (G1_6.out.next hb)
  have U_7 := Lib.hid (U_6.out.next hb)
  have G2_7 := Lib.hid (G2_6.out.next hb)
  have V_7 := Lib.hid (V_6.out.next hb)
  clear P_6 L_6 S_6 T_6 G1_6 U_6 G2_6 V_6
  clear hb
  have ff := U_7.out.box.all
  try dsimp only [PD.dr] at ff
  obtain ⟨f0_0, f0_1, f0_2, f0_3, f0_4, f0_5, f0_6, f0_7⟩ := ff
  go_wp2_with fail
  clear f0_0 f0_1 f0_2 f0_3 f0_4 f0_5 f0_6 f0_7
  with_reducible refine Calls.mono (numbT HQO.out HQW.out _ _ _ _ _ _ _ U_7.out.in_) ?_
  rintro e wu8 ⟨A5, d5, rfl, hb⟩
  have P_8 := Lib.hid (P_7.out.next hb)
  have L_8 := Lib.hid (L_7.out.next hb)
  have S_8 := Lib.hid (S_7.out.next hb)
  have T_8 := Lib.hid (T_7.out.next hb)
  have G1_8 := Lib.hid (G1_7.out.next hb)
  have U_8 := Lib.hid (U_7.out.next hb)
  have G2_8 := Lib.hid (G2_7.out.next hb)
  have V_8 := Lib.hid (V_7.out.next hb)
  clear P_7 L_7 S_7 T_7 G1_7 U_7 G2_7 V_7
  clear hb
  have ff := U_8.out.box.all
  try dsimp only [PD.dr] at ff
  obtain ⟨f0_0, f0_1, f0_2, f0_3, f0_4, f0_5, f0_6, f0_7⟩ := ff
  go_wp2_with fail
  clear f0_0 f0_1 f0_2 f0_3 f0_4 f0_5 f0_6 f0_7
  with_reducible refine Calls.mono (numbR HQO.out HQW.out _ _ _ _ _ _ _ U_8.out.in_) ?_
  rintro e wu9 ⟨A6, d6, rfl, hb⟩
  have P_9 := Lib.hid (P_8.out.next hb)
  have L_9 := Lib.hid (L_8.out.next hb)
  have S_9 := Lib.hid (S_8.out.next hb)
  have T_9 := Lib.hid (T_8.out.next hb)
  have G1_9 := Lib.hid (G1_8.out.next hb)
  have U_9 := Lib.hid (U_8.out.next hb)
  have G2_9 := Lib.hid (G2_8.out.next hb)
  have V_9 := Lib.hid (V_8.out.next hb)
  clear P_8 L_8 S_8 T_8 G1_8 U_8 G2_8 V_8
  clear hb
  have ff := U_9.out.box.all
  try dsimp only [PD.dr] at ff
  obtain ⟨f0_0, f0_1, f0_2, f0_3, f0_4, f0_5, f0_6, f0_7⟩ := ff
  have ff := P_9.out.box.all
  try dsimp only [PD.dr] at ff
  obtain ⟨f1_0, f1_1, f1_2, f1_3, f1_4, f1_5, f1_6, f1_7⟩ := ff
  have zq1 : ((Q.S : Int) != (Q.S : Int)) = false := by simp
  have zq2 : ((Q.T : Int) != (Q.T : Int)) = false := by simp
  go_wp2_with fail
  clear f0_0 f0_1 f0_2 f0_3 f0_4 f0_5 f0_6 f0_7 f1_0 f1_1 f1_2 f1_3 f1_4 f1_5 f1_6 f1_7
  with_reducible refine Calls.mono (renumber_s HI.out HP.out A1 A2 n1 n2 c1 c2 f1 f2 hpa.out _ P_9.out.in_ S_9.out.holds T_9.out.holds) ?_
  rintro e wu10 ⟨rfl, hb⟩
  have P_10 := Lib.hid (P_9.out.next hb)
  have L_10 := Lib.hid (L_9.out.next hb)
  have S_10 := Lib.hid (S_9.out.next hb)
  have T_10 := Lib.hid (T_9.out.next hb)
  have G1_10 := Lib.hid (G1_9.out.next hb)
  have U_10 := Lib.hid (U_9.out.next hb)
  have G2_10 := Lib.hid (G2_9.out.next hb)
  have V_10 := Lib.hid (V_9.out.next hb)
  clear P_9 L_9 S_9 T_9 G1_9 U_9 G2_9 V_9
  clear hb
  have ff := (P_10.out.next ((Below.refl _ _).alloc (Nat.le_refl _) (.cells #[.int .i64 0, .int .i64 0, .slice none 0 0, .slice none 0 0, .int .i64 0, .int .i64 0, .slice none 0 0] 30))).box.all
  try dsimp only [PD.dr] at ff
  obtain ⟨f0_0, f0_1, f0_2, f0_3, f0_4, f0_5, f0_6, f0_7⟩ := ff
  rw [HI.out.S] at f0_0
  rw [HI.out.T] at f0_1
  go_wp2_with fail
  clear f0_0 f0_1 f0_2 f0_3 f0_4 f0_5 f0_6 f0_7
  have Pa_11 := Lib.hid (P_10.out.next ((Below.refl _ _).alloc (Nat.le_refl _) (.cells #[.int .i64 0, .int .i64 0, .slice none 0 0, .slice none 0 0, .int .i64 0, .int .i64 0, .slice none 0 0] 30)))
  clear P_10
  have La_11 := Lib.hid (L_10.out.next ((Below.refl _ _).alloc (Nat.le_refl _) (.cells #[.int .i64 0, .int .i64 0, .slice none 0 0, .slice none 0 0, .int .i64 0, .int .i64 0, .slice none 0 0] 30)))
  clear L_10
  have Sa_11 := Lib.hid (S_10.out.next ((Below.refl _ _).alloc (Nat.le_refl _) (.cells #[.int .i64 0, .int .i64 0, .slice none 0 0, .slice none 0 0, .int .i64 0, .int .i64 0, .slice none 0 0] 30)))
  clear S_10
  have Ta_11 := Lib.hid (T_10.out.next ((Below.refl _ _).alloc (Nat.le_refl _) (.cells #[.int .i64 0, .int .i64 0, .slice none 0 0, .slice none 0 0, .int .i64 0, .int .i64 0, .slice none 0 0] 30)))
  clear T_10
  have G1a_11 := Lib.hid (G1_10.out.next ((Below.refl _ _).alloc (Nat.le_refl _) (.cells #[.int .i64 0, .int .i64 0, .slice none 0 0, .slice none 0 0, .int .i64 0, .int .i64 0, .slice none 0 0] 30)))
  clear G1_10
  have Ua_11 := Lib.hid (U_10.out.next ((Below.refl _ _).alloc (Nat.le_refl _) (.cells #[.int .i64 0, .int .i64 0, .slice none 0 0, .slice none 0 0, .int .i64 0, .int .i64 0, .slice none 0 0] 30)))
  clear U_10
  have G2a_11 := Lib.hid (G2_10.out.next ((Below.refl _ _).alloc (Nat.le_refl _) (.cells #[.int .i64 0, .int .i64 0, .slice none 0 0, .slice none 0 0, .int .i64 0, .int .i64 0, .slice none 0 0] 30)))
  clear G2_10
  have Va_11 := Lib.hid (V_10.out.next ((Below.refl _ _).alloc (Nat.le_refl _) (.cells #[.int .i64 0, .int .i64 0, .slice none 0 0, .slice none 0 0, .int .i64 0, .int .i64 0, .slice none 0 0] 30)))
  clear V_10
  generalize wu10.alloc (.cells #[.int .i64 0, .int .i64 0, .slice none 0 0, .slice none 0 0, .int .i64 0, .int .i64 0, .slice none 0 0] 30) = wv10 at *
  with_reducible refine Calls.mono (each_is hpa.out Sa_11.out.holds (by omega) (by have := HP.out.s1; omega)) ?_
  rintro e wu11 ⟨rfl, hb⟩
  have P_11 := Lib.hid (Pa_11.out.next hb)
  have L_11 := Lib.hid (La_11.out.next hb)
  have S_11 := Lib.hid (Sa_11.out.next hb)
  have T_11 := Lib.hid (Ta_11.out.next hb)
  have G1_11 := Lib.hid (G1a_11.out.next hb)
  have U_11 := Lib.hid (Ua_11.out.next hb)
  have G2_11 := Lib.hid (G2a_11.out.next hb)
  have V_11 := Lib.hid (Va_11.out.next hb)
  clear Pa_11 La_11 Sa_11 Ta_11 G1a_11 Ua_11 G2a_11 Va_11
  clear hb
  go_wp2_with fail
  with_reducible refine Calls.mono (alive_any _) ?_
  rintro e wu12 ⟨rfl, hb⟩
  have P_12 := Lib.hid (P_11.out.next hb)
  have L_12 := Lib.hid (L_11.out.next hb)
  have S_12 := Lib.hid (S_11.out.next hb)
  have T_12 := Lib.hid (T_11.out.next hb)
  have G1_12 := Lib.hid (G1_11.out.next hb)
  have U_12 := Lib.hid (U_11.out.next hb)
  have G2_12 := Lib.hid (G2_11.out.next hb)
  have V_12 := Lib.hid (V_11.out.next hb)
  clear P_11 L_11 S_11 T_11 G1_11 U_11 G2_11 V_11
  clear hb
  go_wp2
  refine bodyPost_ret (v := .bool true) (by simp [results, Try.results9, go_sem]) rfl ⟨rfl, L_12.out.bel⟩


set_option maxHeartbeats 2000000 in
theorem kept_B (D : Dr) (P : PD) (hP : P.Ok) (hI : D.Is P) (hs : D.Small) (A1 A2 : Option Addr) (n1 n2 c1 c2 : Nat) (f1 f2 : Nat → Int) (w : World) (hd : D.In w w.heap.size) (h1 : L2.Holds w w.heap.size A1 n1 f1) (h2 : L2.Holds w w.heap.size A2 n2 f2) (hn1 : n1 ≤ 70) (hn2 : n2 ≤ 70) (hv : ∀ v, Below w.heap.size w v → Calls Try.prog 37 #[.agg #[.int .i64 D.S, .int .i64 D.T, .slice D.A D.n D.c, .slice D.B D.m D.d, .int .i64 D.W, .int .i64 D.H, .slice D.C D.k D.e]] v fun e w' => e = .returned (.bool true) ∧ Below v.heap.size v w') (hpa : Hid (prm n1 f1 P.S = true)) (hpb : Hid (prm n2 f2 P.T = false)) :
    Calls Try.prog 9 #[.agg #[.int .i64 D.S, .int .i64 D.T, .slice D.A D.n D.c, .slice D.B D.m D.d, .int .i64 D.W, .int .i64 D.H, .slice D.C D.k D.e], .slice A1 n1 c1, .slice A2 n2 c2] w fun e w' => e = .returned (.bool true) ∧ Below w.heap.size w w' := by
  obtain ⟨hx, hz⟩ := dps1 w D hd
  have HV := Lib.hid hv
  have HP := Lib.hid hP
  have HI := Lib.hid hI
  have n0 := Lib.hid (And.intro hP.n0 (And.intro hP.n1 (And.intro hP.m0 hP.m1)))
  have z1 : decide ((70 : Int) < (n1 : Int)) = false := by simp; omega
  have z2 : decide ((70 : Int) < (n2 : Int)) = false := by simp; omega
  obtain ⟨Q, hQ⟩ : ∃ Q, P.prune = Q := ⟨_, rfl⟩
  obtain ⟨R, hR⟩ : ∃ R, Q.prune = R := ⟨_, rfl⟩
  have HQ := Lib.hid hQ
  have HR := Lib.hid hR
  have HQO := Lib.hid (show Q.Ok by rw [← hQ]; exact PD.prune_ok hP)
  have HQW := Lib.hid (show Q.Whole by rw [← hQ]; exact prune_whole hP)
  have HRO := Lib.hid (show R.Ok by rw [← hR]; exact PD.prune_ok HQO.out)
  have HQR := Lib.hid (show Q.Eqv R by rw [← hR]; exact (prune_same HQO.out HQW.out).symm)
  have HQn := Lib.hid (show Q.n = P.n ∧ Q.m = P.m ∧ ∀ i, i < P.n * P.m → Q.wv i = P.wv i by rw [← hQ]; exact ⟨rfl, rfl, fun i hi => prune_wv hP hi⟩)
  have P_0 := Lib.hid (hx)
  have L_0 := Lib.hid (hz)
  have S_0 := Lib.hid ((show LX _ w.heap.size A1 n1 f1 from ⟨h1, Nat.le_refl _⟩).next ((Below.refl _ _).alloc (Nat.le_refl _) (.cells #[.int .i64 D.S, .int .i64 D.T, .slice D.A D.n D.c, .slice D.B D.m D.d, .int .i64 D.W, .int .i64 D.H, .slice D.C D.k D.e] 30)))
  have T_0 := Lib.hid ((show LX _ w.heap.size A2 n2 f2 from ⟨h2, Nat.le_refl _⟩).next ((Below.refl _ _).alloc (Nat.le_refl _) (.cells #[.int .i64 D.S, .int .i64 D.T, .slice D.A D.n D.c, .slice D.B D.m D.d, .int .i64 D.W, .int .i64 D.H, .slice D.C D.k D.e] 30)))
  clear hx hz hd hv hP hI hs h1 h2 hQ hR
  go_enter Try.func9, Try.ntmps9
  go_wp2_with fail
  with_reducible refine Calls.mono (HV.out _ L_0.out.bel) ?_
  rintro e wu1 ⟨rfl, hb⟩
  have P_1 := Lib.hid (P_0.out.next hb)
  have L_1 := Lib.hid (L_0.out.next hb)
  have S_1 := Lib.hid (S_0.out.next hb)
  have T_1 := Lib.hid (T_0.out.next hb)
  clear P_0 L_0 S_0 T_0
  clear hb
  have ff := P_1.out.box.all
  try dsimp only [PD.dr] at ff
  obtain ⟨f0_0, f0_1, f0_2, f0_3, f0_4, f0_5, f0_6, f0_7⟩ := ff
  go_wp2_with fail
  clear f0_0 f0_1 f0_2 f0_3 f0_4 f0_5 f0_6 f0_7
  with_reducible refine Calls.mono (weaveD HI.out HP.out _ P_1.out.in_) ?_
  rintro e wu2 ⟨k1, rfl, hk, hrow, hb⟩
  have P_2 := Lib.hid (P_1.out.next hb)
  have L_2 := Lib.hid (L_1.out.next hb)
  have S_2 := Lib.hid (S_1.out.next hb)
  have T_2 := Lib.hid (T_1.out.next hb)
  clear P_1 L_1 S_1 T_1
  have G1_2 := Lib.hid (show GP (wu2.alloc (.cells #[.int .i64 P.n, .int .i64 P.m, .slice (some ⟨k1, 0, none⟩) (P.n * P.m) (P.n * P.m)] 24)) 0 wu2.heap.size k1 P.n P.m (some ⟨k1, 0, none⟩) (P.n * P.m) (P.n * P.m) P.wv from GP.new (fun _ => ⟨rfl, Nat.zero_le _, hrow⟩))
  clear hb hk hrow
  have ff := (P_2.out.next ((Below.refl _ _).alloc (Nat.le_refl _) (.cells #[.int .i64 P.n, .int .i64 P.m, .slice (some ⟨k1, 0, none⟩) (P.n * P.m) (P.n * P.m)] 24))).box.all
  try dsimp only [PD.dr] at ff
  obtain ⟨f0_0, f0_1, f0_2, f0_3, f0_4, f0_5, f0_6, f0_7⟩ := ff
  go_wp2_with fail
  clear f0_0 f0_1 f0_2 f0_3 f0_4 f0_5 f0_6 f0_7
  have Pa_3 := Lib.hid (P_2.out.next ((Below.refl _ _).alloc (Nat.le_refl _) (.cells #[.int .i64 P.n, .int .i64 P.m, .slice (some ⟨k1, 0, none⟩) (P.n * P.m) (P.n * P.m)] 24)))
  clear P_2
  have La_3 := Lib.hid (L_2.out.next ((Below.refl _ _).alloc (Nat.le_refl _) (.cells #[.int .i64 P.n, .int .i64 P.m, .slice (some ⟨k1, 0, none⟩) (P.n * P.m) (P.n * P.m)] 24)))
  clear L_2
  have Sa_3 := Lib.hid (S_2.out.next ((Below.refl _ _).alloc (Nat.le_refl _) (.cells #[.int .i64 P.n, .int .i64 P.m, .slice (some ⟨k1, 0, none⟩) (P.n * P.m) (P.n * P.m)] 24)))
  clear S_2
  have Ta_3 := Lib.hid (T_2.out.next ((Below.refl _ _).alloc (Nat.le_refl _) (.cells #[.int .i64 P.n, .int .i64 P.m, .slice (some ⟨k1, 0, none⟩) (P.n * P.m) (P.n * P.m)] 24)))
  clear T_2
  generalize wu2.alloc (.cells #[.int .i64 P.n, .int .i64 P.m, .slice (some ⟨k1, 0, none⟩) (P.n * P.m) (P.n * P.m)] 24) = wv2 at *
  with_reducible refine Calls.mono (prune1 HI.out HP.out HQ.out _ Pa_3.out.in_) ?_
  rintro e wu3 ⟨a3, ca3, b3, cb3, c3, cc3, rfl, hin, hb⟩
  have P_3 := Lib.hid (Pa_3.out.next hb)
  have L_3 := Lib.hid (La_3.out.next hb)
  have S_3 := Lib.hid (Sa_3.out.next hb)
  have T_3 := Lib.hid (Ta_3.out.next hb)
  have G1_3 := Lib.hid (G1_2.out.next hb)
  clear Pa_3 La_3 Sa_3 Ta_3 G1_2
  have U_3 := Lib.hid (show DP (wu3.alloc (.cells #[.int .i64 Q.S, .int .i64 Q.T, .slice (some ⟨a3, 0, none⟩) Q.n ca3, .slice (some ⟨b3, 0, none⟩) Q.m cb3, .int .i64 Q.T, .int .i64 Q.S, .slice (some ⟨c3, 0, none⟩) (Q.T * Q.S) cc3] 30)) wu3.heap.size wu3.heap.size (Q.dr a3 ca3 b3 cb3 c3 cc3) from DP.new _ hin)
  clear hb hin
  have ff := U_3.out.box.all
  try dsimp only [PD.dr] at ff
  obtain ⟨f0_0, f0_1, f0_2, f0_3, f0_4, f0_5, f0_6, f0_7⟩ := ff
  go_wp2_with fail
  clear f0_0 f0_1 f0_2 f0_3 f0_4 f0_5 f0_6 f0_7
  have Pa_4 := Lib.hid (P_3.out.next ((Below.refl _ _).alloc (Nat.le_refl _) (.cells #[.int .i64 Q.S, .int .i64 Q.T, .slice (some ⟨a3, 0, none⟩) Q.n ca3, .slice (some ⟨b3, 0, none⟩) Q.m cb3, .int .i64 Q.T, .int .i64 Q.S, .slice (some ⟨c3, 0, none⟩) (Q.T * Q.S) cc3] 30)))
  clear P_3
  have La_4 := Lib.hid (L_3.out.next ((Below.refl _ _).alloc (Nat.le_refl _) (.cells #[.int .i64 Q.S, .int .i64 Q.T, .slice (some ⟨a3, 0, none⟩) Q.n ca3, .slice (some ⟨b3, 0, none⟩) Q.m cb3, .int .i64 Q.T, .int .i64 Q.S, .slice (some ⟨c3, 0, none⟩) (Q.T * Q.S) cc3] 30)))
  clear L_3
  have Sa_4 := Lib.hid (S_3.out.next ((Below.refl _ _).alloc (Nat.le_refl _) (.cells #[.int .i64 Q.S, .int .i64 Q.T, .slice (some ⟨a3, 0, none⟩) Q.n ca3, .slice (some ⟨b3, 0, none⟩) Q.m cb3, .int .i64 Q.T, .int .i64 Q.S, .slice (some ⟨c3, 0, none⟩) (Q.T * Q.S) cc3] 30)))
  clear S_3
  have Ta_4 := Lib.hid (T_3.out.next ((Below.refl _ _).alloc (Nat.le_refl _) (.cells #[.int .i64 Q.S, .int .i64 Q.T, .slice (some ⟨a3, 0, none⟩) Q.n ca3, .slice (some ⟨b3, 0, none⟩) Q.m cb3, .int .i64 Q.T, .int .i64 Q.S, .slice (some ⟨c3, 0, none⟩) (Q.T * Q.S) cc3] 30)))
  clear T_3
  have G1a_4 := Lib.hid (G1_3.out.next ((Below.refl _ _).alloc (Nat.le_refl _) (.cells #[.int .i64 Q.S, .int .i64 Q.T, .slice (some ⟨a3, 0, none⟩) Q.n ca3, .slice (some ⟨b3, 0, none⟩) Q.m cb3, .int .i64 Q.T, .int .i64 Q.S, .slice (some ⟨c3, 0, none⟩) (Q.T * Q.S) cc3] 30)))
  clear G1_3
  generalize wu3.alloc (.cells #[.int .i64 Q.S, .int .i64 Q.T, .slice (some ⟨a3, 0, none⟩) Q.n ca3, .slice (some ⟨b3, 0, none⟩) Q.m cb3, .int .i64 Q.T, .int .i64 Q.S, .slice (some ⟨c3, 0, none⟩) (Q.T * Q.S) cc3] 30) = wv3 at *
  with_reducible refine Calls.mono (weaveQ HQO.out HQn.out.1 HQn.out.2.1 HQn.out.2.2 _ _ _ _ _ _ _ U_3.out.in_) ?_
  rintro e wu4 ⟨k2, rfl, hk, hrow, hb⟩
  have P_4 := Lib.hid (Pa_4.out.next hb)
  have L_4 := Lib.hid (La_4.out.next hb)
  have S_4 := Lib.hid (Sa_4.out.next hb)
  have T_4 := Lib.hid (Ta_4.out.next hb)
  have G1_4 := Lib.hid (G1a_4.out.next hb)
  have U_4 := Lib.hid (U_3.out.next hb)
  clear Pa_4 La_4 Sa_4 Ta_4 G1a_4 U_3
  have G2_4 := Lib.hid (show GP (wu4.alloc (.cells #[.int .i64 P.n, .int .i64 P.m, .slice (some ⟨k2, 0, none⟩) (P.n * P.m) (P.n * P.m)] 24)) 0 wu4.heap.size k2 P.n P.m (some ⟨k2, 0, none⟩) (P.n * P.m) (P.n * P.m) P.wv from GP.new (fun _ => ⟨rfl, Nat.zero_le _, hrow⟩))
  clear hb hk hrow
  have ff := (U_4.out.next ((Below.refl _ _).alloc (Nat.le_refl _) (.cells #[.int .i64 P.n, .int .i64 P.m, .slice (some ⟨k2, 0, none⟩) (P.n * P.m) (P.n * P.m)] 24))).box.all
  try dsimp only [PD.dr] at ff
  obtain ⟨f0_0, f0_1, f0_2, f0_3, f0_4, f0_5, f0_6, f0_7⟩ := ff
  go_wp2_with fail
  clear f0_0 f0_1 f0_2 f0_3 f0_4 f0_5 f0_6 f0_7
  have Pa_5 := Lib.hid (P_4.out.next ((Below.refl _ _).alloc (Nat.le_refl _) (.cells #[.int .i64 P.n, .int .i64 P.m, .slice (some ⟨k2, 0, none⟩) (P.n * P.m) (P.n * P.m)] 24)))
  clear P_4
  have La_5 := Lib.hid (L_4.out.next ((Below.refl _ _).alloc (Nat.le_refl _) (.cells #[.int .i64 P.n, .int .i64 P.m, .slice (some ⟨k2, 0, none⟩) (P.n * P.m) (P.n * P.m)] 24)))
  clear L_4
  have Sa_5 := Lib.hid (S_4.out.next ((Below.refl _ _).alloc (Nat.le_refl _) (.cells #[.int .i64 P.n, .int .i64 P.m, .slice (some ⟨k2, 0, none⟩) (P.n * P.m) (P.n * P.m)] 24)))
  clear S_4
  have Ta_5 := Lib.hid (T_4.out.next ((Below.refl _ _).alloc (Nat.le_refl _) (.cells #[.int .i64 P.n, .int .i64 P.m, .slice (some ⟨k2, 0, none⟩) (P.n * P.m) (P.n * P.m)] 24)))
  clear T_4
  have G1a_5 := Lib.hid (G1_4.out.next ((Below.refl _ _).alloc (Nat.le_refl _) (.cells #[.int .i64 P.n, .int .i64 P.m, .slice (some ⟨k2, 0, none⟩) (P.n * P.m) (P.n * P.m)] 24)))
  clear G1_4
  have Ua_5 := Lib.hid (U_4.out.next ((Below.refl _ _).alloc (Nat.le_refl _) (.cells #[.int .i64 P.n, .int .i64 P.m, .slice (some ⟨k2, 0, none⟩) (P.n * P.m) (P.n * P.m)] 24)))
  clear U_4
  generalize wu4.alloc (.cells #[.int .i64 P.n, .int .i64 P.m, .slice (some ⟨k2, 0, none⟩) (P.n * P.m) (P.n * P.m)] 24) = wv4 at *
  with_reducible refine Calls.mono (prune2 HQO.out HR.out _ _ _ _ _ _ _ Ua_5.out.in_) ?_
  rintro e wu5 ⟨a4, ca4, b4, cb4, c4, cc4, rfl, hin, hb⟩
  have P_5 := Lib.hid (Pa_5.out.next hb)
  have L_5 := Lib.hid (La_5.out.next hb)
  have S_5 := Lib.hid (Sa_5.out.next hb)
  have T_5 := Lib.hid (Ta_5.out.next hb)
  have G1_5 := Lib.hid (G1a_5.out.next hb)
  have U_5 := Lib.hid (Ua_5.out.next hb)
  have G2_5 := Lib.hid (G2_4.out.next hb)
  clear Pa_5 La_5 Sa_5 Ta_5 G1a_5 Ua_5 G2_4
  have V_5 := Lib.hid (show DP (wu5.alloc (.cells #[.int .i64 R.S, .int .i64 R.T, .slice (some ⟨a4, 0, none⟩) R.n ca4, .slice (some ⟨b4, 0, none⟩) R.m cb4, .int .i64 R.T, .int .i64 R.S, .slice (some ⟨c4, 0, none⟩) (R.T * R.S) cc4] 30)) wu5.heap.size wu5.heap.size (R.dr a4 ca4 b4 cb4 c4 cc4) from DP.new _ hin)
  clear hb hin
  have ff := (G1_5.out.next ((Below.refl _ _).alloc (Nat.le_refl _) (.cells #[.int .i64 R.S, .int .i64 R.T, .slice (some ⟨a4, 0, none⟩) R.n ca4, .slice (some ⟨b4, 0, none⟩) R.m cb4, .int .i64 R.T, .int .i64 R.S, .slice (some ⟨c4, 0, none⟩) (R.T * R.S) cc4] 30))).box.all
  obtain ⟨f0_0, f0_1, f0_2, f0_3, f0_4, f0_5, f0_6⟩ := ff
  have ff := (G2_5.out.next ((Below.refl _ _).alloc (Nat.le_refl _) (.cells #[.int .i64 R.S, .int .i64 R.T, .slice (some ⟨a4, 0, none⟩) R.n ca4, .slice (some ⟨b4, 0, none⟩) R.m cb4, .int .i64 R.T, .int .i64 R.S, .slice (some ⟨c4, 0, none⟩) (R.T * R.S) cc4] 30))).box.all
  obtain ⟨f1_0, f1_1, f1_2, f1_3, f1_4, f1_5, f1_6⟩ := ff
  go_wp2_with fail
  clear f0_0 f0_1 f0_2 f0_3 f0_4 f0_5 f0_6 f1_0 f1_1 f1_2 f1_3 f1_4 f1_5 f1_6
  have Pa_6 := Lib.hid (P_5.out.next ((Below.refl _ _).alloc (Nat.le_refl _) (.cells #[.int .i64 R.S, .int .i64 R.T, .slice (some ⟨a4, 0, none⟩) R.n ca4, .slice (some ⟨b4, 0, none⟩) R.m cb4, .int .i64 R.T, .int .i64 R.S, .slice (some ⟨c4, 0, none⟩) (R.T * R.S) cc4] 30)))
  clear P_5
  have La_6 := Lib.hid (L_5.out.next ((Below.refl _ _).alloc (Nat.le_refl _) (.cells #[.int .i64 R.S, .int .i64 R.T, .slice (some ⟨a4, 0, none⟩) R.n ca4, .slice (some ⟨b4, 0, none⟩) R.m cb4, .int .i64 R.T, .int .i64 R.S, .slice (some ⟨c4, 0, none⟩) (R.T * R.S) cc4] 30)))
  clear L_5
  have Sa_6 := Lib.hid (S_5.out.next ((Below.refl _ _).alloc (Nat.le_refl _) (.cells #[.int .i64 R.S, .int .i64 R.T, .slice (some ⟨a4, 0, none⟩) R.n ca4, .slice (some ⟨b4, 0, none⟩) R.m cb4, .int .i64 R.T, .int .i64 R.S, .slice (some ⟨c4, 0, none⟩) (R.T * R.S) cc4] 30)))
  clear S_5
  have Ta_6 := Lib.hid (T_5.out.next ((Below.refl _ _).alloc (Nat.le_refl _) (.cells #[.int .i64 R.S, .int .i64 R.T, .slice (some ⟨a4, 0, none⟩) R.n ca4, .slice (some ⟨b4, 0, none⟩) R.m cb4, .int .i64 R.T, .int .i64 R.S, .slice (some ⟨c4, 0, none⟩) (R.T * R.S) cc4] 30)))
  clear T_5
  have G1a_6 := Lib.hid (G1_5.out.next ((Below.refl _ _).alloc (Nat.le_refl _) (.cells #[.int .i64 R.S, .int .i64 R.T, .slice (some ⟨a4, 0, none⟩) R.n ca4, .slice (some ⟨b4, 0, none⟩) R.m cb4, .int .i64 R.T, .int .i64 R.S, .slice (some ⟨c4, 0, none⟩) (R.T * R.S) cc4] 30)))
  clear G1_5
  have Ua_6 := Lib.hid (U_5.out.next ((Below.refl _ _).alloc (Nat.le_refl _) (.cells #[.int .i64 R.S, .int .i64 R.T, .slice (some ⟨a4, 0, none⟩) R.n ca4, .slice (some ⟨b4, 0, none⟩) R.m cb4, .int .i64 R.T, .int .i64 R.S, .slice (some ⟨c4, 0, none⟩) (R.T * R.S) cc4] 30)))
  clear U_5
  have G2a_6 := Lib.hid (G2_5.out.next ((Below.refl _ _).alloc (Nat.le_refl _) (.cells #[.int .i64 R.S, .int .i64 R.T, .slice (some ⟨a4, 0, none⟩) R.n ca4, .slice (some ⟨b4, 0, none⟩) R.m cb4, .int .i64 R.T, .int .i64 R.S, .slice (some ⟨c4, 0, none⟩) (R.T * R.S) cc4] 30)))
  clear G2_5
  generalize wu5.alloc (.cells #[.int .i64 R.S, .int .i64 R.T, .slice (some ⟨a4, 0, none⟩) R.n ca4, .slice (some ⟨b4, 0, none⟩) R.m cb4, .int .i64 R.T, .int .i64 R.S, .slice (some ⟨c4, 0, none⟩) (R.T * R.S) cc4] 30) = wv5 at *
  with_reducible refine Calls.mono (rgsm_eq' _ _ _ _ _ _ _ _ _ (by have h1 := n0.out; have h2 := Nat.mul_le_mul h1.2.1 h1.2.2.2; omega) G1a_6.out.holds G2a_6.out.holds) ?_
  rintro e wu6 ⟨rfl, hb⟩
  have P_6 := Lib.hid (Pa_6.out.next hb)
  have L_6 := Lib.hid (La_6.out.next hb)
  have S_6 := Lib.hid (Sa_6.out.next hb)
  have T_6 := Lib.hid (Ta_6.out.next hb)
  have G1_6 := Lib.hid (G1a_6.out.next hb)
  have U_6 := Lib.hid (Ua_6.out.next hb)
  have G2_6 := Lib.hid (G2a_6.out.next hb)
  have V_6 := Lib.hid (V_5.out.next hb)
  clear Pa_6 La_6 Sa_6 Ta_6 G1a_6 Ua_6 G2a_6 V_5
  clear hb
  have ff := U_6.out.box.all
  try dsimp only [PD.dr] at ff
  obtain ⟨f0_0, f0_1, f0_2, f0_3, f0_4, f0_5, f0_6, f0_7⟩ := ff
  have ff := V_6.out.box.all
  try dsimp only [PD.dr] at ff
  obtain ⟨f1_0, f1_1, f1_2, f1_3, f1_4, f1_5, f1_6, f1_7⟩ := ff
  go_wp2_with fail
  clear f0_0 f0_1 f0_2 f0_3 f0_4 f0_5 f0_6 f0_7 f1_0 f1_1 f1_2 f1_3 f1_4 f1_5 f1_6 f1_7
  with_reducible refine Calls.mono (rdsame_eqv HQO.out HRO.out HQR.out _ _ _ _ _ _ _ _ _ _ _ _ _ U_6.out.in_ V_6.out.in_) ?_
  rintro e wu7 ⟨rfl, hb⟩
  have P_7 := Lib.hid (P_6.out.next hb)
  have L_7 := Lib.hid (L_6.out.next hb)
  have S_7 := Lib.hid (S_6.out.next hb)
  have T_7 := Lib.hid (T_6.out.next hb)
  have G1_7 := Lib.hid (G1_6.out.next hb)
  have U_7 := Lib.hid (U_6.out.next hb)
  have G2_7 := Lib.hid (G2_6.out.next hb)
  have V_7 := Lib.hid (V_6.out.next hb)
  clear P_6 L_6 S_6 T_6 G1_6 U_6 G2_6 V_6
  clear hb
  have ff := U_7.out.box.all
  try dsimp only [PD.dr] at ff
  obtain ⟨f0_0, f0_1, f0_2, f0_3, f0_4, f0_5, f0_6, f0_7⟩ := ff
  go_wp2_with fail
  clear f0_0 f0_1 f0_2 f0_3 f0_4 f0_5 f0_6 f0_7
  with_reducible refine Calls.mono (numbT HQO.out HQW.out _ _ _ _ _ _ _ U_7.out.in_) ?_
  rintro e wu8 ⟨A5, d5, rfl, hb⟩
  have P_8 := Lib.hid (P_7.out.next hb)
  have L_8 := Lib.hid (L_7.out.next hb)
  have S_8 := Lib.hid (S_7.out.next hb)
  have T_8 := Lib.hid (T_7.out.next hb)
  have G1_8 := Lib.hid (G1_7.out.next hb)
  have U_8 := Lib.hid (U_7.out.next hb)
  have G2_8 := Lib.hid (G2_7.out.next hb)
  have V_8 := Lib.hid (V_7.out.next hb)
  clear P_7 L_7 S_7 T_7 G1_7 U_7 G2_7 V_7
  clear hb
  have ff := U_8.out.box.all
  try dsimp only [PD.dr] at ff
  obtain ⟨f0_0, f0_1, f0_2, f0_3, f0_4, f0_5, f0_6, f0_7⟩ := ff
  go_wp2_with fail
  clear f0_0 f0_1 f0_2 f0_3 f0_4 f0_5 f0_6 f0_7
  with_reducible refine Calls.mono (numbR HQO.out HQW.out _ _ _ _ _ _ _ U_8.out.in_) ?_
  rintro e wu9 ⟨A6, d6, rfl, hb⟩
  have P_9 := Lib.hid (P_8.out.next hb)
  have L_9 := Lib.hid (L_8.out.next hb)
  have S_9 := Lib.hid (S_8.out.next hb)
  have T_9 := Lib.hid (T_8.out.next hb)
  have G1_9 := Lib.hid (G1_8.out.next hb)
  have U_9 := Lib.hid (U_8.out.next hb)
  have G2_9 := Lib.hid (G2_8.out.next hb)
  have V_9 := Lib.hid (V_8.out.next hb)
  clear P_8 L_8 S_8 T_8 G1_8 U_8 G2_8 V_8
  clear hb
  have ff := U_9.out.box.all
  try dsimp only [PD.dr] at ff
  obtain ⟨f0_0, f0_1, f0_2, f0_3, f0_4, f0_5, f0_6, f0_7⟩ := ff
  have ff := P_9.out.box.all
  try dsimp only [PD.dr] at ff
  obtain ⟨f1_0, f1_1, f1_2, f1_3, f1_4, f1_5, f1_6, f1_7⟩ := ff
  have zq1 : ((Q.S : Int) != (Q.S : Int)) = false := by simp
  have zq2 : ((Q.T : Int) != (Q.T : Int)) = false := by simp
  go_wp2_with fail
  clear f0_0 f0_1 f0_2 f0_3 f0_4 f0_5 f0_6 f0_7 f1_0 f1_1 f1_2 f1_3 f1_4 f1_5 f1_6 f1_7
  with_reducible refine Calls.mono (renumber_t HI.out HP.out A1 A2 n1 n2 c1 c2 f1 f2 hpa.out hpb.out _ P_9.out.in_ S_9.out.holds T_9.out.holds) ?_
  rintro e wu10 ⟨rfl, hb⟩
  have P_10 := Lib.hid (P_9.out.next hb)
  have L_10 := Lib.hid (L_9.out.next hb)
  have S_10 := Lib.hid (S_9.out.next hb)
  have T_10 := Lib.hid (T_9.out.next hb)
  have G1_10 := Lib.hid (G1_9.out.next hb)
  have U_10 := Lib.hid (U_9.out.next hb)
  have G2_10 := Lib.hid (G2_9.out.next hb)
  have V_10 := Lib.hid (V_9.out.next hb)
  clear P_9 L_9 S_9 T_9 G1_9 U_9 G2_9 V_9
  clear hb
  have ff := (P_10.out.next ((Below.refl _ _).alloc (Nat.le_refl _) (.cells #[.int .i64 0, .int .i64 0, .slice none 0 0, .slice none 0 0, .int .i64 0, .int .i64 0, .slice none 0 0] 30))).box.all
  try dsimp only [PD.dr] at ff
  obtain ⟨f0_0, f0_1, f0_2, f0_3, f0_4, f0_5, f0_6, f0_7⟩ := ff
  rw [HI.out.S] at f0_0
  rw [HI.out.T] at f0_1
  go_wp2_with fail
  clear f0_0 f0_1 f0_2 f0_3 f0_4 f0_5 f0_6 f0_7
  have Pa_11 := Lib.hid (P_10.out.next ((Below.refl _ _).alloc (Nat.le_refl _) (.cells #[.int .i64 0, .int .i64 0, .slice none 0 0, .slice none 0 0, .int .i64 0, .int .i64 0, .slice none 0 0] 30)))
  clear P_10
  have La_11 := Lib.hid (L_10.out.next ((Below.refl _ _).alloc (Nat.le_refl _) (.cells #[.int .i64 0, .int .i64 0, .slice none 0 0, .slice none 0 0, .int .i64 0, .int .i64 0, .slice none 0 0] 30)))
  clear L_10
  have Sa_11 := Lib.hid (S_10.out.next ((Below.refl _ _).alloc (Nat.le_refl _) (.cells #[.int .i64 0, .int .i64 0, .slice none 0 0, .slice none 0 0, .int .i64 0, .int .i64 0, .slice none 0 0] 30)))
  clear S_10
  have Ta_11 := Lib.hid (T_10.out.next ((Below.refl _ _).alloc (Nat.le_refl _) (.cells #[.int .i64 0, .int .i64 0, .slice none 0 0, .slice none 0 0, .int .i64 0, .int .i64 0, .slice none 0 0] 30)))
  clear T_10
  have G1a_11 := Lib.hid (G1_10.out.next ((Below.refl _ _).alloc (Nat.le_refl _) (.cells #[.int .i64 0, .int .i64 0, .slice none 0 0, .slice none 0 0, .int .i64 0, .int .i64 0, .slice none 0 0] 30)))
  clear G1_10
  have Ua_11 := Lib.hid (U_10.out.next ((Below.refl _ _).alloc (Nat.le_refl _) (.cells #[.int .i64 0, .int .i64 0, .slice none 0 0, .slice none 0 0, .int .i64 0, .int .i64 0, .slice none 0 0] 30)))
  clear U_10
  have G2a_11 := Lib.hid (G2_10.out.next ((Below.refl _ _).alloc (Nat.le_refl _) (.cells #[.int .i64 0, .int .i64 0, .slice none 0 0, .slice none 0 0, .int .i64 0, .int .i64 0, .slice none 0 0] 30)))
  clear G2_10
  have Va_11 := Lib.hid (V_10.out.next ((Below.refl _ _).alloc (Nat.le_refl _) (.cells #[.int .i64 0, .int .i64 0, .slice none 0 0, .slice none 0 0, .int .i64 0, .int .i64 0, .slice none 0 0] 30)))
  clear V_10
  generalize wu10.alloc (.cells #[.int .i64 0, .int .i64 0, .slice none 0 0, .slice none 0 0, .int .i64 0, .int .i64 0, .slice none 0 0] 30) = wv10 at *
  with_reducible refine Calls.mono (each_is hpa.out Sa_11.out.holds (by omega) (by have := HP.out.s1; omega)) ?_
  rintro e wu11 ⟨rfl, hb⟩
  have P_11 := Lib.hid (Pa_11.out.next hb)
  have L_11 := Lib.hid (La_11.out.next hb)
  have S_11 := Lib.hid (Sa_11.out.next hb)
  have T_11 := Lib.hid (Ta_11.out.next hb)
  have G1_11 := Lib.hid (G1a_11.out.next hb)
  have U_11 := Lib.hid (Ua_11.out.next hb)
  have G2_11 := Lib.hid (G2a_11.out.next hb)
  have V_11 := Lib.hid (Va_11.out.next hb)
  clear Pa_11 La_11 Sa_11 Ta_11 G1a_11 Ua_11 G2a_11 Va_11
  clear hb
  have ff := P_11.out.box.all
  try dsimp only [PD.dr] at ff
  obtain ⟨f0_0, f0_1, f0_2, f0_3, f0_4, f0_5, f0_6, f0_7⟩ := ff
  rw [HI.out.S] at f0_0
  rw [HI.out.T] at f0_1
  go_wp2_with fail
  clear f0_0 f0_1 f0_2 f0_3 f0_4 f0_5 f0_6 f0_7
  with_reducible refine Calls.mono (each_is hpb.out T_11.out.holds (by omega) (by have := HP.out.t1; omega)) ?_
  rintro e wu12 ⟨rfl, hb⟩
  have P_12 := Lib.hid (P_11.out.next hb)
  have L_12 := Lib.hid (L_11.out.next hb)
  have S_12 := Lib.hid (S_11.out.next hb)
  have T_12 := Lib.hid (T_11.out.next hb)
  have G1_12 := Lib.hid (G1_11.out.next hb)
  have U_12 := Lib.hid (U_11.out.next hb)
  have G2_12 := Lib.hid (G2_11.out.next hb)
  have V_12 := Lib.hid (V_11.out.next hb)
  clear P_11 L_11 S_11 T_11 G1_11 U_11 G2_11 V_11
  clear hb
  go_wp2_with fail
  with_reducible refine Calls.mono (alive_any _) ?_
  rintro e wu13 ⟨rfl, hb⟩
  have P_13 := Lib.hid (P_12.out.next hb)
  have L_13 := Lib.hid (L_12.out.next hb)
  have S_13 := Lib.hid (S_12.out.next hb)
  have T_13 := Lib.hid (T_12.out.next hb)
  have G1_13 := Lib.hid (G1_12.out.next hb)
  have U_13 := Lib.hid (U_12.out.next hb)
  have G2_13 := Lib.hid (G2_12.out.next hb)
  have V_13 := Lib.hid (V_12.out.next hb)
  clear P_12 L_12 S_12 T_12 G1_12 U_12 G2_12 V_12
  clear hb
  go_wp2
  refine bodyPost_ret (v := .bool true) (by simp [results, Try.results9, go_sem]) rfl ⟨rfl, L_13.out.bel⟩
end Go.Proofs.Ytbafhdinalapoaa
