/- The statement DraftTurned. -/
import Derived.Test.YtbafhdinalapoaaAlv
import Derived.Test.YtbafhdinalapoaaDtn
namespace Go.Proofs.Ytbafhdinalapoaa
open Go.RowKit
set_option linter.unusedVariables false
set_option linter.unusedSimpArgs false
set_option maxRecDepth 100000

theorem turn1 {D : Dr} {P : PD} (hI : D.Is P) (hP : P.Ok) (w : World) (hd : D.In w w.heap.size) :
    Calls Try.prog 18 #[.agg #[.int .i64 D.S, .int .i64 D.T, .slice D.A D.n D.c, .slice D.B D.m D.d, .int .i64 D.W, .int .i64 D.H, .slice D.C D.k D.e]] w fun e w' => ∃ a ca b cb c cc, e = .returned (.tuple #[.agg #[.int .i64 P.T, .int .i64 P.S, .slice (some ⟨a, 0, none⟩) P.m ca, .slice (some ⟨b, 0, none⟩) P.n cb, .int .i64 P.S, .int .i64 P.T, .slice (some ⟨c, 0, none⟩) (P.S * P.T) cc], .int .i64 0]) ∧ (P.turn.dr a ca b cb c cc).In w' w'.heap.size ∧ Below w.heap.size w w' :=
  (dturn_ok hI hP w hd).mono fun e w' ⟨a, ca, b, cb, c, cc, he, hr, hb⟩ => ⟨a, ca, b, cb, c, cc, he, hr.dr ca cb cc, hb⟩
theorem turn2 {P : PD} (hP : P.Ok) (a ca b cb c cc : Nat) (w : World) (hd : (P.turn.dr a ca b cb c cc).In w w.heap.size) :
    Calls Try.prog 18 #[.agg #[.int .i64 P.T, .int .i64 P.S, .slice (some ⟨a, 0, none⟩) P.m ca, .slice (some ⟨b, 0, none⟩) P.n cb, .int .i64 P.S, .int .i64 P.T, .slice (some ⟨c, 0, none⟩) (P.S * P.T) cc]] w fun e w' => ∃ a ca b cb c cc, e = .returned (.tuple #[.agg #[.int .i64 P.S, .int .i64 P.T, .slice (some ⟨a, 0, none⟩) P.n ca, .slice (some ⟨b, 0, none⟩) P.m cb, .int .i64 P.T, .int .i64 P.S, .slice (some ⟨c, 0, none⟩) (P.T * P.S) cc], .int .i64 0]) ∧ (P.dr a ca b cb c cc).In w' w'.heap.size ∧ Below w.heap.size w w' :=
  (dturn_ok (P.turn.dr_is a ca b cb c cc) hP.turn w hd).mono fun e w' ⟨a, ca, b, cb, c, cc, he, hr, hb⟩ => ⟨a, ca, b, cb, c, cc, he, hr.dr ca cb cc, hb⟩
theorem weave2 {P : PD} (hP : P.Ok) (a ca b cb c cc : Nat) (w : World) (hd : (P.turn.dr a ca b cb c cc).In w w.heap.size) :
    Calls Try.prog 14 #[.agg #[.int .i64 P.T, .int .i64 P.S, .slice (some ⟨a, 0, none⟩) P.m ca, .slice (some ⟨b, 0, none⟩) P.n cb, .int .i64 P.S, .int .i64 P.T, .slice (some ⟨c, 0, none⟩) (P.S * P.T) cc]] w (OkGrid w P.m P.n fun i => P.L (P.G (i % P.m)) (P.F (i / P.m))) :=
  weave_ok (P.turn.dr_is a ca b cb c cc) hP.turn w hd
theorem rdsame_back {D : Dr} {P : PD} (hI : D.Is P) (hP : P.Ok) (a ca b cb c cc : Nat) (w : World) (h1 : (P.dr a ca b cb c cc).In w w.heap.size) (h2 : D.In w w.heap.size) :
    Calls Try.prog 30 #[.agg #[.int .i64 P.S, .int .i64 P.T, .slice (some ⟨a, 0, none⟩) P.n ca, .slice (some ⟨b, 0, none⟩) P.m cb, .int .i64 P.T, .int .i64 P.S, .slice (some ⟨c, 0, none⟩) (P.T * P.S) cc], .agg #[.int .i64 D.S, .int .i64 D.T, .slice D.A D.n D.c, .slice D.B D.m D.d, .int .i64 D.W, .int .i64 D.H, .slice D.C D.k D.e]] w fun e w' => e = .returned (.bool true) ∧ Below w.heap.size w w' := by
  have h := rdsame_any (P.dr a ca b cb c cc) D w ((P.dr_is a ca b cb c cc).small hP) h1 h2
  have e : dsm (P.dr a ca b cb c cc) D = true := (dsm_is (P.dr_is a ca b cb c cc) hI hP).2 (PD.Eqv.refl P)
  rw [e] at h
  exact h
theorem rgsm_eq (W H : Int) (A D : Option Addr) (n c d : Nat) (f g : Nat → Bool) (w : World) (hn : n ≤ 5000) (hr : Holds w w.heap.size A n f) (hs : Holds w w.heap.size D n g) (e : ∀ i, i < n → f i = g i) :
    Calls Try.prog 31 #[.agg #[.int .i64 W, .int .i64 H, .slice A n c], .agg #[.int .i64 W, .int .i64 H, .slice D n d]] w fun e w' => e = .returned (.bool true) ∧ Below w.heap.size w w' := by
  have h := rgsm_any W H W H A D n n c d f g w hn hr hs
  have e : gsm W H n f W H n g = true := by unfold gsm; simp only [decide_eq_true_eq]; exact ⟨trivial, trivial, trivial, e⟩
  rw [e] at h
  exact h

set_option maxHeartbeats 800000 in
theorem turned_no (D : Dr) (w : World) (hv : ∀ v, Below w.heap.size w v → Calls Try.prog 37 #[.agg #[.int .i64 D.S, .int .i64 D.T, .slice D.A D.n D.c, .slice D.B D.m D.d, .int .i64 D.W, .int .i64 D.H, .slice D.C D.k D.e]] v fun e w' => e = .returned (.bool false) ∧ Below v.heap.size v w') :
    Calls Try.prog 8 #[.agg #[.int .i64 D.S, .int .i64 D.T, .slice D.A D.n D.c, .slice D.B D.m D.d, .int .i64 D.W, .int .i64 D.H, .slice D.C D.k D.e]] w fun e w' => e = .returned (.bool true) ∧ Below w.heap.size w w' := by
  have HV := Lib.hid hv
  have L0 := Lib.hid (show Bl w (w.alloc (.cells #[.int .i64 D.S, .int .i64 D.T, .slice D.A D.n D.c, .slice D.B D.m D.d, .int .i64 D.W, .int .i64 D.H, .slice D.C D.k D.e] 30)) from ⟨(Below.refl _ _).alloc (Nat.le_refl _) _⟩)
  clear hv
  go_enter Try.func8, Try.ntmps8
  go_wp2_with fail
  refine (HV.out _ L0.out.bel).mono ?_
  rintro e w1 ⟨rfl, hb⟩
  have L1 := Lib.hid (L0.out.next hb)
  clear hb L0
  go_wp2_with fail
  refine (alive_any _).mono ?_
  rintro e w2 ⟨rfl, hb⟩
  have L2' := Lib.hid (L1.out.next hb)
  clear hb L1
  go_wp2
  refine bodyPost_ret (v := .bool true) (by simp [results, Try.results8, go_sem]) rfl ⟨rfl, L2'.out.bel⟩

theorem turned_cells (P : PD) (h : 1 ≤ P.n) (i : Nat) (hi : i < P.m * P.n) : P.L (P.G (i % P.m)) (P.F (i / P.m)) = (fun i => P.L (P.G (i / P.n)) (P.F (i % P.n))) (i % P.m * P.n + i / P.m) := by
  have h1 : i / P.m < P.n := Nat.div_lt_of_lt_mul hi
  have h2 : (i % P.m * P.n + i / P.m) % P.n = i / P.m := by rw [Nat.mul_comm, Nat.mul_add_mod, Nat.mod_eq_of_lt h1]
  have h3 : (i % P.m * P.n + i / P.m) / P.n = i % P.m := by rw [Nat.mul_comm, Nat.mul_add_div (by omega), Nat.div_eq_of_lt h1]; omega
  show _ = P.L (P.G ((i % P.m * P.n + i / P.m) / P.n)) (P.F ((i % P.m * P.n + i / P.m) % P.n))
  rw [h2, h3]

set_option maxHeartbeats 4000000 in
theorem turned_main (D : Dr) (P : PD) (hP : P.Ok) (hI : D.Is P) (hs : D.Small) (w : World) (hd : D.In w w.heap.size) (hv : ∀ v, Below w.heap.size w v → Calls Try.prog 37 #[.agg #[.int .i64 D.S, .int .i64 D.T, .slice D.A D.n D.c, .slice D.B D.m D.d, .int .i64 D.W, .int .i64 D.H, .slice D.C D.k D.e]] v fun e w' => e = .returned (.bool true) ∧ Below v.heap.size v w') :
    Calls Try.prog 8 #[.agg #[.int .i64 D.S, .int .i64 D.T, .slice D.A D.n D.c, .slice D.B D.m D.d, .int .i64 D.W, .int .i64 D.H, .slice D.C D.k D.e]] w fun e w' => e = .returned (.bool true) ∧ Below w.heap.size w w' := by
  obtain ⟨hx, hz⟩ := dps1 w D hd
  have HV := Lib.hid hv
  have HP := Lib.hid hP
  have HI := Lib.hid hI
  have n0 := Lib.hid (And.intro hP.n0 (And.intro hP.n1 (And.intro hP.m0 hP.m1)))
  have P_0 := Lib.hid (hx)
  have L_0 := Lib.hid (hz)
  clear hx hz hd hv hP hI hs
  go_enter Try.func8, Try.ntmps8
  go_wp2_with fail
  refine (HV.out _ L_0.out.bel).mono ?_
  rintro e wu1 ⟨rfl, hb⟩
  have P_1 := Lib.hid (P_0.out.next hb)
  have L_1 := Lib.hid (L_0.out.next hb)
  clear P_0 L_0
  clear hb
  have ff := P_1.out.box.all
  obtain ⟨f0_0, f0_1, f0_2, f0_3, f0_4, f0_5, f0_6, f0_7⟩ := ff
  go_wp2_with fail
  clear f0_0 f0_1 f0_2 f0_3 f0_4 f0_5 f0_6 f0_7
  refine (turn1 HI.out HP.out _ P_1.out.in_).mono ?_
  rintro e wu2 ⟨a1, ca1, b1, cb1, c1, cc1, rfl, hin, hb⟩
  have P_2 := Lib.hid (P_1.out.next hb)
  have L_2 := Lib.hid (L_1.out.next hb)
  clear P_1 L_1
  have T_2 := Lib.hid (show DP (wu2.alloc (.cells #[.int .i64 P.T, .int .i64 P.S, .slice (some ⟨a1, 0, none⟩) P.m ca1, .slice (some ⟨b1, 0, none⟩) P.n cb1, .int .i64 P.S, .int .i64 P.T, .slice (some ⟨c1, 0, none⟩) (P.S * P.T) cc1] 30)) wu2.heap.size wu2.heap.size (P.turn.dr a1 ca1 b1 cb1 c1 cc1) from DP.new _ hin)
  clear hb hin
  have ff := T_2.out.box.all
  dsimp only [PD.dr, PD.turn] at ff
  obtain ⟨f0_0, f0_1, f0_2, f0_3, f0_4, f0_5, f0_6, f0_7⟩ := ff
  go_wp2_with fail
  clear f0_0 f0_1 f0_2 f0_3 f0_4 f0_5 f0_6 f0_7
  have Pa_3 := Lib.hid (P_2.out.next ((Below.refl _ _).alloc (Nat.le_refl _) (.cells #[.int .i64 P.T, .int .i64 P.S, .slice (some ⟨a1, 0, none⟩) P.m ca1, .slice (some ⟨b1, 0, none⟩) P.n cb1, .int .i64 P.S, .int .i64 P.T, .slice (some ⟨c1, 0, none⟩) (P.S * P.T) cc1] 30)))
  clear P_2
  have La_3 := Lib.hid (L_2.out.next ((Below.refl _ _).alloc (Nat.le_refl _) (.cells #[.int .i64 P.T, .int .i64 P.S, .slice (some ⟨a1, 0, none⟩) P.m ca1, .slice (some ⟨b1, 0, none⟩) P.n cb1, .int .i64 P.S, .int .i64 P.T, .slice (some ⟨c1, 0, none⟩) (P.S * P.T) cc1] 30)))
  clear L_2
  generalize wu2.alloc (.cells #[.int .i64 P.T, .int .i64 P.S, .slice (some ⟨a1, 0, none⟩) P.m ca1, .slice (some ⟨b1, 0, none⟩) P.n cb1, .int .i64 P.S, .int .i64 P.T, .slice (some ⟨c1, 0, none⟩) (P.S * P.T) cc1] 30) = wv2 at *
  refine (turn2 HP.out _ _ _ _ _ _ _ T_2.out.in_).mono ?_
  rintro e wu3 ⟨a2, ca2, b2, cb2, c2, cc2, rfl, hin, hb⟩
  have P_3 := Lib.hid (Pa_3.out.next hb)
  have L_3 := Lib.hid (La_3.out.next hb)
  have T_3 := Lib.hid (T_2.out.next hb)
  clear Pa_3 La_3 T_2
  have U_3 := Lib.hid (show DP (wu3.alloc (.cells #[.int .i64 P.S, .int .i64 P.T, .slice (some ⟨a2, 0, none⟩) P.n ca2, .slice (some ⟨b2, 0, none⟩) P.m cb2, .int .i64 P.T, .int .i64 P.S, .slice (some ⟨c2, 0, none⟩) (P.T * P.S) cc2] 30)) wu3.heap.size wu3.heap.size (P.dr a2 ca2 b2 cb2 c2 cc2) from DP.new _ hin)
  clear hb hin
  have ff := P_3.out.box.all
  obtain ⟨f0_0, f0_1, f0_2, f0_3, f0_4, f0_5, f0_6, f0_7⟩ := ff
  go_wp2_with fail
  clear f0_0 f0_1 f0_2 f0_3 f0_4 f0_5 f0_6 f0_7
  have Pa_4 := Lib.hid (P_3.out.next ((Below.refl _ _).alloc (Nat.le_refl _) (.cells #[.int .i64 P.S, .int .i64 P.T, .slice (some ⟨a2, 0, none⟩) P.n ca2, .slice (some ⟨b2, 0, none⟩) P.m cb2, .int .i64 P.T, .int .i64 P.S, .slice (some ⟨c2, 0, none⟩) (P.T * P.S) cc2] 30)))
  clear P_3
  have La_4 := Lib.hid (L_3.out.next ((Below.refl _ _).alloc (Nat.le_refl _) (.cells #[.int .i64 P.S, .int .i64 P.T, .slice (some ⟨a2, 0, none⟩) P.n ca2, .slice (some ⟨b2, 0, none⟩) P.m cb2, .int .i64 P.T, .int .i64 P.S, .slice (some ⟨c2, 0, none⟩) (P.T * P.S) cc2] 30)))
  clear L_3
  have Ta_4 := Lib.hid (T_3.out.next ((Below.refl _ _).alloc (Nat.le_refl _) (.cells #[.int .i64 P.S, .int .i64 P.T, .slice (some ⟨a2, 0, none⟩) P.n ca2, .slice (some ⟨b2, 0, none⟩) P.m cb2, .int .i64 P.T, .int .i64 P.S, .slice (some ⟨c2, 0, none⟩) (P.T * P.S) cc2] 30)))
  clear T_3
  generalize wu3.alloc (.cells #[.int .i64 P.S, .int .i64 P.T, .slice (some ⟨a2, 0, none⟩) P.n ca2, .slice (some ⟨b2, 0, none⟩) P.m cb2, .int .i64 P.T, .int .i64 P.S, .slice (some ⟨c2, 0, none⟩) (P.T * P.S) cc2] 30) = wv3 at *
  refine (weave_ok HI.out HP.out _ Pa_4.out.in_).mono ?_
  rintro e wu4 ⟨k1, rfl, hk, hrow, hb⟩
  have P_4 := Lib.hid (Pa_4.out.next hb)
  have L_4 := Lib.hid (La_4.out.next hb)
  have T_4 := Lib.hid (Ta_4.out.next hb)
  have U_4 := Lib.hid (U_3.out.next hb)
  clear Pa_4 La_4 Ta_4 U_3
  have G1_4 := Lib.hid (show GP (wu4.alloc (.cells #[.int .i64 P.n, .int .i64 P.m, .slice (some ⟨k1, 0, none⟩) (P.n * P.m) (P.n * P.m)] 24)) 0 wu4.heap.size k1 P.n P.m (some ⟨k1, 0, none⟩) (P.n * P.m) (P.n * P.m) (fun i => P.L (P.G (i / P.n)) (P.F (i % P.n))) from GP.new (fun _ => ⟨rfl, Nat.zero_le _, hrow⟩))
  clear hb hk hrow
  have ff := T_4.out.box.all
  dsimp only [PD.dr, PD.turn] at ff
  obtain ⟨f0_0, f0_1, f0_2, f0_3, f0_4, f0_5, f0_6, f0_7⟩ := ff
  go_wp2_with fail
  clear f0_0 f0_1 f0_2 f0_3 f0_4 f0_5 f0_6 f0_7
  have Pa_5 := Lib.hid (P_4.out.next ((Below.refl _ _).alloc (Nat.le_refl _) (.cells #[.int .i64 P.n, .int .i64 P.m, .slice (some ⟨k1, 0, none⟩) (P.n * P.m) (P.n * P.m)] 24)))
  clear P_4
  have La_5 := Lib.hid (L_4.out.next ((Below.refl _ _).alloc (Nat.le_refl _) (.cells #[.int .i64 P.n, .int .i64 P.m, .slice (some ⟨k1, 0, none⟩) (P.n * P.m) (P.n * P.m)] 24)))
  clear L_4
  have Ta_5 := Lib.hid (T_4.out.next ((Below.refl _ _).alloc (Nat.le_refl _) (.cells #[.int .i64 P.n, .int .i64 P.m, .slice (some ⟨k1, 0, none⟩) (P.n * P.m) (P.n * P.m)] 24)))
  clear T_4
  have Ua_5 := Lib.hid (U_4.out.next ((Below.refl _ _).alloc (Nat.le_refl _) (.cells #[.int .i64 P.n, .int .i64 P.m, .slice (some ⟨k1, 0, none⟩) (P.n * P.m) (P.n * P.m)] 24)))
  clear U_4
  generalize wu4.alloc (.cells #[.int .i64 P.n, .int .i64 P.m, .slice (some ⟨k1, 0, none⟩) (P.n * P.m) (P.n * P.m)] 24) = wv4 at *
  refine (weave2 HP.out _ _ _ _ _ _ _ Ta_5.out.in_).mono ?_
  rintro e wu5 ⟨k2, rfl, hk, hrow, hb⟩
  have P_5 := Lib.hid (Pa_5.out.next hb)
  have L_5 := Lib.hid (La_5.out.next hb)
  have T_5 := Lib.hid (Ta_5.out.next hb)
  have U_5 := Lib.hid (Ua_5.out.next hb)
  have G1_5 := Lib.hid (G1_4.out.next hb)
  clear Pa_5 La_5 Ta_5 Ua_5 G1_4
  have G2_5 := Lib.hid (show GP (wu5.alloc (.cells #[.int .i64 P.m, .int .i64 P.n, .slice (some ⟨k2, 0, none⟩) (P.m * P.n) (P.m * P.n)] 24)) 0 wu5.heap.size k2 P.m P.n (some ⟨k2, 0, none⟩) (P.m * P.n) (P.m * P.n) (fun i => P.L (P.G (i % P.m)) (P.F (i / P.m))) from GP.new (fun _ => ⟨rfl, Nat.zero_le _, hrow⟩))
  clear hb hk hrow
  have ff := G1_5.out.box.all
  obtain ⟨f0_0, f0_1, f0_2, f0_3, f0_4, f0_5, f0_6⟩ := ff
  go_wp2_with fail
  clear f0_0 f0_1 f0_2 f0_3 f0_4 f0_5 f0_6
  have Pa_6 := Lib.hid (P_5.out.next ((Below.refl _ _).alloc (Nat.le_refl _) (.cells #[.int .i64 P.m, .int .i64 P.n, .slice (some ⟨k2, 0, none⟩) (P.m * P.n) (P.m * P.n)] 24)))
  clear P_5
  have La_6 := Lib.hid (L_5.out.next ((Below.refl _ _).alloc (Nat.le_refl _) (.cells #[.int .i64 P.m, .int .i64 P.n, .slice (some ⟨k2, 0, none⟩) (P.m * P.n) (P.m * P.n)] 24)))
  clear L_5
  have Ta_6 := Lib.hid (T_5.out.next ((Below.refl _ _).alloc (Nat.le_refl _) (.cells #[.int .i64 P.m, .int .i64 P.n, .slice (some ⟨k2, 0, none⟩) (P.m * P.n) (P.m * P.n)] 24)))
  clear T_5
  have Ua_6 := Lib.hid (U_5.out.next ((Below.refl _ _).alloc (Nat.le_refl _) (.cells #[.int .i64 P.m, .int .i64 P.n, .slice (some ⟨k2, 0, none⟩) (P.m * P.n) (P.m * P.n)] 24)))
  clear U_5
  have G1a_6 := Lib.hid (G1_5.out.next ((Below.refl _ _).alloc (Nat.le_refl _) (.cells #[.int .i64 P.m, .int .i64 P.n, .slice (some ⟨k2, 0, none⟩) (P.m * P.n) (P.m * P.n)] 24)))
  clear G1_5
  generalize wu5.alloc (.cells #[.int .i64 P.m, .int .i64 P.n, .slice (some ⟨k2, 0, none⟩) (P.m * P.n) (P.m * P.n)] 24) = wv5 at *
  refine (turn_ok P.n P.m _ _ _ _ G1a_6.out.holds n0.out.1 n0.out.2.1 n0.out.2.2.1 n0.out.2.2.2).mono ?_
  rintro e wu6 ⟨k3, rfl, hk, hrow, hb⟩
  have P_6 := Lib.hid (Pa_6.out.next hb)
  have L_6 := Lib.hid (La_6.out.next hb)
  have T_6 := Lib.hid (Ta_6.out.next hb)
  have U_6 := Lib.hid (Ua_6.out.next hb)
  have G1_6 := Lib.hid (G1a_6.out.next hb)
  have G2_6 := Lib.hid (G2_5.out.next hb)
  clear Pa_6 La_6 Ta_6 Ua_6 G1a_6 G2_5
  have G3_6 := Lib.hid (show GP (wu6.alloc (.cells #[.int .i64 P.m, .int .i64 P.n, .slice (some ⟨k3, 0, none⟩) (P.m * P.n) (P.m * P.n)] 24)) 0 wu6.heap.size k3 P.m P.n (some ⟨k3, 0, none⟩) (P.m * P.n) (P.m * P.n) (fun i => (fun i => P.L (P.G (i / P.n)) (P.F (i % P.n))) (i % P.m * P.n + i / P.m)) from GP.new (fun _ => ⟨rfl, Nat.zero_le _, hrow⟩))
  clear hb hk hrow
  have fu := U_6.out.box.all
  dsimp only [PD.dr, PD.turn] at fu
  obtain ⟨f0_0, f0_1, f0_2, f0_3, f0_4, f0_5, f0_6, f0_7⟩ := fu
  have fp := P_6.out.box.all
  obtain ⟨f1_0, f1_1, f1_2, f1_3, f1_4, f1_5, f1_6, f1_7⟩ := fp
  go_wp2_with fail
  clear f0_0 f0_1 f0_2 f0_3 f0_4 f0_5 f0_6 f0_7 f1_0 f1_1 f1_2 f1_3 f1_4 f1_5 f1_6 f1_7
  have Pa_7 := Lib.hid (P_6.out.next ((Below.refl _ _).alloc (Nat.le_refl _) (.cells #[.int .i64 P.m, .int .i64 P.n, .slice (some ⟨k3, 0, none⟩) (P.m * P.n) (P.m * P.n)] 24)))
  clear P_6
  have La_7 := Lib.hid (L_6.out.next ((Below.refl _ _).alloc (Nat.le_refl _) (.cells #[.int .i64 P.m, .int .i64 P.n, .slice (some ⟨k3, 0, none⟩) (P.m * P.n) (P.m * P.n)] 24)))
  clear L_6
  have Ta_7 := Lib.hid (T_6.out.next ((Below.refl _ _).alloc (Nat.le_refl _) (.cells #[.int .i64 P.m, .int .i64 P.n, .slice (some ⟨k3, 0, none⟩) (P.m * P.n) (P.m * P.n)] 24)))
  clear T_6
  have Ua_7 := Lib.hid (U_6.out.next ((Below.refl _ _).alloc (Nat.le_refl _) (.cells #[.int .i64 P.m, .int .i64 P.n, .slice (some ⟨k3, 0, none⟩) (P.m * P.n) (P.m * P.n)] 24)))
  clear U_6
  have G1a_7 := Lib.hid (G1_6.out.next ((Below.refl _ _).alloc (Nat.le_refl _) (.cells #[.int .i64 P.m, .int .i64 P.n, .slice (some ⟨k3, 0, none⟩) (P.m * P.n) (P.m * P.n)] 24)))
  clear G1_6
  have G2a_7 := Lib.hid (G2_6.out.next ((Below.refl _ _).alloc (Nat.le_refl _) (.cells #[.int .i64 P.m, .int .i64 P.n, .slice (some ⟨k3, 0, none⟩) (P.m * P.n) (P.m * P.n)] 24)))
  clear G2_6
  generalize wu6.alloc (.cells #[.int .i64 P.m, .int .i64 P.n, .slice (some ⟨k3, 0, none⟩) (P.m * P.n) (P.m * P.n)] 24) = wv6 at *
  refine (rdsame_back HI.out HP.out _ _ _ _ _ _ _ Ua_7.out.in_ Pa_7.out.in_).mono ?_
  rintro e wu7 ⟨rfl, hb⟩
  have P_7 := Lib.hid (Pa_7.out.next hb)
  have L_7 := Lib.hid (La_7.out.next hb)
  have T_7 := Lib.hid (Ta_7.out.next hb)
  have U_7 := Lib.hid (Ua_7.out.next hb)
  have G1_7 := Lib.hid (G1a_7.out.next hb)
  have G2_7 := Lib.hid (G2a_7.out.next hb)
  have G3_7 := Lib.hid (G3_6.out.next hb)
  clear Pa_7 La_7 Ta_7 Ua_7 G1a_7 G2a_7 G3_6
  clear hb
  have ff := G2_7.out.box.all
  obtain ⟨f0_0, f0_1, f0_2, f0_3, f0_4, f0_5, f0_6⟩ := ff
  have ff := G3_7.out.box.all
  obtain ⟨f1_0, f1_1, f1_2, f1_3, f1_4, f1_5, f1_6⟩ := ff
  go_wp2_with fail
  clear f0_0 f0_1 f0_2 f0_3 f0_4 f0_5 f0_6 f1_0 f1_1 f1_2 f1_3 f1_4 f1_5 f1_6
  refine (rgsm_eq _ _ _ _ _ _ _ _ _ _ (by have h1 := n0.out; have h2 := Nat.mul_le_mul h1.2.2.2 h1.2.1; omega) G2_7.out.holds G3_7.out.holds (fun i hi => turned_cells P n0.out.1 i hi)).mono ?_
  rintro e wu8 ⟨rfl, hb⟩
  have P_8 := Lib.hid (P_7.out.next hb)
  have L_8 := Lib.hid (L_7.out.next hb)
  have T_8 := Lib.hid (T_7.out.next hb)
  have U_8 := Lib.hid (U_7.out.next hb)
  have G1_8 := Lib.hid (G1_7.out.next hb)
  have G2_8 := Lib.hid (G2_7.out.next hb)
  have G3_8 := Lib.hid (G3_7.out.next hb)
  clear P_7 L_7 T_7 U_7 G1_7 G2_7 G3_7
  clear hb
  go_wp2_with fail
  refine (alive_any _).mono ?_
  rintro e wu9 ⟨rfl, hb⟩
  have P_9 := Lib.hid (P_8.out.next hb)
  have L_9 := Lib.hid (L_8.out.next hb)
  have T_9 := Lib.hid (T_8.out.next hb)
  have U_9 := Lib.hid (U_8.out.next hb)
  have G1_9 := Lib.hid (G1_8.out.next hb)
  have G2_9 := Lib.hid (G2_8.out.next hb)
  have G3_9 := Lib.hid (G3_8.out.next hb)
  clear P_8 L_8 T_8 U_8 G1_8 G2_8 G3_8
  clear hb
  go_wp2
  refine bodyPost_ret (v := .bool true) (by simp [results, Try.results8, go_sem]) rfl ⟨rfl, L_9.out.bel⟩

theorem dturned_any (D : Dr) (w : World) (hd : D.In w w.heap.size) :
    Calls Try.prog 8 #[.agg #[.int .i64 D.S, .int .i64 D.T, .slice D.A D.n D.c, .slice D.B D.m D.d, .int .i64 D.W, .int .i64 D.H, .slice D.C D.k D.e]] w fun e w' => e = .returned (.bool true) ∧ Below w.heap.size w w' := by
  rcases valid_case D w hd with ⟨P, hP, hI, hs, hv⟩ | hv
  · exact turned_main D P hP hI hs w hd hv
  · exact turned_no D w hv
end Go.Proofs.Ytbafhdinalapoaa
