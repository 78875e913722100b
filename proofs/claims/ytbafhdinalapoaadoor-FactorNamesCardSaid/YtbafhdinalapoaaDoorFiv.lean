/- The statement FactorInverse: the walk. -/
import Derived.Test.YtbafhdinalapoaaDoorFdn
import Derived.Test.YtbafhdinalapoaaDoorVld
import Derived.Test.YtbafhdinalapoaaDoorAlf
namespace Go.Proofs.YtbafhdinalapoaaDoor
open Go.RowKit
set_option linter.unusedVariables false
set_option linter.unusedSimpArgs false
set_option maxRecDepth 100000

open L2 (nd ren)
/-- A grid's variable and a draft's. -/
theorem gd2 (w : World) (W H : Int) (A : Option Addr) (n c : Nat) (D : Dr) :
    Box ((w.alloc (.cells #[.int .i64 W, .int .i64 H, .slice A n c] 25)).alloc (.cells #[.int .i64 D.S, .int .i64 D.T, .slice D.A D.n D.c, .slice D.B D.m D.d, .int .i64 D.W, .int .i64 D.H, .slice D.C D.k D.e] 27)) w.heap.size W H (.slice A n c) ∧ DBox ((w.alloc (.cells #[.int .i64 W, .int .i64 H, .slice A n c] 25)).alloc (.cells #[.int .i64 D.S, .int .i64 D.T, .slice D.A D.n D.c, .slice D.B D.m D.d, .int .i64 D.W, .int .i64 D.H, .slice D.C D.k D.e] 27)) (w.heap.size + 1) D ∧
    Below w.heap.size w ((w.alloc (.cells #[.int .i64 W, .int .i64 H, .slice A n c] 25)).alloc (.cells #[.int .i64 D.S, .int .i64 D.T, .slice D.A D.n D.c, .slice D.B D.m D.d, .int .i64 D.W, .int .i64 D.H, .slice D.C D.k D.e] 27)) := by
  have h2 := DBox.new (w.alloc (.cells #[.int .i64 W, .int .i64 H, .slice A n c] 25)) D
  simp only [World.size_alloc] at h2
  exact ⟨(Box.new w W H (.slice A n c)).below ((Below.refl _ _).alloc (Nat.le_refl _) _) (by simp), h2, ((Below.refl _ _).alloc (Nat.le_refl _) _).alloc (by simp) _⟩
theorem okgrid_congr {v : World} {W H : Nat} {f g : Nat → Bool} (h : ∀ i, i < W * H → f i = g i) {e : Ending} {w' : World} (k : OkGrid v W H f e w') : OkGrid v W H g e w' := by
  obtain ⟨k', h1, h2, h3, h4⟩ := k
  exact ⟨k', h1, h2, h3.congr h, h4⟩
theorem gsm_self_ (W H : Int) (n : Nat) (f : Nat → Bool) : gsm W H n f W H n f = true := by unfold gsm; simp

set_option maxHeartbeats 800000 in
theorem fi_great (W H : Int) (A : Option Addr) (n c : Nat) (D : Dr) (w : World) (hE : Env w) (hn : 4200 < n) :
    Calls Tryd.prog 5 #[.agg #[.int .i64 W, .int .i64 H, .slice A n c], .agg #[.int .i64 D.S, .int .i64 D.T, .slice D.A D.n D.c, .slice D.B D.m D.d, .int .i64 D.W, .int .i64 D.H, .slice D.C D.k D.e]] w fun e w' => e = .returned (.bool true) ∧ Below w.heap.size w w' := by
  obtain ⟨hx0, hy0, hl0⟩ := gd2 w W H A n c D
  have X0 := Lib.hid hx0
  have Y0 := Lib.hid hy0
  have LB0 := Lib.hid hl0
  have HE := Lib.hid (fun v (h : Below w.heap.size w v) => hE.next h)
  clear hx0 hy0 hl0 hE
  go_enter Tryd.func5, Tryd.ntmps5
  obtain ⟨q0, q1, q2, q3, q4, q5, q6⟩ := X0.out.all
  go_wp2_with fail
  clear q0 q1 q2 q3 q4 q5 q6
  refine (great_yes W H A n c _ hn).mono ?_
  rintro e w1 ⟨rfl, hb⟩
  have X1 := Lib.hid (X0.out.below hb X0.out.lt)
  have Y1 := Lib.hid (Y0.out.next hb)
  have LB1 := Lib.hid (LB0.out.trans (hb.mono LB0.out.size))
  clear hb X0 Y0 LB0
  go_wp2_with fail
  refine (alive_any _ (HE.out _ LB1.out)).mono ?_
  rintro e w2 ⟨rfl, hb⟩
  have X2 := Lib.hid (X1.out.below hb X1.out.lt)
  have Y2 := Lib.hid (Y1.out.next hb)
  have LB2 := Lib.hid (LB1.out.trans (hb.mono LB1.out.size))
  clear hb X1 Y1 LB1
  go_wp2
  go_ret
  exact ⟨rfl, LB2.out⟩
set_option maxHeartbeats 800000 in
theorem fi_bad (W H : Int) (A : Option Addr) (n c : Nat) (D : Dr) (w : World) (hE : Env w) (hn : n ≤ 4200) (z : Int) (hx : chk W H n = z) (hne : (z != 0) = true) :
    Calls Tryd.prog 5 #[.agg #[.int .i64 W, .int .i64 H, .slice A n c], .agg #[.int .i64 D.S, .int .i64 D.T, .slice D.A D.n D.c, .slice D.B D.m D.d, .int .i64 D.W, .int .i64 D.H, .slice D.C D.k D.e]] w fun e w' => e = .returned (.bool true) ∧ Below w.heap.size w w' := by
  obtain ⟨hx0, hy0, hl0⟩ := gd2 w W H A n c D
  have X0 := Lib.hid hx0
  have Y0 := Lib.hid hy0
  have LB0 := Lib.hid hl0
  have HE := Lib.hid (fun v (h : Below w.heap.size w v) => hE.next h)
  have HC := Lib.hid (fun v => rchk_err (A := A) (c := c) hn hx v)
  clear hx0 hy0 hl0 hE hx
  go_enter Tryd.func5, Tryd.ntmps5
  obtain ⟨q0, q1, q2, q3, q4, q5, q6⟩ := X0.out.all
  go_wp2_with fail
  clear q0 q1 q2 q3 q4 q5 q6
  refine (great_no W H A n c _ hn).mono ?_
  rintro e w1 ⟨rfl, hb⟩
  have X1 := Lib.hid (X0.out.below hb X0.out.lt)
  have Y1 := Lib.hid (Y0.out.next hb)
  have LB1 := Lib.hid (LB0.out.trans (hb.mono LB0.out.size))
  clear hb X0 Y0 LB0
  obtain ⟨q0, q1, q2, q3, q4, q5, q6⟩ := X1.out.all
  go_wp2_with fail
  clear q0 q1 q2 q3 q4 q5 q6
  refine (HC.out _).mono ?_
  rintro e w2 ⟨rfl, hb⟩
  have X2 := Lib.hid (X1.out.below hb X1.out.lt)
  have Y2 := Lib.hid (Y1.out.next hb)
  have LB2 := Lib.hid (LB1.out.trans (hb.mono LB1.out.size))
  clear hb X1 Y1 LB1
  go_wp2_with fail
  refine (alive_any _ (HE.out _ LB2.out)).mono ?_
  rintro e w3 ⟨rfl, hb⟩
  have X3 := Lib.hid (X2.out.below hb X2.out.lt)
  have Y3 := Lib.hid (Y2.out.next hb)
  have LB3 := Lib.hid (LB2.out.trans (hb.mono LB2.out.size))
  clear hb X2 Y2 LB2
  go_wp2
  go_ret
  exact ⟨rfl, LB3.out⟩
set_option maxHeartbeats 800000 in
theorem fi_not (W H : Int) (A : Option Addr) (n c : Nat) (D : Dr) (w : World) (hE : Env w) (hn : n ≤ 4200) (hx : chk W H n = 0) (hv : ∀ v, Below w.heap.size w v → Calls Tryd.prog 29 #[.agg #[.int .i64 D.S, .int .i64 D.T, .slice D.A D.n D.c, .slice D.B D.m D.d, .int .i64 D.W, .int .i64 D.H, .slice D.C D.k D.e]] v fun e w' => e = .returned (.bool false) ∧ Below v.heap.size v w') :
    Calls Tryd.prog 5 #[.agg #[.int .i64 W, .int .i64 H, .slice A n c], .agg #[.int .i64 D.S, .int .i64 D.T, .slice D.A D.n D.c, .slice D.B D.m D.d, .int .i64 D.W, .int .i64 D.H, .slice D.C D.k D.e]] w fun e w' => e = .returned (.bool true) ∧ Below w.heap.size w w' := by
  obtain ⟨hx0, hy0, hl0⟩ := gd2 w W H A n c D
  have X0 := Lib.hid hx0
  have Y0 := Lib.hid hy0
  have LB0 := Lib.hid hl0
  have HE := Lib.hid (fun v (h : Below w.heap.size w v) => hE.next h)
  have HC := Lib.hid (fun v => rchk_err (A := A) (c := c) hn hx v)
  have HV := Lib.hid hv
  clear hx0 hy0 hl0 hE hx hv
  go_enter Tryd.func5, Tryd.ntmps5
  obtain ⟨q0, q1, q2, q3, q4, q5, q6⟩ := X0.out.all
  go_wp2_with fail
  clear q0 q1 q2 q3 q4 q5 q6
  refine (great_no W H A n c _ hn).mono ?_
  rintro e w1 ⟨rfl, hb⟩
  have X1 := Lib.hid (X0.out.below hb X0.out.lt)
  have Y1 := Lib.hid (Y0.out.next hb)
  have LB1 := Lib.hid (LB0.out.trans (hb.mono LB0.out.size))
  clear hb X0 Y0 LB0
  obtain ⟨q0, q1, q2, q3, q4, q5, q6⟩ := X1.out.all
  go_wp2_with fail
  clear q0 q1 q2 q3 q4 q5 q6
  refine (HC.out _).mono ?_
  rintro e w2 ⟨rfl, hb⟩
  have X2 := Lib.hid (X1.out.below hb X1.out.lt)
  have Y2 := Lib.hid (Y1.out.next hb)
  have LB2 := Lib.hid (LB1.out.trans (hb.mono LB1.out.size))
  clear hb X1 Y1 LB1
  obtain ⟨q0, q1, q2, q3, q4, q5, q6, q7⟩ := Y2.out.all
  try dsimp only [PD.dr] at q0 q1 q2 q3 q4 q5 q6
  go_wp2_with fail
  clear q0 q1 q2 q3 q4 q5 q6 q7
  refine (HV.out _ LB2.out).mono ?_
  rintro e w3 ⟨rfl, hb⟩
  have X3 := Lib.hid (X2.out.below hb X2.out.lt)
  have Y3 := Lib.hid (Y2.out.next hb)
  have LB3 := Lib.hid (LB2.out.trans (hb.mono LB2.out.size))
  clear hb X2 Y2 LB2
  go_wp2_with fail
  refine (alive_any _ (HE.out _ LB3.out)).mono ?_
  rintro e w4 ⟨rfl, hb⟩
  have X4 := Lib.hid (X3.out.below hb X3.out.lt)
  have Y4 := Lib.hid (Y3.out.next hb)
  have LB4 := Lib.hid (LB3.out.trans (hb.mono LB3.out.size))
  clear hb X3 Y3 LB3
  go_wp2
  go_ret
  exact ⟨rfl, LB4.out⟩
set_option maxHeartbeats 6400000 in
theorem fi_main (W H n : Nat) (b o c : Nat) (u : Nat → Bool) (P : PD) (hP : P.Ok) (A : Option Addr) (ca : Nat) (B : Option Addr) (cb : Nat) (C : Option Addr) (cc : Nat) (f g : Nat → Int) (bb : Nat → Bool) (w : World) (hE : Env w) (hn : n = W * H) (hr : Holds w w.heap.size (some ⟨b, o, none⟩) n u) (hcap : n ≤ c) (hW0 : 1 ≤ W) (hW : W ≤ 64) (hH0 : 1 ≤ H) (hH : H ≤ 64)
    (hI : (⟨P.S, P.T, A, P.n, ca, B, P.m, cb, P.T, P.S, C, P.T * P.S, cc, f, g, bb⟩ : Dr).Is P) (hd : (⟨P.S, P.T, A, P.n, ca, B, P.m, cb, P.T, P.S, C, P.T * P.S, cc, f, g, bb⟩ : Dr).In w w.heap.size)
    (hv : ∀ v, Below w.heap.size w v → Calls Tryd.prog 29 #[.agg #[.int .i64 P.S, .int .i64 P.T, .slice A P.n ca, .slice B P.m cb, .int .i64 P.T, .int .i64 P.S, .slice C (P.T * P.S) cc]] v fun e w' => e = .returned (.bool true) ∧ Below v.heap.size v w') :
    Calls Tryd.prog 5 #[.agg #[.int .i64 W, .int .i64 H, .slice (some ⟨b, o, none⟩) n c], .agg #[.int .i64 P.S, .int .i64 P.T, .slice A P.n ca, .slice B P.m cb, .int .i64 P.T, .int .i64 P.S, .slice C (P.T * P.S) cc]] w fun e w' => e = .returned (.bool true) ∧ Below w.heap.size w w' := by
  have hn2 : n ≤ 4096 := by rw [hn]; exact Nat.mul_le_mul hW hH
  have hck : chk (W : Int) (H : Int) n = 0 := by rw [hn]; exact chk_zero hW0 hW hH0 hH
  obtain ⟨hx0, hy0, hl0⟩ := gd2 w W H (some ⟨b, o, none⟩) n c ⟨P.S, P.T, A, P.n, ca, B, P.m, cb, P.T, P.S, C, P.T * P.S, cc, f, g, bb⟩
  have X0 := Lib.hid hx0
  have Y0 := Lib.hid hy0
  have LB0 := Lib.hid hl0
  have HE := Lib.hid (fun v (h : Below w.heap.size w v) => hE.next h)
  have HC := Lib.hid (fun v => rchk_err (A := some ⟨b, o, none⟩) (c := c) (show n ≤ 4200 by omega) hck v)
  have HV := Lib.hid hv
  have HR := Lib.hid (fun v (h : Below w.heap.size w v) => (show Holds v v.heap.size (some ⟨b, o, none⟩) (W * H) u by rw [← hn]; exact (hr.below h).more h.size))
  have HIN := Lib.hid (fun v (h : Below w.heap.size w v) => hd.next h)
  have HI := Lib.hid hI
  have HP := Lib.hid hP
  -- the least draft of the grid
  obtain ⟨R, hR⟩ : ∃ R, ofp W H u = R := ⟨_, rfl⟩
  have rS : nd (rc H (tnf W H u)) W = R.S := by rw [← hR]; rfl
  have rT : nd (rc W u) H = R.T := by rw [← hR]; rfl
  have rn : R.n = W := by rw [← hR]; rfl
  have rm : R.m = H := by rw [← hR]; rfl
  have HCNT := Lib.hid (fun v (h : Below w.heap.size w v) => (show Calls Tryd.prog 15 #[.agg #[.int .i64 W, .int .i64 H, .slice (some ⟨b, o, none⟩) n c]] v (fun e w' => e = .returned (.tuple #[.int .i64 (R.S : Nat), .int .i64 (R.T : Nat), .int .i64 0]) ∧ Below v.heap.size v w') by
    have := count_ok W H b o c u v (HR.out v h) (by omega) hW0 hW hH0 hH
    rw [← hn, rS, rT] at this; exact this))
  have HMANY := Lib.hid (fun (hm : 40 < R.S ∨ 40 < R.T) v (h : Below w.heap.size w v) => (show Calls Tryd.prog 9 #[.agg #[.int .i64 W, .int .i64 H, .slice (some ⟨b, o, none⟩) n c]] v (ErrDr v 4) by
    rw [← rS, ← rT] at hm
    have := of_many W H b o c u v (hE.next h) (HR.out v h) (by omega) hW0 hW hH0 hH hm
    rw [← hn] at this; exact this))
  have HOK := Lib.hid (fun (hm : ¬ (40 < R.S ∨ 40 < R.T)) v (h : Below w.heap.size w v) => (show Calls Tryd.prog 9 #[.agg #[.int .i64 W, .int .i64 H, .slice (some ⟨b, o, none⟩) n c]] v (OkDr v R) by
    rw [← rS, ← rT] at hm
    have := of_ok W H b o c u v (hE.next h) (HR.out v h) (by omega) hW0 hW hH0 hH hm
    rw [← hn, hR] at this; exact this))
  have HROK := Lib.hid (fun (hm : ¬ (40 < R.S ∨ 40 < R.T)) => (show R.Ok by
    rw [← rS, ← rT] at hm
    rw [← hR]
    exact ofp_ok hW0 hW hH0 hH (by omega) (by omega)))
  have HRL := Lib.hid (show R.lst = true by rw [← hR]; exact ofp_lst W H u)
  have HRW := Lib.hid (fun (hk : R.Ok) (E : Dr) (hi : E.Is R) v (he : E.In v v.heap.size) => (show Calls Tryd.prog 30 #[.agg #[.int .i64 E.S, .int .i64 E.T, .slice E.A E.n E.c, .slice E.B E.m E.d, .int .i64 E.W, .int .i64 E.H, .slice E.C E.k E.e]] v (OkGrid v W H u) by
    have := weave_ok hi hk v he
    rw [rn, rm] at this
    refine this.mono fun e w' h => okgrid_congr (fun i hi => ?_) h
    rw [← ofp_wvf W H u hi, hR]
    unfold PD.wvf
    rw [rn]))
  have HRH := Lib.hid (fun v (h : Below w.heap.size w v) => (show Holds v v.heap.size (some ⟨b, o, none⟩) n u from (hr.below h).more h.size))
  -- the least draft of the drawdown
  have HW := Lib.hid (fun v (h : Below w.heap.size w v) => (show Calls Tryd.prog 30 #[.agg #[.int .i64 P.S, .int .i64 P.T, .slice A P.n ca, .slice B P.m cb, .int .i64 P.T, .int .i64 P.S, .slice C (P.T * P.S) cc]] v (OkGrid v P.n P.m P.wvf) from weave_ok hI hP v (hd.next h)))
  have HLST := Lib.hid (fun v (h : Below w.heap.size w v) => (show Calls Tryd.prog 13 #[.agg #[.int .i64 P.S, .int .i64 P.T, .slice A P.n ca, .slice B P.m cb, .int .i64 P.T, .int .i64 P.S, .slice C (P.T * P.S) cc]] v (BOut v P.lst 0) from fleast_ok hI hP v (hd.next h)))
  obtain ⟨l1, l2⟩ := lst_le hP
  have l3 := hP.s1
  have l4 := hP.t1
  obtain ⟨Q, hQ⟩ : ∃ Q, ofp P.n P.m P.wvf = Q := ⟨_, rfl⟩
  have hQok : Q.Ok := by rw [← hQ]; exact ofp_ok hP.n0 hP.n1 hP.m0 hP.m1 (by omega) (by omega)
  have qS : Q.S ≤ P.S := by rw [← hQ]; exact l1
  have qT : Q.T ≤ P.T := by rw [← hQ]; exact l2
  have HOF2 := Lib.hid (fun (v : World) (kw : Nat) (he : Env v) (hh : Row v kw (P.n * P.m) P.wvf) => (show Calls Tryd.prog 9 #[.agg #[.int .i64 P.n, .int .i64 P.m, .slice (some ⟨kw, 0, none⟩) (P.n * P.m) (P.n * P.m)]] v (OkDr v Q) by
    have := of_ok P.n P.m kw 0 (P.n * P.m) P.wvf v he (hh.holds hh.lt) (Nat.le_refl _) hP.n0 hP.n1 hP.m0 hP.m1 (by omega)
    rw [hQ] at this; exact this))
  have HMT := Lib.hid (fun (hl : P.lst = true) => (show Mtc Q P ∧ Q.All ∧ P.All by
    have h1 := lst_is hP hl
    have h2 := lst_mtc hP h1
    have h3 : Q.Lst := lst_is hQok (by rw [← hQ]; exact ofp_lst _ _ _)
    rw [hQ] at h2
    exact ⟨h2, h3.all, h1.all⟩))
  have HQOK := Lib.hid hQok
  have HN := Lib.hid hn
  clear hn
  clear hx0 hy0 hl0 hE hr hck hd hI hP hv hR rn rm rS rT l1 l2 l3 l4 hQ hQok
  go_enter Tryd.func5, Tryd.ntmps5
  obtain ⟨q0, q1, q2, q3, q4, q5, q6⟩ := X0.out.all
  go_wp2_with fail
  clear q0 q1 q2 q3 q4 q5 q6
  refine (great_no W H (some ⟨b, o, none⟩) n c _ (by omega)).mono ?_
  rintro e w1 ⟨rfl, hb⟩
  have X1 := Lib.hid (X0.out.below hb X0.out.lt)
  have Y1 := Lib.hid (Y0.out.next hb)
  have LB1 := Lib.hid (LB0.out.trans (hb.mono LB0.out.size))
  clear hb X0 Y0 LB0
  obtain ⟨q0, q1, q2, q3, q4, q5, q6⟩ := X1.out.all
  go_wp2_with fail
  clear q0 q1 q2 q3 q4 q5 q6
  refine (HC.out _).mono ?_
  rintro e w2 ⟨rfl, hb⟩
  have X2 := Lib.hid (X1.out.below hb X1.out.lt)
  have Y2 := Lib.hid (Y1.out.next hb)
  have LB2 := Lib.hid (LB1.out.trans (hb.mono LB1.out.size))
  clear hb X1 Y1 LB1
  obtain ⟨q0, q1, q2, q3, q4, q5, q6, q7⟩ := Y2.out.all
  try dsimp only [PD.dr] at q0 q1 q2 q3 q4 q5 q6
  go_wp2_with fail
  clear q0 q1 q2 q3 q4 q5 q6 q7
  refine (HV.out _ LB2.out).mono ?_
  rintro e w3 ⟨rfl, hb⟩
  have X3 := Lib.hid (X2.out.below hb X2.out.lt)
  have Y3 := Lib.hid (Y2.out.next hb)
  have LB3 := Lib.hid (LB2.out.trans (hb.mono LB2.out.size))
  clear hb X2 Y2 LB2
  by_cases hm : 40 < R.S ∨ 40 < R.T
  · rcases (show 40 < R.S ∨ (R.S ≤ 40 ∧ 40 < R.T) by omega) with h1 | ⟨h1, h2⟩
    · skip
      obtain ⟨q0, q1, q2, q3, q4, q5, q6⟩ := X3.out.all
      go_wp2_with fail
      clear q0 q1 q2 q3 q4 q5 q6
      refine (HMANY.out hm _ LB3.out).mono ?_
      rintro e w4 ⟨rfl, hb⟩
      have hba := (show Below _ _ (w4.alloc (.cells #[.int .i64 0, .int .i64 0, .slice none 0 0, .slice none 0 0, .int .i64 0, .int .i64 0, .slice none 0 0] 27)) from hb.trans (((Below.refl _ _).alloc (Nat.le_refl _) _).mono hb.size))
      clear hb
      have X4 := Lib.hid (X3.out.below hba X3.out.lt)
      have Y4 := Lib.hid (Y3.out.next hba)
      have LB4 := Lib.hid (LB3.out.trans (hba.mono LB3.out.size))
      clear hba X3 Y3 LB3
      obtain ⟨q0, q1, q2, q3, q4, q5, q6⟩ := X4.out.all
      go_wp2_with fail
      clear q0 q1 q2 q3 q4 q5 q6
      refine (HCNT.out _ LB4.out).mono ?_
      rintro e w5 ⟨rfl, hb⟩
      have X5 := Lib.hid (X4.out.below hb X4.out.lt)
      have Y5 := Lib.hid (Y4.out.next hb)
      have LB5 := Lib.hid (LB4.out.trans (hb.mono LB4.out.size))
      clear hb X4 Y4 LB4
      obtain ⟨q0, q1, q2, q3, q4, q5, q6, q7⟩ := Y5.out.all
      try dsimp only [PD.dr] at q0 q1 q2 q3 q4 q5 q6
      go_wp2_with fail
      clear q0 q1 q2 q3 q4 q5 q6 q7
      refine (HW.out _ LB5.out).mono ?_
      rintro e w6 ⟨kw, rfl, hkt, hrt, hb⟩
      have hba := (show Below _ _ (w6.alloc (.cells #[.int .i64 (P.n : Nat), .int .i64 (P.m : Nat), .slice (some ⟨kw, 0, none⟩) (P.n * P.m) (P.n * P.m)] 25)) from hb.trans (((Below.refl _ _).alloc (Nat.le_refl _) _).mono hb.size))
      have Bw6 := Lib.hid (Box.new w6 P.n P.m (.slice (some ⟨kw, 0, none⟩) (P.n * P.m) (P.n * P.m)))
      have Rw6 := Lib.hid (hrt.alloc (.cells #[.int .i64 (P.n : Nat), .int .i64 (P.m : Nat), .slice (some ⟨kw, 0, none⟩) (P.n * P.m) (P.n * P.m)] 25))
      clear hb hrt
      have X6 := Lib.hid (X5.out.below hba X5.out.lt)
      have Y6 := Lib.hid (Y5.out.next hba)
      have LB6 := Lib.hid (LB5.out.trans (hba.mono LB5.out.size))
      clear hba X5 Y5 LB5
      obtain ⟨q0, q1, q2, q3, q4, q5, q6⟩ := Bw6.out.all
      go_wp2_with fail
      clear q0 q1 q2 q3 q4 q5 q6
      refine (HOF2.out _ kw (HE.out _ LB6.out) Rw6.out).mono ?_
      rintro e w7 ⟨s1, t1, s2, t2, s3, t3, rfl, hr3, hb⟩
      have hba := (show Below _ _ (w7.alloc (.cells #[.int .i64 (Q.S : Nat), .int .i64 (Q.T : Nat), .slice (some ⟨s1, 0, none⟩) Q.n t1, .slice (some ⟨s2, 0, none⟩) Q.m t2, .int .i64 (Q.T : Nat), .int .i64 (Q.S : Nat), .slice (some ⟨s3, 0, none⟩) (Q.T * Q.S) t3] 27)) from hb.trans (((Below.refl _ _).alloc (Nat.le_refl _) _).mono hb.size))
      have Dq7 := Lib.hid (show DBox (w7.alloc (.cells #[.int .i64 (Q.S : Nat), .int .i64 (Q.T : Nat), .slice (some ⟨s1, 0, none⟩) Q.n t1, .slice (some ⟨s2, 0, none⟩) Q.m t2, .int .i64 (Q.T : Nat), .int .i64 (Q.S : Nat), .slice (some ⟨s3, 0, none⟩) (Q.T * Q.S) t3] 27)) w7.heap.size (PD.dr Q s1 t1 s2 t2 s3 t3) from DBox.new w7 (PD.dr Q s1 t1 s2 t2 s3 t3))
      have Qq7 := Lib.hid (hr3.next ((Below.refl _ _).alloc (Nat.le_refl _) (.cells #[.int .i64 (Q.S : Nat), .int .i64 (Q.T : Nat), .slice (some ⟨s1, 0, none⟩) Q.n t1, .slice (some ⟨s2, 0, none⟩) Q.m t2, .int .i64 (Q.T : Nat), .int .i64 (Q.S : Nat), .slice (some ⟨s3, 0, none⟩) (Q.T * Q.S) t3] 27)))
      clear hb hr3
      have X7 := Lib.hid (X6.out.below hba X6.out.lt)
      have Y7 := Lib.hid (Y6.out.next hba)
      have LB7 := Lib.hid (LB6.out.trans (hba.mono LB6.out.size))
      have Bw7 := Lib.hid (Bw6.out.below hba Bw6.out.lt)
      have Rw7 := Lib.hid (Rw6.out.below hba Rw6.out.lt)
      clear hba X6 Y6 LB6 Bw6 Rw6
      obtain ⟨q0, q1, q2, q3, q4, q5, q6, q7⟩ := Y7.out.all
      try dsimp only [PD.dr] at q0 q1 q2 q3 q4 q5 q6
      go_wp2_with fail
      clear q0 q1 q2 q3 q4 q5 q6 q7
      refine (HLST.out _ LB7.out).mono ?_
      rintro e w8 ⟨rfl, hb⟩
      have X8 := Lib.hid (X7.out.below hb X7.out.lt)
      have Y8 := Lib.hid (Y7.out.next hb)
      have LB8 := Lib.hid (LB7.out.trans (hb.mono LB7.out.size))
      have Bw8 := Lib.hid (Bw7.out.below hb Bw7.out.lt)
      have Rw8 := Lib.hid (Rw7.out.below hb Rw7.out.lt)
      have Dq8 := Lib.hid (Dq7.out.next hb)
      have Qq8 := Lib.hid (Qq7.out.next hb)
      clear hb X7 Y7 LB7 Bw7 Rw7 Dq7 Qq7
      cases hl : P.lst
      · skip
        have x1 : decide (((P.S : Nat) : Int) < (Q.S : Nat)) = false := by simp; exact qS
        have x2 : decide (((P.T : Nat) : Int) < (Q.T : Nat)) = false := by simp; exact qT
        obtain ⟨q0, q1, q2, q3, q4, q5, q6, q7⟩ := Dq8.out.all
        try dsimp only [PD.dr] at q0 q1 q2 q3 q4 q5 q6
        obtain ⟨r0, r1, r2, r3, r4, r5, r6, r7⟩ := Y8.out.all
        try dsimp only [PD.dr] at r0 r1 r2 r3 r4 r5 r6
        go_wp2_with fail
        clear q0 q1 q2 q3 q4 q5 q6 q7 r0 r1 r2 r3 r4 r5 r6 r7
        refine (alive_any _ (HE.out _ LB8.out)).mono ?_
        rintro e w9 ⟨rfl, hb⟩
        have X9 := Lib.hid (X8.out.below hb X8.out.lt)
        have Y9 := Lib.hid (Y8.out.next hb)
        have LB9 := Lib.hid (LB8.out.trans (hb.mono LB8.out.size))
        have Bw9 := Lib.hid (Bw8.out.below hb Bw8.out.lt)
        have Rw9 := Lib.hid (Rw8.out.below hb Rw8.out.lt)
        have Dq9 := Lib.hid (Dq8.out.next hb)
        have Qq9 := Lib.hid (Qq8.out.next hb)
        clear hb X8 Y8 LB8 Bw8 Rw8 Dq8 Qq8
        go_wp2
        go_ret
        exact ⟨rfl, LB9.out⟩
      · skip
        have x1 : decide (((P.S : Nat) : Int) < (Q.S : Nat)) = false := by simp; exact qS
        have x2 : decide (((P.T : Nat) : Int) < (Q.T : Nat)) = false := by simp; exact qT
        obtain ⟨hM, aQ, aP⟩ := HMT.out hl
        have hMt := Lib.hid hM
        have eS := Lib.hid (show Q.S = P.S from hM.e.S)
        have eT := Lib.hid (show Q.T = P.T from hM.e.T)
        have HDM := Lib.hid ((dm_case (PD.dr_is Q s1 t1 s2 t2 s3 t3) HI.out HQOK.out HP.out aQ aP).elim (fun h => h.2) (fun h => absurd hM h.1))
        clear hM aQ aP
        obtain ⟨q0, q1, q2, q3, q4, q5, q6, q7⟩ := Dq8.out.all
        try dsimp only [PD.dr] at q0 q1 q2 q3 q4 q5 q6
        obtain ⟨r0, r1, r2, r3, r4, r5, r6, r7⟩ := Y8.out.all
        try dsimp only [PD.dr] at r0 r1 r2 r3 r4 r5 r6
        go_wp2_with fail
        clear q0 q1 q2 q3 q4 q5 q6 q7 r0 r1 r2 r3 r4 r5 r6 r7
        refine (HDM.out _ (Qq8.out.dr t1 t2 t3) (HIN.out _ LB8.out)).mono ?_
        rintro e w9 ⟨A1, c1, A2, c2, rfl, hm1, hm2, hb⟩
        have M9 := Lib.hid (show LRow w9 A1 Q.S (Q.mf P) from hm1)
        have N9 := Lib.hid (show LRow w9 A2 Q.T (Q.mg P) from hm2)
        clear hm1 hm2
        have X9 := Lib.hid (X8.out.below hb X8.out.lt)
        have Y9 := Lib.hid (Y8.out.next hb)
        have LB9 := Lib.hid (LB8.out.trans (hb.mono LB8.out.size))
        have Bw9 := Lib.hid (Bw8.out.below hb Bw8.out.lt)
        have Rw9 := Lib.hid (Rw8.out.below hb Rw8.out.lt)
        have Dq9 := Lib.hid (Dq8.out.next hb)
        have Qq9 := Lib.hid (Qq8.out.next hb)
        clear hb X8 Y8 LB8 Bw8 Rw8 Dq8 Qq8
        obtain ⟨q0, q1, q2, q3, q4, q5, q6, q7⟩ := Dq9.out.all
        try dsimp only [PD.dr] at q0 q1 q2 q3 q4 q5 q6
        go_wp2_with fail
        clear q0 q1 q2 q3 q4 q5 q6 q7
        refine (renumber_ok (PD.dr_is Q s1 t1 s2 t2 s3 t3) HQOK.out A1 A2 _ _ c1 c2 _ _ hMt.out.pf hMt.out.pg _ (Qq9.out.dr t1 t2 t3) M9.out.holds N9.out.holds).mono ?_
        rintro e w10 ⟨x1, y1, x2, y2, x3, y3, rfl, hr3, hb⟩
        have hba := (show Below _ _ (w10.alloc (.cells #[.int .i64 ((Q.rnm (Q.mf P) (Q.mg P)).S : Nat), .int .i64 ((Q.rnm (Q.mf P) (Q.mg P)).T : Nat), .slice (some ⟨x1, 0, none⟩) (Q.rnm (Q.mf P) (Q.mg P)).n y1, .slice (some ⟨x2, 0, none⟩) (Q.rnm (Q.mf P) (Q.mg P)).m y2, .int .i64 ((Q.rnm (Q.mf P) (Q.mg P)).T : Nat), .int .i64 ((Q.rnm (Q.mf P) (Q.mg P)).S : Nat), .slice (some ⟨x3, 0, none⟩) ((Q.rnm (Q.mf P) (Q.mg P)).T * (Q.rnm (Q.mf P) (Q.mg P)).S) y3] 27)) from hb.trans (((Below.refl _ _).alloc (Nat.le_refl _) _).mono hb.size))
        have Dv10 := Lib.hid (show DBox (w10.alloc (.cells #[.int .i64 ((Q.rnm (Q.mf P) (Q.mg P)).S : Nat), .int .i64 ((Q.rnm (Q.mf P) (Q.mg P)).T : Nat), .slice (some ⟨x1, 0, none⟩) (Q.rnm (Q.mf P) (Q.mg P)).n y1, .slice (some ⟨x2, 0, none⟩) (Q.rnm (Q.mf P) (Q.mg P)).m y2, .int .i64 ((Q.rnm (Q.mf P) (Q.mg P)).T : Nat), .int .i64 ((Q.rnm (Q.mf P) (Q.mg P)).S : Nat), .slice (some ⟨x3, 0, none⟩) ((Q.rnm (Q.mf P) (Q.mg P)).T * (Q.rnm (Q.mf P) (Q.mg P)).S) y3] 27)) w10.heap.size (PD.dr (Q.rnm (Q.mf P) (Q.mg P)) x1 y1 x2 y2 x3 y3) from DBox.new w10 (PD.dr (Q.rnm (Q.mf P) (Q.mg P)) x1 y1 x2 y2 x3 y3))
        have Qv10 := Lib.hid (hr3.next ((Below.refl _ _).alloc (Nat.le_refl _) (.cells #[.int .i64 ((Q.rnm (Q.mf P) (Q.mg P)).S : Nat), .int .i64 ((Q.rnm (Q.mf P) (Q.mg P)).T : Nat), .slice (some ⟨x1, 0, none⟩) (Q.rnm (Q.mf P) (Q.mg P)).n y1, .slice (some ⟨x2, 0, none⟩) (Q.rnm (Q.mf P) (Q.mg P)).m y2, .int .i64 ((Q.rnm (Q.mf P) (Q.mg P)).T : Nat), .int .i64 ((Q.rnm (Q.mf P) (Q.mg P)).S : Nat), .slice (some ⟨x3, 0, none⟩) ((Q.rnm (Q.mf P) (Q.mg P)).T * (Q.rnm (Q.mf P) (Q.mg P)).S) y3] 27)))
        clear hb hr3
        have X10 := Lib.hid (X9.out.below hba X9.out.lt)
        have Y10 := Lib.hid (Y9.out.next hba)
        have LB10 := Lib.hid (LB9.out.trans (hba.mono LB9.out.size))
        have Bw10 := Lib.hid (Bw9.out.below hba Bw9.out.lt)
        have Rw10 := Lib.hid (Rw9.out.below hba Rw9.out.lt)
        have Dq10 := Lib.hid (Dq9.out.next hba)
        have Qq10 := Lib.hid (Qq9.out.next hba)
        have M10 := Lib.hid (M9.out.next hba)
        have N10 := Lib.hid (N9.out.next hba)
        clear hba X9 Y9 LB9 Bw9 Rw9 Dq9 Qq9 M9 N9
        obtain ⟨q0, q1, q2, q3, q4, q5, q6, q7⟩ := Dv10.out.all
        try dsimp only [PD.dr] at q0 q1 q2 q3 q4 q5 q6
        obtain ⟨r0, r1, r2, r3, r4, r5, r6, r7⟩ := Y10.out.all
        try dsimp only [PD.dr] at r0 r1 r2 r3 r4 r5 r6
        go_wp2_with fail
        clear q0 q1 q2 q3 q4 q5 q6 q7 r0 r1 r2 r3 r4 r5 r6 r7
        refine (rdsame_any (PD.dr (Q.rnm (Q.mf P) (Q.mg P)) x1 y1 x2 y2 x3 y3) ⟨P.S, P.T, A, P.n, ca, B, P.m, cb, P.T, P.S, C, P.T * P.S, cc, f, g, bb⟩ _ ((PD.dr_is (Q.rnm (Q.mf P) (Q.mg P)) x1 y1 x2 y2 x3 y3).small (rnm_ok HQOK.out hMt.out.pf hMt.out.pg)) (Qv10.out.dr y1 y2 y3) (HIN.out _ LB10.out)).mono ?_
        rintro e w11 ⟨rfl, hb⟩
        have X11 := Lib.hid (X10.out.below hb X10.out.lt)
        have Y11 := Lib.hid (Y10.out.next hb)
        have LB11 := Lib.hid (LB10.out.trans (hb.mono LB10.out.size))
        have Bw11 := Lib.hid (Bw10.out.below hb Bw10.out.lt)
        have Rw11 := Lib.hid (Rw10.out.below hb Rw10.out.lt)
        have Dq11 := Lib.hid (Dq10.out.next hb)
        have Qq11 := Lib.hid (Qq10.out.next hb)
        have M11 := Lib.hid (M10.out.next hb)
        have N11 := Lib.hid (N10.out.next hb)
        have Dv11 := Lib.hid (Dv10.out.next hb)
        have Qv11 := Lib.hid (Qv10.out.next hb)
        clear hb X10 Y10 LB10 Bw10 Rw10 Dq10 Qq10 M10 N10 Dv10 Qv10
        rw [(dsm_is (PD.dr_is (Q.rnm (Q.mf P) (Q.mg P)) x1 y1 x2 y2 x3 y3) HI.out (rnm_ok HQOK.out hMt.out.pf hMt.out.pg)).2 hMt.out.e]
        have z1 : (((Q.S : Nat) : Int) == (P.S : Nat)) = true := by simp [eS.out]
        have z2 : (((Q.T : Nat) : Int) == (P.T : Nat)) = true := by simp [eT.out]
        obtain ⟨q0, q1, q2, q3, q4, q5, q6, q7⟩ := Dq11.out.all
        try dsimp only [PD.dr] at q0 q1 q2 q3 q4 q5 q6
        obtain ⟨r0, r1, r2, r3, r4, r5, r6, r7⟩ := Y11.out.all
        try dsimp only [PD.dr] at r0 r1 r2 r3 r4 r5 r6
        go_wp2_with fail
        clear q0 q1 q2 q3 q4 q5 q6 q7 r0 r1 r2 r3 r4 r5 r6 r7
        refine (alive_any _ (HE.out _ LB11.out)).mono ?_
        rintro e w12 ⟨rfl, hb⟩
        have X12 := Lib.hid (X11.out.below hb X11.out.lt)
        have Y12 := Lib.hid (Y11.out.next hb)
        have LB12 := Lib.hid (LB11.out.trans (hb.mono LB11.out.size))
        have Bw12 := Lib.hid (Bw11.out.below hb Bw11.out.lt)
        have Rw12 := Lib.hid (Rw11.out.below hb Rw11.out.lt)
        have Dq12 := Lib.hid (Dq11.out.next hb)
        have Qq12 := Lib.hid (Qq11.out.next hb)
        have M12 := Lib.hid (M11.out.next hb)
        have N12 := Lib.hid (N11.out.next hb)
        have Dv12 := Lib.hid (Dv11.out.next hb)
        have Qv12 := Lib.hid (Qv11.out.next hb)
        clear hb X11 Y11 LB11 Bw11 Rw11 Dq11 Qq11 M11 N11 Dv11 Qv11
        go_wp2
        go_ret
        exact ⟨rfl, LB12.out⟩
    · skip
      obtain ⟨q0, q1, q2, q3, q4, q5, q6⟩ := X3.out.all
      go_wp2_with fail
      clear q0 q1 q2 q3 q4 q5 q6
      refine (HMANY.out hm _ LB3.out).mono ?_
      rintro e w4 ⟨rfl, hb⟩
      have hba := (show Below _ _ (w4.alloc (.cells #[.int .i64 0, .int .i64 0, .slice none 0 0, .slice none 0 0, .int .i64 0, .int .i64 0, .slice none 0 0] 27)) from hb.trans (((Below.refl _ _).alloc (Nat.le_refl _) _).mono hb.size))
      clear hb
      have X4 := Lib.hid (X3.out.below hba X3.out.lt)
      have Y4 := Lib.hid (Y3.out.next hba)
      have LB4 := Lib.hid (LB3.out.trans (hba.mono LB3.out.size))
      clear hba X3 Y3 LB3
      obtain ⟨q0, q1, q2, q3, q4, q5, q6⟩ := X4.out.all
      go_wp2_with fail
      clear q0 q1 q2 q3 q4 q5 q6
      refine (HCNT.out _ LB4.out).mono ?_
      rintro e w5 ⟨rfl, hb⟩
      have X5 := Lib.hid (X4.out.below hb X4.out.lt)
      have Y5 := Lib.hid (Y4.out.next hb)
      have LB5 := Lib.hid (LB4.out.trans (hb.mono LB4.out.size))
      clear hb X4 Y4 LB4
      obtain ⟨q0, q1, q2, q3, q4, q5, q6, q7⟩ := Y5.out.all
      try dsimp only [PD.dr] at q0 q1 q2 q3 q4 q5 q6
      go_wp2_with fail
      clear q0 q1 q2 q3 q4 q5 q6 q7
      refine (HW.out _ LB5.out).mono ?_
      rintro e w6 ⟨kw, rfl, hkt, hrt, hb⟩
      have hba := (show Below _ _ (w6.alloc (.cells #[.int .i64 (P.n : Nat), .int .i64 (P.m : Nat), .slice (some ⟨kw, 0, none⟩) (P.n * P.m) (P.n * P.m)] 25)) from hb.trans (((Below.refl _ _).alloc (Nat.le_refl _) _).mono hb.size))
      have Bw6 := Lib.hid (Box.new w6 P.n P.m (.slice (some ⟨kw, 0, none⟩) (P.n * P.m) (P.n * P.m)))
      have Rw6 := Lib.hid (hrt.alloc (.cells #[.int .i64 (P.n : Nat), .int .i64 (P.m : Nat), .slice (some ⟨kw, 0, none⟩) (P.n * P.m) (P.n * P.m)] 25))
      clear hb hrt
      have X6 := Lib.hid (X5.out.below hba X5.out.lt)
      have Y6 := Lib.hid (Y5.out.next hba)
      have LB6 := Lib.hid (LB5.out.trans (hba.mono LB5.out.size))
      clear hba X5 Y5 LB5
      obtain ⟨q0, q1, q2, q3, q4, q5, q6⟩ := Bw6.out.all
      go_wp2_with fail
      clear q0 q1 q2 q3 q4 q5 q6
      refine (HOF2.out _ kw (HE.out _ LB6.out) Rw6.out).mono ?_
      rintro e w7 ⟨s1, t1, s2, t2, s3, t3, rfl, hr3, hb⟩
      have hba := (show Below _ _ (w7.alloc (.cells #[.int .i64 (Q.S : Nat), .int .i64 (Q.T : Nat), .slice (some ⟨s1, 0, none⟩) Q.n t1, .slice (some ⟨s2, 0, none⟩) Q.m t2, .int .i64 (Q.T : Nat), .int .i64 (Q.S : Nat), .slice (some ⟨s3, 0, none⟩) (Q.T * Q.S) t3] 27)) from hb.trans (((Below.refl _ _).alloc (Nat.le_refl _) _).mono hb.size))
      have Dq7 := Lib.hid (show DBox (w7.alloc (.cells #[.int .i64 (Q.S : Nat), .int .i64 (Q.T : Nat), .slice (some ⟨s1, 0, none⟩) Q.n t1, .slice (some ⟨s2, 0, none⟩) Q.m t2, .int .i64 (Q.T : Nat), .int .i64 (Q.S : Nat), .slice (some ⟨s3, 0, none⟩) (Q.T * Q.S) t3] 27)) w7.heap.size (PD.dr Q s1 t1 s2 t2 s3 t3) from DBox.new w7 (PD.dr Q s1 t1 s2 t2 s3 t3))
      have Qq7 := Lib.hid (hr3.next ((Below.refl _ _).alloc (Nat.le_refl _) (.cells #[.int .i64 (Q.S : Nat), .int .i64 (Q.T : Nat), .slice (some ⟨s1, 0, none⟩) Q.n t1, .slice (some ⟨s2, 0, none⟩) Q.m t2, .int .i64 (Q.T : Nat), .int .i64 (Q.S : Nat), .slice (some ⟨s3, 0, none⟩) (Q.T * Q.S) t3] 27)))
      clear hb hr3
      have X7 := Lib.hid (X6.out.below hba X6.out.lt)
      have Y7 := Lib.hid (Y6.out.next hba)
      have LB7 := Lib.hid (LB6.out.trans (hba.mono LB6.out.size))
      have Bw7 := Lib.hid (Bw6.out.below hba Bw6.out.lt)
      have Rw7 := Lib.hid (Rw6.out.below hba Rw6.out.lt)
      clear hba X6 Y6 LB6 Bw6 Rw6
      obtain ⟨q0, q1, q2, q3, q4, q5, q6, q7⟩ := Y7.out.all
      try dsimp only [PD.dr] at q0 q1 q2 q3 q4 q5 q6
      go_wp2_with fail
      clear q0 q1 q2 q3 q4 q5 q6 q7
      refine (HLST.out _ LB7.out).mono ?_
      rintro e w8 ⟨rfl, hb⟩
      have X8 := Lib.hid (X7.out.below hb X7.out.lt)
      have Y8 := Lib.hid (Y7.out.next hb)
      have LB8 := Lib.hid (LB7.out.trans (hb.mono LB7.out.size))
      have Bw8 := Lib.hid (Bw7.out.below hb Bw7.out.lt)
      have Rw8 := Lib.hid (Rw7.out.below hb Rw7.out.lt)
      have Dq8 := Lib.hid (Dq7.out.next hb)
      have Qq8 := Lib.hid (Qq7.out.next hb)
      clear hb X7 Y7 LB7 Bw7 Rw7 Dq7 Qq7
      cases hl : P.lst
      · skip
        have x1 : decide (((P.S : Nat) : Int) < (Q.S : Nat)) = false := by simp; exact qS
        have x2 : decide (((P.T : Nat) : Int) < (Q.T : Nat)) = false := by simp; exact qT
        obtain ⟨q0, q1, q2, q3, q4, q5, q6, q7⟩ := Dq8.out.all
        try dsimp only [PD.dr] at q0 q1 q2 q3 q4 q5 q6
        obtain ⟨r0, r1, r2, r3, r4, r5, r6, r7⟩ := Y8.out.all
        try dsimp only [PD.dr] at r0 r1 r2 r3 r4 r5 r6
        go_wp2_with fail
        clear q0 q1 q2 q3 q4 q5 q6 q7 r0 r1 r2 r3 r4 r5 r6 r7
        refine (alive_any _ (HE.out _ LB8.out)).mono ?_
        rintro e w9 ⟨rfl, hb⟩
        have X9 := Lib.hid (X8.out.below hb X8.out.lt)
        have Y9 := Lib.hid (Y8.out.next hb)
        have LB9 := Lib.hid (LB8.out.trans (hb.mono LB8.out.size))
        have Bw9 := Lib.hid (Bw8.out.below hb Bw8.out.lt)
        have Rw9 := Lib.hid (Rw8.out.below hb Rw8.out.lt)
        have Dq9 := Lib.hid (Dq8.out.next hb)
        have Qq9 := Lib.hid (Qq8.out.next hb)
        clear hb X8 Y8 LB8 Bw8 Rw8 Dq8 Qq8
        go_wp2
        go_ret
        exact ⟨rfl, LB9.out⟩
      · skip
        have x1 : decide (((P.S : Nat) : Int) < (Q.S : Nat)) = false := by simp; exact qS
        have x2 : decide (((P.T : Nat) : Int) < (Q.T : Nat)) = false := by simp; exact qT
        obtain ⟨hM, aQ, aP⟩ := HMT.out hl
        have hMt := Lib.hid hM
        have eS := Lib.hid (show Q.S = P.S from hM.e.S)
        have eT := Lib.hid (show Q.T = P.T from hM.e.T)
        have HDM := Lib.hid ((dm_case (PD.dr_is Q s1 t1 s2 t2 s3 t3) HI.out HQOK.out HP.out aQ aP).elim (fun h => h.2) (fun h => absurd hM h.1))
        clear hM aQ aP
        obtain ⟨q0, q1, q2, q3, q4, q5, q6, q7⟩ := Dq8.out.all
        try dsimp only [PD.dr] at q0 q1 q2 q3 q4 q5 q6
        obtain ⟨r0, r1, r2, r3, r4, r5, r6, r7⟩ := Y8.out.all
        try dsimp only [PD.dr] at r0 r1 r2 r3 r4 r5 r6
        go_wp2_with fail
        clear q0 q1 q2 q3 q4 q5 q6 q7 r0 r1 r2 r3 r4 r5 r6 r7
        refine (HDM.out _ (Qq8.out.dr t1 t2 t3) (HIN.out _ LB8.out)).mono ?_
        rintro e w9 ⟨A1, c1, A2, c2, rfl, hm1, hm2, hb⟩
        have M9 := Lib.hid (show LRow w9 A1 Q.S (Q.mf P) from hm1)
        have N9 := Lib.hid (show LRow w9 A2 Q.T (Q.mg P) from hm2)
        clear hm1 hm2
        have X9 := Lib.hid (X8.out.below hb X8.out.lt)
        have Y9 := Lib.hid (Y8.out.next hb)
        have LB9 := Lib.hid (LB8.out.trans (hb.mono LB8.out.size))
        have Bw9 := Lib.hid (Bw8.out.below hb Bw8.out.lt)
        have Rw9 := Lib.hid (Rw8.out.below hb Rw8.out.lt)
        have Dq9 := Lib.hid (Dq8.out.next hb)
        have Qq9 := Lib.hid (Qq8.out.next hb)
        clear hb X8 Y8 LB8 Bw8 Rw8 Dq8 Qq8
        obtain ⟨q0, q1, q2, q3, q4, q5, q6, q7⟩ := Dq9.out.all
        try dsimp only [PD.dr] at q0 q1 q2 q3 q4 q5 q6
        go_wp2_with fail
        clear q0 q1 q2 q3 q4 q5 q6 q7
        refine (renumber_ok (PD.dr_is Q s1 t1 s2 t2 s3 t3) HQOK.out A1 A2 _ _ c1 c2 _ _ hMt.out.pf hMt.out.pg _ (Qq9.out.dr t1 t2 t3) M9.out.holds N9.out.holds).mono ?_
        rintro e w10 ⟨x1, y1, x2, y2, x3, y3, rfl, hr3, hb⟩
        have hba := (show Below _ _ (w10.alloc (.cells #[.int .i64 ((Q.rnm (Q.mf P) (Q.mg P)).S : Nat), .int .i64 ((Q.rnm (Q.mf P) (Q.mg P)).T : Nat), .slice (some ⟨x1, 0, none⟩) (Q.rnm (Q.mf P) (Q.mg P)).n y1, .slice (some ⟨x2, 0, none⟩) (Q.rnm (Q.mf P) (Q.mg P)).m y2, .int .i64 ((Q.rnm (Q.mf P) (Q.mg P)).T : Nat), .int .i64 ((Q.rnm (Q.mf P) (Q.mg P)).S : Nat), .slice (some ⟨x3, 0, none⟩) ((Q.rnm (Q.mf P) (Q.mg P)).T * (Q.rnm (Q.mf P) (Q.mg P)).S) y3] 27)) from hb.trans (((Below.refl _ _).alloc (Nat.le_refl _) _).mono hb.size))
        have Dv10 := Lib.hid (show DBox (w10.alloc (.cells #[.int .i64 ((Q.rnm (Q.mf P) (Q.mg P)).S : Nat), .int .i64 ((Q.rnm (Q.mf P) (Q.mg P)).T : Nat), .slice (some ⟨x1, 0, none⟩) (Q.rnm (Q.mf P) (Q.mg P)).n y1, .slice (some ⟨x2, 0, none⟩) (Q.rnm (Q.mf P) (Q.mg P)).m y2, .int .i64 ((Q.rnm (Q.mf P) (Q.mg P)).T : Nat), .int .i64 ((Q.rnm (Q.mf P) (Q.mg P)).S : Nat), .slice (some ⟨x3, 0, none⟩) ((Q.rnm (Q.mf P) (Q.mg P)).T * (Q.rnm (Q.mf P) (Q.mg P)).S) y3] 27)) w10.heap.size (PD.dr (Q.rnm (Q.mf P) (Q.mg P)) x1 y1 x2 y2 x3 y3) from DBox.new w10 (PD.dr (Q.rnm (Q.mf P) (Q.mg P)) x1 y1 x2 y2 x3 y3))
        have Qv10 := Lib.hid (hr3.next ((Below.refl _ _).alloc (Nat.le_refl _) (.cells #[.int .i64 ((Q.rnm (Q.mf P) (Q.mg P)).S : Nat), .int .i64 ((Q.rnm (Q.mf P) (Q.mg P)).T : Nat), .slice (some ⟨x1, 0, none⟩) (Q.rnm (Q.mf P) (Q.mg P)).n y1, .slice (some ⟨x2, 0, none⟩) (Q.rnm (Q.mf P) (Q.mg P)).m y2, .int .i64 ((Q.rnm (Q.mf P) (Q.mg P)).T : Nat), .int .i64 ((Q.rnm (Q.mf P) (Q.mg P)).S : Nat), .slice (some ⟨x3, 0, none⟩) ((Q.rnm (Q.mf P) (Q.mg P)).T * (Q.rnm (Q.mf P) (Q.mg P)).S) y3] 27)))
        clear hb hr3
        have X10 := Lib.hid (X9.out.below hba X9.out.lt)
        have Y10 := Lib.hid (Y9.out.next hba)
        have LB10 := Lib.hid (LB9.out.trans (hba.mono LB9.out.size))
        have Bw10 := Lib.hid (Bw9.out.below hba Bw9.out.lt)
        have Rw10 := Lib.hid (Rw9.out.below hba Rw9.out.lt)
        have Dq10 := Lib.hid (Dq9.out.next hba)
        have Qq10 := Lib.hid (Qq9.out.next hba)
        have M10 := Lib.hid (M9.out.next hba)
        have N10 := Lib.hid (N9.out.next hba)
        clear hba X9 Y9 LB9 Bw9 Rw9 Dq9 Qq9 M9 N9
        obtain ⟨q0, q1, q2, q3, q4, q5, q6, q7⟩ := Dv10.out.all
        try dsimp only [PD.dr] at q0 q1 q2 q3 q4 q5 q6
        obtain ⟨r0, r1, r2, r3, r4, r5, r6, r7⟩ := Y10.out.all
        try dsimp only [PD.dr] at r0 r1 r2 r3 r4 r5 r6
        go_wp2_with fail
        clear q0 q1 q2 q3 q4 q5 q6 q7 r0 r1 r2 r3 r4 r5 r6 r7
        refine (rdsame_any (PD.dr (Q.rnm (Q.mf P) (Q.mg P)) x1 y1 x2 y2 x3 y3) ⟨P.S, P.T, A, P.n, ca, B, P.m, cb, P.T, P.S, C, P.T * P.S, cc, f, g, bb⟩ _ ((PD.dr_is (Q.rnm (Q.mf P) (Q.mg P)) x1 y1 x2 y2 x3 y3).small (rnm_ok HQOK.out hMt.out.pf hMt.out.pg)) (Qv10.out.dr y1 y2 y3) (HIN.out _ LB10.out)).mono ?_
        rintro e w11 ⟨rfl, hb⟩
        have X11 := Lib.hid (X10.out.below hb X10.out.lt)
        have Y11 := Lib.hid (Y10.out.next hb)
        have LB11 := Lib.hid (LB10.out.trans (hb.mono LB10.out.size))
        have Bw11 := Lib.hid (Bw10.out.below hb Bw10.out.lt)
        have Rw11 := Lib.hid (Rw10.out.below hb Rw10.out.lt)
        have Dq11 := Lib.hid (Dq10.out.next hb)
        have Qq11 := Lib.hid (Qq10.out.next hb)
        have M11 := Lib.hid (M10.out.next hb)
        have N11 := Lib.hid (N10.out.next hb)
        have Dv11 := Lib.hid (Dv10.out.next hb)
        have Qv11 := Lib.hid (Qv10.out.next hb)
        clear hb X10 Y10 LB10 Bw10 Rw10 Dq10 Qq10 M10 N10 Dv10 Qv10
        rw [(dsm_is (PD.dr_is (Q.rnm (Q.mf P) (Q.mg P)) x1 y1 x2 y2 x3 y3) HI.out (rnm_ok HQOK.out hMt.out.pf hMt.out.pg)).2 hMt.out.e]
        have z1 : (((Q.S : Nat) : Int) == (P.S : Nat)) = true := by simp [eS.out]
        have z2 : (((Q.T : Nat) : Int) == (P.T : Nat)) = true := by simp [eT.out]
        obtain ⟨q0, q1, q2, q3, q4, q5, q6, q7⟩ := Dq11.out.all
        try dsimp only [PD.dr] at q0 q1 q2 q3 q4 q5 q6
        obtain ⟨r0, r1, r2, r3, r4, r5, r6, r7⟩ := Y11.out.all
        try dsimp only [PD.dr] at r0 r1 r2 r3 r4 r5 r6
        go_wp2_with fail
        clear q0 q1 q2 q3 q4 q5 q6 q7 r0 r1 r2 r3 r4 r5 r6 r7
        refine (alive_any _ (HE.out _ LB11.out)).mono ?_
        rintro e w12 ⟨rfl, hb⟩
        have X12 := Lib.hid (X11.out.below hb X11.out.lt)
        have Y12 := Lib.hid (Y11.out.next hb)
        have LB12 := Lib.hid (LB11.out.trans (hb.mono LB11.out.size))
        have Bw12 := Lib.hid (Bw11.out.below hb Bw11.out.lt)
        have Rw12 := Lib.hid (Rw11.out.below hb Rw11.out.lt)
        have Dq12 := Lib.hid (Dq11.out.next hb)
        have Qq12 := Lib.hid (Qq11.out.next hb)
        have M12 := Lib.hid (M11.out.next hb)
        have N12 := Lib.hid (N11.out.next hb)
        have Dv12 := Lib.hid (Dv11.out.next hb)
        have Qv12 := Lib.hid (Qv11.out.next hb)
        clear hb X11 Y11 LB11 Bw11 Rw11 Dq11 Qq11 M11 N11 Dv11 Qv11
        go_wp2
        go_ret
        exact ⟨rfl, LB12.out⟩
  · skip
    obtain ⟨q0, q1, q2, q3, q4, q5, q6⟩ := X3.out.all
    go_wp2_with fail
    clear q0 q1 q2 q3 q4 q5 q6
    refine (HOK.out hm _ LB3.out).mono ?_
    rintro e w4 ⟨a1, d1, a2, d2, a3, d3, rfl, hr3, hb⟩
    have hba := (show Below _ _ (w4.alloc (.cells #[.int .i64 (R.S : Nat), .int .i64 (R.T : Nat), .slice (some ⟨a1, 0, none⟩) R.n d1, .slice (some ⟨a2, 0, none⟩) R.m d2, .int .i64 (R.T : Nat), .int .i64 (R.S : Nat), .slice (some ⟨a3, 0, none⟩) (R.T * R.S) d3] 27)) from hb.trans (((Below.refl _ _).alloc (Nat.le_refl _) _).mono hb.size))
    have Dr4 := Lib.hid (show DBox (w4.alloc (.cells #[.int .i64 (R.S : Nat), .int .i64 (R.T : Nat), .slice (some ⟨a1, 0, none⟩) R.n d1, .slice (some ⟨a2, 0, none⟩) R.m d2, .int .i64 (R.T : Nat), .int .i64 (R.S : Nat), .slice (some ⟨a3, 0, none⟩) (R.T * R.S) d3] 27)) w4.heap.size (PD.dr R a1 d1 a2 d2 a3 d3) from DBox.new w4 (PD.dr R a1 d1 a2 d2 a3 d3))
    have Qr4 := Lib.hid (hr3.next ((Below.refl _ _).alloc (Nat.le_refl _) (.cells #[.int .i64 (R.S : Nat), .int .i64 (R.T : Nat), .slice (some ⟨a1, 0, none⟩) R.n d1, .slice (some ⟨a2, 0, none⟩) R.m d2, .int .i64 (R.T : Nat), .int .i64 (R.S : Nat), .slice (some ⟨a3, 0, none⟩) (R.T * R.S) d3] 27)))
    clear hb hr3
    have X4 := Lib.hid (X3.out.below hba X3.out.lt)
    have Y4 := Lib.hid (Y3.out.next hba)
    have LB4 := Lib.hid (LB3.out.trans (hba.mono LB3.out.size))
    clear hba X3 Y3 LB3
    obtain ⟨q0, q1, q2, q3, q4, q5, q6, q7⟩ := Dr4.out.all
    try dsimp only [PD.dr] at q0 q1 q2 q3 q4 q5 q6
    go_wp2_with fail
    clear q0 q1 q2 q3 q4 q5 q6 q7
    refine (HRW.out (HROK.out hm) _ (PD.dr_is R a1 d1 a2 d2 a3 d3) _ (Qr4.out.dr d1 d2 d3)).mono ?_
    rintro e w5 ⟨kt, rfl, hkt, hrt, hb⟩
    have hba := (show Below _ _ (w5.alloc (.cells #[.int .i64 (W : Nat), .int .i64 (H : Nat), .slice (some ⟨kt, 0, none⟩) (W * H) (W * H)] 25)) from hb.trans (((Below.refl _ _).alloc (Nat.le_refl _) _).mono hb.size))
    have Bt5 := Lib.hid (Box.new w5 W H (.slice (some ⟨kt, 0, none⟩) (W * H) (W * H)))
    have Rt5 := Lib.hid (hrt.alloc (.cells #[.int .i64 (W : Nat), .int .i64 (H : Nat), .slice (some ⟨kt, 0, none⟩) (W * H) (W * H)] 25))
    clear hb hrt
    have X5 := Lib.hid (X4.out.below hba X4.out.lt)
    have Y5 := Lib.hid (Y4.out.next hba)
    have LB5 := Lib.hid (LB4.out.trans (hba.mono LB4.out.size))
    have Dr5 := Lib.hid (Dr4.out.next hba)
    have Qr5 := Lib.hid (Qr4.out.next hba)
    clear hba X4 Y4 LB4 Dr4 Qr4
    obtain ⟨q0, q1, q2, q3, q4, q5, q6, q7⟩ := Dr5.out.all
    try dsimp only [PD.dr] at q0 q1 q2 q3 q4 q5 q6
    go_wp2_with fail
    clear q0 q1 q2 q3 q4 q5 q6 q7
    refine (fleast_ok (PD.dr_is R a1 d1 a2 d2 a3 d3) (HROK.out hm) _ (Qr5.out.dr d1 d2 d3)).mono ?_
    rintro e w6 ⟨rfl, hb⟩
    have X6 := Lib.hid (X5.out.below hb X5.out.lt)
    have Y6 := Lib.hid (Y5.out.next hb)
    have LB6 := Lib.hid (LB5.out.trans (hb.mono LB5.out.size))
    have Dr6 := Lib.hid (Dr5.out.next hb)
    have Qr6 := Lib.hid (Qr5.out.next hb)
    have Bt6 := Lib.hid (Bt5.out.below hb Bt5.out.lt)
    have Rt6 := Lib.hid (Rt5.out.below hb Rt5.out.lt)
    clear hb X5 Y5 LB5 Dr5 Qr5 Bt5 Rt5
    rw [HRL.out]
    obtain ⟨q0, q1, q2, q3, q4, q5, q6⟩ := Bt6.out.all
    obtain ⟨r0, r1, r2, r3, r4, r5, r6⟩ := X6.out.all
    go_wp2_with fail
    clear q0 q1 q2 q3 q4 q5 q6 r0 r1 r2 r3 r4 r5 r6
    refine (rgsm_any W H W H (some ⟨kt, 0, none⟩) (some ⟨b, o, none⟩) (W * H) n (W * H) c u u _ (by have := HN.out; omega) (Rt6.out.holds Rt6.out.lt) (HRH.out _ LB6.out)).mono ?_
    rintro e w7 ⟨rfl, hb⟩
    have X7 := Lib.hid (X6.out.below hb X6.out.lt)
    have Y7 := Lib.hid (Y6.out.next hb)
    have LB7 := Lib.hid (LB6.out.trans (hb.mono LB6.out.size))
    have Dr7 := Lib.hid (Dr6.out.next hb)
    have Qr7 := Lib.hid (Qr6.out.next hb)
    have Bt7 := Lib.hid (Bt6.out.below hb Bt6.out.lt)
    have Rt7 := Lib.hid (Rt6.out.below hb Rt6.out.lt)
    clear hb X6 Y6 LB6 Dr6 Qr6 Bt6 Rt6
    rw [show gsm (W : Int) (H : Int) (W * H) u (W : Int) (H : Int) n u = true by rw [HN.out]; exact gsm_self_ _ _ _ _]
    clear Rt7
    clear Bt7
    obtain ⟨q0, q1, q2, q3, q4, q5, q6⟩ := X7.out.all
    go_wp2_with fail
    clear q0 q1 q2 q3 q4 q5 q6
    refine (HCNT.out _ LB7.out).mono ?_
    rintro e w8 ⟨rfl, hb⟩
    have X8 := Lib.hid (X7.out.below hb X7.out.lt)
    have Y8 := Lib.hid (Y7.out.next hb)
    have LB8 := Lib.hid (LB7.out.trans (hb.mono LB7.out.size))
    have Dr8 := Lib.hid (Dr7.out.next hb)
    have Qr8 := Lib.hid (Qr7.out.next hb)
    clear hb X7 Y7 LB7 Dr7 Qr7
    have sx : (((R.S : Nat) : Int) != (R.S : Nat)) = false := by simp
    have sy : (((R.T : Nat) : Int) != (R.T : Nat)) = false := by simp
    obtain ⟨q0, q1, q2, q3, q4, q5, q6, q7⟩ := Y8.out.all
    try dsimp only [PD.dr] at q0 q1 q2 q3 q4 q5 q6
    obtain ⟨r0, r1, r2, r3, r4, r5, r6, r7⟩ := Dr8.out.all
    try dsimp only [PD.dr] at r0 r1 r2 r3 r4 r5 r6
    go_wp2_with fail
    clear q0 q1 q2 q3 q4 q5 q6 q7 r0 r1 r2 r3 r4 r5 r6 r7
    refine (HW.out _ LB8.out).mono ?_
    rintro e w9 ⟨kw, rfl, hkt, hrt, hb⟩
    have hba := (show Below _ _ (w9.alloc (.cells #[.int .i64 (P.n : Nat), .int .i64 (P.m : Nat), .slice (some ⟨kw, 0, none⟩) (P.n * P.m) (P.n * P.m)] 25)) from hb.trans (((Below.refl _ _).alloc (Nat.le_refl _) _).mono hb.size))
    have Bw9 := Lib.hid (Box.new w9 P.n P.m (.slice (some ⟨kw, 0, none⟩) (P.n * P.m) (P.n * P.m)))
    have Rw9 := Lib.hid (hrt.alloc (.cells #[.int .i64 (P.n : Nat), .int .i64 (P.m : Nat), .slice (some ⟨kw, 0, none⟩) (P.n * P.m) (P.n * P.m)] 25))
    clear hb hrt
    have X9 := Lib.hid (X8.out.below hba X8.out.lt)
    have Y9 := Lib.hid (Y8.out.next hba)
    have LB9 := Lib.hid (LB8.out.trans (hba.mono LB8.out.size))
    have Dr9 := Lib.hid (Dr8.out.next hba)
    have Qr9 := Lib.hid (Qr8.out.next hba)
    clear hba X8 Y8 LB8 Dr8 Qr8
    obtain ⟨q0, q1, q2, q3, q4, q5, q6⟩ := Bw9.out.all
    go_wp2_with fail
    clear q0 q1 q2 q3 q4 q5 q6
    refine (HOF2.out _ kw (HE.out _ LB9.out) Rw9.out).mono ?_
    rintro e w10 ⟨s1, t1, s2, t2, s3, t3, rfl, hr3, hb⟩
    have hba := (show Below _ _ (w10.alloc (.cells #[.int .i64 (Q.S : Nat), .int .i64 (Q.T : Nat), .slice (some ⟨s1, 0, none⟩) Q.n t1, .slice (some ⟨s2, 0, none⟩) Q.m t2, .int .i64 (Q.T : Nat), .int .i64 (Q.S : Nat), .slice (some ⟨s3, 0, none⟩) (Q.T * Q.S) t3] 27)) from hb.trans (((Below.refl _ _).alloc (Nat.le_refl _) _).mono hb.size))
    have Dq10 := Lib.hid (show DBox (w10.alloc (.cells #[.int .i64 (Q.S : Nat), .int .i64 (Q.T : Nat), .slice (some ⟨s1, 0, none⟩) Q.n t1, .slice (some ⟨s2, 0, none⟩) Q.m t2, .int .i64 (Q.T : Nat), .int .i64 (Q.S : Nat), .slice (some ⟨s3, 0, none⟩) (Q.T * Q.S) t3] 27)) w10.heap.size (PD.dr Q s1 t1 s2 t2 s3 t3) from DBox.new w10 (PD.dr Q s1 t1 s2 t2 s3 t3))
    have Qq10 := Lib.hid (hr3.next ((Below.refl _ _).alloc (Nat.le_refl _) (.cells #[.int .i64 (Q.S : Nat), .int .i64 (Q.T : Nat), .slice (some ⟨s1, 0, none⟩) Q.n t1, .slice (some ⟨s2, 0, none⟩) Q.m t2, .int .i64 (Q.T : Nat), .int .i64 (Q.S : Nat), .slice (some ⟨s3, 0, none⟩) (Q.T * Q.S) t3] 27)))
    clear hb hr3
    have X10 := Lib.hid (X9.out.below hba X9.out.lt)
    have Y10 := Lib.hid (Y9.out.next hba)
    have LB10 := Lib.hid (LB9.out.trans (hba.mono LB9.out.size))
    have Dr10 := Lib.hid (Dr9.out.next hba)
    have Qr10 := Lib.hid (Qr9.out.next hba)
    have Bw10 := Lib.hid (Bw9.out.below hba Bw9.out.lt)
    have Rw10 := Lib.hid (Rw9.out.below hba Rw9.out.lt)
    clear hba X9 Y9 LB9 Dr9 Qr9 Bw9 Rw9
    obtain ⟨q0, q1, q2, q3, q4, q5, q6, q7⟩ := Y10.out.all
    try dsimp only [PD.dr] at q0 q1 q2 q3 q4 q5 q6
    go_wp2_with fail
    clear q0 q1 q2 q3 q4 q5 q6 q7
    refine (HLST.out _ LB10.out).mono ?_
    rintro e w11 ⟨rfl, hb⟩
    have X11 := Lib.hid (X10.out.below hb X10.out.lt)
    have Y11 := Lib.hid (Y10.out.next hb)
    have LB11 := Lib.hid (LB10.out.trans (hb.mono LB10.out.size))
    have Dr11 := Lib.hid (Dr10.out.next hb)
    have Qr11 := Lib.hid (Qr10.out.next hb)
    have Bw11 := Lib.hid (Bw10.out.below hb Bw10.out.lt)
    have Rw11 := Lib.hid (Rw10.out.below hb Rw10.out.lt)
    have Dq11 := Lib.hid (Dq10.out.next hb)
    have Qq11 := Lib.hid (Qq10.out.next hb)
    clear hb X10 Y10 LB10 Dr10 Qr10 Bw10 Rw10 Dq10 Qq10
    cases hl : P.lst
    · skip
      have x1 : decide (((P.S : Nat) : Int) < (Q.S : Nat)) = false := by simp; exact qS
      have x2 : decide (((P.T : Nat) : Int) < (Q.T : Nat)) = false := by simp; exact qT
      obtain ⟨q0, q1, q2, q3, q4, q5, q6, q7⟩ := Dq11.out.all
      try dsimp only [PD.dr] at q0 q1 q2 q3 q4 q5 q6
      obtain ⟨r0, r1, r2, r3, r4, r5, r6, r7⟩ := Y11.out.all
      try dsimp only [PD.dr] at r0 r1 r2 r3 r4 r5 r6
      go_wp2_with fail
      clear q0 q1 q2 q3 q4 q5 q6 q7 r0 r1 r2 r3 r4 r5 r6 r7
      refine (alive_any _ (HE.out _ LB11.out)).mono ?_
      rintro e w12 ⟨rfl, hb⟩
      have X12 := Lib.hid (X11.out.below hb X11.out.lt)
      have Y12 := Lib.hid (Y11.out.next hb)
      have LB12 := Lib.hid (LB11.out.trans (hb.mono LB11.out.size))
      have Dr12 := Lib.hid (Dr11.out.next hb)
      have Qr12 := Lib.hid (Qr11.out.next hb)
      have Bw12 := Lib.hid (Bw11.out.below hb Bw11.out.lt)
      have Rw12 := Lib.hid (Rw11.out.below hb Rw11.out.lt)
      have Dq12 := Lib.hid (Dq11.out.next hb)
      have Qq12 := Lib.hid (Qq11.out.next hb)
      clear hb X11 Y11 LB11 Dr11 Qr11 Bw11 Rw11 Dq11 Qq11
      go_wp2
      go_ret
      exact ⟨rfl, LB12.out⟩
    · skip
      have x1 : decide (((P.S : Nat) : Int) < (Q.S : Nat)) = false := by simp; exact qS
      have x2 : decide (((P.T : Nat) : Int) < (Q.T : Nat)) = false := by simp; exact qT
      obtain ⟨hM, aQ, aP⟩ := HMT.out hl
      have hMt := Lib.hid hM
      have eS := Lib.hid (show Q.S = P.S from hM.e.S)
      have eT := Lib.hid (show Q.T = P.T from hM.e.T)
      have HDM := Lib.hid ((dm_case (PD.dr_is Q s1 t1 s2 t2 s3 t3) HI.out HQOK.out HP.out aQ aP).elim (fun h => h.2) (fun h => absurd hM h.1))
      clear hM aQ aP
      obtain ⟨q0, q1, q2, q3, q4, q5, q6, q7⟩ := Dq11.out.all
      try dsimp only [PD.dr] at q0 q1 q2 q3 q4 q5 q6
      obtain ⟨r0, r1, r2, r3, r4, r5, r6, r7⟩ := Y11.out.all
      try dsimp only [PD.dr] at r0 r1 r2 r3 r4 r5 r6
      go_wp2_with fail
      clear q0 q1 q2 q3 q4 q5 q6 q7 r0 r1 r2 r3 r4 r5 r6 r7
      refine (HDM.out _ (Qq11.out.dr t1 t2 t3) (HIN.out _ LB11.out)).mono ?_
      rintro e w12 ⟨A1, c1, A2, c2, rfl, hm1, hm2, hb⟩
      have M12 := Lib.hid (show LRow w12 A1 Q.S (Q.mf P) from hm1)
      have N12 := Lib.hid (show LRow w12 A2 Q.T (Q.mg P) from hm2)
      clear hm1 hm2
      have X12 := Lib.hid (X11.out.below hb X11.out.lt)
      have Y12 := Lib.hid (Y11.out.next hb)
      have LB12 := Lib.hid (LB11.out.trans (hb.mono LB11.out.size))
      have Dr12 := Lib.hid (Dr11.out.next hb)
      have Qr12 := Lib.hid (Qr11.out.next hb)
      have Bw12 := Lib.hid (Bw11.out.below hb Bw11.out.lt)
      have Rw12 := Lib.hid (Rw11.out.below hb Rw11.out.lt)
      have Dq12 := Lib.hid (Dq11.out.next hb)
      have Qq12 := Lib.hid (Qq11.out.next hb)
      clear hb X11 Y11 LB11 Dr11 Qr11 Bw11 Rw11 Dq11 Qq11
      obtain ⟨q0, q1, q2, q3, q4, q5, q6, q7⟩ := Dq12.out.all
      try dsimp only [PD.dr] at q0 q1 q2 q3 q4 q5 q6
      go_wp2_with fail
      clear q0 q1 q2 q3 q4 q5 q6 q7
      refine (renumber_ok (PD.dr_is Q s1 t1 s2 t2 s3 t3) HQOK.out A1 A2 _ _ c1 c2 _ _ hMt.out.pf hMt.out.pg _ (Qq12.out.dr t1 t2 t3) M12.out.holds N12.out.holds).mono ?_
      rintro e w13 ⟨x1, y1, x2, y2, x3, y3, rfl, hr3, hb⟩
      have hba := (show Below _ _ (w13.alloc (.cells #[.int .i64 ((Q.rnm (Q.mf P) (Q.mg P)).S : Nat), .int .i64 ((Q.rnm (Q.mf P) (Q.mg P)).T : Nat), .slice (some ⟨x1, 0, none⟩) (Q.rnm (Q.mf P) (Q.mg P)).n y1, .slice (some ⟨x2, 0, none⟩) (Q.rnm (Q.mf P) (Q.mg P)).m y2, .int .i64 ((Q.rnm (Q.mf P) (Q.mg P)).T : Nat), .int .i64 ((Q.rnm (Q.mf P) (Q.mg P)).S : Nat), .slice (some ⟨x3, 0, none⟩) ((Q.rnm (Q.mf P) (Q.mg P)).T * (Q.rnm (Q.mf P) (Q.mg P)).S) y3] 27)) from hb.trans (((Below.refl _ _).alloc (Nat.le_refl _) _).mono hb.size))
      have Dv13 := Lib.hid (show DBox (w13.alloc (.cells #[.int .i64 ((Q.rnm (Q.mf P) (Q.mg P)).S : Nat), .int .i64 ((Q.rnm (Q.mf P) (Q.mg P)).T : Nat), .slice (some ⟨x1, 0, none⟩) (Q.rnm (Q.mf P) (Q.mg P)).n y1, .slice (some ⟨x2, 0, none⟩) (Q.rnm (Q.mf P) (Q.mg P)).m y2, .int .i64 ((Q.rnm (Q.mf P) (Q.mg P)).T : Nat), .int .i64 ((Q.rnm (Q.mf P) (Q.mg P)).S : Nat), .slice (some ⟨x3, 0, none⟩) ((Q.rnm (Q.mf P) (Q.mg P)).T * (Q.rnm (Q.mf P) (Q.mg P)).S) y3] 27)) w13.heap.size (PD.dr (Q.rnm (Q.mf P) (Q.mg P)) x1 y1 x2 y2 x3 y3) from DBox.new w13 (PD.dr (Q.rnm (Q.mf P) (Q.mg P)) x1 y1 x2 y2 x3 y3))
      have Qv13 := Lib.hid (hr3.next ((Below.refl _ _).alloc (Nat.le_refl _) (.cells #[.int .i64 ((Q.rnm (Q.mf P) (Q.mg P)).S : Nat), .int .i64 ((Q.rnm (Q.mf P) (Q.mg P)).T : Nat), .slice (some ⟨x1, 0, none⟩) (Q.rnm (Q.mf P) (Q.mg P)).n y1, .slice (some ⟨x2, 0, none⟩) (Q.rnm (Q.mf P) (Q.mg P)).m y2, .int .i64 ((Q.rnm (Q.mf P) (Q.mg P)).T : Nat), .int .i64 ((Q.rnm (Q.mf P) (Q.mg P)).S : Nat), .slice (some ⟨x3, 0, none⟩) ((Q.rnm (Q.mf P) (Q.mg P)).T * (Q.rnm (Q.mf P) (Q.mg P)).S) y3] 27)))
      clear hb hr3
      have X13 := Lib.hid (X12.out.below hba X12.out.lt)
      have Y13 := Lib.hid (Y12.out.next hba)
      have LB13 := Lib.hid (LB12.out.trans (hba.mono LB12.out.size))
      have Dr13 := Lib.hid (Dr12.out.next hba)
      have Qr13 := Lib.hid (Qr12.out.next hba)
      have Bw13 := Lib.hid (Bw12.out.below hba Bw12.out.lt)
      have Rw13 := Lib.hid (Rw12.out.below hba Rw12.out.lt)
      have Dq13 := Lib.hid (Dq12.out.next hba)
      have Qq13 := Lib.hid (Qq12.out.next hba)
      have M13 := Lib.hid (M12.out.next hba)
      have N13 := Lib.hid (N12.out.next hba)
      clear hba X12 Y12 LB12 Dr12 Qr12 Bw12 Rw12 Dq12 Qq12 M12 N12
      obtain ⟨q0, q1, q2, q3, q4, q5, q6, q7⟩ := Dv13.out.all
      try dsimp only [PD.dr] at q0 q1 q2 q3 q4 q5 q6
      obtain ⟨r0, r1, r2, r3, r4, r5, r6, r7⟩ := Y13.out.all
      try dsimp only [PD.dr] at r0 r1 r2 r3 r4 r5 r6
      go_wp2_with fail
      clear q0 q1 q2 q3 q4 q5 q6 q7 r0 r1 r2 r3 r4 r5 r6 r7
      refine (rdsame_any (PD.dr (Q.rnm (Q.mf P) (Q.mg P)) x1 y1 x2 y2 x3 y3) ⟨P.S, P.T, A, P.n, ca, B, P.m, cb, P.T, P.S, C, P.T * P.S, cc, f, g, bb⟩ _ ((PD.dr_is (Q.rnm (Q.mf P) (Q.mg P)) x1 y1 x2 y2 x3 y3).small (rnm_ok HQOK.out hMt.out.pf hMt.out.pg)) (Qv13.out.dr y1 y2 y3) (HIN.out _ LB13.out)).mono ?_
      rintro e w14 ⟨rfl, hb⟩
      have X14 := Lib.hid (X13.out.below hb X13.out.lt)
      have Y14 := Lib.hid (Y13.out.next hb)
      have LB14 := Lib.hid (LB13.out.trans (hb.mono LB13.out.size))
      have Dr14 := Lib.hid (Dr13.out.next hb)
      have Qr14 := Lib.hid (Qr13.out.next hb)
      have Bw14 := Lib.hid (Bw13.out.below hb Bw13.out.lt)
      have Rw14 := Lib.hid (Rw13.out.below hb Rw13.out.lt)
      have Dq14 := Lib.hid (Dq13.out.next hb)
      have Qq14 := Lib.hid (Qq13.out.next hb)
      have M14 := Lib.hid (M13.out.next hb)
      have N14 := Lib.hid (N13.out.next hb)
      have Dv14 := Lib.hid (Dv13.out.next hb)
      have Qv14 := Lib.hid (Qv13.out.next hb)
      clear hb X13 Y13 LB13 Dr13 Qr13 Bw13 Rw13 Dq13 Qq13 M13 N13 Dv13 Qv13
      rw [(dsm_is (PD.dr_is (Q.rnm (Q.mf P) (Q.mg P)) x1 y1 x2 y2 x3 y3) HI.out (rnm_ok HQOK.out hMt.out.pf hMt.out.pg)).2 hMt.out.e]
      have z1 : (((Q.S : Nat) : Int) == (P.S : Nat)) = true := by simp [eS.out]
      have z2 : (((Q.T : Nat) : Int) == (P.T : Nat)) = true := by simp [eT.out]
      obtain ⟨q0, q1, q2, q3, q4, q5, q6, q7⟩ := Dq14.out.all
      try dsimp only [PD.dr] at q0 q1 q2 q3 q4 q5 q6
      obtain ⟨r0, r1, r2, r3, r4, r5, r6, r7⟩ := Y14.out.all
      try dsimp only [PD.dr] at r0 r1 r2 r3 r4 r5 r6
      go_wp2_with fail
      clear q0 q1 q2 q3 q4 q5 q6 q7 r0 r1 r2 r3 r4 r5 r6 r7
      refine (alive_any _ (HE.out _ LB14.out)).mono ?_
      rintro e w15 ⟨rfl, hb⟩
      have X15 := Lib.hid (X14.out.below hb X14.out.lt)
      have Y15 := Lib.hid (Y14.out.next hb)
      have LB15 := Lib.hid (LB14.out.trans (hb.mono LB14.out.size))
      have Dr15 := Lib.hid (Dr14.out.next hb)
      have Qr15 := Lib.hid (Qr14.out.next hb)
      have Bw15 := Lib.hid (Bw14.out.below hb Bw14.out.lt)
      have Rw15 := Lib.hid (Rw14.out.below hb Rw14.out.lt)
      have Dq15 := Lib.hid (Dq14.out.next hb)
      have Qq15 := Lib.hid (Qq14.out.next hb)
      have M15 := Lib.hid (M14.out.next hb)
      have N15 := Lib.hid (N14.out.next hb)
      have Dv15 := Lib.hid (Dv14.out.next hb)
      have Qv15 := Lib.hid (Qv14.out.next hb)
      clear hb X14 Y14 LB14 Dr14 Qr14 Bw14 Rw14 Dq14 Qq14 M14 N14 Dv14 Qv14
      go_wp2
      go_ret
      exact ⟨rfl, LB15.out⟩

theorem fi_any (W H : Int) (A : Option Addr) (n c : Nat) (u : Nat → Bool) (D : Dr) (w : World) (hE : Env w) (hr : Holds w w.heap.size A n u) (hcap : n ≤ c) (hd : D.In w w.heap.size) :
    Calls Tryd.prog 5 #[.agg #[.int .i64 W, .int .i64 H, .slice A n c], .agg #[.int .i64 D.S, .int .i64 D.T, .slice D.A D.n D.c, .slice D.B D.m D.d, .int .i64 D.W, .int .i64 D.H, .slice D.C D.k D.e]] w fun e w' => e = .returned (.bool true) ∧ Below w.heap.size w w' := by
  by_cases hn : n ≤ 4200
  · by_cases hx : chk W H n = 0
    · rcases valid_case D w hd with ⟨P, hP, hI, hs, hv⟩ | hv
      · obtain ⟨a1, a2, a3, a4, a5⟩ := chk_ok hx
        obtain ⟨W', rfl⟩ : ∃ W' : Nat, W = W' := ⟨W.toNat, (Int.toNat_of_nonneg (by omega)).symm⟩
        obtain ⟨H', rfl⟩ : ∃ H' : Nat, H = H' := ⟨H.toNat, (Int.toNat_of_nonneg (by omega)).symm⟩
        have hNe : n = W' * H' := by exact_mod_cast a5
        obtain ⟨b, o, rfl, _, _⟩ := hr (by rw [hNe]; exact Nat.mul_pos (by omega) (by omega))
        obtain ⟨S, T, A, nn, cc, B, m, d, WW, HH, C, kk, e', f, g, bb⟩ := D
        have hI' := hI
        obtain ⟨eS, eT, en, em, eW, eH, ek, ef, eg, eb⟩ := hI'
        dsimp only at *
        subst eS eT en em eW eH ek
        exact fi_main W' H' n b o c u P hP A cc B d C e' f g bb w hE hNe hr hcap (by omega) (by omega) (by omega) (by omega) hI hd hv
      · exact fi_not W H A n c D w hE hn hx hv
    · exact fi_bad W H A n c D w hE hn _ rfl (by simpa using hx)
  · exact fi_great W H A n c D w hE (by omega)
end Go.Proofs.YtbafhdinalapoaaDoor
