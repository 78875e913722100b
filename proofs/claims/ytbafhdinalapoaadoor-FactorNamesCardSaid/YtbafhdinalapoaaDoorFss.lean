/- Merged: Fsa Fsb Fsc Fsd Fse. -/
import Derived.Test.YtbafhdinalapoaaDoorFiv

/- The statement FactorSame: the walks, what is refused at once. -/
namespace Go.Proofs.YtbafhdinalapoaaDoor
open Go.RowKit
set_option linter.unusedVariables false
set_option linter.unusedSimpArgs false
set_option maxRecDepth 100000

open L2 (nd ren)
theorem M3.rows {w w' : World} {l1 : Nat} {F1 : Nat → Int} {l2 : Nat} {F2 : Nat → Int} {err : Int} {e : Ending} (h : M3 w l1 F1 l2 F2 err e w') : ∃ A1 c1 A2 c2, e = .returned (.tuple #[.slice A1 l1 c1, .slice A2 l2 c2, .int .i64 err]) ∧ LRow w' A1 l1 F1 ∧ LRow w' A2 l2 F2 ∧ Below w.heap.size w w' := h
theorem lsm_of (n : Nat) (f g : Nat → Int) (h : ∀ i, i < n → f i = g i) : lsm n f n g = true := by
  unfold lsm
  rw [decide_eq_true_iff]
  exact ⟨rfl, h⟩
/-- What the law's arguments are, and what lies. -/
structure FS (w : World) (D E : Dr) (As : Option Addr) (ns : Nat) (fs : Nat → Int) (At : Option Addr) (nt : Nat) (ft : Nat → Int) : Prop where
  hE : Env w
  hd : D.In w w.heap.size
  he : E.In w w.heap.size
  hs : L2.Holds w w.heap.size As ns fs
  ht : L2.Holds w w.heap.size At nt ft
theorem FS.next {w w' : World} {D E : Dr} {As : Option Addr} {ns : Nat} {fs : Nat → Int} {At : Option Addr} {nt : Nat} {ft : Nat → Int} (h : FS w D E As ns fs At nt ft) (hb : Below w.heap.size w w') : FS w' D E As ns fs At nt ft :=
  ⟨h.hE.next hb, h.hd.next hb, h.he.next hb, (h.hs.below hb).more hb.size, (h.ht.below hb).more hb.size⟩
/-- Both drafts are valid, and the lists are short. -/
structure FV (w : World) (D E : Dr) (P Q : PD) (ns nt : Nat) : Prop where
  hP : P.Ok
  hI : D.Is P
  hv : ∀ v, Below w.heap.size w v → Calls Tryd.prog 29 #[.agg #[.int .i64 D.S, .int .i64 D.T, .slice D.A D.n D.c, .slice D.B D.m D.d, .int .i64 D.W, .int .i64 D.H, .slice D.C D.k D.e]] v fun e w' => e = .returned (.bool true) ∧ Below v.heap.size v w'
  hQ : Q.Ok
  hJ : E.Is Q
  hu : ∀ v, Below w.heap.size w v → Calls Tryd.prog 29 #[.agg #[.int .i64 E.S, .int .i64 E.T, .slice E.A E.n E.c, .slice E.B E.m E.d, .int .i64 E.W, .int .i64 E.H, .slice E.C E.k E.e]] v fun e w' => e = .returned (.bool true) ∧ Below v.heap.size v w'
  ns : ns ≤ 70
  nt : nt ≤ 70
theorem mtc_wv {P Q : PD} (hP : P.Ok) (h : Mtc P Q) {i : Nat} (hi : i < P.n * P.m) : Q.wvf i = P.wvf i := by
  have hn : 0 < P.n := hP.n0
  have hx : i % P.n < P.n := Nat.mod_lt _ hn
  have hy : i / P.n < P.m := by rw [Nat.div_lt_iff_lt_mul hn, Nat.mul_comm]; exact hi
  unfold PD.wvf
  rw [← h.n, ← rnm_weave hP h.pf h.pg hx hy]
  have e := h.e
  have hok := rnm_ok hP h.pf h.pg
  rw [e.f _ hx, e.g _ hy, e.l _ _ (by rw [← e.g _ hy]; exact hok.g _ hy) (by rw [← e.f _ hx]; exact hok.f _ hx)]
theorem uses_yes {D : Dr} {P : PD} (hI : D.Is P) (hP : P.Ok) (hu : P.All) (w : World) (hd : D.In w w.heap.size) : Calls Tryd.prog 34 #[.agg #[.int .i64 D.S, .int .i64 D.T, .slice D.A D.n D.c, .slice D.B D.m D.d, .int .i64 D.W, .int .i64 D.H, .slice D.C D.k D.e]] w fun e w' => e = .returned (.bool true) ∧ Below w.heap.size w w' := by
  have hs := hI.small hP
  have h := ruses_any D (by have := hs.a; omega) (by have := hs.b; omega) w hd
  rw [decide_eq_true ((all_iff hI hP).1 hu)] at h
  exact h
theorem uses_no {D : Dr} {P : PD} (hI : D.Is P) (hP : P.Ok) (hu : ¬ P.All) (w : World) (hd : D.In w w.heap.size) : Calls Tryd.prog 34 #[.agg #[.int .i64 D.S, .int .i64 D.T, .slice D.A D.n D.c, .slice D.B D.m D.d, .int .i64 D.W, .int .i64 D.H, .slice D.C D.k D.e]] w fun e w' => e = .returned (.bool false) ∧ Below w.heap.size w w' := by
  have hs := hI.small hP
  have h := ruses_any D (by have := hs.a; omega) (by have := hs.b; omega) w hd
  rw [decide_eq_false (fun x => hu ((all_iff hI hP).2 x))] at h
  exact h

set_option maxHeartbeats 800000 in
theorem fs_not1 (D E : Dr) (As At : Option Addr) (ns nt cs ct : Nat) (fs ft : Nat → Int) (w : World) (hF : FS w D E As ns fs At nt ft) (hv : ∀ v, Below w.heap.size w v → Calls Tryd.prog 29 #[.agg #[.int .i64 D.S, .int .i64 D.T, .slice D.A D.n D.c, .slice D.B D.m D.d, .int .i64 D.W, .int .i64 D.H, .slice D.C D.k D.e]] v fun e w' => e = .returned (.bool false) ∧ Below v.heap.size v w') :
    Calls Tryd.prog 8 #[.agg #[.int .i64 D.S, .int .i64 D.T, .slice D.A D.n D.c, .slice D.B D.m D.d, .int .i64 D.W, .int .i64 D.H, .slice D.C D.k D.e], .agg #[.int .i64 E.S, .int .i64 E.T, .slice E.A E.n E.c, .slice E.B E.m E.d, .int .i64 E.W, .int .i64 E.H, .slice E.C E.k E.e], .slice As ns cs, .slice At nt ct] w fun e w' => e = .returned (.bool true) ∧ Below w.heap.size w w' := by
  have HV := Lib.hid hv
  clear hv
  obtain ⟨hx0, hy0, hl0⟩ := dboxes2 w D E
  have X0 := Lib.hid hx0
  have Y0 := Lib.hid hy0
  have LB0 := Lib.hid hl0
  have HF := Lib.hid (fun v (h : Below w.heap.size w v) => hF.next h)
  clear hx0 hy0 hl0 hF
  go_enter Tryd.func8, Tryd.ntmps8
  obtain ⟨q0, q1, q2, q3, q4, q5, q6, q7⟩ := X0.out.all
  try dsimp only [PD.dr] at q0 q1 q2 q3 q4 q5 q6
  go_wp2_with fail
  clear q0 q1 q2 q3 q4 q5 q6 q7
  refine (HV.out _ LB0.out).mono ?_
  rintro e w1 ⟨rfl, hb⟩
  have X1 := Lib.hid (X0.out.next hb)
  have Y1 := Lib.hid (Y0.out.next hb)
  have LB1 := Lib.hid (LB0.out.trans (hb.mono LB0.out.size))
  clear hb X0 Y0 LB0
  go_wp2_with fail
  refine (alive_any _ (HF.out _ LB1.out).hE).mono ?_
  rintro e w2 ⟨rfl, hb⟩
  have X2 := Lib.hid (X1.out.next hb)
  have Y2 := Lib.hid (Y1.out.next hb)
  have LB2 := Lib.hid (LB1.out.trans (hb.mono LB1.out.size))
  clear hb X1 Y1 LB1
  go_wp2
  go_ret
  exact ⟨rfl, LB2.out⟩
set_option maxHeartbeats 800000 in
theorem fs_not2 (D E : Dr) (As At : Option Addr) (ns nt cs ct : Nat) (fs ft : Nat → Int) (w : World) (hF : FS w D E As ns fs At nt ft) (hv : ∀ v, Below w.heap.size w v → Calls Tryd.prog 29 #[.agg #[.int .i64 D.S, .int .i64 D.T, .slice D.A D.n D.c, .slice D.B D.m D.d, .int .i64 D.W, .int .i64 D.H, .slice D.C D.k D.e]] v fun e w' => e = .returned (.bool true) ∧ Below v.heap.size v w') (hu : ∀ v, Below w.heap.size w v → Calls Tryd.prog 29 #[.agg #[.int .i64 E.S, .int .i64 E.T, .slice E.A E.n E.c, .slice E.B E.m E.d, .int .i64 E.W, .int .i64 E.H, .slice E.C E.k E.e]] v fun e w' => e = .returned (.bool false) ∧ Below v.heap.size v w') :
    Calls Tryd.prog 8 #[.agg #[.int .i64 D.S, .int .i64 D.T, .slice D.A D.n D.c, .slice D.B D.m D.d, .int .i64 D.W, .int .i64 D.H, .slice D.C D.k D.e], .agg #[.int .i64 E.S, .int .i64 E.T, .slice E.A E.n E.c, .slice E.B E.m E.d, .int .i64 E.W, .int .i64 E.H, .slice E.C E.k E.e], .slice As ns cs, .slice At nt ct] w fun e w' => e = .returned (.bool true) ∧ Below w.heap.size w w' := by
  have HV := Lib.hid hv
  have HU := Lib.hid hu
  clear hv hu
  obtain ⟨hx0, hy0, hl0⟩ := dboxes2 w D E
  have X0 := Lib.hid hx0
  have Y0 := Lib.hid hy0
  have LB0 := Lib.hid hl0
  have HF := Lib.hid (fun v (h : Below w.heap.size w v) => hF.next h)
  clear hx0 hy0 hl0 hF
  go_enter Tryd.func8, Tryd.ntmps8
  obtain ⟨q0, q1, q2, q3, q4, q5, q6, q7⟩ := X0.out.all
  try dsimp only [PD.dr] at q0 q1 q2 q3 q4 q5 q6
  go_wp2_with fail
  clear q0 q1 q2 q3 q4 q5 q6 q7
  refine (HV.out _ LB0.out).mono ?_
  rintro e w1 ⟨rfl, hb⟩
  have X1 := Lib.hid (X0.out.next hb)
  have Y1 := Lib.hid (Y0.out.next hb)
  have LB1 := Lib.hid (LB0.out.trans (hb.mono LB0.out.size))
  clear hb X0 Y0 LB0
  obtain ⟨q0, q1, q2, q3, q4, q5, q6, q7⟩ := Y1.out.all
  try dsimp only [PD.dr] at q0 q1 q2 q3 q4 q5 q6
  go_wp2_with fail
  clear q0 q1 q2 q3 q4 q5 q6 q7
  refine (HU.out _ LB1.out).mono ?_
  rintro e w2 ⟨rfl, hb⟩
  have X2 := Lib.hid (X1.out.next hb)
  have Y2 := Lib.hid (Y1.out.next hb)
  have LB2 := Lib.hid (LB1.out.trans (hb.mono LB1.out.size))
  clear hb X1 Y1 LB1
  go_wp2_with fail
  refine (alive_any _ (HF.out _ LB2.out).hE).mono ?_
  rintro e w3 ⟨rfl, hb⟩
  have X3 := Lib.hid (X2.out.next hb)
  have Y3 := Lib.hid (Y2.out.next hb)
  have LB3 := Lib.hid (LB2.out.trans (hb.mono LB2.out.size))
  clear hb X2 Y2 LB2
  go_wp2
  go_ret
  exact ⟨rfl, LB3.out⟩
set_option maxHeartbeats 800000 in
theorem fs_long1 (D E : Dr) (As At : Option Addr) (ns nt cs ct : Nat) (fs ft : Nat → Int) (w : World) (hF : FS w D E As ns fs At nt ft) (hv : ∀ v, Below w.heap.size w v → Calls Tryd.prog 29 #[.agg #[.int .i64 D.S, .int .i64 D.T, .slice D.A D.n D.c, .slice D.B D.m D.d, .int .i64 D.W, .int .i64 D.H, .slice D.C D.k D.e]] v fun e w' => e = .returned (.bool true) ∧ Below v.heap.size v w') (hu : ∀ v, Below w.heap.size w v → Calls Tryd.prog 29 #[.agg #[.int .i64 E.S, .int .i64 E.T, .slice E.A E.n E.c, .slice E.B E.m E.d, .int .i64 E.W, .int .i64 E.H, .slice E.C E.k E.e]] v fun e w' => e = .returned (.bool true) ∧ Below v.heap.size v w') (hn : 70 < ns) :
    Calls Tryd.prog 8 #[.agg #[.int .i64 D.S, .int .i64 D.T, .slice D.A D.n D.c, .slice D.B D.m D.d, .int .i64 D.W, .int .i64 D.H, .slice D.C D.k D.e], .agg #[.int .i64 E.S, .int .i64 E.T, .slice E.A E.n E.c, .slice E.B E.m E.d, .int .i64 E.W, .int .i64 E.H, .slice E.C E.k E.e], .slice As ns cs, .slice At nt ct] w fun e w' => e = .returned (.bool true) ∧ Below w.heap.size w w' := by
  have HV := Lib.hid hv
  have HU := Lib.hid hu
  clear hv hu
  obtain ⟨hx0, hy0, hl0⟩ := dboxes2 w D E
  have X0 := Lib.hid hx0
  have Y0 := Lib.hid hy0
  have LB0 := Lib.hid hl0
  have HF := Lib.hid (fun v (h : Below w.heap.size w v) => hF.next h)
  clear hx0 hy0 hl0 hF
  go_enter Tryd.func8, Tryd.ntmps8
  obtain ⟨q0, q1, q2, q3, q4, q5, q6, q7⟩ := X0.out.all
  try dsimp only [PD.dr] at q0 q1 q2 q3 q4 q5 q6
  go_wp2_with fail
  clear q0 q1 q2 q3 q4 q5 q6 q7
  refine (HV.out _ LB0.out).mono ?_
  rintro e w1 ⟨rfl, hb⟩
  have X1 := Lib.hid (X0.out.next hb)
  have Y1 := Lib.hid (Y0.out.next hb)
  have LB1 := Lib.hid (LB0.out.trans (hb.mono LB0.out.size))
  clear hb X0 Y0 LB0
  obtain ⟨q0, q1, q2, q3, q4, q5, q6, q7⟩ := Y1.out.all
  try dsimp only [PD.dr] at q0 q1 q2 q3 q4 q5 q6
  go_wp2_with fail
  clear q0 q1 q2 q3 q4 q5 q6 q7
  refine (HU.out _ LB1.out).mono ?_
  rintro e w2 ⟨rfl, hb⟩
  have X2 := Lib.hid (X1.out.next hb)
  have Y2 := Lib.hid (Y1.out.next hb)
  have LB2 := Lib.hid (LB1.out.trans (hb.mono LB1.out.size))
  clear hb X1 Y1 LB1
  go_wp2_with fail
  refine (alive_any _ (HF.out _ LB2.out).hE).mono ?_
  rintro e w3 ⟨rfl, hb⟩
  have X3 := Lib.hid (X2.out.next hb)
  have Y3 := Lib.hid (Y2.out.next hb)
  have LB3 := Lib.hid (LB2.out.trans (hb.mono LB2.out.size))
  clear hb X2 Y2 LB2
  go_wp2
  go_ret
  exact ⟨rfl, LB3.out⟩
set_option maxHeartbeats 800000 in
theorem fs_long2 (D E : Dr) (As At : Option Addr) (ns nt cs ct : Nat) (fs ft : Nat → Int) (w : World) (hF : FS w D E As ns fs At nt ft) (hv : ∀ v, Below w.heap.size w v → Calls Tryd.prog 29 #[.agg #[.int .i64 D.S, .int .i64 D.T, .slice D.A D.n D.c, .slice D.B D.m D.d, .int .i64 D.W, .int .i64 D.H, .slice D.C D.k D.e]] v fun e w' => e = .returned (.bool true) ∧ Below v.heap.size v w') (hu : ∀ v, Below w.heap.size w v → Calls Tryd.prog 29 #[.agg #[.int .i64 E.S, .int .i64 E.T, .slice E.A E.n E.c, .slice E.B E.m E.d, .int .i64 E.W, .int .i64 E.H, .slice E.C E.k E.e]] v fun e w' => e = .returned (.bool true) ∧ Below v.heap.size v w') (hn1 : ns ≤ 70) (hn : 70 < nt) :
    Calls Tryd.prog 8 #[.agg #[.int .i64 D.S, .int .i64 D.T, .slice D.A D.n D.c, .slice D.B D.m D.d, .int .i64 D.W, .int .i64 D.H, .slice D.C D.k D.e], .agg #[.int .i64 E.S, .int .i64 E.T, .slice E.A E.n E.c, .slice E.B E.m E.d, .int .i64 E.W, .int .i64 E.H, .slice E.C E.k E.e], .slice As ns cs, .slice At nt ct] w fun e w' => e = .returned (.bool true) ∧ Below w.heap.size w w' := by
  have HV := Lib.hid hv
  have HU := Lib.hid hu
  clear hv hu
  obtain ⟨hx0, hy0, hl0⟩ := dboxes2 w D E
  have X0 := Lib.hid hx0
  have Y0 := Lib.hid hy0
  have LB0 := Lib.hid hl0
  have HF := Lib.hid (fun v (h : Below w.heap.size w v) => hF.next h)
  clear hx0 hy0 hl0 hF
  go_enter Tryd.func8, Tryd.ntmps8
  obtain ⟨q0, q1, q2, q3, q4, q5, q6, q7⟩ := X0.out.all
  try dsimp only [PD.dr] at q0 q1 q2 q3 q4 q5 q6
  go_wp2_with fail
  clear q0 q1 q2 q3 q4 q5 q6 q7
  refine (HV.out _ LB0.out).mono ?_
  rintro e w1 ⟨rfl, hb⟩
  have X1 := Lib.hid (X0.out.next hb)
  have Y1 := Lib.hid (Y0.out.next hb)
  have LB1 := Lib.hid (LB0.out.trans (hb.mono LB0.out.size))
  clear hb X0 Y0 LB0
  obtain ⟨q0, q1, q2, q3, q4, q5, q6, q7⟩ := Y1.out.all
  try dsimp only [PD.dr] at q0 q1 q2 q3 q4 q5 q6
  go_wp2_with fail
  clear q0 q1 q2 q3 q4 q5 q6 q7
  refine (HU.out _ LB1.out).mono ?_
  rintro e w2 ⟨rfl, hb⟩
  have X2 := Lib.hid (X1.out.next hb)
  have Y2 := Lib.hid (Y1.out.next hb)
  have LB2 := Lib.hid (LB1.out.trans (hb.mono LB1.out.size))
  clear hb X1 Y1 LB1
  go_wp2_with fail
  refine (alive_any _ (HF.out _ LB2.out).hE).mono ?_
  rintro e w3 ⟨rfl, hb⟩
  have X3 := Lib.hid (X2.out.next hb)
  have Y3 := Lib.hid (Y2.out.next hb)
  have LB3 := Lib.hid (LB2.out.trans (hb.mono LB2.out.size))
  clear hb X2 Y2 LB2
  go_wp2
  go_ret
  exact ⟨rfl, LB3.out⟩
end Go.Proofs.YtbafhdinalapoaaDoor

/- The statement FactorSame: the walks, part Fsb. -/
namespace Go.Proofs.YtbafhdinalapoaaDoor
open Go.RowKit
set_option linter.unusedVariables false
set_option linter.unusedSimpArgs false
set_option maxRecDepth 100000

open L2 (nd ren)
set_option maxHeartbeats 3200000 in
theorem fs_M_no (D E : Dr) (As At : Option Addr) (ns nt cs ct : Nat) (fs ft : Nat → Int) (P Q : PD) (w : World) (hF : FS w D E As ns fs At nt ft) (hV : FV w D E P Q ns nt) (hM : Mtc P Q) (hA : P.All) (hB : Q.All) (hr : ∀ v, D.In v v.heap.size → L2.Holds v v.heap.size As ns fs → L2.Holds v v.heap.size At nt ft → Calls Tryd.prog 11 #[.agg #[.int .i64 D.S, .int .i64 D.T, .slice D.A D.n D.c, .slice D.B D.m D.d, .int .i64 D.W, .int .i64 D.H, .slice D.C D.k D.e], .slice As ns cs, .slice At nt ct] v (ErrDr v 2)) :
    Calls Tryd.prog 8 #[.agg #[.int .i64 D.S, .int .i64 D.T, .slice D.A D.n D.c, .slice D.B D.m D.d, .int .i64 D.W, .int .i64 D.H, .slice D.C D.k D.e], .agg #[.int .i64 E.S, .int .i64 E.T, .slice E.A E.n E.c, .slice E.B E.m E.d, .int .i64 E.W, .int .i64 E.H, .slice E.C E.k E.e], .slice As ns cs, .slice At nt ct] w fun e w' => e = .returned (.bool true) ∧ Below w.heap.size w w' := by
  have HV := Lib.hid hV.hv
  have HU := Lib.hid hV.hu
  have HI := Lib.hid hV.hI
  have HJ := Lib.hid hV.hJ
  have HP := Lib.hid hV.hP
  have HQ := Lib.hid hV.hQ
  have n70 := hV.ns
  have t70 := hV.nt

  have HM := Lib.hid hM
  have HA := Lib.hid hA
  have HDM := Lib.hid ((dm_case hV.hI hV.hJ hV.hP hV.hQ hA hB).elim (fun h => h.2) (fun h => absurd hM h.1))
  have HW1 := Lib.hid (fun v (h : D.In v v.heap.size) => (show Calls Tryd.prog 30 #[.agg #[.int .i64 D.S, .int .i64 D.T, .slice D.A D.n D.c, .slice D.B D.m D.d, .int .i64 D.W, .int .i64 D.H, .slice D.C D.k D.e]] v (OkGrid v P.n P.m P.wvf) from weave_ok hV.hI hV.hP v h))
  have HW2 := Lib.hid (fun v (h : E.In v v.heap.size) => (show Calls Tryd.prog 30 #[.agg #[.int .i64 E.S, .int .i64 E.T, .slice E.A E.n E.c, .slice E.B E.m E.d, .int .i64 E.W, .int .i64 E.H, .slice E.C E.k E.e]] v (OkGrid v P.n P.m P.wvf) by
    have h2 := weave_ok hV.hJ hV.hQ v h
    rw [← hM.n, ← hM.m] at h2
    refine h2.mono fun e w' h => okgrid_congr (fun i hi => ?_) h
    rw [← mtc_wv hV.hP hM hi, PD.wvf, ← hM.n]))
  have nm5 : P.n * P.m ≤ 5000 := Nat.le_trans (Nat.mul_le_mul hV.hP.n1 hV.hP.m1) (by omega)
  clear hM hA hB
  have HR := Lib.hid hr
  clear hr
  clear hV
  obtain ⟨hx0, hy0, hl0⟩ := dboxes2 w D E
  have X0 := Lib.hid hx0
  have Y0 := Lib.hid hy0
  have LB0 := Lib.hid hl0
  have HF := Lib.hid (fun v (h : Below w.heap.size w v) => hF.next h)
  clear hx0 hy0 hl0 hF
  go_enter Tryd.func8, Tryd.ntmps8
  obtain ⟨q0, q1, q2, q3, q4, q5, q6, q7⟩ := X0.out.all
  try dsimp only [PD.dr] at q0 q1 q2 q3 q4 q5 q6
  go_wp2_with fail
  clear q0 q1 q2 q3 q4 q5 q6 q7
  refine (HV.out _ LB0.out).mono ?_
  rintro e w1 ⟨rfl, hb⟩
  have X1 := Lib.hid (X0.out.next hb)
  have Y1 := Lib.hid (Y0.out.next hb)
  have LB1 := Lib.hid (LB0.out.trans (hb.mono LB0.out.size))
  clear hb X0 Y0 LB0
  obtain ⟨q0, q1, q2, q3, q4, q5, q6, q7⟩ := Y1.out.all
  try dsimp only [PD.dr] at q0 q1 q2 q3 q4 q5 q6
  go_wp2_with fail
  clear q0 q1 q2 q3 q4 q5 q6 q7
  refine (HU.out _ LB1.out).mono ?_
  rintro e w2 ⟨rfl, hb⟩
  have X2 := Lib.hid (X1.out.next hb)
  have Y2 := Lib.hid (Y1.out.next hb)
  have LB2 := Lib.hid (LB1.out.trans (hb.mono LB1.out.size))
  clear hb X1 Y1 LB1
  obtain ⟨q0, q1, q2, q3, q4, q5, q6, q7⟩ := X2.out.all
  try dsimp only [PD.dr] at q0 q1 q2 q3 q4 q5 q6
  obtain ⟨r0, r1, r2, r3, r4, r5, r6, r7⟩ := Y2.out.all
  try dsimp only [PD.dr] at r0 r1 r2 r3 r4 r5 r6
  go_wp2_with fail
  clear q0 q1 q2 q3 q4 q5 q6 q7 r0 r1 r2 r3 r4 r5 r6 r7
  refine (HDM.out _ (HF.out _ LB2.out).hd (HF.out _ LB2.out).he).mono ?_
  rintro e w3 hm3
  obtain ⟨a1, ac1, a2, ac2, rfl, hm1, hm2, hb⟩ := hm3.rows
  clear hm3
  have M3 := Lib.hid (show LRow w3 a1 P.S (P.mf Q) from hm1)
  have N3 := Lib.hid (show LRow w3 a2 P.T (P.mg Q) from hm2)
  clear hm1 hm2
  have X3 := Lib.hid (X2.out.next hb)
  have Y3 := Lib.hid (Y2.out.next hb)
  have LB3 := Lib.hid (LB2.out.trans (hb.mono LB2.out.size))
  clear hb X2 Y2 LB2
  obtain ⟨q0, q1, q2, q3, q4, q5, q6, q7⟩ := X3.out.all
  try dsimp only [PD.dr] at q0 q1 q2 q3 q4 q5 q6
  go_wp2_with fail
  clear q0 q1 q2 q3 q4 q5 q6 q7
  refine (renumber_ok HI.out HP.out a1 a2 _ _ ac1 ac2 _ _ HM.out.pf HM.out.pg _ (HF.out _ LB3.out).hd M3.out.holds N3.out.holds).mono ?_
  rintro e w4 ⟨x1, y1, x2, y2, x3, y3, rfl, hr3, hb⟩
  have hba := (show Below _ _ (w4.alloc (.cells #[.int .i64 ((P.rnm (P.mf Q) (P.mg Q)).S : Nat), .int .i64 ((P.rnm (P.mf Q) (P.mg Q)).T : Nat), .slice (some ⟨x1, 0, none⟩) (P.rnm (P.mf Q) (P.mg Q)).n y1, .slice (some ⟨x2, 0, none⟩) (P.rnm (P.mf Q) (P.mg Q)).m y2, .int .i64 ((P.rnm (P.mf Q) (P.mg Q)).T : Nat), .int .i64 ((P.rnm (P.mf Q) (P.mg Q)).S : Nat), .slice (some ⟨x3, 0, none⟩) ((P.rnm (P.mf Q) (P.mg Q)).T * (P.rnm (P.mf Q) (P.mg Q)).S) y3] 27)) from hb.trans (((Below.refl _ _).alloc (Nat.le_refl _) _).mono hb.size))
  have Dc4 := Lib.hid (show DBox (w4.alloc (.cells #[.int .i64 ((P.rnm (P.mf Q) (P.mg Q)).S : Nat), .int .i64 ((P.rnm (P.mf Q) (P.mg Q)).T : Nat), .slice (some ⟨x1, 0, none⟩) (P.rnm (P.mf Q) (P.mg Q)).n y1, .slice (some ⟨x2, 0, none⟩) (P.rnm (P.mf Q) (P.mg Q)).m y2, .int .i64 ((P.rnm (P.mf Q) (P.mg Q)).T : Nat), .int .i64 ((P.rnm (P.mf Q) (P.mg Q)).S : Nat), .slice (some ⟨x3, 0, none⟩) ((P.rnm (P.mf Q) (P.mg Q)).T * (P.rnm (P.mf Q) (P.mg Q)).S) y3] 27)) w4.heap.size (PD.dr (P.rnm (P.mf Q) (P.mg Q)) x1 y1 x2 y2 x3 y3) from DBox.new w4 (PD.dr (P.rnm (P.mf Q) (P.mg Q)) x1 y1 x2 y2 x3 y3))
  have Qc4 := Lib.hid (hr3.next ((Below.refl _ _).alloc (Nat.le_refl _) (.cells #[.int .i64 ((P.rnm (P.mf Q) (P.mg Q)).S : Nat), .int .i64 ((P.rnm (P.mf Q) (P.mg Q)).T : Nat), .slice (some ⟨x1, 0, none⟩) (P.rnm (P.mf Q) (P.mg Q)).n y1, .slice (some ⟨x2, 0, none⟩) (P.rnm (P.mf Q) (P.mg Q)).m y2, .int .i64 ((P.rnm (P.mf Q) (P.mg Q)).T : Nat), .int .i64 ((P.rnm (P.mf Q) (P.mg Q)).S : Nat), .slice (some ⟨x3, 0, none⟩) ((P.rnm (P.mf Q) (P.mg Q)).T * (P.rnm (P.mf Q) (P.mg Q)).S) y3] 27)))
  clear hb hr3
  have X4 := Lib.hid (X3.out.next hba)
  have Y4 := Lib.hid (Y3.out.next hba)
  have LB4 := Lib.hid (LB3.out.trans (hba.mono LB3.out.size))
  have M4 := Lib.hid (M3.out.next hba)
  have N4 := Lib.hid (N3.out.next hba)
  clear hba X3 Y3 LB3 M3 N3
  clear M4
  clear N4
  obtain ⟨q0, q1, q2, q3, q4, q5, q6, q7⟩ := X4.out.all
  try dsimp only [PD.dr] at q0 q1 q2 q3 q4 q5 q6
  go_wp2_with fail
  clear q0 q1 q2 q3 q4 q5 q6 q7
  refine (HW1.out _ (HF.out _ LB4.out).hd).mono ?_
  rintro e w5 ⟨kg, rfl, hkt, hrt, hb⟩
  have hba := (show Below _ _ (w5.alloc (.cells #[.int .i64 (P.n : Nat), .int .i64 (P.m : Nat), .slice (some ⟨kg, 0, none⟩) (P.n * P.m) (P.n * P.m)] 25)) from hb.trans (((Below.refl _ _).alloc (Nat.le_refl _) _).mono hb.size))
  have Bg5 := Lib.hid (Box.new w5 P.n P.m (.slice (some ⟨kg, 0, none⟩) (P.n * P.m) (P.n * P.m)))
  have Rg5 := Lib.hid (hrt.alloc (.cells #[.int .i64 (P.n : Nat), .int .i64 (P.m : Nat), .slice (some ⟨kg, 0, none⟩) (P.n * P.m) (P.n * P.m)] 25))
  clear hb hrt
  have X5 := Lib.hid (X4.out.next hba)
  have Y5 := Lib.hid (Y4.out.next hba)
  have LB5 := Lib.hid (LB4.out.trans (hba.mono LB4.out.size))
  have Dc5 := Lib.hid (Dc4.out.next hba)
  have Qc5 := Lib.hid (Qc4.out.next hba)
  clear hba X4 Y4 LB4 Dc4 Qc4
  obtain ⟨q0, q1, q2, q3, q4, q5, q6, q7⟩ := Y5.out.all
  try dsimp only [PD.dr] at q0 q1 q2 q3 q4 q5 q6
  go_wp2_with fail
  clear q0 q1 q2 q3 q4 q5 q6 q7
  refine (HW2.out _ (HF.out _ LB5.out).he).mono ?_
  rintro e w6 ⟨kh, rfl, hkt, hrt, hb⟩
  have hba := (show Below _ _ (w6.alloc (.cells #[.int .i64 (P.n : Nat), .int .i64 (P.m : Nat), .slice (some ⟨kh, 0, none⟩) (P.n * P.m) (P.n * P.m)] 25)) from hb.trans (((Below.refl _ _).alloc (Nat.le_refl _) _).mono hb.size))
  have Bh6 := Lib.hid (Box.new w6 P.n P.m (.slice (some ⟨kh, 0, none⟩) (P.n * P.m) (P.n * P.m)))
  have Rh6 := Lib.hid (hrt.alloc (.cells #[.int .i64 (P.n : Nat), .int .i64 (P.m : Nat), .slice (some ⟨kh, 0, none⟩) (P.n * P.m) (P.n * P.m)] 25))
  clear hb hrt
  have X6 := Lib.hid (X5.out.next hba)
  have Y6 := Lib.hid (Y5.out.next hba)
  have LB6 := Lib.hid (LB5.out.trans (hba.mono LB5.out.size))
  have Dc6 := Lib.hid (Dc5.out.next hba)
  have Qc6 := Lib.hid (Qc5.out.next hba)
  have Bg6 := Lib.hid (Bg5.out.below hba Bg5.out.lt)
  have Rg6 := Lib.hid (Rg5.out.below hba Rg5.out.lt)
  clear hba X5 Y5 LB5 Dc5 Qc5 Bg5 Rg5
  obtain ⟨q0, q1, q2, q3, q4, q5, q6, q7⟩ := Dc6.out.all
  try dsimp only [PD.dr] at q0 q1 q2 q3 q4 q5 q6
  obtain ⟨r0, r1, r2, r3, r4, r5, r6, r7⟩ := Y6.out.all
  try dsimp only [PD.dr] at r0 r1 r2 r3 r4 r5 r6
  go_wp2_with fail
  clear q0 q1 q2 q3 q4 q5 q6 q7 r0 r1 r2 r3 r4 r5 r6 r7
  refine (rdsame_any (PD.dr (P.rnm (P.mf Q) (P.mg Q)) x1 y1 x2 y2 x3 y3) E _ ((PD.dr_is (P.rnm (P.mf Q) (P.mg Q)) x1 y1 x2 y2 x3 y3).small (rnm_ok HP.out HM.out.pf HM.out.pg)) (Qc6.out.dr y1 y2 y3) (HF.out _ LB6.out).he).mono ?_
  rintro e w7 ⟨rfl, hb⟩
  have X7 := Lib.hid (X6.out.next hb)
  have Y7 := Lib.hid (Y6.out.next hb)
  have LB7 := Lib.hid (LB6.out.trans (hb.mono LB6.out.size))
  have Dc7 := Lib.hid (Dc6.out.next hb)
  have Qc7 := Lib.hid (Qc6.out.next hb)
  have Bg7 := Lib.hid (Bg6.out.below hb Bg6.out.lt)
  have Rg7 := Lib.hid (Rg6.out.below hb Rg6.out.lt)
  have Bh7 := Lib.hid (Bh6.out.below hb Bh6.out.lt)
  have Rh7 := Lib.hid (Rh6.out.below hb Rh6.out.lt)
  clear hb X6 Y6 LB6 Dc6 Qc6 Bg6 Rg6 Bh6 Rh6
  rw [(dsm_is (PD.dr_is (P.rnm (P.mf Q) (P.mg Q)) x1 y1 x2 y2 x3 y3) HJ.out (rnm_ok HP.out HM.out.pf HM.out.pg)).2 HM.out.e]
  clear Dc7
  clear Qc7
  obtain ⟨q0, q1, q2, q3, q4, q5, q6⟩ := Bg7.out.all
  obtain ⟨r0, r1, r2, r3, r4, r5, r6⟩ := Bh7.out.all
  go_wp2_with fail
  clear q0 q1 q2 q3 q4 q5 q6 r0 r1 r2 r3 r4 r5 r6
  refine (rgsm_any P.n P.m P.n P.m (some ⟨kg, 0, none⟩) (some ⟨kh, 0, none⟩) (P.n * P.m) (P.n * P.m) (P.n * P.m) (P.n * P.m) P.wvf P.wvf _ nm5 (Rg7.out.holds Rg7.out.lt) (Rh7.out.holds Rh7.out.lt)).mono ?_
  rintro e w8 ⟨rfl, hb⟩
  have X8 := Lib.hid (X7.out.next hb)
  have Y8 := Lib.hid (Y7.out.next hb)
  have LB8 := Lib.hid (LB7.out.trans (hb.mono LB7.out.size))
  have Bg8 := Lib.hid (Bg7.out.below hb Bg7.out.lt)
  have Rg8 := Lib.hid (Rg7.out.below hb Rg7.out.lt)
  have Bh8 := Lib.hid (Bh7.out.below hb Bh7.out.lt)
  have Rh8 := Lib.hid (Rh7.out.below hb Rh7.out.lt)
  clear hb X7 Y7 LB7 Bg7 Rg7 Bh7 Rh7
  rw [gsm_self_]
  clear Bg8
  clear Bh8
  clear Rg8
  clear Rh8
  obtain ⟨q0, q1, q2, q3, q4, q5, q6, q7⟩ := X8.out.all
  try dsimp only [PD.dr] at q0 q1 q2 q3 q4 q5 q6
  go_wp2_with fail
  clear q0 q1 q2 q3 q4 q5 q6 q7
  refine (HR.out _ (HF.out _ LB8.out).hd (HF.out _ LB8.out).hs (HF.out _ LB8.out).ht).mono ?_
  rintro e w9 ⟨rfl, hb⟩
  have hba := (show Below _ _ (w9.alloc (.cells #[.int .i64 0, .int .i64 0, .slice none 0 0, .slice none 0 0, .int .i64 0, .int .i64 0, .slice none 0 0] 27)) from hb.trans (((Below.refl _ _).alloc (Nat.le_refl _) _).mono hb.size))
  clear hb
  have X9 := Lib.hid (X8.out.next hba)
  have Y9 := Lib.hid (Y8.out.next hba)
  have LB9 := Lib.hid (LB8.out.trans (hba.mono LB8.out.size))
  clear hba X8 Y8 LB8
  go_wp2_with fail
  refine (alive_any _ (HF.out _ LB9.out).hE).mono ?_
  rintro e w10 ⟨rfl, hb⟩
  have X10 := Lib.hid (X9.out.next hb)
  have Y10 := Lib.hid (Y9.out.next hb)
  have LB10 := Lib.hid (LB9.out.trans (hb.mono LB9.out.size))
  clear hb X9 Y9 LB9
  go_wp2
  go_ret
  exact ⟨rfl, LB10.out⟩
set_option maxHeartbeats 3200000 in
theorem fs_M_yes (D E : Dr) (As At : Option Addr) (ns nt cs ct : Nat) (fs ft : Nat → Int) (P Q : PD) (w : World) (hF : FS w D E As ns fs At nt ft) (hV : FV w D E P Q ns nt) (hM : Mtc P Q) (hA : P.All) (hB : Q.All) (ha : prm ns fs P.S = true) (hb : prm nt ft P.T = true) :
    Calls Tryd.prog 8 #[.agg #[.int .i64 D.S, .int .i64 D.T, .slice D.A D.n D.c, .slice D.B D.m D.d, .int .i64 D.W, .int .i64 D.H, .slice D.C D.k D.e], .agg #[.int .i64 E.S, .int .i64 E.T, .slice E.A E.n E.c, .slice E.B E.m E.d, .int .i64 E.W, .int .i64 E.H, .slice E.C E.k E.e], .slice As ns cs, .slice At nt ct] w fun e w' => e = .returned (.bool true) ∧ Below w.heap.size w w' := by
  have HV := Lib.hid hV.hv
  have HU := Lib.hid hV.hu
  have HI := Lib.hid hV.hI
  have HJ := Lib.hid hV.hJ
  have HP := Lib.hid hV.hP
  have HQ := Lib.hid hV.hQ
  have n70 := hV.ns
  have t70 := hV.nt

  have h40 := hV.hP.s1
  have h41 := hV.hP.t1
  have HM := Lib.hid hM
  have HA := Lib.hid hA
  have HDM := Lib.hid ((dm_case hV.hI hV.hJ hV.hP hV.hQ hA hB).elim (fun h => h.2) (fun h => absurd hM h.1))
  have HW1 := Lib.hid (fun v (h : D.In v v.heap.size) => (show Calls Tryd.prog 30 #[.agg #[.int .i64 D.S, .int .i64 D.T, .slice D.A D.n D.c, .slice D.B D.m D.d, .int .i64 D.W, .int .i64 D.H, .slice D.C D.k D.e]] v (OkGrid v P.n P.m P.wvf) from weave_ok hV.hI hV.hP v h))
  have HW2 := Lib.hid (fun v (h : E.In v v.heap.size) => (show Calls Tryd.prog 30 #[.agg #[.int .i64 E.S, .int .i64 E.T, .slice E.A E.n E.c, .slice E.B E.m E.d, .int .i64 E.W, .int .i64 E.H, .slice E.C E.k E.e]] v (OkGrid v P.n P.m P.wvf) by
    have h2 := weave_ok hV.hJ hV.hQ v h
    rw [← hM.n, ← hM.m] at h2
    refine h2.mono fun e w' h => okgrid_congr (fun i hi => ?_) h
    rw [← mtc_wv hV.hP hM hi, PD.wvf, ← hM.n]))
  have nm5 : P.n * P.m ≤ 5000 := Nat.le_trans (Nat.mul_le_mul hV.hP.n1 hV.hP.m1) (by omega)
  clear hM hA hB
  obtain rfl : ns = P.S := prm_len ha
  obtain rfl : nt = P.T := prm_len hb
  have HPA := Lib.hid ha
  have HPB := Lib.hid hb
  clear ha hb
  clear hV
  obtain ⟨hx0, hy0, hl0⟩ := dboxes2 w D E
  have X0 := Lib.hid hx0
  have Y0 := Lib.hid hy0
  have LB0 := Lib.hid hl0
  have HF := Lib.hid (fun v (h : Below w.heap.size w v) => hF.next h)
  clear hx0 hy0 hl0 hF
  go_enter Tryd.func8, Tryd.ntmps8
  obtain ⟨q0, q1, q2, q3, q4, q5, q6, q7⟩ := X0.out.all
  try dsimp only [PD.dr] at q0 q1 q2 q3 q4 q5 q6
  go_wp2_with fail
  clear q0 q1 q2 q3 q4 q5 q6 q7
  refine (HV.out _ LB0.out).mono ?_
  rintro e w1 ⟨rfl, hb⟩
  have X1 := Lib.hid (X0.out.next hb)
  have Y1 := Lib.hid (Y0.out.next hb)
  have LB1 := Lib.hid (LB0.out.trans (hb.mono LB0.out.size))
  clear hb X0 Y0 LB0
  obtain ⟨q0, q1, q2, q3, q4, q5, q6, q7⟩ := Y1.out.all
  try dsimp only [PD.dr] at q0 q1 q2 q3 q4 q5 q6
  go_wp2_with fail
  clear q0 q1 q2 q3 q4 q5 q6 q7
  refine (HU.out _ LB1.out).mono ?_
  rintro e w2 ⟨rfl, hb⟩
  have X2 := Lib.hid (X1.out.next hb)
  have Y2 := Lib.hid (Y1.out.next hb)
  have LB2 := Lib.hid (LB1.out.trans (hb.mono LB1.out.size))
  clear hb X1 Y1 LB1
  obtain ⟨q0, q1, q2, q3, q4, q5, q6, q7⟩ := X2.out.all
  try dsimp only [PD.dr] at q0 q1 q2 q3 q4 q5 q6
  obtain ⟨r0, r1, r2, r3, r4, r5, r6, r7⟩ := Y2.out.all
  try dsimp only [PD.dr] at r0 r1 r2 r3 r4 r5 r6
  go_wp2_with fail
  clear q0 q1 q2 q3 q4 q5 q6 q7 r0 r1 r2 r3 r4 r5 r6 r7
  refine (HDM.out _ (HF.out _ LB2.out).hd (HF.out _ LB2.out).he).mono ?_
  rintro e w3 hm3
  obtain ⟨a1, ac1, a2, ac2, rfl, hm1, hm2, hb⟩ := hm3.rows
  clear hm3
  have M3 := Lib.hid (show LRow w3 a1 P.S (P.mf Q) from hm1)
  have N3 := Lib.hid (show LRow w3 a2 P.T (P.mg Q) from hm2)
  clear hm1 hm2
  have X3 := Lib.hid (X2.out.next hb)
  have Y3 := Lib.hid (Y2.out.next hb)
  have LB3 := Lib.hid (LB2.out.trans (hb.mono LB2.out.size))
  clear hb X2 Y2 LB2
  obtain ⟨q0, q1, q2, q3, q4, q5, q6, q7⟩ := X3.out.all
  try dsimp only [PD.dr] at q0 q1 q2 q3 q4 q5 q6
  go_wp2_with fail
  clear q0 q1 q2 q3 q4 q5 q6 q7
  refine (renumber_ok HI.out HP.out a1 a2 _ _ ac1 ac2 _ _ HM.out.pf HM.out.pg _ (HF.out _ LB3.out).hd M3.out.holds N3.out.holds).mono ?_
  rintro e w4 ⟨x1, y1, x2, y2, x3, y3, rfl, hr3, hb⟩
  have hba := (show Below _ _ (w4.alloc (.cells #[.int .i64 ((P.rnm (P.mf Q) (P.mg Q)).S : Nat), .int .i64 ((P.rnm (P.mf Q) (P.mg Q)).T : Nat), .slice (some ⟨x1, 0, none⟩) (P.rnm (P.mf Q) (P.mg Q)).n y1, .slice (some ⟨x2, 0, none⟩) (P.rnm (P.mf Q) (P.mg Q)).m y2, .int .i64 ((P.rnm (P.mf Q) (P.mg Q)).T : Nat), .int .i64 ((P.rnm (P.mf Q) (P.mg Q)).S : Nat), .slice (some ⟨x3, 0, none⟩) ((P.rnm (P.mf Q) (P.mg Q)).T * (P.rnm (P.mf Q) (P.mg Q)).S) y3] 27)) from hb.trans (((Below.refl _ _).alloc (Nat.le_refl _) _).mono hb.size))
  have Dc4 := Lib.hid (show DBox (w4.alloc (.cells #[.int .i64 ((P.rnm (P.mf Q) (P.mg Q)).S : Nat), .int .i64 ((P.rnm (P.mf Q) (P.mg Q)).T : Nat), .slice (some ⟨x1, 0, none⟩) (P.rnm (P.mf Q) (P.mg Q)).n y1, .slice (some ⟨x2, 0, none⟩) (P.rnm (P.mf Q) (P.mg Q)).m y2, .int .i64 ((P.rnm (P.mf Q) (P.mg Q)).T : Nat), .int .i64 ((P.rnm (P.mf Q) (P.mg Q)).S : Nat), .slice (some ⟨x3, 0, none⟩) ((P.rnm (P.mf Q) (P.mg Q)).T * (P.rnm (P.mf Q) (P.mg Q)).S) y3] 27)) w4.heap.size (PD.dr (P.rnm (P.mf Q) (P.mg Q)) x1 y1 x2 y2 x3 y3) from DBox.new w4 (PD.dr (P.rnm (P.mf Q) (P.mg Q)) x1 y1 x2 y2 x3 y3))
  have Qc4 := Lib.hid (hr3.next ((Below.refl _ _).alloc (Nat.le_refl _) (.cells #[.int .i64 ((P.rnm (P.mf Q) (P.mg Q)).S : Nat), .int .i64 ((P.rnm (P.mf Q) (P.mg Q)).T : Nat), .slice (some ⟨x1, 0, none⟩) (P.rnm (P.mf Q) (P.mg Q)).n y1, .slice (some ⟨x2, 0, none⟩) (P.rnm (P.mf Q) (P.mg Q)).m y2, .int .i64 ((P.rnm (P.mf Q) (P.mg Q)).T : Nat), .int .i64 ((P.rnm (P.mf Q) (P.mg Q)).S : Nat), .slice (some ⟨x3, 0, none⟩) ((P.rnm (P.mf Q) (P.mg Q)).T * (P.rnm (P.mf Q) (P.mg Q)).S) y3] 27)))
  clear hb hr3
  have X4 := Lib.hid (X3.out.next hba)
  have Y4 := Lib.hid (Y3.out.next hba)
  have LB4 := Lib.hid (LB3.out.trans (hba.mono LB3.out.size))
  have M4 := Lib.hid (M3.out.next hba)
  have N4 := Lib.hid (N3.out.next hba)
  clear hba X3 Y3 LB3 M3 N3
  clear M4
  clear N4
  obtain ⟨q0, q1, q2, q3, q4, q5, q6, q7⟩ := X4.out.all
  try dsimp only [PD.dr] at q0 q1 q2 q3 q4 q5 q6
  go_wp2_with fail
  clear q0 q1 q2 q3 q4 q5 q6 q7
  refine (HW1.out _ (HF.out _ LB4.out).hd).mono ?_
  rintro e w5 ⟨kg, rfl, hkt, hrt, hb⟩
  have hba := (show Below _ _ (w5.alloc (.cells #[.int .i64 (P.n : Nat), .int .i64 (P.m : Nat), .slice (some ⟨kg, 0, none⟩) (P.n * P.m) (P.n * P.m)] 25)) from hb.trans (((Below.refl _ _).alloc (Nat.le_refl _) _).mono hb.size))
  have Bg5 := Lib.hid (Box.new w5 P.n P.m (.slice (some ⟨kg, 0, none⟩) (P.n * P.m) (P.n * P.m)))
  have Rg5 := Lib.hid (hrt.alloc (.cells #[.int .i64 (P.n : Nat), .int .i64 (P.m : Nat), .slice (some ⟨kg, 0, none⟩) (P.n * P.m) (P.n * P.m)] 25))
  clear hb hrt
  have X5 := Lib.hid (X4.out.next hba)
  have Y5 := Lib.hid (Y4.out.next hba)
  have LB5 := Lib.hid (LB4.out.trans (hba.mono LB4.out.size))
  have Dc5 := Lib.hid (Dc4.out.next hba)
  have Qc5 := Lib.hid (Qc4.out.next hba)
  clear hba X4 Y4 LB4 Dc4 Qc4
  obtain ⟨q0, q1, q2, q3, q4, q5, q6, q7⟩ := Y5.out.all
  try dsimp only [PD.dr] at q0 q1 q2 q3 q4 q5 q6
  go_wp2_with fail
  clear q0 q1 q2 q3 q4 q5 q6 q7
  refine (HW2.out _ (HF.out _ LB5.out).he).mono ?_
  rintro e w6 ⟨kh, rfl, hkt, hrt, hb⟩
  have hba := (show Below _ _ (w6.alloc (.cells #[.int .i64 (P.n : Nat), .int .i64 (P.m : Nat), .slice (some ⟨kh, 0, none⟩) (P.n * P.m) (P.n * P.m)] 25)) from hb.trans (((Below.refl _ _).alloc (Nat.le_refl _) _).mono hb.size))
  have Bh6 := Lib.hid (Box.new w6 P.n P.m (.slice (some ⟨kh, 0, none⟩) (P.n * P.m) (P.n * P.m)))
  have Rh6 := Lib.hid (hrt.alloc (.cells #[.int .i64 (P.n : Nat), .int .i64 (P.m : Nat), .slice (some ⟨kh, 0, none⟩) (P.n * P.m) (P.n * P.m)] 25))
  clear hb hrt
  have X6 := Lib.hid (X5.out.next hba)
  have Y6 := Lib.hid (Y5.out.next hba)
  have LB6 := Lib.hid (LB5.out.trans (hba.mono LB5.out.size))
  have Dc6 := Lib.hid (Dc5.out.next hba)
  have Qc6 := Lib.hid (Qc5.out.next hba)
  have Bg6 := Lib.hid (Bg5.out.below hba Bg5.out.lt)
  have Rg6 := Lib.hid (Rg5.out.below hba Rg5.out.lt)
  clear hba X5 Y5 LB5 Dc5 Qc5 Bg5 Rg5
  obtain ⟨q0, q1, q2, q3, q4, q5, q6, q7⟩ := Dc6.out.all
  try dsimp only [PD.dr] at q0 q1 q2 q3 q4 q5 q6
  obtain ⟨r0, r1, r2, r3, r4, r5, r6, r7⟩ := Y6.out.all
  try dsimp only [PD.dr] at r0 r1 r2 r3 r4 r5 r6
  go_wp2_with fail
  clear q0 q1 q2 q3 q4 q5 q6 q7 r0 r1 r2 r3 r4 r5 r6 r7
  refine (rdsame_any (PD.dr (P.rnm (P.mf Q) (P.mg Q)) x1 y1 x2 y2 x3 y3) E _ ((PD.dr_is (P.rnm (P.mf Q) (P.mg Q)) x1 y1 x2 y2 x3 y3).small (rnm_ok HP.out HM.out.pf HM.out.pg)) (Qc6.out.dr y1 y2 y3) (HF.out _ LB6.out).he).mono ?_
  rintro e w7 ⟨rfl, hb⟩
  have X7 := Lib.hid (X6.out.next hb)
  have Y7 := Lib.hid (Y6.out.next hb)
  have LB7 := Lib.hid (LB6.out.trans (hb.mono LB6.out.size))
  have Dc7 := Lib.hid (Dc6.out.next hb)
  have Qc7 := Lib.hid (Qc6.out.next hb)
  have Bg7 := Lib.hid (Bg6.out.below hb Bg6.out.lt)
  have Rg7 := Lib.hid (Rg6.out.below hb Rg6.out.lt)
  have Bh7 := Lib.hid (Bh6.out.below hb Bh6.out.lt)
  have Rh7 := Lib.hid (Rh6.out.below hb Rh6.out.lt)
  clear hb X6 Y6 LB6 Dc6 Qc6 Bg6 Rg6 Bh6 Rh6
  rw [(dsm_is (PD.dr_is (P.rnm (P.mf Q) (P.mg Q)) x1 y1 x2 y2 x3 y3) HJ.out (rnm_ok HP.out HM.out.pf HM.out.pg)).2 HM.out.e]
  clear Dc7
  clear Qc7
  obtain ⟨q0, q1, q2, q3, q4, q5, q6⟩ := Bg7.out.all
  obtain ⟨r0, r1, r2, r3, r4, r5, r6⟩ := Bh7.out.all
  go_wp2_with fail
  clear q0 q1 q2 q3 q4 q5 q6 r0 r1 r2 r3 r4 r5 r6
  refine (rgsm_any P.n P.m P.n P.m (some ⟨kg, 0, none⟩) (some ⟨kh, 0, none⟩) (P.n * P.m) (P.n * P.m) (P.n * P.m) (P.n * P.m) P.wvf P.wvf _ nm5 (Rg7.out.holds Rg7.out.lt) (Rh7.out.holds Rh7.out.lt)).mono ?_
  rintro e w8 ⟨rfl, hb⟩
  have X8 := Lib.hid (X7.out.next hb)
  have Y8 := Lib.hid (Y7.out.next hb)
  have LB8 := Lib.hid (LB7.out.trans (hb.mono LB7.out.size))
  have Bg8 := Lib.hid (Bg7.out.below hb Bg7.out.lt)
  have Rg8 := Lib.hid (Rg7.out.below hb Rg7.out.lt)
  have Bh8 := Lib.hid (Bh7.out.below hb Bh7.out.lt)
  have Rh8 := Lib.hid (Rh7.out.below hb Rh7.out.lt)
  clear hb X7 Y7 LB7 Bg7 Rg7 Bh7 Rh7
  rw [gsm_self_]
  clear Bg8
  clear Bh8
  clear Rg8
  clear Rh8
  obtain ⟨q0, q1, q2, q3, q4, q5, q6, q7⟩ := X8.out.all
  try dsimp only [PD.dr] at q0 q1 q2 q3 q4 q5 q6
  go_wp2_with fail
  clear q0 q1 q2 q3 q4 q5 q6 q7
  refine (renumber_ok HI.out HP.out As At _ _ cs ct _ _ HPA.out HPB.out _ (HF.out _ LB8.out).hd (HF.out _ LB8.out).hs (HF.out _ LB8.out).ht).mono ?_
  rintro e w9 ⟨r1, s1, r2, s2, r3, s3, rfl, hr3, hb⟩
  have hba := (show Below _ _ (w9.alloc (.cells #[.int .i64 ((P.rnm fs ft).S : Nat), .int .i64 ((P.rnm fs ft).T : Nat), .slice (some ⟨r1, 0, none⟩) (P.rnm fs ft).n s1, .slice (some ⟨r2, 0, none⟩) (P.rnm fs ft).m s2, .int .i64 ((P.rnm fs ft).T : Nat), .int .i64 ((P.rnm fs ft).S : Nat), .slice (some ⟨r3, 0, none⟩) ((P.rnm fs ft).T * (P.rnm fs ft).S) s3] 27)) from hb.trans (((Below.refl _ _).alloc (Nat.le_refl _) _).mono hb.size))
  have Dn9 := Lib.hid (show DBox (w9.alloc (.cells #[.int .i64 ((P.rnm fs ft).S : Nat), .int .i64 ((P.rnm fs ft).T : Nat), .slice (some ⟨r1, 0, none⟩) (P.rnm fs ft).n s1, .slice (some ⟨r2, 0, none⟩) (P.rnm fs ft).m s2, .int .i64 ((P.rnm fs ft).T : Nat), .int .i64 ((P.rnm fs ft).S : Nat), .slice (some ⟨r3, 0, none⟩) ((P.rnm fs ft).T * (P.rnm fs ft).S) s3] 27)) w9.heap.size (PD.dr (P.rnm fs ft) r1 s1 r2 s2 r3 s3) from DBox.new w9 (PD.dr (P.rnm fs ft) r1 s1 r2 s2 r3 s3))
  have Qn9 := Lib.hid (hr3.next ((Below.refl _ _).alloc (Nat.le_refl _) (.cells #[.int .i64 ((P.rnm fs ft).S : Nat), .int .i64 ((P.rnm fs ft).T : Nat), .slice (some ⟨r1, 0, none⟩) (P.rnm fs ft).n s1, .slice (some ⟨r2, 0, none⟩) (P.rnm fs ft).m s2, .int .i64 ((P.rnm fs ft).T : Nat), .int .i64 ((P.rnm fs ft).S : Nat), .slice (some ⟨r3, 0, none⟩) ((P.rnm fs ft).T * (P.rnm fs ft).S) s3] 27)))
  clear hb hr3
  have X9 := Lib.hid (X8.out.next hba)
  have Y9 := Lib.hid (Y8.out.next hba)
  have LB9 := Lib.hid (LB8.out.trans (hba.mono LB8.out.size))
  clear hba X8 Y8 LB8
  obtain ⟨q0, q1, q2, q3, q4, q5, q6, q7⟩ := X9.out.all
  try dsimp only [PD.dr] at q0 q1 q2 q3 q4 q5 q6
  go_wp2_with fail
  clear q0 q1 q2 q3 q4 q5 q6 q7
  refine (uses_yes HI.out HP.out HA.out _ (HF.out _ LB9.out).hd).mono ?_
  rintro e w10 ⟨rfl, hb⟩
  have X10 := Lib.hid (X9.out.next hb)
  have Y10 := Lib.hid (Y9.out.next hb)
  have LB10 := Lib.hid (LB9.out.trans (hb.mono LB9.out.size))
  have Dn10 := Lib.hid (Dn9.out.next hb)
  have Qn10 := Lib.hid (Qn9.out.next hb)
  clear hb X9 Y9 LB9 Dn9 Qn9
  obtain ⟨hm1, hm2, hm3, hm4⟩ := rnm_mtc HP.out HA.out HPA.out HPB.out
  have H3 := Lib.hid hm3
  have H4 := Lib.hid hm4
  have HD1 := Lib.hid ((dm_case HI.out (PD.dr_is (P.rnm fs ft) r1 s1 r2 s2 r3 s3) HP.out (rnm_ok HP.out HPA.out HPB.out) HA.out hm2).elim (fun h => h.2) (fun h => absurd hm1 h.1))
  have HSM := Lib.hid (self_mtc HP.out HA.out)
  have HD2 := Lib.hid ((dm_case HI.out HI.out HP.out HP.out HA.out HA.out).elim (fun h => h.2) (fun h => absurd HSM.out h.1))
  clear hm1 hm2 hm3 hm4
  obtain ⟨q0, q1, q2, q3, q4, q5, q6, q7⟩ := X10.out.all
  try dsimp only [PD.dr] at q0 q1 q2 q3 q4 q5 q6
  obtain ⟨r0, r1, r2, r3, r4, r5, r6, r7⟩ := Dn10.out.all
  try dsimp only [PD.dr] at r0 r1 r2 r3 r4 r5 r6
  go_wp2_with fail
  clear q0 q1 q2 q3 q4 q5 q6 q7 r0 r1 r2 r3 r4 r5 r6 r7
  refine (HD1.out _ (HF.out _ LB10.out).hd (Qn10.out.dr s1 s2 s3)).mono ?_
  rintro e w11 hm3
  obtain ⟨u1, uc1, u2, uc2, rfl, hm1, hm2, hb⟩ := hm3.rows
  clear hm3
  have U11 := Lib.hid (show LRow w11 u1 P.S (P.mf (P.rnm fs ft)) from hm1)
  have V11 := Lib.hid (show LRow w11 u2 P.T (P.mg (P.rnm fs ft)) from hm2)
  clear hm1 hm2
  have X11 := Lib.hid (X10.out.next hb)
  have Y11 := Lib.hid (Y10.out.next hb)
  have LB11 := Lib.hid (LB10.out.trans (hb.mono LB10.out.size))
  have Dn11 := Lib.hid (Dn10.out.next hb)
  have Qn11 := Lib.hid (Qn10.out.next hb)
  clear hb X10 Y10 LB10 Dn10 Qn10
  clear Qn11
  clear Dn11
  obtain ⟨q0, q1, q2, q3, q4, q5, q6, q7⟩ := X11.out.all
  try dsimp only [PD.dr] at q0 q1 q2 q3 q4 q5 q6
  go_wp2_with fail
  clear q0 q1 q2 q3 q4 q5 q6 q7
  refine (HD2.out _ (HF.out _ LB11.out).hd (HF.out _ LB11.out).hd).mono ?_
  rintro e w12 hm3
  obtain ⟨p1, pc1, p2, pc2, rfl, hm1, hm2, hb⟩ := hm3.rows
  clear hm3
  have M12 := Lib.hid (show LRow w12 p1 P.S (P.mf P) from hm1)
  have N12 := Lib.hid (show LRow w12 p2 P.T (P.mg P) from hm2)
  clear hm1 hm2
  have X12 := Lib.hid (X11.out.next hb)
  have Y12 := Lib.hid (Y11.out.next hb)
  have LB12 := Lib.hid (LB11.out.trans (hb.mono LB11.out.size))
  have U12 := Lib.hid (U11.out.next hb)
  have V12 := Lib.hid (V11.out.next hb)
  clear hb X11 Y11 LB11 U11 V11
  obtain ⟨q0, q1, q2, q3, q4, q5, q6, q7⟩ := X12.out.all
  try dsimp only [PD.dr] at q0 q1 q2 q3 q4 q5 q6
  go_wp2_with fail
  clear q0 q1 q2 q3 q4 q5 q6 q7
  refine (renumber_ok HI.out HP.out p1 p2 _ _ pc1 pc2 _ _ HSM.out.pf HSM.out.pg _ (HF.out _ LB12.out).hd M12.out.holds N12.out.holds).mono ?_
  rintro e w13 ⟨x1, y1, x2, y2, x3, y3, rfl, hr3, hb⟩
  have hba := (show Below _ _ (w13.alloc (.cells #[.int .i64 ((P.rnm (P.mf P) (P.mg P)).S : Nat), .int .i64 ((P.rnm (P.mf P) (P.mg P)).T : Nat), .slice (some ⟨x1, 0, none⟩) (P.rnm (P.mf P) (P.mg P)).n y1, .slice (some ⟨x2, 0, none⟩) (P.rnm (P.mf P) (P.mg P)).m y2, .int .i64 ((P.rnm (P.mf P) (P.mg P)).T : Nat), .int .i64 ((P.rnm (P.mf P) (P.mg P)).S : Nat), .slice (some ⟨x3, 0, none⟩) ((P.rnm (P.mf P) (P.mg P)).T * (P.rnm (P.mf P) (P.mg P)).S) y3] 27)) from hb.trans (((Below.refl _ _).alloc (Nat.le_refl _) _).mono hb.size))
  have Do13 := Lib.hid (show DBox (w13.alloc (.cells #[.int .i64 ((P.rnm (P.mf P) (P.mg P)).S : Nat), .int .i64 ((P.rnm (P.mf P) (P.mg P)).T : Nat), .slice (some ⟨x1, 0, none⟩) (P.rnm (P.mf P) (P.mg P)).n y1, .slice (some ⟨x2, 0, none⟩) (P.rnm (P.mf P) (P.mg P)).m y2, .int .i64 ((P.rnm (P.mf P) (P.mg P)).T : Nat), .int .i64 ((P.rnm (P.mf P) (P.mg P)).S : Nat), .slice (some ⟨x3, 0, none⟩) ((P.rnm (P.mf P) (P.mg P)).T * (P.rnm (P.mf P) (P.mg P)).S) y3] 27)) w13.heap.size (PD.dr (P.rnm (P.mf P) (P.mg P)) x1 y1 x2 y2 x3 y3) from DBox.new w13 (PD.dr (P.rnm (P.mf P) (P.mg P)) x1 y1 x2 y2 x3 y3))
  have Qo13 := Lib.hid (hr3.next ((Below.refl _ _).alloc (Nat.le_refl _) (.cells #[.int .i64 ((P.rnm (P.mf P) (P.mg P)).S : Nat), .int .i64 ((P.rnm (P.mf P) (P.mg P)).T : Nat), .slice (some ⟨x1, 0, none⟩) (P.rnm (P.mf P) (P.mg P)).n y1, .slice (some ⟨x2, 0, none⟩) (P.rnm (P.mf P) (P.mg P)).m y2, .int .i64 ((P.rnm (P.mf P) (P.mg P)).T : Nat), .int .i64 ((P.rnm (P.mf P) (P.mg P)).S : Nat), .slice (some ⟨x3, 0, none⟩) ((P.rnm (P.mf P) (P.mg P)).T * (P.rnm (P.mf P) (P.mg P)).S) y3] 27)))
  clear hb hr3
  have X13 := Lib.hid (X12.out.next hba)
  have Y13 := Lib.hid (Y12.out.next hba)
  have LB13 := Lib.hid (LB12.out.trans (hba.mono LB12.out.size))
  have U13 := Lib.hid (U12.out.next hba)
  have V13 := Lib.hid (V12.out.next hba)
  have M13 := Lib.hid (M12.out.next hba)
  have N13 := Lib.hid (N12.out.next hba)
  clear hba X12 Y12 LB12 U12 V12 M12 N12
  clear M13
  clear N13
  go_wp2_with fail
  refine (rieq_any u1 As P.S P.S uc1 cs (P.mf (P.rnm fs ft)) fs _ (by omega) U13.out.holds (HF.out _ LB13.out).hs).mono ?_
  rintro e w14 ⟨rfl, hb⟩
  have X14 := Lib.hid (X13.out.next hb)
  have Y14 := Lib.hid (Y13.out.next hb)
  have LB14 := Lib.hid (LB13.out.trans (hb.mono LB13.out.size))
  have U14 := Lib.hid (U13.out.next hb)
  have V14 := Lib.hid (V13.out.next hb)
  have Do14 := Lib.hid (Do13.out.next hb)
  have Qo14 := Lib.hid (Qo13.out.next hb)
  clear hb X13 Y13 LB13 U13 V13 Do13 Qo13
  rw [lsm_of _ _ _ H3.out]
  go_wp2_with fail
  refine (rieq_any u2 At P.T P.T uc2 ct (P.mg (P.rnm fs ft)) ft _ (by omega) V14.out.holds (HF.out _ LB14.out).ht).mono ?_
  rintro e w15 ⟨rfl, hb⟩
  have X15 := Lib.hid (X14.out.next hb)
  have Y15 := Lib.hid (Y14.out.next hb)
  have LB15 := Lib.hid (LB14.out.trans (hb.mono LB14.out.size))
  have U15 := Lib.hid (U14.out.next hb)
  have V15 := Lib.hid (V14.out.next hb)
  have Do15 := Lib.hid (Do14.out.next hb)
  have Qo15 := Lib.hid (Qo14.out.next hb)
  clear hb X14 Y14 LB14 U14 V14 Do14 Qo14
  rw [lsm_of _ _ _ H4.out]
  obtain ⟨q0, q1, q2, q3, q4, q5, q6, q7⟩ := Do15.out.all
  try dsimp only [PD.dr] at q0 q1 q2 q3 q4 q5 q6
  obtain ⟨r0, r1, r2, r3, r4, r5, r6, r7⟩ := X15.out.all
  try dsimp only [PD.dr] at r0 r1 r2 r3 r4 r5 r6
  go_wp2_with fail
  clear q0 q1 q2 q3 q4 q5 q6 q7 r0 r1 r2 r3 r4 r5 r6 r7
  refine (rdsame_any (PD.dr (P.rnm (P.mf P) (P.mg P)) x1 y1 x2 y2 x3 y3) D _ ((PD.dr_is (P.rnm (P.mf P) (P.mg P)) x1 y1 x2 y2 x3 y3).small (rnm_ok HP.out HSM.out.pf HSM.out.pg)) (Qo15.out.dr y1 y2 y3) (HF.out _ LB15.out).hd).mono ?_
  rintro e w16 ⟨rfl, hb⟩
  have X16 := Lib.hid (X15.out.next hb)
  have Y16 := Lib.hid (Y15.out.next hb)
  have LB16 := Lib.hid (LB15.out.trans (hb.mono LB15.out.size))
  have U16 := Lib.hid (U15.out.next hb)
  have V16 := Lib.hid (V15.out.next hb)
  have Do16 := Lib.hid (Do15.out.next hb)
  have Qo16 := Lib.hid (Qo15.out.next hb)
  clear hb X15 Y15 LB15 U15 V15 Do15 Qo15
  rw [(dsm_is (PD.dr_is (P.rnm (P.mf P) (P.mg P)) x1 y1 x2 y2 x3 y3) HI.out (rnm_ok HP.out HSM.out.pf HSM.out.pg)).2 HSM.out.e]
  go_wp2_with fail
  refine (alive_any _ (HF.out _ LB16.out).hE).mono ?_
  rintro e w17 ⟨rfl, hb⟩
  have X17 := Lib.hid (X16.out.next hb)
  have Y17 := Lib.hid (Y16.out.next hb)
  have LB17 := Lib.hid (LB16.out.trans (hb.mono LB16.out.size))
  have U17 := Lib.hid (U16.out.next hb)
  have V17 := Lib.hid (V16.out.next hb)
  have Do17 := Lib.hid (Do16.out.next hb)
  have Qo17 := Lib.hid (Qo16.out.next hb)
  clear hb X16 Y16 LB16 U16 V16 Do16 Qo16
  go_wp2
  go_ret
  exact ⟨rfl, LB17.out⟩
end Go.Proofs.YtbafhdinalapoaaDoor

/- The statement FactorSame: the walks, part Fsc. -/
namespace Go.Proofs.YtbafhdinalapoaaDoor
open Go.RowKit
set_option linter.unusedVariables false
set_option linter.unusedSimpArgs false
set_option maxRecDepth 100000

open L2 (nd ren)
set_option maxHeartbeats 3200000 in
theorem fs_N_no (D E : Dr) (As At : Option Addr) (ns nt cs ct : Nat) (fs ft : Nat → Int) (P Q : PD) (w : World) (hF : FS w D E As ns fs At nt ft) (hV : FV w D E P Q ns nt) (hM : ¬ Mtc P Q) (hA : P.All) (hB : Q.All) (hr : ∀ v, D.In v v.heap.size → L2.Holds v v.heap.size As ns fs → L2.Holds v v.heap.size At nt ft → Calls Tryd.prog 11 #[.agg #[.int .i64 D.S, .int .i64 D.T, .slice D.A D.n D.c, .slice D.B D.m D.d, .int .i64 D.W, .int .i64 D.H, .slice D.C D.k D.e], .slice As ns cs, .slice At nt ct] v (ErrDr v 2)) :
    Calls Tryd.prog 8 #[.agg #[.int .i64 D.S, .int .i64 D.T, .slice D.A D.n D.c, .slice D.B D.m D.d, .int .i64 D.W, .int .i64 D.H, .slice D.C D.k D.e], .agg #[.int .i64 E.S, .int .i64 E.T, .slice E.A E.n E.c, .slice E.B E.m E.d, .int .i64 E.W, .int .i64 E.H, .slice E.C E.k E.e], .slice As ns cs, .slice At nt ct] w fun e w' => e = .returned (.bool true) ∧ Below w.heap.size w w' := by
  have HV := Lib.hid hV.hv
  have HU := Lib.hid hV.hu
  have HI := Lib.hid hV.hI
  have HJ := Lib.hid hV.hJ
  have HP := Lib.hid hV.hP
  have HQ := Lib.hid hV.hQ
  have n70 := hV.ns
  have t70 := hV.nt

  have HA := Lib.hid hA
  have HDM := Lib.hid ((dm_case hV.hI hV.hJ hV.hP hV.hQ hA hB).elim (fun h => absurd h.1 hM) (fun h => h.2))
  have HUA := Lib.hid (fun v (h : D.In v v.heap.size) => uses_yes hV.hI hV.hP hA v h)
  have HUB := Lib.hid (fun v (h : E.In v v.heap.size) => uses_yes hV.hJ hV.hQ hB v h)
  clear hM hA hB
  have HR := Lib.hid hr
  clear hr
  clear hV
  obtain ⟨hx0, hy0, hl0⟩ := dboxes2 w D E
  have X0 := Lib.hid hx0
  have Y0 := Lib.hid hy0
  have LB0 := Lib.hid hl0
  have HF := Lib.hid (fun v (h : Below w.heap.size w v) => hF.next h)
  clear hx0 hy0 hl0 hF
  go_enter Tryd.func8, Tryd.ntmps8
  obtain ⟨q0, q1, q2, q3, q4, q5, q6, q7⟩ := X0.out.all
  try dsimp only [PD.dr] at q0 q1 q2 q3 q4 q5 q6
  go_wp2_with fail
  clear q0 q1 q2 q3 q4 q5 q6 q7
  refine (HV.out _ LB0.out).mono ?_
  rintro e w1 ⟨rfl, hb⟩
  have X1 := Lib.hid (X0.out.next hb)
  have Y1 := Lib.hid (Y0.out.next hb)
  have LB1 := Lib.hid (LB0.out.trans (hb.mono LB0.out.size))
  clear hb X0 Y0 LB0
  obtain ⟨q0, q1, q2, q3, q4, q5, q6, q7⟩ := Y1.out.all
  try dsimp only [PD.dr] at q0 q1 q2 q3 q4 q5 q6
  go_wp2_with fail
  clear q0 q1 q2 q3 q4 q5 q6 q7
  refine (HU.out _ LB1.out).mono ?_
  rintro e w2 ⟨rfl, hb⟩
  have X2 := Lib.hid (X1.out.next hb)
  have Y2 := Lib.hid (Y1.out.next hb)
  have LB2 := Lib.hid (LB1.out.trans (hb.mono LB1.out.size))
  clear hb X1 Y1 LB1
  obtain ⟨q0, q1, q2, q3, q4, q5, q6, q7⟩ := X2.out.all
  try dsimp only [PD.dr] at q0 q1 q2 q3 q4 q5 q6
  obtain ⟨r0, r1, r2, r3, r4, r5, r6, r7⟩ := Y2.out.all
  try dsimp only [PD.dr] at r0 r1 r2 r3 r4 r5 r6
  go_wp2_with fail
  clear q0 q1 q2 q3 q4 q5 q6 q7 r0 r1 r2 r3 r4 r5 r6 r7
  refine (HDM.out _ (HF.out _ LB2.out).hd (HF.out _ LB2.out).he).mono ?_
  rintro e w3 hm3
  obtain ⟨a1, ac1, a2, ac2, rfl, hm1, hm2, hb⟩ := hm3.rows
  clear hm3
  clear hm1 hm2
  have X3 := Lib.hid (X2.out.next hb)
  have Y3 := Lib.hid (Y2.out.next hb)
  have LB3 := Lib.hid (LB2.out.trans (hb.mono LB2.out.size))
  clear hb X2 Y2 LB2
  obtain ⟨q0, q1, q2, q3, q4, q5, q6, q7⟩ := X3.out.all
  try dsimp only [PD.dr] at q0 q1 q2 q3 q4 q5 q6
  go_wp2_with fail
  clear q0 q1 q2 q3 q4 q5 q6 q7
  refine (HUA.out _ (HF.out _ LB3.out).hd).mono ?_
  rintro e w4 ⟨rfl, hb⟩
  have X4 := Lib.hid (X3.out.next hb)
  have Y4 := Lib.hid (Y3.out.next hb)
  have LB4 := Lib.hid (LB3.out.trans (hb.mono LB3.out.size))
  clear hb X3 Y3 LB3
  obtain ⟨q0, q1, q2, q3, q4, q5, q6, q7⟩ := Y4.out.all
  try dsimp only [PD.dr] at q0 q1 q2 q3 q4 q5 q6
  go_wp2_with fail
  clear q0 q1 q2 q3 q4 q5 q6 q7
  refine (HUB.out _ (HF.out _ LB4.out).he).mono ?_
  rintro e w5 ⟨rfl, hb⟩
  have X5 := Lib.hid (X4.out.next hb)
  have Y5 := Lib.hid (Y4.out.next hb)
  have LB5 := Lib.hid (LB4.out.trans (hb.mono LB4.out.size))
  clear hb X4 Y4 LB4
  obtain ⟨q0, q1, q2, q3, q4, q5, q6, q7⟩ := X5.out.all
  try dsimp only [PD.dr] at q0 q1 q2 q3 q4 q5 q6
  go_wp2_with fail
  clear q0 q1 q2 q3 q4 q5 q6 q7
  refine (HR.out _ (HF.out _ LB5.out).hd (HF.out _ LB5.out).hs (HF.out _ LB5.out).ht).mono ?_
  rintro e w6 ⟨rfl, hb⟩
  have hba := (show Below _ _ (w6.alloc (.cells #[.int .i64 0, .int .i64 0, .slice none 0 0, .slice none 0 0, .int .i64 0, .int .i64 0, .slice none 0 0] 27)) from hb.trans (((Below.refl _ _).alloc (Nat.le_refl _) _).mono hb.size))
  clear hb
  have X6 := Lib.hid (X5.out.next hba)
  have Y6 := Lib.hid (Y5.out.next hba)
  have LB6 := Lib.hid (LB5.out.trans (hba.mono LB5.out.size))
  clear hba X5 Y5 LB5
  go_wp2_with fail
  refine (alive_any _ (HF.out _ LB6.out).hE).mono ?_
  rintro e w7 ⟨rfl, hb⟩
  have X7 := Lib.hid (X6.out.next hb)
  have Y7 := Lib.hid (Y6.out.next hb)
  have LB7 := Lib.hid (LB6.out.trans (hb.mono LB6.out.size))
  clear hb X6 Y6 LB6
  go_wp2
  go_ret
  exact ⟨rfl, LB7.out⟩
set_option maxHeartbeats 3200000 in
theorem fs_N_yes (D E : Dr) (As At : Option Addr) (ns nt cs ct : Nat) (fs ft : Nat → Int) (P Q : PD) (w : World) (hF : FS w D E As ns fs At nt ft) (hV : FV w D E P Q ns nt) (hM : ¬ Mtc P Q) (hA : P.All) (hB : Q.All) (ha : prm ns fs P.S = true) (hb : prm nt ft P.T = true) :
    Calls Tryd.prog 8 #[.agg #[.int .i64 D.S, .int .i64 D.T, .slice D.A D.n D.c, .slice D.B D.m D.d, .int .i64 D.W, .int .i64 D.H, .slice D.C D.k D.e], .agg #[.int .i64 E.S, .int .i64 E.T, .slice E.A E.n E.c, .slice E.B E.m E.d, .int .i64 E.W, .int .i64 E.H, .slice E.C E.k E.e], .slice As ns cs, .slice At nt ct] w fun e w' => e = .returned (.bool true) ∧ Below w.heap.size w w' := by
  have HV := Lib.hid hV.hv
  have HU := Lib.hid hV.hu
  have HI := Lib.hid hV.hI
  have HJ := Lib.hid hV.hJ
  have HP := Lib.hid hV.hP
  have HQ := Lib.hid hV.hQ
  have n70 := hV.ns
  have t70 := hV.nt

  have h40 := hV.hP.s1
  have h41 := hV.hP.t1
  have HA := Lib.hid hA
  have HDM := Lib.hid ((dm_case hV.hI hV.hJ hV.hP hV.hQ hA hB).elim (fun h => absurd h.1 hM) (fun h => h.2))
  have HUA := Lib.hid (fun v (h : D.In v v.heap.size) => uses_yes hV.hI hV.hP hA v h)
  have HUB := Lib.hid (fun v (h : E.In v v.heap.size) => uses_yes hV.hJ hV.hQ hB v h)
  clear hM hA hB
  obtain rfl : ns = P.S := prm_len ha
  obtain rfl : nt = P.T := prm_len hb
  have HPA := Lib.hid ha
  have HPB := Lib.hid hb
  clear ha hb
  clear hV
  obtain ⟨hx0, hy0, hl0⟩ := dboxes2 w D E
  have X0 := Lib.hid hx0
  have Y0 := Lib.hid hy0
  have LB0 := Lib.hid hl0
  have HF := Lib.hid (fun v (h : Below w.heap.size w v) => hF.next h)
  clear hx0 hy0 hl0 hF
  go_enter Tryd.func8, Tryd.ntmps8
  obtain ⟨q0, q1, q2, q3, q4, q5, q6, q7⟩ := X0.out.all
  try dsimp only [PD.dr] at q0 q1 q2 q3 q4 q5 q6
  go_wp2_with fail
  clear q0 q1 q2 q3 q4 q5 q6 q7
  refine (HV.out _ LB0.out).mono ?_
  rintro e w1 ⟨rfl, hb⟩
  have X1 := Lib.hid (X0.out.next hb)
  have Y1 := Lib.hid (Y0.out.next hb)
  have LB1 := Lib.hid (LB0.out.trans (hb.mono LB0.out.size))
  clear hb X0 Y0 LB0
  obtain ⟨q0, q1, q2, q3, q4, q5, q6, q7⟩ := Y1.out.all
  try dsimp only [PD.dr] at q0 q1 q2 q3 q4 q5 q6
  go_wp2_with fail
  clear q0 q1 q2 q3 q4 q5 q6 q7
  refine (HU.out _ LB1.out).mono ?_
  rintro e w2 ⟨rfl, hb⟩
  have X2 := Lib.hid (X1.out.next hb)
  have Y2 := Lib.hid (Y1.out.next hb)
  have LB2 := Lib.hid (LB1.out.trans (hb.mono LB1.out.size))
  clear hb X1 Y1 LB1
  obtain ⟨q0, q1, q2, q3, q4, q5, q6, q7⟩ := X2.out.all
  try dsimp only [PD.dr] at q0 q1 q2 q3 q4 q5 q6
  obtain ⟨r0, r1, r2, r3, r4, r5, r6, r7⟩ := Y2.out.all
  try dsimp only [PD.dr] at r0 r1 r2 r3 r4 r5 r6
  go_wp2_with fail
  clear q0 q1 q2 q3 q4 q5 q6 q7 r0 r1 r2 r3 r4 r5 r6 r7
  refine (HDM.out _ (HF.out _ LB2.out).hd (HF.out _ LB2.out).he).mono ?_
  rintro e w3 hm3
  obtain ⟨a1, ac1, a2, ac2, rfl, hm1, hm2, hb⟩ := hm3.rows
  clear hm3
  clear hm1 hm2
  have X3 := Lib.hid (X2.out.next hb)
  have Y3 := Lib.hid (Y2.out.next hb)
  have LB3 := Lib.hid (LB2.out.trans (hb.mono LB2.out.size))
  clear hb X2 Y2 LB2
  obtain ⟨q0, q1, q2, q3, q4, q5, q6, q7⟩ := X3.out.all
  try dsimp only [PD.dr] at q0 q1 q2 q3 q4 q5 q6
  go_wp2_with fail
  clear q0 q1 q2 q3 q4 q5 q6 q7
  refine (HUA.out _ (HF.out _ LB3.out).hd).mono ?_
  rintro e w4 ⟨rfl, hb⟩
  have X4 := Lib.hid (X3.out.next hb)
  have Y4 := Lib.hid (Y3.out.next hb)
  have LB4 := Lib.hid (LB3.out.trans (hb.mono LB3.out.size))
  clear hb X3 Y3 LB3
  obtain ⟨q0, q1, q2, q3, q4, q5, q6, q7⟩ := Y4.out.all
  try dsimp only [PD.dr] at q0 q1 q2 q3 q4 q5 q6
  go_wp2_with fail
  clear q0 q1 q2 q3 q4 q5 q6 q7
  refine (HUB.out _ (HF.out _ LB4.out).he).mono ?_
  rintro e w5 ⟨rfl, hb⟩
  have X5 := Lib.hid (X4.out.next hb)
  have Y5 := Lib.hid (Y4.out.next hb)
  have LB5 := Lib.hid (LB4.out.trans (hb.mono LB4.out.size))
  clear hb X4 Y4 LB4
  obtain ⟨q0, q1, q2, q3, q4, q5, q6, q7⟩ := X5.out.all
  try dsimp only [PD.dr] at q0 q1 q2 q3 q4 q5 q6
  go_wp2_with fail
  clear q0 q1 q2 q3 q4 q5 q6 q7
  refine (renumber_ok HI.out HP.out As At _ _ cs ct _ _ HPA.out HPB.out _ (HF.out _ LB5.out).hd (HF.out _ LB5.out).hs (HF.out _ LB5.out).ht).mono ?_
  rintro e w6 ⟨r1, s1, r2, s2, r3, s3, rfl, hr3, hb⟩
  have hba := (show Below _ _ (w6.alloc (.cells #[.int .i64 ((P.rnm fs ft).S : Nat), .int .i64 ((P.rnm fs ft).T : Nat), .slice (some ⟨r1, 0, none⟩) (P.rnm fs ft).n s1, .slice (some ⟨r2, 0, none⟩) (P.rnm fs ft).m s2, .int .i64 ((P.rnm fs ft).T : Nat), .int .i64 ((P.rnm fs ft).S : Nat), .slice (some ⟨r3, 0, none⟩) ((P.rnm fs ft).T * (P.rnm fs ft).S) s3] 27)) from hb.trans (((Below.refl _ _).alloc (Nat.le_refl _) _).mono hb.size))
  have Dn6 := Lib.hid (show DBox (w6.alloc (.cells #[.int .i64 ((P.rnm fs ft).S : Nat), .int .i64 ((P.rnm fs ft).T : Nat), .slice (some ⟨r1, 0, none⟩) (P.rnm fs ft).n s1, .slice (some ⟨r2, 0, none⟩) (P.rnm fs ft).m s2, .int .i64 ((P.rnm fs ft).T : Nat), .int .i64 ((P.rnm fs ft).S : Nat), .slice (some ⟨r3, 0, none⟩) ((P.rnm fs ft).T * (P.rnm fs ft).S) s3] 27)) w6.heap.size (PD.dr (P.rnm fs ft) r1 s1 r2 s2 r3 s3) from DBox.new w6 (PD.dr (P.rnm fs ft) r1 s1 r2 s2 r3 s3))
  have Qn6 := Lib.hid (hr3.next ((Below.refl _ _).alloc (Nat.le_refl _) (.cells #[.int .i64 ((P.rnm fs ft).S : Nat), .int .i64 ((P.rnm fs ft).T : Nat), .slice (some ⟨r1, 0, none⟩) (P.rnm fs ft).n s1, .slice (some ⟨r2, 0, none⟩) (P.rnm fs ft).m s2, .int .i64 ((P.rnm fs ft).T : Nat), .int .i64 ((P.rnm fs ft).S : Nat), .slice (some ⟨r3, 0, none⟩) ((P.rnm fs ft).T * (P.rnm fs ft).S) s3] 27)))
  clear hb hr3
  have X6 := Lib.hid (X5.out.next hba)
  have Y6 := Lib.hid (Y5.out.next hba)
  have LB6 := Lib.hid (LB5.out.trans (hba.mono LB5.out.size))
  clear hba X5 Y5 LB5
  obtain ⟨q0, q1, q2, q3, q4, q5, q6, q7⟩ := X6.out.all
  try dsimp only [PD.dr] at q0 q1 q2 q3 q4 q5 q6
  go_wp2_with fail
  clear q0 q1 q2 q3 q4 q5 q6 q7
  refine (uses_yes HI.out HP.out HA.out _ (HF.out _ LB6.out).hd).mono ?_
  rintro e w7 ⟨rfl, hb⟩
  have X7 := Lib.hid (X6.out.next hb)
  have Y7 := Lib.hid (Y6.out.next hb)
  have LB7 := Lib.hid (LB6.out.trans (hb.mono LB6.out.size))
  have Dn7 := Lib.hid (Dn6.out.next hb)
  have Qn7 := Lib.hid (Qn6.out.next hb)
  clear hb X6 Y6 LB6 Dn6 Qn6
  obtain ⟨hm1, hm2, hm3, hm4⟩ := rnm_mtc HP.out HA.out HPA.out HPB.out
  have H3 := Lib.hid hm3
  have H4 := Lib.hid hm4
  have HD1 := Lib.hid ((dm_case HI.out (PD.dr_is (P.rnm fs ft) r1 s1 r2 s2 r3 s3) HP.out (rnm_ok HP.out HPA.out HPB.out) HA.out hm2).elim (fun h => h.2) (fun h => absurd hm1 h.1))
  have HSM := Lib.hid (self_mtc HP.out HA.out)
  have HD2 := Lib.hid ((dm_case HI.out HI.out HP.out HP.out HA.out HA.out).elim (fun h => h.2) (fun h => absurd HSM.out h.1))
  clear hm1 hm2 hm3 hm4
  obtain ⟨q0, q1, q2, q3, q4, q5, q6, q7⟩ := X7.out.all
  try dsimp only [PD.dr] at q0 q1 q2 q3 q4 q5 q6
  obtain ⟨r0, r1, r2, r3, r4, r5, r6, r7⟩ := Dn7.out.all
  try dsimp only [PD.dr] at r0 r1 r2 r3 r4 r5 r6
  go_wp2_with fail
  clear q0 q1 q2 q3 q4 q5 q6 q7 r0 r1 r2 r3 r4 r5 r6 r7
  refine (HD1.out _ (HF.out _ LB7.out).hd (Qn7.out.dr s1 s2 s3)).mono ?_
  rintro e w8 hm3
  obtain ⟨u1, uc1, u2, uc2, rfl, hm1, hm2, hb⟩ := hm3.rows
  clear hm3
  have U8 := Lib.hid (show LRow w8 u1 P.S (P.mf (P.rnm fs ft)) from hm1)
  have V8 := Lib.hid (show LRow w8 u2 P.T (P.mg (P.rnm fs ft)) from hm2)
  clear hm1 hm2
  have X8 := Lib.hid (X7.out.next hb)
  have Y8 := Lib.hid (Y7.out.next hb)
  have LB8 := Lib.hid (LB7.out.trans (hb.mono LB7.out.size))
  have Dn8 := Lib.hid (Dn7.out.next hb)
  have Qn8 := Lib.hid (Qn7.out.next hb)
  clear hb X7 Y7 LB7 Dn7 Qn7
  clear Qn8
  clear Dn8
  obtain ⟨q0, q1, q2, q3, q4, q5, q6, q7⟩ := X8.out.all
  try dsimp only [PD.dr] at q0 q1 q2 q3 q4 q5 q6
  go_wp2_with fail
  clear q0 q1 q2 q3 q4 q5 q6 q7
  refine (HD2.out _ (HF.out _ LB8.out).hd (HF.out _ LB8.out).hd).mono ?_
  rintro e w9 hm3
  obtain ⟨p1, pc1, p2, pc2, rfl, hm1, hm2, hb⟩ := hm3.rows
  clear hm3
  have M9 := Lib.hid (show LRow w9 p1 P.S (P.mf P) from hm1)
  have N9 := Lib.hid (show LRow w9 p2 P.T (P.mg P) from hm2)
  clear hm1 hm2
  have X9 := Lib.hid (X8.out.next hb)
  have Y9 := Lib.hid (Y8.out.next hb)
  have LB9 := Lib.hid (LB8.out.trans (hb.mono LB8.out.size))
  have U9 := Lib.hid (U8.out.next hb)
  have V9 := Lib.hid (V8.out.next hb)
  clear hb X8 Y8 LB8 U8 V8
  obtain ⟨q0, q1, q2, q3, q4, q5, q6, q7⟩ := X9.out.all
  try dsimp only [PD.dr] at q0 q1 q2 q3 q4 q5 q6
  go_wp2_with fail
  clear q0 q1 q2 q3 q4 q5 q6 q7
  refine (renumber_ok HI.out HP.out p1 p2 _ _ pc1 pc2 _ _ HSM.out.pf HSM.out.pg _ (HF.out _ LB9.out).hd M9.out.holds N9.out.holds).mono ?_
  rintro e w10 ⟨x1, y1, x2, y2, x3, y3, rfl, hr3, hb⟩
  have hba := (show Below _ _ (w10.alloc (.cells #[.int .i64 ((P.rnm (P.mf P) (P.mg P)).S : Nat), .int .i64 ((P.rnm (P.mf P) (P.mg P)).T : Nat), .slice (some ⟨x1, 0, none⟩) (P.rnm (P.mf P) (P.mg P)).n y1, .slice (some ⟨x2, 0, none⟩) (P.rnm (P.mf P) (P.mg P)).m y2, .int .i64 ((P.rnm (P.mf P) (P.mg P)).T : Nat), .int .i64 ((P.rnm (P.mf P) (P.mg P)).S : Nat), .slice (some ⟨x3, 0, none⟩) ((P.rnm (P.mf P) (P.mg P)).T * (P.rnm (P.mf P) (P.mg P)).S) y3] 27)) from hb.trans (((Below.refl _ _).alloc (Nat.le_refl _) _).mono hb.size))
  have Do10 := Lib.hid (show DBox (w10.alloc (.cells #[.int .i64 ((P.rnm (P.mf P) (P.mg P)).S : Nat), .int .i64 ((P.rnm (P.mf P) (P.mg P)).T : Nat), .slice (some ⟨x1, 0, none⟩) (P.rnm (P.mf P) (P.mg P)).n y1, .slice (some ⟨x2, 0, none⟩) (P.rnm (P.mf P) (P.mg P)).m y2, .int .i64 ((P.rnm (P.mf P) (P.mg P)).T : Nat), .int .i64 ((P.rnm (P.mf P) (P.mg P)).S : Nat), .slice (some ⟨x3, 0, none⟩) ((P.rnm (P.mf P) (P.mg P)).T * (P.rnm (P.mf P) (P.mg P)).S) y3] 27)) w10.heap.size (PD.dr (P.rnm (P.mf P) (P.mg P)) x1 y1 x2 y2 x3 y3) from DBox.new w10 (PD.dr (P.rnm (P.mf P) (P.mg P)) x1 y1 x2 y2 x3 y3))
  have Qo10 := Lib.hid (hr3.next ((Below.refl _ _).alloc (Nat.le_refl _) (.cells #[.int .i64 ((P.rnm (P.mf P) (P.mg P)).S : Nat), .int .i64 ((P.rnm (P.mf P) (P.mg P)).T : Nat), .slice (some ⟨x1, 0, none⟩) (P.rnm (P.mf P) (P.mg P)).n y1, .slice (some ⟨x2, 0, none⟩) (P.rnm (P.mf P) (P.mg P)).m y2, .int .i64 ((P.rnm (P.mf P) (P.mg P)).T : Nat), .int .i64 ((P.rnm (P.mf P) (P.mg P)).S : Nat), .slice (some ⟨x3, 0, none⟩) ((P.rnm (P.mf P) (P.mg P)).T * (P.rnm (P.mf P) (P.mg P)).S) y3] 27)))
  clear hb hr3
  have X10 := Lib.hid (X9.out.next hba)
  have Y10 := Lib.hid (Y9.out.next hba)
  have LB10 := Lib.hid (LB9.out.trans (hba.mono LB9.out.size))
  have U10 := Lib.hid (U9.out.next hba)
  have V10 := Lib.hid (V9.out.next hba)
  have M10 := Lib.hid (M9.out.next hba)
  have N10 := Lib.hid (N9.out.next hba)
  clear hba X9 Y9 LB9 U9 V9 M9 N9
  clear M10
  clear N10
  go_wp2_with fail
  refine (rieq_any u1 As P.S P.S uc1 cs (P.mf (P.rnm fs ft)) fs _ (by omega) U10.out.holds (HF.out _ LB10.out).hs).mono ?_
  rintro e w11 ⟨rfl, hb⟩
  have X11 := Lib.hid (X10.out.next hb)
  have Y11 := Lib.hid (Y10.out.next hb)
  have LB11 := Lib.hid (LB10.out.trans (hb.mono LB10.out.size))
  have U11 := Lib.hid (U10.out.next hb)
  have V11 := Lib.hid (V10.out.next hb)
  have Do11 := Lib.hid (Do10.out.next hb)
  have Qo11 := Lib.hid (Qo10.out.next hb)
  clear hb X10 Y10 LB10 U10 V10 Do10 Qo10
  rw [lsm_of _ _ _ H3.out]
  go_wp2_with fail
  refine (rieq_any u2 At P.T P.T uc2 ct (P.mg (P.rnm fs ft)) ft _ (by omega) V11.out.holds (HF.out _ LB11.out).ht).mono ?_
  rintro e w12 ⟨rfl, hb⟩
  have X12 := Lib.hid (X11.out.next hb)
  have Y12 := Lib.hid (Y11.out.next hb)
  have LB12 := Lib.hid (LB11.out.trans (hb.mono LB11.out.size))
  have U12 := Lib.hid (U11.out.next hb)
  have V12 := Lib.hid (V11.out.next hb)
  have Do12 := Lib.hid (Do11.out.next hb)
  have Qo12 := Lib.hid (Qo11.out.next hb)
  clear hb X11 Y11 LB11 U11 V11 Do11 Qo11
  rw [lsm_of _ _ _ H4.out]
  obtain ⟨q0, q1, q2, q3, q4, q5, q6, q7⟩ := Do12.out.all
  try dsimp only [PD.dr] at q0 q1 q2 q3 q4 q5 q6
  obtain ⟨r0, r1, r2, r3, r4, r5, r6, r7⟩ := X12.out.all
  try dsimp only [PD.dr] at r0 r1 r2 r3 r4 r5 r6
  go_wp2_with fail
  clear q0 q1 q2 q3 q4 q5 q6 q7 r0 r1 r2 r3 r4 r5 r6 r7
  refine (rdsame_any (PD.dr (P.rnm (P.mf P) (P.mg P)) x1 y1 x2 y2 x3 y3) D _ ((PD.dr_is (P.rnm (P.mf P) (P.mg P)) x1 y1 x2 y2 x3 y3).small (rnm_ok HP.out HSM.out.pf HSM.out.pg)) (Qo12.out.dr y1 y2 y3) (HF.out _ LB12.out).hd).mono ?_
  rintro e w13 ⟨rfl, hb⟩
  have X13 := Lib.hid (X12.out.next hb)
  have Y13 := Lib.hid (Y12.out.next hb)
  have LB13 := Lib.hid (LB12.out.trans (hb.mono LB12.out.size))
  have U13 := Lib.hid (U12.out.next hb)
  have V13 := Lib.hid (V12.out.next hb)
  have Do13 := Lib.hid (Do12.out.next hb)
  have Qo13 := Lib.hid (Qo12.out.next hb)
  clear hb X12 Y12 LB12 U12 V12 Do12 Qo12
  rw [(dsm_is (PD.dr_is (P.rnm (P.mf P) (P.mg P)) x1 y1 x2 y2 x3 y3) HI.out (rnm_ok HP.out HSM.out.pf HSM.out.pg)).2 HSM.out.e]
  go_wp2_with fail
  refine (alive_any _ (HF.out _ LB13.out).hE).mono ?_
  rintro e w14 ⟨rfl, hb⟩
  have X14 := Lib.hid (X13.out.next hb)
  have Y14 := Lib.hid (Y13.out.next hb)
  have LB14 := Lib.hid (LB13.out.trans (hb.mono LB13.out.size))
  have U14 := Lib.hid (U13.out.next hb)
  have V14 := Lib.hid (V13.out.next hb)
  have Do14 := Lib.hid (Do13.out.next hb)
  have Qo14 := Lib.hid (Qo13.out.next hb)
  clear hb X13 Y13 LB13 U13 V13 Do13 Qo13
  go_wp2
  go_ret
  exact ⟨rfl, LB14.out⟩
end Go.Proofs.YtbafhdinalapoaaDoor

/- The statement FactorSame: the walks, part Fsd. -/
namespace Go.Proofs.YtbafhdinalapoaaDoor
open Go.RowKit
set_option linter.unusedVariables false
set_option linter.unusedSimpArgs false
set_option maxRecDepth 100000

open L2 (nd ren)
set_option maxHeartbeats 3200000 in
theorem fs_U_no (D E : Dr) (As At : Option Addr) (ns nt cs ct : Nat) (fs ft : Nat → Int) (P Q : PD) (w : World) (hF : FS w D E As ns fs At nt ft) (hV : FV w D E P Q ns nt) (hA : ¬ P.All) (hr : ∀ v, D.In v v.heap.size → L2.Holds v v.heap.size As ns fs → L2.Holds v v.heap.size At nt ft → Calls Tryd.prog 11 #[.agg #[.int .i64 D.S, .int .i64 D.T, .slice D.A D.n D.c, .slice D.B D.m D.d, .int .i64 D.W, .int .i64 D.H, .slice D.C D.k D.e], .slice As ns cs, .slice At nt ct] v (ErrDr v 2)) :
    Calls Tryd.prog 8 #[.agg #[.int .i64 D.S, .int .i64 D.T, .slice D.A D.n D.c, .slice D.B D.m D.d, .int .i64 D.W, .int .i64 D.H, .slice D.C D.k D.e], .agg #[.int .i64 E.S, .int .i64 E.T, .slice E.A E.n E.c, .slice E.B E.m E.d, .int .i64 E.W, .int .i64 E.H, .slice E.C E.k E.e], .slice As ns cs, .slice At nt ct] w fun e w' => e = .returned (.bool true) ∧ Below w.heap.size w w' := by
  have HV := Lib.hid hV.hv
  have HU := Lib.hid hV.hu
  have HI := Lib.hid hV.hI
  have HJ := Lib.hid hV.hJ
  have HP := Lib.hid hV.hP
  have HQ := Lib.hid hV.hQ
  have n70 := hV.ns
  have t70 := hV.nt

  have HDM := Lib.hid (fun w (h1 : D.In w w.heap.size) (h2 : E.In w w.heap.size) => dm_un hV.hI hV.hJ hV.hP hV.hQ (fun h => hA h.1) (fun _ => 0) (fun _ => 0) w h1 h2)
  have HUA := Lib.hid (fun v (h : D.In v v.heap.size) => uses_no hV.hI hV.hP hA v h)
  clear hA
  have HR := Lib.hid hr
  clear hr
  clear hV
  obtain ⟨hx0, hy0, hl0⟩ := dboxes2 w D E
  have X0 := Lib.hid hx0
  have Y0 := Lib.hid hy0
  have LB0 := Lib.hid hl0
  have HF := Lib.hid (fun v (h : Below w.heap.size w v) => hF.next h)
  clear hx0 hy0 hl0 hF
  go_enter Tryd.func8, Tryd.ntmps8
  obtain ⟨q0, q1, q2, q3, q4, q5, q6, q7⟩ := X0.out.all
  try dsimp only [PD.dr] at q0 q1 q2 q3 q4 q5 q6
  go_wp2_with fail
  clear q0 q1 q2 q3 q4 q5 q6 q7
  refine (HV.out _ LB0.out).mono ?_
  rintro e w1 ⟨rfl, hb⟩
  have X1 := Lib.hid (X0.out.next hb)
  have Y1 := Lib.hid (Y0.out.next hb)
  have LB1 := Lib.hid (LB0.out.trans (hb.mono LB0.out.size))
  clear hb X0 Y0 LB0
  obtain ⟨q0, q1, q2, q3, q4, q5, q6, q7⟩ := Y1.out.all
  try dsimp only [PD.dr] at q0 q1 q2 q3 q4 q5 q6
  go_wp2_with fail
  clear q0 q1 q2 q3 q4 q5 q6 q7
  refine (HU.out _ LB1.out).mono ?_
  rintro e w2 ⟨rfl, hb⟩
  have X2 := Lib.hid (X1.out.next hb)
  have Y2 := Lib.hid (Y1.out.next hb)
  have LB2 := Lib.hid (LB1.out.trans (hb.mono LB1.out.size))
  clear hb X1 Y1 LB1
  obtain ⟨q0, q1, q2, q3, q4, q5, q6, q7⟩ := X2.out.all
  try dsimp only [PD.dr] at q0 q1 q2 q3 q4 q5 q6
  obtain ⟨r0, r1, r2, r3, r4, r5, r6, r7⟩ := Y2.out.all
  try dsimp only [PD.dr] at r0 r1 r2 r3 r4 r5 r6
  go_wp2_with fail
  clear q0 q1 q2 q3 q4 q5 q6 q7 r0 r1 r2 r3 r4 r5 r6 r7
  refine (HDM.out _ (HF.out _ LB2.out).hd (HF.out _ LB2.out).he).mono ?_
  rintro e w3 hm3
  obtain ⟨a1, ac1, a2, ac2, rfl, hm1, hm2, hb⟩ := hm3.rows
  clear hm3
  clear hm1 hm2
  have X3 := Lib.hid (X2.out.next hb)
  have Y3 := Lib.hid (Y2.out.next hb)
  have LB3 := Lib.hid (LB2.out.trans (hb.mono LB2.out.size))
  clear hb X2 Y2 LB2
  obtain ⟨q0, q1, q2, q3, q4, q5, q6, q7⟩ := X3.out.all
  try dsimp only [PD.dr] at q0 q1 q2 q3 q4 q5 q6
  go_wp2_with fail
  clear q0 q1 q2 q3 q4 q5 q6 q7
  refine (HUA.out _ (HF.out _ LB3.out).hd).mono ?_
  rintro e w4 ⟨rfl, hb⟩
  have X4 := Lib.hid (X3.out.next hb)
  have Y4 := Lib.hid (Y3.out.next hb)
  have LB4 := Lib.hid (LB3.out.trans (hb.mono LB3.out.size))
  clear hb X3 Y3 LB3
  obtain ⟨q0, q1, q2, q3, q4, q5, q6, q7⟩ := X4.out.all
  try dsimp only [PD.dr] at q0 q1 q2 q3 q4 q5 q6
  go_wp2_with fail
  clear q0 q1 q2 q3 q4 q5 q6 q7
  refine (HR.out _ (HF.out _ LB4.out).hd (HF.out _ LB4.out).hs (HF.out _ LB4.out).ht).mono ?_
  rintro e w5 ⟨rfl, hb⟩
  have hba := (show Below _ _ (w5.alloc (.cells #[.int .i64 0, .int .i64 0, .slice none 0 0, .slice none 0 0, .int .i64 0, .int .i64 0, .slice none 0 0] 27)) from hb.trans (((Below.refl _ _).alloc (Nat.le_refl _) _).mono hb.size))
  clear hb
  have X5 := Lib.hid (X4.out.next hba)
  have Y5 := Lib.hid (Y4.out.next hba)
  have LB5 := Lib.hid (LB4.out.trans (hba.mono LB4.out.size))
  clear hba X4 Y4 LB4
  go_wp2_with fail
  refine (alive_any _ (HF.out _ LB5.out).hE).mono ?_
  rintro e w6 ⟨rfl, hb⟩
  have X6 := Lib.hid (X5.out.next hb)
  have Y6 := Lib.hid (Y5.out.next hb)
  have LB6 := Lib.hid (LB5.out.trans (hb.mono LB5.out.size))
  clear hb X5 Y5 LB5
  go_wp2
  go_ret
  exact ⟨rfl, LB6.out⟩
set_option maxHeartbeats 3200000 in
theorem fs_U_yes (D E : Dr) (As At : Option Addr) (ns nt cs ct : Nat) (fs ft : Nat → Int) (P Q : PD) (w : World) (hF : FS w D E As ns fs At nt ft) (hV : FV w D E P Q ns nt) (hA : ¬ P.All) (ha : prm ns fs P.S = true) (hb : prm nt ft P.T = true) :
    Calls Tryd.prog 8 #[.agg #[.int .i64 D.S, .int .i64 D.T, .slice D.A D.n D.c, .slice D.B D.m D.d, .int .i64 D.W, .int .i64 D.H, .slice D.C D.k D.e], .agg #[.int .i64 E.S, .int .i64 E.T, .slice E.A E.n E.c, .slice E.B E.m E.d, .int .i64 E.W, .int .i64 E.H, .slice E.C E.k E.e], .slice As ns cs, .slice At nt ct] w fun e w' => e = .returned (.bool true) ∧ Below w.heap.size w w' := by
  have HV := Lib.hid hV.hv
  have HU := Lib.hid hV.hu
  have HI := Lib.hid hV.hI
  have HJ := Lib.hid hV.hJ
  have HP := Lib.hid hV.hP
  have HQ := Lib.hid hV.hQ
  have n70 := hV.ns
  have t70 := hV.nt

  have HDM := Lib.hid (fun w (h1 : D.In w w.heap.size) (h2 : E.In w w.heap.size) => dm_un hV.hI hV.hJ hV.hP hV.hQ (fun h => hA h.1) (fun _ => 0) (fun _ => 0) w h1 h2)
  have HUA := Lib.hid (fun v (h : D.In v v.heap.size) => uses_no hV.hI hV.hP hA v h)
  clear hA
  obtain rfl : ns = P.S := prm_len ha
  obtain rfl : nt = P.T := prm_len hb
  have HPA := Lib.hid ha
  have HPB := Lib.hid hb
  clear ha hb
  clear hV
  obtain ⟨hx0, hy0, hl0⟩ := dboxes2 w D E
  have X0 := Lib.hid hx0
  have Y0 := Lib.hid hy0
  have LB0 := Lib.hid hl0
  have HF := Lib.hid (fun v (h : Below w.heap.size w v) => hF.next h)
  clear hx0 hy0 hl0 hF
  go_enter Tryd.func8, Tryd.ntmps8
  obtain ⟨q0, q1, q2, q3, q4, q5, q6, q7⟩ := X0.out.all
  try dsimp only [PD.dr] at q0 q1 q2 q3 q4 q5 q6
  go_wp2_with fail
  clear q0 q1 q2 q3 q4 q5 q6 q7
  refine (HV.out _ LB0.out).mono ?_
  rintro e w1 ⟨rfl, hb⟩
  have X1 := Lib.hid (X0.out.next hb)
  have Y1 := Lib.hid (Y0.out.next hb)
  have LB1 := Lib.hid (LB0.out.trans (hb.mono LB0.out.size))
  clear hb X0 Y0 LB0
  obtain ⟨q0, q1, q2, q3, q4, q5, q6, q7⟩ := Y1.out.all
  try dsimp only [PD.dr] at q0 q1 q2 q3 q4 q5 q6
  go_wp2_with fail
  clear q0 q1 q2 q3 q4 q5 q6 q7
  refine (HU.out _ LB1.out).mono ?_
  rintro e w2 ⟨rfl, hb⟩
  have X2 := Lib.hid (X1.out.next hb)
  have Y2 := Lib.hid (Y1.out.next hb)
  have LB2 := Lib.hid (LB1.out.trans (hb.mono LB1.out.size))
  clear hb X1 Y1 LB1
  obtain ⟨q0, q1, q2, q3, q4, q5, q6, q7⟩ := X2.out.all
  try dsimp only [PD.dr] at q0 q1 q2 q3 q4 q5 q6
  obtain ⟨r0, r1, r2, r3, r4, r5, r6, r7⟩ := Y2.out.all
  try dsimp only [PD.dr] at r0 r1 r2 r3 r4 r5 r6
  go_wp2_with fail
  clear q0 q1 q2 q3 q4 q5 q6 q7 r0 r1 r2 r3 r4 r5 r6 r7
  refine (HDM.out _ (HF.out _ LB2.out).hd (HF.out _ LB2.out).he).mono ?_
  rintro e w3 hm3
  obtain ⟨a1, ac1, a2, ac2, rfl, hm1, hm2, hb⟩ := hm3.rows
  clear hm3
  clear hm1 hm2
  have X3 := Lib.hid (X2.out.next hb)
  have Y3 := Lib.hid (Y2.out.next hb)
  have LB3 := Lib.hid (LB2.out.trans (hb.mono LB2.out.size))
  clear hb X2 Y2 LB2
  obtain ⟨q0, q1, q2, q3, q4, q5, q6, q7⟩ := X3.out.all
  try dsimp only [PD.dr] at q0 q1 q2 q3 q4 q5 q6
  go_wp2_with fail
  clear q0 q1 q2 q3 q4 q5 q6 q7
  refine (HUA.out _ (HF.out _ LB3.out).hd).mono ?_
  rintro e w4 ⟨rfl, hb⟩
  have X4 := Lib.hid (X3.out.next hb)
  have Y4 := Lib.hid (Y3.out.next hb)
  have LB4 := Lib.hid (LB3.out.trans (hb.mono LB3.out.size))
  clear hb X3 Y3 LB3
  obtain ⟨q0, q1, q2, q3, q4, q5, q6, q7⟩ := X4.out.all
  try dsimp only [PD.dr] at q0 q1 q2 q3 q4 q5 q6
  go_wp2_with fail
  clear q0 q1 q2 q3 q4 q5 q6 q7
  refine (renumber_ok HI.out HP.out As At _ _ cs ct _ _ HPA.out HPB.out _ (HF.out _ LB4.out).hd (HF.out _ LB4.out).hs (HF.out _ LB4.out).ht).mono ?_
  rintro e w5 ⟨r1, s1, r2, s2, r3, s3, rfl, hr3, hb⟩
  have hba := (show Below _ _ (w5.alloc (.cells #[.int .i64 ((P.rnm fs ft).S : Nat), .int .i64 ((P.rnm fs ft).T : Nat), .slice (some ⟨r1, 0, none⟩) (P.rnm fs ft).n s1, .slice (some ⟨r2, 0, none⟩) (P.rnm fs ft).m s2, .int .i64 ((P.rnm fs ft).T : Nat), .int .i64 ((P.rnm fs ft).S : Nat), .slice (some ⟨r3, 0, none⟩) ((P.rnm fs ft).T * (P.rnm fs ft).S) s3] 27)) from hb.trans (((Below.refl _ _).alloc (Nat.le_refl _) _).mono hb.size))
  have Dn5 := Lib.hid (show DBox (w5.alloc (.cells #[.int .i64 ((P.rnm fs ft).S : Nat), .int .i64 ((P.rnm fs ft).T : Nat), .slice (some ⟨r1, 0, none⟩) (P.rnm fs ft).n s1, .slice (some ⟨r2, 0, none⟩) (P.rnm fs ft).m s2, .int .i64 ((P.rnm fs ft).T : Nat), .int .i64 ((P.rnm fs ft).S : Nat), .slice (some ⟨r3, 0, none⟩) ((P.rnm fs ft).T * (P.rnm fs ft).S) s3] 27)) w5.heap.size (PD.dr (P.rnm fs ft) r1 s1 r2 s2 r3 s3) from DBox.new w5 (PD.dr (P.rnm fs ft) r1 s1 r2 s2 r3 s3))
  have Qn5 := Lib.hid (hr3.next ((Below.refl _ _).alloc (Nat.le_refl _) (.cells #[.int .i64 ((P.rnm fs ft).S : Nat), .int .i64 ((P.rnm fs ft).T : Nat), .slice (some ⟨r1, 0, none⟩) (P.rnm fs ft).n s1, .slice (some ⟨r2, 0, none⟩) (P.rnm fs ft).m s2, .int .i64 ((P.rnm fs ft).T : Nat), .int .i64 ((P.rnm fs ft).S : Nat), .slice (some ⟨r3, 0, none⟩) ((P.rnm fs ft).T * (P.rnm fs ft).S) s3] 27)))
  clear hb hr3
  have X5 := Lib.hid (X4.out.next hba)
  have Y5 := Lib.hid (Y4.out.next hba)
  have LB5 := Lib.hid (LB4.out.trans (hba.mono LB4.out.size))
  clear hba X4 Y4 LB4
  obtain ⟨q0, q1, q2, q3, q4, q5, q6, q7⟩ := X5.out.all
  try dsimp only [PD.dr] at q0 q1 q2 q3 q4 q5 q6
  go_wp2_with fail
  clear q0 q1 q2 q3 q4 q5 q6 q7
  refine (HUA.out _ (HF.out _ LB5.out).hd).mono ?_
  rintro e w6 ⟨rfl, hb⟩
  have X6 := Lib.hid (X5.out.next hb)
  have Y6 := Lib.hid (Y5.out.next hb)
  have LB6 := Lib.hid (LB5.out.trans (hb.mono LB5.out.size))
  have Dn6 := Lib.hid (Dn5.out.next hb)
  have Qn6 := Lib.hid (Qn5.out.next hb)
  clear hb X5 Y5 LB5 Dn5 Qn5
  go_wp2_with fail
  refine (alive_any _ (HF.out _ LB6.out).hE).mono ?_
  rintro e w7 ⟨rfl, hb⟩
  have X7 := Lib.hid (X6.out.next hb)
  have Y7 := Lib.hid (Y6.out.next hb)
  have LB7 := Lib.hid (LB6.out.trans (hb.mono LB6.out.size))
  have Dn7 := Lib.hid (Dn6.out.next hb)
  have Qn7 := Lib.hid (Qn6.out.next hb)
  clear hb X6 Y6 LB6 Dn6 Qn6
  go_wp2
  go_ret
  exact ⟨rfl, LB7.out⟩
set_option maxHeartbeats 3200000 in
theorem fs_V_no (D E : Dr) (As At : Option Addr) (ns nt cs ct : Nat) (fs ft : Nat → Int) (P Q : PD) (w : World) (hF : FS w D E As ns fs At nt ft) (hV : FV w D E P Q ns nt) (hA : P.All) (hB : ¬ Q.All) (hr : ∀ v, D.In v v.heap.size → L2.Holds v v.heap.size As ns fs → L2.Holds v v.heap.size At nt ft → Calls Tryd.prog 11 #[.agg #[.int .i64 D.S, .int .i64 D.T, .slice D.A D.n D.c, .slice D.B D.m D.d, .int .i64 D.W, .int .i64 D.H, .slice D.C D.k D.e], .slice As ns cs, .slice At nt ct] v (ErrDr v 2)) :
    Calls Tryd.prog 8 #[.agg #[.int .i64 D.S, .int .i64 D.T, .slice D.A D.n D.c, .slice D.B D.m D.d, .int .i64 D.W, .int .i64 D.H, .slice D.C D.k D.e], .agg #[.int .i64 E.S, .int .i64 E.T, .slice E.A E.n E.c, .slice E.B E.m E.d, .int .i64 E.W, .int .i64 E.H, .slice E.C E.k E.e], .slice As ns cs, .slice At nt ct] w fun e w' => e = .returned (.bool true) ∧ Below w.heap.size w w' := by
  have HV := Lib.hid hV.hv
  have HU := Lib.hid hV.hu
  have HI := Lib.hid hV.hI
  have HJ := Lib.hid hV.hJ
  have HP := Lib.hid hV.hP
  have HQ := Lib.hid hV.hQ
  have n70 := hV.ns
  have t70 := hV.nt

  have HA := Lib.hid hA
  have HDM := Lib.hid (fun w (h1 : D.In w w.heap.size) (h2 : E.In w w.heap.size) => dm_un hV.hI hV.hJ hV.hP hV.hQ (fun h => hB h.2) (fun _ => 0) (fun _ => 0) w h1 h2)
  have HUA := Lib.hid (fun v (h : D.In v v.heap.size) => uses_yes hV.hI hV.hP hA v h)
  have HUB := Lib.hid (fun v (h : E.In v v.heap.size) => uses_no hV.hJ hV.hQ hB v h)
  clear hA hB
  have HR := Lib.hid hr
  clear hr
  clear hV
  obtain ⟨hx0, hy0, hl0⟩ := dboxes2 w D E
  have X0 := Lib.hid hx0
  have Y0 := Lib.hid hy0
  have LB0 := Lib.hid hl0
  have HF := Lib.hid (fun v (h : Below w.heap.size w v) => hF.next h)
  clear hx0 hy0 hl0 hF
  go_enter Tryd.func8, Tryd.ntmps8
  obtain ⟨q0, q1, q2, q3, q4, q5, q6, q7⟩ := X0.out.all
  try dsimp only [PD.dr] at q0 q1 q2 q3 q4 q5 q6
  go_wp2_with fail
  clear q0 q1 q2 q3 q4 q5 q6 q7
  refine (HV.out _ LB0.out).mono ?_
  rintro e w1 ⟨rfl, hb⟩
  have X1 := Lib.hid (X0.out.next hb)
  have Y1 := Lib.hid (Y0.out.next hb)
  have LB1 := Lib.hid (LB0.out.trans (hb.mono LB0.out.size))
  clear hb X0 Y0 LB0
  obtain ⟨q0, q1, q2, q3, q4, q5, q6, q7⟩ := Y1.out.all
  try dsimp only [PD.dr] at q0 q1 q2 q3 q4 q5 q6
  go_wp2_with fail
  clear q0 q1 q2 q3 q4 q5 q6 q7
  refine (HU.out _ LB1.out).mono ?_
  rintro e w2 ⟨rfl, hb⟩
  have X2 := Lib.hid (X1.out.next hb)
  have Y2 := Lib.hid (Y1.out.next hb)
  have LB2 := Lib.hid (LB1.out.trans (hb.mono LB1.out.size))
  clear hb X1 Y1 LB1
  obtain ⟨q0, q1, q2, q3, q4, q5, q6, q7⟩ := X2.out.all
  try dsimp only [PD.dr] at q0 q1 q2 q3 q4 q5 q6
  obtain ⟨r0, r1, r2, r3, r4, r5, r6, r7⟩ := Y2.out.all
  try dsimp only [PD.dr] at r0 r1 r2 r3 r4 r5 r6
  go_wp2_with fail
  clear q0 q1 q2 q3 q4 q5 q6 q7 r0 r1 r2 r3 r4 r5 r6 r7
  refine (HDM.out _ (HF.out _ LB2.out).hd (HF.out _ LB2.out).he).mono ?_
  rintro e w3 hm3
  obtain ⟨a1, ac1, a2, ac2, rfl, hm1, hm2, hb⟩ := hm3.rows
  clear hm3
  clear hm1 hm2
  have X3 := Lib.hid (X2.out.next hb)
  have Y3 := Lib.hid (Y2.out.next hb)
  have LB3 := Lib.hid (LB2.out.trans (hb.mono LB2.out.size))
  clear hb X2 Y2 LB2
  obtain ⟨q0, q1, q2, q3, q4, q5, q6, q7⟩ := X3.out.all
  try dsimp only [PD.dr] at q0 q1 q2 q3 q4 q5 q6
  go_wp2_with fail
  clear q0 q1 q2 q3 q4 q5 q6 q7
  refine (HUA.out _ (HF.out _ LB3.out).hd).mono ?_
  rintro e w4 ⟨rfl, hb⟩
  have X4 := Lib.hid (X3.out.next hb)
  have Y4 := Lib.hid (Y3.out.next hb)
  have LB4 := Lib.hid (LB3.out.trans (hb.mono LB3.out.size))
  clear hb X3 Y3 LB3
  obtain ⟨q0, q1, q2, q3, q4, q5, q6, q7⟩ := Y4.out.all
  try dsimp only [PD.dr] at q0 q1 q2 q3 q4 q5 q6
  go_wp2_with fail
  clear q0 q1 q2 q3 q4 q5 q6 q7
  refine (HUB.out _ (HF.out _ LB4.out).he).mono ?_
  rintro e w5 ⟨rfl, hb⟩
  have X5 := Lib.hid (X4.out.next hb)
  have Y5 := Lib.hid (Y4.out.next hb)
  have LB5 := Lib.hid (LB4.out.trans (hb.mono LB4.out.size))
  clear hb X4 Y4 LB4
  obtain ⟨q0, q1, q2, q3, q4, q5, q6, q7⟩ := X5.out.all
  try dsimp only [PD.dr] at q0 q1 q2 q3 q4 q5 q6
  go_wp2_with fail
  clear q0 q1 q2 q3 q4 q5 q6 q7
  refine (HR.out _ (HF.out _ LB5.out).hd (HF.out _ LB5.out).hs (HF.out _ LB5.out).ht).mono ?_
  rintro e w6 ⟨rfl, hb⟩
  have hba := (show Below _ _ (w6.alloc (.cells #[.int .i64 0, .int .i64 0, .slice none 0 0, .slice none 0 0, .int .i64 0, .int .i64 0, .slice none 0 0] 27)) from hb.trans (((Below.refl _ _).alloc (Nat.le_refl _) _).mono hb.size))
  clear hb
  have X6 := Lib.hid (X5.out.next hba)
  have Y6 := Lib.hid (Y5.out.next hba)
  have LB6 := Lib.hid (LB5.out.trans (hba.mono LB5.out.size))
  clear hba X5 Y5 LB5
  go_wp2_with fail
  refine (alive_any _ (HF.out _ LB6.out).hE).mono ?_
  rintro e w7 ⟨rfl, hb⟩
  have X7 := Lib.hid (X6.out.next hb)
  have Y7 := Lib.hid (Y6.out.next hb)
  have LB7 := Lib.hid (LB6.out.trans (hb.mono LB6.out.size))
  clear hb X6 Y6 LB6
  go_wp2
  go_ret
  exact ⟨rfl, LB7.out⟩
set_option maxHeartbeats 3200000 in
theorem fs_V_yes (D E : Dr) (As At : Option Addr) (ns nt cs ct : Nat) (fs ft : Nat → Int) (P Q : PD) (w : World) (hF : FS w D E As ns fs At nt ft) (hV : FV w D E P Q ns nt) (hA : P.All) (hB : ¬ Q.All) (ha : prm ns fs P.S = true) (hb : prm nt ft P.T = true) :
    Calls Tryd.prog 8 #[.agg #[.int .i64 D.S, .int .i64 D.T, .slice D.A D.n D.c, .slice D.B D.m D.d, .int .i64 D.W, .int .i64 D.H, .slice D.C D.k D.e], .agg #[.int .i64 E.S, .int .i64 E.T, .slice E.A E.n E.c, .slice E.B E.m E.d, .int .i64 E.W, .int .i64 E.H, .slice E.C E.k E.e], .slice As ns cs, .slice At nt ct] w fun e w' => e = .returned (.bool true) ∧ Below w.heap.size w w' := by
  have HV := Lib.hid hV.hv
  have HU := Lib.hid hV.hu
  have HI := Lib.hid hV.hI
  have HJ := Lib.hid hV.hJ
  have HP := Lib.hid hV.hP
  have HQ := Lib.hid hV.hQ
  have n70 := hV.ns
  have t70 := hV.nt

  have h40 := hV.hP.s1
  have h41 := hV.hP.t1
  have HA := Lib.hid hA
  have HDM := Lib.hid (fun w (h1 : D.In w w.heap.size) (h2 : E.In w w.heap.size) => dm_un hV.hI hV.hJ hV.hP hV.hQ (fun h => hB h.2) (fun _ => 0) (fun _ => 0) w h1 h2)
  have HUA := Lib.hid (fun v (h : D.In v v.heap.size) => uses_yes hV.hI hV.hP hA v h)
  have HUB := Lib.hid (fun v (h : E.In v v.heap.size) => uses_no hV.hJ hV.hQ hB v h)
  clear hA hB
  obtain rfl : ns = P.S := prm_len ha
  obtain rfl : nt = P.T := prm_len hb
  have HPA := Lib.hid ha
  have HPB := Lib.hid hb
  clear ha hb
  clear hV
  obtain ⟨hx0, hy0, hl0⟩ := dboxes2 w D E
  have X0 := Lib.hid hx0
  have Y0 := Lib.hid hy0
  have LB0 := Lib.hid hl0
  have HF := Lib.hid (fun v (h : Below w.heap.size w v) => hF.next h)
  clear hx0 hy0 hl0 hF
  go_enter Tryd.func8, Tryd.ntmps8
  obtain ⟨q0, q1, q2, q3, q4, q5, q6, q7⟩ := X0.out.all
  try dsimp only [PD.dr] at q0 q1 q2 q3 q4 q5 q6
  go_wp2_with fail
  clear q0 q1 q2 q3 q4 q5 q6 q7
  refine (HV.out _ LB0.out).mono ?_
  rintro e w1 ⟨rfl, hb⟩
  have X1 := Lib.hid (X0.out.next hb)
  have Y1 := Lib.hid (Y0.out.next hb)
  have LB1 := Lib.hid (LB0.out.trans (hb.mono LB0.out.size))
  clear hb X0 Y0 LB0
  obtain ⟨q0, q1, q2, q3, q4, q5, q6, q7⟩ := Y1.out.all
  try dsimp only [PD.dr] at q0 q1 q2 q3 q4 q5 q6
  go_wp2_with fail
  clear q0 q1 q2 q3 q4 q5 q6 q7
  refine (HU.out _ LB1.out).mono ?_
  rintro e w2 ⟨rfl, hb⟩
  have X2 := Lib.hid (X1.out.next hb)
  have Y2 := Lib.hid (Y1.out.next hb)
  have LB2 := Lib.hid (LB1.out.trans (hb.mono LB1.out.size))
  clear hb X1 Y1 LB1
  obtain ⟨q0, q1, q2, q3, q4, q5, q6, q7⟩ := X2.out.all
  try dsimp only [PD.dr] at q0 q1 q2 q3 q4 q5 q6
  obtain ⟨r0, r1, r2, r3, r4, r5, r6, r7⟩ := Y2.out.all
  try dsimp only [PD.dr] at r0 r1 r2 r3 r4 r5 r6
  go_wp2_with fail
  clear q0 q1 q2 q3 q4 q5 q6 q7 r0 r1 r2 r3 r4 r5 r6 r7
  refine (HDM.out _ (HF.out _ LB2.out).hd (HF.out _ LB2.out).he).mono ?_
  rintro e w3 hm3
  obtain ⟨a1, ac1, a2, ac2, rfl, hm1, hm2, hb⟩ := hm3.rows
  clear hm3
  clear hm1 hm2
  have X3 := Lib.hid (X2.out.next hb)
  have Y3 := Lib.hid (Y2.out.next hb)
  have LB3 := Lib.hid (LB2.out.trans (hb.mono LB2.out.size))
  clear hb X2 Y2 LB2
  obtain ⟨q0, q1, q2, q3, q4, q5, q6, q7⟩ := X3.out.all
  try dsimp only [PD.dr] at q0 q1 q2 q3 q4 q5 q6
  go_wp2_with fail
  clear q0 q1 q2 q3 q4 q5 q6 q7
  refine (HUA.out _ (HF.out _ LB3.out).hd).mono ?_
  rintro e w4 ⟨rfl, hb⟩
  have X4 := Lib.hid (X3.out.next hb)
  have Y4 := Lib.hid (Y3.out.next hb)
  have LB4 := Lib.hid (LB3.out.trans (hb.mono LB3.out.size))
  clear hb X3 Y3 LB3
  obtain ⟨q0, q1, q2, q3, q4, q5, q6, q7⟩ := Y4.out.all
  try dsimp only [PD.dr] at q0 q1 q2 q3 q4 q5 q6
  go_wp2_with fail
  clear q0 q1 q2 q3 q4 q5 q6 q7
  refine (HUB.out _ (HF.out _ LB4.out).he).mono ?_
  rintro e w5 ⟨rfl, hb⟩
  have X5 := Lib.hid (X4.out.next hb)
  have Y5 := Lib.hid (Y4.out.next hb)
  have LB5 := Lib.hid (LB4.out.trans (hb.mono LB4.out.size))
  clear hb X4 Y4 LB4
  obtain ⟨q0, q1, q2, q3, q4, q5, q6, q7⟩ := X5.out.all
  try dsimp only [PD.dr] at q0 q1 q2 q3 q4 q5 q6
  go_wp2_with fail
  clear q0 q1 q2 q3 q4 q5 q6 q7
  refine (renumber_ok HI.out HP.out As At _ _ cs ct _ _ HPA.out HPB.out _ (HF.out _ LB5.out).hd (HF.out _ LB5.out).hs (HF.out _ LB5.out).ht).mono ?_
  rintro e w6 ⟨r1, s1, r2, s2, r3, s3, rfl, hr3, hb⟩
  have hba := (show Below _ _ (w6.alloc (.cells #[.int .i64 ((P.rnm fs ft).S : Nat), .int .i64 ((P.rnm fs ft).T : Nat), .slice (some ⟨r1, 0, none⟩) (P.rnm fs ft).n s1, .slice (some ⟨r2, 0, none⟩) (P.rnm fs ft).m s2, .int .i64 ((P.rnm fs ft).T : Nat), .int .i64 ((P.rnm fs ft).S : Nat), .slice (some ⟨r3, 0, none⟩) ((P.rnm fs ft).T * (P.rnm fs ft).S) s3] 27)) from hb.trans (((Below.refl _ _).alloc (Nat.le_refl _) _).mono hb.size))
  have Dn6 := Lib.hid (show DBox (w6.alloc (.cells #[.int .i64 ((P.rnm fs ft).S : Nat), .int .i64 ((P.rnm fs ft).T : Nat), .slice (some ⟨r1, 0, none⟩) (P.rnm fs ft).n s1, .slice (some ⟨r2, 0, none⟩) (P.rnm fs ft).m s2, .int .i64 ((P.rnm fs ft).T : Nat), .int .i64 ((P.rnm fs ft).S : Nat), .slice (some ⟨r3, 0, none⟩) ((P.rnm fs ft).T * (P.rnm fs ft).S) s3] 27)) w6.heap.size (PD.dr (P.rnm fs ft) r1 s1 r2 s2 r3 s3) from DBox.new w6 (PD.dr (P.rnm fs ft) r1 s1 r2 s2 r3 s3))
  have Qn6 := Lib.hid (hr3.next ((Below.refl _ _).alloc (Nat.le_refl _) (.cells #[.int .i64 ((P.rnm fs ft).S : Nat), .int .i64 ((P.rnm fs ft).T : Nat), .slice (some ⟨r1, 0, none⟩) (P.rnm fs ft).n s1, .slice (some ⟨r2, 0, none⟩) (P.rnm fs ft).m s2, .int .i64 ((P.rnm fs ft).T : Nat), .int .i64 ((P.rnm fs ft).S : Nat), .slice (some ⟨r3, 0, none⟩) ((P.rnm fs ft).T * (P.rnm fs ft).S) s3] 27)))
  clear hb hr3
  have X6 := Lib.hid (X5.out.next hba)
  have Y6 := Lib.hid (Y5.out.next hba)
  have LB6 := Lib.hid (LB5.out.trans (hba.mono LB5.out.size))
  clear hba X5 Y5 LB5
  obtain ⟨q0, q1, q2, q3, q4, q5, q6, q7⟩ := X6.out.all
  try dsimp only [PD.dr] at q0 q1 q2 q3 q4 q5 q6
  go_wp2_with fail
  clear q0 q1 q2 q3 q4 q5 q6 q7
  refine (uses_yes HI.out HP.out HA.out _ (HF.out _ LB6.out).hd).mono ?_
  rintro e w7 ⟨rfl, hb⟩
  have X7 := Lib.hid (X6.out.next hb)
  have Y7 := Lib.hid (Y6.out.next hb)
  have LB7 := Lib.hid (LB6.out.trans (hb.mono LB6.out.size))
  have Dn7 := Lib.hid (Dn6.out.next hb)
  have Qn7 := Lib.hid (Qn6.out.next hb)
  clear hb X6 Y6 LB6 Dn6 Qn6
  obtain ⟨hm1, hm2, hm3, hm4⟩ := rnm_mtc HP.out HA.out HPA.out HPB.out
  have H3 := Lib.hid hm3
  have H4 := Lib.hid hm4
  have HD1 := Lib.hid ((dm_case HI.out (PD.dr_is (P.rnm fs ft) r1 s1 r2 s2 r3 s3) HP.out (rnm_ok HP.out HPA.out HPB.out) HA.out hm2).elim (fun h => h.2) (fun h => absurd hm1 h.1))
  have HSM := Lib.hid (self_mtc HP.out HA.out)
  have HD2 := Lib.hid ((dm_case HI.out HI.out HP.out HP.out HA.out HA.out).elim (fun h => h.2) (fun h => absurd HSM.out h.1))
  clear hm1 hm2 hm3 hm4
  obtain ⟨q0, q1, q2, q3, q4, q5, q6, q7⟩ := X7.out.all
  try dsimp only [PD.dr] at q0 q1 q2 q3 q4 q5 q6
  obtain ⟨r0, r1, r2, r3, r4, r5, r6, r7⟩ := Dn7.out.all
  try dsimp only [PD.dr] at r0 r1 r2 r3 r4 r5 r6
  go_wp2_with fail
  clear q0 q1 q2 q3 q4 q5 q6 q7 r0 r1 r2 r3 r4 r5 r6 r7
  refine (HD1.out _ (HF.out _ LB7.out).hd (Qn7.out.dr s1 s2 s3)).mono ?_
  rintro e w8 hm3
  obtain ⟨u1, uc1, u2, uc2, rfl, hm1, hm2, hb⟩ := hm3.rows
  clear hm3
  have U8 := Lib.hid (show LRow w8 u1 P.S (P.mf (P.rnm fs ft)) from hm1)
  have V8 := Lib.hid (show LRow w8 u2 P.T (P.mg (P.rnm fs ft)) from hm2)
  clear hm1 hm2
  have X8 := Lib.hid (X7.out.next hb)
  have Y8 := Lib.hid (Y7.out.next hb)
  have LB8 := Lib.hid (LB7.out.trans (hb.mono LB7.out.size))
  have Dn8 := Lib.hid (Dn7.out.next hb)
  have Qn8 := Lib.hid (Qn7.out.next hb)
  clear hb X7 Y7 LB7 Dn7 Qn7
  clear Qn8
  clear Dn8
  obtain ⟨q0, q1, q2, q3, q4, q5, q6, q7⟩ := X8.out.all
  try dsimp only [PD.dr] at q0 q1 q2 q3 q4 q5 q6
  go_wp2_with fail
  clear q0 q1 q2 q3 q4 q5 q6 q7
  refine (HD2.out _ (HF.out _ LB8.out).hd (HF.out _ LB8.out).hd).mono ?_
  rintro e w9 hm3
  obtain ⟨p1, pc1, p2, pc2, rfl, hm1, hm2, hb⟩ := hm3.rows
  clear hm3
  have M9 := Lib.hid (show LRow w9 p1 P.S (P.mf P) from hm1)
  have N9 := Lib.hid (show LRow w9 p2 P.T (P.mg P) from hm2)
  clear hm1 hm2
  have X9 := Lib.hid (X8.out.next hb)
  have Y9 := Lib.hid (Y8.out.next hb)
  have LB9 := Lib.hid (LB8.out.trans (hb.mono LB8.out.size))
  have U9 := Lib.hid (U8.out.next hb)
  have V9 := Lib.hid (V8.out.next hb)
  clear hb X8 Y8 LB8 U8 V8
  obtain ⟨q0, q1, q2, q3, q4, q5, q6, q7⟩ := X9.out.all
  try dsimp only [PD.dr] at q0 q1 q2 q3 q4 q5 q6
  go_wp2_with fail
  clear q0 q1 q2 q3 q4 q5 q6 q7
  refine (renumber_ok HI.out HP.out p1 p2 _ _ pc1 pc2 _ _ HSM.out.pf HSM.out.pg _ (HF.out _ LB9.out).hd M9.out.holds N9.out.holds).mono ?_
  rintro e w10 ⟨x1, y1, x2, y2, x3, y3, rfl, hr3, hb⟩
  have hba := (show Below _ _ (w10.alloc (.cells #[.int .i64 ((P.rnm (P.mf P) (P.mg P)).S : Nat), .int .i64 ((P.rnm (P.mf P) (P.mg P)).T : Nat), .slice (some ⟨x1, 0, none⟩) (P.rnm (P.mf P) (P.mg P)).n y1, .slice (some ⟨x2, 0, none⟩) (P.rnm (P.mf P) (P.mg P)).m y2, .int .i64 ((P.rnm (P.mf P) (P.mg P)).T : Nat), .int .i64 ((P.rnm (P.mf P) (P.mg P)).S : Nat), .slice (some ⟨x3, 0, none⟩) ((P.rnm (P.mf P) (P.mg P)).T * (P.rnm (P.mf P) (P.mg P)).S) y3] 27)) from hb.trans (((Below.refl _ _).alloc (Nat.le_refl _) _).mono hb.size))
  have Do10 := Lib.hid (show DBox (w10.alloc (.cells #[.int .i64 ((P.rnm (P.mf P) (P.mg P)).S : Nat), .int .i64 ((P.rnm (P.mf P) (P.mg P)).T : Nat), .slice (some ⟨x1, 0, none⟩) (P.rnm (P.mf P) (P.mg P)).n y1, .slice (some ⟨x2, 0, none⟩) (P.rnm (P.mf P) (P.mg P)).m y2, .int .i64 ((P.rnm (P.mf P) (P.mg P)).T : Nat), .int .i64 ((P.rnm (P.mf P) (P.mg P)).S : Nat), .slice (some ⟨x3, 0, none⟩) ((P.rnm (P.mf P) (P.mg P)).T * (P.rnm (P.mf P) (P.mg P)).S) y3] 27)) w10.heap.size (PD.dr (P.rnm (P.mf P) (P.mg P)) x1 y1 x2 y2 x3 y3) from DBox.new w10 (PD.dr (P.rnm (P.mf P) (P.mg P)) x1 y1 x2 y2 x3 y3))
  have Qo10 := Lib.hid (hr3.next ((Below.refl _ _).alloc (Nat.le_refl _) (.cells #[.int .i64 ((P.rnm (P.mf P) (P.mg P)).S : Nat), .int .i64 ((P.rnm (P.mf P) (P.mg P)).T : Nat), .slice (some ⟨x1, 0, none⟩) (P.rnm (P.mf P) (P.mg P)).n y1, .slice (some ⟨x2, 0, none⟩) (P.rnm (P.mf P) (P.mg P)).m y2, .int .i64 ((P.rnm (P.mf P) (P.mg P)).T : Nat), .int .i64 ((P.rnm (P.mf P) (P.mg P)).S : Nat), .slice (some ⟨x3, 0, none⟩) ((P.rnm (P.mf P) (P.mg P)).T * (P.rnm (P.mf P) (P.mg P)).S) y3] 27)))
  clear hb hr3
  have X10 := Lib.hid (X9.out.next hba)
  have Y10 := Lib.hid (Y9.out.next hba)
  have LB10 := Lib.hid (LB9.out.trans (hba.mono LB9.out.size))
  have U10 := Lib.hid (U9.out.next hba)
  have V10 := Lib.hid (V9.out.next hba)
  have M10 := Lib.hid (M9.out.next hba)
  have N10 := Lib.hid (N9.out.next hba)
  clear hba X9 Y9 LB9 U9 V9 M9 N9
  clear M10
  clear N10
  go_wp2_with fail
  refine (rieq_any u1 As P.S P.S uc1 cs (P.mf (P.rnm fs ft)) fs _ (by omega) U10.out.holds (HF.out _ LB10.out).hs).mono ?_
  rintro e w11 ⟨rfl, hb⟩
  have X11 := Lib.hid (X10.out.next hb)
  have Y11 := Lib.hid (Y10.out.next hb)
  have LB11 := Lib.hid (LB10.out.trans (hb.mono LB10.out.size))
  have U11 := Lib.hid (U10.out.next hb)
  have V11 := Lib.hid (V10.out.next hb)
  have Do11 := Lib.hid (Do10.out.next hb)
  have Qo11 := Lib.hid (Qo10.out.next hb)
  clear hb X10 Y10 LB10 U10 V10 Do10 Qo10
  rw [lsm_of _ _ _ H3.out]
  go_wp2_with fail
  refine (rieq_any u2 At P.T P.T uc2 ct (P.mg (P.rnm fs ft)) ft _ (by omega) V11.out.holds (HF.out _ LB11.out).ht).mono ?_
  rintro e w12 ⟨rfl, hb⟩
  have X12 := Lib.hid (X11.out.next hb)
  have Y12 := Lib.hid (Y11.out.next hb)
  have LB12 := Lib.hid (LB11.out.trans (hb.mono LB11.out.size))
  have U12 := Lib.hid (U11.out.next hb)
  have V12 := Lib.hid (V11.out.next hb)
  have Do12 := Lib.hid (Do11.out.next hb)
  have Qo12 := Lib.hid (Qo11.out.next hb)
  clear hb X11 Y11 LB11 U11 V11 Do11 Qo11
  rw [lsm_of _ _ _ H4.out]
  obtain ⟨q0, q1, q2, q3, q4, q5, q6, q7⟩ := Do12.out.all
  try dsimp only [PD.dr] at q0 q1 q2 q3 q4 q5 q6
  obtain ⟨r0, r1, r2, r3, r4, r5, r6, r7⟩ := X12.out.all
  try dsimp only [PD.dr] at r0 r1 r2 r3 r4 r5 r6
  go_wp2_with fail
  clear q0 q1 q2 q3 q4 q5 q6 q7 r0 r1 r2 r3 r4 r5 r6 r7
  refine (rdsame_any (PD.dr (P.rnm (P.mf P) (P.mg P)) x1 y1 x2 y2 x3 y3) D _ ((PD.dr_is (P.rnm (P.mf P) (P.mg P)) x1 y1 x2 y2 x3 y3).small (rnm_ok HP.out HSM.out.pf HSM.out.pg)) (Qo12.out.dr y1 y2 y3) (HF.out _ LB12.out).hd).mono ?_
  rintro e w13 ⟨rfl, hb⟩
  have X13 := Lib.hid (X12.out.next hb)
  have Y13 := Lib.hid (Y12.out.next hb)
  have LB13 := Lib.hid (LB12.out.trans (hb.mono LB12.out.size))
  have U13 := Lib.hid (U12.out.next hb)
  have V13 := Lib.hid (V12.out.next hb)
  have Do13 := Lib.hid (Do12.out.next hb)
  have Qo13 := Lib.hid (Qo12.out.next hb)
  clear hb X12 Y12 LB12 U12 V12 Do12 Qo12
  rw [(dsm_is (PD.dr_is (P.rnm (P.mf P) (P.mg P)) x1 y1 x2 y2 x3 y3) HI.out (rnm_ok HP.out HSM.out.pf HSM.out.pg)).2 HSM.out.e]
  go_wp2_with fail
  refine (alive_any _ (HF.out _ LB13.out).hE).mono ?_
  rintro e w14 ⟨rfl, hb⟩
  have X14 := Lib.hid (X13.out.next hb)
  have Y14 := Lib.hid (Y13.out.next hb)
  have LB14 := Lib.hid (LB13.out.trans (hb.mono LB13.out.size))
  have U14 := Lib.hid (U13.out.next hb)
  have V14 := Lib.hid (V13.out.next hb)
  have Do14 := Lib.hid (Do13.out.next hb)
  have Qo14 := Lib.hid (Qo13.out.next hb)
  clear hb X13 Y13 LB13 U13 V13 Do13 Qo13
  go_wp2
  go_ret
  exact ⟨rfl, LB14.out⟩
end Go.Proofs.YtbafhdinalapoaaDoor

/- The statement FactorSame: any arguments. -/
namespace Go.Proofs.YtbafhdinalapoaaDoor
open Go.RowKit
set_option linter.unusedVariables false
set_option linter.unusedSimpArgs false

theorem fs_any (D E : Dr) (As At : Option Addr) (ns nt cs ct : Nat) (fs ft : Nat → Int) (w : World) (hE : Env w) (hd : D.In w w.heap.size) (he : E.In w w.heap.size) (hs : L2.Holds w w.heap.size As ns fs) (ht : L2.Holds w w.heap.size At nt ft) :
    Calls Tryd.prog 8 #[.agg #[.int .i64 D.S, .int .i64 D.T, .slice D.A D.n D.c, .slice D.B D.m D.d, .int .i64 D.W, .int .i64 D.H, .slice D.C D.k D.e], .agg #[.int .i64 E.S, .int .i64 E.T, .slice E.A E.n E.c, .slice E.B E.m E.d, .int .i64 E.W, .int .i64 E.H, .slice E.C E.k E.e], .slice As ns cs, .slice At nt ct] w fun e w' => e = .returned (.bool true) ∧ Below w.heap.size w w' := by
  have hF : FS w D E As ns fs At nt ft := ⟨hE, hd, he, hs, ht⟩
  rcases valid_case D w hd with ⟨P, hP, hI, -, hv⟩ | hv
  · rcases valid_case E w he with ⟨Q, hQ, hJ, -, hu⟩ | hu
    · by_cases h1 : 70 < ns
      · exact fs_long1 D E As At ns nt cs ct fs ft w hF hv hu h1
      · by_cases h2 : 70 < nt
        · exact fs_long2 D E As At ns nt cs ct fs ft w hF hv hu (by omega) h2
        · have hV : FV w D E P Q ns nt := ⟨hP, hI, hv, hQ, hJ, hu, by omega, by omega⟩
          have key : (prm ns fs P.S = true ∧ prm nt ft P.T = true) ∨ ∀ v, D.In v v.heap.size → L2.Holds v v.heap.size As ns fs → L2.Holds v v.heap.size At nt ft → Calls Tryd.prog 11 #[.agg #[.int .i64 D.S, .int .i64 D.T, .slice D.A D.n D.c, .slice D.B D.m D.d, .int .i64 D.W, .int .i64 D.H, .slice D.C D.k D.e], .slice As ns cs, .slice At nt ct] v (ErrDr v 2) := by
            cases ha : prm ns fs P.S
            · exact .inr fun v a b c => renumber_s hI hP As At ns nt cs ct fs ft ha v a b c
            · cases hb : prm nt ft P.T
              · exact .inr fun v a b c => renumber_t hI hP As At ns nt cs ct fs ft ha hb v a b c
              · exact .inl ⟨rfl, rfl⟩
          by_cases hA : P.All
          · by_cases hB : Q.All
            · by_cases hM : Mtc P Q
              · rcases key with ⟨ha, hb⟩ | hr
                · exact fs_M_yes D E As At ns nt cs ct fs ft P Q w hF hV hM hA hB ha hb
                · exact fs_M_no D E As At ns nt cs ct fs ft P Q w hF hV hM hA hB hr
              · rcases key with ⟨ha, hb⟩ | hr
                · exact fs_N_yes D E As At ns nt cs ct fs ft P Q w hF hV hM hA hB ha hb
                · exact fs_N_no D E As At ns nt cs ct fs ft P Q w hF hV hM hA hB hr
            · rcases key with ⟨ha, hb⟩ | hr
              · exact fs_V_yes D E As At ns nt cs ct fs ft P Q w hF hV hA hB ha hb
              · exact fs_V_no D E As At ns nt cs ct fs ft P Q w hF hV hA hB hr
          · rcases key with ⟨ha, hb⟩ | hr
            · exact fs_U_yes D E As At ns nt cs ct fs ft P Q w hF hV hA ha hb
            · exact fs_U_no D E As At ns nt cs ct fs ft P Q w hF hV hA hr
    · exact fs_not2 D E As At ns nt cs ct fs ft w hF hv hu
  · exact fs_not1 D E As At ns nt cs ct fs ft w hF hv
end Go.Proofs.YtbafhdinalapoaaDoor
