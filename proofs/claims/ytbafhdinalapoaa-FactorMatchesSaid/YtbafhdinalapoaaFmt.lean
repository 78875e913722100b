/- The program's Match of two drafts. -/
import Derived.Test.YtbafhdinalapoaaFls
import Derived.Test.YtbafhdinalapoaaIMau
import Derived.Test.YtbafhdinalapoaaMkm
import Derived.Deep.RegionHeld3
import Derived.Deep.DeepCutAuto
namespace Go.Proofs.Ytbafhdinalapoaa
open Go.RowKit
set_option linter.unusedVariables false
set_option linter.unusedSimpArgs false
set_option maxRecDepth 100000

open L2 (nd ren Cons mt mxs)
/-- Two lists and an error came back. -/
def M3 (w : World) (l1 : Nat) (F1 : Nat → Int) (l2 : Nat) (F2 : Nat → Int) (err : Int) (e : Ending) (w' : World) : Prop :=
  ∃ A1 c1 A2 c2, e = .returned (.tuple #[.slice A1 l1 c1, .slice A2 l2 c2, .int .i64 err]) ∧ (0 < l1 → ∃ k, A1 = some ⟨k, 0, none⟩ ∧ L2.Row w' k l1 F1) ∧ (0 < l2 → ∃ k, A2 = some ⟨k, 0, none⟩ ∧ L2.Row w' k l2 F2) ∧ Below w.heap.size w w'
theorem M3.no {w w' : World} {F1 F2 : Nat → Int} {err : Int} (h : Below w.heap.size w w') : M3 w 0 F1 0 F2 err (.returned (.tuple #[.slice none 0 0, .slice none 0 0, .int .i64 err])) w' :=
  ⟨_, _, _, _, rfl, fun h => absurd h (by omega), fun h => absurd h (by omega), h⟩
/-- All shafts and treadles are used. -/
def Dr.usd (D : Dr) : Prop := (nd D.f D.n : Int) = D.S ∧ (nd D.g D.m : Int) = D.T

set_option maxHeartbeats 800000 in
theorem fm_err1 (D E : Dr) {err : Int} (F1 F2 : Nat → Int) (hz : D.ck = err) (hne : (err != 0) = true) (hs : D.Small) (w : World) (hd : D.In w w.heap.size) :
    Calls Try.prog 45 #[.agg #[.int .i64 D.S, .int .i64 D.T, .slice D.A D.n D.c, .slice D.B D.m D.d, .int .i64 D.W, .int .i64 D.H, .slice D.C D.k D.e], .agg #[.int .i64 E.S, .int .i64 E.T, .slice E.A E.n E.c, .slice E.B E.m E.d, .int .i64 E.W, .int .i64 E.H, .slice E.C E.k E.e]] w (M3 w 0 F1 0 F2 err) := by
  have LB0 := Lib.hid (show Below w.heap.size w ((w.alloc (.cells #[.int .i64 D.S, .int .i64 D.T, .slice D.A D.n D.c, .slice D.B D.m D.d, .int .i64 D.W, .int .i64 D.H, .slice D.C D.k D.e] 30)).alloc (.cells #[.int .i64 E.S, .int .i64 E.T, .slice E.A E.n E.c, .slice E.B E.m E.d, .int .i64 E.W, .int .i64 E.H, .slice E.C E.k E.e] 30)) from ((Below.refl _ _).alloc (Nat.le_refl _) _).alloc (by simp) _)
  have X0 := Lib.hid (show DBox ((w.alloc (.cells #[.int .i64 D.S, .int .i64 D.T, .slice D.A D.n D.c, .slice D.B D.m D.d, .int .i64 D.W, .int .i64 D.H, .slice D.C D.k D.e] 30)).alloc (.cells #[.int .i64 E.S, .int .i64 E.T, .slice E.A E.n E.c, .slice E.B E.m E.d, .int .i64 E.W, .int .i64 E.H, .slice E.C E.k E.e] 30)) w.heap.size D from (DBox.new w D).alloc _)
  have Y0 : Hid (DBox ((w.alloc (.cells #[.int .i64 D.S, .int .i64 D.T, .slice D.A D.n D.c, .slice D.B D.m D.d, .int .i64 D.W, .int .i64 D.H, .slice D.C D.k D.e] 30)).alloc (.cells #[.int .i64 E.S, .int .i64 E.T, .slice E.A E.n E.c, .slice E.B E.m E.d, .int .i64 E.W, .int .i64 E.H, .slice E.C E.k E.e] 30)) (w.heap.size + 1) E) := Lib.hid (by
    have h := DBox.new (w.alloc (.cells #[.int .i64 D.S, .int .i64 D.T, .slice D.A D.n D.c, .slice D.B D.m D.d, .int .i64 D.W, .int .i64 D.H, .slice D.C D.k D.e] 30)) E
    simp only [World.size_alloc] at h
    exact h)
  have HC := Lib.hid (dck_is hz hs _ (hd.next LB0.out))
  clear hz hs hd
  go_enter Try.func45, Try.ntmps45
  obtain ⟨q0, q1, q2, q3, q4, q5, q6, q7⟩ := X0.out.all
  go_wp2_with fail
  clear q0 q1 q2 q3 q4 q5 q6 q7 
  refine (HC.out).mono ?_
  rintro e w1 ⟨rfl, hb⟩
  have X1 := Lib.hid (X0.out.next hb)
  have Y1 := Lib.hid (Y0.out.next hb)
  have LB1 := Lib.hid (LB0.out.trans (hb.mono LB0.out.size))
  clear hb X0 Y0 LB0
  go_wp2
  exact bodyPost_ret (v := .tuple #[.slice none 0 0, .slice none 0 0, .int .i64 err]) (by simp [results, Try.results45, go_sem]) rfl (M3.no LB1.out)
set_option maxHeartbeats 800000 in
theorem fm_err2 (D E : Dr) {err : Int} (F1 F2 : Nat → Int) (h0 : D.ck = 0) (hz : E.ck = err) (hne : (err != 0) = true) (hs : D.Small) (ht : E.Small) (w : World) (hd : D.In w w.heap.size) (he : E.In w w.heap.size) :
    Calls Try.prog 45 #[.agg #[.int .i64 D.S, .int .i64 D.T, .slice D.A D.n D.c, .slice D.B D.m D.d, .int .i64 D.W, .int .i64 D.H, .slice D.C D.k D.e], .agg #[.int .i64 E.S, .int .i64 E.T, .slice E.A E.n E.c, .slice E.B E.m E.d, .int .i64 E.W, .int .i64 E.H, .slice E.C E.k E.e]] w (M3 w 0 F1 0 F2 err) := by
  have LB0 := Lib.hid (show Below w.heap.size w ((w.alloc (.cells #[.int .i64 D.S, .int .i64 D.T, .slice D.A D.n D.c, .slice D.B D.m D.d, .int .i64 D.W, .int .i64 D.H, .slice D.C D.k D.e] 30)).alloc (.cells #[.int .i64 E.S, .int .i64 E.T, .slice E.A E.n E.c, .slice E.B E.m E.d, .int .i64 E.W, .int .i64 E.H, .slice E.C E.k E.e] 30)) from ((Below.refl _ _).alloc (Nat.le_refl _) _).alloc (by simp) _)
  have X0 := Lib.hid (show DBox ((w.alloc (.cells #[.int .i64 D.S, .int .i64 D.T, .slice D.A D.n D.c, .slice D.B D.m D.d, .int .i64 D.W, .int .i64 D.H, .slice D.C D.k D.e] 30)).alloc (.cells #[.int .i64 E.S, .int .i64 E.T, .slice E.A E.n E.c, .slice E.B E.m E.d, .int .i64 E.W, .int .i64 E.H, .slice E.C E.k E.e] 30)) w.heap.size D from (DBox.new w D).alloc _)
  have Y0 : Hid (DBox ((w.alloc (.cells #[.int .i64 D.S, .int .i64 D.T, .slice D.A D.n D.c, .slice D.B D.m D.d, .int .i64 D.W, .int .i64 D.H, .slice D.C D.k D.e] 30)).alloc (.cells #[.int .i64 E.S, .int .i64 E.T, .slice E.A E.n E.c, .slice E.B E.m E.d, .int .i64 E.W, .int .i64 E.H, .slice E.C E.k E.e] 30)) (w.heap.size + 1) E) := Lib.hid (by
    have h := DBox.new (w.alloc (.cells #[.int .i64 D.S, .int .i64 D.T, .slice D.A D.n D.c, .slice D.B D.m D.d, .int .i64 D.W, .int .i64 D.H, .slice D.C D.k D.e] 30)) E
    simp only [World.size_alloc] at h
    exact h)
  have HC := Lib.hid (dck_is h0 hs _ (hd.next LB0.out))
  have HC2 := Lib.hid (fun w' (h : Below w.heap.size w w') => dck_is hz ht w' (he.next h))
  clear hz hs hd h0 ht he
  go_enter Try.func45, Try.ntmps45
  obtain ⟨q0, q1, q2, q3, q4, q5, q6, q7⟩ := X0.out.all
  go_wp2_with fail
  clear q0 q1 q2 q3 q4 q5 q6 q7 
  refine (HC.out).mono ?_
  rintro e w1 ⟨rfl, hb⟩
  have X1 := Lib.hid (X0.out.next hb)
  have Y1 := Lib.hid (Y0.out.next hb)
  have LB1 := Lib.hid (LB0.out.trans (hb.mono LB0.out.size))
  clear hb X0 Y0 LB0
  obtain ⟨r0, r1, r2, r3, r4, r5, r6, r7⟩ := Y1.out.all
  go_wp2_with fail
  clear  r0 r1 r2 r3 r4 r5 r6 r7
  refine (HC2.out _ LB1.out).mono ?_
  rintro e w2 ⟨rfl, hb⟩
  have X2 := Lib.hid (X1.out.next hb)
  have Y2 := Lib.hid (Y1.out.next hb)
  have LB2 := Lib.hid (LB1.out.trans (hb.mono LB1.out.size))
  clear hb X1 Y1 LB1
  go_wp2
  exact bodyPost_ret (v := .tuple #[.slice none 0 0, .slice none 0 0, .int .i64 err]) (by simp [results, Try.results45, go_sem]) rfl (M3.no LB2.out)

theorem usd_lchk {n : Nat} {f : Nat → Int} {F : Nat → Nat} {S : Nat} (hn : n ≤ 64) (hS : S ≤ 40) (h : ∀ i, i < n → f i = F i) (hF : ∀ i, i < n → F i < S) : L2.lchk n f = 0 := by
  unfold L2.lchk
  rw [if_neg (by omega), if_pos]
  rw [decide_eq_true_eq]
  intro i hi
  have h1 := h i hi
  have h2 := hF i hi
  omega
theorem Dr.Is.lf {D : Dr} {P : PD} (hI : D.Is P) (hP : P.Ok) : L2.lchk D.n D.f = 0 ∧ L2.lchk D.m D.g = 0 := by
  rw [hI.n, hI.m]
  exact ⟨usd_lchk hP.n1 hP.s1 hI.f hP.f, usd_lchk hP.m1 hP.t1 hI.g hP.g⟩

set_option maxHeartbeats 1600000 in
theorem fm_unused1 (D E : Dr) (F1 F2 : Nat → Int) (h0 : D.ck = 0) (hz : E.ck = 0) (hs : D.Small) (ht : E.Small) (w : World) (hd : D.In w w.heap.size) (he : E.In w w.heap.size) (X1 Y1 X2 Y2 : Int)
    (ua : ∀ w', Below w.heap.size w w' → Calls Try.prog 83 #[.agg #[.int .i64 D.S, .int .i64 D.T, .slice D.A D.n D.c, .slice D.B D.m D.d, .int .i64 D.W, .int .i64 D.H, .slice D.C D.k D.e]] w' fun e w2 => e = .returned (.agg #[.int .i64 X1, .int .i64 Y1]) ∧ Below w'.heap.size w' w2)
    (ub : ∀ w', Below w.heap.size w w' → Calls Try.prog 83 #[.agg #[.int .i64 E.S, .int .i64 E.T, .slice E.A E.n E.c, .slice E.B E.m E.d, .int .i64 E.W, .int .i64 E.H, .slice E.C E.k E.e]] w' fun e w2 => e = .returned (.agg #[.int .i64 X2, .int .i64 Y2]) ∧ Below w'.heap.size w' w2) (hx : ¬ X1 = D.S) :
    Calls Try.prog 45 #[.agg #[.int .i64 D.S, .int .i64 D.T, .slice D.A D.n D.c, .slice D.B D.m D.d, .int .i64 D.W, .int .i64 D.H, .slice D.C D.k D.e], .agg #[.int .i64 E.S, .int .i64 E.T, .slice E.A E.n E.c, .slice E.B E.m E.d, .int .i64 E.W, .int .i64 E.H, .slice E.C E.k E.e]] w (M3 w 0 F1 0 F2 2) := by
  have LB0 := Lib.hid (show Below w.heap.size w ((w.alloc (.cells #[.int .i64 D.S, .int .i64 D.T, .slice D.A D.n D.c, .slice D.B D.m D.d, .int .i64 D.W, .int .i64 D.H, .slice D.C D.k D.e] 30)).alloc (.cells #[.int .i64 E.S, .int .i64 E.T, .slice E.A E.n E.c, .slice E.B E.m E.d, .int .i64 E.W, .int .i64 E.H, .slice E.C E.k E.e] 30)) from ((Below.refl _ _).alloc (Nat.le_refl _) _).alloc (by simp) _)
  have X0 := Lib.hid (show DBox ((w.alloc (.cells #[.int .i64 D.S, .int .i64 D.T, .slice D.A D.n D.c, .slice D.B D.m D.d, .int .i64 D.W, .int .i64 D.H, .slice D.C D.k D.e] 30)).alloc (.cells #[.int .i64 E.S, .int .i64 E.T, .slice E.A E.n E.c, .slice E.B E.m E.d, .int .i64 E.W, .int .i64 E.H, .slice E.C E.k E.e] 30)) w.heap.size D from (DBox.new w D).alloc _)
  have Y0 : Hid (DBox ((w.alloc (.cells #[.int .i64 D.S, .int .i64 D.T, .slice D.A D.n D.c, .slice D.B D.m D.d, .int .i64 D.W, .int .i64 D.H, .slice D.C D.k D.e] 30)).alloc (.cells #[.int .i64 E.S, .int .i64 E.T, .slice E.A E.n E.c, .slice E.B E.m E.d, .int .i64 E.W, .int .i64 E.H, .slice E.C E.k E.e] 30)) (w.heap.size + 1) E) := Lib.hid (by
    have h := DBox.new (w.alloc (.cells #[.int .i64 D.S, .int .i64 D.T, .slice D.A D.n D.c, .slice D.B D.m D.d, .int .i64 D.W, .int .i64 D.H, .slice D.C D.k D.e] 30)) E
    simp only [World.size_alloc] at h
    exact h)
  have HC := Lib.hid (dck_is h0 hs _ (hd.next LB0.out))
  have HC2 := Lib.hid (fun w' (h : Below w.heap.size w w') => dck_is hz ht w' (he.next h))
  have UA := Lib.hid ua
  have UB := Lib.hid ub
  clear hz hs hd h0 ht he ua ub
  go_enter Try.func45, Try.ntmps45
  obtain ⟨q0, q1, q2, q3, q4, q5, q6, q7⟩ := X0.out.all
  go_wp2_with fail
  clear q0 q1 q2 q3 q4 q5 q6 q7 
  refine (HC.out).mono ?_
  rintro e w1 ⟨rfl, hb⟩
  have X1 := Lib.hid (X0.out.next hb)
  have Y1 := Lib.hid (Y0.out.next hb)
  have LB1 := Lib.hid (LB0.out.trans (hb.mono LB0.out.size))
  clear hb X0 Y0 LB0
  obtain ⟨r0, r1, r2, r3, r4, r5, r6, r7⟩ := Y1.out.all
  go_wp2_with fail
  clear  r0 r1 r2 r3 r4 r5 r6 r7
  refine (HC2.out _ LB1.out).mono ?_
  rintro e w2 ⟨rfl, hb⟩
  have X2 := Lib.hid (X1.out.next hb)
  have Y2 := Lib.hid (Y1.out.next hb)
  have LB2 := Lib.hid (LB1.out.trans (hb.mono LB1.out.size))
  clear hb X1 Y1 LB1
  obtain ⟨q0, q1, q2, q3, q4, q5, q6, q7⟩ := X2.out.all
  obtain ⟨r0, r1, r2, r3, r4, r5, r6, r7⟩ := Y2.out.all
  go_upto_region 7 with fail
  clear q0 q1 q2 q3 q4 q5 q6 q7 r0 r1 r2 r3 r4 r5 r6 r7
  obtain ⟨I, Wf, i0, h0, hbf, hcl⟩ := family w2
  have HCL := Lib.hid hcl
  have BF := Lib.hid hbf
  clear hbf hcl
  have hne : Nonempty I := ⟨i0⟩
  have x0 := fun n => (X2.out.below (BF.out n) X2.out.lt).all.1
  have x1 := fun n => (X2.out.below (BF.out n) X2.out.lt).all.2.1
  have x2 := fun n => (X2.out.below (BF.out n) X2.out.lt).all.2.2.1
  have x3 := fun n => (X2.out.below (BF.out n) X2.out.lt).all.2.2.2.1
  have x4 := fun n => (X2.out.below (BF.out n) X2.out.lt).all.2.2.2.2.1
  have x5 := fun n => (X2.out.below (BF.out n) X2.out.lt).all.2.2.2.2.2.1
  have x6 := fun n => (X2.out.below (BF.out n) X2.out.lt).all.2.2.2.2.2.2.1
  have z0 := fun n => (Y2.out.below (BF.out n) Y2.out.lt).all.1
  have z1 := fun n => (Y2.out.below (BF.out n) Y2.out.lt).all.2.1
  have z2 := fun n => (Y2.out.below (BF.out n) Y2.out.lt).all.2.2.1
  have z3 := fun n => (Y2.out.below (BF.out n) Y2.out.lt).all.2.2.2.1
  have z4 := fun n => (Y2.out.below (BF.out n) Y2.out.lt).all.2.2.2.2.1
  have z5 := fun n => (Y2.out.below (BF.out n) Y2.out.lt).all.2.2.2.2.2.1
  have z6 := fun n => (Y2.out.below (BF.out n) Y2.out.lt).all.2.2.2.2.2.2.1
  have C1 := Lib.hid (fun n => (UA.out (Wf n) (LB2.out.trans ((BF.out n).mono LB2.out.size))).mono fun e w2 h => (⟨h.1, HCL.out n _ h.2⟩ : _ ∧ ∃ m, w2 = Wf m))
  have C2 := Lib.hid (fun n => (UB.out (Wf n) (LB2.out.trans ((BF.out n).mono LB2.out.size))).mono fun e w2 h => (⟨h.1, HCL.out n _ h.2⟩ : _ ∧ ∃ m, w2 = Wf m))
  have C3 := Lib.hid (fun n => (has_any D (Wf n)).mono fun e w2 h => (⟨h.1, HCL.out n _ h.2⟩ : _ ∧ ∃ m, w2 = Wf m))
  have C4 := Lib.hid (fun n => (has_any E (Wf n)).mono fun e w2 h => (⟨h.1, HCL.out n _ h.2⟩ : _ ∧ ∃ m, w2 = Wf m))
  refine wp_region_fam Wf i0 h0 (by kernel_rfl) (by kernel_rfl) ?_
  clear h0
  repeat (go_big_quiet_step (first | exact rfl | (go_at_call 83; with_reducible exact C1.out _) | (go_at_call 83; with_reducible exact C2.out _) | (go_at_call 81; with_reducible exact C3.out _) | (go_at_call 81; with_reducible exact C4.out _)))
  refine wpQuiet_nil ?_
  rintro _ ⟨nq, rfl⟩
  have X3 := Lib.hid (X2.out.below (BF.out nq) X2.out.lt)
  have Y3 := Lib.hid (Y2.out.below (BF.out nq) Y2.out.lt)
  have LB3 := Lib.hid (LB2.out.trans ((BF.out nq).mono LB2.out.size))
  clear x0 x1 x2 x3 x4 x5 x6 z0 z1 z2 z3 z4 z5 z6 C1 C2 C3 C4 X2 Y2 LB2
  generalize Wf nq = w3 at *
  go_wp2
  exact bodyPost_ret (v := .tuple #[.slice none 0 0, .slice none 0 0, .int .i64 2]) (by simp [results, Try.results45, go_sem]) rfl (M3.no LB3.out)

set_option maxHeartbeats 1600000 in
theorem fm_unused2 (D E : Dr) (F1 F2 : Nat → Int) (h0 : D.ck = 0) (hz : E.ck = 0) (hs : D.Small) (ht : E.Small) (w : World) (hd : D.In w w.heap.size) (he : E.In w w.heap.size) (X1 Y1 X2 Y2 : Int)
    (ua : ∀ w', Below w.heap.size w w' → Calls Try.prog 83 #[.agg #[.int .i64 D.S, .int .i64 D.T, .slice D.A D.n D.c, .slice D.B D.m D.d, .int .i64 D.W, .int .i64 D.H, .slice D.C D.k D.e]] w' fun e w2 => e = .returned (.agg #[.int .i64 D.S, .int .i64 Y1]) ∧ Below w'.heap.size w' w2)
    (ub : ∀ w', Below w.heap.size w w' → Calls Try.prog 83 #[.agg #[.int .i64 E.S, .int .i64 E.T, .slice E.A E.n E.c, .slice E.B E.m E.d, .int .i64 E.W, .int .i64 E.H, .slice E.C E.k E.e]] w' fun e w2 => e = .returned (.agg #[.int .i64 X2, .int .i64 Y2]) ∧ Below w'.heap.size w' w2) (hx : ¬ Y1 = D.T) :
    Calls Try.prog 45 #[.agg #[.int .i64 D.S, .int .i64 D.T, .slice D.A D.n D.c, .slice D.B D.m D.d, .int .i64 D.W, .int .i64 D.H, .slice D.C D.k D.e], .agg #[.int .i64 E.S, .int .i64 E.T, .slice E.A E.n E.c, .slice E.B E.m E.d, .int .i64 E.W, .int .i64 E.H, .slice E.C E.k E.e]] w (M3 w 0 F1 0 F2 2) := by
  have LB0 := Lib.hid (show Below w.heap.size w ((w.alloc (.cells #[.int .i64 D.S, .int .i64 D.T, .slice D.A D.n D.c, .slice D.B D.m D.d, .int .i64 D.W, .int .i64 D.H, .slice D.C D.k D.e] 30)).alloc (.cells #[.int .i64 E.S, .int .i64 E.T, .slice E.A E.n E.c, .slice E.B E.m E.d, .int .i64 E.W, .int .i64 E.H, .slice E.C E.k E.e] 30)) from ((Below.refl _ _).alloc (Nat.le_refl _) _).alloc (by simp) _)
  have X0 := Lib.hid (show DBox ((w.alloc (.cells #[.int .i64 D.S, .int .i64 D.T, .slice D.A D.n D.c, .slice D.B D.m D.d, .int .i64 D.W, .int .i64 D.H, .slice D.C D.k D.e] 30)).alloc (.cells #[.int .i64 E.S, .int .i64 E.T, .slice E.A E.n E.c, .slice E.B E.m E.d, .int .i64 E.W, .int .i64 E.H, .slice E.C E.k E.e] 30)) w.heap.size D from (DBox.new w D).alloc _)
  have Y0 : Hid (DBox ((w.alloc (.cells #[.int .i64 D.S, .int .i64 D.T, .slice D.A D.n D.c, .slice D.B D.m D.d, .int .i64 D.W, .int .i64 D.H, .slice D.C D.k D.e] 30)).alloc (.cells #[.int .i64 E.S, .int .i64 E.T, .slice E.A E.n E.c, .slice E.B E.m E.d, .int .i64 E.W, .int .i64 E.H, .slice E.C E.k E.e] 30)) (w.heap.size + 1) E) := Lib.hid (by
    have h := DBox.new (w.alloc (.cells #[.int .i64 D.S, .int .i64 D.T, .slice D.A D.n D.c, .slice D.B D.m D.d, .int .i64 D.W, .int .i64 D.H, .slice D.C D.k D.e] 30)) E
    simp only [World.size_alloc] at h
    exact h)
  have HC := Lib.hid (dck_is h0 hs _ (hd.next LB0.out))
  have HC2 := Lib.hid (fun w' (h : Below w.heap.size w w') => dck_is hz ht w' (he.next h))
  have UA := Lib.hid ua
  have UB := Lib.hid ub
  clear hz hs hd h0 ht he ua ub
  go_enter Try.func45, Try.ntmps45
  obtain ⟨q0, q1, q2, q3, q4, q5, q6, q7⟩ := X0.out.all
  go_wp2_with fail
  clear q0 q1 q2 q3 q4 q5 q6 q7 
  refine (HC.out).mono ?_
  rintro e w1 ⟨rfl, hb⟩
  have X1 := Lib.hid (X0.out.next hb)
  have Y1 := Lib.hid (Y0.out.next hb)
  have LB1 := Lib.hid (LB0.out.trans (hb.mono LB0.out.size))
  clear hb X0 Y0 LB0
  obtain ⟨r0, r1, r2, r3, r4, r5, r6, r7⟩ := Y1.out.all
  go_wp2_with fail
  clear  r0 r1 r2 r3 r4 r5 r6 r7
  refine (HC2.out _ LB1.out).mono ?_
  rintro e w2 ⟨rfl, hb⟩
  have X2 := Lib.hid (X1.out.next hb)
  have Y2 := Lib.hid (Y1.out.next hb)
  have LB2 := Lib.hid (LB1.out.trans (hb.mono LB1.out.size))
  clear hb X1 Y1 LB1
  obtain ⟨q0, q1, q2, q3, q4, q5, q6, q7⟩ := X2.out.all
  obtain ⟨r0, r1, r2, r3, r4, r5, r6, r7⟩ := Y2.out.all
  go_upto_region 7 with fail
  clear q0 q1 q2 q3 q4 q5 q6 q7 r0 r1 r2 r3 r4 r5 r6 r7
  obtain ⟨I, Wf, i0, h0, hbf, hcl⟩ := family w2
  have HCL := Lib.hid hcl
  have BF := Lib.hid hbf
  clear hbf hcl
  have hne : Nonempty I := ⟨i0⟩
  have x0 := fun n => (X2.out.below (BF.out n) X2.out.lt).all.1
  have x1 := fun n => (X2.out.below (BF.out n) X2.out.lt).all.2.1
  have x2 := fun n => (X2.out.below (BF.out n) X2.out.lt).all.2.2.1
  have x3 := fun n => (X2.out.below (BF.out n) X2.out.lt).all.2.2.2.1
  have x4 := fun n => (X2.out.below (BF.out n) X2.out.lt).all.2.2.2.2.1
  have x5 := fun n => (X2.out.below (BF.out n) X2.out.lt).all.2.2.2.2.2.1
  have x6 := fun n => (X2.out.below (BF.out n) X2.out.lt).all.2.2.2.2.2.2.1
  have z0 := fun n => (Y2.out.below (BF.out n) Y2.out.lt).all.1
  have z1 := fun n => (Y2.out.below (BF.out n) Y2.out.lt).all.2.1
  have z2 := fun n => (Y2.out.below (BF.out n) Y2.out.lt).all.2.2.1
  have z3 := fun n => (Y2.out.below (BF.out n) Y2.out.lt).all.2.2.2.1
  have z4 := fun n => (Y2.out.below (BF.out n) Y2.out.lt).all.2.2.2.2.1
  have z5 := fun n => (Y2.out.below (BF.out n) Y2.out.lt).all.2.2.2.2.2.1
  have z6 := fun n => (Y2.out.below (BF.out n) Y2.out.lt).all.2.2.2.2.2.2.1
  have C1 := Lib.hid (fun n => (UA.out (Wf n) (LB2.out.trans ((BF.out n).mono LB2.out.size))).mono fun e w2 h => (⟨h.1, HCL.out n _ h.2⟩ : _ ∧ ∃ m, w2 = Wf m))
  have C2 := Lib.hid (fun n => (UB.out (Wf n) (LB2.out.trans ((BF.out n).mono LB2.out.size))).mono fun e w2 h => (⟨h.1, HCL.out n _ h.2⟩ : _ ∧ ∃ m, w2 = Wf m))
  have C3 := Lib.hid (fun n => (has_any D (Wf n)).mono fun e w2 h => (⟨h.1, HCL.out n _ h.2⟩ : _ ∧ ∃ m, w2 = Wf m))
  have C4 := Lib.hid (fun n => (has_any E (Wf n)).mono fun e w2 h => (⟨h.1, HCL.out n _ h.2⟩ : _ ∧ ∃ m, w2 = Wf m))
  refine wp_region_fam Wf i0 h0 (by kernel_rfl) (by kernel_rfl) ?_
  clear h0
  repeat (go_big_quiet_step (first | exact rfl | (go_at_call 83; with_reducible exact C1.out _) | (go_at_call 83; with_reducible exact C2.out _) | (go_at_call 81; with_reducible exact C3.out _) | (go_at_call 81; with_reducible exact C4.out _)))
  refine wpQuiet_nil ?_
  rintro _ ⟨nq, rfl⟩
  have X3 := Lib.hid (X2.out.below (BF.out nq) X2.out.lt)
  have Y3 := Lib.hid (Y2.out.below (BF.out nq) Y2.out.lt)
  have LB3 := Lib.hid (LB2.out.trans ((BF.out nq).mono LB2.out.size))
  clear x0 x1 x2 x3 x4 x5 x6 z0 z1 z2 z3 z4 z5 z6 C1 C2 C3 C4 X2 Y2 LB2
  generalize Wf nq = w3 at *
  go_wp2
  exact bodyPost_ret (v := .tuple #[.slice none 0 0, .slice none 0 0, .int .i64 2]) (by simp [results, Try.results45, go_sem]) rfl (M3.no LB3.out)

set_option maxHeartbeats 1600000 in
theorem fm_unused3 (D E : Dr) (F1 F2 : Nat → Int) (h0 : D.ck = 0) (hz : E.ck = 0) (hs : D.Small) (ht : E.Small) (w : World) (hd : D.In w w.heap.size) (he : E.In w w.heap.size) (X1 Y1 X2 Y2 : Int)
    (ua : ∀ w', Below w.heap.size w w' → Calls Try.prog 83 #[.agg #[.int .i64 D.S, .int .i64 D.T, .slice D.A D.n D.c, .slice D.B D.m D.d, .int .i64 D.W, .int .i64 D.H, .slice D.C D.k D.e]] w' fun e w2 => e = .returned (.agg #[.int .i64 D.S, .int .i64 D.T]) ∧ Below w'.heap.size w' w2)
    (ub : ∀ w', Below w.heap.size w w' → Calls Try.prog 83 #[.agg #[.int .i64 E.S, .int .i64 E.T, .slice E.A E.n E.c, .slice E.B E.m E.d, .int .i64 E.W, .int .i64 E.H, .slice E.C E.k E.e]] w' fun e w2 => e = .returned (.agg #[.int .i64 X2, .int .i64 Y2]) ∧ Below w'.heap.size w' w2) (hx : ¬ X2 = E.S) :
    Calls Try.prog 45 #[.agg #[.int .i64 D.S, .int .i64 D.T, .slice D.A D.n D.c, .slice D.B D.m D.d, .int .i64 D.W, .int .i64 D.H, .slice D.C D.k D.e], .agg #[.int .i64 E.S, .int .i64 E.T, .slice E.A E.n E.c, .slice E.B E.m E.d, .int .i64 E.W, .int .i64 E.H, .slice E.C E.k E.e]] w (M3 w 0 F1 0 F2 2) := by
  have LB0 := Lib.hid (show Below w.heap.size w ((w.alloc (.cells #[.int .i64 D.S, .int .i64 D.T, .slice D.A D.n D.c, .slice D.B D.m D.d, .int .i64 D.W, .int .i64 D.H, .slice D.C D.k D.e] 30)).alloc (.cells #[.int .i64 E.S, .int .i64 E.T, .slice E.A E.n E.c, .slice E.B E.m E.d, .int .i64 E.W, .int .i64 E.H, .slice E.C E.k E.e] 30)) from ((Below.refl _ _).alloc (Nat.le_refl _) _).alloc (by simp) _)
  have X0 := Lib.hid (show DBox ((w.alloc (.cells #[.int .i64 D.S, .int .i64 D.T, .slice D.A D.n D.c, .slice D.B D.m D.d, .int .i64 D.W, .int .i64 D.H, .slice D.C D.k D.e] 30)).alloc (.cells #[.int .i64 E.S, .int .i64 E.T, .slice E.A E.n E.c, .slice E.B E.m E.d, .int .i64 E.W, .int .i64 E.H, .slice E.C E.k E.e] 30)) w.heap.size D from (DBox.new w D).alloc _)
  have Y0 : Hid (DBox ((w.alloc (.cells #[.int .i64 D.S, .int .i64 D.T, .slice D.A D.n D.c, .slice D.B D.m D.d, .int .i64 D.W, .int .i64 D.H, .slice D.C D.k D.e] 30)).alloc (.cells #[.int .i64 E.S, .int .i64 E.T, .slice E.A E.n E.c, .slice E.B E.m E.d, .int .i64 E.W, .int .i64 E.H, .slice E.C E.k E.e] 30)) (w.heap.size + 1) E) := Lib.hid (by
    have h := DBox.new (w.alloc (.cells #[.int .i64 D.S, .int .i64 D.T, .slice D.A D.n D.c, .slice D.B D.m D.d, .int .i64 D.W, .int .i64 D.H, .slice D.C D.k D.e] 30)) E
    simp only [World.size_alloc] at h
    exact h)
  have HC := Lib.hid (dck_is h0 hs _ (hd.next LB0.out))
  have HC2 := Lib.hid (fun w' (h : Below w.heap.size w w') => dck_is hz ht w' (he.next h))
  have UA := Lib.hid ua
  have UB := Lib.hid ub
  clear hz hs hd h0 ht he ua ub
  go_enter Try.func45, Try.ntmps45
  obtain ⟨q0, q1, q2, q3, q4, q5, q6, q7⟩ := X0.out.all
  go_wp2_with fail
  clear q0 q1 q2 q3 q4 q5 q6 q7 
  refine (HC.out).mono ?_
  rintro e w1 ⟨rfl, hb⟩
  have X1 := Lib.hid (X0.out.next hb)
  have Y1 := Lib.hid (Y0.out.next hb)
  have LB1 := Lib.hid (LB0.out.trans (hb.mono LB0.out.size))
  clear hb X0 Y0 LB0
  obtain ⟨r0, r1, r2, r3, r4, r5, r6, r7⟩ := Y1.out.all
  go_wp2_with fail
  clear  r0 r1 r2 r3 r4 r5 r6 r7
  refine (HC2.out _ LB1.out).mono ?_
  rintro e w2 ⟨rfl, hb⟩
  have X2 := Lib.hid (X1.out.next hb)
  have Y2 := Lib.hid (Y1.out.next hb)
  have LB2 := Lib.hid (LB1.out.trans (hb.mono LB1.out.size))
  clear hb X1 Y1 LB1
  obtain ⟨q0, q1, q2, q3, q4, q5, q6, q7⟩ := X2.out.all
  obtain ⟨r0, r1, r2, r3, r4, r5, r6, r7⟩ := Y2.out.all
  go_upto_region 7 with fail
  clear q0 q1 q2 q3 q4 q5 q6 q7 r0 r1 r2 r3 r4 r5 r6 r7
  obtain ⟨I, Wf, i0, h0, hbf, hcl⟩ := family w2
  have HCL := Lib.hid hcl
  have BF := Lib.hid hbf
  clear hbf hcl
  have hne : Nonempty I := ⟨i0⟩
  have x0 := fun n => (X2.out.below (BF.out n) X2.out.lt).all.1
  have x1 := fun n => (X2.out.below (BF.out n) X2.out.lt).all.2.1
  have x2 := fun n => (X2.out.below (BF.out n) X2.out.lt).all.2.2.1
  have x3 := fun n => (X2.out.below (BF.out n) X2.out.lt).all.2.2.2.1
  have x4 := fun n => (X2.out.below (BF.out n) X2.out.lt).all.2.2.2.2.1
  have x5 := fun n => (X2.out.below (BF.out n) X2.out.lt).all.2.2.2.2.2.1
  have x6 := fun n => (X2.out.below (BF.out n) X2.out.lt).all.2.2.2.2.2.2.1
  have z0 := fun n => (Y2.out.below (BF.out n) Y2.out.lt).all.1
  have z1 := fun n => (Y2.out.below (BF.out n) Y2.out.lt).all.2.1
  have z2 := fun n => (Y2.out.below (BF.out n) Y2.out.lt).all.2.2.1
  have z3 := fun n => (Y2.out.below (BF.out n) Y2.out.lt).all.2.2.2.1
  have z4 := fun n => (Y2.out.below (BF.out n) Y2.out.lt).all.2.2.2.2.1
  have z5 := fun n => (Y2.out.below (BF.out n) Y2.out.lt).all.2.2.2.2.2.1
  have z6 := fun n => (Y2.out.below (BF.out n) Y2.out.lt).all.2.2.2.2.2.2.1
  have C1 := Lib.hid (fun n => (UA.out (Wf n) (LB2.out.trans ((BF.out n).mono LB2.out.size))).mono fun e w2 h => (⟨h.1, HCL.out n _ h.2⟩ : _ ∧ ∃ m, w2 = Wf m))
  have C2 := Lib.hid (fun n => (UB.out (Wf n) (LB2.out.trans ((BF.out n).mono LB2.out.size))).mono fun e w2 h => (⟨h.1, HCL.out n _ h.2⟩ : _ ∧ ∃ m, w2 = Wf m))
  have C3 := Lib.hid (fun n => (has_any D (Wf n)).mono fun e w2 h => (⟨h.1, HCL.out n _ h.2⟩ : _ ∧ ∃ m, w2 = Wf m))
  have C4 := Lib.hid (fun n => (has_any E (Wf n)).mono fun e w2 h => (⟨h.1, HCL.out n _ h.2⟩ : _ ∧ ∃ m, w2 = Wf m))
  refine wp_region_fam Wf i0 h0 (by kernel_rfl) (by kernel_rfl) ?_
  clear h0
  repeat (go_big_quiet_step (first | exact rfl | (go_at_call 83; with_reducible exact C1.out _) | (go_at_call 83; with_reducible exact C2.out _) | (go_at_call 81; with_reducible exact C3.out _) | (go_at_call 81; with_reducible exact C4.out _)))
  refine wpQuiet_nil ?_
  rintro _ ⟨nq, rfl⟩
  have X3 := Lib.hid (X2.out.below (BF.out nq) X2.out.lt)
  have Y3 := Lib.hid (Y2.out.below (BF.out nq) Y2.out.lt)
  have LB3 := Lib.hid (LB2.out.trans ((BF.out nq).mono LB2.out.size))
  clear x0 x1 x2 x3 x4 x5 x6 z0 z1 z2 z3 z4 z5 z6 C1 C2 C3 C4 X2 Y2 LB2
  generalize Wf nq = w3 at *
  go_wp2
  exact bodyPost_ret (v := .tuple #[.slice none 0 0, .slice none 0 0, .int .i64 2]) (by simp [results, Try.results45, go_sem]) rfl (M3.no LB3.out)

set_option maxHeartbeats 1600000 in
theorem fm_unused4 (D E : Dr) (F1 F2 : Nat → Int) (h0 : D.ck = 0) (hz : E.ck = 0) (hs : D.Small) (ht : E.Small) (w : World) (hd : D.In w w.heap.size) (he : E.In w w.heap.size) (X1 Y1 X2 Y2 : Int)
    (ua : ∀ w', Below w.heap.size w w' → Calls Try.prog 83 #[.agg #[.int .i64 D.S, .int .i64 D.T, .slice D.A D.n D.c, .slice D.B D.m D.d, .int .i64 D.W, .int .i64 D.H, .slice D.C D.k D.e]] w' fun e w2 => e = .returned (.agg #[.int .i64 D.S, .int .i64 D.T]) ∧ Below w'.heap.size w' w2)
    (ub : ∀ w', Below w.heap.size w w' → Calls Try.prog 83 #[.agg #[.int .i64 E.S, .int .i64 E.T, .slice E.A E.n E.c, .slice E.B E.m E.d, .int .i64 E.W, .int .i64 E.H, .slice E.C E.k E.e]] w' fun e w2 => e = .returned (.agg #[.int .i64 E.S, .int .i64 Y2]) ∧ Below w'.heap.size w' w2) (hx : ¬ Y2 = E.T) :
    Calls Try.prog 45 #[.agg #[.int .i64 D.S, .int .i64 D.T, .slice D.A D.n D.c, .slice D.B D.m D.d, .int .i64 D.W, .int .i64 D.H, .slice D.C D.k D.e], .agg #[.int .i64 E.S, .int .i64 E.T, .slice E.A E.n E.c, .slice E.B E.m E.d, .int .i64 E.W, .int .i64 E.H, .slice E.C E.k E.e]] w (M3 w 0 F1 0 F2 2) := by
  have LB0 := Lib.hid (show Below w.heap.size w ((w.alloc (.cells #[.int .i64 D.S, .int .i64 D.T, .slice D.A D.n D.c, .slice D.B D.m D.d, .int .i64 D.W, .int .i64 D.H, .slice D.C D.k D.e] 30)).alloc (.cells #[.int .i64 E.S, .int .i64 E.T, .slice E.A E.n E.c, .slice E.B E.m E.d, .int .i64 E.W, .int .i64 E.H, .slice E.C E.k E.e] 30)) from ((Below.refl _ _).alloc (Nat.le_refl _) _).alloc (by simp) _)
  have X0 := Lib.hid (show DBox ((w.alloc (.cells #[.int .i64 D.S, .int .i64 D.T, .slice D.A D.n D.c, .slice D.B D.m D.d, .int .i64 D.W, .int .i64 D.H, .slice D.C D.k D.e] 30)).alloc (.cells #[.int .i64 E.S, .int .i64 E.T, .slice E.A E.n E.c, .slice E.B E.m E.d, .int .i64 E.W, .int .i64 E.H, .slice E.C E.k E.e] 30)) w.heap.size D from (DBox.new w D).alloc _)
  have Y0 : Hid (DBox ((w.alloc (.cells #[.int .i64 D.S, .int .i64 D.T, .slice D.A D.n D.c, .slice D.B D.m D.d, .int .i64 D.W, .int .i64 D.H, .slice D.C D.k D.e] 30)).alloc (.cells #[.int .i64 E.S, .int .i64 E.T, .slice E.A E.n E.c, .slice E.B E.m E.d, .int .i64 E.W, .int .i64 E.H, .slice E.C E.k E.e] 30)) (w.heap.size + 1) E) := Lib.hid (by
    have h := DBox.new (w.alloc (.cells #[.int .i64 D.S, .int .i64 D.T, .slice D.A D.n D.c, .slice D.B D.m D.d, .int .i64 D.W, .int .i64 D.H, .slice D.C D.k D.e] 30)) E
    simp only [World.size_alloc] at h
    exact h)
  have HC := Lib.hid (dck_is h0 hs _ (hd.next LB0.out))
  have HC2 := Lib.hid (fun w' (h : Below w.heap.size w w') => dck_is hz ht w' (he.next h))
  have UA := Lib.hid ua
  have UB := Lib.hid ub
  clear hz hs hd h0 ht he ua ub
  go_enter Try.func45, Try.ntmps45
  obtain ⟨q0, q1, q2, q3, q4, q5, q6, q7⟩ := X0.out.all
  go_wp2_with fail
  clear q0 q1 q2 q3 q4 q5 q6 q7 
  refine (HC.out).mono ?_
  rintro e w1 ⟨rfl, hb⟩
  have X1 := Lib.hid (X0.out.next hb)
  have Y1 := Lib.hid (Y0.out.next hb)
  have LB1 := Lib.hid (LB0.out.trans (hb.mono LB0.out.size))
  clear hb X0 Y0 LB0
  obtain ⟨r0, r1, r2, r3, r4, r5, r6, r7⟩ := Y1.out.all
  go_wp2_with fail
  clear  r0 r1 r2 r3 r4 r5 r6 r7
  refine (HC2.out _ LB1.out).mono ?_
  rintro e w2 ⟨rfl, hb⟩
  have X2 := Lib.hid (X1.out.next hb)
  have Y2 := Lib.hid (Y1.out.next hb)
  have LB2 := Lib.hid (LB1.out.trans (hb.mono LB1.out.size))
  clear hb X1 Y1 LB1
  obtain ⟨q0, q1, q2, q3, q4, q5, q6, q7⟩ := X2.out.all
  obtain ⟨r0, r1, r2, r3, r4, r5, r6, r7⟩ := Y2.out.all
  go_upto_region 7 with fail
  clear q0 q1 q2 q3 q4 q5 q6 q7 r0 r1 r2 r3 r4 r5 r6 r7
  obtain ⟨I, Wf, i0, h0, hbf, hcl⟩ := family w2
  have HCL := Lib.hid hcl
  have BF := Lib.hid hbf
  clear hbf hcl
  have hne : Nonempty I := ⟨i0⟩
  have x0 := fun n => (X2.out.below (BF.out n) X2.out.lt).all.1
  have x1 := fun n => (X2.out.below (BF.out n) X2.out.lt).all.2.1
  have x2 := fun n => (X2.out.below (BF.out n) X2.out.lt).all.2.2.1
  have x3 := fun n => (X2.out.below (BF.out n) X2.out.lt).all.2.2.2.1
  have x4 := fun n => (X2.out.below (BF.out n) X2.out.lt).all.2.2.2.2.1
  have x5 := fun n => (X2.out.below (BF.out n) X2.out.lt).all.2.2.2.2.2.1
  have x6 := fun n => (X2.out.below (BF.out n) X2.out.lt).all.2.2.2.2.2.2.1
  have z0 := fun n => (Y2.out.below (BF.out n) Y2.out.lt).all.1
  have z1 := fun n => (Y2.out.below (BF.out n) Y2.out.lt).all.2.1
  have z2 := fun n => (Y2.out.below (BF.out n) Y2.out.lt).all.2.2.1
  have z3 := fun n => (Y2.out.below (BF.out n) Y2.out.lt).all.2.2.2.1
  have z4 := fun n => (Y2.out.below (BF.out n) Y2.out.lt).all.2.2.2.2.1
  have z5 := fun n => (Y2.out.below (BF.out n) Y2.out.lt).all.2.2.2.2.2.1
  have z6 := fun n => (Y2.out.below (BF.out n) Y2.out.lt).all.2.2.2.2.2.2.1
  have C1 := Lib.hid (fun n => (UA.out (Wf n) (LB2.out.trans ((BF.out n).mono LB2.out.size))).mono fun e w2 h => (⟨h.1, HCL.out n _ h.2⟩ : _ ∧ ∃ m, w2 = Wf m))
  have C2 := Lib.hid (fun n => (UB.out (Wf n) (LB2.out.trans ((BF.out n).mono LB2.out.size))).mono fun e w2 h => (⟨h.1, HCL.out n _ h.2⟩ : _ ∧ ∃ m, w2 = Wf m))
  have C3 := Lib.hid (fun n => (has_any D (Wf n)).mono fun e w2 h => (⟨h.1, HCL.out n _ h.2⟩ : _ ∧ ∃ m, w2 = Wf m))
  have C4 := Lib.hid (fun n => (has_any E (Wf n)).mono fun e w2 h => (⟨h.1, HCL.out n _ h.2⟩ : _ ∧ ∃ m, w2 = Wf m))
  refine wp_region_fam Wf i0 h0 (by kernel_rfl) (by kernel_rfl) ?_
  clear h0
  repeat (go_big_quiet_step (first | exact rfl | (go_at_call 83; with_reducible exact C1.out _) | (go_at_call 83; with_reducible exact C2.out _) | (go_at_call 81; with_reducible exact C3.out _) | (go_at_call 81; with_reducible exact C4.out _)))
  refine wpQuiet_nil ?_
  rintro _ ⟨nq, rfl⟩
  have X3 := Lib.hid (X2.out.below (BF.out nq) X2.out.lt)
  have Y3 := Lib.hid (Y2.out.below (BF.out nq) Y2.out.lt)
  have LB3 := Lib.hid (LB2.out.trans ((BF.out nq).mono LB2.out.size))
  clear x0 x1 x2 x3 x4 x5 x6 z0 z1 z2 z3 z4 z5 z6 C1 C2 C3 C4 X2 Y2 LB2
  generalize Wf nq = w3 at *
  go_wp2
  exact bodyPost_ret (v := .tuple #[.slice none 0 0, .slice none 0 0, .int .i64 2]) (by simp [results, Try.results45, go_sem]) rfl (M3.no LB3.out)

/-- What both Matches ask of the functions that they call, beside the checks: what the matches of the lists, and Renumber, hand back. -/
structure MA (w : World) (D E : Dr) (kt kr : Nat) (N1 : Nat) (G1 : Nat → Int) (e1 : Int) (N2 : Nat) (G2 : Nat → Int) (e2 : Int) (R : Dr) (re : Int) : Prop where
  t1 : ∀ w', Below w.heap.size w w' → Calls Try.prog kt #[.slice D.A D.n D.c, .slice E.A E.n E.c] w' (L2.LOut w' N1 G1 e1)
  t2 : ∀ w', Below w.heap.size w w' → Calls Try.prog kt #[.slice D.B D.m D.d, .slice E.B E.m E.d] w' (L2.LOut w' N2 G2 e2)
  rn : e1 = 0 → e2 = 0 → ∀ (w' : World) (A1 A2 : Option Addr) (c1 c2 : Nat), Below w.heap.size w w' → L2.Holds w' w'.heap.size A1 N1 G1 → L2.Holds w' w'.heap.size A2 N2 G2 →
    Calls Try.prog kr #[.agg #[.int .i64 D.S, .int .i64 D.T, .slice D.A D.n D.c, .slice D.B D.m D.d, .int .i64 D.W, .int .i64 D.H, .slice D.C D.k D.e], .slice A1 N1 c1, .slice A2 N2 c2] w' (DOut w' R re)
  sm : R.Small
/-- A list that was handed back. -/
def LRow (w : World) (A : Option Addr) (N : Nat) (G : Nat → Int) : Prop := 0 < N → ∃ k, A = some ⟨k, 0, none⟩ ∧ L2.Row w k N G
theorem LRow.next {w w' : World} {A : Option Addr} {N : Nat} {G : Nat → Int} (h : LRow w A N G) (hb : Below w.heap.size w w') : LRow w' A N G := fun h0 => by
  obtain ⟨k, e, hr⟩ := h h0
  exact ⟨k, e, hr.below hb hr.lt⟩
theorem LRow.holds {w : World} {A : Option Addr} {N : Nat} {G : Nat → Int} (h : LRow w A N G) : L2.Holds w w.heap.size A N G := fun h0 => by
  obtain ⟨k, e, hr⟩ := h h0
  subst e
  exact hr.holds hr.lt h0
/-- Whatever is wanted of an end. -/
def PO (Post : Ending → World → Prop) (e : Ending) (w : World) : Prop := Post e w
/-- Do the matches fail? -/
def bad (e1 e2 re : Int) (z : Bool) : Bool := !(decide (e1 = 0) && (decide (e2 = 0) && (decide (re = 0) && z)))

set_option maxHeartbeats 1600000 in
theorem fm_main (D E : Dr) (h0 : D.ck = 0) (hz : E.ck = 0) (hs : D.Small) (ht : E.Small) (w : World) (hd : D.In w w.heap.size) (he : E.In w w.heap.size) (N1 : Nat) (G1 : Nat → Int) (e1 : Int) (N2 : Nat) (G2 : Nat → Int) (e2 : Int) (R : Dr) (re : Int) (z : Bool)
    (ua : ∀ w', Below w.heap.size w w' → Calls Try.prog 83 #[.agg #[.int .i64 D.S, .int .i64 D.T, .slice D.A D.n D.c, .slice D.B D.m D.d, .int .i64 D.W, .int .i64 D.H, .slice D.C D.k D.e]] w' fun e w2 => e = .returned (.agg #[.int .i64 D.S, .int .i64 D.T]) ∧ Below w'.heap.size w' w2)
    (ub : ∀ w', Below w.heap.size w w' → Calls Try.prog 83 #[.agg #[.int .i64 E.S, .int .i64 E.T, .slice E.A E.n E.c, .slice E.B E.m E.d, .int .i64 E.W, .int .i64 E.H, .slice E.C E.k E.e]] w' fun e w2 => e = .returned (.agg #[.int .i64 E.S, .int .i64 E.T]) ∧ Below w'.heap.size w' w2) (hm : MA w D E 84 16 N1 G1 e1 N2 G2 e2 R re) (hzz : dsm R E = z)
    (Post : Ending → World → Prop) (hbad : bad e1 e2 re z = true → ∀ e w', M3 w 0 G1 0 G2 6 e w' → Post e w') (hgood : bad e1 e2 re z = false → ∀ e w', M3 w N1 G1 N2 G2 0 e w' → Post e w') :
    Calls Try.prog 45 #[.agg #[.int .i64 D.S, .int .i64 D.T, .slice D.A D.n D.c, .slice D.B D.m D.d, .int .i64 D.W, .int .i64 D.H, .slice D.C D.k D.e], .agg #[.int .i64 E.S, .int .i64 E.T, .slice E.A E.n E.c, .slice E.B E.m E.d, .int .i64 E.W, .int .i64 E.H, .slice E.C E.k E.e]] w (PO Post) := by
  have LB0 := Lib.hid (show Below w.heap.size w ((w.alloc (.cells #[.int .i64 D.S, .int .i64 D.T, .slice D.A D.n D.c, .slice D.B D.m D.d, .int .i64 D.W, .int .i64 D.H, .slice D.C D.k D.e] 30)).alloc (.cells #[.int .i64 E.S, .int .i64 E.T, .slice E.A E.n E.c, .slice E.B E.m E.d, .int .i64 E.W, .int .i64 E.H, .slice E.C E.k E.e] 30)) from ((Below.refl _ _).alloc (Nat.le_refl _) _).alloc (by simp) _)
  have X0 := Lib.hid (show DBox ((w.alloc (.cells #[.int .i64 D.S, .int .i64 D.T, .slice D.A D.n D.c, .slice D.B D.m D.d, .int .i64 D.W, .int .i64 D.H, .slice D.C D.k D.e] 30)).alloc (.cells #[.int .i64 E.S, .int .i64 E.T, .slice E.A E.n E.c, .slice E.B E.m E.d, .int .i64 E.W, .int .i64 E.H, .slice E.C E.k E.e] 30)) w.heap.size D from (DBox.new w D).alloc _)
  have Y0 : Hid (DBox ((w.alloc (.cells #[.int .i64 D.S, .int .i64 D.T, .slice D.A D.n D.c, .slice D.B D.m D.d, .int .i64 D.W, .int .i64 D.H, .slice D.C D.k D.e] 30)).alloc (.cells #[.int .i64 E.S, .int .i64 E.T, .slice E.A E.n E.c, .slice E.B E.m E.d, .int .i64 E.W, .int .i64 E.H, .slice E.C E.k E.e] 30)) (w.heap.size + 1) E) := Lib.hid (by
    have h := DBox.new (w.alloc (.cells #[.int .i64 D.S, .int .i64 D.T, .slice D.A D.n D.c, .slice D.B D.m D.d, .int .i64 D.W, .int .i64 D.H, .slice D.C D.k D.e] 30)) E
    simp only [World.size_alloc] at h
    exact h)
  have HC := Lib.hid (dck_is h0 hs _ (hd.next LB0.out))
  have HC2 := Lib.hid (fun w' (h : Below w.heap.size w w') => dck_is hz ht w' (he.next h))
  have UA := Lib.hid ua
  have UB := Lib.hid ub
  have HM := Lib.hid hm
  have HE := Lib.hid (fun w' (h : Below w.heap.size w w') => he.next h)
  have HZ := Lib.hid hzz
  have HBad := Lib.hid hbad
  have HGood := Lib.hid hgood
  clear hz hs hd h0 ht he ua ub hm hzz hbad hgood
  go_enter Try.func45, Try.ntmps45
  obtain ⟨q0, q1, q2, q3, q4, q5, q6, q7⟩ := X0.out.all
  go_wp2_with fail
  clear q0 q1 q2 q3 q4 q5 q6 q7 
  refine (HC.out).mono ?_
  rintro e w1 ⟨rfl, hb⟩
  have X1 := Lib.hid (X0.out.next hb)
  have Y1 := Lib.hid (Y0.out.next hb)
  have LB1 := Lib.hid (LB0.out.trans (hb.mono LB0.out.size))
  clear hb X0 Y0 LB0
  obtain ⟨r0, r1, r2, r3, r4, r5, r6, r7⟩ := Y1.out.all
  go_wp2_with fail
  clear  r0 r1 r2 r3 r4 r5 r6 r7
  refine (HC2.out _ LB1.out).mono ?_
  rintro e w2 ⟨rfl, hb⟩
  have X2 := Lib.hid (X1.out.next hb)
  have Y2 := Lib.hid (Y1.out.next hb)
  have LB2 := Lib.hid (LB1.out.trans (hb.mono LB1.out.size))
  clear hb X1 Y1 LB1
  obtain ⟨q0, q1, q2, q3, q4, q5, q6, q7⟩ := X2.out.all
  obtain ⟨r0, r1, r2, r3, r4, r5, r6, r7⟩ := Y2.out.all
  go_upto_region 7 with fail
  clear q0 q1 q2 q3 q4 q5 q6 q7 r0 r1 r2 r3 r4 r5 r6 r7
  obtain ⟨I, Wf, i0, h0, hbf, hcl⟩ := family w2
  have HCL := Lib.hid hcl
  have BF := Lib.hid hbf
  clear hbf hcl
  have hne : Nonempty I := ⟨i0⟩
  have x0 := fun n => (X2.out.below (BF.out n) X2.out.lt).all.1
  have x1 := fun n => (X2.out.below (BF.out n) X2.out.lt).all.2.1
  have x2 := fun n => (X2.out.below (BF.out n) X2.out.lt).all.2.2.1
  have x3 := fun n => (X2.out.below (BF.out n) X2.out.lt).all.2.2.2.1
  have x4 := fun n => (X2.out.below (BF.out n) X2.out.lt).all.2.2.2.2.1
  have x5 := fun n => (X2.out.below (BF.out n) X2.out.lt).all.2.2.2.2.2.1
  have x6 := fun n => (X2.out.below (BF.out n) X2.out.lt).all.2.2.2.2.2.2.1
  have z0 := fun n => (Y2.out.below (BF.out n) Y2.out.lt).all.1
  have z1 := fun n => (Y2.out.below (BF.out n) Y2.out.lt).all.2.1
  have z2 := fun n => (Y2.out.below (BF.out n) Y2.out.lt).all.2.2.1
  have z3 := fun n => (Y2.out.below (BF.out n) Y2.out.lt).all.2.2.2.1
  have z4 := fun n => (Y2.out.below (BF.out n) Y2.out.lt).all.2.2.2.2.1
  have z5 := fun n => (Y2.out.below (BF.out n) Y2.out.lt).all.2.2.2.2.2.1
  have z6 := fun n => (Y2.out.below (BF.out n) Y2.out.lt).all.2.2.2.2.2.2.1
  have C1 := Lib.hid (fun n => (UA.out (Wf n) (LB2.out.trans ((BF.out n).mono LB2.out.size))).mono fun e w2 h => (⟨h.1, HCL.out n _ h.2⟩ : _ ∧ ∃ m, w2 = Wf m))
  have C2 := Lib.hid (fun n => (UB.out (Wf n) (LB2.out.trans ((BF.out n).mono LB2.out.size))).mono fun e w2 h => (⟨h.1, HCL.out n _ h.2⟩ : _ ∧ ∃ m, w2 = Wf m))
  have C3 := Lib.hid (fun n => (has_any D (Wf n)).mono fun e w2 h => (⟨h.1, HCL.out n _ h.2⟩ : _ ∧ ∃ m, w2 = Wf m))
  have C4 := Lib.hid (fun n => (has_any E (Wf n)).mono fun e w2 h => (⟨h.1, HCL.out n _ h.2⟩ : _ ∧ ∃ m, w2 = Wf m))
  refine wp_region_fam Wf i0 h0 (by kernel_rfl) (by kernel_rfl) ?_
  clear h0
  repeat (go_big_quiet_step (first | exact rfl | (go_at_call 83; with_reducible exact C1.out _) | (go_at_call 83; with_reducible exact C2.out _) | (go_at_call 81; with_reducible exact C3.out _) | (go_at_call 81; with_reducible exact C4.out _)))
  refine wpQuiet_nil ?_
  rintro _ ⟨nq, rfl⟩
  have X3 := Lib.hid (X2.out.below (BF.out nq) X2.out.lt)
  have Y3 := Lib.hid (Y2.out.below (BF.out nq) Y2.out.lt)
  have LB3 := Lib.hid (LB2.out.trans ((BF.out nq).mono LB2.out.size))
  clear x0 x1 x2 x3 x4 x5 x6 z0 z1 z2 z3 z4 z5 z6 C1 C2 C3 C4 X2 Y2 LB2
  generalize Wf nq = w3 at *
  obtain ⟨q0, q1, q2, q3, q4, q5, q6, q7⟩ := X3.out.all
  obtain ⟨r0, r1, r2, r3, r4, r5, r6, r7⟩ := Y3.out.all
  go_wp2_with fail
  clear q0 q1 q2 q3 q4 q5 q6 q7 r0 r1 r2 r3 r4 r5 r6 r7
  refine (HM.out.t1 _ LB3.out).mono ?_
  rintro e w4 ⟨A1, c1, rfl, -, hr1, hb⟩
  have X4 := Lib.hid (X3.out.next hb)
  have Y4 := Lib.hid (Y3.out.next hb)
  have LB4 := Lib.hid (LB3.out.trans (hb.mono LB3.out.size))
  clear hb X3 Y3 LB3
  have V1 := Lib.hid (show LRow w4 A1 N1 G1 from fun h => by obtain ⟨k, e, _, hr⟩ := hr1 h; exact ⟨k, e, hr⟩)
  clear hr1
  by_cases h1 : e1 = 0
  · subst h1
    obtain ⟨q0, q1, q2, q3, q4, q5, q6, q7⟩ := X4.out.all
    obtain ⟨r0, r1, r2, r3, r4, r5, r6, r7⟩ := Y4.out.all
    go_wp2_with fail
    clear q0 q1 q2 q3 q4 q5 q6 q7 r0 r1 r2 r3 r4 r5 r6 r7
    refine (HM.out.t2 _ LB4.out).mono ?_
    rintro e w5 ⟨A2, c2, rfl, -, hr2, hb⟩
    have X5 := Lib.hid (X4.out.next hb)
    have Y5 := Lib.hid (Y4.out.next hb)
    have LB5 := Lib.hid (LB4.out.trans (hb.mono LB4.out.size))
    have V1a := Lib.hid (V1.out.next hb)
    clear hb V1 X4 Y4 LB4
    have V2 := Lib.hid (show LRow w5 A2 N2 G2 from fun h => by obtain ⟨k, e, _, hr⟩ := hr2 h; exact ⟨k, e, hr⟩)
    clear hr2
    by_cases h2 : e2 = 0
    · subst h2
      obtain ⟨q0, q1, q2, q3, q4, q5, q6, q7⟩ := X5.out.all
      go_wp2_with fail
      clear q0 q1 q2 q3 q4 q5 q6 q7 
      refine (HM.out.rn rfl rfl w5 A1 A2 c1 c2 LB5.out V1a.out.holds V2.out.holds).mono ?_
      rintro e w6 ⟨A, ca, B, cb, C, cc, rfl, hin, hb⟩
      have X6 := Lib.hid (X5.out.next hb)
      have Y6 := Lib.hid (Y5.out.next hb)
      have LB6 := Lib.hid (LB5.out.trans (hb.mono LB5.out.size))
      have V1b := Lib.hid (V1a.out.next hb)
      have V2b := Lib.hid (V2.out.next hb)
      clear hb V1a V2 X5 Y5 LB5
      have IN6 := Lib.hid hin
      clear hin
      by_cases h3 : re = 0
      · subst h3
        have X7 := Lib.hid (DBox.new w6 (R.at_ A ca B cb C cc))
        have hb7 : Below w6.heap.size w6 (w6.alloc (.cells #[.int .i64 R.S, .int .i64 R.T, .slice A R.n ca, .slice B R.m cb, .int .i64 R.W, .int .i64 R.H, .slice C R.k cc] 30)) := (Below.refl _ _).alloc (Nat.le_refl _) _
        have Y7 := Lib.hid (Y6.out.next hb7)
        have LB7 := Lib.hid (LB6.out.trans (hb7.mono LB6.out.size))
        have V1c := Lib.hid (V1b.out.next hb7)
        have V2c := Lib.hid (V2b.out.next hb7)
        have IN7 := Lib.hid (IN6.out.next hb7)
        have HSM : Hid (∀ v, v = w6.alloc (.cells #[.int .i64 R.S, .int .i64 R.T, .slice A R.n ca, .slice B R.m cb, .int .i64 R.W, .int .i64 R.H, .slice C R.k cc] 30) → Calls Try.prog 22 #[.agg #[.int .i64 R.S, .int .i64 R.T, .slice A R.n ca, .slice B R.m cb, .int .i64 R.W, .int .i64 R.H, .slice C R.k cc], .agg #[.int .i64 E.S, .int .i64 E.T, .slice E.A E.n E.c, .slice E.B E.m E.d, .int .i64 E.W, .int .i64 E.H, .slice E.C E.k E.e]] v fun e w' => e = .returned (.bool z) ∧ Below v.heap.size v w') := Lib.hid (by
          rintro v rfl
          have h := dsame_any (R.at_ A ca B cb C cc) E _ ⟨HM.out.sm.1, HM.out.sm.2, HM.out.sm.3⟩ IN7.out (HE.out _ LB7.out)
          rw [show dsm (R.at_ A ca B cb C cc) E = z from HZ.out] at h
          exact h)
        have HS7 := Lib.hid (HSM.out _ rfl)
        clear hb7 HSM IN6 IN7 X6 Y6 LB6 V1b V2b
        obtain ⟨q0, q1, q2, q3, q4, q5, q6, q7⟩ := X7.out.all
        obtain ⟨r0, r1, r2, r3, r4, r5, r6, r7⟩ := Y7.out.all
        dsimp only [Dr.at_] at q0 q1 q2 q3 q4 q5 q6
        go_wp2_with fail
        clear q0 q1 q2 q3 q4 q5 q6 q7 r0 r1 r2 r3 r4 r5 r6 r7
        refine HS7.out.mono ?_
        rintro e w8 ⟨rfl, hb⟩
        have LB8 := Lib.hid (LB7.out.trans (hb.mono LB7.out.size))
        have V1d := Lib.hid (V1c.out.next hb)
        have V2d := Lib.hid (V2c.out.next hb)
        clear hb
        cases z
        · go_wp2
          exact bodyPost_ret (v := .tuple #[.slice none 0 0, .slice none 0 0, .int .i64 6]) (by simp [results, Try.results45, go_sem]) rfl (HBad.out rfl _ _ (M3.no LB8.out))
        · go_wp2
          exact bodyPost_ret (v := .tuple #[.slice A1 N1 c1, .slice A2 N2 c2, .int .i64 0]) (by simp [results, Try.results45, go_sem]) rfl (HGood.out rfl _ _ ⟨A1, c1, A2, c2, rfl, V1d.out, V2d.out, LB8.out⟩)
      · have hne : (re != 0) = true := by simpa using h3
        have HB := Lib.hid (show bad 0 0 re z = true by simp [bad, h3])
        have LBZ := Lib.hid (LB6.out.alloc LB6.out.size (.cells #[.int .i64 R.S, .int .i64 R.T, .slice A R.n ca, .slice B R.m cb, .int .i64 R.W, .int .i64 R.H, .slice C R.k cc] 30))
        clear h3
        go_wp2
        exact bodyPost_ret (v := .tuple #[.slice none 0 0, .slice none 0 0, .int .i64 6]) (by simp [results, Try.results45, go_sem]) rfl (HBad.out HB.out _ _ (M3.no LBZ.out))
    · have hne : (e2 != 0) = true := by simpa using h2
      have HB := Lib.hid (show bad 0 e2 re z = true by simp [bad, h2])
      clear h2
      go_wp2
      exact bodyPost_ret (v := .tuple #[.slice none 0 0, .slice none 0 0, .int .i64 6]) (by simp [results, Try.results45, go_sem]) rfl (HBad.out HB.out _ _ (M3.no LB5.out))
  · have hne : (e1 != 0) = true := by simpa using h1
    have HB := Lib.hid (show bad e1 e2 re z = true by simp [bad, h1])
    clear h1
    go_wp2
    exact bodyPost_ret (v := .tuple #[.slice none 0 0, .slice none 0 0, .int .i64 6]) (by simp [results, Try.results45, go_sem]) rfl (HBad.out HB.out _ _ (M3.no LB4.out))
end Go.Proofs.Ytbafhdinalapoaa
