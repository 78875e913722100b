/- The reference's Match of two drafts. -/
import Derived.Test.YtbafhdinalapoaaFmt
namespace Go.Proofs.Ytbafhdinalapoaa
open Go.RowKit
set_option linter.unusedVariables false
set_option linter.unusedSimpArgs false
set_option maxRecDepth 100000

open L2 (nd ren Cons mt mxs)
set_option maxHeartbeats 800000 in
theorem rm_err1 (D E : Dr) {err : Int} (F1 F2 : Nat → Int) (hz : D.ck = err) (hne : (err != 0) = true) (hs : D.Small) (w : World) (hd : D.In w w.heap.size) :
    Calls Try.prog 46 #[.agg #[.int .i64 D.S, .int .i64 D.T, .slice D.A D.n D.c, .slice D.B D.m D.d, .int .i64 D.W, .int .i64 D.H, .slice D.C D.k D.e], .agg #[.int .i64 E.S, .int .i64 E.T, .slice E.A E.n E.c, .slice E.B E.m E.d, .int .i64 E.W, .int .i64 E.H, .slice E.C E.k E.e]] w (M3 w 0 F1 0 F2 err) := by
  have LB0 := Lib.hid (show Below w.heap.size w ((w.alloc (.cells #[.int .i64 D.S, .int .i64 D.T, .slice D.A D.n D.c, .slice D.B D.m D.d, .int .i64 D.W, .int .i64 D.H, .slice D.C D.k D.e] 30)).alloc (.cells #[.int .i64 E.S, .int .i64 E.T, .slice E.A E.n E.c, .slice E.B E.m E.d, .int .i64 E.W, .int .i64 E.H, .slice E.C E.k E.e] 30)) from ((Below.refl _ _).alloc (Nat.le_refl _) _).alloc (by simp) _)
  have X0 := Lib.hid (show DBox ((w.alloc (.cells #[.int .i64 D.S, .int .i64 D.T, .slice D.A D.n D.c, .slice D.B D.m D.d, .int .i64 D.W, .int .i64 D.H, .slice D.C D.k D.e] 30)).alloc (.cells #[.int .i64 E.S, .int .i64 E.T, .slice E.A E.n E.c, .slice E.B E.m E.d, .int .i64 E.W, .int .i64 E.H, .slice E.C E.k E.e] 30)) w.heap.size D from (DBox.new w D).alloc _)
  have Y0 : Hid (DBox ((w.alloc (.cells #[.int .i64 D.S, .int .i64 D.T, .slice D.A D.n D.c, .slice D.B D.m D.d, .int .i64 D.W, .int .i64 D.H, .slice D.C D.k D.e] 30)).alloc (.cells #[.int .i64 E.S, .int .i64 E.T, .slice E.A E.n E.c, .slice E.B E.m E.d, .int .i64 E.W, .int .i64 E.H, .slice E.C E.k E.e] 30)) (w.heap.size + 1) E) := Lib.hid (by
    have h := DBox.new (w.alloc (.cells #[.int .i64 D.S, .int .i64 D.T, .slice D.A D.n D.c, .slice D.B D.m D.d, .int .i64 D.W, .int .i64 D.H, .slice D.C D.k D.e] 30)) E
    simp only [World.size_alloc] at h
    exact h)
  have HC := Lib.hid (fun w' (h : Below w.heap.size w w') => rck_is hz hs w' (hd.next h))
  clear hz hs hd
  go_enter Try.func46, Try.ntmps46
  obtain ⟨q0, q1, q2, q3, q4, q5, q6, q7⟩ := X0.out.all
  go_wp2_with fail
  clear q0 q1 q2 q3 q4 q5 q6 q7 
  refine (HC.out _ LB0.out).mono ?_
  rintro e w1 ⟨rfl, hb⟩
  have X1 := Lib.hid (X0.out.next hb)
  have Y1 := Lib.hid (Y0.out.next hb)
  have LB1 := Lib.hid (LB0.out.trans (hb.mono LB0.out.size))
  clear hb X0 Y0 LB0
  obtain ⟨q0, q1, q2, q3, q4, q5, q6, q7⟩ := X1.out.all
  go_wp2_with fail
  clear q0 q1 q2 q3 q4 q5 q6 q7 
  refine (HC.out _ LB1.out).mono ?_
  rintro e w2 ⟨rfl, hb⟩
  have X2 := Lib.hid (X1.out.next hb)
  have Y2 := Lib.hid (Y1.out.next hb)
  have LB2 := Lib.hid (LB1.out.trans (hb.mono LB1.out.size))
  clear hb X1 Y1 LB1
  go_wp2
  exact bodyPost_ret (v := .tuple #[.slice none 0 0, .slice none 0 0, .int .i64 err]) (by simp [results, Try.results46, go_sem]) rfl (M3.no LB2.out)
set_option maxHeartbeats 800000 in
theorem rm_err2 (D E : Dr) {err : Int} (F1 F2 : Nat → Int) (h0 : D.ck = 0) (hz : E.ck = err) (hne : (err != 0) = true) (hs : D.Small) (ht : E.Small) (w : World) (hd : D.In w w.heap.size) (he : E.In w w.heap.size) :
    Calls Try.prog 46 #[.agg #[.int .i64 D.S, .int .i64 D.T, .slice D.A D.n D.c, .slice D.B D.m D.d, .int .i64 D.W, .int .i64 D.H, .slice D.C D.k D.e], .agg #[.int .i64 E.S, .int .i64 E.T, .slice E.A E.n E.c, .slice E.B E.m E.d, .int .i64 E.W, .int .i64 E.H, .slice E.C E.k E.e]] w (M3 w 0 F1 0 F2 err) := by
  have LB0 := Lib.hid (show Below w.heap.size w ((w.alloc (.cells #[.int .i64 D.S, .int .i64 D.T, .slice D.A D.n D.c, .slice D.B D.m D.d, .int .i64 D.W, .int .i64 D.H, .slice D.C D.k D.e] 30)).alloc (.cells #[.int .i64 E.S, .int .i64 E.T, .slice E.A E.n E.c, .slice E.B E.m E.d, .int .i64 E.W, .int .i64 E.H, .slice E.C E.k E.e] 30)) from ((Below.refl _ _).alloc (Nat.le_refl _) _).alloc (by simp) _)
  have X0 := Lib.hid (show DBox ((w.alloc (.cells #[.int .i64 D.S, .int .i64 D.T, .slice D.A D.n D.c, .slice D.B D.m D.d, .int .i64 D.W, .int .i64 D.H, .slice D.C D.k D.e] 30)).alloc (.cells #[.int .i64 E.S, .int .i64 E.T, .slice E.A E.n E.c, .slice E.B E.m E.d, .int .i64 E.W, .int .i64 E.H, .slice E.C E.k E.e] 30)) w.heap.size D from (DBox.new w D).alloc _)
  have Y0 : Hid (DBox ((w.alloc (.cells #[.int .i64 D.S, .int .i64 D.T, .slice D.A D.n D.c, .slice D.B D.m D.d, .int .i64 D.W, .int .i64 D.H, .slice D.C D.k D.e] 30)).alloc (.cells #[.int .i64 E.S, .int .i64 E.T, .slice E.A E.n E.c, .slice E.B E.m E.d, .int .i64 E.W, .int .i64 E.H, .slice E.C E.k E.e] 30)) (w.heap.size + 1) E) := Lib.hid (by
    have h := DBox.new (w.alloc (.cells #[.int .i64 D.S, .int .i64 D.T, .slice D.A D.n D.c, .slice D.B D.m D.d, .int .i64 D.W, .int .i64 D.H, .slice D.C D.k D.e] 30)) E
    simp only [World.size_alloc] at h
    exact h)
  have HC := Lib.hid (fun w' (h : Below w.heap.size w w') => rck_is h0 hs w' (hd.next h))
  have HC2 := Lib.hid (fun w' (h : Below w.heap.size w w') => rck_is hz ht w' (he.next h))
  clear hz hs hd h0 ht he
  go_enter Try.func46, Try.ntmps46
  obtain ⟨q0, q1, q2, q3, q4, q5, q6, q7⟩ := X0.out.all
  go_wp2_with fail
  clear q0 q1 q2 q3 q4 q5 q6 q7 
  refine (HC.out _ LB0.out).mono ?_
  rintro e w1 ⟨rfl, hb⟩
  have X1 := Lib.hid (X0.out.next hb)
  have Y1 := Lib.hid (Y0.out.next hb)
  have LB1 := Lib.hid (LB0.out.trans (hb.mono LB0.out.size))
  clear hb X0 Y0 LB0
  obtain ⟨r0, r1, r2, r3, r4, r5, r6, r7⟩ := Y1.out.all
  go_wp2_with fail
  clear  r0 r1 r2 r3 r4 r5 r6 r7
  refine (HC2.out _ LB1.out).mono ?_
  rintro e w2 ⟨rfl, hb⟩
  have X2 := Lib.hid (X1.out.next hb)
  have Y2 := Lib.hid (Y1.out.next hb)
  have LB2 := Lib.hid (LB1.out.trans (hb.mono LB1.out.size))
  clear hb X1 Y1 LB1
  obtain ⟨r0, r1, r2, r3, r4, r5, r6, r7⟩ := Y2.out.all
  go_wp2_with fail
  clear  r0 r1 r2 r3 r4 r5 r6 r7
  refine (HC2.out _ LB2.out).mono ?_
  rintro e w3 ⟨rfl, hb⟩
  have X3 := Lib.hid (X2.out.next hb)
  have Y3 := Lib.hid (Y2.out.next hb)
  have LB3 := Lib.hid (LB2.out.trans (hb.mono LB2.out.size))
  clear hb X2 Y2 LB2
  go_wp2
  exact bodyPost_ret (v := .tuple #[.slice none 0 0, .slice none 0 0, .int .i64 err]) (by simp [results, Try.results46, go_sem]) rfl (M3.no LB3.out)
set_option maxHeartbeats 800000 in
theorem rm_unused1 (D E : Dr) (F1 F2 : Nat → Int) (h0 : D.ck = 0) (hz : E.ck = 0) (hs : D.Small) (ht : E.Small) (w : World) (hd : D.In w w.heap.size) (he : E.In w w.heap.size)
    (ua : ∀ w', Below w.heap.size w w' → Calls Try.prog 82 #[.agg #[.int .i64 D.S, .int .i64 D.T, .slice D.A D.n D.c, .slice D.B D.m D.d, .int .i64 D.W, .int .i64 D.H, .slice D.C D.k D.e]] w' fun e w2 => e = .returned (.bool false) ∧ Below w'.heap.size w' w2) :
    Calls Try.prog 46 #[.agg #[.int .i64 D.S, .int .i64 D.T, .slice D.A D.n D.c, .slice D.B D.m D.d, .int .i64 D.W, .int .i64 D.H, .slice D.C D.k D.e], .agg #[.int .i64 E.S, .int .i64 E.T, .slice E.A E.n E.c, .slice E.B E.m E.d, .int .i64 E.W, .int .i64 E.H, .slice E.C E.k E.e]] w (M3 w 0 F1 0 F2 2) := by
  have LB0 := Lib.hid (show Below w.heap.size w ((w.alloc (.cells #[.int .i64 D.S, .int .i64 D.T, .slice D.A D.n D.c, .slice D.B D.m D.d, .int .i64 D.W, .int .i64 D.H, .slice D.C D.k D.e] 30)).alloc (.cells #[.int .i64 E.S, .int .i64 E.T, .slice E.A E.n E.c, .slice E.B E.m E.d, .int .i64 E.W, .int .i64 E.H, .slice E.C E.k E.e] 30)) from ((Below.refl _ _).alloc (Nat.le_refl _) _).alloc (by simp) _)
  have X0 := Lib.hid (show DBox ((w.alloc (.cells #[.int .i64 D.S, .int .i64 D.T, .slice D.A D.n D.c, .slice D.B D.m D.d, .int .i64 D.W, .int .i64 D.H, .slice D.C D.k D.e] 30)).alloc (.cells #[.int .i64 E.S, .int .i64 E.T, .slice E.A E.n E.c, .slice E.B E.m E.d, .int .i64 E.W, .int .i64 E.H, .slice E.C E.k E.e] 30)) w.heap.size D from (DBox.new w D).alloc _)
  have Y0 : Hid (DBox ((w.alloc (.cells #[.int .i64 D.S, .int .i64 D.T, .slice D.A D.n D.c, .slice D.B D.m D.d, .int .i64 D.W, .int .i64 D.H, .slice D.C D.k D.e] 30)).alloc (.cells #[.int .i64 E.S, .int .i64 E.T, .slice E.A E.n E.c, .slice E.B E.m E.d, .int .i64 E.W, .int .i64 E.H, .slice E.C E.k E.e] 30)) (w.heap.size + 1) E) := Lib.hid (by
    have h := DBox.new (w.alloc (.cells #[.int .i64 D.S, .int .i64 D.T, .slice D.A D.n D.c, .slice D.B D.m D.d, .int .i64 D.W, .int .i64 D.H, .slice D.C D.k D.e] 30)) E
    simp only [World.size_alloc] at h
    exact h)
  have HC := Lib.hid (fun w' (h : Below w.heap.size w w') => rck_is h0 hs w' (hd.next h))
  have HC2 := Lib.hid (fun w' (h : Below w.heap.size w w') => rck_is hz ht w' (he.next h))
  have UA := Lib.hid ua
  clear hz hs hd h0 ht he ua
  go_enter Try.func46, Try.ntmps46
  obtain ⟨q0, q1, q2, q3, q4, q5, q6, q7⟩ := X0.out.all
  go_wp2_with fail
  clear q0 q1 q2 q3 q4 q5 q6 q7 
  refine (HC.out _ LB0.out).mono ?_
  rintro e w1 ⟨rfl, hb⟩
  have X1 := Lib.hid (X0.out.next hb)
  have Y1 := Lib.hid (Y0.out.next hb)
  have LB1 := Lib.hid (LB0.out.trans (hb.mono LB0.out.size))
  clear hb X0 Y0 LB0
  obtain ⟨r0, r1, r2, r3, r4, r5, r6, r7⟩ := Y1.out.all
  go_wp2_with fail
  clear  r0 r1 r2 r3 r4 r5 r6 r7
  refine (HC2.out _ LB1.out).mono ?_
  rintro e w2 ⟨rfl, hb⟩
  have X2 := Lib.hid (X1.out.next hb)
  have Y2 := Lib.hid (Y1.out.next hb)
  have LB2 := Lib.hid (LB1.out.trans (hb.mono LB1.out.size))
  clear hb X1 Y1 LB1
  obtain ⟨q0, q1, q2, q3, q4, q5, q6, q7⟩ := X2.out.all
  go_wp2_with fail
  clear q0 q1 q2 q3 q4 q5 q6 q7 
  refine (UA.out _ LB2.out).mono ?_
  rintro e w3 ⟨rfl, hb⟩
  have X3 := Lib.hid (X2.out.next hb)
  have Y3 := Lib.hid (Y2.out.next hb)
  have LB3 := Lib.hid (LB2.out.trans (hb.mono LB2.out.size))
  clear hb X2 Y2 LB2
  go_wp2
  exact bodyPost_ret (v := .tuple #[.slice none 0 0, .slice none 0 0, .int .i64 2]) (by simp [results, Try.results46, go_sem]) rfl (M3.no LB3.out)
set_option maxHeartbeats 800000 in
theorem rm_unused2 (D E : Dr) (F1 F2 : Nat → Int) (h0 : D.ck = 0) (hz : E.ck = 0) (hs : D.Small) (ht : E.Small) (w : World) (hd : D.In w w.heap.size) (he : E.In w w.heap.size)
    (ua : ∀ w', Below w.heap.size w w' → Calls Try.prog 82 #[.agg #[.int .i64 D.S, .int .i64 D.T, .slice D.A D.n D.c, .slice D.B D.m D.d, .int .i64 D.W, .int .i64 D.H, .slice D.C D.k D.e]] w' fun e w2 => e = .returned (.bool true) ∧ Below w'.heap.size w' w2)
    (ub : ∀ w', Below w.heap.size w w' → Calls Try.prog 82 #[.agg #[.int .i64 E.S, .int .i64 E.T, .slice E.A E.n E.c, .slice E.B E.m E.d, .int .i64 E.W, .int .i64 E.H, .slice E.C E.k E.e]] w' fun e w2 => e = .returned (.bool false) ∧ Below w'.heap.size w' w2) :
    Calls Try.prog 46 #[.agg #[.int .i64 D.S, .int .i64 D.T, .slice D.A D.n D.c, .slice D.B D.m D.d, .int .i64 D.W, .int .i64 D.H, .slice D.C D.k D.e], .agg #[.int .i64 E.S, .int .i64 E.T, .slice E.A E.n E.c, .slice E.B E.m E.d, .int .i64 E.W, .int .i64 E.H, .slice E.C E.k E.e]] w (M3 w 0 F1 0 F2 2) := by
  have LB0 := Lib.hid (show Below w.heap.size w ((w.alloc (.cells #[.int .i64 D.S, .int .i64 D.T, .slice D.A D.n D.c, .slice D.B D.m D.d, .int .i64 D.W, .int .i64 D.H, .slice D.C D.k D.e] 30)).alloc (.cells #[.int .i64 E.S, .int .i64 E.T, .slice E.A E.n E.c, .slice E.B E.m E.d, .int .i64 E.W, .int .i64 E.H, .slice E.C E.k E.e] 30)) from ((Below.refl _ _).alloc (Nat.le_refl _) _).alloc (by simp) _)
  have X0 := Lib.hid (show DBox ((w.alloc (.cells #[.int .i64 D.S, .int .i64 D.T, .slice D.A D.n D.c, .slice D.B D.m D.d, .int .i64 D.W, .int .i64 D.H, .slice D.C D.k D.e] 30)).alloc (.cells #[.int .i64 E.S, .int .i64 E.T, .slice E.A E.n E.c, .slice E.B E.m E.d, .int .i64 E.W, .int .i64 E.H, .slice E.C E.k E.e] 30)) w.heap.size D from (DBox.new w D).alloc _)
  have Y0 : Hid (DBox ((w.alloc (.cells #[.int .i64 D.S, .int .i64 D.T, .slice D.A D.n D.c, .slice D.B D.m D.d, .int .i64 D.W, .int .i64 D.H, .slice D.C D.k D.e] 30)).alloc (.cells #[.int .i64 E.S, .int .i64 E.T, .slice E.A E.n E.c, .slice E.B E.m E.d, .int .i64 E.W, .int .i64 E.H, .slice E.C E.k E.e] 30)) (w.heap.size + 1) E) := Lib.hid (by
    have h := DBox.new (w.alloc (.cells #[.int .i64 D.S, .int .i64 D.T, .slice D.A D.n D.c, .slice D.B D.m D.d, .int .i64 D.W, .int .i64 D.H, .slice D.C D.k D.e] 30)) E
    simp only [World.size_alloc] at h
    exact h)
  have HC := Lib.hid (fun w' (h : Below w.heap.size w w') => rck_is h0 hs w' (hd.next h))
  have HC2 := Lib.hid (fun w' (h : Below w.heap.size w w') => rck_is hz ht w' (he.next h))
  have UA := Lib.hid ua
  have UB := Lib.hid ub
  clear hz hs hd h0 ht he ua ub
  go_enter Try.func46, Try.ntmps46
  obtain ⟨q0, q1, q2, q3, q4, q5, q6, q7⟩ := X0.out.all
  go_wp2_with fail
  clear q0 q1 q2 q3 q4 q5 q6 q7 
  refine (HC.out _ LB0.out).mono ?_
  rintro e w1 ⟨rfl, hb⟩
  have X1 := Lib.hid (X0.out.next hb)
  have Y1 := Lib.hid (Y0.out.next hb)
  have LB1 := Lib.hid (LB0.out.trans (hb.mono LB0.out.size))
  clear hb X0 Y0 LB0
  obtain ⟨r0, r1, r2, r3, r4, r5, r6, r7⟩ := Y1.out.all
  go_wp2_with fail
  clear  r0 r1 r2 r3 r4 r5 r6 r7
  refine (HC2.out _ LB1.out).mono ?_
  rintro e w2 ⟨rfl, hb⟩
  have X2 := Lib.hid (X1.out.next hb)
  have Y2 := Lib.hid (Y1.out.next hb)
  have LB2 := Lib.hid (LB1.out.trans (hb.mono LB1.out.size))
  clear hb X1 Y1 LB1
  obtain ⟨q0, q1, q2, q3, q4, q5, q6, q7⟩ := X2.out.all
  go_wp2_with fail
  clear q0 q1 q2 q3 q4 q5 q6 q7 
  refine (UA.out _ LB2.out).mono ?_
  rintro e w3 ⟨rfl, hb⟩
  have X3 := Lib.hid (X2.out.next hb)
  have Y3 := Lib.hid (Y2.out.next hb)
  have LB3 := Lib.hid (LB2.out.trans (hb.mono LB2.out.size))
  clear hb X2 Y2 LB2
  obtain ⟨r0, r1, r2, r3, r4, r5, r6, r7⟩ := Y3.out.all
  go_wp2_with fail
  clear  r0 r1 r2 r3 r4 r5 r6 r7
  refine (UB.out _ LB3.out).mono ?_
  rintro e w4 ⟨rfl, hb⟩
  have X4 := Lib.hid (X3.out.next hb)
  have Y4 := Lib.hid (Y3.out.next hb)
  have LB4 := Lib.hid (LB3.out.trans (hb.mono LB3.out.size))
  clear hb X3 Y3 LB3
  go_wp2
  exact bodyPost_ret (v := .tuple #[.slice none 0 0, .slice none 0 0, .int .i64 2]) (by simp [results, Try.results46, go_sem]) rfl (M3.no LB4.out)
set_option maxHeartbeats 1600000 in
theorem rm_main (D E : Dr) (h0 : D.ck = 0) (hz : E.ck = 0) (hs : D.Small) (ht : E.Small) (w : World) (hd : D.In w w.heap.size) (he : E.In w w.heap.size) (N1 : Nat) (G1 : Nat → Int) (e1 : Int) (N2 : Nat) (G2 : Nat → Int) (e2 : Int) (R : Dr) (re : Int) (z : Bool)
    (ua : ∀ w', Below w.heap.size w w' → Calls Try.prog 82 #[.agg #[.int .i64 D.S, .int .i64 D.T, .slice D.A D.n D.c, .slice D.B D.m D.d, .int .i64 D.W, .int .i64 D.H, .slice D.C D.k D.e]] w' fun e w2 => e = .returned (.bool true) ∧ Below w'.heap.size w' w2)
    (ub : ∀ w', Below w.heap.size w w' → Calls Try.prog 82 #[.agg #[.int .i64 E.S, .int .i64 E.T, .slice E.A E.n E.c, .slice E.B E.m E.d, .int .i64 E.W, .int .i64 E.H, .slice E.C E.k E.e]] w' fun e w2 => e = .returned (.bool true) ∧ Below w'.heap.size w' w2) (hm : MA w D E 85 36 N1 G1 e1 N2 G2 e2 R re) (hzz : dsm R E = z)
    (hST : e1 = 0 → e2 = 0 → D.S = E.S ∧ D.T = E.T)
    (Post : Ending → World → Prop) (hbad : bad e1 e2 re z = true → ∀ e w', M3 w 0 G1 0 G2 6 e w' → Post e w') (hgood : bad e1 e2 re z = false → ∀ e w', M3 w N1 G1 N2 G2 0 e w' → Post e w') :
    Calls Try.prog 46 #[.agg #[.int .i64 D.S, .int .i64 D.T, .slice D.A D.n D.c, .slice D.B D.m D.d, .int .i64 D.W, .int .i64 D.H, .slice D.C D.k D.e], .agg #[.int .i64 E.S, .int .i64 E.T, .slice E.A E.n E.c, .slice E.B E.m E.d, .int .i64 E.W, .int .i64 E.H, .slice E.C E.k E.e]] w (PO Post) := by
  have LB0 := Lib.hid (show Below w.heap.size w ((w.alloc (.cells #[.int .i64 D.S, .int .i64 D.T, .slice D.A D.n D.c, .slice D.B D.m D.d, .int .i64 D.W, .int .i64 D.H, .slice D.C D.k D.e] 30)).alloc (.cells #[.int .i64 E.S, .int .i64 E.T, .slice E.A E.n E.c, .slice E.B E.m E.d, .int .i64 E.W, .int .i64 E.H, .slice E.C E.k E.e] 30)) from ((Below.refl _ _).alloc (Nat.le_refl _) _).alloc (by simp) _)
  have X0 := Lib.hid (show DBox ((w.alloc (.cells #[.int .i64 D.S, .int .i64 D.T, .slice D.A D.n D.c, .slice D.B D.m D.d, .int .i64 D.W, .int .i64 D.H, .slice D.C D.k D.e] 30)).alloc (.cells #[.int .i64 E.S, .int .i64 E.T, .slice E.A E.n E.c, .slice E.B E.m E.d, .int .i64 E.W, .int .i64 E.H, .slice E.C E.k E.e] 30)) w.heap.size D from (DBox.new w D).alloc _)
  have Y0 : Hid (DBox ((w.alloc (.cells #[.int .i64 D.S, .int .i64 D.T, .slice D.A D.n D.c, .slice D.B D.m D.d, .int .i64 D.W, .int .i64 D.H, .slice D.C D.k D.e] 30)).alloc (.cells #[.int .i64 E.S, .int .i64 E.T, .slice E.A E.n E.c, .slice E.B E.m E.d, .int .i64 E.W, .int .i64 E.H, .slice E.C E.k E.e] 30)) (w.heap.size + 1) E) := Lib.hid (by
    have h := DBox.new (w.alloc (.cells #[.int .i64 D.S, .int .i64 D.T, .slice D.A D.n D.c, .slice D.B D.m D.d, .int .i64 D.W, .int .i64 D.H, .slice D.C D.k D.e] 30)) E
    simp only [World.size_alloc] at h
    exact h)
  have HC := Lib.hid (fun w' (h : Below w.heap.size w w') => rck_is h0 hs w' (hd.next h))
  have HC2 := Lib.hid (fun w' (h : Below w.heap.size w w') => rck_is hz ht w' (he.next h))
  have UA := Lib.hid ua
  have UB := Lib.hid ub
  have HM := Lib.hid hm
  have HE := Lib.hid (fun w' (h : Below w.heap.size w w') => he.next h)
  have HZ := Lib.hid hzz
  have HBad := Lib.hid hbad
  have HGood := Lib.hid hgood
  have HST := Lib.hid hST
  clear hz hs hd h0 ht he ua ub hm hzz hbad hgood hST
  go_enter Try.func46, Try.ntmps46
  obtain ⟨q0, q1, q2, q3, q4, q5, q6, q7⟩ := X0.out.all
  go_wp2_with fail
  clear q0 q1 q2 q3 q4 q5 q6 q7 
  refine (HC.out _ LB0.out).mono ?_
  rintro e w1 ⟨rfl, hb⟩
  have X1 := Lib.hid (X0.out.next hb)
  have Y1 := Lib.hid (Y0.out.next hb)
  have LB1 := Lib.hid (LB0.out.trans (hb.mono LB0.out.size))
  clear hb X0 Y0 LB0
  obtain ⟨r0, r1, r2, r3, r4, r5, r6, r7⟩ := Y1.out.all
  go_wp2_with fail
  clear  r0 r1 r2 r3 r4 r5 r6 r7
  refine (HC2.out _ LB1.out).mono ?_
  rintro e w2 ⟨rfl, hb⟩
  have X2 := Lib.hid (X1.out.next hb)
  have Y2 := Lib.hid (Y1.out.next hb)
  have LB2 := Lib.hid (LB1.out.trans (hb.mono LB1.out.size))
  clear hb X1 Y1 LB1
  obtain ⟨q0, q1, q2, q3, q4, q5, q6, q7⟩ := X2.out.all
  go_wp2_with fail
  clear q0 q1 q2 q3 q4 q5 q6 q7 
  refine (UA.out _ LB2.out).mono ?_
  rintro e w3 ⟨rfl, hb⟩
  have X3 := Lib.hid (X2.out.next hb)
  have Y3 := Lib.hid (Y2.out.next hb)
  have LB3 := Lib.hid (LB2.out.trans (hb.mono LB2.out.size))
  clear hb X2 Y2 LB2
  obtain ⟨r0, r1, r2, r3, r4, r5, r6, r7⟩ := Y3.out.all
  go_wp2_with fail
  clear  r0 r1 r2 r3 r4 r5 r6 r7
  refine (UB.out _ LB3.out).mono ?_
  rintro e w4 ⟨rfl, hb⟩
  have X4 := Lib.hid (X3.out.next hb)
  have Y4 := Lib.hid (Y3.out.next hb)
  have LB4 := Lib.hid (LB3.out.trans (hb.mono LB3.out.size))
  clear hb X3 Y3 LB3
  obtain ⟨q0, q1, q2, q3, q4, q5, q6, q7⟩ := X4.out.all
  obtain ⟨r0, r1, r2, r3, r4, r5, r6, r7⟩ := Y4.out.all
  go_wp2_with fail
  clear q0 q1 q2 q3 q4 q5 q6 q7 r0 r1 r2 r3 r4 r5 r6 r7
  refine (HM.out.t1 _ LB4.out).mono ?_
  rintro e w5 ⟨A1, c1, rfl, -, hr1, hb⟩
  have X5 := Lib.hid (X4.out.next hb)
  have Y5 := Lib.hid (Y4.out.next hb)
  have LB5 := Lib.hid (LB4.out.trans (hb.mono LB4.out.size))
  clear hb X4 Y4 LB4
  have V1 := Lib.hid (show LRow w5 A1 N1 G1 from fun h => by obtain ⟨k, e, _, hr⟩ := hr1 h; exact ⟨k, e, hr⟩)
  clear hr1
  obtain ⟨q0, q1, q2, q3, q4, q5, q6, q7⟩ := X5.out.all
  obtain ⟨r0, r1, r2, r3, r4, r5, r6, r7⟩ := Y5.out.all
  go_wp2_with fail
  clear q0 q1 q2 q3 q4 q5 q6 q7 r0 r1 r2 r3 r4 r5 r6 r7
  refine (HM.out.t2 _ LB5.out).mono ?_
  rintro e w6 ⟨A2, c2, rfl, -, hr2, hb⟩
  have X6 := Lib.hid (X5.out.next hb)
  have Y6 := Lib.hid (Y5.out.next hb)
  have LB6 := Lib.hid (LB5.out.trans (hb.mono LB5.out.size))
  have V1a := Lib.hid (V1.out.next hb)
  clear hb V1 X5 Y5 LB5
  have V2 := Lib.hid (show LRow w6 A2 N2 G2 from fun h => by obtain ⟨k, e, _, hr⟩ := hr2 h; exact ⟨k, e, hr⟩)
  clear hr2
  by_cases h1 : e1 = 0
  · subst h1
    by_cases h2 : e2 = 0
    · subst h2
      obtain ⟨hS, hT⟩ := HST.out rfl rfl
      have dS : (D.S != E.S) = false := by rw [hS]; simp
      have dT : (D.T != E.T) = false := by rw [hT]; simp
      have dS' : (D.S == E.S) = true := by rw [hS]; simp
      have dT' : (D.T == E.T) = true := by rw [hT]; simp
      clear hS hT HST
      obtain ⟨q0, q1, q2, q3, q4, q5, q6, q7⟩ := X6.out.all
      obtain ⟨r0, r1, r2, r3, r4, r5, r6, r7⟩ := Y6.out.all
      go_wp2_with fail
      clear q0 q1 q2 q3 q4 q5 q6 q7 r0 r1 r2 r3 r4 r5 r6 r7
      refine (HM.out.rn rfl rfl w6 A1 A2 c1 c2 LB6.out V1a.out.holds V2.out.holds).mono ?_
      rintro e w7 ⟨A, ca, B, cb, C, cc, rfl, hin, hb⟩
      have X7 := Lib.hid (X6.out.next hb)
      have Y7 := Lib.hid (Y6.out.next hb)
      have LB7 := Lib.hid (LB6.out.trans (hb.mono LB6.out.size))
      have V1b := Lib.hid (V1a.out.next hb)
      have V2b := Lib.hid (V2.out.next hb)
      clear hb V1a V2 X6 Y6 LB6
      have IN6 := Lib.hid hin
      clear hin
      by_cases h3 : re = 0
      · subst h3
        have X8 := Lib.hid (DBox.new w7 (R.at_ A ca B cb C cc))
        have hb7 : Below w7.heap.size w7 (w7.alloc (.cells #[.int .i64 R.S, .int .i64 R.T, .slice A R.n ca, .slice B R.m cb, .int .i64 R.W, .int .i64 R.H, .slice C R.k cc] 30)) := (Below.refl _ _).alloc (Nat.le_refl _) _
        have Y8 := Lib.hid (Y7.out.next hb7)
        have LB8 := Lib.hid (LB7.out.trans (hb7.mono LB7.out.size))
        have V1c := Lib.hid (V1b.out.next hb7)
        have V2c := Lib.hid (V2b.out.next hb7)
        have IN7 := Lib.hid (IN6.out.next hb7)
        have HSM : Hid (∀ v, v = w7.alloc (.cells #[.int .i64 R.S, .int .i64 R.T, .slice A R.n ca, .slice B R.m cb, .int .i64 R.W, .int .i64 R.H, .slice C R.k cc] 30) → Calls Try.prog 30 #[.agg #[.int .i64 R.S, .int .i64 R.T, .slice A R.n ca, .slice B R.m cb, .int .i64 R.W, .int .i64 R.H, .slice C R.k cc], .agg #[.int .i64 E.S, .int .i64 E.T, .slice E.A E.n E.c, .slice E.B E.m E.d, .int .i64 E.W, .int .i64 E.H, .slice E.C E.k E.e]] v fun e w' => e = .returned (.bool z) ∧ Below v.heap.size v w') := Lib.hid (by
          rintro v rfl
          have h := rdsame_any (R.at_ A ca B cb C cc) E _ ⟨HM.out.sm.1, HM.out.sm.2, HM.out.sm.3⟩ IN7.out (HE.out _ LB8.out)
          rw [show dsm (R.at_ A ca B cb C cc) E = z from HZ.out] at h
          exact h)
        have HS7 := Lib.hid (HSM.out _ rfl)
        clear hb7 HSM IN6 IN7 X7 Y7 LB7 V1b V2b
        obtain ⟨q0, q1, q2, q3, q4, q5, q6, q7⟩ := X8.out.all
        obtain ⟨r0, r1, r2, r3, r4, r5, r6, r7⟩ := Y8.out.all
        dsimp only [Dr.at_] at q0 q1 q2 q3 q4 q5 q6
        go_wp2_with fail
        clear q0 q1 q2 q3 q4 q5 q6 q7 r0 r1 r2 r3 r4 r5 r6 r7
        refine HS7.out.mono ?_
        rintro e w9 ⟨rfl, hb⟩
        have LB9 := Lib.hid (LB8.out.trans (hb.mono LB8.out.size))
        have V1d := Lib.hid (V1c.out.next hb)
        have V2d := Lib.hid (V2c.out.next hb)
        clear hb
        cases z
        · go_wp2
          exact bodyPost_ret (v := .tuple #[.slice none 0 0, .slice none 0 0, .int .i64 6]) (by simp [results, Try.results46, go_sem]) rfl (HBad.out rfl _ _ (M3.no LB9.out))
        · go_wp2
          exact bodyPost_ret (v := .tuple #[.slice A1 N1 c1, .slice A2 N2 c2, .int .i64 0]) (by simp [results, Try.results46, go_sem]) rfl (HGood.out rfl _ _ ⟨A1, c1, A2, c2, rfl, V1d.out, V2d.out, LB9.out⟩)
      · have hne : (re != 0) = true := by simpa using h3
        have HB := Lib.hid (show bad 0 0 re z = true by simp [bad, h3])
        have LBZ := Lib.hid (LB7.out.alloc LB7.out.size (.cells #[.int .i64 R.S, .int .i64 R.T, .slice A R.n ca, .slice B R.m cb, .int .i64 R.W, .int .i64 R.H, .slice C R.k cc] 30))
        clear h3
        go_wp2
        exact bodyPost_ret (v := .tuple #[.slice none 0 0, .slice none 0 0, .int .i64 6]) (by simp [results, Try.results46, go_sem]) rfl (HBad.out HB.out _ _ (M3.no LBZ.out))
    · have hne : (e2 != 0) = true := by simpa using h2
      have HB := Lib.hid (show bad 0 e2 re z = true by simp [bad, h2])
      clear h2
      go_wp2
      exact bodyPost_ret (v := .tuple #[.slice none 0 0, .slice none 0 0, .int .i64 6]) (by simp [results, Try.results46, go_sem]) rfl (HBad.out HB.out _ _ (M3.no LB6.out))
  · have hne : (e1 != 0) = true := by simpa using h1
    have HB := Lib.hid (show bad e1 e2 re z = true by simp [bad, h1])
    clear h1
    go_wp2
    exact bodyPost_ret (v := .tuple #[.slice none 0 0, .slice none 0 0, .int .i64 6]) (by simp [results, Try.results46, go_sem]) rfl (HBad.out HB.out _ _ (M3.no LB6.out))
end Go.Proofs.Ytbafhdinalapoaa
