/- The reference's Weave and Lift where they refuse; both sides. -/
import Derived.Test.YtbafhdinalapoaaRlf
import Derived.Test.YtbafhdinalapoaaDwv
namespace Go.Proofs.Ytbafhdinalapoaa
open Go.RowKit
set_option linter.unusedVariables false
set_option linter.unusedSimpArgs false
set_option maxRecDepth 100000

/-- A grid and an error came back; the grid's cells lie in a new row of the call's own. -/
def Out (w : World) (W H : Int) (n : Nat) (F : Nat → Bool) (err : Int) (e : Ending) (w' : World) : Prop :=
  ∃ A c, e = .returned (.tuple #[.agg #[.int .i64 W, .int .i64 H, .slice A n c], .int .i64 err]) ∧ (0 < n → ∃ k, A = some ⟨k, 0, none⟩ ∧ w.heap.size ≤ k ∧ Row w' k n F) ∧ Below w.heap.size w w'
theorem OkGrid.out {w w' : World} {W H : Nat} {F : Nat → Bool} {e : Ending} (h : OkGrid w W H F e w') : Out w W H (W * H) F 0 e w' := by
  obtain ⟨k, he, hk, hr, hb⟩ := h
  exact ⟨_, _, he, fun _ => ⟨k, rfl, hk, hr⟩, hb⟩
theorem ErrGrid.out {w w' : World} {err : Int} {e : Ending} (h : ErrGrid w err e w') : Out w 0 0 0 (fun _ => false) err e w' :=
  ⟨_, _, h.1, fun h => absurd h (by omega), h.2⟩

set_option maxHeartbeats 800000 in
theorem rweave_err {D : Dr} {err : Int} (hz : D.ck = err) (hne : (err != 0) = true) (hs : D.Small) (w : World) (hd : D.In w w.heap.size) :
    Calls Try.prog 26 #[.agg #[.int .i64 D.S, .int .i64 D.T, .slice D.A D.n D.c, .slice D.B D.m D.d, .int .i64 D.W, .int .i64 D.H, .slice D.C D.k D.e]] w (ErrGrid w err) := by
  have HS := Lib.hid hs
  have HZ := Lib.hid hz
  have HC := Lib.hid (rck_is hz hs _ (dstart2 hd))
  have HD := Lib.hid hd
  clear hz hs hd
  go_enter Try.func26, Try.ntmps26
  go_wp2_with fail
  refine HC.out.mono ?_
  rintro e w1 ⟨rfl, hb1⟩
  obtain ⟨hbox1, hbox2, hbel1, hsz1⟩ := dafter2 hb1
  clear hb1 HC
  obtain ⟨q0, q1, q2, q3, q4, q5, q6, q7⟩ := hbox1.all
  have X2 := Lib.hid hbox2
  have L1 := Lib.hid hbel1
  clear hbox1 hbox2 hbel1
  go_wp2_with fail
  refine (rck_is HZ.out HS.out w1 ((HD.out.below L1.out).more L1.out.size)).mono ?_
  rintro e w2 ⟨rfl, hb2⟩
  have Y2 := Lib.hid (X2.out.below hb2 (by omega))
  obtain ⟨p0, p1, p2, p3, p4, p5, p6⟩ := (X2.out.below hb2 (by omega)).all
  have L2' := Lib.hid (L1.out.trans (hb2.mono L1.out.size))
  clear hb2 L1 X2
  go_wp2
  refine bodyPost_ret (v := .tuple #[.agg #[.int .i64 0, .int .i64 0, .slice none 0 0], .int .i64 err]) (by simp [results, Try.results26, go_sem, p0, p1, p2]) rfl ?_
  exact fin_err (by omega) L2'.out

set_option maxHeartbeats 800000 in
theorem rlift_err {D : Dr} {err : Int} (hz : D.ck = err) (hne : (err != 0) = true) (hs : D.Small) (w : World) (hd : D.In w w.heap.size) :
    Calls Try.prog 28 #[.agg #[.int .i64 D.S, .int .i64 D.T, .slice D.A D.n D.c, .slice D.B D.m D.d, .int .i64 D.W, .int .i64 D.H, .slice D.C D.k D.e]] w (ErrGrid w err) := by
  have HS := Lib.hid hs
  have HZ := Lib.hid hz
  have HC := Lib.hid (rck_is hz hs _ (dstart2 hd))
  have HD := Lib.hid hd
  clear hz hs hd
  go_enter Try.func28, Try.ntmps28
  go_wp2_with fail
  refine HC.out.mono ?_
  rintro e w1 ⟨rfl, hb1⟩
  obtain ⟨hbox1, hbox2, hbel1, hsz1⟩ := dafter2 hb1
  clear hb1 HC
  obtain ⟨q0, q1, q2, q3, q4, q5, q6, q7⟩ := hbox1.all
  have X2 := Lib.hid hbox2
  have L1 := Lib.hid hbel1
  clear hbox1 hbox2 hbel1
  go_wp2_with fail
  refine (rck_is HZ.out HS.out w1 ((HD.out.below L1.out).more L1.out.size)).mono ?_
  rintro e w2 ⟨rfl, hb2⟩
  have Y2 := Lib.hid (X2.out.below hb2 (by omega))
  obtain ⟨p0, p1, p2, p3, p4, p5, p6⟩ := (X2.out.below hb2 (by omega)).all
  have L2' := Lib.hid (L1.out.trans (hb2.mono L1.out.size))
  clear hb2 L1 X2
  go_wp2
  refine bodyPost_ret (v := .tuple #[.agg #[.int .i64 0, .int .i64 0, .slice none 0 0], .int .i64 err]) (by simp [results, Try.results28, go_sem, p0, p1, p2]) rfl ?_
  exact fin_err (by omega) L2'.out

set_option maxHeartbeats 800000 in
theorem rweave_ok {D : Dr} {P : PD} (hI : D.Is P) (hP : P.Ok) (w : World) (hd : D.In w w.heap.size) :
    Calls Try.prog 26 #[.agg #[.int .i64 D.S, .int .i64 D.T, .slice D.A D.n D.c, .slice D.B D.m D.d, .int .i64 D.W, .int .i64 D.H, .slice D.C D.k D.e]] w (OkGrid w P.n P.m (fun i => P.L (P.G (i / P.n)) (P.F (i % P.n)))) := by
  have HC := Lib.hid (rck_is (hI.ck hP) (hI.small hP) _ (dstart2 hd))
  have HD := Lib.hid hd
  have HI := Lib.hid hI
  have HP := Lib.hid hP
  clear hI hd hP
  go_enter Try.func26, Try.ntmps26
  go_wp2_with fail
  refine HC.out.mono ?_
  rintro e w1 ⟨rfl, hb1⟩
  obtain ⟨hbox1, hbox2, hbel1, hsz1⟩ := dafter2 hb1
  clear hb1 HC
  obtain ⟨q0, q1, q2, q3, q4, q5, q6, q7⟩ := hbox1.all
  have X2 := Lib.hid hbox2
  have L1 := Lib.hid hbel1
  clear hbox1 hbox2 hbel1
  go_wp2_with fail
  refine (woven_any HI.out HP.out w1 ((HD.out.below L1.out).more L1.out.size)).mono ?_
  rintro e w2 ⟨k, rfl, hk, hrow, hb2⟩
  obtain ⟨p0, p1, p2, p3, p4, p5, p6⟩ := (X2.out.below hb2 (by omega)).all
  have L2' := Lib.hid (L1.out.trans (hb2.mono L1.out.size))
  have HR := Lib.hid hrow
  clear hb2 L1 X2 hrow
  go_wp2
  refine bodyPost_ret (v := .tuple #[.agg #[.int .i64 P.n, .int .i64 P.m, .slice (some ⟨k, 0, none⟩) (P.n * P.m) (P.n * P.m)], .int .i64 0]) (by simp [results, Try.results26, go_sem, p0, p1, p2]) rfl ?_
  exact fin_ok (by omega) (by omega) HR.out L2'.out

/-- Two functions of a draft, called at any later world, hand the same grid and error back. -/
def DGets (w : World) (k : Nat) (D : Dr) (W H : Int) (n : Nat) (F : Nat → Bool) (err : Int) : Prop :=
  ∀ w', Below w.heap.size w w' → Calls Try.prog k #[.agg #[.int .i64 D.S, .int .i64 D.T, .slice D.A D.n D.c, .slice D.B D.m D.d, .int .i64 D.W, .int .i64 D.H, .slice D.C D.k D.e]] w' (Out w' W H n F err)
theorem weave_pair {D : Dr} (hs : D.Small) (w : World) (hd : D.In w w.heap.size) : ∃ (V U : Int) (l : Nat) (F : Nat → Bool) (err : Int), l ≤ 4200 ∧ DGets w 14 D V U l F err ∧ DGets w 26 D V U l F err := by
  by_cases h0 : D.ck = 0
  · obtain ⟨hP, hI⟩ := Dr.valid h0
    have h1 := Nat.mul_le_mul hP.n1 hP.m1
    exact ⟨_, _, _, _, _, by omega, fun w' hb => (weave_ok hI hP w' (hd.next hb)).mono fun _ _ h => h.out, fun w' hb => (rweave_ok hI hP w' (hd.next hb)).mono fun _ _ h => h.out⟩
  · have hne : (D.ck != 0) = true := by simp [h0]
    exact ⟨_, _, _, _, _, by omega, fun w' hb => (weave_err rfl hne hs w' (hd.next hb)).mono fun _ _ h => h.out, fun w' hb => (rweave_err rfl hne hs w' (hd.next hb)).mono fun _ _ h => h.out⟩
theorem lift_pair {D : Dr} (hs : D.Small) (w : World) (hd : D.In w w.heap.size) : ∃ (V U : Int) (l : Nat) (F : Nat → Bool) (err : Int), l ≤ 4200 ∧ DGets w 27 D V U l F err ∧ DGets w 28 D V U l F err := by
  by_cases h0 : D.ck = 0
  · obtain ⟨hP, hI⟩ := Dr.valid h0
    have h1 := Nat.mul_le_mul hP.s1 hP.m1
    exact ⟨_, _, _, _, _, by omega, fun w' hb => (lift_ok hI hP w' (hd.next hb)).mono fun _ _ h => h.out, fun w' hb => (rlift_any hI hP w' (hd.next hb)).mono fun _ _ h => h.out⟩
  · have hne : (D.ck != 0) = true := by simp [h0]
    exact ⟨_, _, _, _, _, by omega, fun w' hb => (lift_err rfl hne hs w' (hd.next hb)).mono fun _ _ h => h.out, fun w' hb => (rlift_err rfl hne hs w' (hd.next hb)).mono fun _ _ h => h.out⟩
end Go.Proofs.Ytbafhdinalapoaa
