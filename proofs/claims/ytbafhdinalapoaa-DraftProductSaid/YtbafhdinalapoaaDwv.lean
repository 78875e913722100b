/- The program's Weave and Lift. -/
import Derived.Test.YtbafhdinalapoaaDwa
namespace Go.Proofs.Ytbafhdinalapoaa
open Go.RowKit
set_option linter.unusedVariables false
set_option linter.unusedSimpArgs false
set_option maxRecDepth 100000

set_option maxHeartbeats 800000 in
theorem weave_err {D : Dr} {err : Int} (hz : D.ck = err) (hne : (err != 0) = true) (hs : D.Small) (w : World) (hd : D.In w w.heap.size) :
    Calls Try.prog 14 #[.agg #[.int .i64 D.S, .int .i64 D.T, .slice D.A D.n D.c, .slice D.B D.m D.d, .int .i64 D.W, .int .i64 D.H, .slice D.C D.k D.e]] w (ErrGrid w err) := by
  have HC := Lib.hid (dck_is hz hs _ (dstart2 hd))
  clear hz hs hd
  go_enter Try.func14, Try.ntmps14
  go_wp2_with fail
  refine HC.out.mono ?_
  rintro e w1 ⟨rfl, hb1⟩
  obtain ⟨hbox1, hbox2, hbel1, hsz1⟩ := dafter2 hb1
  clear hb1
  obtain ⟨p0, p1, p2, p3, p4, p5, p6⟩ := hbox2.all
  go_wp2
  refine bodyPost_ret (v := .tuple #[.agg #[.int .i64 0, .int .i64 0, .slice none 0 0], .int .i64 err]) (by simp [results, Try.results14, go_sem, p0, p1, p2]) rfl ?_
  exact fin_err (by omega) hbel1

set_option maxHeartbeats 800000 in
theorem weave_ok {D : Dr} {P : PD} (hI : D.Is P) (hP : P.Ok) (w : World) (hd : D.In w w.heap.size) :
    Calls Try.prog 14 #[.agg #[.int .i64 D.S, .int .i64 D.T, .slice D.A D.n D.c, .slice D.B D.m D.d, .int .i64 D.W, .int .i64 D.H, .slice D.C D.k D.e]] w (OkGrid w P.n P.m (fun i => P.L (P.G (i / P.n)) (P.F (i % P.n)))) := by
  have hmf := mk_fn
  have HC := Lib.hid (dck_is (hI.ck hP) (hI.small hP) _ (dstart2 hd))
  have HD := Lib.hid hd
  have HI := Lib.hid hI
  have HP := Lib.hid hP
  obtain ⟨p1, p2, p3, p4, p5, p6, p7, p8, pf, pg⟩ := hP
  clear hI hd pf pg
  go_enter Try.func14, Try.ntmps14
  go_wp2_with fail
  refine HC.out.mono ?_
  rintro e w1 ⟨rfl, hb1⟩
  obtain ⟨hbox1, hbox2, hbel1, hsz1⟩ := dafter2 hb1
  clear hb1 HC
  obtain ⟨q0, q1, q2, q3, q4, q5, q6, q7⟩ := hbox1.all
  have hDV := Lib.hid (show DV w1 w.heap.size D P from ⟨hbox1, (HD.out.below hbel1).more hbel1.size, HI.out, HP.out⟩)
  clear hbox1
  go_wp2_with fail
  rw [HI.out.n, HI.out.m]
  refine (dbuild_any P.n P.m (by omega) (by omega) (by omega) (by omega) 58 _ _ _ (weave_clo hDV.out) (Go.Proofs.enters_of Try.func58 (by kernel_rfl) rfl)).mono ?_
  rintro e w2 ⟨k, rfl, hk, hrow, hb2⟩
  have hbox3 := hbox2.below hb2 (by omega)
  obtain ⟨p0', p1', p2', p3', p4', p5', p6'⟩ := hbox3.all
  go_wp2
  refine bodyPost_ret (v := .tuple #[.agg #[.int .i64 P.n, .int .i64 P.m, .slice (some ⟨k, 0, none⟩) (P.n * P.m) (P.n * P.m)], .int .i64 0]) (by simp [results, Try.results14, go_sem, p0', p1', p2']) rfl ?_
  exact fin_ok (by omega) (by omega) hrow (hbel1.trans (hb2.mono hbel1.size))

set_option maxHeartbeats 800000 in
theorem lift_err {D : Dr} {err : Int} (hz : D.ck = err) (hne : (err != 0) = true) (hs : D.Small) (w : World) (hd : D.In w w.heap.size) :
    Calls Try.prog 27 #[.agg #[.int .i64 D.S, .int .i64 D.T, .slice D.A D.n D.c, .slice D.B D.m D.d, .int .i64 D.W, .int .i64 D.H, .slice D.C D.k D.e]] w (ErrGrid w err) := by
  have HC := Lib.hid (dck_is hz hs _ (dstart2 hd))
  clear hz hs hd
  go_enter Try.func27, Try.ntmps27
  go_wp2_with fail
  refine HC.out.mono ?_
  rintro e w1 ⟨rfl, hb1⟩
  obtain ⟨hbox1, hbox2, hbel1, hsz1⟩ := dafter2 hb1
  clear hb1
  obtain ⟨p0, p1, p2, p3, p4, p5, p6⟩ := hbox2.all
  go_wp2
  refine bodyPost_ret (v := .tuple #[.agg #[.int .i64 0, .int .i64 0, .slice none 0 0], .int .i64 err]) (by simp [results, Try.results27, go_sem, p0, p1, p2]) rfl ?_
  exact fin_err (by omega) hbel1

set_option maxHeartbeats 800000 in
theorem lift_ok {D : Dr} {P : PD} (hI : D.Is P) (hP : P.Ok) (w : World) (hd : D.In w w.heap.size) :
    Calls Try.prog 27 #[.agg #[.int .i64 D.S, .int .i64 D.T, .slice D.A D.n D.c, .slice D.B D.m D.d, .int .i64 D.W, .int .i64 D.H, .slice D.C D.k D.e]] w (OkGrid w P.S P.m (fun i => P.L (P.G (i / P.S)) (i % P.S))) := by
  have hmf := mk_fn
  have HC := Lib.hid (dck_is (hI.ck hP) (hI.small hP) _ (dstart2 hd))
  have HD := Lib.hid hd
  have HI := Lib.hid hI
  have HP := Lib.hid hP
  obtain ⟨p1, p2, p3, p4, p5, p6, p7, p8, pf, pg⟩ := hP
  clear hI hd pf pg
  go_enter Try.func27, Try.ntmps27
  go_wp2_with fail
  refine HC.out.mono ?_
  rintro e w1 ⟨rfl, hb1⟩
  obtain ⟨hbox1, hbox2, hbel1, hsz1⟩ := dafter2 hb1
  clear hb1 HC
  obtain ⟨q0, q1, q2, q3, q4, q5, q6, q7⟩ := hbox1.all
  have hDV := Lib.hid (show DV w1 w.heap.size D P from ⟨hbox1, (HD.out.below hbel1).more hbel1.size, HI.out, HP.out⟩)
  clear hbox1
  go_wp2_with fail
  rw [HI.out.S, HI.out.m]
  refine (dbuild_any P.S P.m (by omega) (by omega) (by omega) (by omega) 67 _ _ _ (lift_clo hDV.out) (Go.Proofs.enters_of Try.func67 (by kernel_rfl) rfl)).mono ?_
  rintro e w2 ⟨k, rfl, hk, hrow, hb2⟩
  have hbox3 := hbox2.below hb2 (by omega)
  obtain ⟨p0', p1', p2', p3', p4', p5', p6'⟩ := hbox3.all
  go_wp2
  refine bodyPost_ret (v := .tuple #[.agg #[.int .i64 P.S, .int .i64 P.m, .slice (some ⟨k, 0, none⟩) (P.S * P.m) (P.S * P.m)], .int .i64 0]) (by simp [results, Try.results27, go_sem, p0', p1', p2']) rfl ?_
  exact fin_ok (by omega) (by omega) hrow (hbel1.trans (hb2.mono hbel1.size))
end Go.Proofs.Ytbafhdinalapoaa
