/- The reference's Renumber, where it refuses. -/
import Derived.Test.YtbafhdinalapoaaRnw
namespace Go.Proofs.Ytbafhdinalapoaa
open Go.RowKit
set_option linter.unusedVariables false
set_option linter.unusedSimpArgs false
set_option maxRecDepth 100000

open L2 (plc)
theorem each_is {A : Option Addr} {m c N : Nat} {f : Nat → Int} {u : Bool} {w : World} (hp : prm m f N = u) (hr : L2.Holds w w.heap.size A m f) (hm : m ≤ 5000) (hN : N ≤ 1000) :
    Calls Try.prog 40 #[.slice A m c, .int .i64 N] w fun e w' => e = .returned (.bool u) ∧ Below w.heap.size w w' := by
  have h := each_any A m c N f w hr hm hN
  rw [hp] at h
  exact h

set_option maxHeartbeats 800000 in
theorem rrenum_err {D : Dr} {err : Int} (hz : D.ck = err) (hne : (err != 0) = true) (hs : D.Small) (A1 A2 : Option Addr) (n1 n2 c1 c2 : Nat) (w : World) (hd : D.In w w.heap.size) :
    Calls Try.prog 36 #[.agg #[.int .i64 D.S, .int .i64 D.T, .slice D.A D.n D.c, .slice D.B D.m D.d, .int .i64 D.W, .int .i64 D.H, .slice D.C D.k D.e], .slice A1 n1 c1, .slice A2 n2 c2] w (ErrDr w err) := by
  have HC := Lib.hid (rck_is hz hs _ (dstart3 hd))
  have HC2 := Lib.hid (fun v (h : D.In v v.heap.size) => rck_is hz hs v h)
  have HD := Lib.hid hd
  clear hz hs hd
  go_enter Try.func36, Try.ntmps36
  go_wp2_with fail
  refine HC.out.mono ?_
  rintro e w1 ⟨rfl, hb1⟩
  obtain ⟨hbox1, hbox2, hbel1, hsz1⟩ := dafter3 hb1
  clear hb1
  have X1 := Lib.hid hbox1
  have Z1 := Lib.hid hbox2
  have L1 := Lib.hid hbel1
  clear hbox1 hbox2 hbel1
  obtain ⟨q0, q1, q2, q3, q4, q5, q6, q7⟩ := X1.out.all
  go_wp2_with fail
  clear q0 q1 q2 q3 q4 q5 q6 q7
  refine (HC2.out w1 ((HD.out.below L1.out).more L1.out.size)).mono ?_
  rintro e w2 ⟨rfl, hb2⟩
  have Z2 := Lib.hid (Z1.out.next hb2)
  have L2' := Lib.hid (L1.out.trans (hb2.mono L1.out.size))
  clear X1 Z1 L1 hb2
  have tt := Z2.out.all
  have zf := Z2.out.frees
  simp only [Dr.zero] at tt
  obtain ⟨t0, t1, t2, t3, t4, t5, t6, t7⟩ := tt
  obtain ⟨g0, g1, g2, g3, g4, g5, g6⟩ := zf
  have HB := Lib.hid L2'.out
  go_wp2
  refine bodyPost_ret (v := .tuple #[.agg #[.int .i64 0, .int .i64 0, .slice none 0 0, .slice none 0 0, .int .i64 0, .int .i64 0, .slice none 0 0], .int .i64 err]) (by simp [results, Try.results36, go_sem, t0, t1, t2, t3, t4, t5, t6]) rfl ?_
  exact dfin_err (by omega) HB.out

set_option maxHeartbeats 800000 in
theorem rrenum_s {D : Dr} {P : PD} (hI : D.Is P) (hP : P.Ok) (A1 A2 : Option Addr) (n1 n2 c1 c2 : Nat) (f1 f2 : Nat → Int) (hpa : prm n1 f1 P.S = false) (w : World) (hd : D.In w w.heap.size) (h1 : L2.Holds w w.heap.size A1 n1 f1) (h2 : L2.Holds w w.heap.size A2 n2 f2) (hn1 : n1 ≤ 5000) (hn2 : n2 ≤ 5000) :
    Calls Try.prog 36 #[.agg #[.int .i64 D.S, .int .i64 D.T, .slice D.A D.n D.c, .slice D.B D.m D.d, .int .i64 D.W, .int .i64 D.H, .slice D.C D.k D.e], .slice A1 n1 c1, .slice A2 n2 c2] w (ErrDr w 2) := by
  have HC := Lib.hid (rck_is (hI.ck hP) (hI.small hP) _ (dstart3 hd))
  have H1 := Lib.hid h1
  have H2 := Lib.hid h2
  have HPA := Lib.hid hpa
  skip
  have HD := Lib.hid hd
  have HI := Lib.hid hI
  have HP := Lib.hid hP
  have b1 := hP.s0
  have b2 := hP.s1
  have b3 := hP.t0
  have b4 := hP.t1
  clear hd h1 h2 hpa
  obtain ⟨S, T, A, n, c, B, m, d, W, H, C, kk, e', f, g, b⟩ := D
  obtain ⟨eS, eT, en, em, eW, eH, ek, ef, eg, eb⟩ := hI
  dsimp only at *
  subst eS eT en em eW eH ek
  have EF := Lib.hid ef
  have EG := Lib.hid eg
  clear ef eg eb
  go_enter Try.func36, Try.ntmps36
  go_wp2_with fail
  refine HC.out.mono ?_
  rintro e w1 ⟨rfl, hb1⟩
  obtain ⟨hbox1, hbox2, hbel1, hsz1⟩ := dafter3 (D := ⟨P.S, P.T, A, P.n, c, B, P.m, d, P.T, P.S, C, P.T * P.S, e', f, g, b⟩) hb1
  clear hb1
  have X1 := Lib.hid hbox1
  have Z1 := Lib.hid hbox2
  have L1 := Lib.hid hbel1
  clear hbox1 hbox2 hbel1
  obtain ⟨q0, q1, q2, q3, q4, q5, q6, q7⟩ := X1.out.all
  dsimp only at q0 q1 q2 q3 q4 q5 q6
  go_wp2_with fail
  clear q0 q1 q2 q3 q4 q5 q6 q7
  with_reducible refine Calls.mono (each_is HPA.out (H1.out.below L1.out |>.more L1.out.size) hn1 (by omega)) ?_
  rintro e w2 ⟨rfl, hb2⟩
  have X2 := Lib.hid (X1.out.next hb2)
  have Z2 := Lib.hid (Z1.out.next hb2)
  have L2 := Lib.hid (L1.out.trans (hb2.mono L1.out.size))
  clear X1 Z1 L1 hb2
  have tt := Z2.out.all
  have zf := Z2.out.frees
  simp only [Dr.zero] at tt
  obtain ⟨t0, t1, t2, t3, t4, t5, t6, t7⟩ := tt
  obtain ⟨g0, g1, g2, g3, g4, g5, g6⟩ := zf
  have HB := Lib.hid L2.out
  go_wp2
  refine bodyPost_ret (v := .tuple #[.agg #[.int .i64 0, .int .i64 0, .slice none 0 0, .slice none 0 0, .int .i64 0, .int .i64 0, .slice none 0 0], .int .i64 2]) (by simp [results, Try.results36, go_sem, t0, t1, t2, t3, t4, t5, t6]) rfl ?_
  exact dfin_err (by omega) HB.out

set_option maxHeartbeats 800000 in
theorem rrenum_t {D : Dr} {P : PD} (hI : D.Is P) (hP : P.Ok) (A1 A2 : Option Addr) (n1 n2 c1 c2 : Nat) (f1 f2 : Nat → Int) (hpa : prm n1 f1 P.S = true) (hpb : prm n2 f2 P.T = false) (w : World) (hd : D.In w w.heap.size) (h1 : L2.Holds w w.heap.size A1 n1 f1) (h2 : L2.Holds w w.heap.size A2 n2 f2) (hn1 : n1 ≤ 5000) (hn2 : n2 ≤ 5000) :
    Calls Try.prog 36 #[.agg #[.int .i64 D.S, .int .i64 D.T, .slice D.A D.n D.c, .slice D.B D.m D.d, .int .i64 D.W, .int .i64 D.H, .slice D.C D.k D.e], .slice A1 n1 c1, .slice A2 n2 c2] w (ErrDr w 2) := by
  have HC := Lib.hid (rck_is (hI.ck hP) (hI.small hP) _ (dstart3 hd))
  have H1 := Lib.hid h1
  have H2 := Lib.hid h2
  have HPA := Lib.hid hpa
  have HPB := Lib.hid hpb
  have HD := Lib.hid hd
  have HI := Lib.hid hI
  have HP := Lib.hid hP
  have b1 := hP.s0
  have b2 := hP.s1
  have b3 := hP.t0
  have b4 := hP.t1
  clear hd h1 h2 hpa hpb
  obtain ⟨S, T, A, n, c, B, m, d, W, H, C, kk, e', f, g, b⟩ := D
  obtain ⟨eS, eT, en, em, eW, eH, ek, ef, eg, eb⟩ := hI
  dsimp only at *
  subst eS eT en em eW eH ek
  have EF := Lib.hid ef
  have EG := Lib.hid eg
  clear ef eg eb
  go_enter Try.func36, Try.ntmps36
  go_wp2_with fail
  refine HC.out.mono ?_
  rintro e w1 ⟨rfl, hb1⟩
  obtain ⟨hbox1, hbox2, hbel1, hsz1⟩ := dafter3 (D := ⟨P.S, P.T, A, P.n, c, B, P.m, d, P.T, P.S, C, P.T * P.S, e', f, g, b⟩) hb1
  clear hb1
  have X1 := Lib.hid hbox1
  have Z1 := Lib.hid hbox2
  have L1 := Lib.hid hbel1
  clear hbox1 hbox2 hbel1
  obtain ⟨q0, q1, q2, q3, q4, q5, q6, q7⟩ := X1.out.all
  dsimp only at q0 q1 q2 q3 q4 q5 q6
  go_wp2_with fail
  clear q0 q1 q2 q3 q4 q5 q6 q7
  with_reducible refine Calls.mono (each_is HPA.out (H1.out.below L1.out |>.more L1.out.size) hn1 (by omega)) ?_
  rintro e w2 ⟨rfl, hb2⟩
  have X2 := Lib.hid (X1.out.next hb2)
  have Z2 := Lib.hid (Z1.out.next hb2)
  have L2 := Lib.hid (L1.out.trans (hb2.mono L1.out.size))
  clear X1 Z1 L1 hb2
  obtain ⟨q0, q1, q2, q3, q4, q5, q6, q7⟩ := X2.out.all
  dsimp only at q0 q1 q2 q3 q4 q5 q6
  go_wp2_with fail
  clear q0 q1 q2 q3 q4 q5 q6 q7
  with_reducible refine Calls.mono (each_is HPB.out (H2.out.below L2.out |>.more L2.out.size) hn2 (by omega)) ?_
  rintro e w3 ⟨rfl, hb3⟩
  have X3 := Lib.hid (X2.out.next hb3)
  have Z3 := Lib.hid (Z2.out.next hb3)
  have L3 := Lib.hid (L2.out.trans (hb3.mono L2.out.size))
  clear X2 Z2 L2 hb3
  have tt := Z3.out.all
  have zf := Z3.out.frees
  simp only [Dr.zero] at tt
  obtain ⟨t0, t1, t2, t3, t4, t5, t6, t7⟩ := tt
  obtain ⟨g0, g1, g2, g3, g4, g5, g6⟩ := zf
  have HB := Lib.hid L3.out
  go_wp2
  refine bodyPost_ret (v := .tuple #[.agg #[.int .i64 0, .int .i64 0, .slice none 0 0, .slice none 0 0, .int .i64 0, .int .i64 0, .slice none 0 0], .int .i64 2]) (by simp [results, Try.results36, go_sem, t0, t1, t2, t3, t4, t5, t6]) rfl ?_
  exact dfin_err (by omega) HB.out
end Go.Proofs.Ytbafhdinalapoaa
