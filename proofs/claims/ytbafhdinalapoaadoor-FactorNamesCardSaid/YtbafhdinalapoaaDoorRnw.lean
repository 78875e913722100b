/- The program's Renumber. -/
import Derived.Test.YtbafhdinalapoaaDoorArw
namespace Go.Proofs.YtbafhdinalapoaaDoor
open Go.RowKit
set_option linter.unusedVariables false
set_option linter.unusedSimpArgs false
set_option maxRecDepth 100000

open L2 (plc)
theorem prm_ne {m : Nat} {f : Nat → Int} {N : Nat} (h : ¬ m = N) : prm m f N = false := by
  unfold prm
  rw [decide_eq_false_iff_not]
  exact fun h' => h h'.1
theorem prm_len {m : Nat} {f : Nat → Int} {N : Nat} (h : prm m f N = true) : m = N := by
  unfold prm at h
  rw [decide_eq_true_iff] at h
  exact h.1
theorem inv_refuses {A : Option Addr} {m c N : Nat} {f : Nat → Int} (hp : prm m f N = false) (h0 : 1 ≤ N) (hN : N ≤ 1000) (w : World) (hr : L2.Holds w w.heap.size A m f) :
    Calls Tryd.prog 39 #[.slice A m c, .int .i64 N] w fun e w' => e = .returned (.tuple #[.slice none 0 0, .bool false]) ∧ Below w.heap.size w w' := by
  by_cases e : m = N
  · subst e
    exact (inverse_any A m c f w hr h0 hN).mono fun e w' h => ⟨h.2.2 hp, h.1⟩
  · exact inverse_len A m c N w (by omega)
theorem inv_takes {A : Option Addr} {m c N : Nat} {f : Nat → Int} (hp : prm m f N = true) (h0 : 1 ≤ N) (hN : N ≤ 1000) (w : World) (hr : L2.Holds w w.heap.size A m f) :
    Calls Tryd.prog 39 #[.slice A m c, .int .i64 N] w fun e w' => ∃ b, e = .returned (.tuple #[.slice (some ⟨b, 0, none⟩) N N, .bool true]) ∧ w.heap.size ≤ b ∧ L2.Row w' b N (fun v => ((plc f v N).toNat : Nat)) ∧ Below w.heap.size w w' := by
  obtain rfl := prm_len hp
  refine (inverse_any A m c f w hr h0 hN).mono fun e w' h => ?_
  obtain ⟨b, he, hb, hrow⟩ := h.2.1 hp
  exact ⟨b, he, hb, hrow.congr fun i hi => by have := prm_has hp hi; rw [this.1]; rfl, h.1⟩
set_option maxHeartbeats 400000 in
theorem renumber_err {D : Dr} {err : Int} (hz : D.ck = err) (hne : (err != 0) = true) (hs : D.Small) (A1 A2 : Option Addr) (n1 n2 c1 c2 : Nat) (w : World) (hd : D.In w w.heap.size) :
    Calls Tryd.prog 11 #[.agg #[.int .i64 D.S, .int .i64 D.T, .slice D.A D.n D.c, .slice D.B D.m D.d, .int .i64 D.W, .int .i64 D.H, .slice D.C D.k D.e], .slice A1 n1 c1, .slice A2 n2 c2] w (ErrDr w err) := by
  have HC := Lib.hid (dck_is hz hs _ (dstart3 hd))
  clear hz hs hd
  go_enter Tryd.func11, Tryd.ntmps11
  go_wp2_with fail
  refine HC.out.mono ?_
  rintro e w1 ⟨rfl, hb1⟩
  obtain ⟨hbox1, hbox2, hbel1, hsz1⟩ := dafter3 hb1
  clear hb1
  have X1 := Lib.hid hbox1
  have X2 := Lib.hid hbox2
  have L1 := Lib.hid hbel1
  clear hbox1 hbox2 hbel1
  have tt := X2.out.all
  have zf := X2.out.frees
  simp only [Dr.zero] at tt
  obtain ⟨t0, t1, t2, t3, t4, t5, t6, t7⟩ := tt
  obtain ⟨f0, f1, f2, f3, f4, f5, f6⟩ := zf
  have HB := Lib.hid L1.out
  go_wp2
  refine bodyPost_ret (v := .tuple #[.agg #[.int .i64 0, .int .i64 0, .slice none 0 0, .slice none 0 0, .int .i64 0, .int .i64 0, .slice none 0 0], .int .i64 err]) (by simp [results, Tryd.results11, go_sem, t0, t1, t2, t3, t4, t5, t6]) rfl ?_
  exact dfin_err (by omega) HB.out

set_option maxHeartbeats 400000 in
theorem renumber_s {D : Dr} {P : PD} (hI : D.Is P) (hP : P.Ok) (A1 A2 : Option Addr) (n1 n2 c1 c2 : Nat) (f1 f2 : Nat → Int) (hpa : prm n1 f1 P.S = false) (w : World) (hd : D.In w w.heap.size) (h1 : L2.Holds w w.heap.size A1 n1 f1) (h2 : L2.Holds w w.heap.size A2 n2 f2) :
    Calls Tryd.prog 11 #[.agg #[.int .i64 D.S, .int .i64 D.T, .slice D.A D.n D.c, .slice D.B D.m D.d, .int .i64 D.W, .int .i64 D.H, .slice D.C D.k D.e], .slice A1 n1 c1, .slice A2 n2 c2] w (ErrDr w 2) := by
  have HC := Lib.hid (dck_is (hI.ck hP) (hI.small hP) _ (dstart3 hd))
  have H1 := Lib.hid h1
  have H2 := Lib.hid h2
  have HPA := Lib.hid hpa
  skip
  have b1 := hP.s0
  have b2 := hP.s1
  have b3 := hP.t0
  have b4 := hP.t1
  clear hd h1 h2 hpa
  obtain ⟨S, T, A, n, c, B, m, d, W, H, C, kk, e', f, g, b⟩ := D
  obtain ⟨eS, eT, en, em, eW, eH, ek, ef, eg, eb⟩ := hI
  dsimp only at *
  subst eS eT en em eW eH ek
  clear ef eg eb
  go_enter Tryd.func11, Tryd.ntmps11
  go_wp2_with fail
  refine HC.out.mono ?_
  rintro e w1 ⟨rfl, hb1⟩
  obtain ⟨hbox1, hbox2, hbel1, hsz1⟩ := dafter3 (D := ⟨P.S, P.T, A, P.n, c, B, P.m, d, P.T, P.S, C, P.T * P.S, e', f, g, b⟩) hb1
  clear hb1
  have X1 := Lib.hid hbox1
  have X2 := Lib.hid hbox2
  have L1 := Lib.hid hbel1
  clear hbox1 hbox2 hbel1
  obtain ⟨q0, q1, q2, q3, q4, q5, q6, q7⟩ := X1.out.all
  dsimp only at q0 q1 q2 q3 q4 q5 q6
  go_wp2_with fail
  clear q0 q1 q2 q3 q4 q5 q6 q7
  with_reducible refine Calls.mono (inv_refuses HPA.out b1 (by omega) w1 ((H1.out.below L1.out).more L1.out.size)) ?_
  rintro e w2 ⟨rfl, hb2⟩
  have X1' := Lib.hid (X1.out.next hb2)
  have X2' := Lib.hid (X2.out.next hb2)
  have L2' := Lib.hid (L1.out.trans (hb2.mono L1.out.size))
  clear X1 X2 L1
  have tt := X2'.out.all
  have zf := X2'.out.frees
  simp only [Dr.zero] at tt
  obtain ⟨t0, t1, t2, t3, t4, t5, t6, t7⟩ := tt
  obtain ⟨f0, f1, f2, f3, f4, f5, f6⟩ := zf
  have HB := Lib.hid L2'.out
  go_wp2
  refine bodyPost_ret (v := .tuple #[.agg #[.int .i64 0, .int .i64 0, .slice none 0 0, .slice none 0 0, .int .i64 0, .int .i64 0, .slice none 0 0], .int .i64 2]) (by simp [results, Tryd.results11, go_sem, t0, t1, t2, t3, t4, t5, t6]) rfl ?_
  exact dfin_err (by omega) HB.out

set_option maxHeartbeats 400000 in
theorem renumber_t {D : Dr} {P : PD} (hI : D.Is P) (hP : P.Ok) (A1 A2 : Option Addr) (n1 n2 c1 c2 : Nat) (f1 f2 : Nat → Int) (hpa : prm n1 f1 P.S = true) (hpb : prm n2 f2 P.T = false) (w : World) (hd : D.In w w.heap.size) (h1 : L2.Holds w w.heap.size A1 n1 f1) (h2 : L2.Holds w w.heap.size A2 n2 f2) :
    Calls Tryd.prog 11 #[.agg #[.int .i64 D.S, .int .i64 D.T, .slice D.A D.n D.c, .slice D.B D.m D.d, .int .i64 D.W, .int .i64 D.H, .slice D.C D.k D.e], .slice A1 n1 c1, .slice A2 n2 c2] w (ErrDr w 2) := by
  have HC := Lib.hid (dck_is (hI.ck hP) (hI.small hP) _ (dstart3 hd))
  have H1 := Lib.hid h1
  have H2 := Lib.hid h2
  have HPA := Lib.hid hpa
  have HPB := Lib.hid hpb
  have b1 := hP.s0
  have b2 := hP.s1
  have b3 := hP.t0
  have b4 := hP.t1
  clear hd h1 h2 hpa hpb
  obtain ⟨S, T, A, n, c, B, m, d, W, H, C, kk, e', f, g, b⟩ := D
  obtain ⟨eS, eT, en, em, eW, eH, ek, ef, eg, eb⟩ := hI
  dsimp only at *
  subst eS eT en em eW eH ek
  clear ef eg eb
  go_enter Tryd.func11, Tryd.ntmps11
  go_wp2_with fail
  refine HC.out.mono ?_
  rintro e w1 ⟨rfl, hb1⟩
  obtain ⟨hbox1, hbox2, hbel1, hsz1⟩ := dafter3 (D := ⟨P.S, P.T, A, P.n, c, B, P.m, d, P.T, P.S, C, P.T * P.S, e', f, g, b⟩) hb1
  clear hb1
  have X1 := Lib.hid hbox1
  have X2 := Lib.hid hbox2
  have L1 := Lib.hid hbel1
  clear hbox1 hbox2 hbel1
  obtain ⟨q0, q1, q2, q3, q4, q5, q6, q7⟩ := X1.out.all
  dsimp only at q0 q1 q2 q3 q4 q5 q6
  go_wp2_with fail
  clear q0 q1 q2 q3 q4 q5 q6 q7
  with_reducible refine Calls.mono (inv_takes HPA.out b1 (by omega) w1 ((H1.out.below L1.out).more L1.out.size)) ?_
  rintro e w2 ⟨k1, rfl, hk1, hr1, hb2⟩
  have X1' := Lib.hid (X1.out.next hb2)
  have X2' := Lib.hid (X2.out.next hb2)
  have L2' := Lib.hid (L1.out.trans (hb2.mono L1.out.size))
  clear X1 X2 L1
  obtain ⟨q0, q1, q2, q3, q4, q5, q6, q7⟩ := X1'.out.all
  dsimp only at q0 q1 q2 q3 q4 q5 q6
  go_wp2_with fail
  clear q0 q1 q2 q3 q4 q5 q6 q7
  with_reducible refine Calls.mono (inv_refuses HPB.out b3 (by omega) w2 ((H2.out.below L2'.out).more L2'.out.size)) ?_
  rintro e w3 ⟨rfl, hb3⟩
  have X1a := Lib.hid (X1'.out.next hb3)
  have X2a := Lib.hid (X2'.out.next hb3)
  have L3 := Lib.hid (L2'.out.trans (hb3.mono L2'.out.size))
  clear X1' X2' L2'
  have tt := X2a.out.all
  have zf := X2a.out.frees
  simp only [Dr.zero] at tt
  obtain ⟨t0, t1, t2, t3, t4, t5, t6, t7⟩ := tt
  obtain ⟨f0, f1, f2, f3, f4, f5, f6⟩ := zf
  have HB := Lib.hid L3.out
  go_wp2
  refine bodyPost_ret (v := .tuple #[.agg #[.int .i64 0, .int .i64 0, .slice none 0 0, .slice none 0 0, .int .i64 0, .int .i64 0, .slice none 0 0], .int .i64 2]) (by simp [results, Tryd.results11, go_sem, t0, t1, t2, t3, t4, t5, t6]) rfl ?_
  exact dfin_err (by omega) HB.out

set_option maxHeartbeats 400000 in
theorem renumber_ok {D : Dr} {P : PD} (hI : D.Is P) (hP : P.Ok) (A1 A2 : Option Addr) (n1 n2 c1 c2 : Nat) (f1 f2 : Nat → Int) (hpa : prm n1 f1 P.S = true) (hpb : prm n2 f2 P.T = true) (w : World) (hd : D.In w w.heap.size) (h1 : L2.Holds w w.heap.size A1 n1 f1) (h2 : L2.Holds w w.heap.size A2 n2 f2) :
    Calls Tryd.prog 11 #[.agg #[.int .i64 D.S, .int .i64 D.T, .slice D.A D.n D.c, .slice D.B D.m D.d, .int .i64 D.W, .int .i64 D.H, .slice D.C D.k D.e], .slice A1 n1 c1, .slice A2 n2 c2] w (OkDr w (P.rnm f1 f2)) := by
  have HC := Lib.hid (dck_is (hI.ck hP) (hI.small hP) _ (dstart3 hd))
  have H1 := Lib.hid h1
  have H2 := Lib.hid h2
  have HPA := Lib.hid hpa
  have HPB := Lib.hid hpb
  have b1 := hP.s0
  have b2 := hP.s1
  have b3 := hP.t0
  have b4 := hP.t1
  have HD := Lib.hid hd
  have HI := Lib.hid hI
  have HP := Lib.hid hP
  clear hd h1 h2 hpa hpb
  obtain ⟨S, T, A, n, c, B, m, d, W, H, C, kk, e', f, g, b⟩ := D
  obtain ⟨eS, eT, en, em, eW, eH, ek, ef, eg, eb⟩ := hI
  dsimp only at *
  subst eS eT en em eW eH ek
  clear ef eg eb
  go_enter Tryd.func11, Tryd.ntmps11
  go_wp2_with fail
  refine HC.out.mono ?_
  rintro e w1 ⟨rfl, hb1⟩
  obtain ⟨hbox1, hbox2, hbel1, hsz1⟩ := dafter3 (D := ⟨P.S, P.T, A, P.n, c, B, P.m, d, P.T, P.S, C, P.T * P.S, e', f, g, b⟩) hb1
  clear hb1
  have X1 := Lib.hid hbox1
  have X2 := Lib.hid hbox2
  have L1 := Lib.hid hbel1
  clear hbox1 hbox2 hbel1
  obtain ⟨q0, q1, q2, q3, q4, q5, q6, q7⟩ := X1.out.all
  dsimp only at q0 q1 q2 q3 q4 q5 q6
  go_wp2_with fail
  clear q0 q1 q2 q3 q4 q5 q6 q7
  with_reducible refine Calls.mono (inv_takes HPA.out b1 (by omega) w1 ((H1.out.below L1.out).more L1.out.size)) ?_
  rintro e w2 ⟨k1, rfl, hk1, hr1, hb2⟩
  have X1' := Lib.hid (X1.out.next hb2)
  have X2' := Lib.hid (X2.out.next hb2)
  have L2' := Lib.hid (L1.out.trans (hb2.mono L1.out.size))
  clear X1 X2 L1
  obtain ⟨q0, q1, q2, q3, q4, q5, q6, q7⟩ := X1'.out.all
  dsimp only at q0 q1 q2 q3 q4 q5 q6
  go_wp2_with fail
  clear q0 q1 q2 q3 q4 q5 q6 q7
  with_reducible refine Calls.mono (inv_takes HPB.out b3 (by omega) w2 ((H2.out.below L2'.out).more L2'.out.size)) ?_
  rintro e w3 ⟨k2, rfl, hk2, hr2, hb3⟩
  have X1a := Lib.hid (X1'.out.next hb3)
  have X2a := Lib.hid (X2'.out.next hb3)
  have L3 := Lib.hid (L2'.out.trans (hb3.mono L2'.out.size))
  clear X1' X2' L2'
  have R1 := Lib.hid (hr1.below hb3 hr1.lt)
  have R2 := Lib.hid hr2
  have hk1' : w.heap.size ≤ k1 := by omega
  have hs3 : w.heap.size + 2 ≤ w3.heap.size := by have := hb2.size; have := hb3.size; omega
  clear hr1 hr2 hk1 hk2 hb2 hb3
  have hra := rnm_arr HP.out (show prm P.S f1 P.S = true by have := prm_len HPA.out; rw [this] at HPA; exact HPA.out) (show prm P.T f2 P.T = true by have := prm_len HPB.out; rw [this] at HPB; exact HPB.out)
  have HRA := Lib.hid hra
  clear hra
  obtain ⟨q0, q1, q2, q3, q4, q5, q6, q7⟩ := X1a.out.all
  dsimp only at q0 q1 q2 q3 q4 q5 q6
  have D3 := Lib.hid ((HD.out.below L3.out).more L3.out.size)
  go_wp2_with fail
  clear q0 q1 q2 q3 q4 q5 q6 q7
  with_reducible refine Calls.mono (arrange_any HI.out HP.out P.S P.T _ _ HRA.out.1 (some ⟨k1, 0, none⟩) (some ⟨k2, 0, none⟩) P.S P.T w3 D3.out (R1.out.holds R1.out.lt) (R2.out.holds R2.out.lt)) ?_
  rintro e w4 ⟨a, ca, b, cb, c, cc, rfl, hrows, hb4⟩
  have HR3 := Lib.hid ((hrows.eqv HRA.out.2))
  have X2b := Lib.hid (X2a.out.next hb4)
  have L4 := Lib.hid (L3.out.trans (hb4.mono L3.out.size))
  clear X2a L3 hb4 hrows
  have tt := X2b.out.all
  have zf := X2b.out.frees
  simp only [Dr.zero] at tt
  obtain ⟨t0, t1, t2, t3, t4, t5, t6, t7⟩ := tt
  obtain ⟨g0, g1, g2, g3, g4, g5, g6⟩ := zf
  go_wp2
  refine bodyPost_ret (v := .tuple #[.agg #[.int .i64 P.S, .int .i64 P.T, .slice (some ⟨a, 0, none⟩) P.n ca, .slice (some ⟨b, 0, none⟩) P.m cb, .int .i64 P.T, .int .i64 P.S, .slice (some ⟨c, 0, none⟩) (P.T * P.S) cc], .int .i64 0]) (by simp [results, Tryd.results11, go_sem, PD.arr, t0, t1, t2, t3, t4, t5, t6]) rfl ⟨a, ca, b, cb, c, cc, rfl, ?_, ?_⟩
  · exact (set7_rows (by omega) HR3.out).lower (by omega)
  · exact set7_below (by omega) L4.out
end Go.Proofs.YtbafhdinalapoaaDoor
