/- The program's Turn of a draft. -/
import Derived.Test.YtbafhdinalapoaaDoorDb
namespace Go.Proofs.YtbafhdinalapoaaDoor
open Go.RowKit
set_option linter.unusedVariables false
set_option linter.unusedSimpArgs false
set_option maxRecDepth 100000

def PD.turn (P : PD) : PD := ⟨P.T, P.S, P.m, P.n, P.G, P.F, fun t s => P.L s t⟩
theorem PD.Ok.turn {P : PD} (h : P.Ok) : P.turn.Ok := ⟨h.t0, h.t1, h.s0, h.s1, h.m0, h.m1, h.n0, h.n1, h.g, h.f⟩

set_option maxHeartbeats 800000 in
theorem dturn_err {D : Dr} {err : Int} (hz : D.ck = err) (hne : (err != 0) = true) (hs : D.Small) (w : World) (hd : D.In w w.heap.size) :
    Calls Tryd.prog 33 #[.agg #[.int .i64 D.S, .int .i64 D.T, .slice D.A D.n D.c, .slice D.B D.m D.d, .int .i64 D.W, .int .i64 D.H, .slice D.C D.k D.e]] w (ErrDr w err) := by
  have HC := Lib.hid (dck_is hz hs _ (dstart3 hd))
  clear hz hs hd
  go_enter Tryd.func33, Tryd.ntmps33
  go_wp2_with fail
  refine HC.out.mono ?_
  rintro e w1 ⟨rfl, hb1⟩
  obtain ⟨hbox1, hbox2, hbel1, hsz1⟩ := dafter3 hb1
  clear hb1
  have hb := hbox2.all
  have hf := hbox2.frees
  simp only [Dr.zero] at hb
  obtain ⟨p0, p1, p2, p3, p4, p5, p6, p7⟩ := hb
  obtain ⟨f0, f1, f2, f3, f4, f5, f6⟩ := hf
  have HB := Lib.hid hbel1
  clear hbox1 hbox2 hbel1
  go_wp2
  refine bodyPost_ret (v := .tuple #[.agg #[.int .i64 0, .int .i64 0, .slice none 0 0, .slice none 0 0, .int .i64 0, .int .i64 0, .slice none 0 0], .int .i64 err]) (by simp [results, Tryd.results33, go_sem, p0, p1, p2, p3, p4, p5, p6]) rfl ?_
  exact dfin_err (by omega) HB.out

set_option maxHeartbeats 3200000 in
theorem dturn_ok {D : Dr} {P : PD} (hI : D.Is P) (hP : P.Ok) (w : World) (hd : D.In w w.heap.size) :
    Calls Tryd.prog 33 #[.agg #[.int .i64 D.S, .int .i64 D.T, .slice D.A D.n D.c, .slice D.B D.m D.d, .int .i64 D.W, .int .i64 D.H, .slice D.C D.k D.e]] w (OkDr w P.turn) := by
  have hmf := mk_fn
  have HC := Lib.hid (dck_is (hI.ck hP) (hI.small hP) _ (dstart3 hd))
  have HD := Lib.hid hd
  have HI := Lib.hid hI
  have HP := Lib.hid hP
  obtain ⟨S, T, A, n, c, B, m, d, W, H, C, kk, e', f, g, b⟩ := D
  obtain ⟨eS, eT, en, em, eW, eH, ek, ef, eg, eb⟩ := hI
  obtain ⟨p1, p2, p3, p4, p5, p6, p7, p8, pf, pg⟩ := hP
  dsimp only at *
  subst eS eT en em eW eH ek
  have EF := Lib.hid ef
  have EG := Lib.hid eg
  have EB := Lib.hid eb
  clear ef eg eb hd pf pg
  go_enter Tryd.func33, Tryd.ntmps33
  go_wp2_with fail
  refine HC.out.mono ?_
  rintro e w1 ⟨rfl, hb1⟩
  obtain ⟨hbox1, hbox2, hbel1, hsz1⟩ := dafter3 (D := ⟨P.S, P.T, A, P.n, c, B, P.m, d, P.T, P.S, C, P.T * P.S, e', f, g, b⟩) hb1
  clear hb1 HC
  have X1 := Lib.hid hbox1
  have X2 := Lib.hid hbox2
  have L1 := Lib.hid hbel1
  obtain ⟨q0, q1, q2, q3, q4, q5, q6, q7⟩ := hbox1.all
  dsimp only at q0 q1 q2 q3 q4 q5 q6
  clear hbox1 hbox2 hbel1
  go_wp2_with fail
  refine (turn_ok P.T P.S C e' b w1 (((HD.out.below L1.out).more L1.out.size).ti) (by omega) (by omega) (by omega) (by omega)).mono ?_
  rintro e w2 ⟨k, rfl, hk, hrow, hb2⟩
  have Y0 := Lib.hid (Box.new w2 P.S P.T (.slice (some ⟨k, 0, none⟩) (P.S * P.T) (P.S * P.T)))
  have Y1 := Lib.hid ((X1.out.next hb2).alloc (.cells #[.int .i64 P.S, .int .i64 P.T, .slice (some ⟨k, 0, none⟩) (P.S * P.T) (P.S * P.T)] 25))
  have Y2 := Lib.hid ((X2.out.next hb2).alloc (.cells #[.int .i64 P.S, .int .i64 P.T, .slice (some ⟨k, 0, none⟩) (P.S * P.T) (P.S * P.T)] 25))
  have L2' := Lib.hid ((L1.out.trans (hb2.mono L1.out.size)).alloc (Nat.le_trans L1.out.size hb2.size) (.cells #[.int .i64 P.S, .int .i64 P.T, .slice (some ⟨k, 0, none⟩) (P.S * P.T) (P.S * P.T)] 25))
  have YR := Lib.hid (hrow.alloc (.cells #[.int .i64 P.S, .int .i64 P.T, .slice (some ⟨k, 0, none⟩) (P.S * P.T) (P.S * P.T)] 25))
  have hk0 : w.heap.size + 2 ≤ k := by omega
  have hk1 : w.heap.size + 2 ≤ w2.heap.size := by have := hrow.lt; omega
  clear hb2 hrow X1 X2 L1 q0 q1 q2 q3 q4 q5 q6 q7 hk hsz1
  go_wp2
  generalize hw3 : w2.alloc (.cells #[.int .i64 P.S, .int .i64 P.T, .slice (some ⟨k, 0, none⟩) (P.S * P.T) (P.S * P.T)] 25) = w3 at *
  have hw3s : w3.heap.size = w2.heap.size + 1 := by rw [← hw3]; simp
  clear hw3
  have HS : Hid (∀ w', Below (w.heap.size + 1) w3 w' → w'.heap[w2.heap.size]? = w3.heap[w2.heap.size]? → w'.cell? ⟨w.heap.size, 0, none⟩ = some (.int .i64 P.S) ∧ w'.cell? ⟨w.heap.size, 1, none⟩ = some (.int .i64 P.T) ∧ w'.cell? ⟨w.heap.size, 2, none⟩ = some (.slice A P.n c) ∧ w'.cell? ⟨w.heap.size, 3, none⟩ = some (.slice B P.m d) ∧
      w'.cell? ⟨w2.heap.size, 0, none⟩ = some (.int .i64 P.S) ∧ w'.cell? ⟨w2.heap.size, 1, none⟩ = some (.int .i64 P.T) ∧ w'.cell? ⟨w2.heap.size, 2, none⟩ = some (.slice (some ⟨k, 0, none⟩) (P.S * P.T) (P.S * P.T))) := Lib.hid (fun w' h h' => by
    have y1 := (Y1.out.below h (by omega)).all
    have y2 : Box w' w2.heap.size P.S P.T (.slice (some ⟨k, 0, none⟩) (P.S * P.T) (P.S * P.T)) := h'.trans Y0.out
    exact ⟨y1.1, y1.2.1, y1.2.2.1, y1.2.2.2.1, y2.c0, y2.c1, y2.c2⟩)
  have HTh := Lib.hid (fun v (h : Below w3.heap.size w3 v) => clone_any A P.n c f w.heap.size v (by omega) (by omega) (HD.out.below (L2'.out.trans (h.mono L2'.out.size))).th)
  have HTr := Lib.hid (fun v (h : Below w3.heap.size w3 v) => clone_any B P.m d g w.heap.size v (by omega) (by omega) (HD.out.below (L2'.out.trans (h.mono L2'.out.size))).tr)
  have hbx : Below w3.heap.size w3 w3.drew := (Below.refl _ _).drew
  have hSu := HS.out _ (hbx.mono (show w.heap.size + 1 ≤ w3.heap.size by omega)) (hbx.block w2.heap.size (by omega))
  go_region_held3 (fun w' => w'.cell? ⟨w.heap.size, 0, none⟩ = some (.int .i64 P.S) ∧ w'.cell? ⟨w.heap.size, 1, none⟩ = some (.int .i64 P.T) ∧ w'.cell? ⟨w.heap.size, 2, none⟩ = some (.slice A P.n c) ∧ w'.cell? ⟨w.heap.size, 3, none⟩ = some (.slice B P.m d) ∧
      w'.cell? ⟨w2.heap.size, 0, none⟩ = some (.int .i64 P.S) ∧ w'.cell? ⟨w2.heap.size, 1, none⟩ = some (.int .i64 P.T) ∧ w'.cell? ⟨w2.heap.size, 2, none⟩ = some (.slice (some ⟨k, 0, none⟩) (P.S * P.T) (P.S * P.T)))
    (first
      | with_reducible exact hSu
      | (have hne : w2.heap.size ≠ w.heap.size + 1 := by omega
         have hm : Below (w.heap.size + 1) w3 u := hbx.mono (by omega)
         have hk := hbx.block w2.heap.size (by omega)
         exact HS.out _ (set7_keep (r := w.heap.size + 1) (Nat.le_refl _) hm) ((set7_block hne).trans hk)))
    (first
      | (go_at_call 61
         refine (HTh.out _ hbx).mono ?_
         rintro e u ⟨ka, ca, rfl, hka, hra, hbu⟩
         have hra := Lib.hid hra
         try have hrb := Lib.hid (hrb.out.below hbu hrb.out.lt)
         have hka : w3.heap.size ≤ ka := by have := hbx.size; omega
         have hbx := hbx.trans (hbu.mono hbx.size)
         have hSu := HS.out _ (hbx.mono (show w.heap.size + 1 ≤ w3.heap.size by omega)) (hbx.block w2.heap.size (by omega))
         obtain ⟨z0, z1, z2, z3, z4, z5, z6⟩ := (Y2.out.next hbx).frees
         have tt := (Y2.out.next hbx).all
         simp only [Dr.zero] at tt
         obtain ⟨t0, t1, t2, t3, t4, t5, t6, t7⟩ := tt)
      | (go_at_call 61
         refine (HTr.out _ hbx).mono ?_
         rintro e u ⟨kb, cb, rfl, hkb, hrb, hbu⟩
         have hrb := Lib.hid hrb
         try have hra := Lib.hid (hra.out.below hbu hra.out.lt)
         have hkb : w3.heap.size ≤ kb := by have := hbx.size; omega
         have hbx := hbx.trans (hbu.mono hbx.size)
         have hSu := HS.out _ (hbx.mono (show w.heap.size + 1 ≤ w3.heap.size by omega)) (hbx.block w2.heap.size (by omega))
         obtain ⟨z0, z1, z2, z3, z4, z5, z6⟩ := (Y2.out.next hbx).frees
         have tt := (Y2.out.next hbx).all
         simp only [Dr.zero] at tt
         obtain ⟨t0, t1, t2, t3, t4, t5, t6, t7⟩ := tt))

  have hrows : Rows3 u (w.heap.size + 2) P.turn kb ka k := ⟨by omega, by omega, by omega, hrb.out.congr fun i hi => EG.out i hi, hra.out.congr fun i hi => EF.out i hi, (YR.out.below hbx YR.out.lt).congr fun i hi => by
    have h1 : i % P.S < P.S := Nat.mod_lt _ (by omega)
    have h2 : i / P.S < P.T := Nat.div_lt_of_lt_mul hi
    exact EB.out _ _ h2 h1⟩
  have HR3 := Lib.hid hrows
  have HB3 := Lib.hid (L2'.out.trans (hbx.mono L2'.out.size))
  clear hrows hra hrb hbx hbu z0 z1 z2 z3 z4 z5 z6 t7
  go_wp2
  refine bodyPost_ret (v := .tuple #[.agg #[.int .i64 P.T, .int .i64 P.S, .slice (some ⟨kb, 0, none⟩) P.m cb, .slice (some ⟨ka, 0, none⟩) P.n ca, .int .i64 P.S, .int .i64 P.T, .slice (some ⟨k, 0, none⟩) (P.S * P.T) (P.S * P.T)], .int .i64 0]) (by simp [results, Tryd.results33, go_sem, t0, t1, t2, t3, t4, t5, t6]) rfl ⟨kb, cb, ka, ca, k, _, rfl, ?_, ?_⟩
  · exact (set7_rows (by omega) HR3.out).lower (by omega)
  · exact set7_below (by omega) HB3.out
end Go.Proofs.YtbafhdinalapoaaDoor
