/- The reference's Prune. -/
import Derived.Test.YtbafhdinalapoaaRtn
import Derived.Test.YtbafhdinalapoaaPrn
import Derived.Test.YtbafhdinalapoaaRfo
import Derived.Deep.DeepCutAuto
namespace Go.Proofs.Ytbafhdinalapoaa
open Go.RowKit
set_option linter.unusedVariables false
set_option linter.unusedSimpArgs false
set_option maxRecDepth 100000

/-- Two rows of places beside the row k. -/
structure Pl2 (w v : World) (p1 p2 k n m : Nat) (F G : Nat → Int) : Prop where
  r1 : L2.Row v p1 n F
  r2 : L2.Row v p2 m G
  b1 : w.heap.size ≤ p1
  b2 : w.heap.size ≤ p2
  n1 : p1 ≠ k
  n2 : p2 ≠ k

open L2 (plc)
theorem kept_row (A : Option Addr) (m c N : Nat) (f : Nat → Int) (w : World) (hr : L2.Holds w w.heap.size A m f) (hm : m ≤ 5000) (hN : N ≤ 1000) (h0 : 0 < kc f m N) :
    Calls Try.prog 73 #[.slice A m c, .int .i64 N] w fun e w' => ∃ k c', e = .returned (.slice (some ⟨k, 0, none⟩) (kc f m N) c') ∧ w.heap.size ≤ k ∧ L2.Row w' k (kc f m N) (kf f m N) ∧ Below w.heap.size w w' :=
  (kept_any A m c N f w hr hm hN).mono fun e w' ⟨v, he, hown, hb⟩ => by
    obtain ⟨A', c', rfl, _, hrow⟩ := hown.out
    obtain ⟨k, rfl, h1, h2⟩ := hrow h0
    exact ⟨k, c', he, h1, h2, hb⟩
theorem rplaces_row (A D : Option Addr) (n k c d : Nat) (f g : Nat → Int) (w : World) (hr : L2.Holds w w.heap.size A n f) (hs : L2.Holds w w.heap.size D k g) (h0 : 0 < n) (hn : n ≤ 4096) (hk : k ≤ 5000) :
    Calls Try.prog 74 #[.slice A n c, .slice D k d] w fun e w' => ∃ b c', e = .returned (.slice (some ⟨b, 0, none⟩) n c') ∧ w.heap.size ≤ b ∧ L2.Row w' b n (fun i => plc g (f i) k) ∧ Below w.heap.size w w' :=
  (rplaces_any A D n k c d f g w hr hs hn hk).mono fun e w' ⟨A', c', he, hrow, hb⟩ => by
    obtain ⟨b, rfl, h1, h2⟩ := hrow h0
    exact ⟨b, c', he, h1, h2, hb⟩
theorem zero_row (W H : Nat) (hW : W ≤ 64) (hH : H ≤ 64) (w : World) :
    Calls Try.prog 68 #[.int .i64 W, .int .i64 H] w fun e w' => ∃ k, e = .returned (.agg #[.int .i64 W, .int .i64 H, .slice (some ⟨k, 0, none⟩) (W * H) (W * H)]) ∧ w.heap.size ≤ k ∧ Row w' k (W * H) (fun _ => false) ∧ Below w.heap.size w w' := zero_int W H W H rfl rfl hW hH w

set_option maxHeartbeats 2000000 in
theorem rprune_ok {D : Dr} {P : PD} (hI : D.Is P) (hP : P.Ok) (w : World) (hd : D.In w w.heap.size) :
    Calls Try.prog 33 #[.agg #[.int .i64 D.S, .int .i64 D.T, .slice D.A D.n D.c, .slice D.B D.m D.d, .int .i64 D.W, .int .i64 D.H, .slice D.C D.k D.e]] w (OkDr w P.prune) := by
  have HC := Lib.hid (rck_is (hI.ck hP) (hI.small hP) _ (dstart3 hd))
  have HD := Lib.hid hd
  have HI := Lib.hid hI
  have HP := Lib.hid hP
  obtain ⟨S, T, A, n, c, B, m, d, W, H, C, kk, e', f, g, b⟩ := D
  obtain ⟨eS, eT, en, em, eW, eH, ek, ef, eg, eb⟩ := hI
  obtain ⟨p1, p2, p3, p4, p5, p6, p7, p8, pf, pg⟩ := hP
  dsimp only at *
  subst eS eT en em eW eH ek
  have EF := Lib.hid ef
  have EG := Lib.hid eg
  have EB := Lib.hid eb
  clear ef eg eb hd pf pg
  go_enter Try.func33, Try.ntmps33
  go_wp2_with fail
  refine HC.out.mono ?_
  rintro e w1 ⟨rfl, hb1⟩
  obtain ⟨hbox1, hbox2, hbel1, hsz1⟩ := dafter3 (D := ⟨P.S, P.T, A, P.n, c, B, P.m, d, P.T, P.S, C, P.T * P.S, e', f, g, b⟩) hb1
  clear hb1 HC
  have X1 := Lib.hid hbox1
  have X2 := Lib.hid hbox2
  have L1 := Lib.hid hbel1
  clear hbox1 hbox2 hbel1
  have HS : Hid (∀ w', Below (w.heap.size + 1) w1 w' → w'.cell? ⟨w.heap.size, 0, none⟩ = some (.int .i64 P.S) ∧ w'.cell? ⟨w.heap.size, 1, none⟩ = some (.int .i64 P.T) ∧ w'.cell? ⟨w.heap.size, 2, none⟩ = some (.slice A P.n c) ∧ w'.cell? ⟨w.heap.size, 3, none⟩ = some (.slice B P.m d) ∧ w'.cell? ⟨w.heap.size, 4, none⟩ = some (.int .i64 P.T) ∧ w'.cell? ⟨w.heap.size, 5, none⟩ = some (.int .i64 P.S) ∧ w'.cell? ⟨w.heap.size, 6, none⟩ = some (.slice C (P.T * P.S) e')) := Lib.hid (fun w' h => by
    have y1 := (X1.out.below h (by omega)).all
    exact ⟨y1.1, y1.2.1, y1.2.2.1, y1.2.2.2.1, y1.2.2.2.2.1, y1.2.2.2.2.2.1, y1.2.2.2.2.2.2.1⟩)
  have hM : w.heap.size + 1 ≤ w1.heap.size := by omega
  have HDv := Lib.hid (fun v (h : Below w1.heap.size w1 v) => (show Dr.In v w.heap.size ⟨P.S, P.T, A, P.n, c, B, P.m, d, P.T, P.S, C, P.T * P.S, e', f, g, b⟩ from HD.out.below (L1.out.trans (h.mono L1.out.size))))
  obtain ⟨q0, q1, q2, q3, q4, q5, q6, q7⟩ := X1.out.all
  dsimp only at q0 q1 q2 q3 q4 q5 q6
  go_wp2
  clear q0 q1 q2 q3 q4 q5 q6 q7
  obtain ⟨K1, hK1⟩ : ∃ K, kc P.thr P.n P.S = K := ⟨_, rfl⟩
  obtain ⟨K2, hK2⟩ : ∃ K, kc P.trd P.m P.T = K := ⟨_, rfl⟩
  have HK1 := Lib.hid hK1
  have HK2 := Lib.hid hK2
  have hPO := PD.prune_ok HP.out
  have hk1a : 1 ≤ K1 := by rw [← hK1]; exact hPO.s0
  have hk1b : K1 ≤ 40 := by rw [← hK1]; exact hPO.s1
  have hk2a : 1 ≤ K2 := by rw [← hK2]; exact hPO.t0
  have hk2b : K2 ≤ 40 := by rw [← hK2]; exact hPO.t1
  have hPR : P.prune = P.arr K1 K2 P.us P.vs := by unfold PD.prune; rw [hK1, hK2]
  have HPR := Lib.hid hPR
  have hAR := prune_arr HP.out
  rw [hK1, hK2] at hAR
  have HAR := Lib.hid hAR
  have HTh := Lib.hid (fun v (h : Below w1.heap.size w1 v) => kept_row A P.n c P.S P.thr v ((iholds_congr (HDv.out v h).th fun i hi => EF.out i hi).more (Nat.le_trans L1.out.size h.size)) (by omega) (by omega) (by rw [hK1]; omega))
  have HTr := Lib.hid (fun v (h : Below w1.heap.size w1 v) => kept_row B P.m d P.T P.trd v ((iholds_congr (HDv.out v h).tr fun i hi => EG.out i hi).more (Nat.le_trans L1.out.size h.size)) (by omega) (by omega) (by rw [hK2]; omega))
  rw [hK1] at HTh
  rw [hK2] at HTr
  clear hK1 hK2 hPR hAR hPO
  have hbx : Below w1.heap.size w1 w1.drew := (Below.refl _ _).drew
  have hSu := HS.out _ (hbx.mono hM)
  go_region_held3 (fun w' => w'.cell? ⟨w.heap.size, 0, none⟩ = some (.int .i64 P.S) ∧ w'.cell? ⟨w.heap.size, 1, none⟩ = some (.int .i64 P.T) ∧ w'.cell? ⟨w.heap.size, 2, none⟩ = some (.slice A P.n c) ∧ w'.cell? ⟨w.heap.size, 3, none⟩ = some (.slice B P.m d) ∧ w'.cell? ⟨w.heap.size, 4, none⟩ = some (.int .i64 P.T) ∧ w'.cell? ⟨w.heap.size, 5, none⟩ = some (.int .i64 P.S) ∧ w'.cell? ⟨w.heap.size, 6, none⟩ = some (.slice C (P.T * P.S) e'))
    (first
      | with_reducible exact hSu)
    (first
      | (go_at_call 73
         with_reducible refine Calls.mono (HTh.out _ hbx) ?_
         rintro e u ⟨k1, d1, rfl, hk1, hr1, hbu⟩
         have hr1 := Lib.hid hr1
         have hk1 : w1.heap.size ≤ k1 := Nat.le_trans hbx.size hk1
         have hbx := hbx.trans (hbu.mono hbx.size)
         have hSu := HS.out _ (hbx.mono hM))
      | (go_at_call 73
         with_reducible refine Calls.mono (HTr.out _ hbx) ?_
         rintro e u ⟨k2, d2, rfl, hk2, hr2, hbu⟩
         have hr2 := Lib.hid hr2
         have hr1 := Lib.hid (hr1.out.below hbu hr1.out.lt)
         have hk2 : w1.heap.size ≤ k2 := Nat.le_trans hbx.size hk2
         have hbx := hbx.trans (hbu.mono hbx.size)
         have hSu := HS.out _ (hbx.mono hM)))
  obtain ⟨w4, rfl⟩ : ∃ w4 : World, w4 = u := ⟨_, rfl⟩
  have B4 := Lib.hid hbx
  have X4 := Lib.hid (X1.out.next hbx)
  have Z4 := Lib.hid (X2.out.next hbx)
  have L4 := Lib.hid (L1.out.trans (hbx.mono L1.out.size))
  have R1 := Lib.hid (hr1.out.congr (f' := fun k => (P.us k : Nat)) fun i hi => by
    obtain ⟨v, _, e, _⟩ := kf_spec (by rw [HK1.out]; exact hi)
    show kf _ _ _ _ = ((kf _ _ _ _).toNat : Nat)
    rw [e]; rfl)
  have R2 := Lib.hid (hr2.out.congr (f' := fun k => (P.vs k : Nat)) fun i hi => by
    obtain ⟨v, _, e, _⟩ := kf_spec (by rw [HK2.out]; exact hi)
    show kf _ _ _ _ = ((kf _ _ _ _).toNat : Nat)
    rw [e]; rfl)
  have hk10 := Lib.hid hk1
  have hk20 := Lib.hid hk2
  have x4l := Lib.hid X4.out.lt
  have z4l := Lib.hid Z4.out.lt
  have hlo := Lib.hid hsz1
  have h4s := Lib.hid hbx.size
  have HD4 := Lib.hid (fun v (h : Below w4.heap.size w4 v) => HDv.out v (hbx.trans (h.mono hbx.size)))
  clear hr1 hr2 hk1 hk2 hbx hbu hSu HTh HTr
  have HS2 : Hid (∀ w', Below w4.heap.size w4 w' → w'.cell? ⟨w.heap.size, 2, none⟩ = some (.slice A P.n c) ∧ w'.cell? ⟨w.heap.size, 3, none⟩ = some (.slice B P.m d)) := Lib.hid (fun w' h => by
    have y1 := (X4.out.next h).all
    exact ⟨y1.2.2.1, y1.2.2.2.1⟩)
  have hz := Below.refl w4.heap.size w4
  have hE := Lib.hid hz.drew
  have hD := Lib.hid ((hz.alloc (Nat.le_refl _) (.cells #[.int .i64 0, .int .i64 0, .slice none 0 0, .slice none 0 0, .int .i64 0, .int .i64 0, .slice none 0 0] 30)).drew)
  have jD : Hid (DBox ((w4.alloc (.cells #[.int .i64 0, .int .i64 0, .slice none 0 0, .slice none 0 0, .int .i64 0, .int .i64 0, .slice none 0 0] 30)).drew) w4.heap.size Dr.zero) := Lib.hid (DBox.new w4 Dr.zero).drew
  have sD := Lib.hid (show ((w4.alloc (.cells #[.int .i64 0, .int .i64 0, .slice none 0 0, .slice none 0 0, .int .i64 0, .int .i64 0, .slice none 0 0] 30)).drew).heap.size = w4.heap.size + 1 by simp)
  have hSE := HS2.out _ hE.out
  have hSD := HS2.out _ hD.out
  have HP1 := Lib.hid (fun v (h : Below w4.heap.size w4 v) => rplaces_row A (some ⟨k1, 0, none⟩) P.n K1 c d1 P.thr (fun k => (P.us k : Nat)) v ((iholds_congr (HD4.out v h).th fun i hi => EF.out i hi).more (Nat.le_trans L4.out.size h.size)) ((R1.out.below h R1.out.lt).holds (R1.out.below h R1.out.lt).lt) (by omega) (by omega) (by omega))
  have HP2 := Lib.hid (fun v (h : Below w4.heap.size w4 v) => rplaces_row B (some ⟨k2, 0, none⟩) P.m K2 d d2 P.trd (fun k => (P.vs k : Nat)) v ((iholds_congr (HD4.out v h).tr fun i hi => EG.out i hi).more (Nat.le_trans L4.out.size h.size)) ((R2.out.below h R2.out.lt).holds (R2.out.below h R2.out.lt).lt) (by omega) (by omega) (by omega))
  have HZR := Lib.hid (fun v (h : Below w4.heap.size w4 v) => zero_row K2 K1 (by omega) (by omega) v)
  clear hz
  go_upto_region 4 with fail
  go_cut [6] (fun p wx => ∃ j k p1 q1 p2 q2, p = .pointer (some ⟨j, 0, none⟩) ∧ Mk w4 wx j k (K2 * K1) ⟨K1, K2, some ⟨p1, 0, none⟩, P.n, q1, some ⟨p2, 0, none⟩, P.m, q2, K2, K1, some ⟨k, 0, none⟩, K2 * K1, K2 * K1, fun _ => 0, fun _ => 0, fun _ => false⟩ ∧ Pl2 w4 wx p1 p2 k P.n P.m (fun i => plc (fun k => (P.us k : Nat)) (P.thr i) K1) (fun i => plc (fun k => (P.vs k : Nat)) (P.trd i) K2))
  case first =>
    go_region_held3 (fun w' => w'.cell? ⟨w.heap.size, 2, none⟩ = some (.slice A P.n c) ∧ w'.cell? ⟨w.heap.size, 3, none⟩ = some (.slice B P.m d))
      (first
        | with_reducible exact hSu
        | with_reducible exact hSv
        | with_reducible exact hSE
        | with_reducible exact hSD
        | with_reducible exact HS2.out _ (hbx.alloc hbx.size _)
        | with_reducible exact HS2.out _ (set7_keep hr0 hbx))
      (first
        | (go_at_call 74
           with_reducible refine Calls.mono (HP1.out _ ?_) ?_
           first | with_reducible exact hE.out | with_reducible exact hD.out
           rintro e u1 ⟨p1, q1, rfl, hk, hrw, hbu⟩
           have hrp1 := Lib.hid hrw
           have hlp1 := Lib.hid hrw.lt
           have hks : w4.heap.size ≤ p1 := (by first | with_reducible exact Nat.le_trans hE.out.size hk | with_reducible exact Nat.le_trans hD.out.size hk)
           have hbx : Below w4.heap.size w4 u1 := (by first | with_reducible exact hE.out.trans (hbu.mono hE.out.size) | with_reducible exact hD.out.trans (hbu.mono hD.out.size))
           first
             | (have hj := Lib.hid (show DBox u1 w4.heap.size Dr.zero from (by with_reducible exact jD.out.next hbu))
                have hr0 := Nat.le_refl w4.heap.size
                have hru : w4.heap.size < u1.heap.size := (by have := hbu.size; rw [sD.out] at this; omega)
                have hrkp1 : p1 ≠ w4.heap.size := (by have := hk; rw [sD.out] at this; omega))
             | skip
           have hSu := HS2.out _ hbx
           have hSv := HS2.out (u1.alloc (.cells #[.int .i64 0, .int .i64 0, .slice none 0 0, .slice none 0 0, .int .i64 0, .int .i64 0, .slice none 0 0] 30)) (hbx.alloc hbx.size _)
           clear hbu hrw hk)
        | (go_at_call 74
           with_reducible refine Calls.mono (HP2.out _ ?_) ?_
           first | with_reducible exact hbx | with_reducible exact hbx.alloc hbx.size _
           rintro e u2 ⟨p2, q2, rfl, hk, hrw, hbu⟩
           have hl1u := Lib.hid (show p1 < u2.heap.size from (by first | with_reducible exact Nat.lt_of_lt_of_le hlp1.out hbu.size | exact Nat.lt_of_lt_of_le hlp1.out (Nat.le_trans (by simp) hbu.size)))
           have hrp2 := Lib.hid hrw
           have hlp2 := Lib.hid hrw.lt
           first
             | (have hbx' : Below w4.heap.size w4 u2 := (by with_reducible exact hbx.trans (hbu.mono hbx.size))
                have hksp2 : w4.heap.size ≤ p2 := (by with_reducible exact Nat.le_trans hbx.size hk)
                have hcur : u1.heap.size ≤ p2 := (by with_reducible exact hk)
                have hrp1 := Lib.hid (hrp1.out.below hbu hrp1.out.lt)
                first
                  | (have hrkp2 := Nat.ne_of_gt (Nat.lt_of_lt_of_le hru hcur)
                     have hj := Lib.hid (hj.out.next hbu)
                     have hru := Nat.lt_of_lt_of_le hru hbu.size)
                  | skip
                have hbx := hbx')
             | (have hj := Lib.hid (show DBox u2 u1.heap.size Dr.zero from (DBox.new u1 Dr.zero).next hbu)
                have hr0 := hbx.size
                have hru : u1.heap.size < u2.heap.size := (by have := hbu.size; simp at this; omega)
                have hrkp2 : p2 ≠ u1.heap.size := (by have := hk; simp at this; omega)
                have hrkp1 := Nat.ne_of_lt hlp1.out
                have hrp1 := Lib.hid ((hrp1.out.alloc _).below hbu (hrp1.out.alloc _).lt)
                have hksp2 : w4.heap.size ≤ p2 := (by have := hk; have := hbx.size; simp at *; omega)
                have hbx : Below w4.heap.size w4 u2 := ((hbx.alloc hbx.size _).trans (hbu.mono (hbx.alloc hbx.size _).size)))
           have hSu := HS2.out _ hbx
           have hSv := HS2.out (u2.alloc (.cells #[.int .i64 0, .int .i64 0, .slice none 0 0, .slice none 0 0, .int .i64 0, .int .i64 0, .slice none 0 0] 30)) (hbx.alloc hbx.size _)
           clear hbu hrw hk)
        | (go_at_call 68
           with_reducible refine Calls.mono (HZR.out _ ?_) ?_
           first | with_reducible exact hbx | with_reducible exact hbx.alloc hbx.size _
           rintro e u3 ⟨pk, rfl, hk, hrw, hbu⟩
           have hpku : u2.heap.size ≤ pk := (by first | with_reducible exact hk | exact Nat.le_trans (by simp) hk)
           have hne1 : p1 ≠ pk := (by have := hl1u.out; omega)
           have hne2 : p2 ≠ pk := (by have := hlp2.out; omega)
           have hrpk := Lib.hid hrw
           have hlpk := Lib.hid hrw.lt
           first
             | (have hbx' : Below w4.heap.size w4 u3 := (by with_reducible exact hbx.trans (hbu.mono hbx.size))
                have hkspk : w4.heap.size ≤ pk := (by with_reducible exact Nat.le_trans hbx.size hk)
                have hcur : u2.heap.size ≤ pk := (by with_reducible exact hk)
                have hrp1 := Lib.hid (hrp1.out.below hbu hrp1.out.lt)
                have hrp2 := Lib.hid (hrp2.out.below hbu hrp2.out.lt)
                first
                  | (have hrkpk := Nat.ne_of_gt (Nat.lt_of_lt_of_le hru hcur)
                     have hj := Lib.hid (hj.out.next hbu)
                     have hru := Nat.lt_of_lt_of_le hru hbu.size)
                  | skip
                have hbx := hbx')
             | (have hj := Lib.hid (show DBox u3 u2.heap.size Dr.zero from (DBox.new u2 Dr.zero).next hbu)
                have hr0 := hbx.size
                have hru : u2.heap.size < u3.heap.size := (by have := hbu.size; simp at this; omega)
                have hrkpk : pk ≠ u2.heap.size := (by have := hk; simp at this; omega)
                have hrkp1 := Nat.ne_of_lt hl1u.out
                have hrkp2 := Nat.ne_of_lt hlp2.out
                have hrp1 := Lib.hid ((hrp1.out.alloc _).below hbu (hrp1.out.alloc _).lt)
                have hrp2 := Lib.hid ((hrp2.out.alloc _).below hbu (hrp2.out.alloc _).lt)
                have hkspk : w4.heap.size ≤ pk := (by have := hk; have := hbx.size; simp at *; omega)
                have hbx : Below w4.heap.size w4 u3 := ((hbx.alloc hbx.size _).trans (hbu.mono (hbx.alloc hbx.size _).size)))
           have hSu := HS2.out _ hbx
           have hSv := HS2.out (u3.alloc (.cells #[.int .i64 0, .int .i64 0, .slice none 0 0, .slice none 0 0, .int .i64 0, .int .i64 0, .slice none 0 0] 30)) (hbx.alloc hbx.size _)
           first
             | (obtain ⟨z0, z1, z2, z3, z4, z5, z6⟩ := hj.out.frees
                have tt := hj.out.all
                simp only [Dr.zero] at tt
                obtain ⟨t0, t1, t2, t3, t4, t5, t6, t7⟩ := tt)
             | skip
           clear hbu hrw hk))
    all_goals
      go_wp2_with fail
      go_meet
      first
        | with_reducible exact ⟨_, pk, p1, q1, p2, q2, rfl, Mk.late hkspk hrpk.out hbx, ⟨hrp1.out.alloc _, hrp2.out.alloc _, hks, hksp2, hne1, hne2⟩⟩
        | with_reducible exact ⟨_, pk, p1, q1, p2, q2, rfl, Mk.some_ hj.out hr0 (Ne.symm hrkpk) hkspk hrpk.out hbx, ⟨set7_irow hrp1.out hrkp1, set7_irow hrp2.out hrkp2, hks, hksp2, hne1, hne2⟩⟩
  case rest =>
    obtain ⟨j, k, p1, q1, p2, q2, rfl, hmk, hpl⟩ := hcut
    have MK := Lib.hid hmk
    have PL := Lib.hid hpl
    have hjk := Lib.hid hmk.jk
    have hk := Lib.hid hmk.k0
    have hNk := Lib.hid (show w.heap.size ≠ k from by have := hk.out; have := x4l.out; omega)
    have hZk := Lib.hid (show w.heap.size + 1 ≠ k from by have := hk.out; have := z4l.out; omega)
    have hk1k := Lib.hid (show k1 ≠ k from by have := hk.out; have := R1.out.lt; omega)
    have hk2k := Lib.hid (show k2 ≠ k from by have := hk.out; have := R2.out.lt; omega)
    have HBW := Lib.hid (L4.out.trans (hmk.bel.mono L4.out.size))
    have XN := Lib.hid (X4.out.next hmk.bel)
    have ZN := Lib.hid (Z4.out.next hmk.bel)
    have T1 := Lib.hid (R1.out.below hmk.bel R1.out.lt)
    have T2 := Lib.hid (R2.out.below hmk.bel R2.out.lt)
    clear hmk hpl HS2 hE hD jD sD hSE hSD HP1 HP2 HZR
    go_wp2
    go_loopw [7] (fun i wr => ∃ x : Nat, x ≤ K2 ∧ i = .int .i64 x ∧ Hid (Lp k wc wr (K2 * K1) (cp (· % K2) (· / K2) (fun t s => P.L (P.vs t) (P.us s)) x 0))) (fun i _ => K2 - (intOf i).toNat)
    case atStart => exact ⟨0, Nat.zero_le _, rfl, Lib.hid ⟨But.refl _ _, MK.out.row.congr fun i _ => by rw [cp_zero]⟩⟩
    case round =>
      obtain ⟨x, hx, rfl, hlp⟩ := hrel
      have LP := Lib.hid hlp.out
      clear hlp
      obtain ⟨wo, rfl⟩ : ∃ wo : World, wo = wr := ⟨_, rfl⟩
      by_cases hlx : x < K2
      · have y1 : decide ((x : Int) < (K2 : Int)) = true := by simp; omega
        go_wp2
        go_loopw [8] (fun i wr => ∃ y : Nat, y ≤ K1 ∧ i = .int .i64 y ∧ Hid (Lp k wc wr (K2 * K1) (cp (· % K2) (· / K2) (fun t s => P.L (P.vs t) (P.us s)) x y))) (fun i _ => K1 - (intOf i).toNat)
        case atStart => exact ⟨0, Nat.zero_le _, rfl, LP⟩
        case round =>
          obtain ⟨y, hy, rfl, hlq⟩ := hrel
          have LQ := Lib.hid hlq.out
          clear hlq
          by_cases hly : y < K1
          · have y2 : decide ((y : Int) < (K1 : Int)) = true := by simp; omega
            obtain ⟨tx, htx⟩ : ∃ tx, P.vs x = tx := ⟨_, rfl⟩
            obtain ⟨sy, hsy⟩ : ∃ sy, P.us y = sy := ⟨_, rfl⟩
            have HTX := Lib.hid htx
            have HSY := Lib.hid hsy
            have htT : tx < P.T := by rw [← htx]; exact HAR.out.v0 x hlx
            have hsS : sy < P.S := by rw [← hsy]; exact HAR.out.u0 y hly
            have hwk : w.heap.size ≤ k := by have := hk.out; have := x4l.out; omega
            have HSX : Hid (∀ w', But k wc w' → w'.cell? ⟨w.heap.size, 0, none⟩ = some (.int .i64 P.S) ∧ w'.cell? ⟨w.heap.size, 1, none⟩ = some (.int .i64 P.T) ∧ w'.cell? ⟨w.heap.size, 2, none⟩ = some (.slice A P.n c) ∧ w'.cell? ⟨w.heap.size, 3, none⟩ = some (.slice B P.m d) ∧ w'.cell? ⟨w.heap.size, 4, none⟩ = some (.int .i64 P.T) ∧ w'.cell? ⟨w.heap.size, 5, none⟩ = some (.int .i64 P.S) ∧ w'.cell? ⟨w.heap.size, 6, none⟩ = some (.slice C (P.T * P.S) e') ∧ w'.cell? ⟨j, 4, none⟩ = some (.int .i64 K2) ∧ w'.cell? ⟨j, 5, none⟩ = some (.int .i64 K1) ∧ w'.cell? ⟨j, 6, none⟩ = some (.slice (some ⟨k, 0, none⟩) (K2 * K1) (K2 * K1)) ∧ w'.cell? ⟨k2, x, none⟩ = some (.int .i64 tx) ∧ w'.cell? ⟨k1, y, none⟩ = some (.int .i64 sy)) := Lib.hid (fun w' h => by
              have z1 := (h.dbox XN.out hNk.out).all
              have z2 := (h.dbox MK.out.box hjk.out).all
              have z3 := (h.irow T2.out hk2k.out).cell hlx
              have z4 := (h.irow T1.out hk1k.out).cell hly
              rw [HTX.out] at z3
              rw [HSY.out] at z4
              exact ⟨z1.1, z1.2.1, z1.2.2.1, z1.2.2.2.1, z1.2.2.2.2.1, z1.2.2.2.2.2.1, z1.2.2.2.2.2.2.1, z2.2.2.2.2.1, z2.2.2.2.2.2.1, z2.2.2.2.2.2.2.1, z3, z4⟩)
            have HA := Lib.hid (fun w' (h : But k wc w') => lifts_any (D := ⟨P.S, P.T, A, P.n, c, B, P.m, d, P.T, P.S, C, P.T * P.S, e', f, g, b⟩) HI.out HP.out tx sy htT hsS w' w.heap.size (h.holds (HD.out.ti.below HBW.out) hwk HBW.out.size) (Nat.le_trans HBW.out.size h.size))
            have B1 := Lib.hid (LQ.out.but.trans (But.of ((Below.refl wr.heap.size wr).drew) k))
            have hs1 := HSX.out _ B1.out
            have x1 : (0 : Int) ≤ (x : Int) := by omega
            have x2 : (x : Int) < (K2 : Int) := by omega
            have x3 : (0 : Int) ≤ (y : Int) := by omega
            have x4 : (y : Int) < (K1 : Int) := by omega
            have hdr := Lib.hid (LQ.out.next ((Below.refl wr.heap.size wr).drew))
            have hfe := Lib.hid (show P.L (P.vs x) (P.us y) = P.L tx sy by rw [htx, hsy])
            clear htx hsy
            go_wp2
            go_region_held3 (fun w' => w'.cell? ⟨w.heap.size, 0, none⟩ = some (.int .i64 P.S) ∧ w'.cell? ⟨w.heap.size, 1, none⟩ = some (.int .i64 P.T) ∧ w'.cell? ⟨w.heap.size, 2, none⟩ = some (.slice A P.n c) ∧ w'.cell? ⟨w.heap.size, 3, none⟩ = some (.slice B P.m d) ∧ w'.cell? ⟨w.heap.size, 4, none⟩ = some (.int .i64 P.T) ∧ w'.cell? ⟨w.heap.size, 5, none⟩ = some (.int .i64 P.S) ∧ w'.cell? ⟨w.heap.size, 6, none⟩ = some (.slice C (P.T * P.S) e') ∧ w'.cell? ⟨j, 4, none⟩ = some (.int .i64 K2) ∧ w'.cell? ⟨j, 5, none⟩ = some (.int .i64 K1) ∧ w'.cell? ⟨j, 6, none⟩ = some (.slice (some ⟨k, 0, none⟩) (K2 * K1) (K2 * K1)) ∧ w'.cell? ⟨k2, x, none⟩ = some (.int .i64 tx) ∧ w'.cell? ⟨k1, y, none⟩ = some (.int .i64 sy))
              (first
                | with_reducible exact hs1
                | with_reducible exact hs2
                | with_reducible exact hs3)
              (first
                | (go_at_call 70
                   with_reducible refine Calls.mono (HA.out _ B1.out) ?_
                   rintro e u ⟨rfl, hbu⟩
                   have LU := Lib.hid (hdr.out.next hbu)
                   have hs2 := HSX.out _ LU.out.but)
                | (go_at_call 69
                   refine (set_nat K2 K1 k (K2 * K1) x y _ _ _ LU.out.row (by omega) (by omega) x y rfl rfl hlx hly).mono ?_
                   rintro e v ⟨rfl, hrv, hbv⟩
                   have LV := Lib.hid (LU.out.wrote hbv hrv)
                   have hs3 := HSX.out _ LV.out.but))
            all_goals
              go_wp2
              refine ⟨⟨y + 1, by omega, by go_num, Lib.hid (LV.out.congr fun i hi => ?_)⟩, by simp [intOf]; omega⟩
              rw [← hfe.out]
              exact cp_succ (G := fun t s => P.L (P.vs t) (P.us s)) (plain_at hlx hi)
          · have e : y = K1 := by omega
            subst e
            have y2 : decide ((y : Int) < (y : Int)) = false := by simp
            go_wp2
            exact ⟨⟨x + 1, by omega, by go_num, Lib.hid (LQ.out.congr fun i hi => cp_next (div_bd hi))⟩, by simp [intOf]; omega⟩
      · have e : x = K2 := by omega
        have y1 : decide ((x : Int) < (K2 : Int)) = false := by simp; omega
        have JO := Lib.hid (LP.out.but.dbox MK.out.box hjk.out)
        have ZO := Lib.hid (LP.out.but.dbox ZN.out hZk.out)
        have tt := ZO.out.all
        have zf := ZO.out.frees
        simp only [Dr.zero] at tt
        obtain ⟨t0, t1, t2, t3, t4, t5, t6, t7⟩ := tt
        obtain ⟨g0, g1, g2, g3, g4, g5, g6⟩ := zf
        have rr := JO.out.all
        dsimp only at rr
        obtain ⟨r0, r1, r2, r3, r4, r5, r6, r7⟩ := rr
        have hs2 : w.heap.size + 2 ≤ w4.heap.size := by have := hlo.out; have := h4s.out; omega
        have HR3 : Hid (Rows3 wo (w.heap.size + 2) (P.arr K1 K2 P.us P.vs) p1 p2 k) := Lib.hid ⟨Nat.le_trans hs2 PL.out.b1, Nat.le_trans hs2 PL.out.b2, Nat.le_trans hs2 hk.out,
          (LP.out.but.irow PL.out.r1 PL.out.n1).congr fun i hi => by
            obtain ⟨j, e, _, _⟩ := plc_nat (HAR.out.f i hi)
            show plc _ (P.F i : Nat) K1 = ((plc _ _ K1).toNat : Nat)
            rw [e]; rfl,
          (LP.out.but.irow PL.out.r2 PL.out.n2).congr fun i hi => by
            obtain ⟨j, e, _, _⟩ := plc_nat (HAR.out.g i hi)
            show plc _ (P.G i : Nat) K2 = ((plc _ _ K2).toNat : Nat)
            rw [e]; rfl,
          LP.out.row.congr fun i hi => by
            rw [e]
            exact cp_all (Nat.mod_lt _ (by omega))⟩
        have HBE := Lib.hid (LP.out.but.below (w0 := w) HBW.out (by have := hk.out; have := x4l.out; omega))
        clear hs2
        go_wp2
        refine bodyPost_ret (v := .tuple #[.agg #[.int .i64 K1, .int .i64 K2, .slice (some ⟨p1, 0, none⟩) P.n q1, .slice (some ⟨p2, 0, none⟩) P.m q2, .int .i64 K2, .int .i64 K1, .slice (some ⟨k, 0, none⟩) (K2 * K1) (K2 * K1)], .int .i64 0]) (by simp [results, Try.results33, go_sem, t0, t1, t2, t3, t4, t5, t6]) rfl ?_
        rw [HPR.out]
        refine ⟨p1, q1, p2, q2, k, K2 * K1, rfl, ?_, ?_⟩
        · exact (set7_rows (by omega) HR3.out).lower (by omega)
        · exact set7_below (by omega) HBE.out
end Go.Proofs.Ytbafhdinalapoaa
