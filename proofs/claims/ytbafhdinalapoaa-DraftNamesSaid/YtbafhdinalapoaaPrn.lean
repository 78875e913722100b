/- The program's Prune. -/
import Derived.Test.YtbafhdinalapoaaUsd
import Derived.Test.YtbafhdinalapoaaArw
import Derived.Test.YtbafhdinalapoaaLmt
namespace Go.Proofs.Ytbafhdinalapoaa
open Go.RowKit
set_option linter.unusedVariables false
set_option linter.unusedSimpArgs false
set_option maxRecDepth 100000

open L2 (plc fst)
theorem kf_spec {f : Nat → Int} {m N k : Nat} (hk : k < kc f m N) : ∃ v : Nat, v < N ∧ kf f m N k = v ∧ fst f v m < m := by
  have h1 := kl_get f m N k hk
  have h2 : kf f m N k ∈ kl f m N := List.mem_of_getElem? h1
  obtain ⟨v, hv, e, hs⟩ := ((kl_props f m N).2 _).1 h2
  exact ⟨v, hv, e, hs⟩
theorem kf_has {f : Nat → Int} {m N i : Nat} (hi : i < m) (h : 0 ≤ f i ∧ f i < N) : ∃ k, k < kc f m N ∧ kf f m N k = f i := by
  have h2 : f i ∈ kl f m N := ((kl_props f m N).2 _).2 ⟨(f i).toNat, by omega, (Int.toNat_of_nonneg h.1).symm, by rw [Int.toNat_of_nonneg h.1]; exact fst_lt_of hi rfl⟩
  obtain ⟨k, hk, e⟩ := List.mem_iff_getElem.1 h2
  have hk' : k < kc f m N := by rw [← kl_len]; exact hk
  have h3 := kl_get f m N k hk'
  rw [List.getElem?_eq_getElem hk, e] at h3
  injection h3 with h3
  exact ⟨k, hk', h3.symm⟩
def PD.thr (P : PD) : Nat → Int := fun i => (P.F i : Nat)
def PD.trd (P : PD) : Nat → Int := fun i => (P.G i : Nat)
def PD.us (P : PD) : Nat → Nat := fun k => (kf P.thr P.n P.S k).toNat
def PD.vs (P : PD) : Nat → Nat := fun k => (kf P.trd P.m P.T k).toNat
/-- The draft pruned. -/
def PD.prune (P : PD) : PD := P.arr (kc P.thr P.n P.S) (kc P.trd P.m P.T) P.us P.vs
theorem prune_arr {P : PD} (hP : P.Ok) : Arr P (kc P.thr P.n P.S) (kc P.trd P.m P.T) P.us P.vs := by
  have h1 := kc_le P.thr P.n P.S
  have h2 := kc_le P.trd P.m P.T
  have h3 := hP.s1
  have h4 := hP.t1
  refine ⟨by omega, by omega, fun k hk => ?_, fun k hk => ?_, fun i hi => ?_, fun i hi => ?_⟩
  · obtain ⟨v, hv, e, _⟩ := kf_spec hk
    show (kf _ _ _ _).toNat < _
    rw [e]; exact hv
  · obtain ⟨v, hv, e, _⟩ := kf_spec hk
    show (kf _ _ _ _).toNat < _
    rw [e]; exact hv
  · have := hP.f i hi
    obtain ⟨k, hk, e⟩ := kf_has (f := P.thr) (N := P.S) hi (by unfold PD.thr; omega)
    exact ⟨k, hk, by show (kf _ _ _ _).toNat = _; rw [e]; rfl⟩
  · have := hP.g i hi
    obtain ⟨k, hk, e⟩ := kf_has (f := P.trd) (N := P.T) hi (by unfold PD.trd; omega)
    exact ⟨k, hk, by show (kf _ _ _ _).toNat = _; rw [e]; rfl⟩
theorem PD.prune_ok {P : PD} (hP : P.Ok) : P.prune.Ok := (prune_arr hP).ok hP

set_option maxHeartbeats 800000 in
theorem prune_err {D : Dr} {err : Int} (hz : D.ck = err) (hne : (err != 0) = true) (hs : D.Small) (w : World) (hd : D.In w w.heap.size) :
    Calls Try.prog 15 #[.agg #[.int .i64 D.S, .int .i64 D.T, .slice D.A D.n D.c, .slice D.B D.m D.d, .int .i64 D.W, .int .i64 D.H, .slice D.C D.k D.e]] w (ErrDr w err) := by
  have HC := Lib.hid (dck_is hz hs _ (dstart3 hd))
  clear hz hs hd
  go_enter Try.func15, Try.ntmps15
  go_wp2_with fail
  refine HC.out.mono ?_
  rintro e w1 ⟨rfl, hb1⟩
  obtain ⟨hbox1, hbox2, hbel1, hsz1⟩ := dafter3 hb1
  clear hb1
  have hb := hbox2.all
  have hf := hbox2.frees
  simp only [Dr.zero] at hb
  obtain ⟨p0, p1, p2, p3, p4, p5, p6, p7⟩ := hb
  obtain ⟨f0, f1, f2, f3, f4, f5, f6⟩ := hf
  have HB := Lib.hid hbel1
  clear hbox1 hbox2 hbel1
  go_wp2
  refine bodyPost_ret (v := .tuple #[.agg #[.int .i64 0, .int .i64 0, .slice none 0 0, .slice none 0 0, .int .i64 0, .int .i64 0, .slice none 0 0], .int .i64 err]) (by simp [results, Try.results15, go_sem, p0, p1, p2, p3, p4, p5, p6]) rfl ?_
  exact dfin_err (by omega) HB.out

set_option maxHeartbeats 1600000 in
theorem prune_ok {D : Dr} {P : PD} (hI : D.Is P) (hP : P.Ok) (w : World) (hd : D.In w w.heap.size) :
    Calls Try.prog 15 #[.agg #[.int .i64 D.S, .int .i64 D.T, .slice D.A D.n D.c, .slice D.B D.m D.d, .int .i64 D.W, .int .i64 D.H, .slice D.C D.k D.e]] w (OkDr w P.prune) := by
  have HC := Lib.hid (dck_is (hI.ck hP) (hI.small hP) _ (dstart3 hd))
  have HD := Lib.hid hd
  have HI := Lib.hid hI
  have HP := Lib.hid hP
  obtain ⟨S, T, A, n, c, B, m, d, W, H, C, kk, e', f, g, b⟩ := D
  obtain ⟨eS, eT, en, em, eW, eH, ek, ef, eg, eb⟩ := hI
  obtain ⟨p1, p2, p3, p4, p5, p6, p7, p8, pf, pg⟩ := hP
  dsimp only at *
  subst eS eT en em eW eH ek
  have EF := Lib.hid ef
  have EG := Lib.hid eg
  have PF := Lib.hid pf
  have PG := Lib.hid pg
  clear ef eg eb hd pf pg
  go_enter Try.func15, Try.ntmps15
  go_wp2_with fail
  refine HC.out.mono ?_
  rintro e w1 ⟨rfl, hb1⟩
  obtain ⟨hbox1, hbox2, hbel1, hsz1⟩ := dafter3 (D := ⟨P.S, P.T, A, P.n, c, B, P.m, d, P.T, P.S, C, P.T * P.S, e', f, g, b⟩) hb1
  clear hb1 HC
  have X1 := Lib.hid hbox1
  have X2 := Lib.hid hbox2
  have L1 := Lib.hid hbel1
  clear hbox1 hbox2 hbel1
  have HS : Hid (∀ w', Below (w.heap.size + 1) w1 w' → w'.cell? ⟨w.heap.size, 0, none⟩ = some (.int .i64 P.S) ∧ w'.cell? ⟨w.heap.size, 1, none⟩ = some (.int .i64 P.T) ∧ w'.cell? ⟨w.heap.size, 2, none⟩ = some (.slice A P.n c) ∧ w'.cell? ⟨w.heap.size, 3, none⟩ = some (.slice B P.m d) ∧ w'.cell? ⟨w.heap.size, 4, none⟩ = some (.int .i64 P.T) ∧ w'.cell? ⟨w.heap.size, 5, none⟩ = some (.int .i64 P.S) ∧ w'.cell? ⟨w.heap.size, 6, none⟩ = some (.slice C (P.T * P.S) e')) := Lib.hid (fun w' h => by
    have y1 := (X1.out.below h (by omega)).all
    exact ⟨y1.1, y1.2.1, y1.2.2.1, y1.2.2.2.1, y1.2.2.2.2.1, y1.2.2.2.2.2.1, y1.2.2.2.2.2.2.1⟩)
  have hM : w.heap.size + 1 ≤ w1.heap.size := by omega
  have HDv := Lib.hid (fun v (h : Below w1.heap.size w1 v) => (show Dr.In v v.heap.size ⟨P.S, P.T, A, P.n, c, B, P.m, d, P.T, P.S, C, P.T * P.S, e', f, g, b⟩ from (HD.out.below (L1.out.trans (h.mono L1.out.size))).more (Nat.le_trans L1.out.size h.size)))
  have HTh := Lib.hid (fun v (h : Below w1.heap.size w1 v) => used_any A P.n c P.S P.thr v (iholds_congr (HDv.out v h).th fun i hi => EF.out i hi) (by omega) (by omega) (fun i hi => by have := PF.out i hi; unfold PD.thr; omega))
  have HTr := Lib.hid (fun v (h : Below w1.heap.size w1 v) => used_any B P.m d P.T P.trd v (iholds_congr (HDv.out v h).tr fun i hi => EG.out i hi) (by omega) (by omega) (fun i hi => by have := PG.out i hi; unfold PD.trd; omega))
  have hbx : Below w1.heap.size w1 w1.drew := (Below.refl _ _).drew
  have hSu := HS.out _ (hbx.mono hM)
  obtain ⟨K1, hK1⟩ : ∃ K, kc P.thr P.n P.S = K := ⟨_, rfl⟩
  obtain ⟨K2, hK2⟩ : ∃ K, kc P.trd P.m P.T = K := ⟨_, rfl⟩
  have HK1 := Lib.hid hK1
  have HK2 := Lib.hid hK2
  rw [hK1] at HTh
  rw [hK2] at HTr
  have hARR := prune_arr HP.out
  rw [hK1, hK2] at hARR
  have HAR := Lib.hid hARR
  have hPR : P.prune = P.arr K1 K2 P.us P.vs := by unfold PD.prune; rw [hK1, hK2]
  have HPR := Lib.hid hPR
  clear hARR hPR
  clear hK1 hK2
  go_wp2
  go_region_held3 (fun w' => w'.cell? ⟨w.heap.size, 0, none⟩ = some (.int .i64 P.S) ∧ w'.cell? ⟨w.heap.size, 1, none⟩ = some (.int .i64 P.T) ∧ w'.cell? ⟨w.heap.size, 2, none⟩ = some (.slice A P.n c) ∧ w'.cell? ⟨w.heap.size, 3, none⟩ = some (.slice B P.m d) ∧ w'.cell? ⟨w.heap.size, 4, none⟩ = some (.int .i64 P.T) ∧ w'.cell? ⟨w.heap.size, 5, none⟩ = some (.int .i64 P.S) ∧ w'.cell? ⟨w.heap.size, 6, none⟩ = some (.slice C (P.T * P.S) e'))
    (first
      | with_reducible exact hSu
      | (have hm : Below (w.heap.size + 1) w1 u := hbx.mono hM
         exact HS.out _ (set7_keep (r := w.heap.size + 1) (Nat.le_refl _) hm)))
    (first
      | (go_at_call 60
         with_reducible refine Calls.mono (HTh.out _ hbx) ?_
         rintro e u ⟨k1, d1, rfl, hk1, hr1, hbu⟩
         have hr1 := Lib.hid hr1
         have hbx := hbx.trans (hbu.mono hbx.size)
         have hSu := HS.out _ (hbx.mono hM))
      | (go_at_call 60
         with_reducible refine Calls.mono (HTr.out _ hbx) ?_
         rintro e u ⟨k2, d2, rfl, hk2, hr2, hbu⟩
         have hr2 := Lib.hid hr2
         have hr1 := Lib.hid (hr1.out.below hbu hr1.out.lt)
         have hbx := hbx.trans (hbu.mono hbx.size)
         have hSu := HS.out _ (hbx.mono hM))
      | (go_at_call 59
         refine (arrange_any (D := ⟨P.S, P.T, A, P.n, c, B, P.m, d, P.T, P.S, C, P.T * P.S, e', f, g, b⟩) HI.out HP.out K1 K2 P.us P.vs HAR.out (some ⟨k1, 0, none⟩) (some ⟨k2, 0, none⟩) d1 d2 _ (HDv.out _ hbx) ((hr1.out.congr fun i hi => by
            obtain ⟨v, _, e, _⟩ := kf_spec (by rw [HK1.out]; exact hi)
            show kf _ _ _ _ = ((kf _ _ _ _).toNat : Nat)
            rw [e]; rfl).holds hr1.out.lt) ((hr2.out.congr fun i hi => by
            obtain ⟨v, _, e, _⟩ := kf_spec (by rw [HK2.out]; exact hi)
            show kf _ _ _ _ = ((kf _ _ _ _).toNat : Nat)
            rw [e]; rfl).holds hr2.out.lt)).mono ?_
         rintro e u ⟨ra, ca, rb, cb, rc, cc, rfl, hrows, hbu⟩
         have hrs := Nat.le_trans hsz1 hbx.size
         have hbx := hbx.trans (hbu.mono hbx.size)
         have hSu := HS.out _ (hbx.mono hM)
         obtain ⟨z0, z1, z2, z3, z4, z5, z6⟩ := (X2.out.next hbx).frees
         have tt := (X2.out.next hbx).all
         simp only [Dr.zero] at tt
         obtain ⟨t0, t1, t2, t3, t4, t5, t6, t7⟩ := tt))
  all_goals
    have HR3 := Lib.hid hrows
    have HB3 := Lib.hid (L1.out.trans (hbx.mono L1.out.size))
    have hlo := Lib.hid hsz1
    clear hrows hr1 hr2 hbx hbu z0 z1 z2 z3 z4 z5 z6 t7 hSu
    go_wp2
    refine bodyPost_ret (v := .tuple #[.agg #[.int .i64 ((P.arr K1 K2 P.us P.vs).S : Nat), .int .i64 ((P.arr K1 K2 P.us P.vs).T : Nat), .slice (some ⟨ra, 0, none⟩) (P.arr K1 K2 P.us P.vs).n ca, .slice (some ⟨rb, 0, none⟩) (P.arr K1 K2 P.us P.vs).m cb, .int .i64 ((P.arr K1 K2 P.us P.vs).T : Nat), .int .i64 ((P.arr K1 K2 P.us P.vs).S : Nat), .slice (some ⟨rc, 0, none⟩) ((P.arr K1 K2 P.us P.vs).T * (P.arr K1 K2 P.us P.vs).S) cc], .int .i64 0]) (by simp [results, Try.results15, go_sem, t0, t1, t2, t3, t4, t5, t6]) rfl ⟨ra, ca, rb, cb, rc, cc, by rw [HPR.out], ?_, ?_⟩
    · rw [HPR.out]
      exact (set7_rows (show w.heap.size + 1 < w.heap.size + 2 by omega) (HR3.out.lower (by omega))).lower (by omega)
    · exact set7_below (by omega) HB3.out
end Go.Proofs.Ytbafhdinalapoaa
