/- The reference's Turn and places; its Prune where it refuses. -/
import Derived.Test.YtbafhdinalapoaaGmk
import Derived.Test.YtbafhdinalapoaaTwn
import Derived.Test.YtbafhdinalapoaaDtn
namespace Go.Proofs.Ytbafhdinalapoaa
open Go.RowKit
set_option linter.unusedVariables false
set_option linter.unusedSimpArgs false
set_option maxRecDepth 100000

set_option maxHeartbeats 800000 in
theorem rturn_err {D : Dr} {err : Int} (hz : D.ck = err) (hne : (err != 0) = true) (hs : D.Small) (w : World) (hd : D.In w w.heap.size) :
    Calls Try.prog 32 #[.agg #[.int .i64 D.S, .int .i64 D.T, .slice D.A D.n D.c, .slice D.B D.m D.d, .int .i64 D.W, .int .i64 D.H, .slice D.C D.k D.e]] w (ErrDr w err) := by
  have HC := Lib.hid (rck_is hz hs _ (dstart3 hd))
  have HC2 := Lib.hid (fun v (h : D.In v v.heap.size) => rck_is hz hs v h)
  have HD := Lib.hid hd
  clear hz hs hd
  go_enter Try.func32, Try.ntmps32
  go_wp2_with fail
  refine HC.out.mono ?_
  rintro e w1 ⟨rfl, hb1⟩
  obtain ⟨hbox1, hbox2, hbel1, hsz1⟩ := dafter3 hb1
  clear hb1
  have X1 := Lib.hid hbox1
  have Z1 := Lib.hid hbox2
  have L1 := Lib.hid hbel1
  clear hbox1 hbox2 hbel1
  obtain ⟨q0, q1, q2, q3, q4, q5, q6, q7⟩ := X1.out.all
  go_wp2_with fail
  clear q0 q1 q2 q3 q4 q5 q6 q7
  refine (HC2.out w1 ((HD.out.below L1.out).more L1.out.size)).mono ?_
  rintro e w2 ⟨rfl, hb2⟩
  have Z2 := Lib.hid (Z1.out.next hb2)
  have L2' := Lib.hid (L1.out.trans (hb2.mono L1.out.size))
  clear X1 Z1 L1 hb2
  have tt := Z2.out.all
  have zf := Z2.out.frees
  simp only [Dr.zero] at tt
  obtain ⟨t0, t1, t2, t3, t4, t5, t6, t7⟩ := tt
  obtain ⟨g0, g1, g2, g3, g4, g5, g6⟩ := zf
  have HB := Lib.hid L2'.out
  go_wp2
  refine bodyPost_ret (v := .tuple #[.agg #[.int .i64 0, .int .i64 0, .slice none 0 0, .slice none 0 0, .int .i64 0, .int .i64 0, .slice none 0 0], .int .i64 err]) (by simp [results, Try.results32, go_sem, t0, t1, t2, t3, t4, t5, t6]) rfl ?_
  exact dfin_err (by omega) HB.out

set_option maxHeartbeats 2000000 in
theorem rturn_ok {D : Dr} {P : PD} (hI : D.Is P) (hP : P.Ok) (w : World) (hd : D.In w w.heap.size) :
    Calls Try.prog 32 #[.agg #[.int .i64 D.S, .int .i64 D.T, .slice D.A D.n D.c, .slice D.B D.m D.d, .int .i64 D.W, .int .i64 D.H, .slice D.C D.k D.e]] w (OkDr w P.turn) := by
  have HC := Lib.hid (rck_is (hI.ck hP) (hI.small hP) _ (dstart3 hd))
  have HD := Lib.hid hd
  have HI := Lib.hid hI
  have HP := Lib.hid hP
  obtain ⟨S, T, A, n, c, B, m, d, W, H, C, kk, e', f, g, b⟩ := D
  obtain ⟨eS, eT, en, em, eW, eH, ek, ef, eg, eb⟩ := hI
  obtain ⟨p1, p2, p3, p4, p5, p6, p7, p8, pf, pg⟩ := hP
  dsimp only at *
  subst eS eT en em eW eH ek
  have EF := Lib.hid ef
  have EG := Lib.hid eg
  have EB := Lib.hid eb
  clear ef eg eb hd pf pg
  go_enter Try.func32, Try.ntmps32
  go_wp2_with fail
  refine HC.out.mono ?_
  rintro e w1 ⟨rfl, hb1⟩
  obtain ⟨hbox1, hbox2, hbel1, hsz1⟩ := dafter3 (D := ⟨P.S, P.T, A, P.n, c, B, P.m, d, P.T, P.S, C, P.T * P.S, e', f, g, b⟩) hb1
  clear hb1 HC
  have X1 := Lib.hid hbox1
  have X2 := Lib.hid hbox2
  have L1 := Lib.hid hbel1
  clear hbox1 hbox2 hbel1
  have HS : Hid (∀ w', Below (w.heap.size + 1) w1 w' → w'.cell? ⟨w.heap.size, 0, none⟩ = some (.int .i64 P.S) ∧ w'.cell? ⟨w.heap.size, 1, none⟩ = some (.int .i64 P.T) ∧ w'.cell? ⟨w.heap.size, 2, none⟩ = some (.slice A P.n c) ∧ w'.cell? ⟨w.heap.size, 3, none⟩ = some (.slice B P.m d) ∧ w'.cell? ⟨w.heap.size, 4, none⟩ = some (.int .i64 P.T) ∧ w'.cell? ⟨w.heap.size, 5, none⟩ = some (.int .i64 P.S) ∧ w'.cell? ⟨w.heap.size, 6, none⟩ = some (.slice C (P.T * P.S) e')) := Lib.hid (fun w' h => by
    have y1 := (X1.out.below h (by omega)).all
    exact ⟨y1.1, y1.2.1, y1.2.2.1, y1.2.2.2.1, y1.2.2.2.2.1, y1.2.2.2.2.2.1, y1.2.2.2.2.2.2.1⟩)
  have hM : w.heap.size + 1 ≤ w1.heap.size := by omega
  have HDv := Lib.hid (fun v (h : Below w1.heap.size w1 v) => (show Dr.In v w.heap.size ⟨P.S, P.T, A, P.n, c, B, P.m, d, P.T, P.S, C, P.T * P.S, e', f, g, b⟩ from HD.out.below (L1.out.trans (h.mono L1.out.size))))
  obtain ⟨q0, q1, q2, q3, q4, q5, q6, q7⟩ := X1.out.all
  dsimp only at q0 q1 q2 q3 q4 q5 q6
  go_wp2
  clear q0 q1 q2 q3 q4 q5 q6 q7
  have hbx : Below w1.heap.size w1 w1.drew := (Below.refl _ _).drew
  have hSu := HS.out _ (hbx.mono hM)
  have hb1 : Below w1.heap.size w1 (w1.alloc (.cells #[] 3)).drew := ((Below.refl _ _).alloc (Nat.le_refl _) _).drew
  have hb2 : Below w1.heap.size w1 ((w1.alloc (.cells #[] 3)).alloc (.cells #[] 3)).drew := (((Below.refl _ _).alloc (Nat.le_refl _) _).alloc (by simp) _).drew
  have hSv := HS.out _ (hb1.mono hM)
  have hSw := HS.out _ (hb2.mono hM)
  go_region_held3 (fun w' => w'.cell? ⟨w.heap.size, 0, none⟩ = some (.int .i64 P.S) ∧ w'.cell? ⟨w.heap.size, 1, none⟩ = some (.int .i64 P.T) ∧ w'.cell? ⟨w.heap.size, 2, none⟩ = some (.slice A P.n c) ∧ w'.cell? ⟨w.heap.size, 3, none⟩ = some (.slice B P.m d) ∧ w'.cell? ⟨w.heap.size, 4, none⟩ = some (.int .i64 P.T) ∧ w'.cell? ⟨w.heap.size, 5, none⟩ = some (.int .i64 P.S) ∧ w'.cell? ⟨w.heap.size, 6, none⟩ = some (.slice C (P.T * P.S) e'))
    (first
      | with_reducible exact hSu
      | with_reducible exact hSv
      | with_reducible exact hSw
      | (have hm : Below (w.heap.size + 1) w1 _ := hbx.mono hM
         exact HS.out _ (set7_keep (r := w.heap.size + 1) (Nat.le_refl _) hm)))
    (first
      | (refine step_cat rfl (.tmp 14) (.tmp 16) rfl _ rfl rfl (HDv.out _ ?_).tr (by first | omega | (dsimp only; omega)) ?_
         first | with_reducible exact hb1 | with_reducible exact hb2
         intro kb cb u1 hrb hbu
         have hkb : w1.heap.size ≤ kb := Nat.le_trans (by first | with_reducible exact hb1.size | with_reducible exact hb2.size) (hrb (by first | omega | (dsimp only; omega))).2
         have hrb := Lib.hid (hrb (by first | omega | (dsimp only; omega))).1
         have hbx : Below w1.heap.size w1 u1 := (by first | with_reducible exact hb1.trans (hbu.mono hb1.size) | with_reducible exact hb2.trans (hbu.mono hb2.size))
         have hSu := HS.out _ (hbx.mono hM)
         have hSv := HS.out (u1.alloc (.cells #[] 3)) ((hbx.mono hM).alloc (Nat.le_trans hM hbx.size) _))
      | (refine step_cat rfl (.tmp 18) (.tmp 20) rfl _ rfl rfl (HDv.out _ ?_).th (by first | omega | (dsimp only; omega)) ?_
         first | with_reducible exact hbx | with_reducible exact hbx.alloc hbx.size _
         intro ka ca u2 hra hbu
         have hka : w1.heap.size ≤ ka := Nat.le_trans (by first | with_reducible exact hbx.size | exact Nat.le_trans hbx.size (by simp)) (hra (by first | omega | (dsimp only; omega))).2
         have hra := Lib.hid (hra (by first | omega | (dsimp only; omega))).1
         have hrb := Lib.hid (show L2.Row u2 kb P.m g from (by first | with_reducible exact hrb.out.below hbu hrb.out.lt | exact (hrb.out.alloc _).below hbu (hrb.out.alloc _).lt))
         have hbx : Below w1.heap.size w1 u2 := (by first | with_reducible exact hbx.trans (hbu.mono hbx.size) | exact (hbx.alloc hbx.size _).trans (hbu.mono (Nat.le_trans hbx.size (by simp))))
         have hSu := HS.out _ (hbx.mono hM))
      | (go_at_call 72
         refine (turned_any P.T P.S C e' b _ ((HDv.out _ hbx).ti.more (Nat.le_trans L1.out.size hbx.size)) (by omega) (by omega) (by omega) (by omega)).mono ?_
         rintro e u3 ⟨k, rfl, hk, hrow, hbu⟩
         have hk : w1.heap.size ≤ k := Nat.le_trans hbx.size hk
         have hra := Lib.hid (hra.out.below hbu hra.out.lt)
         have hrb := Lib.hid (hrb.out.below hbu hrb.out.lt)
         have hrow := Lib.hid hrow
         have hbx : Below w1.heap.size w1 u3 := hbx.trans (hbu.mono hbx.size)
         have hSu := HS.out _ (hbx.mono hM)
         obtain ⟨z0, z1, z2, z3, z4, z5, z6⟩ := (X2.out.next hbx).frees
         have tt := (X2.out.next hbx).all
         simp only [Dr.zero] at tt
         obtain ⟨t0, t1, t2, t3, t4, t5, t6, t7⟩ := tt))
  all_goals
    have HR3 := Lib.hid (show Rows3 u3 (w.heap.size + 2) P.turn kb ka k from ⟨by omega, by omega, by omega, hrb.out.congr fun i hi => EG.out i hi, hra.out.congr fun i hi => EF.out i hi, hrow.out.congr fun i hi => by
      have h1 : i % P.S < P.S := Nat.mod_lt _ (by omega)
      have h2 : i / P.S < P.T := Nat.div_lt_of_lt_mul hi
      exact EB.out _ _ h2 h1⟩)
    have HB3 := Lib.hid (L1.out.trans (hbx.mono L1.out.size))
    clear hra hrb hrow hbx hbu z0 z1 z2 z3 z4 z5 z6 t7 hSu
    go_wp2
    refine bodyPost_ret (v := .tuple #[.agg #[.int .i64 P.T, .int .i64 P.S, .slice (some ⟨kb, 0, none⟩) P.m cb, .slice (some ⟨ka, 0, none⟩) P.n ca, .int .i64 P.S, .int .i64 P.T, .slice (some ⟨k, 0, none⟩) (P.S * P.T) (P.S * P.T)], .int .i64 0]) (by simp [results, Try.results32, go_sem, t0, t1, t2, t3, t4, t5, t6]) rfl ⟨kb, cb, ka, ca, k, _, rfl, ?_, ?_⟩
    · exact (set7_rows (by omega) HR3.out).lower (by omega)
    · exact set7_below (by omega) HB3.out

open L2 (plc)
set_option maxHeartbeats 1600000 in
theorem rplaces_any (A D : Option Addr) (n k c d : Nat) (f g : Nat → Int) (w : World) (hr : L2.Holds w w.heap.size A n f) (hs : L2.Holds w w.heap.size D k g) (hn : n ≤ 4096) (hk : k ≤ 5000) :
    Calls Try.prog 74 #[.slice A n c, .slice D k d] w fun e w' => ∃ A' c', e = .returned (.slice A' n c') ∧ (0 < n → ∃ b, A' = some ⟨b, 0, none⟩ ∧ w.heap.size ≤ b ∧ L2.Row w' b n (fun i => plc g (f i) k)) ∧ Below w.heap.size w w' := by
  have HR := Lib.hid hr
  have HS := Lib.hid hs
  obtain ⟨F, hF⟩ : ∃ F : Nat → Int, (fun i => plc g (f i) k) = F := ⟨_, rfl⟩
  have HF := Lib.hid hF
  rw [hF]
  clear hr hs hF
  go_enter Try.func74, Try.ntmps74
  go_wp2
  go_loopw [5, 6] (fun v i wr => ∃ y : Nat, y ≤ n ∧ i = .int .i64 y ∧ L2.Own wr w.heap.size v y F ∧ Hid (Below w.heap.size w wr)) (fun _ i _ => n - (intOf i).toNat)
  case atStart => exact ⟨0, Nat.zero_le _, rfl, L2.Own.nil _ _ _, Lib.hid (Below.refl _ _)⟩
  case round =>
    obtain ⟨y, hy, rfl, hown, hbel⟩ := hrel
    have HB := Lib.hid hbel.out
    clear hbel
    obtain ⟨A', c', rfl, _, hrow⟩ := hown.out
    have HO := Lib.hid hown
    have HRW := Lib.hid hrow
    clear hown hrow
    by_cases hlt : y < n
    · have y1 : decide ((y : Int) < (n : Int)) = true := by simp; omega
      obtain ⟨b, o, rfl, hbl, hc⟩ := (HR.out.below HB.out) (by omega)
      have c1 := hc y hlt
      clear hc
      have x0 : (0 : Int) ≤ (y : Int) := by omega
      have x1 : (y : Int) < (n : Int) := by omega
      have hbs : w.heap.size ≤ wr.heap.size := HB.out.size
      have hp := L2.place_any D k d k g (f y) w.heap.size wr (HS.out.below HB.out) (Nat.le_refl _) hk
      have HP := Lib.hid hp
      have HY := Lib.hid (show F y = plc g (f y) k by rw [← HF.out])
      obtain ⟨x, hx⟩ : ∃ x, f y = x := ⟨_, rfl⟩
      obtain ⟨z, hz⟩ : ∃ z, plc g x k = z := ⟨_, rfl⟩
      rw [hx] at HP HY c1
      rw [hz] at HP HY
      clear hp hx hz
      go_wp2_with fail
      refine HP.out.mono ?_
      rintro e w1 ⟨rfl, rfl⟩
      go_wp2_with (at_builtin; refine L2.app1 _ rfl _ _ (by rfl) w.heap.size (by rfl) HO.out z (by rfl) HY.out (by omega) hbs ?_; intro v' w3 hown3 hb3; have HO3 := Lib.hid hown3; have HB3 := Lib.hid hb3; clear hown3 hb3)
      exact ⟨⟨y + 1, by omega, by go_num, HO3.out, Lib.hid (HB.out.trans HB3.out)⟩, by simp [intOf]; omega⟩
    · have e : y = n := by omega
      subst e
      have y1 : decide ((y : Int) < (y : Int)) = false := by simp
      go_wp2
      go_ret
      exact ⟨A', c', rfl, fun h => by obtain ⟨q, e, h1, h2⟩ := HRW.out h; exact ⟨q, e, h1, h2⟩, HB.out⟩

set_option maxHeartbeats 800000 in
theorem rprune_err {D : Dr} {err : Int} (hz : D.ck = err) (hne : (err != 0) = true) (hs : D.Small) (w : World) (hd : D.In w w.heap.size) :
    Calls Try.prog 33 #[.agg #[.int .i64 D.S, .int .i64 D.T, .slice D.A D.n D.c, .slice D.B D.m D.d, .int .i64 D.W, .int .i64 D.H, .slice D.C D.k D.e]] w (ErrDr w err) := by
  have HC := Lib.hid (rck_is hz hs _ (dstart3 hd))
  have HC2 := Lib.hid (fun v (h : D.In v v.heap.size) => rck_is hz hs v h)
  have HD := Lib.hid hd
  clear hz hs hd
  go_enter Try.func33, Try.ntmps33
  go_wp2_with fail
  refine HC.out.mono ?_
  rintro e w1 ⟨rfl, hb1⟩
  obtain ⟨hbox1, hbox2, hbel1, hsz1⟩ := dafter3 hb1
  clear hb1
  have X1 := Lib.hid hbox1
  have Z1 := Lib.hid hbox2
  have L1 := Lib.hid hbel1
  clear hbox1 hbox2 hbel1
  obtain ⟨q0, q1, q2, q3, q4, q5, q6, q7⟩ := X1.out.all
  go_wp2_with fail
  clear q0 q1 q2 q3 q4 q5 q6 q7
  refine (HC2.out w1 ((HD.out.below L1.out).more L1.out.size)).mono ?_
  rintro e w2 ⟨rfl, hb2⟩
  have Z2 := Lib.hid (Z1.out.next hb2)
  have L2' := Lib.hid (L1.out.trans (hb2.mono L1.out.size))
  clear X1 Z1 L1 hb2
  have tt := Z2.out.all
  have zf := Z2.out.frees
  simp only [Dr.zero] at tt
  obtain ⟨t0, t1, t2, t3, t4, t5, t6, t7⟩ := tt
  obtain ⟨g0, g1, g2, g3, g4, g5, g6⟩ := zf
  have HB := Lib.hid L2'.out
  go_wp2
  refine bodyPost_ret (v := .tuple #[.agg #[.int .i64 0, .int .i64 0, .slice none 0 0, .slice none 0 0, .int .i64 0, .int .i64 0, .slice none 0 0], .int .i64 err]) (by simp [results, Try.results33, go_sem, t0, t1, t2, t3, t4, t5, t6]) rfl ?_
  exact dfin_err (by omega) HB.out
end Go.Proofs.Ytbafhdinalapoaa
