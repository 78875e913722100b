/- The reference's Woven. -/
import Derived.Test.YtbafhdinalapoaaDlo
import Derived.Test.YtbafhdinalapoaaDwa
import Derived.Test.YtbafhdinalapoaaRck
import Derived.Test.YtbafhdinalapoaaRturn
namespace Go.Proofs.Ytbafhdinalapoaa
open Go.RowKit
set_option linter.unusedVariables false
set_option linter.unusedSimpArgs false
set_option maxRecDepth 100000

set_option maxHeartbeats 800000 in
theorem lifts_any {D : Dr} {P : PD} (hI : D.Is P) (hP : P.Ok) (t s : Nat) (ht : t < P.T) (hs : s < P.S) (w : World) (B0 : Nat) (hti : Holds w B0 D.C D.k D.b) (hB : B0 ≤ w.heap.size) :
    Calls Try.prog 70 #[.agg #[.int .i64 D.S, .int .i64 D.T, .slice D.A D.n D.c, .slice D.B D.m D.d, .int .i64 D.W, .int .i64 D.H, .slice D.C D.k D.e], .int .i64 t, .int .i64 s] w fun e w' => e = .returned (.bool (P.L t s)) ∧ Below w.heap.size w w' := by
  obtain ⟨S, T, A, n, c, B, m, d, W, H, C, k, e', f, g, b⟩ := D
  obtain ⟨eS, eT, en, em, eW, eH, ek, ef, eg, eb⟩ := hI
  obtain ⟨p1, p2, p3, p4, p5, p6, p7, p8, pf, pg⟩ := hP
  dsimp only at *
  subst eS eT en em eW eH ek
  have HE := Lib.hid (eb t s ht hs)
  have hT := Lib.hid hti
  have HC := Lib.hid (fun w' (hb' : Below w.heap.size w w') => at_nat P.T P.S C e' t s b w' B0 (hti.below (hb'.mono hB)) (Nat.le_trans hB hb'.size) (by omega) (by omega) t s rfl rfl ht hs)
  clear ef eg eb pf pg hti
  go_enter Try.func70, Try.ntmps70
  go_wp2_with (go_at_call 76; refine (HC.out _ ((Below.refl _ _).alloc (Nat.le_refl _) _)).mono ?_; rintro e w2 ⟨rfl, hb2⟩)
  go_ret
  exact ⟨ret_bool HE.out, (Below.refl _ _).alloc (Nat.le_refl _) _ |>.trans (hb2.mono (by simp))⟩

set_option maxHeartbeats 3200000 in
theorem woven_any {D : Dr} {P : PD} (hI : D.Is P) (hP : P.Ok) (w : World) (hd : D.In w w.heap.size) :
    Calls Try.prog 66 #[.agg #[.int .i64 D.S, .int .i64 D.T, .slice D.A D.n D.c, .slice D.B D.m D.d, .int .i64 D.W, .int .i64 D.H, .slice D.C D.k D.e]] w fun e w' => ∃ k, e = .returned (.agg #[.int .i64 P.n, .int .i64 P.m, .slice (some ⟨k, 0, none⟩) (P.n * P.m) (P.n * P.m)]) ∧ w.heap.size ≤ k ∧ Row w' k (P.n * P.m) (fun i => P.L (P.G (i / P.n)) (P.F (i % P.n))) ∧ Below w.heap.size w w' := by
  have HD := Lib.hid hd
  have HI := Lib.hid hI
  have HP := Lib.hid hP
  obtain ⟨S, T, A, n, c, B, m, d, W, H, C, kk, e', f, g, b⟩ := D
  obtain ⟨eS, eT, en, em, eW, eH, ek, ef, eg, eb⟩ := hI
  obtain ⟨p1, p2, p3, p4, p5, p6, p7, p8, pf, pg⟩ := hP
  dsimp only at *
  subst eS eT en em eW eH ek
  have FB := Lib.hid eg
  have FA := Lib.hid ef
  have PG := Lib.hid pg
  have PF := Lib.hid pf

  clear hd ef eg eb pf pg
  have B1 := Lib.hid ((DBox.new w ⟨P.S, P.T, A, P.n, c, B, P.m, d, P.T, P.S, C, P.T * P.S, e', f, g, b⟩).alloc (.cells #[.int .i64 0, .int .i64 0, .slice none 0 0] 24))
  have B2 := Lib.hid (Box.new (w.alloc (.cells #[.int .i64 P.S, .int .i64 P.T, .slice A P.n c, .slice B P.m d, .int .i64 P.T, .int .i64 P.S, .slice C (P.T * P.S) e'] 30)) 0 0 (.slice none 0 0))
  have B3 := Lib.hid (show Below w.heap.size w ((w.alloc (.cells #[.int .i64 P.S, .int .i64 P.T, .slice A P.n c, .slice B P.m d, .int .i64 P.T, .int .i64 P.S, .slice C (P.T * P.S) e'] 30)).alloc (.cells #[.int .i64 0, .int .i64 0, .slice none 0 0] 24)) from ((Below.refl _ _).alloc (Nat.le_refl _) _).alloc (by simp) _)
  have B4 := Lib.hid (show w.heap.size + 2 ≤ ((w.alloc (.cells #[.int .i64 P.S, .int .i64 P.T, .slice A P.n c, .slice B P.m d, .int .i64 P.T, .int .i64 P.S, .slice C (P.T * P.S) e'] 30)).alloc (.cells #[.int .i64 0, .int .i64 0, .slice none 0 0] 24)).heap.size from by simp)
  simp only [World.size_alloc] at B2
  go_enter Try.func66, Try.ntmps66
  go_wp2_with fail
  generalize hw0 : (w.alloc (.cells #[.int .i64 P.S, .int .i64 P.T, .slice A P.n c, .slice B P.m d, .int .i64 P.T, .int .i64 P.S, .slice C (P.T * P.S) e'] 30)).alloc (.cells #[.int .i64 0, .int .i64 0, .slice none 0 0] 24) = w0 at *
  clear hw0

  refine (zero_int _ _ P.n P.m rfl rfl (by omega) (by omega) _).mono ?_
  rintro e w1 ⟨k, rfl, hk, hrow, hb⟩
  have hsz := Lib.hid B4.out
  obtain ⟨wM, hwM⟩ : ∃ wM, wM = w1.alloc (.cells #[.int .i64 P.n, .int .i64 P.m, .slice (some ⟨k, 0, none⟩) (P.n * P.m) (P.n * P.m)] 24) := ⟨_, rfl⟩
  have hBM : Below w0.heap.size w0 wM := by rw [hwM]; exact hb.alloc hb.size _
  have X1 := Lib.hid (B1.out.below hBM (by have := B4.out; omega))
  have X2 := Lib.hid (B2.out.below hBM (by have := B4.out; omega))
  have X3 := Lib.hid (show Box wM w1.heap.size P.n P.m (.slice (some ⟨k, 0, none⟩) (P.n * P.m) (P.n * P.m)) from by rw [hwM]; exact Box.new w1 _ _ _)
  have X4 := Lib.hid (B3.out.trans (hBM.mono B3.out.size))
  have hsz2 := Lib.hid (show k < w1.heap.size ∧ w.heap.size + 2 ≤ k from ⟨hrow.lt, Nat.le_trans B4.out hk⟩)
  have R0 := Lib.hid (⟨But.refl k wM, by rw [hwM]; exact (hrow.alloc _).congr (fun i _ => by rw [cp_zero])⟩ : Lp k wM wM (P.n * P.m) (cp (· % P.n) (· / P.n) (fun x y => P.L (P.G y) (P.F x)) 0 0))
  have HN := Lib.hid (fun w' (h : But k wM w') => (h.dr ((HD.out.below X4.out)) (by have := hsz2.out; omega) X4.out.size))
  have HS : Hid (∀ w', But k wM w' → w'.cell? ⟨w.heap.size, 0, none⟩ = some (.int .i64 ↑P.S) ∧ w'.cell? ⟨w.heap.size, 1, none⟩ = some (.int .i64 ↑P.T) ∧ w'.cell? ⟨w.heap.size, 2, none⟩ = some (.slice A P.n c) ∧ w'.cell? ⟨w.heap.size, 3, none⟩ = some (.slice B P.m d) ∧ w'.cell? ⟨w.heap.size, 4, none⟩ = some (.int .i64 ↑P.T) ∧ w'.cell? ⟨w.heap.size, 5, none⟩ = some (.int .i64 ↑P.S) ∧ w'.cell? ⟨w.heap.size, 6, none⟩ = some (.slice C (P.T * P.S) e') ∧ w'.cell? ⟨w1.heap.size, 0, none⟩ = some (.int .i64 ↑P.n) ∧ w'.cell? ⟨w1.heap.size, 1, none⟩ = some (.int .i64 ↑P.m) ∧ w'.cell? ⟨w1.heap.size, 2, none⟩ = some (.slice (some ⟨k, 0, none⟩) (P.n * P.m) (P.n * P.m))) := Lib.hid (fun w' (h : But k wM w') => by
    have y1 := (h.dbox X1.out (by have := hsz2.out; omega)).all
    have y2 := (h.box X3.out (by have := hsz2.out; omega)).all
    exact ⟨y1.1, y1.2.1, y1.2.2.1, y1.2.2.2.1, y1.2.2.2.2.1, y1.2.2.2.2.2.1, y1.2.2.2.2.2.2.1, y2.1, y2.2.1, y2.2.2.1⟩)
  clear hBM hb hrow hk B1 B2 B3 B4 hsz
  go_wp2
  rw [← hwM]
  clear hwM
  go_loopw [4] (fun i wr => ∃ x : Nat, x ≤ P.n ∧ i = .int .i64 x ∧ Lp k wM wr (P.n * P.m) (cp (· % P.n) (· / P.n) (fun x y => P.L (P.G y) (P.F x)) x 0)) (fun i _ => P.n - (intOf i).toNat)
  case atStart => exact ⟨0, Nat.zero_le _, rfl, R0.out⟩
  case round =>
    obtain ⟨x, hx, rfl, R⟩ := hrel
    obtain ⟨wo, rfl⟩ : ∃ wo : World, wo = wr := ⟨_, rfl⟩
    obtain ⟨q0, q1, q2, q3, q4, q5, q6, q7, q8, q9⟩ := HS.out _ R.but
    by_cases hlx : x < P.n
    · have R1 := Lib.hid R
      clear R
      go_wp2
      clear q0 q1 q2 q3 q4 q5 q6 q7 q8 q9
      go_loopw [5] (fun i wr => ∃ y : Nat, y ≤ P.m ∧ i = .int .i64 y ∧ Lp k wM wr (P.n * P.m) (cp (· % P.n) (· / P.n) (fun x y => P.L (P.G y) (P.F x)) x y)) (fun i _ => P.m - (intOf i).toNat)
      case atStart => exact ⟨0, Nat.zero_le _, rfl, R1.out⟩
      case round =>
        obtain ⟨y, hy, rfl, R⟩ := hrel
        obtain ⟨q0, q1, q2, q3, q4, q5, q6, q7, q8, q9⟩ := HS.out _ R.but
        have R2 := Lib.hid R
        clear R
        by_cases hly : y < P.m
        · have HK := Lib.hid (fun w' (h : Below wr.heap.size wr w') => HS.out _ (R2.out.next h).but)

          obtain ⟨bB, oB, hAB, hbB, hcB⟩ := (HN.out _ R2.out.but).tr (show 0 < P.m by omega)
          have c2 := hcB y hly
          dsimp only at c2
          rw [FB.out y hly] at c2
          have pgy := PG.out y hly

          obtain ⟨bA, oA, hAA, hbA, hcA⟩ := (HN.out _ R2.out.but).th (show 0 < P.n by omega)
          have c1 := hcA x hlx
          dsimp only at c1
          rw [FA.out x hlx] at c1
          have pfx := PF.out x hlx
          dsimp only at hAA
          subst hAA

          dsimp only at hAB
          subst hAB
          have HQ := Lib.hid (And.intro hcB hcA)
          have HA := Lib.hid (fun w' (h : Below wr.heap.size wr w') => lifts_any HI.out HP.out (P.G y) (P.F x) pgy pfx w' w.heap.size (HN.out _ (R2.out.next h).but).ti (Nat.le_trans X4.out.size (R2.out.next h).but.size))
          have HL := Lib.hid (show ∀ w', But k wM w' → w'.cell? ⟨bB, oB + y, none⟩ = some (.int .i64 (P.G y : Nat)) ∧ w'.cell? ⟨bA, oA + x, none⟩ = some (.int .i64 (P.F x : Nat)) from fun w' h => by
            obtain ⟨b1, o1, e1, _, h1⟩ := (HN.out _ h).tr (show 0 < P.m by omega)
            cases e1
            have z1 := h1 y hly
            dsimp only at z1
            rw [FB.out y hly] at z1

            obtain ⟨b2, o2, e2, _, h2⟩ := (HN.out _ h).th (show 0 < P.n by omega)
            cases e2
            have z2 := h2 x hlx
            dsimp only at z2
            rw [FA.out x hlx] at z2
            exact ⟨z1, z2⟩)

          have HK3 := Lib.hid (fun w' (h : But k wM w') => show w'.cell? ⟨w.heap.size, 0, none⟩ = some (.int .i64 ↑P.S) ∧ w'.cell? ⟨w.heap.size, 1, none⟩ = some (.int .i64 ↑P.T) ∧ w'.cell? ⟨w.heap.size, 2, none⟩ = some (.slice (some ⟨bA, oA, none⟩) P.n c) ∧ w'.cell? ⟨w.heap.size, 3, none⟩ = some (.slice (some ⟨bB, oB, none⟩) P.m d) ∧ w'.cell? ⟨w.heap.size, 4, none⟩ = some (.int .i64 ↑P.T) ∧ w'.cell? ⟨w.heap.size, 5, none⟩ = some (.int .i64 ↑P.S) ∧ w'.cell? ⟨w.heap.size, 6, none⟩ = some (.slice C (P.T * P.S) e') ∧ w'.cell? ⟨w1.heap.size, 0, none⟩ = some (.int .i64 ↑P.n) ∧ w'.cell? ⟨w1.heap.size, 1, none⟩ = some (.int .i64 ↑P.m) ∧ w'.cell? ⟨w1.heap.size, 2, none⟩ = some (.slice (some ⟨k, 0, none⟩) (P.n * P.m) (P.n * P.m)) ∧ w'.cell? ⟨bB, oB + y, none⟩ = some (.int .i64 (P.G y : Nat)) ∧ w'.cell? ⟨bA, oA + x, none⟩ = some (.int .i64 (P.F x : Nat)) from by
            obtain ⟨q0, q1, q2, q3, q4, q5, q6, q7, q8, q9⟩ := HS.out _ h
            exact ⟨q0, q1, q2, q3, q4, q5, q6, q7, q8, q9, HL.out _ h⟩)
          have HK2 := Lib.hid (fun w' (h : Below wr.heap.size wr w') => HK3.out _ (R2.out.next h).but)
          clear hcB hcA
          have y3 : (0 : Int) ≤ (y : Int) := by omega
          have y4 : (y : Int) < (P.m : Int) := by omega

          have y5 : (0 : Int) ≤ (x : Int) := by omega
          have y6 : (x : Int) < (P.n : Int) := by omega

          go_wp2
          go_region_held3 (fun w' => w'.cell? ⟨w.heap.size, 0, none⟩ = some (.int .i64 ↑P.S) ∧ w'.cell? ⟨w.heap.size, 1, none⟩ = some (.int .i64 ↑P.T) ∧ w'.cell? ⟨w.heap.size, 2, none⟩ = some (.slice (some ⟨bA, oA, none⟩) P.n c) ∧ w'.cell? ⟨w.heap.size, 3, none⟩ = some (.slice (some ⟨bB, oB, none⟩) P.m d) ∧ w'.cell? ⟨w.heap.size, 4, none⟩ = some (.int .i64 ↑P.T) ∧ w'.cell? ⟨w.heap.size, 5, none⟩ = some (.int .i64 ↑P.S) ∧ w'.cell? ⟨w.heap.size, 6, none⟩ = some (.slice C (P.T * P.S) e') ∧ w'.cell? ⟨w1.heap.size, 0, none⟩ = some (.int .i64 ↑P.n) ∧ w'.cell? ⟨w1.heap.size, 1, none⟩ = some (.int .i64 ↑P.m) ∧ w'.cell? ⟨w1.heap.size, 2, none⟩ = some (.slice (some ⟨k, 0, none⟩) (P.n * P.m) (P.n * P.m)) ∧ w'.cell? ⟨bB, oB + y, none⟩ = some (.int .i64 (P.G y : Nat)) ∧ w'.cell? ⟨bA, oA + x, none⟩ = some (.int .i64 (P.F x : Nat)))
            (first
              | exact hS3
              | exact HK2.out _ hb2'
              | exact HK2.out _ (Below.refl _ _).drew)
            (first
              | (go_at_call 70
                 refine (HA.out _ (Below.refl _ _).drew).mono ?_
                 rintro e w2 ⟨rfl, hb2⟩
                 have hb2' : Below wr.heap.size wr w2 := (Below.refl _ _).drew.trans hb2)
              | (go_at_call 69
                 refine (set_nat P.n P.m k (P.n * P.m) x y _ _ _ (R2.out.next hb2').row (by omega) (by omega) x y rfl rfl hlx hly).mono ?_
                 rintro e w3 ⟨rfl, hr3, hb3⟩
                 have hR3 := Lib.hid ((R2.out.next hb2').wrote hb3 hr3)
                 have hS3 := HK3.out _ hR3.out.but))
          go_wp2
          exact ⟨⟨y + 1, by omega, by go_num, hR3.out.congr fun i hi => cp_succ (plain_at hlx hi)⟩, by simp [intOf]; omega⟩
        · have e : y = P.m := by omega
          subst e
          go_wp2
          exact ⟨⟨x + 1, by omega, by go_num, R2.out.congr fun i hi => cp_next (div_bd hi)⟩, by simp [intOf]; omega⟩
    · have e : x = P.n := by omega
      have e' := e
      have XR := (R.but.box X2.out (by have := hsz2.out; omega))
      obtain ⟨z0, z1, z2, z3, z4, z5, z6⟩ := XR.all
      have R1 := Lib.hid R
      clear R XR
      have hxx : decide ((x : Int) < (P.n : Int)) = false := by simp; omega
      go_wp2
      refine bodyPost_ret (v := .agg #[.int .i64 P.n, .int .i64 P.m, .slice (some ⟨k, 0, none⟩) (P.n * P.m) (P.n * P.m)]) (by simp [results, Try.results66, go_sem, z0, z1, z2]) rfl ⟨k, rfl, ?_, ?_, ?_⟩
      · have := hsz2.out; omega
      · exact (((R1.out.row.far (by simp; have := hsz2.out; omega) _).far (by simp; have := hsz2.out; omega) _).far (by simp; have := hsz2.out; omega) _).congr fun i hi => by subst e; exact cp_all (Nat.mod_lt _ (by omega))
      · exact (((R1.out.but.below X4.out (by have := hsz2.out; omega)).setCell (by simp) _).setCell (by simp) _).setCell (by simp) _
end Go.Proofs.Ytbafhdinalapoaa
