/- The reference's Renumber. -/
import Derived.Test.YtbafhdinalapoaaGmk
import Derived.Deep.DeepCutAuto
import Derived.Deep.RegionHeld3
import Derived.Deep.RegionLaw
namespace Go.Proofs.Ytbafhdinalapoaa
open Go.RowKit
set_option linter.unusedVariables false
set_option linter.unusedSimpArgs false
set_option maxRecDepth 100000

open L2 (plc fst)
theorem rnm_at {T S : Nat} {f1 f2 : Nat → Int} (h1 : prm S f1 S = true) (h2 : prm T f2 T = true) {l x y : Nat} (hl : l < T * S) (hx : x < T) (hy : y < S) {i' j' : Nat} (hi : f2 x = i') (hj : f1 y = j') :
    l = j' * T + i' ↔ (plc f2 (l % T : Nat) T).toNat = x ∧ (plc f1 (l / T : Nat) S).toNat = y := by
  have b2 := prm_in h2 hx
  rw [plain_at (W := T) (H := S) (show i' < T by omega) hl]
  constructor
  · rintro ⟨e1, e2⟩
    rw [e1, e2, ← hi, ← hj, prm_plc h2 hx, prm_plc h1 hy]
    exact ⟨rfl, rfl⟩
  · rintro ⟨e1, e2⟩
    have p2 := prm_has h2 (show l % T < T from Nat.mod_lt _ (by omega))
    have p1 := prm_has h1 (show l / T < S from div_bd hl)
    rw [p2.1] at e1
    rw [p1.1] at e2
    have e1' : fst f2 (l % T : Nat) T = x := by simpa using e1
    have e2' : fst f1 (l / T : Nat) S = y := by simpa using e2
    have q2 := p2.2.2
    have q1 := p1.2.2
    rw [e1', hi] at q2
    rw [e2', hj] at q1
    omega

set_option maxHeartbeats 800000 in
theorem rrenum_ok {D : Dr} {P : PD} (hI : D.Is P) (hP : P.Ok) (A1 A2 : Option Addr) (n1 n2 c1 c2 : Nat) (f1 f2 : Nat → Int) (hpa : prm n1 f1 P.S = true) (hpb : prm n2 f2 P.T = true) (w : World) (hd : D.In w w.heap.size) (h1 : L2.Holds w w.heap.size A1 n1 f1) (h2 : L2.Holds w w.heap.size A2 n2 f2) (hn1 : n1 ≤ 5000) (hn2 : n2 ≤ 5000) :
    Calls Try.prog 36 #[.agg #[.int .i64 D.S, .int .i64 D.T, .slice D.A D.n D.c, .slice D.B D.m D.d, .int .i64 D.W, .int .i64 D.H, .slice D.C D.k D.e], .slice A1 n1 c1, .slice A2 n2 c2] w (OkDr w (P.rnm f1 f2)) := by
  have HC := Lib.hid (rck_is (hI.ck hP) (hI.small hP) _ (dstart3 hd))
  have H1 := Lib.hid h1
  have H2 := Lib.hid h2
  have HPA := Lib.hid hpa
  have HPB := Lib.hid hpb
  have HD := Lib.hid hd
  have HI := Lib.hid hI
  have HP := Lib.hid hP
  have b1 := hP.s0
  have b2 := hP.s1
  have b3 := hP.t0
  have b4 := hP.t1
  clear hd h1 h2 hpa hpb
  obtain ⟨S, T, A, n, c, B, m, d, W, H, C, kk, e', f, g, b⟩ := D
  obtain ⟨eS, eT, en, em, eW, eH, ek, ef, eg, eb⟩ := hI
  dsimp only at *
  subst eS eT en em eW eH ek
  have EF := Lib.hid ef
  have EG := Lib.hid eg
  clear ef eg eb
  go_enter Try.func36, Try.ntmps36
  go_wp2_with fail
  refine HC.out.mono ?_
  rintro e w1 ⟨rfl, hb1⟩
  obtain ⟨hbox1, hbox2, hbel1, hsz1⟩ := dafter3 (D := ⟨P.S, P.T, A, P.n, c, B, P.m, d, P.T, P.S, C, P.T * P.S, e', f, g, b⟩) hb1
  clear hb1
  have X1 := Lib.hid hbox1
  have Z1 := Lib.hid hbox2
  have L1 := Lib.hid hbel1
  clear hbox1 hbox2 hbel1
  obtain ⟨q0, q1, q2, q3, q4, q5, q6, q7⟩ := X1.out.all
  dsimp only at q0 q1 q2 q3 q4 q5 q6
  go_wp2_with fail
  clear q0 q1 q2 q3 q4 q5 q6 q7
  with_reducible refine Calls.mono (each_is HPA.out (H1.out.below L1.out |>.more L1.out.size) hn1 (by omega)) ?_
  rintro e w2 ⟨rfl, hb2⟩
  have X2 := Lib.hid (X1.out.next hb2)
  have Z2 := Lib.hid (Z1.out.next hb2)
  have L2 := Lib.hid (L1.out.trans (hb2.mono L1.out.size))
  clear X1 Z1 L1 hb2
  obtain ⟨q0, q1, q2, q3, q4, q5, q6, q7⟩ := X2.out.all
  dsimp only at q0 q1 q2 q3 q4 q5 q6
  go_wp2_with fail
  clear q0 q1 q2 q3 q4 q5 q6 q7
  with_reducible refine Calls.mono (each_is HPB.out (H2.out.below L2.out |>.more L2.out.size) hn2 (by omega)) ?_
  rintro e w3 ⟨rfl, hb3⟩
  have X3 := Lib.hid (X2.out.next hb3)
  have Z3 := Lib.hid (Z2.out.next hb3)
  have L3 := Lib.hid (L2.out.trans (hb3.mono L2.out.size))
  clear X2 Z2 L2 hb3

  have HS : Hid (∀ w', Below w3.heap.size w3 w' → w'.cell? ⟨w.heap.size, 0, none⟩ = some (.int .i64 P.S) ∧ w'.cell? ⟨w.heap.size, 1, none⟩ = some (.int .i64 P.T)) := Lib.hid (fun w' h => by
    have y1 := (X3.out.next h).all
    exact ⟨y1.1, y1.2.1⟩)
  have hz := Below.refl w3.heap.size w3
  have hz1 := Lib.hid hz.drew
  have hz2 := Lib.hid (fun o => (hz.alloc (Nat.le_refl w3.heap.size) o).drew)
  clear hz
  have hz3 := Lib.hid (fun (o : Obj) => (show (w3.alloc o).drew.heap.size = w3.heap.size + 1 by simp))
  have hj0 : Hid (DBox (w3.alloc (.cells #[.int .i64 0, .int .i64 0, .slice none 0 0, .slice none 0 0, .int .i64 0, .int .i64 0, .slice none 0 0] 30)).drew w3.heap.size Dr.zero) := Lib.hid (DBox.new w3 Dr.zero).drew
  go_upto_region 5 with fail
  go_cut [8] (fun p wx => ∃ j k, p = .pointer (some ⟨j, 0, none⟩) ∧ Mk w3 wx j k (P.T * P.S) ⟨P.S, P.T, none, 0, 0, none, 0, 0, P.T, P.S, some ⟨k, 0, none⟩, P.T * P.S, P.T * P.S, fun _ => 0, fun _ => 0, fun _ => false⟩)
  case first =>
    go_region_held3 (fun w' => w'.cell? ⟨w.heap.size, 0, none⟩ = some (.int .i64 P.S) ∧ w'.cell? ⟨w.heap.size, 1, none⟩ = some (.int .i64 P.T))
      (first
        | with_reducible exact hSu
        | with_reducible exact HS.out _ hz1.out
        | with_reducible exact HS.out _ (hz2.out _)
        | with_reducible exact HS.out _ (hb7.alloc hb7.size _)
        | exact HS.out _ (set7_keep (Nat.le_refl _) hb7)
        | exact HS.out _ (set7_keep hb7.size (hb7.alloc hb7.size _)))
      (first
        | (go_at_call 68
           refine (zero_int P.T P.S P.T P.S rfl rfl (by omega) (by omega) _).mono ?_
           rintro e u ⟨k, rfl, hk, hrow, hbu⟩
           have hb7 : Below w3.heap.size w3 u := (by first | with_reducible exact hz1.out.trans (hbu.mono hz1.out.size) | with_reducible exact (hz2.out _).trans (hbu.mono (hz2.out _).size))
           have hSu := HS.out _ hb7
           have hk1 : w3.heap.size ≤ k := (by first | with_reducible exact Nat.le_trans hz1.out.size hk | with_reducible exact Nat.le_trans (hz2.out _).size hk)
           first
             | (have hj : DBox u w3.heap.size Dr.zero := (by with_reducible exact hj0.out.next hbu)
                obtain ⟨z0, z1, z2, z3, z4, z5, z6⟩ := hj.frees
                have HJ := Lib.hid hj
                have hk2 : w3.heap.size + 1 ≤ k := Nat.le_trans (Nat.le_of_eq (hz3.out _).symm) hk
                have tt := hj.all
                simp only [Dr.zero] at tt
                obtain ⟨t0, t1, t2, t3, t4, t5, t6, t7⟩ := tt
                clear hj)
             | skip))
    all_goals
      go_wp2_with fail
      go_meet
      first
        | with_reducible exact ⟨_, k, rfl, Mk.late hk1 hrow hb7⟩
        | with_reducible exact ⟨_, k, rfl, Mk.soon HJ.out rfl hk2 hrow hb7⟩
  case rest =>
    obtain ⟨j, k, rfl, hmk⟩ := hcut
    have hj := Lib.hid hmk.j0
    have hjk := Lib.hid hmk.jk
    have hk := Lib.hid hmk.k0
    have hjl := Lib.hid hmk.box.lt
    have hkl := Lib.hid hmk.row.lt
    have L4 := Lib.hid (L3.out.trans (hmk.bel.mono L3.out.size))
    have X4 := Lib.hid (X3.out.next hmk.bel)
    have Z4 := Lib.hid (Z3.out.next hmk.bel)
    have x3l := Lib.hid X3.out.lt
    have z3l := Lib.hid Z3.out.lt
    have MK := Lib.hid hmk
    clear hmk HS hz1 hz2 hj0
    go_wp2
    have HWB := Lib.hid (show w3.heap.size ≤ wc.heap.size from MK.out.bel.size)
    go_loopw [9] (fun i wr => ∃ m : Nat, m ≤ P.n ∧ i = .int .i64 m ∧ ∃ A' c', Hid (DBox wr j ⟨P.S, P.T, A', m, c', none, 0, 0, P.T, P.S, some ⟨k, 0, none⟩, P.T * P.S, P.T * P.S, fun _ => 0, fun _ => 0, fun _ => false⟩) ∧ L2.Own wr wc.heap.size (.slice A' m c') m (fun i => f1 (P.F i)) ∧ Hid (Row wr k (P.T * P.S) (fun _ => false)) ∧ Hid (Below w3.heap.size w3 wr) ∧ Hid (wc.heap.size ≤ wr.heap.size)) (fun i _ => P.n - (intOf i).toNat)
    case atStart => exact ⟨0, Nat.zero_le _, rfl, none, 0, Lib.hid MK.out.box, L2.Own.nil _ _ _, Lib.hid MK.out.row, Lib.hid MK.out.bel, Lib.hid (Nat.le_refl _)⟩
    case round =>
      obtain ⟨m, hm, rfl, A', c', hbx, hown, hrk, hb3, hsz⟩ := hrel
      have HBX := Lib.hid hbx.out
      have HO := Lib.hid hown
      have HRK := Lib.hid hrk.out
      have HB3 := Lib.hid hb3.out
      have hbase : wc.heap.size ≤ wr.heap.size := hsz.out
      have HBW := Lib.hid (L3.out.trans (HB3.out.mono L3.out.size))
      have HXN := Lib.hid (X3.out.next HB3.out)
      clear hbx hown hrk hb3 hsz
      obtain ⟨q0, q1, q2, q3, q4, q5, q6, q7⟩ := HXN.out.all
      dsimp only at q0 q1 q2 q3 q4 q5 q6
      by_cases hlt : m < P.n
      · have y1 : decide ((m : Int) < (P.n : Int)) = true := by simp; omega
        obtain ⟨ba, oa, rfl, hba, hca⟩ := (HD.out.th.below HBW.out) (by show 0 < P.n; omega)
        have e1 : wr.cell? ⟨ba, oa + m, none⟩ = some (.int .i64 (f m)) := hca m hlt
        rw [EF.out m hlt] at e1
        have hp : P.F m < P.S := HP.out.f m hlt
        have hln := prm_len HPA.out
        obtain ⟨bs, os, hAs, hbs, hcs⟩ := (H1.out.below HBW.out) (by omega)
        have e2 := hcs (P.F m) (by omega)
        obtain ⟨p, hpe⟩ : ∃ p, P.F m = p := ⟨_, rfl⟩
        rw [hpe] at e1 e2 hp
        obtain ⟨y, hye⟩ : ∃ y, f1 p = y := ⟨_, rfl⟩
        have HY := Lib.hid (show (fun i => f1 (P.F i)) m = y by show f1 (P.F m) = y; rw [hpe, hye])
        rw [hye] at e2
        have x1 : (0 : Int) ≤ (m : Int) := by omega
        have x2 : (m : Int) < (P.n : Int) := by omega
        have x3 : (0 : Int) ≤ (p : Int) := by omega
        have x4 : (p : Int) < (n1 : Int) := by omega
        have hn64 := HP.out.n1
        have hm64 := HP.out.m1
        have HO1 := Lib.hid ((HO.out.alloc (.cells #[.int .i64 y] 3)).drew)
        have HC1 : Hid (((wr.alloc (.cells #[.int .i64 y] 3)).drew).cell? ⟨wr.heap.size, 0, none⟩ = some (.int .i64 y)) := Lib.hid (L2.Num.new wr y).1
        have hbase2 : wc.heap.size ≤ ((wr.alloc (.cells #[.int .i64 y] 3)).drew).heap.size := by simp; omega
        have HB2 := Lib.hid (((Below.refl wc.heap.size wr).alloc hbase (.cells #[.int .i64 y] 3)).drew)
        have rr := HBX.out.all
        dsimp only at rr
        obtain ⟨r0, r1, r2, r3, r4, r5, r6, r7⟩ := rr
        have s1 : ba < wr.heap.size := by have := HBW.out.size; omega
        have s2 : bs < wr.heap.size := by have := HBW.out.size; omega
        clear hca hcs hpe hye hba hbs hln
        subst hAs
        go_wp2
        go_region_law (first
          | (refine step_app rfl (.tmp 50) (.tmp 59) rfl wc.heap.size rfl HO1.out y wr.heap.size rfl HC1.out HY.out (by omega) hbase2 ?_
             intro v' wn hown' hbn' hgn
             obtain ⟨A'', c'', rfl, _, _⟩ := hown'.out
             have HON := Lib.hid hown'
             have HBN := Lib.hid (HB2.out.trans hbn')
             have HBXN := Lib.hid (HBX.out.below HBN.out hjl.out)
             obtain ⟨g0, g1, g2, g3, g4, g5, g6⟩ := HBXN.out.frees
             have tt := HBXN.out.all
             dsimp only at tt
             obtain ⟨h0, h1, h2, h3, h4, h5, h6, h7⟩ := tt
             clear hown' hbn' hgn))
        all_goals
          go_wp2
          refine ⟨⟨m + 1, by omega, by go_num, A'', c'', Lib.hid (HBXN.out.set2 A'' (m + 1) c'' _), HON.out.far (by show j < _; exact hjl.out) _, Lib.hid ((HRK.out.below HBN.out hkl.out).far (by show k ≠ j; exact Ne.symm hjk.out) _), Lib.hid ((HB3.out.trans (HBN.out.mono HWB.out)).setCell (by show w3.heap.size ≤ j; exact hj.out) _), Lib.hid (by show wc.heap.size ≤ _; have := HBN.out.size; simp [World.setCell]; omega)⟩, by simp [intOf]; omega⟩
      · have e : m = P.n := by omega
        subst e
        have y1 : decide ((P.n : Int) < (P.n : Int)) = false := by simp
        obtain ⟨c3, rfl⟩ : ∃ c3, c3 = c' := ⟨_, rfl⟩
        obtain ⟨A3, c3', hA3, _, hr3⟩ := HO.out.out
        obtain ⟨ka, hka1, hka2, hka3⟩ := hr3 HP.out.n0
        injection hA3 with hA3a hA3b hA3c
        clear hA3b hA3c
        rw [← hA3a] at hka1
        clear hA3a
        obtain ⟨wd, rfl⟩ : ∃ wd : World, wd = wr := ⟨_, rfl⟩
        have RA := Lib.hid hka3
        have hkal := Lib.hid hka3.lt
        have hka0 := Lib.hid hka2
        have hkaj := Lib.hid (show ka ≠ j from by have := hjl.out; omega)
        have hkak := Lib.hid (show ka ≠ k from by have := hkl.out; omega)
        have hjl0 := hjl
        have hkl0 := hkl
        have hjl := Lib.hid (Nat.lt_of_lt_of_le hjl0.out hbase)
        have hkl := Lib.hid (Nat.lt_of_lt_of_le hkl0.out hbase)
        have HWB0 := HWB
        have HWB := Lib.hid (Nat.le_trans HWB0.out hbase)
        clear hr3 HO hka3 hjl0 hkl0 HWB0
        subst hka1
        go_wp2
        clear q0 q1 q2 q3 q4 q5 q6 q7
        go_loopw [10] (fun i wr => ∃ m : Nat, m ≤ P.m ∧ i = .int .i64 m ∧ ∃ A' c', Hid (DBox wr j ⟨P.S, P.T, some ⟨ka, 0, none⟩, P.n, c3, A', m, c', P.T, P.S, some ⟨k, 0, none⟩, P.T * P.S, P.T * P.S, fun _ => 0, fun _ => 0, fun _ => false⟩) ∧ L2.Own wr wd.heap.size (.slice A' m c') m (fun i => f2 (P.G i)) ∧ Hid (Row wr k (P.T * P.S) (fun _ => false)) ∧ Hid (Below w3.heap.size w3 wr) ∧ Hid (wd.heap.size ≤ wr.heap.size) ∧ Hid (L2.Row wr ka P.n (fun i => f1 (P.F i)))) (fun i _ => P.m - (intOf i).toNat)
        case atStart => exact ⟨0, Nat.zero_le _, rfl, none, 0, HBX, L2.Own.nil _ _ _, HRK, HB3, Lib.hid (Nat.le_refl _), RA⟩
        case round =>
          obtain ⟨m, hm, rfl, A', c', hbx, hown, hrk, hb3, hsz, hka⟩ := hrel
          have HKA := Lib.hid hka.out
          clear hka
          have HBX := Lib.hid hbx.out
          have HO := Lib.hid hown
          have HRK := Lib.hid hrk.out
          have HB3 := Lib.hid hb3.out
          have hbase : wd.heap.size ≤ wr.heap.size := hsz.out
          have HBW := Lib.hid (L3.out.trans (HB3.out.mono L3.out.size))
          have HXN := Lib.hid (X3.out.next HB3.out)
          clear hbx hown hrk hb3 hsz
          obtain ⟨q0, q1, q2, q3, q4, q5, q6, q7⟩ := HXN.out.all
          dsimp only at q0 q1 q2 q3 q4 q5 q6
          by_cases hlt : m < P.m
          · have y1 : decide ((m : Int) < (P.m : Int)) = true := by simp; omega
            obtain ⟨ba, oa, rfl, hba, hca⟩ := (HD.out.tr.below HBW.out) (by show 0 < P.m; omega)
            have e1 : wr.cell? ⟨ba, oa + m, none⟩ = some (.int .i64 (g m)) := hca m hlt
            rw [EG.out m hlt] at e1
            have hp : P.G m < P.T := HP.out.g m hlt
            have hln := prm_len HPB.out
            obtain ⟨bs, os, hAs, hbs, hcs⟩ := (H2.out.below HBW.out) (by omega)
            have e2 := hcs (P.G m) (by omega)
            obtain ⟨p, hpe⟩ : ∃ p, P.G m = p := ⟨_, rfl⟩
            rw [hpe] at e1 e2 hp
            obtain ⟨y, hye⟩ : ∃ y, f2 p = y := ⟨_, rfl⟩
            have HY := Lib.hid (show (fun i => f2 (P.G i)) m = y by show f2 (P.G m) = y; rw [hpe, hye])
            rw [hye] at e2
            have x1 : (0 : Int) ≤ (m : Int) := by omega
            have x2 : (m : Int) < (P.m : Int) := by omega
            have x3 : (0 : Int) ≤ (p : Int) := by omega
            have x4 : (p : Int) < (n2 : Int) := by omega
            have hn64 := HP.out.n1
            have hm64 := HP.out.m1
            have HO1 := Lib.hid ((HO.out.alloc (.cells #[.int .i64 y] 3)).drew)
            have HC1 : Hid (((wr.alloc (.cells #[.int .i64 y] 3)).drew).cell? ⟨wr.heap.size, 0, none⟩ = some (.int .i64 y)) := Lib.hid (L2.Num.new wr y).1
            have hbase2 : wd.heap.size ≤ ((wr.alloc (.cells #[.int .i64 y] 3)).drew).heap.size := by simp; omega
            have HB2 := Lib.hid (((Below.refl wd.heap.size wr).alloc hbase (.cells #[.int .i64 y] 3)).drew)
            have rr := HBX.out.all
            dsimp only at rr
            obtain ⟨r0, r1, r2, r3, r4, r5, r6, r7⟩ := rr
            have s1 : ba < wr.heap.size := by have := HBW.out.size; omega
            have s2 : bs < wr.heap.size := by have := HBW.out.size; omega
            clear hca hcs hpe hye hba hbs hln
            subst hAs
            go_wp2
            go_region_law (first
              | (refine step_app rfl (.tmp 70) (.tmp 79) rfl wd.heap.size rfl HO1.out y wr.heap.size rfl HC1.out HY.out (by omega) hbase2 ?_
                 intro v' wn hown' hbn' hgn
                 obtain ⟨A'', c'', rfl, _, _⟩ := hown'.out
                 have HON := Lib.hid hown'
                 have HBN := Lib.hid (HB2.out.trans hbn')
                 have HBXN := Lib.hid (HBX.out.below HBN.out hjl.out)
                 obtain ⟨g0, g1, g2, g3, g4, g5, g6⟩ := HBXN.out.frees
                 have tt := HBXN.out.all
                 dsimp only at tt
                 obtain ⟨h0, h1, h2, h3, h4, h5, h6, h7⟩ := tt
                 clear hown' hbn' hgn))
            all_goals
              go_wp2
              refine ⟨⟨m + 1, by omega, by go_num, A'', c'', Lib.hid (HBXN.out.set3 A'' (m + 1) c'' _), HON.out.far (by show j < _; exact hjl.out) _, Lib.hid ((HRK.out.below HBN.out hkl.out).far (by show k ≠ j; exact Ne.symm hjk.out) _), Lib.hid ((HB3.out.trans (HBN.out.mono HWB.out)).setCell (by show w3.heap.size ≤ j; exact hj.out) _), Lib.hid (by show wd.heap.size ≤ _; have := HBN.out.size; simp [World.setCell]; omega), Lib.hid ((HKA.out.below HBN.out hkal.out).far (by show ka ≠ j; exact hkaj.out) _)⟩, by simp [intOf]; omega⟩
          · have e : m = P.m := by omega
            subst e
            have y1 : decide ((P.m : Int) < (P.m : Int)) = false := by simp
            obtain ⟨c4, rfl⟩ : ∃ c4, c4 = c' := ⟨_, rfl⟩
            obtain ⟨A4, c4', hA4, _, hr4⟩ := HO.out.out
            obtain ⟨kb, hkb1, hkb2, hkb3⟩ := hr4 HP.out.m0
            injection hA4 with hA4a hA4b hA4c
            clear hA4b hA4c
            rw [← hA4a] at hkb1
            clear hA4a
            obtain ⟨wx, rfl⟩ : ∃ wx : World, wx = wr := ⟨_, rfl⟩
            have RB := Lib.hid hkb3
            have hkb0 := Lib.hid (show w3.heap.size ≤ kb from Nat.le_trans HWB.out hkb2)
            have hkbj := Lib.hid (show kb ≠ j from by have := hjl.out; omega)
            have hkbk := Lib.hid (show kb ≠ k from by have := hkl.out; omega)
            have hNk := Lib.hid (show w.heap.size ≠ k from by have := hk.out; have := x3l.out; omega)
            have hZk := Lib.hid (show w.heap.size + 1 ≠ k from by have := hk.out; have := z3l.out; omega)
            have ZN := Lib.hid (Z3.out.next HB3.out)
            obtain ⟨ax, hax⟩ : ∃ ax : Nat → Nat, ax = fun l => (plc f2 (l % P.T : Nat) P.T).toNat := ⟨_, rfl⟩
            obtain ⟨ay, hay⟩ : ∃ ay : Nat → Nat, ay = fun l => (plc f1 (l / P.T : Nat) P.S).toNat := ⟨_, rfl⟩
            have AX := Lib.hid hax
            have AY := Lib.hid hay
            clear hr4 HO hkb3 hax hay
            subst hkb1
            go_wp2
            clear q0 q1 q2 q3 q4 q5 q6 q7
            go_loopw [11] (fun i wr => ∃ x : Nat, x ≤ P.T ∧ i = .int .i64 x ∧ Hid (Lp k wx wr (P.T * P.S) (cp ax ay P.L x 0))) (fun i _ => P.T - (intOf i).toNat)
            case atStart => exact ⟨0, Nat.zero_le _, rfl, Lib.hid ⟨But.refl _ _, HRK.out.congr fun i _ => by rw [cp_zero]⟩⟩
            case round =>
              obtain ⟨x, hx, rfl, hlp⟩ := hrel
              have LP := Lib.hid hlp.out
              clear hlp
              obtain ⟨wo, rfl⟩ : ∃ wo : World, wo = wr := ⟨_, rfl⟩
              have XO := Lib.hid (LP.out.but.dbox HXN.out hNk.out)
              obtain ⟨q0, q1, q2, q3, q4, q5, q6, q7⟩ := XO.out.all
              dsimp only at q0 q1 q2 q3 q4 q5 q6
              by_cases hlx : x < P.T
              · have y1 : decide ((x : Int) < (P.T : Int)) = true := by simp; omega
                go_wp2
                clear q0 q1 q2 q3 q4 q5 q6 q7
                go_loopw [12] (fun i wr => ∃ y : Nat, y ≤ P.S ∧ i = .int .i64 y ∧ Hid (Lp k wx wr (P.T * P.S) (cp ax ay P.L x y))) (fun i _ => P.S - (intOf i).toNat)
                case atStart => exact ⟨0, Nat.zero_le _, rfl, LP⟩
                case round =>
                  obtain ⟨y, hy, rfl, hlq⟩ := hrel
                  have LQ := Lib.hid hlq.out
                  clear hlq
                  have XQ := Lib.hid (LQ.out.but.dbox HXN.out hNk.out)
                  obtain ⟨q0, q1, q2, q3, q4, q5, q6, q7⟩ := XQ.out.all
                  dsimp only at q0 q1 q2 q3 q4 q5 q6
                  by_cases hly : y < P.S
                  · have y2 : decide ((y : Int) < (P.S : Int)) = true := by simp; omega
                    have hl1 := prm_len HPA.out
                    have hl2 := prm_len HPB.out
                    have hb1 := prm_in (show prm P.S f1 P.S = true by have := HPA.out; rw [hl1] at this; exact this) hly
                    have hb2 := prm_in (show prm P.T f2 P.T = true by have := HPB.out; rw [hl2] at this; exact this) hlx
                    obtain ⟨j', hj'⟩ : ∃ j' : Nat, f1 y = j' := ⟨(f1 y).toNat, (Int.toNat_of_nonneg hb1.1).symm⟩
                    obtain ⟨i', hi'⟩ : ∃ i' : Nat, f2 x = i' := ⟨(f2 x).toNat, (Int.toNat_of_nonneg hb2.1).symm⟩
                    have hjS : j' < P.S := by omega
                    have hiT : i' < P.T := by omega
                    have hwk : w.heap.size ≤ k := by have := hk.out; have := x3l.out; omega
                    obtain ⟨bs, os, hAs, hbs, hcs⟩ := (LQ.out.but.iholds (H1.out.below HBW.out) hwk HBW.out.size) (by omega)
                    obtain ⟨bt, ot, hAt, hbt, hct⟩ := (LQ.out.but.iholds (H2.out.below HBW.out) hwk HBW.out.size) (by omega)
                    have HS : Hid (∀ w', But k wx w' → w'.cell? ⟨w.heap.size, 0, none⟩ = some (.int .i64 P.S) ∧ w'.cell? ⟨w.heap.size, 1, none⟩ = some (.int .i64 P.T) ∧ w'.cell? ⟨w.heap.size, 2, none⟩ = some (.slice A P.n c) ∧ w'.cell? ⟨w.heap.size, 3, none⟩ = some (.slice B P.m d) ∧ w'.cell? ⟨w.heap.size, 4, none⟩ = some (.int .i64 P.T) ∧ w'.cell? ⟨w.heap.size, 5, none⟩ = some (.int .i64 P.S) ∧ w'.cell? ⟨w.heap.size, 6, none⟩ = some (.slice C (P.T * P.S) e') ∧ w'.cell? ⟨j, 4, none⟩ = some (.int .i64 P.T) ∧ w'.cell? ⟨j, 5, none⟩ = some (.int .i64 P.S) ∧ w'.cell? ⟨j, 6, none⟩ = some (.slice (some ⟨k, 0, none⟩) (P.T * P.S) (P.T * P.S)) ∧ w'.cell? ⟨bt, ot + x, none⟩ = some (.int .i64 i') ∧ w'.cell? ⟨bs, os + y, none⟩ = some (.int .i64 j')) := Lib.hid (fun w' h => by
                      have z1 := (h.dbox HXN.out hNk.out).all
                      have z2 := (h.dbox HBX.out hjk.out).all
                      obtain ⟨bs', os', hAs', _, hcs'⟩ := (h.iholds (H1.out.below HBW.out) hwk HBW.out.size) (by omega)
                      obtain ⟨bt', ot', hAt', _, hct'⟩ := (h.iholds (H2.out.below HBW.out) hwk HBW.out.size) (by omega)
                      rw [hAs] at hAs'
                      rw [hAt] at hAt'
                      injection hAs' with hAs'
                      injection hAt' with hAt'
                      injection hAs' with e1 e2
                      injection hAt' with e3 e4
                      subst e1 e2 e3 e4
                      exact ⟨z1.1, z1.2.1, z1.2.2.1, z1.2.2.2.1, z1.2.2.2.2.1, z1.2.2.2.2.2.1, z1.2.2.2.2.2.2.1, z2.2.2.2.2.1, z2.2.2.2.2.2.1, z2.2.2.2.2.2.2.1, (hct' x (by omega)).trans (by rw [hi']), (hcs' y (by omega)).trans (by rw [hj'])⟩)
                    have HA := Lib.hid (fun w' (h : But k wx w') => lifts_any (D := ⟨P.S, P.T, A, P.n, c, B, P.m, d, P.T, P.S, C, P.T * P.S, e', f, g, b⟩) HI.out HP.out x y hlx hly w' w.heap.size (h.holds (HD.out.ti.below HBW.out) hwk HBW.out.size) (Nat.le_trans HBW.out.size h.size))
                    have B1 := Lib.hid (LQ.out.but.trans (But.of ((Below.refl wr.heap.size wr).drew) k))
                    have hs1 := HS.out _ B1.out
                    have x1 : (0 : Int) ≤ (x : Int) := by omega
                    have x2 : (x : Int) < (n2 : Int) := by omega
                    have x3 : (0 : Int) ≤ (y : Int) := by omega
                    have x4 : (y : Int) < (n1 : Int) := by omega
                    have HIJ := Lib.hid (fun l (hl : l < P.T * P.S) => rnm_at (show prm P.S f1 P.S = true by have := HPA.out; rw [hl1] at this; exact this) (show prm P.T f2 P.T = true by have := HPB.out; rw [hl2] at this; exact this) hl hlx hly hi' hj')
                    have hdr := Lib.hid (LQ.out.next ((Below.refl wr.heap.size wr).drew))
                    clear hcs hct hb1 hb2 hi' hj' hl1 hl2
                    subst hAs hAt
                    go_wp2
                    clear q0 q1 q2 q3 q4 q5 q6 q7
                    go_region_held3 (fun w' => w'.cell? ⟨w.heap.size, 0, none⟩ = some (.int .i64 P.S) ∧ w'.cell? ⟨w.heap.size, 1, none⟩ = some (.int .i64 P.T) ∧ w'.cell? ⟨w.heap.size, 2, none⟩ = some (.slice A P.n c) ∧ w'.cell? ⟨w.heap.size, 3, none⟩ = some (.slice B P.m d) ∧ w'.cell? ⟨w.heap.size, 4, none⟩ = some (.int .i64 P.T) ∧ w'.cell? ⟨w.heap.size, 5, none⟩ = some (.int .i64 P.S) ∧ w'.cell? ⟨w.heap.size, 6, none⟩ = some (.slice C (P.T * P.S) e') ∧ w'.cell? ⟨j, 4, none⟩ = some (.int .i64 P.T) ∧ w'.cell? ⟨j, 5, none⟩ = some (.int .i64 P.S) ∧ w'.cell? ⟨j, 6, none⟩ = some (.slice (some ⟨k, 0, none⟩) (P.T * P.S) (P.T * P.S)) ∧ w'.cell? ⟨bt, ot + x, none⟩ = some (.int .i64 i') ∧ w'.cell? ⟨bs, os + y, none⟩ = some (.int .i64 j'))
                      (first
                        | with_reducible exact hs1
                        | with_reducible exact hs2
                        | with_reducible exact hs3)
                      (first
                        | (go_at_call 70
                           with_reducible refine Calls.mono (HA.out _ B1.out) ?_
                           rintro e u ⟨rfl, hbu⟩
                           have LU := Lib.hid (hdr.out.next hbu)
                           have hs2 := HS.out _ LU.out.but)
                        | (go_at_call 69
                           refine (set_nat P.T P.S k (P.T * P.S) i' j' _ _ _ LU.out.row (by omega) (by omega) i' j' rfl rfl hiT hjS).mono ?_
                           rintro e v ⟨rfl, hrv, hbv⟩
                           have LV := Lib.hid (LU.out.wrote hbv hrv)
                           have hs3 := HS.out _ LV.out.but))
                    all_goals
                      go_wp2
                      exact ⟨⟨y + 1, by omega, by go_num, Lib.hid (LV.out.congr fun i hi => cp_succ (by rw [AX.out, AY.out]; exact HIJ.out i hi))⟩, by simp [intOf]; omega⟩
                  · have e : y = P.S := by omega
                    subst e
                    have y2 : decide ((P.S : Int) < (P.S : Int)) = false := by simp
                    go_wp2
                    refine ⟨⟨x + 1, by omega, by go_num, Lib.hid (LQ.out.congr fun i hi => cp_next ?_)⟩, by simp [intOf]; omega⟩
                    rw [AY.out]
                    have hl1 := prm_len HPA.out
                    have h := prm_has (show prm P.S f1 P.S = true by have := HPA.out; rw [hl1] at this; exact this) (div_bd hi)
                    dsimp only
                    rw [h.1]
                    exact h.2.1
              · have e : x = P.T := by omega
                subst e
                have y1 : decide ((P.T : Int) < (P.T : Int)) = false := by simp
                have JO := Lib.hid (LP.out.but.dbox HBX.out hjk.out)
                have ZO := Lib.hid (LP.out.but.dbox ZN.out hZk.out)
                have tt := ZO.out.all
                have zf := ZO.out.frees
                simp only [Dr.zero] at tt
                obtain ⟨t0, t1, t2, t3, t4, t5, t6, t7⟩ := tt
                obtain ⟨g0, g1, g2, g3, g4, g5, g6⟩ := zf
                have rr := JO.out.all
                dsimp only at rr
                obtain ⟨r0, r1, r2, r3, r4, r5, r6, r7⟩ := rr
                have hsz := Lib.hid (show w.heap.size + 2 ≤ w3.heap.size from by have := z3l.out; omega)
                have HR3 : Hid (Rows3 wo (w.heap.size + 2) (P.rnm f1 f2) ka kb k) := Lib.hid ⟨by have := hka0.out; have := MK.out.bel.size; have := hsz.out; omega, by have := hkb0.out; have := hsz.out; omega, by have := hk.out; have := hsz.out; omega,
                  (LP.out.but.irow HKA.out hkak.out).congr fun i hi => by
                    have hl1 := prm_len HPA.out
                    have h := prm_in (show prm P.S f1 P.S = true by have := HPA.out; rw [hl1] at this; exact this) (HP.out.f i hi)
                    show f1 (P.F i) = ((f1 (P.F i)).toNat : Nat)
                    exact (Int.toNat_of_nonneg h.1).symm,
                  (LP.out.but.irow RB.out hkbk.out).congr fun i hi => by
                    have hl1 := prm_len HPB.out
                    have h := prm_in (show prm P.T f2 P.T = true by have := HPB.out; rw [hl1] at this; exact this) (HP.out.g i hi)
                    show f2 (P.G i) = ((f2 (P.G i)).toNat : Nat)
                    exact (Int.toNat_of_nonneg h.1).symm,
                  LP.out.row.congr fun i hi => by
                    have hl1 := prm_len HPB.out
                    have h := prm_has (show prm P.T f2 P.T = true by have := HPB.out; rw [hl1] at this; exact this) (show i % P.T < P.T from Nat.mod_lt _ (by omega))
                    refine (cp_all (by rw [AX.out]; dsimp only; rw [h.1]; exact h.2.1)).trans ?_
                    rw [AX.out, AY.out]
                    rfl⟩
                have HBE := Lib.hid (LP.out.but.below (w0 := w) HBW.out (by have := hk.out; have := x3l.out; omega))
                go_wp2
                refine bodyPost_ret (v := .tuple #[.agg #[.int .i64 P.S, .int .i64 P.T, .slice (some ⟨ka, 0, none⟩) P.n c3, .slice (some ⟨kb, 0, none⟩) P.m c4, .int .i64 P.T, .int .i64 P.S, .slice (some ⟨k, 0, none⟩) (P.T * P.S) (P.T * P.S)], .int .i64 0]) (by simp [results, Try.results36, go_sem, t0, t1, t2, t3, t4, t5, t6]) rfl ⟨ka, c3, kb, c4, k, P.T * P.S, rfl, ?_, ?_⟩
                · exact (set7_rows (by omega) HR3.out).lower (by omega)
                · exact set7_below (by omega) HBE.out
end Go.Proofs.Ytbafhdinalapoaa
