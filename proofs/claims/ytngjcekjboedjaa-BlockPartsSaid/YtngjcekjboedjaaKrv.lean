/- Layer 13 of the reference: Units of a grid that they divide. -/
import Derived.Test.YtngjcekjboedjaaKru
import Derived.Test.YtngjcekjboedjaaKrg
import Derived.Test.YtngjcekjboedjaaKam
import Derived.StillTailTactics
import Derived.Deep.RegionHeld3
import Derived.Deep.DeepCutAuto
import Derived.BigQuiet
namespace Go.Proofs.Ytngjcekjboedjaa
open Go.RowKit
set_option maxRecDepth 100000
set_option linter.unusedVariables false
set_option linter.unusedSimpArgs false

theorem not_same {n : Nat} {L : List Bool} {f : Nat → Bool} {Q : List Bool} (e : L.length = n) (hQ : Q = bl n f) : decide (∀ i, i < n → L.getD i false = f i) = (L == Q) := by
  rw [hQ, show L = bl n (fun j => L.getD j false) from (bl_self e).symm, bl_beq]
  exact decide_eq_decide.2 ⟨fun h i hi => by have := h i hi; rw [bl_get hi] at this; exact this, fun h i hi => by rw [bl_get hi]; exact h i hi⟩
set_option maxHeartbeats 6400000 in
theorem runits_ok (wd ht nx ny : Nat) {A : Option Addr} {c : Nat} (g : Nat → Bool) (w : World) (hg : Holds w w.heap.size A (nx * wd * (ny * ht)) g) (h1 : 1 ≤ wd) (h2 : 1 ≤ ht) (n1 : 1 ≤ nx) (n2 : 1 ≤ ny) (hW : nx * wd ≤ 64) (hH : ny * ht ≤ 64)
    (P : Nat → List Bool) (hP : ∀ k, P k = bl (wd * ht) (ptF (nx * wd) wd ht nx g k)) :
    Calls Try.prog 52 #[.agg #[.int .i64 ((nx * wd : Nat) : Int), .int .i64 ((ny * ht : Nat) : Int), .slice A (nx * wd * (ny * ht)) c], .int .i64 (wd : Nat), .int .i64 (ht : Nat)] w
      (UR w (wd : Nat) (ht : Nat) (wd * ht) (fun i j => ((us P (nx * ny)).getD i []).getD j false) (us P (nx * ny)).length (nx * ny) (ua P) 0) := by
  have w1 : wd ≤ nx * wd := Nat.le_mul_of_pos_left _ n1
  have w2 : ht ≤ ny * ht := Nat.le_mul_of_pos_left _ n2
  have x1 : nx ≤ nx * wd := Nat.le_mul_of_pos_right _ h1
  have x2 : ny ≤ ny * ht := Nat.le_mul_of_pos_right _ h2
  have hnn : nx * ny ≤ 64 * 64 := Nat.mul_le_mul (by omega) (by omega)
  have hn : wd * ht ≤ 64 * 64 := Nat.mul_le_mul (by omega) (by omega)
  have hn0 : 1 ≤ wd * ht := Nat.mul_le_mul h1 h2
  have HK := Lib.hid (fun u => rchk_valid (W := nx * wd) (H := ny * ht) A c u (by omega) hW (by omega) hH)
  have HPA := Lib.hid (fun u X Y (hX : X < nx) (hY : Y < ny) (hb : Below w.heap.size w u) => rpart_ok (nx * wd) (ny * ht) wd ht X Y A c g u hW hH h1 (by omega) h2 (by omega) (by rw [← Nat.succ_mul]; exact Nat.mul_le_mul_right _ hX) (by rw [← Nat.succ_mul]; exact Nat.mul_le_mul_right _ hY) ((hg.below hb).more hb.size))
  have HPF := Lib.hid (fun k (hk : k < nx * ny) => (show P k = bl (wd * ht) (fun i => g ((k / nx * ht + i / wd) * (nx * wd) + (k % nx * wd + i % wd))) from hP k))
  have HDX := Lib.hid (fun k => (show k % nx < nx from Nat.mod_lt _ (by omega)))
  have HDY := Lib.hid (fun k (hk : k < nx * ny) => (show k / nx < ny from Nat.div_lt_of_lt_mul hk))
  have r1 : (nx * wd) / wd = nx := Nat.mul_div_cancel _ (by omega)
  have r2 : (ny * ht) / ht = ny := Nat.mul_div_cancel _ (by omega)
  have r3 : (nx * wd) % wd = 0 := Nat.mul_mod_left _ _
  have r4 : (ny * ht) % ht = 0 := Nat.mul_mod_left _ _
  have HLL := Lib.hid (fun k => (show (P k).length = wd * ht by rw [hP, bl_len]))
  have f7 := wrap_mul (a := nx) (b := ny) (by omega)
  obtain ⟨M, hM⟩ : ∃ z, nx * wd * (ny * ht) = z := ⟨_, rfl⟩
  obtain ⟨W, hWe⟩ : ∃ z, nx * wd = z := ⟨_, rfl⟩
  obtain ⟨H, hHe⟩ : ∃ z, ny * ht = z := ⟨_, rfl⟩
  obtain ⟨n, hne⟩ : ∃ z, wd * ht = z := ⟨_, rfl⟩
  obtain ⟨NN, hNN⟩ : ∃ z, nx * ny = z := ⟨_, rfl⟩
  try simp only [hM] at HK HPA ⊢
  simp only [hWe, hHe] at HK HPA HPF r1 r2 r3 r4 hW hH w1 w2 x1 x2 hM ⊢
  try simp only [hM] at HK HPA ⊢
  simp only [hne] at HPA HPF HLL hn hn0 ⊢
  simp only [hNN] at HPF HDY hnn f7 ⊢
  have y2 : decide (((wd : Nat) : Int) < 1) = false := decide_eq_false (by omega)
  have y3 : decide (((ht : Nat) : Int) < 1) = false := decide_eq_false (by omega)
  have y0 : ((0 : Int) != 0) = false := rfl
  have m1 := tmod_nat W wd
  rw [r3] at m1
  have m2 := tmod_nat H ht
  rw [r4] at m2
  have d5 : ((W : Nat) : Int).tdiv (wd : Nat) = (nx : Nat) := by rw [tdiv_nat, r1]
  have d6 : ((H : Nat) : Int).tdiv (ht : Nat) = (ny : Nat) := by rw [tdiv_nat, r2]
  have f5 := wrap_one (a := nx) (by omega)
  have f6 := wrap_one (a := ny) (by omega)
  have m3 : ¬ wd = 0 := by omega
  have m4 : ¬ ht = 0 := by omega
  have m5 : (((wd : Nat) : Int) == 0) = false := by rw [beq_eq_false_iff_ne]; omega
  have m6 : (((ht : Nat) : Int) == 0) = false := by rw [beq_eq_false_iff_ne]; omega
  have m7 : (((nx : Nat) : Int) == 0) = false := by rw [beq_eq_false_iff_ne]; omega
  have m8 : ¬ nx = 0 := by omega
  clear hg hP hWe hHe hM hne hNN r1 r2 r3 r4
  have LB0 := Lib.hid (Below.refl w.heap.size w)
  have X1 := Lib.hid (Box.new w (W : Nat) (H : Nat) (.slice A M c))
  have LB0 := Lib.hid (LB0.out.alloc LB0.out.size (.cells #[.int .i64 (W : Nat), .int .i64 (H : Nat), .slice A M c] 24))
  go_enter Try.func52, Try.ntmps52
  go_upto_region 1 with (fail)
  generalize w.alloc (.cells #[.int .i64 (W : Nat), .int .i64 (H : Nat), .slice A M c] 24) = w0 at *
  obtain ⟨q0, q1, q2, q3, q4, q5, q6⟩ := X1.out.all
  go_wp2_with fail
  clear q0 q1 q2 q3 q4 q5 q6
  with_reducible refine Calls.mono (HK.out _) ?_
  rintro e w1 ⟨rfl, hb⟩
  have LB1 := Lib.hid (LB0.out.trans (hb.mono LB0.out.size))
  have X1 := Lib.hid (X1.out.below hb X1.out.lt)
  clear hb LB0 
  obtain ⟨gb, hgb⟩ : ∃ z, w.heap.size = z := ⟨_, rfl⟩
  have HGB := Lib.hid hgb
  rw [hgb] at X1 ⊢
  clear hgb
  obtain ⟨q0, q1, q2, q3, q4, q5, q6⟩ := X1.out.all
  go_upto_region 5 with (fail)
  go_wp2
  clear q0 q1 q2 q3 q4 q5
  go_loopw [9, 10, 11] (fun a b kv wr => ∃ (k : Nat) (l : List Nat), k ≤ NN ∧ kv = .int .i64 (k : Nat) ∧ Hid (UI P (wd : Nat) (ht : Nat) n w1 w1.heap.size wr k a b l)) (fun _ _ kv _ => NN - (intOf kv).toNat)
  case atStart => exact ⟨0, [], Nat.zero_le _, rfl, Lib.hid ⟨World.ownsRow_nil _ _ _ _, L2.Own.nil _ _ _, rfl, fun i b hi => by simp at hi, Below.refl _ _, Nat.le_refl _⟩⟩
  case round =>
    obtain ⟨k, l, hk, rfl, HU⟩ := hrel
    have X2 := Lib.hid (X1.out.below HU.out.bel X1.out.lt)
    obtain ⟨q0, q1, q2, q3, q4, q5, q7⟩ := X2.out.all
    by_cases hlt : k < NN
    · have y4 : (k : Int) < (NN : Int) := by omega
      have hkX := HDX.out k
      have hkY := HDY.out k hlt
      have t1 := tmod_nat k nx
      have t2 := tdiv_nat k nx
      have HPE := Lib.hid (HPF.out k hlt)
      have g1 := wrap_one (a := k % nx) (by omega)
      have g2 := wrap_one (a := k / nx) (by omega)
      obtain ⟨X, hXe⟩ : ∃ z, k % nx = z := ⟨_, rfl⟩
      obtain ⟨Y, hYe⟩ : ∃ z, k / nx = z := ⟨_, rfl⟩
      rw [hXe] at hkX t1 HPE g1
      rw [hYe] at hkY t2 HPE g2
      clear hXe hYe
      have HQ := Lib.hid (fun z (hb : Below w1.heap.size w1 z) => HPA.out z X Y hkX hkY (LB1.out.trans (hb.mono LB1.out.size)))
      obtain ⟨fk, hfk⟩ : ∃ z, (fun i => g ((Y * ht + i / wd) * W + (X * wd + i % wd))) = z := ⟨_, rfl⟩
      rw [hfk] at HPE
      simp only [hfk] at HQ
      clear hfk
      go_upto_region 8 with (fail)
      go_quiet (fail)
      have HU := Lib.hid (HU.out.below (bel_dn (Below.refl wr.heap.size wr) nq))
      have X2 := Lib.hid (X2.out.below (bel_dn (Below.refl wr.heap.size wr) nq) X2.out.lt)
      clear q0 q1 q2 q3 q4 q5 q7
      generalize wr.drewN nq = wq at *
      obtain ⟨q0, q1, q2, q3, q4, q5, q7⟩ := X2.out.all
      go_upto_region 10 with (fail)
      go_cut [12] (fun s wx => ∃ pb kp, s = .pointer (some ⟨pb, 0, none⟩) ∧ Hid (Box wx pb (wd : Nat) (ht : Nat) (.slice (some ⟨kp, 0, none⟩) n n)) ∧ Hid (Row wx kp n fk) ∧ Hid (Below wq.heap.size wq wx))
      case first =>
        have HKX := Lib.hid (fun (z : World) (h : Below wq.heap.size wq z) => (show z.cell? ⟨gb, 0, none⟩ = some (.int .i64 (W : Nat)) ∧ z.cell? ⟨gb, 1, none⟩ = some (.int .i64 (H : Nat)) ∧ z.cell? ⟨gb, 2, none⟩ = some (.slice A M c) from ⟨(X2.out.below h X2.out.lt).c0, (X2.out.below h X2.out.lt).c1, (X2.out.below h X2.out.lt).c2⟩))
        have HQ2 := Lib.hid (fun (z : World) (h : Below wq.heap.size wq z) => HQ.out z (HU.out.bel.trans (h.mono HU.out.sz)))
        clear LB1
        go_region_held3 (fun z => z.cell? ⟨gb, 0, none⟩ = some (.int .i64 (W : Nat)) ∧ z.cell? ⟨gb, 1, none⟩ = some (.int .i64 (H : Nat)) ∧ z.cell? ⟨gb, 2, none⟩ = some (.slice A M c))
          (exact HKX.out _ (by (repeat' (first | assumption | exact Below.refl _ _ | refine Below.drew ?_ | refine ba ?_ | refine bs ?_ ?_ | omega | (simp; done) | (simp; omega)))))
          ((first
            | (go_at_call 99
               with_reducible refine Calls.mono (HQ2.out _ (by (repeat' (first | assumption | exact Below.refl _ _ | refine Below.drew ?_ | refine ba ?_ | refine bs ?_ ?_ | omega | (simp; done) | (simp; omega))))) ?_
               rintro e u1 ⟨k1, rfl, hk1, hr1, hb1⟩
               have HB1 : Below wq.heap.size wq u1 := bt (by (repeat' (first | assumption | exact Below.refl _ _ | refine Below.drew ?_ | refine ba ?_ | refine bs ?_ ?_ | omega | (simp; done) | (simp; omega)))) hb1
               have hs1 := HB1.size
               (first | have AF := bxb hb1 (bxn wq) | have AF := bxb hb1 (bxn wq.drew) | skip)
               (try obtain ⟨z0, z1, z2, z3, z4, z5, z6⟩ := AF.all))))
        all_goals
          clear HKX
          go_wp2
          go_meet
          first
            | exact ⟨_, k1, rfl, Lib.hid (Box.new u1 (wd : Nat) (ht : Nat) _), Lib.hid (Row.alloc hr1 _), Lib.hid (ba HB1)⟩
            | exact ⟨_, k1, rfl, Lib.hid (AF.st3 (wd : Nat) (ht : Nat) _), Lib.hid (Row.st3 hr1 (hr1.ne_box AF) _ _ _), Lib.hid (bel_st3 HB1 (by first | exact Nat.le_refl _ | omega | (simp; done) | (simp; omega)) _ _ _)⟩
      case rest =>
        obtain ⟨pb, kp, rfl, PB, RP, HB⟩ := hcut
        have HU := Lib.hid (HU.out.below HB.out)
        obtain ⟨wb, hwb⟩ := wof HB.out
        subst hwb
        clear HB X2 q0 q1 q2 q3 q4 q5 q7 HQ
        obtain ⟨Au, cu, rfl, hgl⟩ := own_gls HU.out.own HU.out.rows
        have HGL := Lib.hid hgl
        have hlen := HU.out.len
        have hul := us_le (P := P) k
        have hl3 : l.length ≤ 4096 := by omega
        have HLE := Lib.hid hlen
        have HSM := Lib.hid (fun z i (hi : i < l.length) (hb : Below wb.heap.size wb z) => rsame_loop (wd : Nat) (ht : Nat) (wd : Nat) (ht : Nat) (some ⟨l.getD i 0, 0, none⟩) (some ⟨kp, 0, none⟩) n n n (fun j => ((us P k).getD i []).getD j false) fk z (by omega) rfl rfl
          ((((HU.out.rows i _ (by rw [List.getD_eq_getElem?_getD, List.getElem?_eq_getElem hi]; rfl)).holds ((HU.out.rows i _ (by rw [List.getD_eq_getElem?_getD, List.getElem?_eq_getElem hi]; rfl)).lt)).below hb).more hb.size) (((RP.out.holds RP.out.lt).below hb).more hb.size))
        have HSQ := Lib.hid (fun i (hi : i < l.length) => (show decide (∀ j, j < n → ((us P k).getD i []).getD j false = fk j) = ((us P k).getD i [] == P k) from not_same (by obtain ⟨k', _, ek⟩ := us_has k i (by rw [← hlen]; exact hi); rw [ek, HLL.out]) HPE.out))
        clear hgl hlen hul
        go_wp2
        go_loopw [13] (fun nv wr2 => ∃ i : Nat, i ≤ l.length ∧ nv = .int .i64 (i : Nat) ∧ Hid (∀ j, j < i → ((us P k).getD j [] == P k) = false) ∧ Hid (Below wb.heap.size wb wr2)) (fun nv _ => l.length - (intOf nv).toNat)
        case atStart => exact ⟨0, Nat.zero_le _, rfl, Lib.hid (fun j h => by omega), Lib.hid (Below.refl _ _)⟩
        case round =>
          obtain ⟨i, hi, rfl, HN, HB⟩ := hrel
          have PBr := Lib.hid (PB.out.below HB.out PB.out.lt)
          obtain ⟨p0, p1, p2, p3, p4, p5, p7⟩ := PBr.out.all
          by_cases hil : i < l.length
          · have z1 : (i : Int) < (l.length : Int) := by omega
            have z2 : (0 : Int) ≤ (i : Int) := by omega
            have z3 : ((i : Int) == (l.length : Int)) = false := by rw [beq_eq_false_iff_ne]; omega
            obtain ⟨b3, o3, e3, hl3', hc3⟩ := HGL.out (by omega)
            obtain ⟨g0, g1', g2', g3⟩ := hc3 i hil
            have g0 := (HB.out.cell (p := ⟨b3, o3 + i * 3, none⟩) hl3').trans g0
            have g1' := (HB.out.cell (p := ⟨b3, o3 + i * 3 + 1, none⟩) hl3').trans g1'
            have g2' : wr.cell? ⟨b3, o3 + i * 3 + 2, none⟩ = some (.slice (some ⟨l.getD i 0, 0, none⟩) n n) := (HB.out.cell (p := ⟨b3, o3 + i * 3 + 2, none⟩) hl3').trans g2'
            have HS := Lib.hid (HSM.out wr.drew i hil HB.out.drew)
            rw [HSQ.out i hil] at HS
            subst e3
            clear hc3 g3 hl3'
            obtain ⟨sb, hsb⟩ : ∃ z, ((us P k).getD i [] == P k) = z := ⟨_, rfl⟩
            rw [hsb] at HS
            obtain ⟨ku, hku⟩ : ∃ z, l.getD i 0 = z := ⟨_, rfl⟩
            rw [hku] at g2' HS
            clear hku HSM
            have HSB := Lib.hid hsb
            clear hsb
            cases sb with
            | false =>
              go_upto_region 12 with (fail)
              go_still_tail 10, (by kernel_rfl)
              change wpList _ _ _ _ _ wr.drew
              go_wp2_with (go_at_call 49; (with_reducible refine Calls.mono HS.out ?_); rintro e wa ⟨rfl, hb⟩)
              have HB3 := Lib.hid (HB.out.trans (((Below.refl wr.heap.size wr).drew.trans hb).mono HB.out.size))
              have HN3 := Lib.hid (fun j (hj : j < i + 1) => (if e : j = i then (e ▸ HSB.out : ((us P k).getD j [] == P k) = false) else HN.out j (by omega)))
              clear hb
              go_wp2
              go_roundw
              case rel => exact ⟨i + 1, by omega, by go_num, HN3, HB3⟩
              case measure => simp [intOf]; omega
            | true =>
              have hua : ua P k = i := fst_uniq (by rw [← HLE.out]; omega) HN.out (fun _ => HSB.out)
              have HUE := Lib.hid hua
              have HUS := Lib.hid (us_old (P := P) (k := k) (by rw [hua, ← HLE.out]; exact hil))
              clear hua
              go_upto_region 12 with (fail)
              go_still_tail 10, (by kernel_rfl)
              change wpList _ _ _ _ _ wr.drew
              go_wp2_with (first
                | (go_at_call 49
                   (with_reducible refine Calls.mono HS.out ?_)
                   rintro e wa ⟨rfl, hb⟩
                   have HB3 := Lib.hid (HB.out.trans (((Below.refl wr.heap.size wr).drew.trans hb).mono HB.out.size))
                   have HV4 := Lib.hid (HU.out.below HB3.out)
                   clear hb HS HB PBr p0 p1 p2 p3 p4 p5 p7 g0 g1' g2')
                | (at_builtin; refine iapp1 _ rfl _ _ (by rfl) w1.heap.size (by rfl) HV4.out.ats (i : Nat) (by rfl) (by rw [HUE.out]) (by omega) HV4.out.sz ?_; intro v' wd' hown' hg'; have HV5 := Lib.hid (HV4.out.old HUS.out hown' hg'); clear hown' hg'))
              go_roundw
              case rel => exact ⟨k + 1, l, by omega, by go_num, HV5⟩
              case measure => simp [intOf]; omega
          · have e : i = l.length := by omega
            have z1 : decide ((i : Int) < (l.length : Int)) = false := decide_eq_false (by omega)
            have z3 : ((i : Int) == (l.length : Int)) = true := by rw [e]; simp
            have hua : ua P k = l.length := fst_uniq (by rw [← HLE.out]; omega) (by rw [← e]; exact HN.out) (fun h => absurd h (by rw [← HLE.out]; omega))
            have HUE := Lib.hid hua
            have HUS := Lib.hid (us_new (P := P) (k := k) (by rw [hua, ← HLE.out]; omega))
            have HIE := Lib.hid e
            clear hua e p0 p1 p2 p3 p4 p5 p7
            go_upto_region 12 with (fail)
            go_quiet (fail)
            have hbq := bel_dn (Below.refl wr.heap.size wr) nq
            have HB4 := Lib.hid (HB.out.trans (hbq.mono HB.out.size))
            have HV4 := Lib.hid (HU.out.below HB4.out)
            have RP4 := Lib.hid (RP.out.below HB4.out RP.out.lt)
            have PB4 := Lib.hid (PB.out.below HB4.out PB.out.lt)
            clear hbq HB HB4 PBr HSM HSQ
            generalize wr.drewN nq = wc at *
            obtain ⟨p0, p1, p2, p3, p4, p5, p7⟩ := PB4.out.all
            go_wp2_with (at_builtin; first
              | (refine gapp1 _ rfl _ _ (by rfl) w1.heap.size (by rfl) HV4.out.own kp (by rfl) (by omega) HV4.out.sz ?_; intro v' wd' hown' hg'; have HV5 := Lib.hid (HV4.out.new HUS.out HPE.out RP4.out hown' hg'); clear hown' hg' p0 p1 p2 p3 p4 p5 p7)
              | (refine iapp1 _ rfl _ _ (by rfl) w1.heap.size (by rfl) HV5.out.2.1 (i : Nat) (by rfl) (by rw [HUE.out, HIE.out]) (by omega) HV5.out.2.2.2.2.2 ?_; intro v2 we' hown' hg'; have HV6 := Lib.hid (UI.new2 HV5.out hown' hg'); clear hown' hg'))
            go_roundw
            case rel => exact ⟨k + 1, l ++ [kp], by omega, by go_num, HV6⟩
            case measure => simp [intOf]; omega
    · have e : k = NN := by omega
      have y4 : ¬ (k : Int) < (NN : Int) := by omega
      obtain ⟨Au, cu, rfl, hgl⟩ := own_gls HU.out.own HU.out.rows
      obtain ⟨A2, c2, rfl, _, hh⟩ := HU.out.ats.out
      have hlen := HU.out.len
      have LBE := Lib.hid (LB1.out.trans (HU.out.bel.mono LB1.out.size))
      rw [e] at hlen hgl hh ⊢
      have HGL := Lib.hid hgl
      have HHH := Lib.hid (show L2.Holds wr wr.heap.size A2 NN (fun i => (ua P i : Int)) from fun h0 => by obtain ⟨k, e, _, hr⟩ := hh h0; rw [e]; exact hr.holds hr.lt h0)
      have HLEN := Lib.hid hlen
      have y5 : ¬ (NN : Int) < (NN : Int) := by omega
      clear hgl hh hlen HU e y4
      go_upto_region 8 with (fail)
      go_quiet (fail)
      have HGL := Lib.hid (HGL.out.below (bel_dn (Below.refl wr.heap.size wr) nq))
      have HHH := Lib.hid ((HHH.out.below (bel_dn (Below.refl wr.heap.size wr) nq)).more (bel_dn (Below.refl wr.heap.size wr) nq).size)
      have LBE := Lib.hid (bel_dn LBE.out nq)
      clear q0 q1 q2 q3 q4 q5 q7 X2
      generalize wr.drewN nq = wq at *
      go_wp2
      refine bodyPost_ret (v := .tuple #[.slice Au l.length cu, .slice A2 NN c2, .int .i64 0]) (by simp [results, Try.results52, go_sem]) rfl ?_
      refine ⟨Au, cu, A2, c2, by rw [HLEN.out], ⟨_, by rw [← HLEN.out]; exact HGL.out, fun i _ => ⟨rfl, rfl, rfl, fun j _ => rfl⟩⟩, HHH.out, LBE.out⟩
end Go.Proofs.Ytngjcekjboedjaa
