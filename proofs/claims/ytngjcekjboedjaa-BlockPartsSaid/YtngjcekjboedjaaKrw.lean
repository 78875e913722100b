/- Layer 13 of the reference: Join. -/
import Derived.Test.YtngjcekjboedjaaKpk
import Derived.Test.YtngjcekjboedjaaKrg
import Derived.Test.YtngjcekjboedjaaKam
import Derived.Test.YtngjcekjboedjaaKfr
import Derived.StillTailTactics
import Derived.Deep.RegionHeld3
import Derived.Deep.DeepCutAuto
import Derived.BigQuiet
namespace Go.Proofs.Ytngjcekjboedjaa
open Go.RowKit
set_option maxRecDepth 100000
set_option linter.unusedVariables false
set_option linter.unusedSimpArgs false

theorem But.cell {k : Nat} {w w' : World} (hb : But k w w') {p : Addr} (h : p.block < w.heap.size) (hk : p.block ≠ k) {x : Value} (hc : w.cell? p = some x) : w'.cell? p = some x := by
  rw [← hc]
  unfold World.cell?
  rw [hb.block p.block h hk]
/-- The error of Join. -/
def jz (m : Nat) (G : Nat → GV) (k : Nat) (f : Nat → Int) (x : Int) : Int :=
  if m = 0 then 6 else if gfe m G ≠ 0 then gfe m G else if one m G = false then 26 else if x < 1 then 26 else if k = 0 then 26 else if (k : Int) % x ≠ 0 then 26
  else if inds k f m = false then 8 else if (64 : Int) / (G 0).W < x then 4 else if (64 : Int) / (G 0).H < (k : Int) / x then 4 else 0
/-- What Join gives. -/
def RJ (w : World) (m : Nat) (G : Nat → GV) (k : Nat) (f : Nat → Int) (x : Int) (e : Ending) (w' : World) : Prop :=
  (jz m G k f x ≠ 0 ∧ ErrGrid w (jz m G k f x) e w') ∨ (jz m G k f x = 0 ∧ ∃ wn r u v : Nat, x = wn ∧ k = r * wn ∧ (G 0).W = u ∧ (G 0).H = v ∧ OkG w (wn * u) (r * v) (joF u v wn (fun i => (G i).f) (fun i => (f i).toNat)) e w')
set_option maxHeartbeats 6400000 in
theorem rjoin_any (D : Option Addr) (m c : Nat) (G : Nat → GV) (A : Option Addr) (k d : Nat) (f : Nat → Int) (x : Int) (w : World) (hm : m ≤ 5000) (hn : ∀ i, i < m → (G i).n ≤ 4200) (h : GLs w D m G) (hk : k ≤ 4096) (ha : L2.Holds w w.heap.size A k f) :
    Calls Try.prog 54 #[.slice D m c, .slice A k d, .int .i64 x] w (RJ w m G k f x) := by
  have HG := Lib.hid (fun u (hb : Below w.heap.size w u) => (show GLs u D m G from h.below hb))
  have HA := Lib.hid (fun u (hb : Below w.heap.size w u) => (show L2.Holds u u.heap.size A k f from (ha.below hb).more hb.size))
  have HCH := Lib.hid (fun i (hi : i < m) u => rchk_any (G i).W (G i).H (G i).A (G i).n (G i).c u (hn i hi))
  have HJ0 := Lib.hid (fun (h : m = 0) => (show jz m G k f x = 6 by unfold jz; rw [if_pos h]))
  have HJ1 := Lib.hid (fun (h : ¬ m = 0) => (show jz m G k f x = if gfe m G ≠ 0 then gfe m G else if one m G = false then 26 else if x < 1 then 26 else if k = 0 then 26 else if (k : Int) % x ≠ 0 then 26 else if inds k f m = false then 8 else if (64 : Int) / (G 0).W < x then 4 else if (64 : Int) / (G 0).H < (k : Int) / x then 4 else 0 by unfold jz; rw [if_neg h]))
  have hR0 := Box.new w 0 0 (.slice none 0 0)
  have LB0 := Lib.hid (bel_alloc w (.cells #[.int .i64 0, .int .i64 0, .slice none 0 0] 24))
  have hrw : w.heap.size ≤ w.heap.size := Nat.le_refl _
  obtain ⟨rb, hrb⟩ : ∃ r, w.heap.size = r := ⟨_, rfl⟩
  rw [hrb] at hR0
  have R0 := Lib.hid hR0
  have HW := Lib.hid hrb
  have HRW := Lib.hid (show w.heap.size ≤ rb from Nat.le_of_eq hrb)
  clear hR0 h ha hn hrb hrw
  obtain ⟨J, hJ⟩ : ∃ z, jz m G k f x = z := ⟨_, rfl⟩
  have HRJ := Lib.hid (show ∀ e w', (J ≠ 0 ∧ ErrGrid w J e w') ∨ (J = 0 ∧ ∃ wn r u v : Nat, x = wn ∧ k = r * wn ∧ (G 0).W = u ∧ (G 0).H = v ∧ OkG w (wn * u) (r * v) (joF u v wn (fun i => (G i).f) (fun i => (f i).toNat)) e w') → RJ w m G k f x e w' by rw [← hJ]; exact fun _ _ h => h)
  simp only [hJ] at HJ0 HJ1
  clear hJ
  go_enter Try.func54, Try.ntmps54
  go_upto_region 1 with (fail)
  rw [HW.out]
  generalize w.alloc (.cells #[.int .i64 0, .int .i64 0, .slice none 0 0] 24) = w0 at *
  by_cases h0 : m = 0
  · have y0 : ((m : Int) == 0) = true := by rw [h0]; rfl
    have HJ := Lib.hid (HJ0.out h0)
    clear h0
    obtain ⟨q0, q1, q2, q3, q4, q5, q6⟩ := R0.out.all
    have hrr := HRW.out
    go_wp2
    refine bodyPost_ret (v := .tuple #[.agg #[.int .i64 0, .int .i64 0, .slice none 0 0], .int .i64 6]) (by simp [results, Try.results54, go_sem, q0, q1, q2, q3, q4, q5]) rfl ?_
    refine HRJ.out _ _ (.inl ?_)
    rw [HJ.out]
    exact ⟨by first | assumption | decide, fin_err hrr LB0.out⟩
  · have y0 : ((m : Int) == 0) = false := by rw [beq_eq_false_iff_ne]; omega
    have HJ2 := Lib.hid (HJ1.out h0)
    have hm0 : 0 < m := Nat.pos_of_ne_zero h0
    clear HJ0 HJ1 h0
    go_wp2
    go_loopw [8] (fun i wr => ∃ j : Nat, j ≤ m ∧ i = .int .i64 j ∧ Hid (∀ s, s < j → chk (G s).W (G s).H (G s).n = 0) ∧ Hid (Below w0.heap.size w0 wr)) (fun i _ => m - (intOf i).toNat)
    case atStart => exact ⟨0, Nat.zero_le _, rfl, Lib.hid (fun s h => by omega), Lib.hid (Below.refl _ _)⟩
    case round =>
      obtain ⟨j, hj, rfl, HN, HB⟩ := hrel
      by_cases hlt : j < m
      · have z1 : (j : Int) < (m : Int) := by omega
        have z2 : (0 : Int) ≤ (j : Int) := by omega
        obtain ⟨b3, o3, e3, hl3, hc3⟩ := HG.out _ LB0.out hm0
        obtain ⟨g0, g1, g2, _⟩ := hc3 j hlt
        have g0 := (HB.out.cell (p := ⟨b3, o3 + j * 3, none⟩) hl3).trans g0
        have g1 := (HB.out.cell (p := ⟨b3, o3 + j * 3 + 1, none⟩) hl3).trans g1
        have g2 := (HB.out.cell (p := ⟨b3, o3 + j * 3 + 2, none⟩) hl3).trans g2
        have HC := Lib.hid (HCH.out j hlt)
        by_cases hq : chk (G j).W (G j).H (G j).n = 0
        · have HR := Lib.hid (fun s (hs : s < j + 1) => (if e : s = j then (e ▸ hq : chk (G s).W (G s).H (G s).n = 0) else HN.out s (by omega)))
          rw [hq] at HC
          subst e3
          clear hq hc3
          go_wp2_with fail
          with_reducible refine Calls.mono (HC.out _) ?_
          rintro e wa ⟨rfl, hb⟩
          have HB3 := Lib.hid (HB.out.trans (hb.mono HB.out.size))
          clear hb
          go_wp2
          go_roundw
          case rel => exact ⟨j + 1, by omega, by go_num, HR, HB3⟩
          case measure => simp [intOf]; omega
        · have hge : gfe m G = chk (G j).W (G j).H (G j).n := fe_first (z := fun i => chk (G i).W (G i).H (G i).n) hlt HN.out hq
          have HJ := HJ2.out
          rw [hge, if_pos hq] at HJ
          have HJ := Lib.hid HJ
          obtain ⟨z, hz⟩ : ∃ z, chk (G j).W (G j).H (G j).n = z := ⟨_, rfl⟩
          rw [hz] at HC hq HJ
          have y1 : (z != 0) = true := by rw [bne_iff_ne]; exact hq
          have HQ := Lib.hid hq
          have R0r := Lib.hid (R0.out.below HB.out R0.out.lt)
          subst e3
          have hlw := hl3
          clear hq hc3 hge hz HJ2
          go_wp2_with fail
          with_reducible refine Calls.mono (HC.out _) ?_
          rintro e wa ⟨rfl, hb⟩
          have HB3 := Lib.hid (HB.out.trans (hb.mono HB.out.size))
          have R0a := Lib.hid (R0r.out.below hb R0r.out.lt)
          have hlr : b3 < wr.heap.size := Nat.lt_of_lt_of_le hl3 HB.out.size
          have g0 := (hb.cell (p := ⟨b3, o3 + j * 3, none⟩) hlr).trans g0
          have g1 := (hb.cell (p := ⟨b3, o3 + j * 3 + 1, none⟩) hlr).trans g1
          have g2 := (hb.cell (p := ⟨b3, o3 + j * 3 + 2, none⟩) hlr).trans g2
          clear hb R0r hlr
          go_wp2_with fail
          with_reducible refine Calls.mono (HC.out _) ?_
          rintro e wc ⟨rfl, hb⟩
          have LBC := Lib.hid (LB0.out.trans ((HB3.out.trans (hb.mono HB3.out.size)).mono LB0.out.size))
          have R0c := Lib.hid (R0a.out.below hb R0a.out.lt)
          clear hb g0 g1 g2
          have hne := HQ.out
          obtain ⟨q0, q1, q2, q3, q4, q5, q6⟩ := R0c.out.all
          have hrr := HRW.out
          go_wp2
          refine bodyPost_ret (v := .tuple #[.agg #[.int .i64 0, .int .i64 0, .slice none 0 0], .int .i64 z]) (by simp [results, Try.results54, go_sem, q0, q1, q2, q3, q4, q5]) rfl ?_
          refine HRJ.out _ _ (.inl ?_)
          rw [HJ.out]
          exact ⟨by first | assumption | decide, fin_err hrr LBC.out⟩
      · have e : j = m := by omega
        have z1 : ¬ (j : Int) < (m : Int) := by omega
        have hgz : gfe m G = 0 := fe_zero.2 (by rw [← e]; exact HN.out)
        have HCZ := Lib.hid (show ∀ s, s < m → chk (G s).W (G s).H (G s).n = 0 by rw [← e]; exact HN.out)
        have HJ := HJ2.out
        rw [hgz, if_neg (by decide)] at HJ
        have HJ3 := Lib.hid HJ
        have LB1 := Lib.hid (LB0.out.trans (HB.out.mono LB0.out.size))
        have R1 := Lib.hid (R0.out.below HB.out R0.out.lt)
        clear hgz HJ HJ2 HN e HCH
        obtain ⟨u, v, hu, hv, hn0, u0, u1, v0, v1⟩ := chk_nat (HCZ.out 0 hm0)
        obtain ⟨b3, o3, e3, hl3, hc3⟩ := HG.out _ LB1.out hm0
        obtain ⟨a0, a1, a2, _⟩ := hc3 0 hm0
        rw [Nat.zero_mul, Nat.add_zero] at a0 a1 a2
        have hc3 := Lib.hid hc3
        rw [hu] at a0
        rw [hv] at a1
        rw [hu, hv] at HJ3
        have HUV := Lib.hid (And.intro hu hv)
        have z15 : (0 : Int) < (m : Int) := by omega
        subst e3
        clear hu hv hn0 HB
        go_upto_region 8 with (fail)
        go_quiet (fail)
        have hbq := bel_dn (Below.refl wr.heap.size wr) nq
        have LB2 := Lib.hid (LB1.out.trans (hbq.mono LB1.out.size))
        have R2 := Lib.hid (R1.out.below hbq R1.out.lt)
        clear hbq a0 a1 a2 LB1 R1 R0 LB0 hl3 hc3
        generalize wr.drewN nq = w2 at *
        go_wp2
        go_loopw [11] (fun i wr => ∃ j : Nat, j ≤ m ∧ i = .int .i64 j ∧ Hid (∀ s, s < j → (G s).W = u ∧ (G s).H = v) ∧ Hid (Below w2.heap.size w2 wr)) (fun i _ => m - (intOf i).toNat)
        case atStart => exact ⟨0, Nat.zero_le _, rfl, Lib.hid (fun s h => by omega), Lib.hid (Below.refl _ _)⟩
        case round =>
          obtain ⟨j, hj, rfl, HN, HB⟩ := hrel
          have R2r := Lib.hid (R2.out.below HB.out R2.out.lt)
          have LBr := Lib.hid (LB2.out.trans (HB.out.mono LB2.out.size))
          by_cases hlt : j < m
          · have z1 : (j : Int) < (m : Int) := by omega
            have z2 : (0 : Int) ≤ (j : Int) := by omega
            obtain ⟨b4, o4, e4, hl4, hc4⟩ := HG.out _ LBr.out hm0
            obtain ⟨g0, g1, g2, _⟩ := hc4 j hlt
            injection e4 with e4
            injection e4 with e4 e5 _
            subst e4 e5
            by_cases hq : (G j).W = u ∧ (G j).H = v
            · have HR := Lib.hid (fun s (hs : s < j + 1) => (if e : s = j then (e ▸ hq : (G s).W = u ∧ (G s).H = v) else HN.out s (by omega)))
              rw [hq.1] at g0
              rw [hq.2] at g1
              have y2 : ((u : Int) != (u : Int)) = false := by simp
              have y3 : ((v : Int) != (v : Int)) = false := by simp
              clear hq hc4 R2r LBr
              go_wp2
              go_roundw
              case rel => exact ⟨j + 1, by omega, by go_num, HR, HB⟩
              case measure => simp [intOf]; omega
            · have ho : one m G = false := one_no hlt (by rw [HUV.out.1, HUV.out.2]; exact hq)
              have HJ := HJ3.out
              rw [if_pos ho] at HJ
              have HJ := Lib.hid HJ
              clear ho hc4 HJ3
              by_cases hx : (G j).W = u
              · have y2 : ((u : Int) != (u : Int)) = false := by simp
                rw [hx] at g0
                have hy : ¬ (G j).H = v := fun e => hq ⟨hx, e⟩
                have y3 : ((G j).H != (v : Int)) = true := by rw [bne_iff_ne]; exact hy
                clear hx hy hq
                obtain ⟨q0, q1, q2, q3, q4, q5, q6⟩ := R2r.out.all
                have hrr := HRW.out
                go_wp2
                refine bodyPost_ret (v := .tuple #[.agg #[.int .i64 0, .int .i64 0, .slice none 0 0], .int .i64 26]) (by simp [results, Try.results54, go_sem, q0, q1, q2, q3, q4, q5]) rfl ?_
                refine HRJ.out _ _ (.inl ?_)
                rw [HJ.out]
                exact ⟨by first | assumption | decide, fin_err hrr LBr.out⟩
              · have y2 : ((G j).W != (u : Int)) = true := by rw [bne_iff_ne]; exact hx
                clear hx hq
                obtain ⟨q0, q1, q2, q3, q4, q5, q6⟩ := R2r.out.all
                have hrr := HRW.out
                go_wp2
                refine bodyPost_ret (v := .tuple #[.agg #[.int .i64 0, .int .i64 0, .slice none 0 0], .int .i64 26]) (by simp [results, Try.results54, go_sem, q0, q1, q2, q3, q4, q5]) rfl ?_
                refine HRJ.out _ _ (.inl ?_)
                rw [HJ.out]
                exact ⟨by first | assumption | decide, fin_err hrr LBr.out⟩
          · have e : j = m := by omega
            have z1 : ¬ (j : Int) < (m : Int) := by omega
            have ho : one m G = true := decide_eq_true fun i hi => by rw [HUV.out.1, HUV.out.2]; exact HN.out i (by omega)
            have HSZ := Lib.hid (show ∀ s, s < m → (G s).W = u ∧ (G s).H = v by rw [← e]; exact HN.out)
            have HJ := HJ3.out
            rw [if_neg (by rw [ho]; decide)] at HJ
            have HJ4 := Lib.hid HJ
            clear ho HJ HJ3 HN e HB R2 LB2
            by_cases hx1 : x < 1
            · have HJ := HJ4.out
              rw [if_pos hx1] at HJ
              have HJ := Lib.hid HJ
              have y2 : decide (x < 1) = true := decide_eq_true hx1
              clear HJ4 hx1
              obtain ⟨q0, q1, q2, q3, q4, q5, q6⟩ := R2r.out.all
              have hrr := HRW.out
              go_wp2
              refine bodyPost_ret (v := .tuple #[.agg #[.int .i64 0, .int .i64 0, .slice none 0 0], .int .i64 26]) (by simp [results, Try.results54, go_sem, q0, q1, q2, q3, q4, q5]) rfl ?_
              refine HRJ.out _ _ (.inl ?_)
              rw [HJ.out]
              exact ⟨by first | assumption | decide, fin_err hrr LBr.out⟩
            · have HJ := HJ4.out
              rw [if_neg hx1] at HJ
              have y2 : decide (x < 1) = false := decide_eq_false hx1
              by_cases hk0 : k = 0
              · rw [if_pos hk0] at HJ
                have HJ := Lib.hid HJ
                have y3 : ((k : Int) == 0) = true := by rw [hk0]; rfl
                clear HJ4 hk0 hx1
                obtain ⟨q0, q1, q2, q3, q4, q5, q6⟩ := R2r.out.all
                have hrr := HRW.out
                go_wp2
                refine bodyPost_ret (v := .tuple #[.agg #[.int .i64 0, .int .i64 0, .slice none 0 0], .int .i64 26]) (by simp [results, Try.results54, go_sem, q0, q1, q2, q3, q4, q5]) rfl ?_
                refine HRJ.out _ _ (.inl ?_)
                rw [HJ.out]
                exact ⟨by first | assumption | decide, fin_err hrr LBr.out⟩
              · rw [if_neg hk0] at HJ
                have y3 : ((k : Int) == 0) = false := by rw [beq_eq_false_iff_ne]; omega
                have y4 : (x == 0) = false := by rw [beq_eq_false_iff_ne]; omega
                have y5 : (k : Int).tmod x = (k : Int) % x := Int.tmod_eq_emod_of_nonneg (by omega)
                have y7 : ¬ x = 0 := by omega
                have y8 : 0 ≤ (k : Int) % x := Int.emod_nonneg _ y7
                have hq0 : 0 ≤ (k : Int) / x := Int.ediv_nonneg (by omega) (by omega)
                have y9 : (k : Int) % x < 100001 := by
                  have a1 := Int.mul_ediv_add_emod (k : Int) x
                  have a3 : 0 ≤ x * ((k : Int) / x) := Int.mul_nonneg (by omega) hq0
                  omega
                by_cases hkx : (k : Int) % x ≠ 0
                · rw [if_pos hkx] at HJ
                  have HJ := Lib.hid HJ
                  have y6 : (((k : Int) % x) != 0) = true := by rw [bne_iff_ne]; exact hkx
                  clear HJ4 hk0 hx1 hkx hq0
                  obtain ⟨q0, q1, q2, q3, q4, q5, q6⟩ := R2r.out.all
                  have hrr := HRW.out
                  go_wp2
                  refine bodyPost_ret (v := .tuple #[.agg #[.int .i64 0, .int .i64 0, .slice none 0 0], .int .i64 26]) (by simp [results, Try.results54, go_sem, q0, q1, q2, q3, q4, q5]) rfl ?_
                  refine HRJ.out _ _ (.inl ?_)
                  rw [HJ.out]
                  exact ⟨by first | assumption | decide, fin_err hrr LBr.out⟩
                · rw [if_neg hkx] at HJ
                  have HJ5 := Lib.hid HJ
                  have hkx2 : (k : Int) % x = 0 := Decidable.not_not.1 hkx
                  have y6 : (((k : Int) % x) != 0) = false := by rw [hkx2]; rfl
                  obtain ⟨wn, hwn⟩ := Int.eq_ofNat_of_zero_le (show 0 ≤ x by omega)
                  subst hwn
                  obtain ⟨r, hr⟩ := Int.eq_ofNat_of_zero_le hq0
                  have hwn1 : 1 ≤ wn := by omega
                  have hkr : k = r * wn := by
                    have a1 := Int.mul_ediv_add_emod (k : Int) (wn : Int)
                    rw [hkx2, hr, Int.add_zero, ← Int.natCast_mul] at a1
                    rw [Nat.mul_comm]; exact (Int.ofNat.inj a1).symm
                  have hr1 : 1 ≤ r := by
                    rcases Nat.eq_zero_or_pos r with q | q
                    · rw [q, Nat.zero_mul] at hkr; exact absurd hkr hk0
                    · exact q
                  have HKR := Lib.hid hkr
                  have HQR := Lib.hid hr
                  rw [hr] at HJ5
                  clear HJ HJ4 hkx hx1 hk0 hkx2 hkr hr hq0
                  go_wp2
                  obtain ⟨w3, hw3⟩ := wof LBr.out
                  subst hw3
                  go_loopw [12] (fun i wx => ∃ j : Nat, j ≤ k ∧ i = .int .i64 j ∧ Hid (∀ i, i < j → 0 ≤ f i ∧ f i < (m : Int)) ∧ wx = w3) (fun i _ => k - (intOf i).toNat)
                  case atStart => exact ⟨0, Nat.zero_le _, rfl, Lib.hid (fun j h => by omega), rfl⟩
                  case round =>
                    obtain ⟨j, hj, rfl, HN, rfl⟩ := hrel
                    by_cases hlt : j < k
                    · have z1 : (j : Int) < (k : Int) := by omega
                      have z2 : (0 : Int) ≤ (j : Int) := by omega
                      obtain ⟨ba, oa, eA, hba, hca⟩ := HA.out _ LBr.out (by omega)
                      have a3 := hca j hlt
                      subst eA
                      clear hca
                      obtain ⟨fj, hfj⟩ : ∃ z, f j = z := ⟨_, rfl⟩
                      rw [hfj] at a3
                      by_cases hq : 0 ≤ fj ∧ fj < (m : Int)
                      · have HR := Lib.hid (fun i (hi : i < j + 1) => if e : i = j then (show 0 ≤ f i ∧ f i < (m : Int) by rw [e, hfj]; exact hq) else HN.out i (by omega))
                        have y10 : decide (fj < 0) = false := decide_eq_false (by omega)
                        have y11 : ¬ (m : Int) ≤ fj := by omega
                        clear hq hfj R2r LBr
                        go_wp2
                        go_roundw
                        case rel => exact ⟨j + 1, by omega, by go_num, HR, trivial⟩
                        case measure => simp [intOf]; omega
                      · have hin : inds k f m = false := decide_eq_false fun q => hq (hfj ▸ q j hlt)
                        have HJ := HJ5.out
                        rw [if_pos hin] at HJ
                        have HJ := Lib.hid HJ
                        clear hin HJ5
                        by_cases h1 : fj < 0
                        · have y10 : decide (fj < 0) = true := decide_eq_true h1
                          clear h1 hq hfj
                          obtain ⟨q0, q1, q2, q3, q4, q5, q6⟩ := R2r.out.all
                          have hrr := HRW.out
                          go_wp2
                          refine bodyPost_ret (v := .tuple #[.agg #[.int .i64 0, .int .i64 0, .slice none 0 0], .int .i64 8]) (by simp [results, Try.results54, go_sem, q0, q1, q2, q3, q4, q5]) rfl ?_
                          refine HRJ.out _ _ (.inl ?_)
                          rw [HJ.out]
                          exact ⟨by first | assumption | decide, fin_err hrr LBr.out⟩
                        · have y10 : decide (fj < 0) = false := decide_eq_false h1
                          have y11 : (m : Int) ≤ fj := by omega
                          clear h1 hq hfj
                          obtain ⟨q0, q1, q2, q3, q4, q5, q6⟩ := R2r.out.all
                          have hrr := HRW.out
                          go_wp2
                          refine bodyPost_ret (v := .tuple #[.agg #[.int .i64 0, .int .i64 0, .slice none 0 0], .int .i64 8]) (by simp [results, Try.results54, go_sem, q0, q1, q2, q3, q4, q5]) rfl ?_
                          refine HRJ.out _ _ (.inl ?_)
                          rw [HJ.out]
                          exact ⟨by first | assumption | decide, fin_err hrr LBr.out⟩
                    · have e : j = k := by omega
                      have z1 : ¬ (j : Int) < (k : Int) := by omega
                      have hin : inds k f m = true := decide_eq_true fun i hi => HN.out i (by omega)
                      have HIN := Lib.hid (show ∀ i, i < k → 0 ≤ f i ∧ f i < (m : Int) from fun i hi => HN.out i (by omega))
                      have HJ := HJ5.out
                      rw [if_neg (by rw [hin]; decide)] at HJ
                      obtain ⟨d1, d2, d3⟩ := quo_bd u u0
                      obtain ⟨e1, e2, e3⟩ := quo_bd v v0
                      have hrk : r ≤ k := by rw [HKR.out]; exact Nat.le_mul_of_pos_right _ (by omega)
                      have y10 : (k : Int).tdiv (wn : Int) = (r : Int) := by rw [Int.tdiv_eq_ediv_of_nonneg (by omega), HQR.out]
                      have y11 : ((u : Int) == 0) = false := by rw [beq_eq_false_iff_ne]; omega
                      have y12 : ((v : Int) == 0) = false := by rw [beq_eq_false_iff_ne]; omega
                      have y13 : ¬ u = 0 := by omega
                      have y14 : ¬ v = 0 := by omega
                      clear hin HJ5 HN e
                      by_cases h6 : (64 : Int) / (u : Int) < (wn : Int)
                      · rw [if_pos h6] at HJ
                        have HJ := Lib.hid HJ
                        go_upto_region 21 with (fail)
                        go_quiet (fail)
                        obtain ⟨wz, hwz⟩ := wof LBr.out
                        subst hwz
                        have hbq := bel_dn (Below.refl wz.heap.size wz) nq
                        have LB3 := Lib.hid (LBr.out.trans (hbq.mono LBr.out.size))
                        have R3 := Lib.hid (R2r.out.below hbq R2r.out.lt)
                        clear hbq R2r LBr
                        generalize wz.drewN nq = wy at *
                        obtain ⟨q0, q1, q2, q3, q4, q5, q6⟩ := R3.out.all
                        have hrr := HRW.out
                        go_wp2
                        refine bodyPost_ret (v := .tuple #[.agg #[.int .i64 0, .int .i64 0, .slice none 0 0], .int .i64 4]) (by simp [results, Try.results54, go_sem, q0, q1, q2, q3, q4, q5]) rfl ?_
                        refine HRJ.out _ _ (.inl ?_)
                        rw [HJ.out]
                        exact ⟨by first | assumption | decide, fin_err hrr LB3.out⟩
                      · rw [if_neg h6] at HJ
                        have z6 : decide ((64 : Int) / (u : Int) < (wn : Int)) = false := decide_eq_false h6
                        by_cases h7 : (64 : Int) / (v : Int) < (r : Int)
                        · rw [if_pos h7] at HJ
                          have HJ := Lib.hid HJ
                          go_upto_region 21 with (fail)
                          go_quiet (fail)
                          obtain ⟨wz, hwz⟩ := wof LBr.out
                          subst hwz
                          have hbq := bel_dn (Below.refl wz.heap.size wz) nq
                          have LB3 := Lib.hid (LBr.out.trans (hbq.mono LBr.out.size))
                          have R3 := Lib.hid (R2r.out.below hbq R2r.out.lt)
                          clear hbq R2r LBr
                          generalize wz.drewN nq = wy at *
                          obtain ⟨q0, q1, q2, q3, q4, q5, q6⟩ := R3.out.all
                          have hrr := HRW.out
                          go_wp2
                          refine bodyPost_ret (v := .tuple #[.agg #[.int .i64 0, .int .i64 0, .slice none 0 0], .int .i64 4]) (by simp [results, Try.results54, go_sem, q0, q1, q2, q3, q4, q5]) rfl ?_
                          refine HRJ.out _ _ (.inl ?_)
                          rw [HJ.out]
                          exact ⟨by first | assumption | decide, fin_err hrr LB3.out⟩
                        · rw [if_neg h7] at HJ
                          have HJ := Lib.hid HJ
                          have z7 : decide ((64 : Int) / (v : Int) < (r : Int)) = false := decide_eq_false h7
                          have hX := (quo_le u0).1 h6
                          have hY := (quo_le v0).1 h7
                          clear h6 h7
                          go_upto_region 21 with (fail)
                          go_quiet (fail)
                          obtain ⟨wz, hwz⟩ := wof LBr.out
                          subst hwz
                          have hbq := bel_dn (Below.refl wz.heap.size wz) nq
                          have LB3 := Lib.hid (LBr.out.trans (hbq.mono LBr.out.size))
                          have R3 := Lib.hid (R2r.out.below hbq R2r.out.lt)
                          clear hbq R2r LBr
                          generalize wz.drewN nq = wy at *
                          have hkw0 := LB3.out.size
                          have f1 := wrap_mul (a := wn) (b := u) (by omega)
                          have f2 := wrap_mul (a := r) (b := v) (by omega)
                          have HXE0 := Lib.hid (rfl : wn * u = wn * u)
                          obtain ⟨X, hXe⟩ : ∃ z, wn * u = z := ⟨_, rfl⟩
                          obtain ⟨Y, hYe⟩ : ∃ z, r * v = z := ⟨_, rfl⟩
                          rw [hXe] at f1 hX
                          rw [hYe] at f2 hY
                          have HXE := Lib.hid hXe
                          have HYE := Lib.hid hYe
                          have HZ := Lib.hid (fun z => zero_int (X : Nat) (Y : Nat) X Y rfl rfl hX hY z)
                          obtain ⟨N, hN⟩ : ∃ z, X * Y = z := ⟨_, rfl⟩
                          have HNE := Lib.hid hN
                          have HST := Lib.hid (fun z k c1 x y q (F : Nat → Bool) (hx : x < X) (hy : y < Y) (hr : Row z k N F) => set_nat X Y k c1 (x : Nat) (y : Nat) q F z (by rw [hN]; exact hr) hX hY x y rfl rfl hx hy)
                          simp only [hN] at HZ HST
                          clear hXe hYe hN HXE0
                          go_wp2_with fail
                          with_reducible refine Calls.mono (HZ.out _) ?_
                          rintro e w4 ⟨kq, rfl, hkq, hrow, hb⟩
                          have LB4 := Lib.hid (LB3.out.trans (hb.mono LB3.out.size))
                          have R4 := Lib.hid (R3.out.below hb R3.out.lt)
                          have RK := Lib.hid hrow
                          have hkw : w.heap.size ≤ kq := Nat.le_trans LB3.out.size hkq
                          clear hb LB3 R3 hrow hkq hkw0
                          have hb := ((Below.refl w4.heap.size w4).alloc (by simp; try omega) (.cells #[.int .i64 (X : Nat), .int .i64 (Y : Nat), .slice (some ⟨kq, 0, none⟩) N N] 24))
                          have LB5 := Lib.hid (LB4.out.trans (hb.mono LB4.out.size))
                          have R5 := Lib.hid (R4.out.below hb R4.out.lt)
                          have RK := Lib.hid (RK.out.below hb RK.out.lt)
                          have XO := Lib.hid (Box.new w4 (X : Nat) (Y : Nat) (.slice (some ⟨kq, 0, none⟩) N N))
                          clear hb LB4 R4
                          go_upto_region 24 with (fail)
                          obtain ⟨ob, hob⟩ : ∃ z, w4.heap.size = z := ⟨_, rfl⟩
                          rw [hob] at XO
                          try rw [hob]
                          clear hob
                          generalize w4.alloc (.cells #[.int .i64 (X : Nat), .int .i64 (Y : Nat), .slice (some ⟨kq, 0, none⟩) N N] 24) = w5 at *
                          have n4 : ob ≠ kq := fun h => RK.out.ne_box XO.out h.symm
                          have n5 : rb ≠ kq := fun h => RK.out.ne_box R5.out h.symm
                          have hw5 := LB5.out.size
                          have HCELL := Lib.hid (fun (z : World) (h : But kq w5 z) (p : Addr) (hp : p.block < w.heap.size) (x : Value) (hc : w.cell? p = some x) => (show z.cell? p = some x from But.cell h (Nat.lt_of_lt_of_le hp hw5) (by omega) ((LB5.out.cell hp).trans hc)))
                          obtain ⟨F, hF⟩ : ∃ z, joF u v wn (fun i => (G i).f) (fun i => (f i).toNat) = z := ⟨_, rfl⟩
                          have HFF := Lib.hid hF
                          go_wp2
                          go_loopw [14] (fun i wr => ∃ y : Nat, y ≤ Y ∧ i = .int .i64 y ∧ Hid (Row wr kq N (part X (fun x y => F (y * X + x)) (y * X))) ∧ Hid (But kq w5 wr)) (fun i _ => Y - (intOf i).toNat)
                          case atStart => exact ⟨0, Nat.zero_le _, rfl, Lib.hid (RK.out.congr fun i _ => by rw [Nat.zero_mul, part_zero]), Lib.hid (But.of (Below.refl _ _))⟩
                          case round =>
                            obtain ⟨y, hy, rfl, HR, HU⟩ := hrel
                            have XOr := Lib.hid (HU.out.box XO.out n4)
                            obtain ⟨q0, q1, q2, q3, q4, q5, q6⟩ := XOr.out.all
                            by_cases hlt : y < Y
                            · have z1 : (y : Int) < (Y : Int) := by omega
                              have z2 : (0 : Int) ≤ (y : Int) := by omega
                              go_wp2
                              clear q0 q1 q2 q3 q4 q5 q6 XOr
                              go_loopw [15] (fun i wr => ∃ x : Nat, x ≤ X ∧ i = .int .i64 x ∧ Hid (Row wr kq N (part X (fun x y => F (y * X + x)) (y * X + x))) ∧ Hid (But kq w5 wr)) (fun i _ => X - (intOf i).toNat)
                              case atStart => exact ⟨0, Nat.zero_le _, rfl, HR, HU⟩
                              case round =>
                                obtain ⟨x, hx, rfl, HR2, HU2⟩ := hrel
                                clear HR HU
                                have XOr := Lib.hid (HU2.out.box XO.out n4)
                                by_cases hlx : x < X
                                · have z3 : (x : Int) < (X : Int) := by omega
                                  have z4 : (0 : Int) ≤ (x : Int) := by omega
                                  have hx2 : x < wn * u := by rw [HXE.out]; exact hlx
                                  have hy2 : y < r * v := by rw [HYE.out]; exact hlt
                                  have hpl : y / v * wn + x / u < k := by rw [HKR.out, Nat.mul_comm r wn]; exact place_lt hx2 hy2
                                  have hFP : F (y * X + x) = (G ((f (y / v * wn + x / u)).toNat)).f (y % v * u + x % u) := by rw [← HFF.out, ← HXE.out]; exact jo_at hx2
                                  have p3 : x % u < u := rem_lt hx2
                                  have p4 : y % v < v := rem_lt hy2
                                  have hin := HIN.out _ hpl
                                  obtain ⟨ba, oa, eA, hba, hca⟩ := HA.out w (Below.refl _ _) (by omega)
                                  have a3 := hca _ hpl
                                  have d5 := tdiv_nat y v
                                  have d6 := tdiv_nat x u
                                  have d7 := tmod_nat y v
                                  have d8 := tmod_nat x u
                                  have l0 : y / v * wn + x / u ≤ 4096 := Nat.le_of_lt (Nat.lt_of_lt_of_le hpl hk)
                                  have l1 : y / v * wn ≤ 4096 := Nat.le_trans (Nat.le_add_right _ _) l0
                                  have f5 := wrap_one (a := y / v) (Nat.le_trans (Nat.div_le_self _ _) (by omega))
                                  have f6 := wrap_one (a := x / u) (Nat.le_trans (Nat.div_le_self _ _) (by omega))
                                  have f7 := wrap_one (a := y % v) (Nat.le_trans (Nat.mod_le _ _) (by omega))
                                  have f8 := wrap_one (a := x % u) (Nat.le_trans (Nat.mod_le _ _) (by omega))
                                  have f9 := wrap_mul (a := y / v) (b := wn) (Nat.le_trans l1 (by omega))
                                  have f10 := wrap_add (a := y / v * wn) (b := x / u) (Nat.le_trans l0 (by omega))
                                  obtain ⟨jv, hjv⟩ : ∃ z, y / v = z := ⟨_, rfl⟩
                                  obtain ⟨iu, hiu⟩ : ∃ z, x / u = z := ⟨_, rfl⟩
                                  obtain ⟨jr, hjr⟩ : ∃ z, y % v = z := ⟨_, rfl⟩
                                  obtain ⟨ir, hir⟩ : ∃ z, x % u = z := ⟨_, rfl⟩
                                  rw [hjv, hiu] at hpl hFP hin a3 l0 f10
                                  rw [hjv] at l1 d5 f5 f9
                                  rw [hiu] at d6 f6
                                  rw [hjr] at p4 d7 f7 hFP
                                  rw [hir] at p3 d8 f8 hFP
                                  obtain ⟨jw, hjw⟩ : ∃ z, jv * wn = z := ⟨_, rfl⟩
                                  rw [hjw] at hpl hFP hin a3 l0 l1 f9 f10
                                  obtain ⟨pl, hple⟩ : ∃ z, jw + iu = z := ⟨_, rfl⟩
                                  rw [hple] at hpl hFP hin a3 l0 f10
                                  obtain ⟨q, hq⟩ := Int.eq_ofNat_of_zero_le hin.1
                                  rw [hq] at hin a3 hFP
                                  rw [Int.toNat_natCast] at hFP
                                  have hqm : q < m := by omega
                                  obtain ⟨b', o', eD, hl', hc'⟩ := HG.out w (Below.refl _ _) hm0
                                  cases eD
                                  obtain ⟨g0, g1, g2, g3⟩ := hc' q hqm
                                  have hzn := HCZ.out q hqm
                                  obtain ⟨P2, Q2, c1, c2, c3, _, _, _, _⟩ := chk_nat hzn
                                  have hs1 := (HSZ.out q hqm).1
                                  have hs2 := (HSZ.out q hqm).2
                                  have hnq : (G q).n = u * v := by rw [c3, show P2 = u from Int.ofNat.inj (c1.symm.trans hs1), show Q2 = v from Int.ofNat.inj (c2.symm.trans hs2)]
                                  rw [hs1] at g0
                                  rw [hs2] at g1
                                  rw [hnq] at g2 g3
                                  have HAT := Lib.hid (fun z (h : But kq w5 z) => at_nat u v (G q).A (G q).c (ir : Nat) (jr : Nat) (G q).f z z.heap.size (((h.holds (g3.below LB5.out) hkw hw5).more (Nat.le_trans hw5 h.size) : Holds z z.heap.size (G q).A (u * v) (G q).f)) (Nat.le_refl _) u1 v1 ir jr rfl rfl p3 p4)
                                  obtain ⟨nu, hnu⟩ : ∃ z, u * v = z := ⟨_, rfl⟩
                                  rw [hnu] at g2
                                  simp only [hnu] at HAT
                                  clear c1 c2 c3 hs1 hs2 hnq hzn g3 hc' hca hjv hiu hjr hir hjw hple hq hnu
                                  generalize (G q).A = Aq at *
                                  generalize (G q).c = cq at *
                                  obtain ⟨bv, hbv⟩ : ∃ z, (G q).f (jr * u + ir) = z := ⟨_, rfl⟩
                                  rw [hbv] at hFP
                                  simp only [hbv] at HAT
                                  clear hbv
                                  subst eA
                                  have y25 : (pl : Int) < (k : Int) := by omega
                                  have y26 : (0 : Int) ≤ (pl : Int) := by omega
                                  have y27 : (q : Int) < (m : Int) := by omega
                                  have y28 : (0 : Int) ≤ (q : Int) := by omega
                                  have HPS := Lib.hid (part_succ (W := X) (fun x y => F (y * X + x)) x y hlx)
                                  have HFQ := Lib.hid hFP
                                  have HK := Lib.hid (fun (z : World) (h : But kq w5 z) => (show z.cell? ⟨ob, 0, none⟩ = some (.int .i64 (X : Nat)) ∧ z.cell? ⟨ob, 1, none⟩ = some (.int .i64 (Y : Nat)) ∧ z.cell? ⟨ob, 2, none⟩ = some (.slice (some ⟨kq, 0, none⟩) N N) ∧ z.cell? ⟨ba, oa + pl, none⟩ = some (.int .i64 (q : Nat)) ∧ z.cell? ⟨b3, o3 + q * 3, none⟩ = some (.int .i64 (u : Nat)) ∧ z.cell? ⟨b3, o3 + q * 3 + 1, none⟩ = some (.int .i64 (v : Nat)) ∧ z.cell? ⟨b3, o3 + q * 3 + 2, none⟩ = some (.slice Aq nu cq) from ⟨(h.box XO.out n4).c0, (h.box XO.out n4).c1, (h.box XO.out n4).c2, HCELL.out z h ⟨ba, oa + pl, none⟩ hba _ a3, HCELL.out z h ⟨b3, o3 + q * 3, none⟩ hl' _ g0, HCELL.out z h ⟨b3, o3 + q * 3 + 1, none⟩ hl' _ g1, HCELL.out z h ⟨b3, o3 + q * 3 + 2, none⟩ hl' _ g2⟩))
                                  have D := Lib.hid (HU2.out.trans (But.of (Below.refl wr.heap.size wr).drew))
                                  obtain ⟨s0, s1, s2, s3, s4, s5, s6⟩ := HK.out _ HU2.out
                                  clear a3 g0 g1 g2 hFP XOr hin hx2 hy2
                                  go_upto_region 30 with (fail)
                                  go_region_held3 (fun z => z.cell? ⟨ob, 0, none⟩ = some (.int .i64 (X : Nat)) ∧ z.cell? ⟨ob, 1, none⟩ = some (.int .i64 (Y : Nat)) ∧ z.cell? ⟨ob, 2, none⟩ = some (.slice (some ⟨kq, 0, none⟩) N N) ∧ z.cell? ⟨ba, oa + pl, none⟩ = some (.int .i64 (q : Nat)) ∧ z.cell? ⟨b3, o3 + q * 3, none⟩ = some (.int .i64 (u : Nat)) ∧ z.cell? ⟨b3, o3 + q * 3 + 1, none⟩ = some (.int .i64 (v : Nat)) ∧ z.cell? ⟨b3, o3 + q * 3 + 2, none⟩ = some (.slice Aq nu cq))
                                    (first
                                      | with_reducible exact HK.out _ D.out
                                      | with_reducible exact HK.out _ E.out
                                      | with_reducible exact HK.out _ HU2.out
                                      | with_reducible exact HK.out _ HUc.out)
                                    (first
                                      | (go_at_call 79
                                         with_reducible refine Calls.mono (HAT.out _ D.out) ?_
                                         rintro e wb ⟨rfl, hb⟩
                                         have E := Lib.hid (D.out.trans (But.of hb))
                                         have RKb := Lib.hid ((HR2.out.drew).below hb (HR2.out.drew).lt)
                                         clear hb)
                                      | (go_at_call 95
                                         with_reducible refine Calls.mono (HST.out _ kq N x y _ _ hlx hlt RKb.out) ?_
                                         rintro e wc ⟨rfl, hrc, hbc⟩
                                         have RKc := Lib.hid hrc
                                         have HUc := Lib.hid (E.out.trans hbc)
                                         clear hrc hbc))
                                  go_wp2
                                  go_roundw
                                  case rel => exact ⟨x + 1, by omega, by go_num, Lib.hid (by rw [← Nat.add_assoc, ← HPS.out]; refine RKc.out.congr fun i _ => ?_; rw [HFQ.out]), HUc⟩
                                  case measure => simp [intOf]; omega
                                · have e : x = X := by omega
                                  have z3 : ¬ (x : Int) < (X : Int) := by omega
                                  have HR3 := Lib.hid (show Row wr kq N (part X (fun x y => F (y * X + x)) ((y + 1) * X)) by rw [Nat.add_mul, Nat.one_mul]; have h := HR2.out; rwa [e] at h)
                                  obtain ⟨q0, q1, q2, q3, q4, q5, q6⟩ := XOr.out.all
                                  clear e
                                  go_wp2
                                  go_roundw
                                  case rel => exact ⟨y + 1, by omega, by go_num, HR3, HU2⟩
                                  case measure => simp [intOf]; omega
                            · have e : y = Y := by omega
                              have z1 : ¬ (y : Int) < (Y : Int) := by omega
                              have R5r := Lib.hid (HU.out.box R5.out n5)
                              have LB5r := Lib.hid (HU.out.below LB5.out hkw)
                              have HE := Lib.hid (show Row wr kq N F from HR.out.congr fun i hi => by
                                unfold part
                                rw [if_pos (by rw [e, Nat.mul_comm, HNE.out]; exact hi)]
                                show F (i / X * X + i % X) = F i
                                rw [nat_div_mod])
                              clear e HR
                              have hrr := HRW.out
                              obtain ⟨r0, r1, r2, r3, r4, r5, r6⟩ := R5r.out.all
                              have HFN := Lib.hid (HE.out.st3 (fun h => n5 h.symm) (.int .i64 (X : Nat)) (.int .i64 (Y : Nat)) (.slice (some ⟨kq, 0, none⟩) N N))
                              go_wp2
                              refine bodyPost_ret (v := .tuple #[.agg #[.int .i64 (X : Nat), .int .i64 (Y : Nat), .slice (some ⟨kq, 0, none⟩) N N], .int .i64 0]) (by simp [results, Try.results54, go_sem, r0, r1, r2, r3, r4, r5]) rfl ?_
                              refine HRJ.out _ _ (.inr ⟨HJ.out, wn, r, u, v, rfl, HKR.out, HUV.out.1, HUV.out.2, ?_⟩)
                              rw [HXE.out, HYE.out, HFF.out]
                              have HNE2 := HNE.out
                              subst HNE2
                              exact ⟨_, _, rfl, ⟨fun h => absurd h (by simp), Nat.le_refl _⟩, HFN.out.holds HFN.out.lt, bel_st3 LB5r.out hrr _ _ _⟩
end Go.Proofs.Ytngjcekjboedjaa
