/- Layer 13 of the program: Join, where it makes a grid. -/
import Derived.Test.YtngjcekjboedjaaKpj
namespace Go.Proofs.Ytngjcekjboedjaa
open Go.RowKit
set_option maxRecDepth 100000
set_option linter.unusedVariables false
set_option linter.unusedSimpArgs false

/-- append, closed to the walk. -/
def Apx (l : Array TypeId) (t : TypeId) (v : Array Value) : Sem Value := Builtin.append_ l t v
theorem apx_eq (l : Array TypeId) (t : TypeId) (v : Array Value) : Builtin.append_ l t v = Apx l t v := rfl
theorem apx_run {l : Array TypeId} {t : TypeId} {v : Array Value} {P : Program} {w : World} {r : Result Value} (h : (Builtin.append_ l t v).run P w = r) : (Apx l t v).run P w = r := h
attribute [local go_sem ↓] apx_eq
theorem cell_far {w : World} {p q : Addr} {u x : Value} (h : q.block ≠ p.block) (k : w.cell? q = some x) : (w.setCell p u).cell? q = some x := by
  rw [← k]
  unfold World.cell?
  rw [Below.heap_setCell w p u q.block h]
theorem tdiv_nat (a b : Nat) : ((a : Nat) : Int).tdiv (b : Nat) = ((a / b : Nat) : Int) := by rw [Int.tdiv_eq_ediv_of_nonneg (by omega)]; rfl
theorem tmod_nat (a b : Nat) : ((a : Nat) : Int).tmod (b : Nat) = ((a % b : Nat) : Int) := by rw [Int.tmod_eq_emod_of_nonneg (by omega)]; rfl
theorem wrap_one {a : Nat} (h : a ≤ 1000000) : IntKind.i64.wrap (a : Int) = (a : Int) := IntWalk.i64_in _ (by omega)
theorem wrap_mul {a b : Nat} (h : a * b ≤ 1000000) : IntKind.i64.wrap ((a : Int) * (b : Int)) = ((a * b : Nat) : Int) := by
  rw [← Int.natCast_mul]
  exact IntWalk.i64_in _ (by omega)
theorem wrap_add {a b : Nat} (h : a + b ≤ 1000000) : IntKind.i64.wrap ((a : Int) + (b : Int)) = ((a + b : Nat) : Int) := by
  rw [← Int.natCast_add]
  exact IntWalk.i64_in _ (by omega)
set_option maxHeartbeats 6400000 in
theorem join_ok (D : Option Addr) (m c : Nat) (G : Nat → GV) (A : Option Addr) (k d : Nat) (f : Nat → Int) (x : Int) (w : World) (hm : m ≤ 5000) (hn : ∀ i, i < m → (G i).n ≤ 4200) (h : GLs w D m G) (hk : k ≤ 4096) (ha : L2.Holds w w.heap.size A k f) (h0 : 0 < m) (hz : gfe m G = 0) (h1 : one m G = true) (wn r : Nat) (hx : x = wn) (hw : 1 ≤ wn) (hr : 1 ≤ r) (hkr : k = r * wn) (p : Nat → Nat) (hf : ∀ i, i < k → f i = (p i : Int) ∧ p i < m) (u v : Nat) (hG : ∀ i, i < m → (G i).W = u ∧ (G i).H = v ∧ (G i).n = u * v) (u0 : 1 ≤ u) (u1 : u ≤ 64) (v0 : 1 ≤ v) (v1 : v ≤ 64) (h6 : wn * u ≤ 64) (h7 : r * v ≤ 64)  :
    Calls Try.prog 53 #[.slice D m c, .slice A k d, .int .i64 x] w (OkG w (wn * u) (r * v) (joF u v wn (fun i => (G i).f) p)) := by
  have HCK := Lib.hid (fun u (hb : Below w.heap.size w u) => checkg_any D m c G u hm hn (h.below hb))
  have HON := Lib.hid (fun u (hb : Below w.heap.size w u) => onesize_any D m c G u hm (h.below hb))
  have HIN := Lib.hid (fun u (hb : Below w.heap.size w u) => inds_any A k d f m u (by omega) ((ha.below hb).more hb.size))
  have hR0 := Box.new w 0 0 (.slice none 0 0)
  have LB0 := Lib.hid (bel_alloc w (.cells #[.int .i64 0, .int .i64 0, .slice none 0 0] 24))
  have hrw : w.heap.size ≤ w.heap.size := Nat.le_refl _
  have h5 : inds k f m = true := decide_eq_true fun i hi => by obtain ⟨e1, e2⟩ := hf i hi; omega
  have hu := (hG 0 h0).1
  have hv := (hG 0 h0).2.1
  have hkr2 := hkr
  have y0 : ((m : Int) == 0) = false := by rw [beq_eq_false_iff_ne]; omega
  rw [hz] at HCK
  clear hz
  have y1 : ((0 : Int) != 0) = false := rfl
  rw [h1] at HON
  clear h1
  subst hx
  have hkr1 : r ≤ k := by rw [hkr]; exact Nat.le_mul_of_pos_right _ (by omega)
  have hkm : (k : Int) % (wn : Int) = 0 := by rw [hkr, Int.natCast_mul]; exact Int.mul_emod_left _ _
  have hkq : (k : Int) / (wn : Int) = (r : Int) := by rw [hkr, Int.natCast_mul]; exact Int.mul_ediv_cancel _ (by omega)
  have y2 : decide ((wn : Int) < 1) = false := decide_eq_false (by omega)
  have y3 : ((k : Int) == 0) = false := by rw [beq_eq_false_iff_ne]; omega
  have y4 : ((wn : Int) == 0) = false := by rw [beq_eq_false_iff_ne]; omega
  have y5 : (k : Int).tmod (wn : Int) = (k : Int) % (wn : Int) := Int.tmod_eq_emod_of_nonneg (by omega)
  have y6 : (((k : Int) % (wn : Int)) != 0) = false := by rw [hkm]; rfl
  have y7 : ¬ wn = 0 := by omega
  have y8 : 0 ≤ (k : Int) % (wn : Int) := by omega
  have y9 : (k : Int) % (wn : Int) < 100001 := by omega
  have y10 : (k : Int).tdiv (wn : Int) = (r : Int) := by rw [Int.tdiv_eq_ediv_of_nonneg (by omega), hkq]
  clear hkr
  rw [h5] at HIN
  clear h5
  have HG := Lib.hid (fun u (hb : Below w.heap.size w u) => (show GLs u D m G from h.below hb))
  obtain ⟨d1, d2, d3⟩ := quo_bd u u0
  obtain ⟨e1, e2, e3⟩ := quo_bd v v0
  have y11 : ((u : Int) == 0) = false := by rw [beq_eq_false_iff_ne]; omega
  have y12 : ((v : Int) == 0) = false := by rw [beq_eq_false_iff_ne]; omega
  have y13 : ¬ u = 0 := by omega
  have y14 : ¬ v = 0 := by omega
  have y15 : (0 : Int) < (m : Int) := by omega
  have z1 : decide ((64 : Int) / (u : Int) < (wn : Int)) = false := decide_eq_false ((quo_le u0).2 h6)
  have z2 : decide ((64 : Int) / (v : Int) < (r : Int)) = false := decide_eq_false ((quo_le v0).2 h7)
  have HA := Lib.hid ha
  have HF := Lib.hid hf
  have HGG := Lib.hid hG
  have hX := wrap_mul (a := wn) (b := u) (by omega)
  have hY := wrap_mul (a := r) (b := v) (by omega)
  obtain ⟨X, hXe⟩ : ∃ z, wn * u = z := ⟨_, rfl⟩
  obtain ⟨Y, hYe⟩ : ∃ z, r * v = z := ⟨_, rfl⟩
  have HXE := Lib.hid hXe
  have HYE := Lib.hid hYe
  have HKR := Lib.hid hkr2
  simp only [hXe] at hX h6 ⊢
  simp only [hYe] at hY h7 ⊢
  have hX1 : 1 ≤ X := by rw [← hXe]; have := Nat.mul_le_mul hw u0; omega
  have hY1 : 1 ≤ Y := by rw [← hYe]; have := Nat.mul_le_mul hr v0; omega
  clear hf hG hXe hYe hkr2
  obtain ⟨rb, hrb⟩ : ∃ r, w.heap.size = r := ⟨_, rfl⟩
  rw [hrb] at hR0
  have R0 := Lib.hid hR0
  have HW := Lib.hid hrb
  clear hR0 h ha hn hrb
  go_enter Try.func53, Try.ntmps53
  go_upto_region 1 with (fail)
  rw [HW.out]
  generalize w.alloc (.cells #[.int .i64 0, .int .i64 0, .slice none 0 0] 24) = w0 at *
  go_wp2_with fail
  with_reducible refine Calls.mono (HCK.out _ LB0.out) ?_
  rintro e w1 ⟨rfl, hb⟩
  have LB1 := Lib.hid (LB0.out.trans (hb.mono LB0.out.size))
  have R0 := Lib.hid (R0.out.below hb R0.out.lt)
  clear hb LB0 
  go_wp2_with fail
  with_reducible refine Calls.mono (HON.out _ LB1.out) ?_
  rintro e w2 ⟨rfl, hb⟩
  have LB2 := Lib.hid (LB1.out.trans (hb.mono LB1.out.size))
  have R0 := Lib.hid (R0.out.below hb R0.out.lt)
  clear hb LB1 
  go_wp2_with fail
  with_reducible refine Calls.mono (HIN.out _ LB2.out) ?_
  rintro e wz ⟨rfl, hwz⟩
  subst wz
  obtain ⟨b, o, eD, hl, hc⟩ := (HG.out _ LB2.out) h0
  obtain ⟨a0, a1, a2, _⟩ := hc 0 h0
  rw [Nat.zero_mul, Nat.add_zero] at a0 a1 a2
  rw [hu] at a0
  rw [hv] at a1
  subst eD
  clear hc
  generalize (G 0).A = A0 at *
  generalize (G 0).n = n0 at *
  generalize (G 0).c = c0 at *
  have U0 := Lib.hid (Box.new w2 (u : Nat) (v : Nat) (.slice A0 n0 c0))
  have hb := bel_alloc w2 (.cells #[.int .i64 (u : Nat), .int .i64 (v : Nat), .slice A0 n0 c0] 24)
  have LB3 := Lib.hid (LB2.out.trans (hb.mono LB2.out.size))
  have R0 := Lib.hid (R0.out.below hb R0.out.lt)
  clear hb LB2
  go_upto_region 11 with (fail)
  clear a0 a1 a2
  generalize w2.alloc (.cells #[.int .i64 (u : Nat), .int .i64 (v : Nat), .slice A0 n0 c0] 24) = w3 at *
  generalize w2.heap.size = ub at *
  obtain ⟨s0, s1, s2, s3, s4, s5, s6⟩ := U0.out.all
  go_quiet (fail)
  have LB4 := Lib.hid (bel_dn LB3.out nq)
  have R0 := Lib.hid (show Box (w3.drewN nq) rb 0 0 (.slice none 0 0) from R0.out)
  have U0 := Lib.hid (show Box (w3.drewN nq) ub (u : Nat) (v : Nat) (.slice A0 n0 c0) from U0.out)
  generalize w3.drewN nq = w4 at *
  clear s0 s1 s2 s3 s4 s5 s6
  obtain ⟨s0, s1, s2, s3, s4, s5, s6⟩ := U0.out.all
  go_upto_region 13 with (fail)
  have O0 := Lib.hid ((Box.new w4 (X : Nat) (Y : Nat) (.slice none 0 0)).drew)
  have B0 := Lib.hid ((bel_alloc w4 (.cells #[.int .i64 (X : Nat), .int .i64 (Y : Nat), .slice none 0 0] 24)).drew)
  have V0 : Hid (OwB ((w4.alloc (.cells #[.int .i64 (X : Nat), .int .i64 (Y : Nat), .slice none 0 0] 24)).drew) (w4.heap.size + 1) (.slice none 0 0) 0 (joF u v wn (fun i => (G i).f) p)) := Lib.hid ⟨rfl, .inl ⟨rfl, rfl⟩⟩
  have hz0 : w4.heap.size + 1 ≤ ((w4.alloc (.cells #[.int .i64 (X : Nat), .int .i64 (Y : Nat), .slice none 0 0] 24)).drew).heap.size := by show _ ≤ (w4.alloc (.cells #[.int .i64 (X : Nat), .int .i64 (Y : Nat), .slice none 0 0] 24)).heap.size; simp
  go_region
  obtain ⟨ob, hob⟩ : ∃ ob, w4.heap.size = ob := ⟨_, rfl⟩
  have LB5 := Lib.hid (LB4.out.trans (B0.out.mono LB4.out.size))
  have R5 := Lib.hid (R0.out.below B0.out R0.out.lt)
  have U5 := Lib.hid (U0.out.below B0.out U0.out.lt)
  have hro := R0.out.lt
  have hwo := LB4.out.size
  rw [hob] at O0 V0 hz0 s6 hro hwo ⊢
  clear B0 R0 U0 LB4 s0 s1 s2 s3 s4 s5 hl
  generalize (w4.alloc (.cells #[.int .i64 (X : Nat), .int .i64 (Y : Nat), .slice none 0 0] 24)).drew = w5 at *
  clear hob
  obtain ⟨r0, r1, r2, r3, r4, r5, r6⟩ := O0.out.all
  go_wp2
  clear r0 r1 r2 r3 r4 r5 r6
  go_loopw [83] (fun i wr => ∃ (j : Nat) (vv : Value), j ≤ Y ∧ i = .int .i64 j ∧ Hid (Box wr ob (X : Nat) (Y : Nat) vv) ∧ Hid (OwB wr (ob + 1) vv (j * X) (joF u v wn (fun i => (G i).f) p)) ∧ Hid (Below ob w5 wr) ∧ ob + 1 ≤ wr.heap.size) (fun i _ => Y - (intOf i).toNat)
  case atStart => exact ⟨0, _, Nat.zero_le _, rfl, O0, by rw [Nat.zero_mul]; exact V0, Lib.hid (Below.refl _ _), hz0⟩
  case round =>
    obtain ⟨j, vv, hj, rfl, HO, HV, HB, hz⟩ := hrel
    clear O0 V0 hz0
    by_cases hlt : j < Y
    · have y21 : (j : Int) < (Y : Int) := by omega
      have y22 : (0 : Int) ≤ (j : Int) := by omega
      obtain ⟨r0, r1, r2, r3, r4, r5, r6⟩ := HO.out.all
      go_wp2
      clear r0 r1 r2 r3 r4 r5 r6
      go_loopw [88] (fun i wr => ∃ (i' : Nat) (vv : Value), i' ≤ X ∧ i = .int .i64 i' ∧ Hid (Box wr ob (X : Nat) (Y : Nat) vv) ∧ Hid (OwB wr (ob + 1) vv (j * X + i') (joF u v wn (fun i => (G i).f) p)) ∧ Hid (Below ob w5 wr) ∧ ob + 1 ≤ wr.heap.size) (fun i _ => X - (intOf i).toNat)
      case atStart => exact ⟨0, _, Nat.zero_le _, rfl, HO, by rw [Nat.add_zero]; exact HV, HB, hz⟩
      case round =>
        obtain ⟨i, v2, hi, rfl, HO2, HV2, HB2, hz2⟩ := hrel
        clear HO HV HB hz
        by_cases hli : i < X
        · have y23 : (i : Int) < (X : Int) := by omega
          have y24 : (0 : Int) ≤ (i : Int) := by omega
          have BW2 := Lib.hid (LB5.out.trans (HB2.out.mono hwo))
          have U6 := Lib.hid (U5.out.below HB2.out s6)
          have hx2 : i < wn * u := by rw [HXE.out]; exact hli
          have hy2 : j < r * v := by rw [HYE.out]; exact hlt
          have hpl : j / v * wn + i / u < k := by rw [HKR.out]; rw [Nat.mul_comm r wn]; exact place_lt hx2 hy2
          have hci : j % v * u + i % u < u * v := cell_lt hx2 hy2
          have hFP := Lib.hid (show joF u v wn (fun i => (G i).f) p (j * X + i) = (G (p (j / v * wn + i / u))).f (j % v * u + i % u) by rw [← HXE.out]; exact jo_at hx2)
          obtain ⟨hpe, hpm⟩ := HF.out _ hpl
          obtain ⟨ba, oa, eA, hba, hca⟩ := HA.out (by omega)
          have a3 := (BW2.out.cell (p := ⟨ba, oa + (j / v * wn + i / u), none⟩) hba).trans (hca _ hpl)
          rw [hpe] at a3
          have d5 := tdiv_nat j v
          have d6 := tdiv_nat i u
          have d7 := tmod_nat j v
          have d8 := tmod_nat i u
          have l0 : j / v * wn + i / u ≤ 4096 := Nat.le_of_lt (Nat.lt_of_lt_of_le hpl hk)
          have l1 : j / v * wn ≤ 4096 := Nat.le_trans (Nat.le_add_right _ _) l0
          have huv : u * v ≤ 64 * 64 := Nat.mul_le_mul u1 v1
          have l3 : j % v * u + i % u ≤ 4096 := Nat.le_of_lt (Nat.lt_of_lt_of_le hci huv)
          have l2 : j % v * u ≤ 4096 := Nat.le_trans (Nat.le_add_right _ _) l3
          have f5 := wrap_one (a := j / v) (Nat.le_trans (Nat.div_le_self _ _) (by omega))
          have f6 := wrap_one (a := i / u) (Nat.le_trans (Nat.div_le_self _ _) (by omega))
          have f7 := wrap_one (a := j % v) (Nat.le_trans (Nat.mod_le _ _) (by omega))
          have f8 := wrap_one (a := i % u) (Nat.le_trans (Nat.mod_le _ _) (by omega))
          have f1 := wrap_mul (a := j / v) (b := wn) (Nat.le_trans l1 (by omega))
          have f2 := wrap_add (a := j / v * wn) (b := i / u) (Nat.le_trans l0 (by omega))
          have f3 := wrap_mul (a := j % v) (b := u) (Nat.le_trans l2 (by omega))
          have f4 := wrap_add (a := j % v * u) (b := i % u) (Nat.le_trans l3 (by omega))
          obtain ⟨jv, hjv⟩ : ∃ z, j / v = z := ⟨_, rfl⟩
          obtain ⟨iu, hiu⟩ : ∃ z, i / u = z := ⟨_, rfl⟩
          obtain ⟨jr, hjr⟩ : ∃ z, j % v = z := ⟨_, rfl⟩
          obtain ⟨ir, hir⟩ : ∃ z, i % u = z := ⟨_, rfl⟩
          simp only [hjv, hiu, hjr, hir] at *
          obtain ⟨jw, hjw⟩ : ∃ z, jv * wn = z := ⟨_, rfl⟩
          obtain ⟨ju, hju⟩ : ∃ z, jr * u = z := ⟨_, rfl⟩
          simp only [hjw, hju] at *
          obtain ⟨pl, hple⟩ : ∃ z, jw + iu = z := ⟨_, rfl⟩
          obtain ⟨ci, hcie⟩ : ∃ z, ju + ir = z := ⟨_, rfl⟩
          simp only [hple, hcie] at *
          obtain ⟨q, hq⟩ : ∃ z, p pl = z := ⟨_, rfl⟩
          rw [hq] at a3 hpm hFP
          obtain ⟨b', o', eD, hl', hc'⟩ := HG.out w (Below.refl _ _) h0
          cases eD
          obtain ⟨g0, g1, g2, g3⟩ := hc' q hpm
          obtain ⟨e1', e2', e3'⟩ := HGG.out q hpm
          rw [e1'] at g0
          rw [e2'] at g1
          rw [e3'] at g2 g3
          obtain ⟨bg, og, eg, hbg, hcg⟩ := g3 (by omega)
          have a4 := (BW2.out.cell (p := ⟨bg, og + ci, none⟩) hbg).trans (hcg ci hci)
          have g0 := (BW2.out.cell (p := ⟨b, _, none⟩) hl').trans g0
          have g1 := (BW2.out.cell (p := ⟨b, _, none⟩) hl').trans g1
          have g2 := (BW2.out.cell (p := ⟨b, _, none⟩) hl').trans g2
          have hbgo2 : bg < ob := by omega
          have hbg := Nat.lt_of_lt_of_le hbg BW2.out.size
          have hl' := Nat.lt_of_lt_of_le hl' BW2.out.size
          clear hc' hca hcg e1' e2' e3' hjv hiu hjr hir hjw hju hple hcie hq hpe
          generalize (G q).A = Aq at *
          generalize (G q).c = cq at *
          obtain ⟨bv, hbv⟩ : ∃ z, (G q).f ci = z := ⟨_, rfl⟩
          rw [hbv] at a4 hFP
          clear hbv
          subst eA eg
          have g5 : ba < wr.heap.size := Nat.lt_of_lt_of_le hba BW2.out.size
          have y25 : (pl : Int) < (k : Int) := by omega
          have y26 : (0 : Int) ≤ (pl : Int) := by omega
          have y27 : (q : Int) < (m : Int) := by omega
          have y28 : (0 : Int) ≤ (q : Int) := by omega
          obtain ⟨nu, hnu⟩ : ∃ z, u * v = z := ⟨_, rfl⟩
          rw [hnu] at hci g2
          have y29 : (ci : Int) < (nu : Int) := by omega
          have y30 : (0 : Int) ≤ (ci : Int) := by omega
          clear hnu huv
          obtain ⟨s10, s11, s12, s13, s14, s15, s16⟩ := U6.out.all
          have UN := Lib.hid ((Box.new wr (u : Nat) (v : Nat) (.slice (some ⟨bg, og, none⟩) nu cq)).drew)
          have BN := Lib.hid ((bel_alloc wr (.cells #[.int .i64 (u : Nat), .int .i64 (v : Nat), .slice (some ⟨bg, og, none⟩) nu cq] 24)).drew)
          go_upto_region 20 with (fail)
          go_region
          obtain ⟨nb, hnb⟩ : ∃ z, wr.heap.size = z := ⟨_, rfl⟩
          have HO6 := Lib.hid (HO2.out.below BN.out (by omega))
          have HV6 := Lib.hid (HV2.out.below BN.out)
          have U7 := Lib.hid (U6.out.below BN.out s16)
          have B6 := Lib.hid (HB2.out.trans (BN.out.mono (by omega)))
          have a5 := (BN.out.cell (p := ⟨bg, og + ci, none⟩) hbg).trans a4
          have hz6 : ob + 1 ≤ ((wr.alloc (.cells #[.int .i64 (u : Nat), .int .i64 (v : Nat), .slice (some ⟨bg, og, none⟩) nu cq] 24)).drew).heap.size := Nat.le_trans hz2 BN.out.size
          have hbn : bg < ((wr.alloc (.cells #[.int .i64 (u : Nat), .int .i64 (v : Nat), .slice (some ⟨bg, og, none⟩) nu cq] 24)).drew).heap.size := Nat.lt_of_lt_of_le hbg BN.out.size
          have hun : ub < ((wr.alloc (.cells #[.int .i64 (u : Nat), .int .i64 (v : Nat), .slice (some ⟨bg, og, none⟩) nu cq] 24)).drew).heap.size := Nat.lt_of_lt_of_le s16 BN.out.size
          rw [hnb] at UN ⊢
          clear HO2 HV2 U6 HB2 BN s10 s11 s12 s13 s14 s15 s16 a3 a4 g0 g1 g2 g5 hbg hl' hz2 BW2 hnb
          generalize (wr.alloc (.cells #[.int .i64 (u : Nat), .int .i64 (v : Nat), .slice (some ⟨bg, og, none⟩) nu cq] 24)).drew = w6 at *
          go_upto_region 21 with (fail)
          obtain ⟨s10, s11, s12, s13, s14, s15, s16⟩ := U7.out.all
          obtain ⟨t10, t11, t12, t13, t14, t15, t16⟩ := UN.out.all
          obtain ⟨r0, r1, r2, r3, r4, r5, r6⟩ := HO6.out.all
          obtain ⟨A2, d2, rfl⟩ := orow_shape HV6.out
          have hnn : j * X + i ≤ 64 * 64 := by have := Nat.mul_le_mul (show j ≤ 63 by omega) (show X ≤ 64 by omega); omega
          have HO1 := Lib.hid ((HV6.out.alloc (.cells #[.bool bv] 4)).drew)
          have HC1 : Hid (((w6.alloc (.cells #[.bool bv] 4)).drew).cell? ⟨w6.heap.size, 0, none⟩ = some (.bool bv)) := Lib.hid (by simp)
          have hbase2 : ob + 1 ≤ ((w6.alloc (.cells #[.bool bv] 4)).drew).heap.size := by simp; omega
          have HBN0 := Lib.hid (((Below.refl (ob + 1) w6).alloc hz6 (.cells #[.bool bv] 4)).drew)
          obtain ⟨nn, hnne⟩ : ∃ nn, j * X + i = nn := ⟨_, rfl⟩
          have HNN := Lib.hid hnne
          rw [hnne] at HO1 hFP hnn HV6 r2
          clear hnne
          obtain ⟨i0, hi0, hz0', hz1', hz2'⟩ := info_parts Try.info4
          obtain ⟨v', wn', hrun, hown', hgr', _, _⟩ := run_append_own_at (P := Try.prog) ((w6.alloc (.cells #[.bool bv] 4)).drew) (ob + 1) 22 22 4 i0 (.bool false) 1 1 Try.underlying22 hi0 hz0' hz1' hz2' rfl (by decide) (.slice A2 nn d2) nn _ HO1.out ⟨w6.heap.size, 0, none⟩ 1 1 [.bool bv] rfl
            (by intro j u hj; match j, hj with | 0, hj => (simp at hj; subst hj; rw [addr_add]; exact HC1.out)) (by intro u hu; simp at hu; rw [hu]; rfl) (by unfold maxLen; omega) (by omega) hbase2
          have hown2 : OwB wn' (ob + 1) v' (nn + 1) (joF u v wn (fun i => (G i).f) p) := by
            unfold OwB
            rw [newsb_succ, hFP]
            exact hown'
          obtain ⟨A'', c'', hv'⟩ := orow_shape hown2
          rw [hv'] at hown2 hrun
          have HBN := Lib.hid (HBN0.out.trans (Below.grown (Below.refl _ _) hgr' hbase2 fun k hk => (orow_block HO1.out hk).1))
          have HON := Lib.hid hown2
          have HXN := Lib.hid (HO6.out.below HBN.out (by omega))
          have hrun2 := apx_run hrun
          obtain ⟨g0, g1, g2, g3, g4, g5, g6⟩ := HXN.out.all
          clear hrun hown' hgr' hv' hown2 HO1 HC1 hbase2 HBN0 hz0' hz1' hz2' hi0
          go_region
          all_goals
            have O6 := Lib.hid (HXN.out.put2 (.slice A'' (nn + 1) c''))
            have V6 := Lib.hid (HON.out.far (p := ⟨ob, 2, none⟩) (by show ob < ob + 1; omega) (.slice A'' (nn + 1) c''))
            have B7 := Lib.hid ((B6.out.trans (HBN.out.mono (by omega))).setCell (p := ⟨ob, 2, none⟩) (Nat.le_refl _) (.slice A'' (nn + 1) c''))
            have Z6 := Lib.hid (show ob + 1 ≤ (wn'.setCell ⟨ob, 2, none⟩ (.slice A'' (nn + 1) c'')).heap.size by have := HBN.out.size; simp; omega)
            clear hrun2 s10 s11 s12 s13 s14 s15 s16 t10 t11 t12 t13 t14 t15 t16 r0 r1 r2 r3 r4 r5 r6 a5 HXN HON HBN HO6 HV6 U7 UN hbn hun hz6 B6
            go_wp2
            go_roundw
            case rel => exact ⟨i + 1, _, by omega, by go_num, O6, by rw [← Nat.add_assoc, HNN.out]; exact V6, B7, Z6.out⟩
            case measure => simp [intOf]; omega
        · have e : i = X := by omega
          have y23 : ¬ (i : Int) < (X : Int) := by omega
          have HV3 : Hid (OwB wr (ob + 1) v2 ((j + 1) * X) (joF u v wn (fun i => (G i).f) p)) := Lib.hid (by rw [Nat.add_mul, Nat.one_mul]; have h := HV2.out; rwa [e] at h)
          clear e HV2
          go_wp2
          go_roundw
          case rel => exact ⟨j + 1, _, by omega, by go_num, HO2, HV3, HB2, hz2⟩
          case measure => simp [intOf]; omega
    · have e : j = Y := by omega
      have y21 : ¬ (j : Int) < (Y : Int) := by omega
      have R6 := Lib.hid (R5.out.below HB.out (by omega))
      have L6 := Lib.hid (((LB5.out.trans (HB.out.mono (by omega))).setCell (p := ⟨rb, 0, none⟩) (by rw [← HW.out]; exact Nat.le_refl _) (.int .i64 (X : Nat))).setCell (p := ⟨rb, 1, none⟩) (by rw [← HW.out]; exact Nat.le_refl _) (.int .i64 (Y : Nat)))
      obtain ⟨A2, d2, rfl⟩ := orow_shape HV.out
      have hcomm : j * X = X * Y := by rw [e, Nat.mul_comm]
      rw [hcomm] at HV HO
      have L7 := Lib.hid (L6.out.setCell (p := ⟨rb, 2, none⟩) (by rw [← HW.out]; exact Nat.le_refl _) (.slice A2 (X * Y) d2))
      have V7 := Lib.hid ((((HV.out.far (p := ⟨rb, 0, none⟩) (by show rb < ob + 1; omega) (.int .i64 (X : Nat))).far (p := ⟨rb, 1, none⟩) (by show rb < ob + 1; omega) (.int .i64 (Y : Nat))).far (p := ⟨rb, 2, none⟩) (by show rb < ob + 1; omega) (.slice A2 (X * Y) d2)).out)
      obtain ⟨r0, r1, r2, r3, r4, r5, r6⟩ := HO.out.all
      obtain ⟨q0, q1, q2, q3, q4, q5, q6⟩ := R6.out.all
      clear e L6 HV hcomm
      obtain ⟨nn, hnne⟩ : ∃ nn, X * Y = nn := ⟨_, rfl⟩
      have HNN := Lib.hid hnne
      rw [hnne] at r2 V7 L7
      clear hnne
      go_wp2
      refine bodyPost_ret (v := .tuple #[.agg #[.int .i64 (X : Nat), .int .i64 (Y : Nat), .slice A2 nn d2], .int .i64 0]) (by simp [results, Try.results53, go_sem, q0, q1, q2, q3, q4, q5, r0, r1, r2]) rfl ?_
      obtain ⟨A3, c3, e3, hcp3, hh3⟩ := V7.out
      cases e3
      exact ⟨A2, d2, by simp only [HNN.out], by simp only [HNN.out]; exact hcp3, by simp only [HNN.out]; exact hh3, L7.out⟩
end Go.Proofs.Ytngjcekjboedjaa
