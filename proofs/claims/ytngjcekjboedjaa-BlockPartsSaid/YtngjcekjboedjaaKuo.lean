/- Layer 13 of the program: Units of a grid that they divide. -/
import Derived.Test.YtngjcekjboedjaaKun
import Derived.Test.YtngjcekjboedjaaKpk
namespace Go.Proofs.Ytngjcekjboedjaa
open Go.RowKit
set_option maxRecDepth 100000
set_option linter.unusedVariables false
set_option linter.unusedSimpArgs false

theorem bl_self {n : Nat} {l : List Bool} (h : l.length = n) : bl n (fun j => l.getD j false) = l := by
  subst h
  refine List.ext_getElem (by simp [bl]) fun i h1 h2 => ?_
  simp [bl, h2]
theorem nat_rem {a b : Nat} (h : a % b = 0) : ((a : Nat) : Int) % (b : Nat) = 0 := by rw [← Int.natCast_emod, h]; rfl
/-- The state of Units behind k parts. -/
structure UI (P : Nat → List Bool) (wd ht : Int) (n : Nat) (w0 : World) (base : Nat) (wr : World) (k : Nat) (a b : Value) (l : List Nat) : Prop where
  own : GOwn wr base a wd ht n l
  ats : L2.Own wr base b k (fun i => (ua P i : Int))
  len : l.length = (us P k).length
  rows : URows wr n l (fun i j => ((us P k).getD i []).getD j false)
  bel : Below base w0 wr
  sz : base ≤ wr.heap.size
section
variable {P : Nat → List Bool} {wd ht : Int} {n : Nat} {w0 : World} {base : Nat} {wr w' : World} {k : Nat} {a b : Value} {l : List Nat}
theorem UI.below (h : UI P wd ht n w0 base wr k a b l) (hb : Below wr.heap.size wr w') : UI P wd ht n w0 base w' k a b l :=
  ⟨orow_keep h.own fun j _ hk => hb.block j (orow_block h.own hk).2.1, h.ats.below hb, h.len, h.rows.below hb, h.bel.trans (hb.mono h.sz), Nat.le_trans h.sz hb.size⟩
/-- A part that is known. -/
theorem UI.old {v' : Value} {obj : Obj} (h : UI P wd ht n w0 base wr k a b l) (hu : us P (k + 1) = us P k) (h1 : L2.Own w' base v' (k + 1) (fun i => (ua P i : Int))) (hg : (wr.alloc obj).grownBy w' b.ownBlock) : UI P wd ht n w0 base w' (k + 1) a v' l :=
  ⟨orow_keep h.own fun j _ hk => by obtain ⟨cs, hc⟩ := orow_type h.own hk; exact grown_other h.ats hg (by decide) j cs hc, h1, by rw [hu]; exact h.len, by rw [hu]; exact h.rows.keep fun j cs hc => grown_other h.ats hg (by decide) j cs hc,
    h.bel.trans (grown_bel h.ats hg h.sz), Nat.le_trans h.sz (by have := hg.size; simp at this; omega)⟩
/-- A part that is new: behind the append to the units. -/
theorem UI.new {v' : Value} {obj : Obj} {kp : Nat} {f : Nat → Bool} (h : UI P wd ht n w0 base wr k a b l) (hu : us P (k + 1) = us P k ++ [P k]) (hP : P k = bl n f) (hr : Row wr kp n f) (h1 : GOwn w' base v' wd ht n (l ++ [kp])) (hg : (wr.alloc obj).grownBy w' a.ownBlock) :
    GOwn w' base v' wd ht n (l ++ [kp]) ∧ L2.Own w' base b k (fun i => (ua P i : Int)) ∧ (l ++ [kp]).length = (us P (k + 1)).length ∧ URows w' n (l ++ [kp]) (fun i j => ((us P (k + 1)).getD i []).getD j false) ∧ Below base w0 w' ∧ base ≤ w'.heap.size := by
  have hst : ∀ (j : Nat) (cs : Array Value), wr.heap[j]? = some (Obj.cells cs 4 (0, 0)) → w'.heap[j]? = wr.heap[j]? := fun j cs hc => grown_other h.own hg (by decide) j cs hc
  refine ⟨h1, orow_keep h.ats fun j _ hk => by obtain ⟨cs, hc⟩ := own_type h.ats hk; exact grown_other h.own hg (by decide) j cs hc, by rw [hu, List.length_append, List.length_append, h.len]; rfl, fun i b hi => ?_, h.bel.trans (grown_bel h.own hg h.sz), Nat.le_trans h.sz (by have := hg.size; simp at this; omega)⟩
  by_cases e : i < l.length
  · rw [List.getElem?_append_left e] at hi
    obtain ⟨cs, c1, c2, c3⟩ := h.rows i b hi
    refine ⟨cs, (hst b cs c1).trans c1, c2, fun j hj => ?_⟩
    rw [c3 j hj, hu]
    show some (Value.bool (((us P k).getD i []).getD j false)) = some (Value.bool (((us P k ++ [P k]).getD i []).getD j false))
    rw [List.getD_eq_getElem?_getD (l := us P k ++ [P k]), List.getElem?_append_left (by rw [← h.len]; exact e), ← List.getD_eq_getElem?_getD]
  · have e2 : i = l.length := by
      have := (List.getElem?_eq_some_iff.1 hi).1
      rw [List.length_append, List.length_singleton] at this
      omega
    rw [e2, List.getElem?_append_right (Nat.le_refl _), Nat.sub_self] at hi
    simp at hi
    subst hi
    obtain ⟨cs, c1, c2, c3⟩ := hr
    refine ⟨cs, (hst _ cs c1).trans c1, c2, fun j hj => ?_⟩
    rw [c3 j hj, hu, e2, h.len]
    show _ = some (Value.bool (((us P k ++ [P k]).getD (us P k).length []).getD j false))
    rw [List.getD_eq_getElem?_getD (l := us P k ++ [P k]), List.getElem?_append_right (Nat.le_refl _), Nat.sub_self]
    show _ = some (Value.bool ((P k).getD j false))
    rw [hP, bl_get hj]
/-- .. and behind the append to the places. -/
theorem UI.new2 {v' v2 : Value} {obj : Obj} {l2 : List Nat} {w2 : World} (h : GOwn w' base v' wd ht n l2 ∧ L2.Own w' base b k (fun i => (ua P i : Int)) ∧ l2.length = (us P (k + 1)).length ∧ URows w' n l2 (fun i j => ((us P (k + 1)).getD i []).getD j false) ∧ Below base w0 w' ∧ base ≤ w'.heap.size)
    (h1 : L2.Own w2 base v2 (k + 1) (fun i => (ua P i : Int))) (hg : (w'.alloc obj).grownBy w2 b.ownBlock) : UI P wd ht n w0 base w2 (k + 1) v' v2 l2 :=
  ⟨orow_keep h.1 fun j _ hk => by obtain ⟨cs, hc⟩ := orow_type h.1 hk; exact grown_other h.2.1 hg (by decide) j cs hc, h1, h.2.2.1, h.2.2.2.1.keep fun j cs hc => grown_other h.2.1 hg (by decide) j cs hc,
    h.2.2.2.2.1.trans (grown_bel h.2.1 hg h.2.2.2.2.2), Nat.le_trans h.2.2.2.2.2 (by have := hg.size; simp at this; omega)⟩
end
set_option maxHeartbeats 6400000 in
theorem units_ok (wd ht nx ny : Nat) {A : Option Addr} {c : Nat} (g : Nat → Bool) (w : World) (hg : Holds w w.heap.size A (nx * wd * (ny * ht)) g) (h1 : 1 ≤ wd) (h2 : 1 ≤ ht) (n1 : 1 ≤ nx) (n2 : 1 ≤ ny) (hW : nx * wd ≤ 64) (hH : ny * ht ≤ 64)
    (P : Nat → List Bool) (hP : ∀ k, P k = bl (wd * ht) (ptF (nx * wd) wd ht nx g k)) :
    Calls Try.prog 51 #[.agg #[.int .i64 ((nx * wd : Nat) : Int), .int .i64 ((ny * ht : Nat) : Int), .slice A (nx * wd * (ny * ht)) c], .int .i64 (wd : Nat), .int .i64 (ht : Nat)] w
      (UR w (wd : Nat) (ht : Nat) (wd * ht) (fun i j => ((us P (nx * ny)).getD i []).getD j false) (us P (nx * ny)).length (nx * ny) (ua P) 0) := by
  have w1 : wd ≤ nx * wd := Nat.le_mul_of_pos_left _ n1
  have w2 : ht ≤ ny * ht := Nat.le_mul_of_pos_left _ n2
  have x1 : nx ≤ nx * wd := Nat.le_mul_of_pos_right _ h1
  have x2 : ny ≤ ny * ht := Nat.le_mul_of_pos_right _ h2
  have hnn : nx * ny ≤ 64 * 64 := Nat.mul_le_mul (by omega) (by omega)
  have hn : wd * ht ≤ 64 * 64 := Nat.mul_le_mul (by omega) (by omega)
  have hn0 : 1 ≤ wd * ht := Nat.mul_le_mul h1 h2
  have HK := Lib.hid (fun u => chk_valid (W := nx * wd) (H := ny * ht) A c u (by omega) hW (by omega) hH)
  have HPA := Lib.hid (fun u X Y (hX : X < nx) (hY : Y < ny) (hb : Below w.heap.size w u) => part_ok (nx * wd) (ny * ht) A c (X * wd) (Y * ht) wd ht u (by omega) hW (by omega) hH g ((hg.below hb).more hb.size) h1 (by have := Nat.mul_le_mul_right wd (show X + 1 ≤ nx from hX); rw [Nat.add_mul, Nat.one_mul] at this; exact this) h2 (by have := Nat.mul_le_mul_right ht (show Y + 1 ≤ ny from hY); rw [Nat.add_mul, Nat.one_mul] at this; exact this))
  have HPF := Lib.hid (fun X Y (hX : X < nx) => (show P (Y * nx + X) = bl (wd * ht) (fun i => g ((Y * ht + i / wd) * (nx * wd) + (X * wd + i % wd))) by rw [hP, part_f hX]))
  have HUI := Lib.hid (fun X Y (hX : X < nx) (hY : Y < ny) => (show Y * nx + X < nx * ny by rw [Nat.mul_comm nx ny]; have := Nat.mul_le_mul_right nx (show Y + 1 ≤ ny from hY); rw [Nat.add_mul, Nat.one_mul] at this; omega))
  have HXW := Lib.hid (fun X (hX : X < nx) => (show X * wd < nx * wd from Nat.mul_lt_mul_of_pos_right hX h1))
  have HYH := Lib.hid (fun Y (hY : Y < ny) => (show Y * ht < ny * ht from Nat.mul_lt_mul_of_pos_right hY h2))
  have HX1 := Lib.hid (fun X => (show (X + 1) * wd = X * wd + wd by rw [Nat.add_mul, Nat.one_mul]))
  have HY1 := Lib.hid (fun Y => (show (Y + 1) * ht = Y * ht + ht by rw [Nat.add_mul, Nat.one_mul]))
  have r1 : (nx * wd) % wd = 0 := Nat.mul_mod_left _ _
  have r2 : (ny * ht) % ht = 0 := Nat.mul_mod_left _ _
  obtain ⟨M, hM⟩ : ∃ z, nx * wd * (ny * ht) = z := ⟨_, rfl⟩
  obtain ⟨W, hWe⟩ : ∃ z, nx * wd = z := ⟨_, rfl⟩
  obtain ⟨H, hHe⟩ : ∃ z, ny * ht = z := ⟨_, rfl⟩
  have HME := Lib.hid hM
  have HWE := Lib.hid hWe
  have HHE := Lib.hid hHe
  try simp only [hM] at HK HPA ⊢
  simp only [hWe, hHe] at HK HPA HPF HXW HYH r1 r2 hW hH w1 w2 x1 x2 hM ⊢
  try simp only [hM] at HK HPA ⊢
  have k1 : (((wd : Nat) : Int) < 1) = False := by simp; omega
  have y2 : decide (((wd : Nat) : Int) < 1) = false := decide_eq_false (by omega)
  have y3 : decide (((ht : Nat) : Int) < 1) = false := decide_eq_false (by omega)
  have y0 : ((0 : Int) != 0) = false := rfl
  have m1 : ((W : Nat) : Int).tmod (wd : Nat) = 0 := by rw [Int.tmod_eq_emod_of_nonneg (by omega)]; exact nat_rem r1
  have m2 : ((H : Nat) : Int).tmod (ht : Nat) = 0 := by rw [Int.tmod_eq_emod_of_nonneg (by omega)]; exact nat_rem r2
  have m3 : ¬ wd = 0 := by omega
  have m4 : ¬ ht = 0 := by omega
  have m5 : (((wd : Nat) : Int) == 0) = false := by rw [beq_eq_false_iff_ne]; omega
  have m6 : (((ht : Nat) : Int) == 0) = false := by rw [beq_eq_false_iff_ne]; omega
  have HLL := Lib.hid (fun k => (show (P k).length = wd * ht by rw [hP, bl_len]))
  clear hg hP hWe hHe hM k1 r1 r2
  have LB0 := Lib.hid (Below.refl w.heap.size w)
  have X1 := Lib.hid (Box.new w (W : Nat) (H : Nat) (.slice A M c))
  have LB0 := Lib.hid (LB0.out.alloc LB0.out.size (.cells #[.int .i64 (W : Nat), .int .i64 (H : Nat), .slice A M c] 24))
  go_enter Try.func51, Try.ntmps51
  go_upto_region 1 with (fail)
  generalize w.alloc (.cells #[.int .i64 (W : Nat), .int .i64 (H : Nat), .slice A M c] 24) = w0 at *
  obtain ⟨q0, q1, q2, q3, q4, q5, q6⟩ := X1.out.all
  go_wp2_with fail
  clear q0 q1 q2 q3 q4 q5 q6
  with_reducible refine Calls.mono (HK.out _) ?_
  rintro e w1 ⟨rfl, hb⟩
  have LB1 := Lib.hid (LB0.out.trans (hb.mono LB0.out.size))
  have X1 := Lib.hid (X1.out.below hb X1.out.lt)
  clear hb LB0 
  obtain ⟨gb, hgb⟩ : ∃ z, w.heap.size = z := ⟨_, rfl⟩
  have HGB := Lib.hid hgb
  rw [hgb] at X1 ⊢
  clear hgb
  obtain ⟨q0, q1, q2, q3, q4, q5, q6⟩ := X1.out.all
  go_upto_region 6 with (fail)
  go_wp2
  clear q0 q1 q2 q3 q4 q5
  go_loopw [6, 7, 10] (fun a b yv wr => ∃ (Y : Nat) (l : List Nat), Y ≤ ny ∧ yv = .int .i64 ((Y * ht : Nat) : Int) ∧ Hid (UI P (wd : Nat) (ht : Nat) (wd * ht) w1 w1.heap.size wr (Y * nx) a b l)) (fun _ _ yv _ => H - (intOf yv).toNat)
  case atStart => exact ⟨0, [], Nat.zero_le _, by simp, Lib.hid (by rw [Nat.zero_mul]; exact ⟨World.ownsRow_nil _ _ _ _, L2.Own.nil _ _ _, rfl, fun i b hi => by simp at hi, Below.refl _ _, Nat.le_refl _⟩)⟩
  case round =>
    obtain ⟨Y, l, hY, rfl, HU⟩ := hrel
    obtain ⟨wo, hwo⟩ : ∃ wo : World, wo = wr := ⟨_, rfl⟩
    have X2 := Lib.hid (X1.out.below HU.out.bel X1.out.lt)
    obtain ⟨q0, q1, q2, q3, q4, q5, q7⟩ := X2.out.all
    obtain ⟨yh, hyh⟩ : ∃ z, Y * ht = z := ⟨_, rfl⟩
    have HYE := Lib.hid hyh
    rw [hyh]
    by_cases hlt : Y < ny
    · have hy1 := HYH.out Y hlt
      rw [hyh] at hy1
      have y4 : (yh : Int) < (H : Int) := by omega
      have y5 : (0 : Int) ≤ (yh : Int) := by omega
      clear hyh hwo
      go_wp2
      clear q0 q1 q2 q3 q4 q5 q7
      go_loopw [6, 7, 11] (fun a b xv wr => ∃ (X : Nat) (l : List Nat), X ≤ nx ∧ xv = .int .i64 ((X * wd : Nat) : Int) ∧ Hid (UI P (wd : Nat) (ht : Nat) (wd * ht) w1 w1.heap.size wr (Y * nx + X) a b l)) (fun _ _ xv _ => W - (intOf xv).toNat)
      case atStart => exact ⟨0, l, Nat.zero_le _, by simp, by rw [Nat.add_zero]; exact HU⟩
      case round =>
        obtain ⟨X, l2, hX, rfl, HV⟩ := hrel
        clear HU X2
        have X3 := Lib.hid (X1.out.below HV.out.bel X1.out.lt)
        obtain ⟨q0, q1, q2, q3, q4, q5, q7⟩ := X3.out.all
        obtain ⟨xw, hxw⟩ : ∃ z, X * wd = z := ⟨_, rfl⟩
        have HXE := Lib.hid hxw
        rw [hxw]
        by_cases hlx : X < nx
        · have hx1 := HXW.out X hlx
          rw [hxw] at hx1
          have y6 : (xw : Int) < (W : Int) := by omega
          have y7 : (0 : Int) ≤ (xw : Int) := by omega
          have hPA := HPA.out
          have HQ := Lib.hid (HPA.out wr X Y hlx hlt (LB1.out.trans (HV.out.bel.mono LB1.out.size)))
          rw [hxw, HYE.out] at HQ
          have hPF := HPF.out X Y hlx
          rw [hxw, HYE.out] at hPF
          have HPE := Lib.hid hPF
          have hkk := HUI.out X Y hlx hlt
          clear hxw hPA hPF
          obtain ⟨k, hk⟩ : ∃ z, Y * nx + X = z := ⟨_, rfl⟩
          have HKE := Lib.hid hk
          rw [hk] at HV HPE hkk
          clear hk
          go_wp2_with fail
          clear q0 q1 q2 q3 q4 q5 q7
          with_reducible refine Calls.mono HQ.out ?_
          rintro e wa ⟨kp, rfl, hkp, hrow, hb⟩
          have HV2 := Lib.hid (HV.out.below hb)
          have X4 := Lib.hid (X3.out.below hb X3.out.lt)
          have RP := Lib.hid hrow
          clear hb hrow HV X3 HQ
          obtain ⟨n, hnn2⟩ : ∃ z, wd * ht = z := ⟨_, rfl⟩
          have HNE := Lib.hid hnn2
          rw [hnn2] at HV2 RP HPE hn hn0 ⊢
          clear hnn2
          have PB := Lib.hid (Box.new wa (wd : Nat) (ht : Nat) (.slice (some ⟨kp, 0, none⟩) n n))
          have hba := bel_alloc wa (.cells #[.int .i64 (wd : Nat), .int .i64 (ht : Nat), .slice (some ⟨kp, 0, none⟩) n n] 24)
          have HV3 := Lib.hid (HV2.out.below hba)
          have RP2 := Lib.hid (RP.out.below hba RP.out.lt)
          have X5 := Lib.hid (X4.out.below hba X4.out.lt)
          clear hba HV2 RP X4
          go_upto_region 13 with (fail)
          obtain ⟨pb, hpb⟩ : ∃ z, wa.heap.size = z := ⟨_, rfl⟩
          rw [hpb] at PB ⊢
          clear hpb
          generalize wa.alloc (.cells #[.int .i64 (wd : Nat), .int .i64 (ht : Nat), .slice (some ⟨kp, 0, none⟩) n n] 24) = wb at *
          obtain ⟨Au, cu, rfl, hgl⟩ := own_gls HV3.out.own HV3.out.rows
          have hlen := HV3.out.len
          have hul := us_le (P := P) k
          have hfx := fx_ua (P := P) (k := k) (w := wd) (h := ht) (a := fun i => g ((yh + i / wd) * W + (xw + i % wd))) (ff := fun i => ⟨(wd : Nat), (ht : Nat), some ⟨l2.getD i 0, 0, none⟩, n, n, fun j => ((us P k).getD i []).getD j false⟩) (by rw [HNE.out]; exact HPE.out) (fun i hi => ⟨rfl, rfl, HNE.out.symm, by
            rw [HNE.out]
            obtain ⟨k', _, ek⟩ := us_has k i hi
            have e3 : ((us P k).getD i []).length = n := by rw [ek, HLL.out, HNE.out]
            exact (bl_self e3).symm⟩)
          have HIX := Lib.hid (indexg_any Au l2.length cu _ 102 #[.pointer (some ⟨pb, 0, none⟩)] _ wb (by omega) hgl (units_clo (fun u hu i hi => by
            have hget : l2[i]? = some (l2.getD i 0) := by rw [List.getD_eq_getElem?_getD, List.getElem?_eq_getElem hi]; rfl
            have hr' := (HV3.out.rows.below hu) i _ hget
            exact hr'.holds hr'.lt) (fun i hi => by show n ≤ 5000; omega) PB.out (RP2.out.holds RP2.out.lt)) (Go.Proofs.enters_of Try.func102 (by kernel_rfl) rfl))
          rw [HNE.out, ← hlen] at hfx
          rw [hfx] at HIX
          have hmf := mk_fn
          have hl3 : l2.length ≤ 4096 := by omega
          clear hgl hfx hul
          have f1 := wrap_add (a := xw) (b := wd) (by omega)
          rcases us_step (P := P) (k := k) with ⟨hu, ha⟩ | ⟨hu, ha⟩
          · rw [if_pos (by rw [hlen]; exact ha)] at HIX
            have HUS := Lib.hid hu
            have hul2 : ua P k ≤ 4096 := by omega
            obtain ⟨u, hue⟩ : ∃ z, ua P k = z := ⟨_, rfl⟩
            have HUE := Lib.hid hue
            rw [hue] at HIX
            have y8 : decide (((u : Nat) : Int) < 0) = false := decide_eq_false (by omega)
            clear hu ha hue hlen
            go_wp2_with fail
            with_reducible refine Calls.mono HIX.out ?_
            rintro e wc ⟨rfl, hb⟩
            have HV4 := Lib.hid (HV3.out.below hb)
            clear hb HV3 HIX PB RP2 X5
            go_wp2_with (at_builtin; refine iapp1 _ rfl _ _ (by rfl) w1.heap.size (by rfl) HV4.out.ats (u : Nat) (by rfl) (by rw [HUE.out]) (by omega) HV4.out.sz ?_; intro v' wd' hown' hg'; have HV5 := Lib.hid (HV4.out.old HUS.out hown' hg'); clear hown' hg')
            go_roundw
            case rel => exact ⟨X + 1, l2, by omega, by rw [HX1.out, HXE.out, Int.natCast_add], by rw [← Nat.add_assoc, HKE.out, HNE.out]; exact HV5⟩
            case measure => simp [intOf]; omega
          · rw [if_neg (by rw [hlen]; omega)] at HIX
            have HUS := Lib.hid hu
            have HUE := Lib.hid (show ua P k = l2.length by rw [hlen]; exact ha)
            clear hu ha hlen
            go_wp2_with fail
            with_reducible refine Calls.mono HIX.out ?_
            rintro e wc ⟨rfl, hb⟩
            have HV4 := Lib.hid (HV3.out.below hb)
            have PB4 := Lib.hid (PB.out.below hb PB.out.lt)
            have RP4 := Lib.hid (RP2.out.below hb RP2.out.lt)
            clear hb HV3 HIX PB RP2 X5
            obtain ⟨t0, t1, t2, t3, t4, t5, t6⟩ := PB4.out.all
            go_wp2_with (at_builtin; first
              | (refine gapp1 _ rfl _ _ (by rfl) w1.heap.size (by rfl) HV4.out.own kp (by rfl) (by omega) HV4.out.sz ?_; intro v' wd' hown' hg'; have HV5 := Lib.hid (HV4.out.new HUS.out HPE.out RP4.out hown' hg'); clear hown' hg' t0 t1 t2 t3 t4 t5 t6)
              | (refine iapp1 _ rfl _ _ (by rfl) w1.heap.size (by rfl) HV5.out.2.1 (l2.length : Nat) (by rfl) (by rw [HUE.out]) (by omega) HV5.out.2.2.2.2.2 ?_; intro v2 we' hown' hg'; have HV6 := Lib.hid (UI.new2 HV5.out hown' hg'); clear hown' hg'))
            go_roundw
            case rel => exact ⟨X + 1, l2 ++ [kp], by omega, by rw [HX1.out, HXE.out, Int.natCast_add], by rw [← Nat.add_assoc, HKE.out, HNE.out]; exact HV6⟩
            case measure => simp [intOf]; omega
        · have e : X = nx := by omega
          have hx1 : xw = W := by rw [← hxw, e]; exact HWE.out
          have y6 : ¬ (xw : Int) < (W : Int) := by omega
          have f2 := wrap_add (a := yh) (b := ht) (by omega)
          have HV7 := Lib.hid (show UI P (wd : Nat) (ht : Nat) (wd * ht) w1 w1.heap.size wr ((Y + 1) * nx) _ _ l2 by rw [Nat.add_mul, Nat.one_mul]; have h := HV.out; rw [e] at h; exact h)
          clear HV e hx1
          go_wp2
          go_roundw
          case rel => exact ⟨Y + 1, l2, by omega, by rw [HY1.out, HYE.out, Int.natCast_add], HV7⟩
          case measure => simp [intOf]; omega
    · have e : Y = ny := by omega
      have hy1 : yh = H := by rw [← hyh, e]; exact HHE.out
      have y4 : ¬ (yh : Int) < (H : Int) := by omega
      obtain ⟨Au, cu, rfl, hgl⟩ := own_gls HU.out.own HU.out.rows
      obtain ⟨A2, c2, rfl, _, hh⟩ := HU.out.ats.out
      have hlen := HU.out.len
      have LBE := Lib.hid (LB1.out.trans (HU.out.bel.mono LB1.out.size))
      have hkk : Y * nx = nx * ny := by rw [e, Nat.mul_comm]
      rw [hkk] at hlen hgl hh ⊢
      have HGL := Lib.hid hgl
      have HHH := Lib.hid hh
      have HLEN := Lib.hid hlen
      clear hgl hh hlen hkk HU e hy1 hyh
      go_wp2
      refine bodyPost_ret (v := .tuple #[.slice Au l.length cu, .slice A2 (nx * ny) c2, .int .i64 0]) (by simp [results, Try.results51, go_sem]) rfl ?_
      refine ⟨Au, cu, A2, c2, by rw [HLEN.out], ⟨_, by rw [← HLEN.out]; exact HGL.out, fun i _ => ⟨rfl, rfl, rfl, fun j _ => rfl⟩⟩, fun h0 => ?_, LBE.out⟩
      obtain ⟨k, e, _, hr⟩ := HHH.out h0
      rw [e]; exact hr.holds hr.lt h0
end Go.Proofs.Ytngjcekjboedjaa
