/- The reference's Kinds: the kind of each row of a grid, and the first row of each kind. -/
import Derived.Test.YtbafhdinalapoaaDoorApd
import Derived.Test.YtbafhdinalapoaaDoorLmt
namespace Go.Proofs.YtbafhdinalapoaaDoor
open Go.RowKit
set_option linter.unusedVariables false
set_option linter.unusedSimpArgs false
set_option maxRecDepth 100000

open L2 (fst nd ren nd_le fst_at fst_no fst_le plc plc_hit)
theorem kind_hit {c : Nat → Int} {y k : Nat} (hk : k < nd c y) (h : c (frn c y k) = c y) : ren c y = (k : Nat) ∧ nd c (y + 1) = nd c y := by
  obtain ⟨h1, h2, h3⟩ := frn_spec c y k hk
  have h4 : plc c (c y) y = (frn c y k : Nat) := plc_hit (x := c y) (by rw [← h]; exact h3) h h1
  have h5 : fst c (c y) y < y := by
    rcases Nat.lt_or_ge (fst c (c y) y) y with h' | h'
    · exact h'
    · exact absurd h (fst_no c (c y) y _ (by omega))
  have h6 : fst c (c y) y = frn c y k := by
    unfold plc at h4
    rw [if_pos h5] at h4
    omega
  refine ⟨?_, nd_succ_old h5⟩
  show ((nd c (fst c (c y) y) : Nat) : Int) = _
  rw [h6, h2]
theorem kind_miss {c : Nat → Int} {y : Nat} (h : ∀ j, j < nd c y → c (frn c y j) ≠ c y) : ¬ fst c (c y) y < y := by
  intro hs
  obtain ⟨h1, h2⟩ := fst_first c y hs
  have h3 := frn_of c y _ hs h2
  have h4 : nd c (fst c (c y) y) < nd c y := by
    have := nd_mono c (show fst c (c y) y + 1 ≤ y by omega)
    rw [nd_succ_new h2] at this
    omega
  refine h _ h4 ?_
  rw [h3]
  exact h1
/-- What the reference's Kinds hands back. -/
def RKOut (w : World) (H : Nat) (c : Nat → Int) (e : Ending) (w' : World) : Prop :=
  ∃ A1 c1 A2 c2, e = .returned (.tuple #[.slice A1 H c1, .slice A2 (nd c H) c2]) ∧ (0 < H → ∃ k, A1 = some ⟨k, 0, none⟩ ∧ w.heap.size ≤ k ∧ L2.Row w' k H (ren c)) ∧ (0 < nd c H → ∃ q, A2 = some ⟨q, 0, none⟩ ∧ w.heap.size ≤ q ∧ L2.Row w' q (nd c H) (fun k => (frn c H k : Nat))) ∧ Below w.heap.size w w'

set_option maxHeartbeats 4000000 in
theorem rkinds_any (W H : Nat) (A : Option Addr) (cap : Nat) (f : Nat → Bool) (B0 : Nat) (w : World) (hr : Holds w B0 A (W * H) f) (hB : B0 ≤ w.heap.size) (hW : W ≤ 64) (hH : H ≤ 64) :
    Calls Tryd.prog 46 #[.agg #[.int .i64 W, .int .i64 H, .slice A (W * H) cap]] w (RKOut w H (rc W f)) := by
  have HR := Lib.hid hr
  obtain ⟨c, hc⟩ : ∃ c, rc W f = c := ⟨_, rfl⟩
  have HE := Lib.hid hc
  rw [hc]
  clear hr hc
  have X0 := Lib.hid (Box.new w W H (.slice A (W * H) cap))
  have L0 := Lib.hid (show Below w.heap.size w (w.alloc (.cells #[.int .i64 W, .int .i64 H, .slice A (W * H) cap] 25)) from (Below.refl _ _).alloc (Nat.le_refl _) _)
  have S0 := Lib.hid (show (w.alloc (.cells #[.int .i64 W, .int .i64 H, .slice A (W * H) cap] 25)).heap.size = w.heap.size + 1 by simp)
  go_enter Tryd.func46, Tryd.ntmps46
  go_wp2
  generalize w.alloc (.cells #[.int .i64 W, .int .i64 H, .slice A (W * H) cap] 25) = v0 at *
  go_loopw [4, 5, 6] (fun v u i wr => ∃ y : Nat, y ≤ H ∧ i = .int .i64 y ∧ L2.Own wr v0.heap.size v y (ren c) ∧ L2.Own wr v0.heap.size u (nd c y) (fun k => (frn c y k : Nat)) ∧ Hid (Apart v u) ∧ Hid (Below v0.heap.size v0 wr)) (fun _ _ i _ => H - (intOf i).toNat)
  case atStart => exact ⟨0, Nat.zero_le _, rfl, L2.Own.nil _ _ _, L2.Own.nil _ _ _, Apart.nil _, Below.refl _ _⟩
  case round =>
    obtain ⟨y, hy, rfl, hown1, hown2, hap, hbel⟩ := hrel
    obtain ⟨wo, rfl⟩ : ∃ wo : World, wo = wr := ⟨_, rfl⟩
    have HB := Lib.hid hbel.out
    have HAP := Lib.hid hap.out
    clear hbel hap
    obtain ⟨A1, c1, rfl, _, hr1⟩ := hown1.out
    obtain ⟨A2, c2, rfl, _, hr2⟩ := hown2.out
    have HO1 := Lib.hid hown1
    have HO2 := Lib.hid hown2
    have HR1 := Lib.hid hr1
    have HR2 := Lib.hid hr2
    clear hown1 hown2 hr1 hr2
    obtain ⟨q0, q1, q2, q3, q4, q5, q6⟩ := (X0.out.below HB.out X0.out.lt).all
    by_cases hlt : y < H
    · have y1 : decide ((y : Int) < (H : Int)) = true := by simp; omega
      obtain ⟨m, hm⟩ : ∃ m, nd c y = m := ⟨_, rfl⟩
      have hmy : m ≤ y := by rw [← hm]; exact nd_le c y
      have HM := Lib.hid hm
      rw [hm] at HO2 HR2 HAP ⊢
      clear hm
      go_wp2
      clear q0 q1 q2 q3 q4 q5 q6
      go_loopw [7] (fun i wq => ∃ k : Nat, k ≤ m ∧ i = .int .i64 k ∧ Hid (∀ j, j < k → c (frn c y j) ≠ c y) ∧ Hid (Below wo.heap.size wo wq)) (fun i _ => m - (intOf i).toNat)
      case atStart => exact ⟨0, Nat.zero_le _, rfl, Lib.hid fun j hj => absurd hj (by omega), Below.refl _ _⟩
      case round =>
        obtain ⟨k, hk, rfl, hno, hbq⟩ := hrel
        have HBQ := Lib.hid hbq.out
        have HNO := Lib.hid hno.out
        clear hbq hno
        have HX := Lib.hid (X0.out.below (HB.out.trans (HBQ.out.mono HB.out.size)) X0.out.lt)
        have HOa := Lib.hid (HO1.out.below HBQ.out)
        have HOb := Lib.hid (HO2.out.below HBQ.out)
        have HBB := Lib.hid (HB.out.trans (HBQ.out.mono HB.out.size))
        have hvs : v0.heap.size ≤ wr.heap.size := HBB.out.size
        have HBW := Lib.hid (L0.out.trans (HBB.out.mono L0.out.size))
        by_cases hkm : k < m
        · have z0 : decide ((k : Int) < (m : Int)) = true := by simp; omega
          obtain ⟨q, rfl, _, hrow⟩ := HR2.out (by omega)
          have hrow' := Lib.hid (hrow.below HBQ.out hrow.lt)
          have hfk := frn_spec c y k (by rw [HM.out]; exact hkm)
          have hfl : frn c y k < H := by omega
          have z3 : (0 : Int) ≤ (k : Int) := by omega
          have z4 : (k : Int) < (m : Int) := by omega
          obtain ⟨p, hp⟩ : ∃ p, frn c y k = p := ⟨_, rfl⟩
          have HP := Lib.hid hp
          rw [hp] at hfl
          clear hp hfk hrow
          go_wp2
          obtain ⟨I, Wf, i0, h0, hbf, hcl⟩ := family wr
          have HCL := Lib.hid hcl
          have BF := Lib.hid hbf
          clear hbf hcl
          have hne : Nonempty I := ⟨i0⟩
          have x0 := fun n => (HX.out.below (BF.out n) HX.out.lt).c0
          have x1 := fun n => (HX.out.below (BF.out n) HX.out.lt).c1
          have x2 := fun n => (HX.out.below (BF.out n) HX.out.lt).c2
          have x3 := fun n => (hrow'.out.below (BF.out n) hrow'.out.lt).cell hkm
          simp only [HP.out] at x3
          have C1 := Lib.hid (fun n => (samerows_any W H A cap f p y B0 (Wf n) (HR.out.below ((HBW.out.trans ((BF.out n).mono HBW.out.size)).mono hB)) (Nat.le_trans hB (Nat.le_trans HBW.out.size (BF.out n).size)) hW hH hfl hlt).mono fun e w2 h => (⟨h.1, HCL.out n _ h.2⟩ : _ ∧ ∃ m, w2 = Wf m))
          obtain ⟨b, hb⟩ : ∃ b, rsm W f p y = b := ⟨_, rfl⟩
          rw [hb] at C1
          have HBV := Lib.hid (show b = true ↔ c p = c y by rw [← hb, ← rc_eq, HE.out])
          clear hb
          cases b with
          | false =>
            refine wp_region_fam Wf i0 h0 (by kernel_rfl) (by kernel_rfl) ?_
            clear h0
            repeat (go_big_quiet_step (first | exact rfl | (go_at_call 78; with_reducible exact C1.out _)))
            refine wpQuiet_nil ?_
            rintro _ ⟨nq, rfl⟩
            go_wp2
            refine ⟨⟨k + 1, by omega, by go_num, Lib.hid fun j hj => ?_, Lib.hid (HBQ.out.trans ((BF.out nq).mono HBQ.out.size))⟩, by simp [intOf]; omega⟩
            rcases Nat.lt_succ_iff_lt_or_eq.1 hj with h | rfl
            · exact HNO.out j h
            · rw [HP.out]
              intro e
              exact absurd (HBV.out.2 e) (by decide)
          | true =>
            have hhit := kind_hit (c := c) (y := y) (k := k) (by rw [HM.out]; exact hkm) (by rw [HP.out]; exact HBV.out.1 rfl)
            have HH := Lib.hid hhit
            clear hhit
            have z5 : ((k : Int) == (m : Int)) = false := by simp; omega
            refine wp_region_fam Wf i0 h0 (by kernel_rfl) (by kernel_rfl) ?_
            clear h0
            repeat (go_big_quiet_step (first | exact rfl | (go_at_call 78; with_reducible exact C1.out _)))
            refine wpQuiet_nil ?_
            rintro _ ⟨nq, rfl⟩
            have HO3 := Lib.hid (HOa.out.below (BF.out nq))
            have HO4 := Lib.hid (HOb.out.below (BF.out nq))
            have HB4 := Lib.hid (HBB.out.trans ((BF.out nq).mono HBB.out.size))
            have hvs2 : v0.heap.size ≤ (Wf nq).heap.size := HB4.out.size
            clear x0 x1 x2 x3 C1
            generalize Wf nq = w4 at *
            go_wp2_with (at_builtin; refine app2 _ rfl _ _ (by rfl) v0.heap.size (by rfl) HO3.out (k : Int) (by rfl) HH.out.1 (by omega) hvs2 ?_; intro v' w5 hown5 hb5 hg5; have HO5 := Lib.hid hown5; have HB5 := Lib.hid (HB4.out.trans hb5); have HG5 := Lib.hid (hg5.own HO4.out HAP.out.symm); clear hown5 hb5 hg5)
            refine ⟨⟨y + 1, by omega, by go_num, HO5.out, ?_, HG5.out.2.symm, HB5⟩, by simp [intOf]; omega⟩
            rw [HH.out.2, HM.out]
            exact HG5.out.1.congr fun i hi => by rw [frn_keep c (by rw [HM.out]; exact hi)]
        · have e : k = m := by omega
          subst e
          have z0 : decide ((k : Int) < (k : Int)) = false := by simp
          have z5 : ((k : Int) == (k : Int)) = true := by simp
          have hms := kind_miss (c := c) (y := y) (fun j hj => HNO.out j (by rw [HM.out] at hj; exact hj))
          have HND := Lib.hid (show nd c (y + 1) = k + 1 by rw [nd_succ_new hms, HM.out])
          have HRN := Lib.hid (show ren c y = (k : Nat) by rw [L2.ren_new hms, HM.out])
          have HFN := Lib.hid (show ((frn c (y + 1) k : Nat) : Int) = (y : Int) by rw [← HM.out, frn_new hms])
          have HKP := Lib.hid (fun i (hi : i < k) => frn_keep c (show i < nd c y by rw [HM.out]; exact hi))
          clear hms
          have HO4 := Lib.hid (HOb.out.congr (g := fun k => ((frn c (y + 1) k : Nat) : Int)) fun i hi => by rw [HKP.out i hi])
          go_wp2
          obtain ⟨I, Wf, i0, h0, hbf, hcl⟩ := family wr
          have BF := Lib.hid hbf
          clear hbf hcl
          have hne : Nonempty I := ⟨i0⟩
          refine wp_region_fam Wf i0 h0 (by kernel_rfl) (by kernel_rfl) ?_
          clear h0
          repeat (go_big_quiet_step (first | exact rfl))
          refine wpQuiet_nil ?_
          rintro _ ⟨nq, rfl⟩
          have HOa' := Lib.hid (HOa.out.below (BF.out nq))
          have HO4' := Lib.hid (HO4.out.below (BF.out nq))
          have HBB' := Lib.hid (HBB.out.trans ((BF.out nq).mono HBB.out.size))
          have hvs' : v0.heap.size ≤ (Wf nq).heap.size := HBB'.out.size
          clear HOa HO4 HBB hvs
          generalize Wf nq = w4 at *
          go_wp2_with (first | (at_builtin; refine app2 _ rfl _ _ (by rfl) v0.heap.size (by rfl) HO4'.out (y : Int) (by rfl) HFN.out (by omega) hvs' ?_; intro u' w5 hown5 hb5 hg5; have HO5 := Lib.hid hown5; have HB5 := Lib.hid (HBB'.out.trans hb5); have HG5 := Lib.hid (hg5.own HOa'.out HAP.out); clear hown5 hb5 hg5; have hvs3 : v0.heap.size ≤ w5.heap.size := HB5.out.size) | (at_builtin; refine app2 _ rfl _ _ (by rfl) v0.heap.size (by rfl) HG5.out.1 (k : Int) (by rfl) HRN.out (by omega) hvs3 ?_; intro v' w6 hown6 hb6 hg6; have HO6 := Lib.hid hown6; have HB6 := Lib.hid (HB5.out.trans hb6); have HG6 := Lib.hid (hg6.own HO5.out HG5.out.2.symm); clear hown6 hb6 hg6))
          refine ⟨⟨y + 1, by omega, by go_num, HO6.out, ?_, HG6.out.2.symm, HB6⟩, by simp [intOf]; omega⟩
          rw [HND.out]
          exact HG6.out.1
    · have e : y = H := by omega
      subst e
      have y1 : decide ((y : Int) < (y : Int)) = false := by simp
      go_wp2
      refine bodyPost_ret (v := .tuple #[.slice A1 y c1, .slice A2 (nd c y) c2]) (by simp [results, Tryd.results46, go_sem]) rfl ⟨A1, c1, A2, c2, rfl, fun h => ?_, fun h => ?_, L0.out.trans (HB.out.mono L0.out.size)⟩
      · obtain ⟨k, e, h1, h2⟩ := HR1.out h
        exact ⟨k, e, Nat.le_trans L0.out.size h1, h2⟩
      · obtain ⟨k, e, h1, h2⟩ := HR2.out h
        exact ⟨k, e, Nat.le_trans L0.out.size h1, h2⟩
end Go.Proofs.YtbafhdinalapoaaDoor
