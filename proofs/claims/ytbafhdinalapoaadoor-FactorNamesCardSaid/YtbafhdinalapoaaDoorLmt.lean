/- Renumbered lists are their own; the rows that the reference compares. -/
import Derived.Test.YtbafhdinalapoaaDoorFa
import Derived.Test.YtbafhdinalapoaaDoorDtn
import Derived.BigQuiet
namespace Go.Proofs.YtbafhdinalapoaaDoor
open Go.RowKit
set_option linter.unusedVariables false
set_option linter.unusedSimpArgs false
set_option maxRecDepth 100000

open L2 (fst nd ren nd_le fst_at fst_no fst_le fst_end)
theorem fst_val (c : Nat → Int) (y : Nat) : c (fst c (c y) y) = c y ∧ ∀ j, j < fst c (c y) y → c j ≠ c y := by
  refine ⟨?_, fst_no c (c y) y⟩
  by_cases h : fst c (c y) y < y
  · exact fst_at c (c y) y h
  · rw [fst_end h]
theorem fst_same (c : Nat → Int) (y z : Nat) (h : c y = c z) : fst c (c y) y = fst c (c z) z := by
  obtain ⟨a1, a2⟩ := fst_val c y
  obtain ⟨b1, b2⟩ := fst_val c z
  rcases Nat.lt_trichotomy (fst c (c y) y) (fst c (c z) z) with h1 | h1 | h1
  · exact absurd (a1.trans h) (b2 _ h1)
  · exact h1
  · exact absurd (b1.trans h.symm) (a2 _ h1)
theorem ren_eq (c : Nat → Int) (y z : Nat) : ren c y = ren c z ↔ c y = c z := by
  constructor
  · intro h
    obtain ⟨k, h1, h2, h3⟩ := ren_at c (y + z + 1) y (by omega)
    obtain ⟨l, g1, g2, g3⟩ := ren_at c (y + z + 1) z (by omega)
    have e : k = l := by rw [h1, g1] at h; omega
    rw [← h3, e, g3]
  · intro h
    unfold ren
    rw [fst_same c y z h]
theorem nd_ren (c : Nat → Int) (m : Nat) : nd (ren c) m = nd c m :=
  Nat.le_antisymm (nd_le_nd _ _ m fun y z _ _ h => (ren_eq c y z).2 h) (nd_le_nd _ _ m fun y z _ _ h => (ren_eq c y z).1 h)
theorem ren_ren (c : Nat → Int) (y : Nat) : ren (ren c) y = ren c y := by
  have e : fst (ren c) (ren c y) y = fst c (c y) y := by
    obtain ⟨a1, a2⟩ := fst_val c y
    obtain ⟨b1, b2⟩ := fst_val (ren c) y
    rcases Nat.lt_trichotomy (fst (ren c) (ren c y) y) (fst c (c y) y) with h1 | h1 | h1
    · exact absurd ((ren_eq c _ _).1 b1) (a2 _ h1)
    · exact h1
    · exact absurd ((ren_eq c _ _).2 a1) (b2 _ h1)
  show ((nd (ren c) (fst (ren c) (ren c y) y) : Nat) : Int) = _
  rw [e, nd_ren]
  rfl
theorem iholds_congr {w : World} {B n : Nat} {A : Option Addr} {f g : Nat → Int} (h : L2.Holds w B A n f) (e : ∀ i, i < n → f i = g i) : L2.Holds w B A n g := fun hn => by
  obtain ⟨b, o, h1, h2, h3⟩ := h hn
  exact ⟨b, o, h1, h2, fun i hi => by rw [h3 i hi, e i hi]⟩

set_option maxHeartbeats 1600000 in
theorem samerows_any (W H : Nat) (A : Option Addr) (cap : Nat) (f : Nat → Bool) (y z : Nat) (B0 : Nat) (w : World) (hr : Holds w B0 A (W * H) f) (hB : B0 ≤ w.heap.size) (hW : W ≤ 64) (hH : H ≤ 64) (hy : y < H) (hz : z < H) :
    Calls Tryd.prog 78 #[.agg #[.int .i64 W, .int .i64 H, .slice A (W * H) cap], .int .i64 y, .int .i64 z] w fun e w' => e = .returned (.bool (rsm W f y z)) ∧ Below w.heap.size w w' := by
  have HR := Lib.hid hr
  have X0 := Lib.hid (Box.new w W H (.slice A (W * H) cap))
  have L0 := Lib.hid (show Below w.heap.size w (w.alloc (.cells #[.int .i64 W, .int .i64 H, .slice A (W * H) cap] 25)) from (Below.refl _ _).alloc (Nat.le_refl _) _)
  clear hr
  go_enter Tryd.func78, Tryd.ntmps78
  go_wp2
  generalize w.alloc (.cells #[.int .i64 W, .int .i64 H, .slice A (W * H) cap] 25) = v0 at *
  go_loopw [7] (fun i wr => ∃ x : Nat, x ≤ W ∧ i = .int .i64 x ∧ Hid (∀ i, i < x → f (y * W + i) = f (z * W + i)) ∧ Hid (Below v0.heap.size v0 wr)) (fun i _ => W - (intOf i).toNat)
  case atStart => exact ⟨0, Nat.zero_le _, rfl, Lib.hid fun i hi => absurd hi (by omega), Below.refl _ _⟩
  case round =>
    obtain ⟨x, hx, rfl, hall, hbv⟩ := hrel
    have HBV := Lib.hid hbv.out
    have HAL := Lib.hid hall.out
    clear hbv hall
    obtain ⟨q0, q1, q2, q3, q4, q5, q6⟩ := (X0.out.below HBV.out X0.out.lt).all
    by_cases hlx : x < W
    · go_wp2
      clear q0 q1 q2 q3 q4 q5 q6
      obtain ⟨I, Wf, i0, h0, hbf, hcl⟩ := family wr
      have HCL := Lib.hid hcl
      have BF := Lib.hid (fun n => HBV.out.trans ((hbf n).mono HBV.out.size))
      have p0 := fun n => ((X0.out.below (BF.out n) X0.out.lt).all).1
      have p1 := fun n => ((X0.out.below (BF.out n) X0.out.lt).all).2.1
      have p2 := fun n => ((X0.out.below (BF.out n) X0.out.lt).all).2.2.1
      have C1 := Lib.hid (fun n => (at_nat W H A cap x y f (Wf n) B0 (((HR.out.below (L0.out.mono hB)).below ((BF.out n).mono (Nat.le_trans hB L0.out.size)))) (Nat.le_trans hB (Nat.le_trans L0.out.size (BF.out n).size)) hW hH x y rfl rfl hlx hy).mono fun e w2 h => (⟨h.1, HCL.out n _ h.2⟩ : _ ∧ ∃ m, w2 = Wf m))
      have C2 := Lib.hid (fun n => (at_nat W H A cap x z f (Wf n) B0 (((HR.out.below (L0.out.mono hB)).below ((BF.out n).mono (Nat.le_trans hB L0.out.size)))) (Nat.le_trans hB (Nat.le_trans L0.out.size (BF.out n).size)) hW hH x z rfl rfl hlx hz).mono fun e w2 h => (⟨h.1, HCL.out n _ h.2⟩ : _ ∧ ∃ m, w2 = Wf m))
      obtain ⟨u, hu⟩ : ∃ u, f (y * W + x) = u := ⟨_, rfl⟩
      obtain ⟨v, hv⟩ : ∃ v, f (z * W + x) = v := ⟨_, rfl⟩
      rw [hu] at C1
      rw [hv] at C2
      have HU := Lib.hid hu
      have HV := Lib.hid hv
      clear hu hv hbf hcl
      have hne : Nonempty I := ⟨i0⟩
      by_cases e : u = v
      · have zf0 : (u != v) = false := by simp [e]
        refine wp_region_fam Wf i0 h0 (by kernel_rfl) (by kernel_rfl) ?_
        clear h0
        repeat (go_big_quiet_step (first | exact rfl | (go_at_call 50; with_reducible exact C1.out _) | (go_at_call 50; with_reducible exact C2.out _)))
        refine wpQuiet_nil ?_
        rintro _ ⟨nq, rfl⟩
        go_wp2
        refine ⟨⟨x + 1, by omega, by go_num, fun i hi => ?_, BF.out nq⟩, by simp [intOf]; omega⟩
        rcases Nat.lt_succ_iff_lt_or_eq.1 hi with h | rfl
        · exact HAL.out i h
        · rw [HU.out, HV.out, e]
      · have zf0 : (u != v) = true := by simp [e]
        have HN := Lib.hid (show rsm W f y z = false from by
          unfold rsm
          rw [decide_eq_false_iff_not]
          intro h
          have := h x hlx
          rw [HU.out, HV.out] at this
          exact e this)
        clear zf0
        cases u <;> cases v <;> first | exact absurd rfl e | skip
        all_goals
          clear e
          refine wp_region_fam Wf i0 h0 (by kernel_rfl) (by kernel_rfl) ?_
          clear h0
          repeat (go_big_quiet_step (first | exact rfl | (go_at_call 50; with_reducible exact C1.out _) | (go_at_call 50; with_reducible exact C2.out _)))
          refine wpQuiet_nil ?_
          rintro _ ⟨nq, rfl⟩
          go_wp2
          go_ret
          exact ⟨ret_bool HN.out.symm, L0.out.trans ((BF.out nq).mono L0.out.size)⟩
    · have e : x = W := by omega
      have HN := Lib.hid (show rsm W f y z = true from by
        unfold rsm
        rw [decide_eq_true_iff]
        intro i hi
        exact HAL.out i (by omega))
      have y5 : decide ((x : Int) < (W : Int)) = false := by simp; omega
      go_wp2
      go_ret
      exact ⟨ret_bool HN.out.symm, L0.out.trans (HBV.out.mono L0.out.size)⟩
end Go.Proofs.YtbafhdinalapoaaDoor
