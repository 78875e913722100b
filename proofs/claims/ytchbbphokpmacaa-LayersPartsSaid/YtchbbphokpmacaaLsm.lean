/- The reference's comparison of lists, of parts and of layers. -/
import Derived.Test.YtchbbphokpmacaaLpp
import Derived.Test.YtchbbphokpmacaaLla
namespace Go.Proofs.Ytchbbphokpmacaa.L2
open Go.RowKit
set_option maxRecDepth 100000
set_option linter.unusedVariables false
set_option linter.unusedSimpArgs false

theorem lsame_len (A D : Option Addr) (n m c d : Nat) (w : World) (h : ¬ n = m) :
    Calls Try.prog 102 #[.slice A n c, .slice D m d] w fun e w' => e = .returned (.bool false) ∧ w' = w := by
  have z : ((n : Int) != (m : Int)) = true := by simp; omega
  clear h
  go_enter Try.func102, Try.ntmps102
  go_wp2
  go_ret
  exact ⟨rfl, rfl⟩

set_option maxHeartbeats 1600000 in
theorem lsame_any (A D : Option Addr) (n c d : Nat) (f g : Nat → Int) (w : World) (hn : n ≤ 5000) (hr : Holds w w.heap.size A n f) (hs : Holds w w.heap.size D n g) :
    Calls Try.prog 102 #[.slice A n c, .slice D n d] w fun e w' => e = .returned (.bool (decide (∀ i, i < n → f i = g i))) ∧ Below w.heap.size w w' := by
  have z3 : ((n : Int) != (n : Int)) = false := by simp
  have HR := Lib.hid hr
  have HS := Lib.hid hs
  clear hr hs
  go_enter Try.func102, Try.ntmps102
  go_wp2
  go_loopw [5] (fun i wr => ∃ k : Nat, k ≤ n ∧ i = .int .i64 k ∧ Hid (∀ i, i < k → f i = g i) ∧ Below w.heap.size w wr) (fun i _ => n - (intOf i).toNat)
  case atStart => exact ⟨0, Nat.zero_le _, rfl, fun i hi => absurd hi (by omega), Below.refl _ _⟩
  case round =>
    obtain ⟨k, hk, rfl, hall, hbel⟩ := hrel
    by_cases hlt : k < n
    · obtain ⟨b, o, rfl, hbl, hc⟩ := (HR.out.below hbel) (by omega)
      obtain ⟨b', o', rfl, hbl', hc'⟩ := (HS.out.below hbel) (by omega)
      have c1 := hc k hlt
      have c2 := hc' k hlt
      clear hc hc'
      have hbs := hbel.size
      have B1 := Lib.hid hbel
      clear hbel
      have y1 : (0 : Int) ≤ (k : Int) := by omega
      have y2 : (k : Int) < (n : Int) := by omega
      obtain ⟨u, hu⟩ : ∃ u, f k = u := ⟨_, rfl⟩
      obtain ⟨v, hv⟩ : ∃ v, g k = v := ⟨_, rfl⟩
      rw [hu] at c1
      rw [hv] at c2
      have HU := Lib.hid hu
      have HV := Lib.hid hv
      clear hu hv
      by_cases e : u = v
      · have E := Lib.hid (show f k = g k by rw [HU.out, HV.out, e])
        subst e
        have z : (u != u) = false := by simp
        go_wp2
        go_quiet (fail)
        go_wp2
        refine ⟨⟨k + 1, by omega, by go_num, fun i hi => ?_, Go.Proofs.below_drewN' B1.out _⟩, by simp [intOf]; omega⟩
        rcases Nat.lt_succ_iff_lt_or_eq.1 hi with h | rfl
        · exact hall.out i h
        · exact E.out
      · have E := Lib.hid (show ¬ f k = g k by rw [HU.out, HV.out]; exact e)
        have z : (u != v) = true := by simp [e]
        clear e
        go_wp2
        go_quiet (fail)
        go_wp2
        go_ret
        exact ⟨ret_bool (by symm; rw [decide_eq_false_iff_not]; exact fun h => E.out (h k hlt)), Go.Proofs.below_drewN' B1.out _⟩
    · have e : k = n := by omega
      subst e
      go_wp2
      go_ret
      exact ⟨ret_bool (by symm; rw [decide_eq_true_iff]; exact hall.out), hbel⟩
end Go.Proofs.Ytchbbphokpmacaa.L2
namespace Go.Proofs.Ytchbbphokpmacaa
open Go.RowKit
set_option maxRecDepth 100000
set_option linter.unusedVariables false
set_option linter.unusedSimpArgs false

theorem lsame_t {l : List Nat} {D E : Option Addr} (c d : Nat) (w : World) (hn : l.length ≤ 5000) (h1 : LL w D l) (h2 : LL w E l) :
    Calls Try.prog 102 #[.slice D l.length c, .slice E l.length d] w fun e w' => e = .returned (.bool true) ∧ Below w.heap.size w w' := by
  have := L2.lsame_any D E l.length c d (lf l) (lf l) w hn h1 h2
  rwa [decide_eq_true (fun i _ => rfl)] at this
set_option maxHeartbeats 1600000 in
theorem sameparts_t (m : Nat) (D E : Option Addr) (c d : Nat) (L L' : Nat → List Nat) (w : World) (hm : m ≤ 5000) (hL : ∀ i, i < m → (L i).length ≤ 5000) (e : ∀ i, i < m → L i = L' i) (h1 : LLs w D m L) (h2 : LLs w E m L') :
    Calls Try.prog 49 #[.slice D m c, .slice E m d] w fun e w' => e = .returned (.bool true) ∧ Below w.heap.size w w' := by
  have H1 := Lib.hid h1
  have H2 := Lib.hid h2
  have HL := Lib.hid hL
  have HE := Lib.hid e
  have z3 : ((m : Int) != (m : Int)) = false := by simp
  clear h1 h2 hL e
  go_enter Try.func49, Try.ntmps49
  go_wp2
  go_loopw [5] (fun i wr => ∃ k : Nat, k ≤ m ∧ i = .int .i64 k ∧ Hid (Below w.heap.size w wr)) (fun i _ => m - (intOf i).toNat)
  case atStart => exact ⟨0, Nat.zero_le _, rfl, Lib.hid (Below.refl _ _)⟩
  case round =>
    obtain ⟨k, hk, rfl, HW⟩ := hrel
    by_cases hlt : k < m
    · have y1 : (k : Int) < (m : Int) := by omega
      have y2 : (0 : Int) ≤ (k : Int) := by omega
      obtain ⟨b1, o1, rfl, hb1, hc1⟩ := (H1.out.below HW.out) (by omega)
      obtain ⟨b2, o2, rfl, hb2, hc2⟩ := (H2.out.below HW.out) (by omega)
      obtain ⟨E1, d1, a1, _, l1⟩ := hc1 k hlt
      obtain ⟨E2, d2, a2, _, l2⟩ := hc2 k hlt
      rw [← HE.out k hlt] at a2 l2
      obtain ⟨I, Wf, i0, h0, hbf, hcl⟩ := family wr
      have hne : Nonempty I := ⟨i0⟩
      have C1 := Lib.hid (fun n => (lsame_t (l := L k) d1 d2 (Wf n) (HL.out k hlt) (l1.below (hbf n)) (l2.below (hbf n))).mono fun e w2 h => (⟨h.1, hcl n _ h.2⟩ : _ ∧ ∃ m, w2 = Wf m))
      have x1 := fun n => ((hbf n).cell (p := ⟨b1, o1 + k, none⟩) hb1).trans a1
      have x2 := fun n => ((hbf n).cell (p := ⟨b2, o2 + k, none⟩) hb2).trans a2
      have BF := Lib.hid hbf
      clear hcl hbf hb1 hb2 hc1 hc2 l1 l2 a1 a2
      generalize (L k).length = n0 at *
      go_wp2
      refine wp_region_fam Wf i0 h0 (by kernel_rfl) (by kernel_rfl) ?_
      clear h0
      repeat (go_big_quiet_step (first | exact rfl | (go_at_call 102; with_reducible exact C1.out _)))
      refine wpQuiet_nil ?_
      rintro _ ⟨nq, rfl⟩
      have HW3 := Lib.hid (HW.out.trans ((BF.out nq).mono HW.out.size))
      clear x1 x2 C1 hne
      generalize Wf nq = w5 at *
      go_wp2
      go_roundw
      case rel => exact ⟨k + 1, by omega, by go_num, HW3⟩
      case measure => simp [intOf]; omega
    · have e : k = m := by omega
      subst e
      go_wp2
      go_ret
      exact ⟨rfl, HW.out⟩
/-- A slice of layers. -/
def LYs (w : World) (D : Option Addr) (n : Nat) (E P : Nat → List Nat) : Prop :=
  0 < n → ∃ b o, D = some ⟨b, o, none⟩ ∧ b < w.heap.size ∧ ∀ i, i < n → ∃ D1 c1 D2 c2, w.cell? ⟨b, o + i * 2, none⟩ = some (.slice D1 (E i).length c1) ∧ w.cell? ⟨b, o + i * 2 + 1, none⟩ = some (.slice D2 (P i).length c2) ∧ LL w D1 (E i) ∧ LL w D2 (P i)
theorem LYs.below {w w' : World} {D : Option Addr} {n : Nat} {E P : Nat → List Nat} (h : LYs w D n E P) (hb : Below w.heap.size w w') : LYs w' D n E P := fun hn => by
  obtain ⟨b, o, e, h1, h2⟩ := h hn
  refine ⟨b, o, e, Nat.lt_of_lt_of_le h1 hb.size, fun i hi => ?_⟩
  obtain ⟨D1, c1, D2, c2, h3, h4, h5, h6⟩ := h2 i hi
  exact ⟨D1, c1, D2, c2, (hb.cell (p := ⟨b, o + i * 2, none⟩) h1).trans h3, (hb.cell (p := ⟨b, o + i * 2 + 1, none⟩) h1).trans h4, h5.below hb, h6.below hb⟩
set_option maxHeartbeats 3200000 in
theorem samelayers_t (m : Nat) (D E : Option Addr) (c d : Nat) (L P L' P' : Nat → List Nat) (w : World) (hm : m ≤ 5000) (hL : ∀ i, i < m → (L i).length ≤ 5000) (hP : ∀ i, i < m → (P i).length ≤ 5000) (e1 : ∀ i, i < m → L i = L' i) (e2 : ∀ i, i < m → P i = P' i) (h1 : LYs w D m L P) (h2 : LYs w E m L' P') :
    Calls Try.prog 59 #[.slice D m c, .slice E m d] w fun e w' => e = .returned (.bool true) ∧ Below w.heap.size w w' := by
  have H1 := Lib.hid h1
  have H2 := Lib.hid h2
  have HL := Lib.hid hL
  have HP := Lib.hid hP
  have HE1 := Lib.hid e1
  have HE2 := Lib.hid e2
  have z3 : ((m : Int) != (m : Int)) = false := by simp
  clear h1 h2 hL hP e1 e2
  go_enter Try.func59, Try.ntmps59
  go_wp2
  go_loopw [5] (fun i wr => ∃ k : Nat, k ≤ m ∧ i = .int .i64 k ∧ Hid (Below w.heap.size w wr)) (fun i _ => m - (intOf i).toNat)
  case atStart => exact ⟨0, Nat.zero_le _, rfl, Lib.hid (Below.refl _ _)⟩
  case round =>
    obtain ⟨k, hk, rfl, HW⟩ := hrel
    by_cases hlt : k < m
    · have y1 : (k : Int) < (m : Int) := by omega
      have y2 : (0 : Int) ≤ (k : Int) := by omega
      obtain ⟨b1, o1, rfl, hb1, hc1⟩ := (H1.out.below HW.out) (by omega)
      obtain ⟨b2, o2, rfl, hb2, hc2⟩ := (H2.out.below HW.out) (by omega)
      obtain ⟨E1, d1, F1, f1, a1, a3, l1, l3⟩ := hc1 k hlt
      obtain ⟨E2, d2, F2, f2, a2, a4, l2, l4⟩ := hc2 k hlt
      rw [← HE1.out k hlt] at a2 l2
      rw [← HE2.out k hlt] at a4 l4
      obtain ⟨I, Wf, i0, h0, hbf, hcl⟩ := family wr
      have hne : Nonempty I := ⟨i0⟩
      have C1 := Lib.hid (fun n => (lsame_t (l := L k) d1 d2 (Wf n) (HL.out k hlt) (l1.below (hbf n)) (l2.below (hbf n))).mono fun e w2 h => (⟨h.1, hcl n _ h.2⟩ : _ ∧ ∃ m, w2 = Wf m))
      have C2 := Lib.hid (fun n => (lsame_t (l := P k) f1 f2 (Wf n) (HP.out k hlt) (l3.below (hbf n)) (l4.below (hbf n))).mono fun e w2 h => (⟨h.1, hcl n _ h.2⟩ : _ ∧ ∃ m, w2 = Wf m))
      have x1 := fun n => ((hbf n).cell (p := ⟨b1, o1 + k * 2, none⟩) hb1).trans a1
      have x2 := fun n => ((hbf n).cell (p := ⟨b2, o2 + k * 2, none⟩) hb2).trans a2
      have x3 := fun n => ((hbf n).cell (p := ⟨b1, o1 + k * 2 + 1, none⟩) hb1).trans a3
      have x4 := fun n => ((hbf n).cell (p := ⟨b2, o2 + k * 2 + 1, none⟩) hb2).trans a4
      have BF := Lib.hid hbf
      clear hcl hbf hb1 hb2 hc1 hc2 l1 l2 a1 a2 l3 l4 a3 a4
      generalize (L k).length = n0 at *
      generalize (P k).length = n1 at *
      go_wp2
      refine wp_region_fam Wf i0 h0 (by kernel_rfl) (by kernel_rfl) ?_
      clear h0
      repeat (go_big_quiet_step (first | exact rfl | (go_at_call 102; first | with_reducible exact C1.out _ | with_reducible exact C2.out _)))
      refine wpQuiet_nil ?_
      rintro _ ⟨nq, rfl⟩
      have HW3 := Lib.hid (HW.out.trans ((BF.out nq).mono HW.out.size))
      clear x1 x2 x3 x4 C1 C2 hne
      generalize Wf nq = w5 at *
      go_wp2
      go_roundw
      case rel => exact ⟨k + 1, by omega, by go_num, HW3⟩
      case measure => simp [intOf]; omega
    · have e : k = m := by omega
      subst e
      go_wp2
      go_ret
      exact ⟨rfl, HW.out⟩
end Go.Proofs.Ytchbbphokpmacaa
