/- Layer 13 of the program: Spell. -/
import Derived.Test.YtngjcekjboedjaaKsp
namespace Go.Proofs.Ytngjcekjboedjaa
open Go.RowKit
set_option maxRecDepth 100000
set_option linter.unusedVariables false
set_option linter.unusedSimpArgs false

theorem wrap_mul' {a b : Nat} (h : a * b ≤ 1000000) : IntKind.i64.wrap ((a : Int) * (b : Int)) = ((a * b : Nat) : Int) := by
  rw [← Int.natCast_mul]
  exact IntWalk.i64_in _ (by omega)
/-- A list and an error came back. -/
def RL (w : World) (n : Nat) (F : Nat → Int) (z : Int) (e : Ending) (w' : World) : Prop :=
  ∃ A c, e = .returned (.tuple #[.slice A n c, .int .i64 z]) ∧ L2.Holds w' w'.heap.size A n F ∧ Below w.heap.size w w'
theorem lchk_zero {n : Nat} {f : Nat → Int} (h : L2.lchk n f = 0) : n ≤ 400 ∧ ∀ i, i < n → 0 ≤ f i ∧ f i < 400 := by
  unfold L2.lchk at h
  by_cases h1 : 400 < n
  · rw [if_pos h1] at h; cases h
  · rw [if_neg h1] at h
    by_cases h2 : ∀ i, i < n → 0 ≤ f i ∧ f i < 400
    · exact ⟨by omega, h2⟩
    · rw [decide_eq_false h2] at h; simp at h
theorem ctz_zero {m : Nat} {L : Nat → IV} (h : ctz m L = 0) : 1 ≤ m ∧ m ≤ 400 ∧ (∀ i, i < m → L2.lchk (L i).n (L i).f = 0) ∧ ∀ i, i < m → (L i).n ≠ 0 ∧ (L i).n = (L 0).n := by
  unfold ctz at h
  by_cases h1 : m < 1 ∨ 400 < m
  · rw [if_pos h1] at h; cases h
  · rw [if_neg h1] at h
    by_cases h2 : lfe m L = 0
    · rw [if_neg (by rw [h2]; simp)] at h
      cases h3 : lon m L
      · rw [h3] at h; simp at h
      · exact ⟨by omega, by omega, fe_zero.1 h2, of_decide_eq_true h3⟩
    · rw [if_pos h2] at h; exact absurd h h2
theorem spell_e1 (A : Option Addr) (k c : Nat) (f : Nat → Int) (D : Option Addr) (m d : Nat) (L : Nat → IV) (w : World) (ha : L2.Holds w w.heap.size A k f) (hm : m ≤ 1000) (h : ILs w D m L) (F : Nat → Int) (z : Int) (hz : L2.lchk k f = z) (hne : z ≠ 0) : Calls Try.prog 59 #[.slice A k c, .slice D m d] w (RL w 0 F z) := by
  have HC := Lib.hid (fun u (hb : Below w.heap.size w u) => lcheck_any A k c f u ((ha.below hb).more hb.size))
  have HT := Lib.hid (fun u (hb : Below w.heap.size w u) => cthread_any D m d L u hm (h.below hb))
  have HI := Lib.hid (fun u (hb : Below w.heap.size w u) (hk : k ≤ 100000) => inds_any A k c f m u hk ((ha.below hb).more hb.size))
  have HA := Lib.hid ha
  have HG := Lib.hid h
  have LB := Lib.hid (Below.refl w.heap.size w)
  clear ha h
  have y1 : (z != 0) = true := by rw [bne_iff_ne]; exact hne
  simp only [hz] at HC
  clear hz hne
  go_enter Try.func59, Try.ntmps59
  go_wp2_with fail
  with_reducible refine Calls.mono (HC.out _ LB.out) ?_
  rintro e w1 ⟨rfl, hw1⟩
  subst w1
  go_wp2
  go_ret2
  exact ⟨none, 0, rfl, L2.Holds.none_, Below.refl _ _⟩
theorem spell_e2 (A : Option Addr) (k c : Nat) (f : Nat → Int) (D : Option Addr) (m d : Nat) (L : Nat → IV) (w : World) (ha : L2.Holds w w.heap.size A k f) (hm : m ≤ 1000) (h : ILs w D m L) (F : Nat → Int) (hz : L2.lchk k f = 0) (z : Int) (hz2 : ctz m L = z) (hne : z ≠ 0) : Calls Try.prog 59 #[.slice A k c, .slice D m d] w (RL w 0 F z) := by
  have HC := Lib.hid (fun u (hb : Below w.heap.size w u) => lcheck_any A k c f u ((ha.below hb).more hb.size))
  have HT := Lib.hid (fun u (hb : Below w.heap.size w u) => cthread_any D m d L u hm (h.below hb))
  have HI := Lib.hid (fun u (hb : Below w.heap.size w u) (hk : k ≤ 100000) => inds_any A k c f m u hk ((ha.below hb).more hb.size))
  have HA := Lib.hid ha
  have HG := Lib.hid h
  have LB := Lib.hid (Below.refl w.heap.size w)
  clear ha h
  have y1 : ((0 : Int) != 0) = false := rfl
  simp only [hz] at HC
  have y2 : (z != 0) = true := by rw [bne_iff_ne]; exact hne
  simp only [hz2] at HT
  clear hz hz2 hne
  go_enter Try.func59, Try.ntmps59
  go_wp2_with fail
  with_reducible refine Calls.mono (HC.out _ LB.out) ?_
  rintro e w1 ⟨rfl, hw1⟩
  subst w1
  go_wp2_with fail
  with_reducible refine Calls.mono (HT.out _ LB.out) ?_
  rintro e w1 ⟨rfl, hw1⟩
  subst w1
  go_wp2
  go_ret2
  exact ⟨none, 0, rfl, L2.Holds.none_, Below.refl _ _⟩
theorem spell_bad (A : Option Addr) (k c : Nat) (f : Nat → Int) (D : Option Addr) (m d : Nat) (L : Nat → IV) (w : World) (ha : L2.Holds w w.heap.size A k f) (hm : m ≤ 1000) (h : ILs w D m L) (F : Nat → Int) (hz : L2.lchk k f = 0) (hz2 : ctz m L = 0) (hi : inds k f m = false) : Calls Try.prog 59 #[.slice A k c, .slice D m d] w (RL w 0 F 8) := by
  have HC := Lib.hid (fun u (hb : Below w.heap.size w u) => lcheck_any A k c f u ((ha.below hb).more hb.size))
  have HT := Lib.hid (fun u (hb : Below w.heap.size w u) => cthread_any D m d L u hm (h.below hb))
  have HI := Lib.hid (fun u (hb : Below w.heap.size w u) (hk : k ≤ 100000) => inds_any A k c f m u hk ((ha.below hb).more hb.size))
  have HA := Lib.hid ha
  have HG := Lib.hid h
  have LB := Lib.hid (Below.refl w.heap.size w)
  clear ha h
  have y1 : ((0 : Int) != 0) = false := rfl
  simp only [hz] at HC
  obtain ⟨hk, hf⟩ := lchk_zero hz
  obtain ⟨m1, m2, hL, hn⟩ := ctz_zero hz2
  simp only [hz2] at HT
  clear hz hz2
  simp only [hi] at HI
  clear hi hf hL hn
  go_enter Try.func59, Try.ntmps59
  go_wp2_with fail
  with_reducible refine Calls.mono (HC.out _ LB.out) ?_
  rintro e w1 ⟨rfl, hw1⟩
  subst w1
  go_wp2_with fail
  with_reducible refine Calls.mono (HT.out _ LB.out) ?_
  rintro e w1 ⟨rfl, hw1⟩
  subst w1
  go_wp2_with fail
  with_reducible refine Calls.mono (HI.out _ LB.out (by omega)) ?_
  rintro e w1 ⟨rfl, hw1⟩
  subst w1
  go_wp2
  go_ret2
  exact ⟨none, 0, rfl, L2.Holds.none_, Below.refl _ _⟩
theorem spell_many (A : Option Addr) (k c : Nat) (f : Nat → Int) (D : Option Addr) (m d : Nat) (L : Nat → IV) (w : World) (ha : L2.Holds w w.heap.size A k f) (hm : m ≤ 1000) (h : ILs w D m L) (F : Nat → Int) (hz : L2.lchk k f = 0) (hz2 : ctz m L = 0) (hi : inds k f m = true) (hnn : 400 < k * (L 0).n) : Calls Try.prog 59 #[.slice A k c, .slice D m d] w (RL w 0 F 4) := by
  have HC := Lib.hid (fun u (hb : Below w.heap.size w u) => lcheck_any A k c f u ((ha.below hb).more hb.size))
  have HT := Lib.hid (fun u (hb : Below w.heap.size w u) => cthread_any D m d L u hm (h.below hb))
  have HI := Lib.hid (fun u (hb : Below w.heap.size w u) (hk : k ≤ 100000) => inds_any A k c f m u hk ((ha.below hb).more hb.size))
  have HA := Lib.hid ha
  have HG := Lib.hid h
  have LB := Lib.hid (Below.refl w.heap.size w)
  clear ha h
  have y1 : ((0 : Int) != 0) = false := rfl
  simp only [hz] at HC
  obtain ⟨hk, hf⟩ := lchk_zero hz
  obtain ⟨m1, m2, hL, hn⟩ := ctz_zero hz2
  simp only [hz2] at HT
  clear hz hz2
  have hfi : ∀ i, i < k → 0 ≤ f i ∧ f i < m := of_decide_eq_true hi
  simp only [hi] at HI
  have hn0 := hn 0 (by omega)
  have hl0 := (lchk_zero (hL 0 (by omega))).1
  obtain ⟨n0, hn0e⟩ : ∃ z, (L 0).n = z := ⟨_, rfl⟩
  rw [hn0e] at hn0 hl0 hnn
  simp only [hn0e] at hn
  have f1 := wrap_mul' (a := k) (b := n0) (Nat.le_trans (Nat.mul_le_mul hk hl0) (by omega))
  have y5 : (0 : Int) < (m : Int) := by omega
  clear hi
  obtain ⟨b', o', eD, hl', hc'⟩ := HG.out (by omega)
  have b0 := (hc' 0 (by omega)).1
  rw [Nat.add_zero, hn0e] at b0
  subst eD
  generalize (L 0).A = A0 at *
  generalize (L 0).c = c0 at *
  have y6 : (400 : Int) < ((k * n0 : Nat) : Int) := by omega
  clear hfi hL hn hf hc'
  go_enter Try.func59, Try.ntmps59
  go_wp2_with fail
  with_reducible refine Calls.mono (HC.out _ LB.out) ?_
  rintro e w1 ⟨rfl, hw1⟩
  subst w1
  go_wp2_with fail
  with_reducible refine Calls.mono (HT.out _ LB.out) ?_
  rintro e w1 ⟨rfl, hw1⟩
  subst w1
  go_wp2_with fail
  with_reducible refine Calls.mono (HI.out _ LB.out (by omega)) ?_
  rintro e w1 ⟨rfl, hw1⟩
  subst w1
  go_wp2
  go_ret2
  exact ⟨none, 0, rfl, L2.Holds.none_, Below.refl _ _⟩
theorem both_sp {n j : Nat} {L : Nat → Nat → Int} {b : Nat → Nat} : ∀ i, i < j * n + n → L2.both (j * n) (spF n L b) (L (b j)) i = spF n L b i := fun i hi => by
  unfold L2.both
  by_cases h : i < j * n
  · rw [if_pos h]
  · rw [if_neg h]
    have h1 := sp_at (n := n) (k := j) (i := i - j * n) (L := L) (b := b) (by omega)
    rw [show j * n + (i - j * n) = i by omega] at h1
    exact h1.symm
set_option maxHeartbeats 1600000 in
theorem spell_ok (A : Option Addr) (k c : Nat) (f : Nat → Int) (D : Option Addr) (m d : Nat) (L : Nat → IV) (w : World) (ha : L2.Holds w w.heap.size A k f) (hm : m ≤ 1000) (h : ILs w D m L) (hz : L2.lchk k f = 0) (hz2 : ctz m L = 0) (hi : inds k f m = true) (hnn : k * (L 0).n ≤ 400) : Calls Try.prog 59 #[.slice A k c, .slice D m d] w (RL w (k * (L 0).n) (spF (L 0).n (fun i => (L i).f) (fun i => (f i).toNat)) 0) := by
  have HC := Lib.hid (fun u (hb : Below w.heap.size w u) => lcheck_any A k c f u ((ha.below hb).more hb.size))
  have HT := Lib.hid (fun u (hb : Below w.heap.size w u) => cthread_any D m d L u hm (h.below hb))
  have HI := Lib.hid (fun u (hb : Below w.heap.size w u) (hk : k ≤ 100000) => inds_any A k c f m u hk ((ha.below hb).more hb.size))
  have HA := Lib.hid ha
  have HG := Lib.hid h
  have LB := Lib.hid (Below.refl w.heap.size w)
  clear ha h
  have y1 : ((0 : Int) != 0) = false := rfl
  simp only [hz] at HC
  obtain ⟨hk, hf⟩ := lchk_zero hz
  obtain ⟨m1, m2, hL, hn⟩ := ctz_zero hz2
  simp only [hz2] at HT
  clear hz hz2
  have hfi : ∀ i, i < k → 0 ≤ f i ∧ f i < m := of_decide_eq_true hi
  simp only [hi] at HI
  have hn0 := hn 0 (by omega)
  have hl0 := (lchk_zero (hL 0 (by omega))).1
  obtain ⟨n0, hn0e⟩ : ∃ z, (L 0).n = z := ⟨_, rfl⟩
  rw [hn0e] at hn0 hl0 hnn
  simp only [hn0e] at hn
  have f1 := wrap_mul' (a := k) (b := n0) (Nat.le_trans (Nat.mul_le_mul hk hl0) (by omega))
  have y5 : (0 : Int) < (m : Int) := by omega
  clear hi
  rw [hn0e]
  obtain ⟨b', o', eD, hl', hc'⟩ := HG.out (by omega)
  have b0 := (hc' 0 (by omega)).1
  rw [Nat.add_zero, hn0e] at b0
  subst eD
  have HCC := Lib.hid hc'
  have y6 : ¬ (400 : Int) < ((k * n0 : Nat) : Int) := by omega
  have HFI := Lib.hid hfi
  have HN := Lib.hid hn
  clear hfi hL hf hc' hn
  obtain ⟨A0, hA0⟩ : ∃ z, (L 0).A = z := ⟨_, rfl⟩
  obtain ⟨c0, hc0⟩ : ∃ z, (L 0).c = z := ⟨_, rfl⟩
  rw [hA0, hc0] at b0
  clear hA0 hc0
  go_enter Try.func59, Try.ntmps59
  go_wp2_with fail
  with_reducible refine Calls.mono (HC.out _ LB.out) ?_
  rintro e w1 ⟨rfl, hw1⟩
  subst w1
  go_wp2_with fail
  with_reducible refine Calls.mono (HT.out _ LB.out) ?_
  rintro e w1 ⟨rfl, hw1⟩
  subst w1
  go_wp2_with fail
  with_reducible refine Calls.mono (HI.out _ LB.out (by omega)) ?_
  rintro e w1 ⟨rfl, hw1⟩
  subst w1
  go_wp2
  go_loopw [8, 36] (fun v i wr => ∃ j : Nat, j ≤ k ∧ i = .int .i64 j ∧ Hid (L2.Own wr w.heap.size v (j * n0) (spF n0 (fun i => (L i).f) (fun i => (f i).toNat))) ∧ Hid (Below w.heap.size w wr)) (fun _ i _ => k - (intOf i).toNat)
  case atStart => exact ⟨0, Nat.zero_le _, rfl, Lib.hid (by rw [Nat.zero_mul]; exact L2.Own.nil _ _ _), Lib.hid (Below.refl _ _)⟩
  case round =>
    obtain ⟨j, hj, rfl, HO, HB⟩ := hrel
    by_cases hlt : j < k
    · have z1 : (j : Int) < (k : Int) := by omega
      have z2 : (0 : Int) ≤ (j : Int) := by omega
      obtain ⟨ba, oa, eA, hba, hca⟩ := HA.out (by omega)
      have a0 := (HB.out.cell (p := ⟨ba, oa + j, none⟩) hba).trans (hca j hlt)
      obtain ⟨h1, h2⟩ := HFI.out j hlt
      obtain ⟨q, hq⟩ : ∃ q : Nat, f j = q := ⟨(f j).toNat, by omega⟩
      have hqm : q < m := by omega
      obtain ⟨g0, g1, g2, g3⟩ := HCC.out q hqm
      have g0 := (HB.out.cell (p := ⟨b', _, none⟩) hl').trans g0
      have hqn := (HN.out q hqm).2
      have hjn : (j + 1) * n0 ≤ 400 := Nat.le_trans (Nat.mul_le_mul_right n0 (show j + 1 ≤ k from hlt)) hnn
      rw [Nat.add_mul, Nat.one_mul] at hjn
      rw [hqn] at g0 g1
      have GH := Lib.hid ((g1.below HB.out).more HB.out.size)
      have HBS := Lib.hid (both_sp (n := n0) (j := j) (L := fun i => (L i).f) (b := fun i => (f i).toNat))
      rw [show (f j).toNat = q by omega] at HBS
      have z3 : (q : Int) < (m : Int) := by omega
      have z4 : (0 : Int) ≤ (q : Int) := by omega
      rw [hq] at a0
      have hz2 := HB.out.size
      subst eA
      clear hca h1 h2 g1 hq hqn g3
      obtain ⟨Aq, hAq⟩ : ∃ z, (L q).A = z := ⟨_, rfl⟩
      obtain ⟨cq, hcq⟩ : ∃ z, (L q).c = z := ⟨_, rfl⟩
      rw [hAq, hcq] at g0 g2
      rw [hAq] at GH
      clear hAq hcq
      go_wp2_with (at_builtin; refine L2.appN _ rfl _ _ (by rfl) w.heap.size (by rfl) HO.out (by rfl) g2 GH.out (by omega) (by omega) hz2 ?_; intro v' w8 hown8 hb8; have HO8 := Lib.hid (hown8.congr HBS.out); have HB8 := Lib.hid (HB.out.trans hb8); clear hown8 hb8)
      go_roundw
      case rel => exact ⟨j + 1, by omega, by go_num, by rw [Nat.add_mul, Nat.one_mul]; exact HO8, HB8⟩
      case measure => simp [intOf]; omega
    · have e : j = k := by omega
      have z1 : ¬ (j : Int) < (k : Int) := by omega
      obtain ⟨A2, c2, rfl, _, hh⟩ := HO.out.out
      have HH := Lib.hid hh
      have HE := Lib.hid e
      clear e hh
      go_wp2
      go_ret2
      refine ⟨A2, c2, by rw [HE.out]; rfl, fun h0 => ?_, HB.out⟩
      obtain ⟨g, e1, _, hr⟩ := HH.out (by rw [HE.out]; exact h0)
      rw [HE.out] at hr
      rw [e1]
      exact hr.holds hr.lt h0
end Go.Proofs.Ytngjcekjboedjaa
