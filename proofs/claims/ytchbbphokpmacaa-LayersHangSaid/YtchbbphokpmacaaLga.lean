/- Arithmetic of LayersHang: a part alone hangs together. -/
import Derived.Test.YtchbbphokpmacaaLbo
namespace Go.Proofs.Ytchbbphokpmacaa
open Go.RowKit
set_option maxRecDepth 100000
set_option linter.unusedVariables false
set_option linter.unusedSimpArgs false

theorem mono_split {W : Nat} : ∀ {l : List Nat}, l.Pairwise (· < ·) → (l.filter fun t => decide (t < W)) ++ (l.filter fun t => !decide (t < W)) = l
  | [], _ => rfl
  | a :: l, h => by
    have h1 := List.pairwise_cons.1 h
    by_cases ha : a < W
    · rw [List.filter_cons_of_pos (by simpa using ha), List.filter_cons_of_neg (by simpa using ha), List.cons_append, mono_split h1.2]
    · have e : ∀ b, b ∈ a :: l → ¬ b < W := fun b hb => by
        rcases List.mem_cons.1 hb with rfl | hb
        · exact ha
        · have := h1.1 b hb; omega
      rw [List.filter_eq_nil_iff.2 (fun b hb => by simpa using e b hb), List.filter_eq_self.2 (fun b hb => by simpa using e b hb), List.nil_append]
theorem ofl_mon (P : Nat → Bool) (N : Nat) : (ofl P N).Pairwise (· < ·) := by
  unfold ofl
  exact List.Pairwise.filter _ List.pairwise_lt_range
theorem spl_e {W : Nat} {l : List Nat} (h : l.Pairwise (· < ·)) {k : Nat} (hk : k < (lEn W l).length) : l.getD k 0 = (lEn W l).getD k 0 := by
  unfold lEn at hk ⊢
  have e := mono_split (W := W) h
  have : l[k]? = (l.filter fun t => decide (t < W))[k]? := by
    conv => lhs; rw [← e]
    exact List.getElem?_append_left hk
  rw [List.getD_eq_getElem?_getD, List.getD_eq_getElem?_getD, this]
theorem spl_p {W : Nat} {l : List Nat} (h : l.Pairwise (· < ·)) {k : Nat} (hk : k < (lPi W l).length) : l.getD ((lEn W l).length + k) 0 = (lPi W l).getD k 0 + W := by
  unfold lPi at hk ⊢
  unfold lEn
  rw [List.length_map] at hk
  have e := mono_split (W := W) h
  have h1 : l[(l.filter fun t => decide (t < W)).length + k]? = (l.filter fun t => !decide (t < W))[k]? := by
    conv => lhs; arg 1; rw [← e]
    rw [List.getElem?_append_right (by omega), Nat.add_sub_cancel_left]
  rw [List.getD_eq_getElem?_getD, List.getD_eq_getElem?_getD, h1, List.getElem?_map, List.getElem?_eq_getElem hk]
  have hm := List.getElem_mem hk
  rw [List.mem_filter] at hm
  have hm2 : ¬ (l.filter fun t => !decide (t < W))[k] < W := by simpa using hm.2
  show (l.filter fun t => !decide (t < W))[k] = (l.filter fun t => !decide (t < W))[k] - W + W
  omega
theorem prt_mon {R : Nat → Nat → Bool} {N i : Nat} (hi : i < pno R N) : (prt R N i).Pairwise (· < ·) := by rw [prt_eq (pno_ne hi)]; exact ofl_mon _ _
section
variable {W H N i : Nat} {g : Nat → Bool}
theorem prt_get {R : Nat → Nat → Bool} (hi : i < pno R N) {k : Nat} (hk : k < (prt R N i).length) : (prt R N i).getD k 0 < N ∧ cls R N (pfi R N i) ((prt R N i).getD k 0) = true := by
  rw [prt_eq (pno_ne hi)] at hk ⊢
  exact ofl_get hk
theorem prt_ix {R : Nat → Nat → Bool} (hi : i < pno R N) {a : Nat} (ha : a < N) (h : cls R N (pfi R N i) a = true) : ∃ k, k < (prt R N i).length ∧ (prt R N i).getD k 0 = a := by
  rw [prt_eq (pno_ne hi)]
  exact ofl_ix ha h
theorem prt_up {R : Nat → Nat → Bool} (hi : i < pno R N) {j k : Nat} (h : j < k) (hk : k < (prt R N i).length) : (prt R N i).getD j 0 < (prt R N i).getD k 0 := by
  rw [prt_eq (pno_ne hi)] at hk ⊢
  exact ofl_lt h hk
theorem big_both (hi : i < pno (ov W g) N) (hb : 1 < (prt (ov W g) N i).length) : 0 < (lEn W (prt (ov W g) N i)).length ∧ 0 < (lPi W (prt (ov W g) N i)).length := by
  have h0 := prt_get hi (k := 0) (by omega)
  have h1 := prt_get hi (k := 1) hb
  have hlt := prt_up hi (j := 0) (k := 1) (by omega) hb
  have hf := pfi_lt (pno_ne hi)
  obtain ⟨c, hc, hcl, hR⟩ := prt_two h0.1 (b := (prt (ov W g) N i).getD 1 0) (by omega) (cls_trans h0.1 (cls_symm h0.2) h1.2)
  have hb' := (mem_prt hi).2 h1
  have hc' := (mem_prt hi).2 ⟨hc, cls_trans hf h0.2 hcl⟩
  generalize (prt (ov W g) N i).getD 1 0 = b at *
  have key : ∀ x y, x ∈ prt (ov W g) N i → y ∈ prt (ov W g) N i → x < W → ¬ y < W → 0 < (lEn W (prt (ov W g) N i)).length ∧ 0 < (lPi W (prt (ov W g) N i)).length := fun x y hx hy h2 h3 => by
    constructor
    · unfold lEn
      exact List.length_pos_of_mem (List.mem_filter.2 ⟨hx, by simpa using h2⟩)
    · unfold lPi
      rw [List.length_map]
      exact List.length_pos_of_mem (List.mem_filter.2 ⟨hy, by simpa using h3⟩)
  by_cases h2 : b < W <;> by_cases h3 : c < W
  · rw [ov_ee h2 h3] at hR; cases hR
  · exact key b c hb' hc' h2 h3
  · exact key c b hc' hb' h3 h2
  · rw [ov_pp h2 h3] at hR; cases hR
theorem big_hangs (hi : i < pno (ov W g) N) (hb : 1 < (prt (ov W g) N i).length) : hgs (ov (lEn W (prt (ov W g) N i)).length (onF W g (lEn W (prt (ov W g) N i)) (lPi W (prt (ov W g) N i)))) ((lEn W (prt (ov W g) N i)).length + (lPi W (prt (ov W g) N i)).length) = true := by
  have hbo := big_both hi hb
  have hf := pfi_lt (pno_ne hi)
  have hs := lens W (prt (ov W g) N i)
  have hE : ∀ k, k < (lEn W (prt (ov W g) N i)).length → (prt (ov W g) N i).getD k 0 = (lEn W (prt (ov W g) N i)).getD k 0 := fun k hk => spl_e (prt_mon hi) hk
  have hP : ∀ k, k < (lPi W (prt (ov W g) N i)).length → (prt (ov W g) N i).getD ((lEn W (prt (ov W g) N i)).length + k) 0 = (lPi W (prt (ov W g) N i)).getD k 0 + W := fun k hk => spl_p (prt_mon hi) hk
  have hW : ∀ k, k < (lEn W (prt (ov W g) N i)).length → (lEn W (prt (ov W g) N i)).getD k 0 < W := fun k hk => lEn_lt hk
  have hget : ∀ k, k < (prt (ov W g) N i).length → (prt (ov W g) N i).getD k 0 < N ∧ cls (ov W g) N (pfi (ov W g) N i) ((prt (ov W g) N i).getD k 0) = true := fun k hk => prt_get hi hk
  have hix : ∀ a, a < N → cls (ov W g) N (pfi (ov W g) N i) a = true → ∃ k, k < (prt (ov W g) N i).length ∧ (prt (ov W g) N i).getD k 0 = a := fun a ha h => prt_ix hi ha h
  have hup : ∀ j k, j < k → k < (prt (ov W g) N i).length → (prt (ov W g) N i).getD j 0 < (prt (ov W g) N i).getD k 0 := fun j k h hk => prt_up hi h hk
  generalize pfi (ov W g) N i = fi at *
  generalize prt (ov W g) N i = l at *
  unfold onF
  generalize lEn W l = l1 at *
  generalize lPi W l = l2 at *
  rw [hgs_iff (by omega)]
  intro t a ht ha
  have hov : ∀ x y, x < l1.length → y < l2.length → (y * l1.length + x) / l1.length = y ∧ (y * l1.length + x) % l1.length = x := fun x y hx _ => by
    constructor
    · rw [Nat.mul_comm, Nat.mul_add_div (by omega), Nat.div_eq_of_lt hx, Nat.add_zero]
    · rw [Nat.mul_comm, Nat.mul_add_mod, Nat.mod_eq_of_lt hx]
  refine sub_up (R := ov W g) (N := N) (σ := fun k => l.getD k 0) (fun k hk => (hget k (by omega)).1) (fun j k hj hk => cls_trans (hget j (by omega)).1 (cls_symm (hget j (by omega)).2) (hget k (by omega)).2)
    (fun j x hj hx hc => ?_) (fun j k hj hk => ?_) (fun j k hj hk e => ?_) ht ha
  · obtain ⟨k, hk, e⟩ := hix x hx (cls_trans hf (hget j (by omega)).2 hc)
    exact ⟨k, by omega, e⟩
  · have hP' : ∀ k, ¬ k < l1.length → k < l1.length + l2.length → l.getD k 0 = l2.getD (k - l1.length) 0 + W := fun k h1 h2 => by
      have := hP (k - l1.length) (by omega)
      rwa [show l1.length + (k - l1.length) = k by omega] at this
    show ov _ _ j k = ov W g (l.getD j 0) (l.getD k 0)
    by_cases h1 : j < l1.length <;> by_cases h2 : k < l1.length
    · rw [ov_ee h1 h2, hE j h1, hE k h2, ov_ee (hW j h1) (hW k h2)]
    · rw [ov_ep h1 h2, hE j h1, hP' k h2 hk, ov_ep (hW j h1) (by omega), Nat.add_sub_cancel, (hov j (k - l1.length) h1 (by omega)).1, (hov j (k - l1.length) h1 (by omega)).2]
    · rw [ov_pe h1 h2, hP' j h1 hj, hE k h2, ov_pe (by omega) (hW k h2), Nat.add_sub_cancel, (hov k (j - l1.length) h2 (by omega)).1, (hov k (j - l1.length) h2 (by omega)).2]
    · rw [ov_pp h1 h2, hP' j h1 hj, hP' k h2 hk, ov_pp (by omega) (by omega)]
  · have e' : l.getD j 0 = l.getD k 0 := e
    rcases Nat.lt_trichotomy j k with h | h | h
    · have := hup j k h (by omega); omega
    · exact h
    · have := hup k j h (by omega); omega
end
theorem ofl_at {B : Nat → Bool} : ∀ {n i : Nat}, i < n → B i = true → (ofl B n).getD (ofl B i).length 0 = i ∧ (ofl B i).length < (ofl B n).length
  | 0, i, h, _ => absurd h (by omega)
  | n + 1, i, h, hB => by
    by_cases e : i = n
    · subst e
      rw [ofl_yes hB, List.getD_eq_getElem?_getD, List.getElem?_append_right (Nat.le_refl _), List.length_append]
      simp
    · obtain ⟨h1, h2⟩ := ofl_at (B := B) (n := n) (i := i) (by omega) hB
      cases hb : B n
      · rw [ofl_no hb]; exact ⟨h1, h2⟩
      · rw [ofl_yes hb, List.length_append, List.getD_eq_getElem?_getD, List.getElem?_append_left h2, ← List.getD_eq_getElem?_getD]
        exact ⟨h1, by omega⟩
theorem lix_at {R : Nat → Nat → Bool} {N i : Nat} (hi : i < pno R N) (hb : 1 < (prt R N i).length) : (lix R N).getD (ofl (bigP R N) i).length 0 = i ∧ (ofl (bigP R N) i).length < (lix R N).length := ofl_at hi (by unfold bigP; simpa using hb)
theorem ofl_big {R : Nat → Nat → Bool} {N i : Nat} (hb : 1 < (prt R N i).length) : (ofl (bigP R N) (i + 1)).length = (ofl (bigP R N) i).length + 1 := by
  rw [ofl_yes (by unfold bigP; simpa using hb), List.length_append]; rfl
theorem ofl_small {R : Nat → Nat → Bool} {N i : Nat} (hb : ¬ 1 < (prt R N i).length) : (ofl (bigP R N) (i + 1)).length = (ofl (bigP R N) i).length := by
  rw [ofl_no (by unfold bigP; simpa using hb)]
/-- The first set that comes off was met among the first parts. -/
def fdB (R : Nat → Nat → Bool) (N i : Nat) : Bool := ((apL R N).length == 0) || (List.range i).any fun j => prt R N j == apL R N
theorem fd_succ (R : Nat → Nat → Bool) (N i : Nat) : fdB R N (i + 1) = (fdB R N i || (prt R N i == apL R N)) := by
  unfold fdB
  rw [List.range_succ, List.any_append, Bool.or_assoc]
  simp
theorem fd_zero (R : Nat → Nat → Bool) (N : Nat) : (((apL R N).length : Int) == 0) = fdB R N 0 := by
  unfold fdB
  simp
  rw [Bool.eq_iff_iff]
  simp
theorem fd_end {R : Nat → Nat → Bool} {N : Nat} (h : 0 < N) : fdB R N (pno R N) = true := by
  unfold fdB
  by_cases hh : hgs R N = true
  · have : (apL R N).length = 0 := by unfold apL; rw [if_pos hh]; rfl
    rw [this]; rfl
  · have e : apL R N = prt R N (pix R N (t0 R N)) := by unfold apL; rw [if_neg hh]; exact t0_part h
    rw [Bool.or_eq_true]
    right
    rw [List.any_eq_true]
    exact ⟨pix R N (t0 R N), List.mem_range.2 (pix_all (t0_lt h)).1, by rw [e]; simp⟩
end Go.Proofs.Ytchbbphokpmacaa
