/- Merged: Lba Lbo Lga. -/
import Derived.Test.YtgmcbdnfgdmmaaaLyx
import Derived.Test.YtgmcbdnfgdmmaaaLon

/- LayersBack: arithmetic; grids that are not valid, long lists. -/
namespace Go.Proofs.Ytgmcbdnfgdmmaaa
open Go.RowKit
set_option maxRecDepth 100000
set_option linter.unusedVariables false
set_option linter.unusedSimpArgs false

/-- Same of two lists, whatever their lengths. -/
theorem same_two {l1 l2 : List Nat} {D E : Option Addr} (c d : Nat) (w : World) (hn : l1.length ≤ 5000) (h1 : LL w D l1) (h2 : LL w E l2) :
    Calls Try.prog 62 #[.slice D l1.length c, .slice E l2.length d] w fun e w' => e = .returned (.bool (l1 == l2)) ∧ Below w.heap.size w w' := by
  by_cases hl : l1.length = l2.length
  · have := L2.rsame_any D E l1.length c d (lf l1) (lf l2) w hn h1 (by rw [hl]; exact h2)
    rw [hl] at this ⊢
    refine this.mono fun e w' h => ⟨?_, h.2⟩
    rw [h.1]
    congr 2
    rw [Bool.eq_iff_iff, decide_eq_true_iff, beq_iff_eq]
    constructor
    · intro k
      refine List.ext_getElem hl fun i h3 h4 => ?_
      have := k i h4
      unfold lf at this
      rw [List.getD_eq_getElem?_getD, List.getD_eq_getElem?_getD, List.getElem?_eq_getElem h3, List.getElem?_eq_getElem h4] at this
      have h9 : ((l1[i] : Nat) : Int) = ((l2[i] : Nat) : Int) := by simpa using this
      omega
    · intro k i _; rw [k]
  · refine (L2.rsame_len D E l1.length l2.length c d w hl).mono fun e w' h => ⟨?_, by rw [h.2]; exact Below.refl _ _⟩
    rw [h.1]
    congr 2
    rw [eq_comm, beq_eq_false_iff_ne]
    exact fun k => hl (by rw [k])
/-- The part i of the one is among the first parts of the other one. -/
def fndB (R R2 : Nat → Nat → Bool) (N i k : Nat) : Bool := (List.range k).any fun j => prt R N i == prt R2 N j
theorem fnd_succ (R R2 : Nat → Nat → Bool) (N i k : Nat) : fndB R R2 N i (k + 1) = (fndB R R2 N i k || (prt R N i == prt R2 N k)) := by
  unfold fndB
  rw [List.range_succ, List.any_append]
  simp
theorem fnd_back {R R2 : Nat → Nat → Bool} {N i : Nat} (h : ∀ a b, a < N → b < N → R2 a b = R b a) (hi : i < pno R N) : fndB R R2 N i (pno R N) = true := by
  unfold fndB
  rw [List.any_eq_true]
  have hf := pfi_lt (pno_ne (R := R) (N := N) hi)
  refine ⟨pix R2 N (pfi R N i), List.mem_range.2 ?_, ?_⟩
  · rw [← back_no h]; exact (pix_all hf).1
  · rw [back_prt h hi]; simp
/-- The threads of the shifted cloth. -/
def shT (W H : Nat) (dx dy : Int) (a : Nat) : Nat := if a < W then sh W dx a else W + sh H dy (a - W)
theorem ov_shift {W H : Nat} {dx dy : Int} {g : Nat → Bool} (hW : 1 ≤ W) (hH : 1 ≤ H) {a b : Nat} (ha : a < W + H) (hb : b < W + H) :
    ov W (fun i => g (ay W H (dy % H) i * W + ax W (dx % W) i)) a b = ov W g (shT W H dx dy a) (shT W H dx dy b) := by
  have hs : ∀ x y, x < W → g (ay W H (dy % H) (y * W + x) * W + ax W (dx % W) (y * W + x)) = g (sh H dy y * W + sh W dx x) := fun x y hx => at_shift (f := g) (dx := dx) (dy := dy) hx
  unfold shT
  by_cases h1 : a < W <;> by_cases h2 : b < W
  · rw [if_pos h1, if_pos h2, ov_ee h1 h2, ov_ee (sh_lt hW) (sh_lt hW)]
  · rw [if_pos h1, if_neg h2, ov_ep h1 h2, ov_ep (sh_lt hW) (by omega), hs _ _ h1]
    rw [Nat.add_sub_cancel_left]
  · rw [if_neg h1, if_pos h2, ov_pe h1 h2, ov_pe (by omega) (sh_lt hW), hs _ _ h2]
    rw [Nat.add_sub_cancel_left]
  · rw [if_neg h1, if_neg h2, ov_pp h1 h2, ov_pp (by omega) (by omega)]
theorem shift_no {W H : Nat} {dx dy : Int} {g : Nat → Bool} (hW : 1 ≤ W) (hH : 1 ≤ H) : pno (ov W (fun i => g (ay W H (dy % H) i * W + ax W (dx % W) i))) (W + H) = pno (ov W g) (W + H) := by
  have hlt : ∀ dx dy a, a < W + H → shT W H dx dy a < W + H := fun dx dy a ha => by
    unfold shT
    split
    · have := sh_lt (d := dx) (z := a) hW; omega
    · have := sh_lt (d := dy) (z := a - W) hH; omega
  have hback : ∀ dx dy a, a < W + H → shT W H (-dx) (-dy) (shT W H dx dy a) = a := fun dx dy a ha => by
    unfold shT
    by_cases h1 : a < W
    · rw [if_pos h1, if_pos (sh_lt hW), sh_back h1]
    · rw [if_neg h1, if_neg (by omega), Nat.add_sub_cancel_left, sh_back (by omega)]; omega
  have hback2 : ∀ a, a < W + H → shT W H dx dy (shT W H (-dx) (-dy) a) = a := fun a ha => by
    have := hback (-dx) (-dy) a ha
    rwa [Int.neg_neg, Int.neg_neg] at this
  refine (moved_no (shT W H dx dy) (shT W H (-dx) (-dy)) (fun a ha => hlt dx dy a ha) (fun a ha => hlt (-dx) (-dy) a ha) (hback dx dy) hback2 fun a b ha hb => ?_).symm
  exact (ov_shift hW hH ha hb).symm
end Go.Proofs.Ytgmcbdnfgdmmaaa

/- Sets as lists; Only of a set of numbers. -/
namespace Go.Proofs.Ytgmcbdnfgdmmaaa
open Go.RowKit
set_option maxRecDepth 100000
set_option linter.unusedVariables false
set_option linter.unusedSimpArgs false

/-- A set of numbers as a list. -/
def setL (m : Nat) (s : Nat → Int) : List Nat := (List.range m).map fun i => (s i).toNat
theorem setL_len (m : Nat) (s : Nat → Int) : (setL m s).length = m := by unfold setL; simp
theorem setL_at {N m : Nat} {s : Nat → Int} (h : setB N m s = true) {i : Nat} (hi : i < m) : lf (setL m s) i = s i := by
  obtain ⟨a, ha, e⟩ := setB_at h hi
  unfold lf setL
  rw [List.getD_eq_getElem?_getD, List.getElem?_map, List.getElem?_range hi]
  simp [e]
theorem setL_ll {N m : Nat} {s : Nat → Int} {w : World} {E : Option Addr} (h : setB N m s = true) (hs : L2.Holds w w.heap.size E m s) : LL w E (setL m s) := by
  intro h0
  rw [setL_len] at h0
  obtain ⟨b, o, e, h1, h2⟩ := hs h0
  refine ⟨b, o, e, h1, fun i hi => ?_⟩
  rw [setL_len] at hi
  rw [h2 i hi, setL_at h hi]
theorem setL_set {N m : Nat} {s : Nat → Int} (h : setB N m s = true) : setB N (setL m s).length (lf (setL m s)) = true := by
  rw [setL_len]
  have h' := h
  unfold setB at h ⊢
  rw [decide_eq_true_iff] at h ⊢
  intro i hi
  rw [setL_at h' hi]
  refine ⟨(h i hi).1, fun h0 => ?_⟩
  rw [setL_at h' (by omega)]
  exact (h i hi).2 h0
theorem setL_lt {N m : Nat} {s : Nat → Int} (h : setB N m s = true) : ∀ b, b ∈ setL m s → b < N := by
  intro b hb
  unfold setL at hb
  rw [List.mem_map] at hb
  obtain ⟨i, hi, e⟩ := hb
  rw [List.mem_range] at hi
  obtain ⟨a, ha, e2⟩ := setB_at h hi
  rw [e2, Int.toNat_natCast] at e
  omega
theorem lens (W : Nat) (l : List Nat) : (lEn W l).length + (lPi W l).length = l.length := by
  unfold lEn lPi
  rw [List.length_map]
  exact fil_len _ l
theorem onF_not (W : Nat) (g : Nat → Bool) (l1 l2 : List Nat) (k : Nat) : onF W (fun i => !g i) l1 l2 k = !onF W g l1 l2 k := rfl
theorem only_short (W H : Nat) (A : Option Addr) (c : Nat) (g : Nat → Bool) (E : Option Addr) (m d : Nat) (s : Nat → Int) (w : World) (hg : Holds w w.heap.size A (W * H) g) (hW0 : 1 ≤ W) (hW : W ≤ 64) (hH0 : 1 ≤ H) (hH : H ≤ 64) (hr : L2.Holds w w.heap.size E m s) (hs : setB (W + H) m s = true)
    (h0 : (lEn W (setL m s)).length = 0 ∨ (lPi W (setL m s)).length = 0) :
    Calls Try.prog 64 #[.agg #[.int .i64 (W : Nat), .int .i64 (H : Nat), .slice A (W * H) c], .slice E m d] w (ErrGrid w 22) := by
  have hm := setB_len hs
  have h9 := ponly_short W H A c g (setL m s) E d w hg hW0 hW hH0 hH (by rw [setL_len]; omega) (setL_ll hs hr) (fun b hb => by have := setL_lt hs b hb; omega) (setL_set hs) h0
  rwa [setL_len] at h9
theorem only_ok (W H : Nat) (A : Option Addr) (c : Nat) (g : Nat → Bool) (E : Option Addr) (m d : Nat) (s : Nat → Int) (w : World) (hg : Holds w w.heap.size A (W * H) g) (hW0 : 1 ≤ W) (hW : W ≤ 64) (hH0 : 1 ≤ H) (hH : H ≤ 64) (hr : L2.Holds w w.heap.size E m s) (hs : setB (W + H) m s = true)
    (h1 : 0 < (lEn W (setL m s)).length) (h2 : 0 < (lPi W (setL m s)).length) :
    Calls Try.prog 64 #[.agg #[.int .i64 (W : Nat), .int .i64 (H : Nat), .slice A (W * H) c], .slice E m d] w (OkG w (lEn W (setL m s)).length (lPi W (setL m s)).length (onF W g (lEn W (setL m s)) (lPi W (setL m s)))) := by
  have hm := setB_len hs
  have h9 := ponly_n W H A c g (setL m s) E d w hg hW0 hW hH0 hH (by rw [setL_len]; omega) (setL_ll hs hr) (fun b hb => by have := setL_lt hs b hb; omega) (setL_lt hs) (setL_set hs) h1 h2
  rwa [setL_len] at h9
end Go.Proofs.Ytgmcbdnfgdmmaaa

/- Arithmetic of LayersHang: a part alone hangs together. -/
namespace Go.Proofs.Ytgmcbdnfgdmmaaa
open Go.RowKit
set_option maxRecDepth 100000
set_option linter.unusedVariables false
set_option linter.unusedSimpArgs false

theorem mono_split {W : Nat} : ∀ {l : List Nat}, l.Pairwise (· < ·) → (l.filter fun t => decide (t < W)) ++ (l.filter fun t => !decide (t < W)) = l
  | [], _ => rfl
  | a :: l, h => by
    have h1 := List.pairwise_cons.1 h
    by_cases ha : a < W
    · rw [List.filter_cons_of_pos (by simpa using ha), List.filter_cons_of_neg (by simpa using ha), List.cons_append, mono_split h1.2]
    · have e : ∀ b, b ∈ a :: l → ¬ b < W := fun b hb => by
        rcases List.mem_cons.1 hb with rfl | hb
        · exact ha
        · have := h1.1 b hb; omega
      rw [List.filter_eq_nil_iff.2 (fun b hb => by simpa using e b hb), List.filter_eq_self.2 (fun b hb => by simpa using e b hb), List.nil_append]
theorem ofl_mon (P : Nat → Bool) (N : Nat) : (ofl P N).Pairwise (· < ·) := by
  unfold ofl
  exact List.Pairwise.filter _ List.pairwise_lt_range
theorem spl_e {W : Nat} {l : List Nat} (h : l.Pairwise (· < ·)) {k : Nat} (hk : k < (lEn W l).length) : l.getD k 0 = (lEn W l).getD k 0 := by
  unfold lEn at hk ⊢
  have e := mono_split (W := W) h
  have : l[k]? = (l.filter fun t => decide (t < W))[k]? := by
    conv => lhs; rw [← e]
    exact List.getElem?_append_left hk
  rw [List.getD_eq_getElem?_getD, List.getD_eq_getElem?_getD, this]
theorem spl_p {W : Nat} {l : List Nat} (h : l.Pairwise (· < ·)) {k : Nat} (hk : k < (lPi W l).length) : l.getD ((lEn W l).length + k) 0 = (lPi W l).getD k 0 + W := by
  unfold lPi at hk ⊢
  unfold lEn
  rw [List.length_map] at hk
  have e := mono_split (W := W) h
  have h1 : l[(l.filter fun t => decide (t < W)).length + k]? = (l.filter fun t => !decide (t < W))[k]? := by
    conv => lhs; arg 1; rw [← e]
    rw [List.getElem?_append_right (by omega), Nat.add_sub_cancel_left]
  rw [List.getD_eq_getElem?_getD, List.getD_eq_getElem?_getD, h1, List.getElem?_map, List.getElem?_eq_getElem hk]
  have hm := List.getElem_mem hk
  rw [List.mem_filter] at hm
  have hm2 : ¬ (l.filter fun t => !decide (t < W))[k] < W := by simpa using hm.2
  show (l.filter fun t => !decide (t < W))[k] = (l.filter fun t => !decide (t < W))[k] - W + W
  omega
theorem prt_mon {R : Nat → Nat → Bool} {N i : Nat} (hi : i < pno R N) : (prt R N i).Pairwise (· < ·) := by rw [prt_eq (pno_ne hi)]; exact ofl_mon _ _
section
variable {W H N i : Nat} {g : Nat → Bool}
theorem prt_get {R : Nat → Nat → Bool} (hi : i < pno R N) {k : Nat} (hk : k < (prt R N i).length) : (prt R N i).getD k 0 < N ∧ cls R N (pfi R N i) ((prt R N i).getD k 0) = true := by
  rw [prt_eq (pno_ne hi)] at hk ⊢
  exact ofl_get hk
theorem prt_ix {R : Nat → Nat → Bool} (hi : i < pno R N) {a : Nat} (ha : a < N) (h : cls R N (pfi R N i) a = true) : ∃ k, k < (prt R N i).length ∧ (prt R N i).getD k 0 = a := by
  rw [prt_eq (pno_ne hi)]
  exact ofl_ix ha h
theorem prt_up {R : Nat → Nat → Bool} (hi : i < pno R N) {j k : Nat} (h : j < k) (hk : k < (prt R N i).length) : (prt R N i).getD j 0 < (prt R N i).getD k 0 := by
  rw [prt_eq (pno_ne hi)] at hk ⊢
  exact ofl_lt h hk
theorem big_both (hi : i < pno (ov W g) N) (hb : 1 < (prt (ov W g) N i).length) : 0 < (lEn W (prt (ov W g) N i)).length ∧ 0 < (lPi W (prt (ov W g) N i)).length := by
  have h0 := prt_get hi (k := 0) (by omega)
  have h1 := prt_get hi (k := 1) hb
  have hlt := prt_up hi (j := 0) (k := 1) (by omega) hb
  have hf := pfi_lt (pno_ne hi)
  obtain ⟨c, hc, hcl, hR⟩ := prt_two h0.1 (b := (prt (ov W g) N i).getD 1 0) (by omega) (cls_trans h0.1 (cls_symm h0.2) h1.2)
  have hb' := (mem_prt hi).2 h1
  have hc' := (mem_prt hi).2 ⟨hc, cls_trans hf h0.2 hcl⟩
  generalize (prt (ov W g) N i).getD 1 0 = b at *
  have key : ∀ x y, x ∈ prt (ov W g) N i → y ∈ prt (ov W g) N i → x < W → ¬ y < W → 0 < (lEn W (prt (ov W g) N i)).length ∧ 0 < (lPi W (prt (ov W g) N i)).length := fun x y hx hy h2 h3 => by
    constructor
    · unfold lEn
      exact List.length_pos_of_mem (List.mem_filter.2 ⟨hx, by simpa using h2⟩)
    · unfold lPi
      rw [List.length_map]
      exact List.length_pos_of_mem (List.mem_filter.2 ⟨hy, by simpa using h3⟩)
  by_cases h2 : b < W <;> by_cases h3 : c < W
  · rw [ov_ee h2 h3] at hR; cases hR
  · exact key b c hb' hc' h2 h3
  · exact key c b hc' hb' h3 h2
  · rw [ov_pp h2 h3] at hR; cases hR
theorem big_hangs (hi : i < pno (ov W g) N) (hb : 1 < (prt (ov W g) N i).length) : hgs (ov (lEn W (prt (ov W g) N i)).length (onF W g (lEn W (prt (ov W g) N i)) (lPi W (prt (ov W g) N i)))) ((lEn W (prt (ov W g) N i)).length + (lPi W (prt (ov W g) N i)).length) = true := by
  have hbo := big_both hi hb
  have hf := pfi_lt (pno_ne hi)
  have hs := lens W (prt (ov W g) N i)
  have hE : ∀ k, k < (lEn W (prt (ov W g) N i)).length → (prt (ov W g) N i).getD k 0 = (lEn W (prt (ov W g) N i)).getD k 0 := fun k hk => spl_e (prt_mon hi) hk
  have hP : ∀ k, k < (lPi W (prt (ov W g) N i)).length → (prt (ov W g) N i).getD ((lEn W (prt (ov W g) N i)).length + k) 0 = (lPi W (prt (ov W g) N i)).getD k 0 + W := fun k hk => spl_p (prt_mon hi) hk
  have hW : ∀ k, k < (lEn W (prt (ov W g) N i)).length → (lEn W (prt (ov W g) N i)).getD k 0 < W := fun k hk => lEn_lt hk
  have hget : ∀ k, k < (prt (ov W g) N i).length → (prt (ov W g) N i).getD k 0 < N ∧ cls (ov W g) N (pfi (ov W g) N i) ((prt (ov W g) N i).getD k 0) = true := fun k hk => prt_get hi hk
  have hix : ∀ a, a < N → cls (ov W g) N (pfi (ov W g) N i) a = true → ∃ k, k < (prt (ov W g) N i).length ∧ (prt (ov W g) N i).getD k 0 = a := fun a ha h => prt_ix hi ha h
  have hup : ∀ j k, j < k → k < (prt (ov W g) N i).length → (prt (ov W g) N i).getD j 0 < (prt (ov W g) N i).getD k 0 := fun j k h hk => prt_up hi h hk
  generalize pfi (ov W g) N i = fi at *
  generalize prt (ov W g) N i = l at *
  unfold onF
  generalize lEn W l = l1 at *
  generalize lPi W l = l2 at *
  rw [hgs_iff (by omega)]
  intro t a ht ha
  have hov : ∀ x y, x < l1.length → y < l2.length → (y * l1.length + x) / l1.length = y ∧ (y * l1.length + x) % l1.length = x := fun x y hx _ => by
    constructor
    · rw [Nat.mul_comm, Nat.mul_add_div (by omega), Nat.div_eq_of_lt hx, Nat.add_zero]
    · rw [Nat.mul_comm, Nat.mul_add_mod, Nat.mod_eq_of_lt hx]
  refine sub_up (R := ov W g) (N := N) (σ := fun k => l.getD k 0) (fun k hk => (hget k (by omega)).1) (fun j k hj hk => cls_trans (hget j (by omega)).1 (cls_symm (hget j (by omega)).2) (hget k (by omega)).2)
    (fun j x hj hx hc => ?_) (fun j k hj hk => ?_) (fun j k hj hk e => ?_) ht ha
  · obtain ⟨k, hk, e⟩ := hix x hx (cls_trans hf (hget j (by omega)).2 hc)
    exact ⟨k, by omega, e⟩
  · have hP' : ∀ k, ¬ k < l1.length → k < l1.length + l2.length → l.getD k 0 = l2.getD (k - l1.length) 0 + W := fun k h1 h2 => by
      have := hP (k - l1.length) (by omega)
      rwa [show l1.length + (k - l1.length) = k by omega] at this
    show ov _ _ j k = ov W g (l.getD j 0) (l.getD k 0)
    by_cases h1 : j < l1.length <;> by_cases h2 : k < l1.length
    · rw [ov_ee h1 h2, hE j h1, hE k h2, ov_ee (hW j h1) (hW k h2)]
    · rw [ov_ep h1 h2, hE j h1, hP' k h2 hk, ov_ep (hW j h1) (by omega), Nat.add_sub_cancel, (hov j (k - l1.length) h1 (by omega)).1, (hov j (k - l1.length) h1 (by omega)).2]
    · rw [ov_pe h1 h2, hP' j h1 hj, hE k h2, ov_pe (by omega) (hW k h2), Nat.add_sub_cancel, (hov k (j - l1.length) h2 (by omega)).1, (hov k (j - l1.length) h2 (by omega)).2]
    · rw [ov_pp h1 h2, hP' j h1 hj, hP' k h2 hk, ov_pp (by omega) (by omega)]
  · have e' : l.getD j 0 = l.getD k 0 := e
    rcases Nat.lt_trichotomy j k with h | h | h
    · have := hup j k h (by omega); omega
    · exact h
    · have := hup k j h (by omega); omega
end
theorem ofl_at {B : Nat → Bool} : ∀ {n i : Nat}, i < n → B i = true → (ofl B n).getD (ofl B i).length 0 = i ∧ (ofl B i).length < (ofl B n).length
  | 0, i, h, _ => absurd h (by omega)
  | n + 1, i, h, hB => by
    by_cases e : i = n
    · subst e
      rw [ofl_yes hB, List.getD_eq_getElem?_getD, List.getElem?_append_right (Nat.le_refl _), List.length_append]
      simp
    · obtain ⟨h1, h2⟩ := ofl_at (B := B) (n := n) (i := i) (by omega) hB
      cases hb : B n
      · rw [ofl_no hb]; exact ⟨h1, h2⟩
      · rw [ofl_yes hb, List.length_append, List.getD_eq_getElem?_getD, List.getElem?_append_left h2, ← List.getD_eq_getElem?_getD]
        exact ⟨h1, by omega⟩
theorem lix_at {R : Nat → Nat → Bool} {N i : Nat} (hi : i < pno R N) (hb : 1 < (prt R N i).length) : (lix R N).getD (ofl (bigP R N) i).length 0 = i ∧ (ofl (bigP R N) i).length < (lix R N).length := ofl_at hi (by unfold bigP; simpa using hb)
theorem ofl_big {R : Nat → Nat → Bool} {N i : Nat} (hb : 1 < (prt R N i).length) : (ofl (bigP R N) (i + 1)).length = (ofl (bigP R N) i).length + 1 := by
  rw [ofl_yes (by unfold bigP; simpa using hb), List.length_append]; rfl
theorem ofl_small {R : Nat → Nat → Bool} {N i : Nat} (hb : ¬ 1 < (prt R N i).length) : (ofl (bigP R N) (i + 1)).length = (ofl (bigP R N) i).length := by
  rw [ofl_no (by unfold bigP; simpa using hb)]
/-- The first set that comes off was met among the first parts. -/
def fdB (R : Nat → Nat → Bool) (N i : Nat) : Bool := ((apL R N).length == 0) || (List.range i).any fun j => prt R N j == apL R N
theorem fd_succ (R : Nat → Nat → Bool) (N i : Nat) : fdB R N (i + 1) = (fdB R N i || (prt R N i == apL R N)) := by
  unfold fdB
  rw [List.range_succ, List.any_append, Bool.or_assoc]
  simp
theorem fd_zero (R : Nat → Nat → Bool) (N : Nat) : (((apL R N).length : Int) == 0) = fdB R N 0 := by
  unfold fdB
  simp
  rw [Bool.eq_iff_iff]
  simp
theorem fd_end {R : Nat → Nat → Bool} {N : Nat} (h : 0 < N) : fdB R N (pno R N) = true := by
  unfold fdB
  by_cases hh : hgs R N = true
  · have : (apL R N).length = 0 := by unfold apL; rw [if_pos hh]; rfl
    rw [this]; rfl
  · have e : apL R N = prt R N (pix R N (t0 R N)) := by unfold apL; rw [if_neg hh]; exact t0_part h
    rw [Bool.or_eq_true]
    right
    rw [List.any_eq_true]
    exact ⟨pix R N (t0 R N), List.mem_range.2 (pix_all (t0_lt h)).1, by rw [e]; simp⟩
end Go.Proofs.Ytgmcbdnfgdmmaaa
