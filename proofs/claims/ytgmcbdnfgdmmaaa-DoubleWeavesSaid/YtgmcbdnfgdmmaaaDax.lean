/- Merged: Dba Dbd Dbc Dft. -/
import Derived.Test.YtgmcbdnfgdmmaaaLgx
import Derived.Test.YtgmcbdnfgdmmaaaLon
import Derived.Test.YtgmcbdnfgdmmaaaGc
import Derived.Deep.RegionHeld3

/- A double cloth: arithmetic. -/
namespace Go.Proofs.Ytgmcbdnfgdmmaaa
open Go.RowKit
set_option maxRecDepth 100000
set_option linter.unusedVariables false
set_option linter.unusedSimpArgs false

/-- The cell (x, y) of a double cloth. -/
def dxy (W : Nat) (a b m : Nat → Bool) (x y : Nat) : Bool :=
  if x % 2 = 0 then (if y % 2 = 0 then a (y / 2 * W + x / 2) else m (y / 2 * W + x / 2)) else (if y % 2 = 0 then !m (y / 2 * W + x / 2) else b (y / 2 * W + x / 2))
/-- The double cloth. -/
def dbl (W : Nat) (a b m : Nat → Bool) (i : Nat) : Bool := dxy W a b m (i % (2 * W)) (i / (2 * W))
theorem dbl_at {W : Nat} {a b m : Nat → Bool} {x y : Nat} (hx : x < 2 * W) : dbl W a b m (y * (2 * W) + x) = dxy W a b m x y := by
  unfold dbl
  rw [Nat.mul_comm y, Nat.mul_add_mod, Nat.mod_eq_of_lt hx, Nat.mul_add_div (by omega), Nat.div_eq_of_lt hx, Nat.add_zero]
theorem dxy_00 {W : Nat} {a b m : Nat → Bool} (x y : Nat) : dxy W a b m (2 * x) (2 * y) = a (y * W + x) := by
  unfold dxy; rw [if_pos (by omega), if_pos (by omega), show 2 * y / 2 = y by omega, show 2 * x / 2 = x by omega]
theorem dxy_11 {W : Nat} {a b m : Nat → Bool} (x y : Nat) : dxy W a b m (2 * x + 1) (2 * y + 1) = b (y * W + x) := by
  unfold dxy; rw [if_neg (by omega), if_neg (by omega), show (2 * y + 1) / 2 = y by omega, show (2 * x + 1) / 2 = x by omega]
theorem dxy_01 {W : Nat} {a b m : Nat → Bool} (x y : Nat) : dxy W a b m (2 * x) (2 * y + 1) = m (y * W + x) := by
  unfold dxy; rw [if_pos (by omega), if_neg (by omega), show (2 * y + 1) / 2 = y by omega, show 2 * x / 2 = x by omega]
theorem dxy_10 {W : Nat} {a b m : Nat → Bool} (x y : Nat) : dxy W a b m (2 * x + 1) (2 * y) = !m (y * W + x) := by
  unfold dxy; rw [if_neg (by omega), if_pos (by omega), show 2 * y / 2 = y by omega, show (2 * x + 1) / 2 = x by omega]

/-- Dbl2 threads of different kinds. -/
def opp (W t u : Nat) : Bool := decide (t < W) != decide (u < W)
/-- The motif's cell of two threads. -/
def mcl (W : Nat) (m : Nat → Bool) (t u : Nat) : Bool := if t < W then m ((u - W) * W + t) else m ((t - W) * W + u)
section
variable {W t u : Nat} {a b m : Nat → Bool}
theorem dv_ee : ov (2 * W) (dbl W a b m) (2 * t) (2 * u) = ov W a t u := by
  unfold ov
  by_cases ht : t < W
  · rw [if_pos (show 2 * t < 2 * W by omega), if_pos ht]
    by_cases hu : u < W
    · rw [if_pos (show 2 * u < 2 * W by omega), if_pos hu]
    · rw [if_neg (show ¬ 2 * u < 2 * W by omega), if_neg hu, dbl_at (by omega), show 2 * u - 2 * W = 2 * (u - W) by omega, dxy_00]
  · rw [if_neg (show ¬ 2 * t < 2 * W by omega), if_neg ht]
    by_cases hu : u < W
    · rw [if_pos (show 2 * u < 2 * W by omega), if_pos hu, dbl_at (by omega), show 2 * t - 2 * W = 2 * (t - W) by omega, dxy_00]
    · rw [if_neg (show ¬ 2 * u < 2 * W by omega), if_neg hu]
theorem dv_oo : ov (2 * W) (dbl W a b m) (2 * t + 1) (2 * u + 1) = ov W b t u := by
  unfold ov
  by_cases ht : t < W
  · rw [if_pos (show 2 * t + 1 < 2 * W by omega), if_pos ht]
    by_cases hu : u < W
    · rw [if_pos (show 2 * u + 1 < 2 * W by omega), if_pos hu]
    · rw [if_neg (show ¬ 2 * u + 1 < 2 * W by omega), if_neg hu, dbl_at (by omega), show 2 * u + 1 - 2 * W = 2 * (u - W) + 1 by omega, dxy_11]
  · rw [if_neg (show ¬ 2 * t + 1 < 2 * W by omega), if_neg ht]
    by_cases hu : u < W
    · rw [if_pos (show 2 * u + 1 < 2 * W by omega), if_pos hu, dbl_at (by omega), show 2 * t + 1 - 2 * W = 2 * (t - W) + 1 by omega, dxy_11]
    · rw [if_neg (show ¬ 2 * u + 1 < 2 * W by omega), if_neg hu]
theorem dv_eo : ov (2 * W) (dbl W a b m) (2 * t) (2 * u + 1) = (opp W t u && mcl W m t u) := by
  unfold ov opp mcl
  by_cases ht : t < W
  · rw [if_pos (show 2 * t < 2 * W by omega), if_pos ht, decide_eq_true ht]
    by_cases hu : u < W
    · rw [if_pos (show 2 * u + 1 < 2 * W by omega), decide_eq_true hu]; rfl
    · rw [if_neg (show ¬ 2 * u + 1 < 2 * W by omega), decide_eq_false hu, dbl_at (by omega), show 2 * u + 1 - 2 * W = 2 * (u - W) + 1 by omega, dxy_01]; rfl
  · rw [if_neg (show ¬ 2 * t < 2 * W by omega), if_neg ht, decide_eq_false ht]
    by_cases hu : u < W
    · rw [if_pos (show 2 * u + 1 < 2 * W by omega), decide_eq_true hu, dbl_at (by omega), show 2 * t - 2 * W = 2 * (t - W) by omega, dxy_10, Bool.not_not]; rfl
    · rw [if_neg (show ¬ 2 * u + 1 < 2 * W by omega), decide_eq_false hu]; rfl
theorem dv_oe : ov (2 * W) (dbl W a b m) (2 * u + 1) (2 * t) = (opp W t u && !mcl W m t u) := by
  unfold ov opp mcl
  by_cases hu : u < W
  · rw [if_pos (show 2 * u + 1 < 2 * W by omega), decide_eq_true hu]
    by_cases ht : t < W
    · rw [if_pos (show 2 * t < 2 * W by omega), decide_eq_true ht]; rfl
    · rw [if_neg (show ¬ 2 * t < 2 * W by omega), if_neg ht, decide_eq_false ht, dbl_at (by omega), show 2 * t - 2 * W = 2 * (t - W) by omega, dxy_10]; rfl
  · rw [if_neg (show ¬ 2 * u + 1 < 2 * W by omega), decide_eq_false hu]
    by_cases ht : t < W
    · rw [if_pos (show 2 * t < 2 * W by omega), if_pos ht, decide_eq_true ht, dbl_at (by omega), show 2 * u + 1 - 2 * W = 2 * (u - W) + 1 by omega, dxy_01]; rfl
    · rw [if_neg (show ¬ 2 * t < 2 * W by omega), decide_eq_false ht]; rfl
end

section
variable {A B R : Nat → Nat → Bool} {N : Nat}
theorem up_two {s : Nat} (hs : s < 2) (h : ∀ t u, t < N → u < N → A t u = true → R (2 * t + s) (2 * u + s) = true) {t u : Nat} (ht : t < N) (hu : up A N t u = true) : up R (2 * N) (2 * t + s) (2 * u + s) = true :=
  (up_least ht (fun x => x < N ∧ up R (2 * N) (2 * t + s) (2 * x + s) = true) ⟨ht, up_self (by omega)⟩ (fun c x hc hx hR => ⟨hx, up_closed (by omega) hc.2 (by omega) (h x c hx hc.1 hR)⟩) hu).2
theorem up_par (h0 : 0 < N) (hA : hgs A N = true) (hB : hgs B N = true) (h1 : ∀ t u, t < N → u < N → A t u = true → R (2 * t) (2 * u) = true) (h2 : ∀ t u, t < N → u < N → B t u = true → R (2 * t + 1) (2 * u + 1) = true)
    (x y : Nat) (hx : x < 2 * N) (hy : y < 2 * N) (hxy : x % 2 = y % 2) : up R (2 * N) x y = true := by
  rcases Nat.mod_two_eq_zero_or_one x with e | e
  · have := up_two (A := A) (R := R) (N := N) (s := 0) (by omega) h1 (t := x / 2) (u := y / 2) (by omega) ((hgs_iff h0).1 hA _ _ (by omega) (by omega))
    rwa [show 2 * (x / 2) + 0 = x by omega, show 2 * (y / 2) + 0 = y by omega] at this
  · have := up_two (A := B) (R := R) (N := N) (s := 1) (by omega) h2 (t := x / 2) (u := y / 2) (by omega) ((hgs_iff h0).1 hB _ _ (by omega) (by omega))
    rwa [show 2 * (x / 2) + 1 = x by omega, show 2 * (y / 2) + 1 = y by omega] at this
theorem dbl_hgs (h0 : 0 < N) (hup : ∀ x y, x < 2 * N → y < 2 * N → x % 2 = y % 2 → up R (2 * N) x y = true) {t u t' u' : Nat} (ht : t < N) (hu : u < N) (ht' : t' < N) (hu' : u' < N)
    (e1 : R (2 * t) (2 * u + 1) = true) (e2 : R (2 * u' + 1) (2 * t') = true) : hgs R (2 * N) = true := by
  rw [hgs_iff (by omega)]
  intro x y hx hy
  by_cases h : x % 2 = y % 2
  · exact hup x y hx hy h
  · rcases Nat.mod_two_eq_zero_or_one x with e | e
    · exact up_trans hx (up_closed hx (hup x (2 * t') hx (by omega) (by omega)) (by omega) e2) (hup (2 * u' + 1) y (by omega) hy (by omega))
    · exact up_trans hx (up_closed hx (hup x (2 * u + 1) hx (by omega) (by omega)) (by omega) e1) (hup (2 * t) y (by omega) hy (by omega))
/-- Of two cloths one lies over the other one. -/
structure Dbl2 (R : Nat → Nat → Bool) (N s : Nat) : Prop where
  n0 : 0 < N
  s2 : s < 2
  par : ∀ x y, x < 2 * N → y < 2 * N → x % 2 = y % 2 → up R (2 * N) x y = true
  top : ∀ c x, c < 2 * N → x < 2 * N → c % 2 = s → R x c = true → x % 2 = s
  low : ∃ c x, c < 2 * N ∧ x < 2 * N ∧ c % 2 ≠ s ∧ x % 2 = s ∧ R x c = true
variable {s : Nat}
theorem Dbl2.up_top (h : Dbl2 R N s) {x y : Nat} (hx : x < 2 * N) (hs : x % 2 = s) (hu : up R (2 * N) x y = true) : y % 2 = s :=
  (up_least hx (fun y => y < 2 * N ∧ y % 2 = s) ⟨hx, hs⟩ (fun c a hc ha hR => ⟨ha, h.top c a hc.1 ha hc.2 hR⟩) hu).2
theorem Dbl2.up_low (h : Dbl2 R N s) {x y : Nat} (hx : x < 2 * N) (hy : y < 2 * N) (hs : x % 2 ≠ s) : up R (2 * N) x y = true := by
  have hs2 := h.s2
  obtain ⟨c, a, hc, ha, c1, a1, hR⟩ := h.low
  by_cases e : x % 2 = y % 2
  · exact h.par x y hx hy e
  · exact up_trans hx (up_closed hx (h.par x c hx hc (by omega)) ha hR) (h.par a y ha hy (by omega))
theorem Dbl2.cls (h : Dbl2 R N s) {x y : Nat} (hx : x < 2 * N) (hy : y < 2 * N) : cls R (2 * N) x y = decide (x % 2 = y % 2) := by
  have hs2 := h.s2
  by_cases e : x % 2 = y % 2
  · rw [decide_eq_true e, cls_iff]; exact ⟨h.par x y hx hy e, h.par y x hy hx e.symm⟩
  · rw [decide_eq_false e]
    cases hc : Go.Proofs.Ytgmcbdnfgdmmaaa.cls R (2 * N) x y
    · rfl
    · have := cls_iff.1 hc
      by_cases e1 : x % 2 = s
      · have := h.up_top hx e1 this.1; omega
      · have := h.up_top hy (show y % 2 = s by omega) this.2; omega
theorem Dbl2.hgs (h : Dbl2 R N s) : hgs R (2 * N) = false := by
  have hs2 := h.s2; have h0 := h.n0
  cases hc : Go.Proofs.Ytgmcbdnfgdmmaaa.hgs R (2 * N)
  · rfl
  · rw [hgs_iff (by omega)] at hc
    have := h.up_top (x := s) (y := 1 - s) (by omega) (by omega) (hc _ _ (by omega) (by omega)); omega
theorem Dbl2.ne0 (h : Dbl2 R N s) : lef R (2 * N) 0 ≠ [] := by
  have h0 := h.n0
  show List.range (2 * N) ≠ []
  intro e; have := congrArg List.length e; rw [List.length_range, List.length_nil] at this; omega
theorem Dbl2.pfi0 (h : Dbl2 R N s) : pfi R (2 * N) 0 = s := by
  have hs2 := h.s2; have h0 := h.n0
  have hg : ∀ i, i < 2 * N → (List.range (2 * N)).getD i 0 = i := fun i hi => by
    rw [List.getD_eq_getElem?_getD, List.getElem?_range hi]; rfl
  show lhd R (2 * N) (List.range (2 * N)) = s
  have := lhd_at (R := R) (N := 2 * N) (i := s) (l := List.range (2 * N)) (by rw [List.length_range]; omega) (by
    rw [hg s (by omega), fre_iff]
    intro b hb hu
    have hb' := List.mem_range.1 hb
    exact h.par b s hb' (by omega) (by have := h.up_top (by omega) (by omega) hu; omega)) (fun j hj => by
    rw [hg j (by omega)]
    cases hc : fre R (2 * N) (List.range (2 * N)) j
    · rfl
    · rw [fre_iff] at hc
      have := hc s (List.mem_range.2 (by omega)) (h.up_low (by omega) (by omega) (by omega))
      have := h.up_top (by omega) (by omega) this
      omega)
  rw [this, hg s (by omega)]
theorem Dbl2.lef1 (h : Dbl2 R N s) : lef R (2 * N) 1 = ofl (fun x => decide (x % 2 = 1 - s)) (2 * N) := by
  have hs2 := h.s2; have h0 := h.n0
  rw [lef_eq]
  refine ofl_congr fun x hx => ?_
  rw [out_succ, out_zero, h.pfi0, h.cls (by omega) hx]
  by_cases e : s % 2 = x % 2
  · rw [decide_eq_true e, decide_eq_false (by omega)]; rfl
  · rw [decide_eq_false e, decide_eq_true (by omega)]; rfl
theorem Dbl2.ne1 (h : Dbl2 R N s) : lef R (2 * N) 1 ≠ [] := by
  have hs2 := h.s2; have h0 := h.n0
  intro e
  have : 1 - s ∈ lef R (2 * N) 1 := by rw [h.lef1, ofl_mem]; exact ⟨by omega, decide_eq_true (by omega)⟩
  rw [e] at this; cases this
theorem Dbl2.pfi1 (h : Dbl2 R N s) : pfi R (2 * N) 1 = 1 - s := by
  have hs2 := h.s2; have h0 := h.n0
  have hh := ofl_head (A := fun x => decide (x % 2 = 1 - s)) (k := 2 * N) (i := 1 - s) (by omega) (decide_eq_true (by omega)) (fun j hj => decide_eq_false (by omega))
  have hd : (lef R (2 * N) 1).getD 0 0 = 1 - s := by rw [h.lef1, List.getD_eq_getElem?_getD, hh]; rfl
  have := lhd_at (R := R) (N := 2 * N) (i := 0) (l := lef R (2 * N) 1) (List.length_pos_iff.2 h.ne1) (by
    rw [hd, fre_iff]
    intro b hb hu
    rw [h.lef1, ofl_mem] at hb
    have hb2 : b % 2 = 1 - s := of_decide_eq_true hb.2
    exact h.par b (1 - s) hb.1 (by omega) (by omega)) (fun j hj => by omega)
  show lhd R (2 * N) (lef R (2 * N) 1) = 1 - s
  rw [this, hd]
theorem Dbl2.pno (h : Dbl2 R N s) : pno R (2 * N) = 2 := by
  have hs2 := h.s2
  refine pno_is ?_ ?_
  · rw [lef_eq]
    unfold ofl
    rw [List.filter_eq_nil_iff]
    intro x hx
    have hx' := List.mem_range.1 hx
    rw [out_succ, out_succ, out_zero, h.pfi0, h.pfi1, h.cls (by omega) hx', h.cls (by omega) hx']
    by_cases e : s % 2 = x % 2
    · rw [decide_eq_true e]; simp
    · rw [decide_eq_true (show (1 - s) % 2 = x % 2 by omega)]; simp
  · intro i hi
    rcases (show i = 0 ∨ i = 1 by omega) with rfl | rfl
    · exact h.ne0
    · exact h.ne1
theorem Dbl2.prt0 (h : Dbl2 R N s) : prt R (2 * N) 0 = ofl (fun x => decide (x % 2 = s)) (2 * N) := by
  have hs2 := h.s2; have h0 := h.n0
  rw [prt_eq h.ne0]
  refine ofl_congr fun x hx => ?_
  rw [h.pfi0, h.cls (by omega) hx]
  by_cases e : s % 2 = x % 2
  · rw [decide_eq_true e, decide_eq_true (by omega)]
  · rw [decide_eq_false e, decide_eq_false (by omega)]
theorem Dbl2.prt1 (h : Dbl2 R N s) : prt R (2 * N) 1 = ofl (fun x => decide (x % 2 = 1 - s)) (2 * N) := by
  have hs2 := h.s2; have h0 := h.n0
  rw [prt_eq h.ne1]
  refine ofl_congr fun x hx => ?_
  rw [h.pfi1, h.cls (by omega) hx]
  by_cases e : (1 - s) % 2 = x % 2
  · rw [decide_eq_true e, decide_eq_true (by omega)]
  · rw [decide_eq_false e, decide_eq_false (by omega)]
end

/-- The numbers below 2 n that are even, or odd. -/
def evl (n s : Nat) : List Nat := (List.range n).map fun i => 2 * i + s
theorem evl_len (n s : Nat) : (evl n s).length = n := by unfold evl; simp
theorem evl_get {n s i : Nat} (h : i < n) : (evl n s).getD i 0 = 2 * i + s := by
  unfold evl; rw [List.getD_eq_getElem?_getD, List.getElem?_map, List.getElem?_range h]; rfl
theorem evl_succ (n s : Nat) : evl (n + 1) s = evl n s ++ [2 * n + s] := by unfold evl; rw [List.range_succ, List.map_append]; rfl
theorem evl_mem {n s x : Nat} (h : x ∈ evl n s) : ∃ i, i < n ∧ x = 2 * i + s := by
  unfold evl at h; obtain ⟨i, hi, e⟩ := List.mem_map.1 h; exact ⟨i, List.mem_range.1 hi, e.symm⟩
theorem ofl_evl {s : Nat} (hs : s < 2) : ∀ n, ofl (fun x => decide (x % 2 = s)) (2 * n) = evl n s
  | 0 => rfl
  | n + 1 => by
    rw [show 2 * (n + 1) = 2 * n + 1 + 1 by omega, evl_succ, ← ofl_evl hs n]
    rcases (show s = 0 ∨ s = 1 by omega) with rfl | rfl
    · rw [ofl_no (decide_eq_false (by omega)), ofl_yes (decide_eq_true (by omega))]; rfl
    · rw [ofl_yes (decide_eq_true (by omega)), ofl_no (decide_eq_false (by omega))]
theorem evl_app (W H s : Nat) : evl (W + H) s = evl W s ++ (evl H s).map (fun x => x + 2 * W) := by
  unfold evl
  rw [List.range_add, List.map_append, List.map_map, List.map_map]
  congr 1
  refine List.map_congr_left fun i _ => ?_
  show 2 * (W + i) + s = 2 * i + s + 2 * W
  omega
theorem lEn_evl (W H : Nat) {s : Nat} (hs : s < 2) : lEn (2 * W) (evl (W + H) s) = evl W s := by
  unfold lEn
  rw [evl_app, List.filter_append, List.filter_eq_self.2 (fun x hx => by obtain ⟨i, hi, rfl⟩ := evl_mem hx; exact decide_eq_true (by omega)), List.filter_eq_nil_iff.2 (fun x hx => by
    obtain ⟨y, hy, rfl⟩ := List.mem_map.1 hx; simp), List.append_nil]
theorem lPi_evl (W H : Nat) {s : Nat} (hs : s < 2) : lPi (2 * W) (evl (W + H) s) = evl H s := by
  unfold lPi
  rw [evl_app, List.filter_append, List.filter_eq_nil_iff.2 (fun x hx => by obtain ⟨i, hi, rfl⟩ := evl_mem hx; simp; omega), List.filter_eq_self.2 (fun x hx => by
    obtain ⟨y, hy, rfl⟩ := List.mem_map.1 hx; simp), List.nil_append, List.map_map]
  conv => rhs; rw [← List.map_id (evl H s)]
  refine List.map_congr_left fun i _ => ?_
  show i + 2 * W - 2 * W = i
  omega

section
variable {W H : Nat} {a b m : Nat → Bool}
/-- Both hang together, and the motif has both kinds of cells. -/
theorem two_mixed (hW : 1 ≤ W) (hH : 1 ≤ H) (ha : hgs (ov W a) (W + H) = true) (hb : hgs (ov W b) (W + H) = true) {i j : Nat} (hi : i < W * H) (hj : j < W * H) (h1 : m i = true) (h2 : m j = false) :
    hgs (ov (2 * W) (dbl W a b m)) (2 * (W + H)) = true := by
  have cell : ∀ k, k < W * H → k % W < W ∧ k / W < H ∧ k / W * W + k % W = k := fun k hk => ⟨Nat.mod_lt _ (by omega), (Nat.div_lt_iff_lt_mul (by omega)).2 (by rwa [Nat.mul_comm]), by rw [Nat.mul_comm]; exact Nat.div_add_mod k W⟩
  obtain ⟨a1, a2, a3⟩ := cell i hi
  obtain ⟨b1, b2, b3⟩ := cell j hj
  refine dbl_hgs (by omega) (up_par (by omega) ha hb (fun t u _ _ e => by rw [dv_ee]; exact e) (fun t u _ _ e => by rw [dv_oo]; exact e)) (t := i % W) (u := W + i / W) (t' := j % W) (u' := W + j / W) (by omega) (by omega) (by omega) (by omega) ?_ ?_
  · rw [dv_eo]; unfold opp mcl
    rw [decide_eq_true a1, decide_eq_false (Nat.not_lt.2 (Nat.le_add_right _ _)), if_pos a1, Nat.add_sub_cancel_left, a3, h1]; rfl
  · rw [dv_oe]; unfold opp mcl
    rw [decide_eq_true b1, decide_eq_false (Nat.not_lt.2 (Nat.le_add_right _ _)), if_pos b1, Nat.add_sub_cancel_left, b3, h2]; rfl
theorem mcl_in (hW : 1 ≤ W) {t u : Nat} (ht : t < W + H) (hu : u < W + H) (h : opp W t u = true) : ∃ k, k < W * H ∧ mcl W m t u = m k := by
  unfold opp at h; unfold mcl
  have bd : ∀ x y, x < W → y < H → y * W + x < W * H := fun x y hx hy => by
    have : (y + 1) * W ≤ H * W := Nat.mul_le_mul_right _ hy
    rw [Nat.add_mul, Nat.one_mul] at this; rw [Nat.mul_comm W]; omega
  by_cases e : t < W
  · rw [if_pos e]
    by_cases e2 : u < W
    · rw [decide_eq_true e, decide_eq_true e2] at h; cases h
    · exact ⟨_, bd t (u - W) e (by omega), rfl⟩
  · rw [if_neg e]
    by_cases e2 : u < W
    · exact ⟨_, bd u (t - W) e2 (by omega), rfl⟩
    · rw [decide_eq_false e, decide_eq_false e2] at h; cases h
theorem two_up (hW : 1 ≤ W) (hH : 1 ≤ H) (ha : hgs (ov W a) (W + H) = true) (hb : hgs (ov W b) (W + H) = true) (h : ∀ i, i < W * H → m i = true) : Dbl2 (ov (2 * W) (dbl W a b m)) (W + H) 0 where
  n0 := by omega
  s2 := by omega
  par := up_par (by omega) ha hb (fun t u _ _ e => by rw [dv_ee]; exact e) (fun t u _ _ e => by rw [dv_oo]; exact e)
  top := fun c x hc hx hs hR => by
    rcases Nat.mod_two_eq_zero_or_one x with e | e
    · exact e
    · rw [show x = 2 * (x / 2) + 1 by omega, show c = 2 * (c / 2) by omega, dv_oe] at hR
      cases ho : opp W (c / 2) (x / 2)
      · rw [ho] at hR; cases hR
      · obtain ⟨k, hk, e2⟩ := mcl_in (m := m) (H := H) hW (by omega) (by omega) ho
        rw [ho, e2, h k hk] at hR; cases hR
  low := ⟨2 * W + 1, 0, by omega, by omega, by omega, rfl, by
    have : ov (2 * W) (dbl W a b m) (2 * 0) (2 * W + 1) = true := by
      rw [dv_eo]; unfold opp mcl
      rw [decide_eq_true (show 0 < W by omega), decide_eq_false (show ¬ W < W by omega), if_pos (show 0 < W by omega), Nat.sub_self, Nat.zero_mul, Nat.zero_add, h 0 (Nat.mul_pos hW hH)]; rfl
    exact this⟩
theorem two_down (hW : 1 ≤ W) (hH : 1 ≤ H) (ha : hgs (ov W a) (W + H) = true) (hb : hgs (ov W b) (W + H) = true) (h : ∀ i, i < W * H → m i = false) : Dbl2 (ov (2 * W) (dbl W a b m)) (W + H) 1 where
  n0 := by omega
  s2 := by omega
  par := up_par (by omega) ha hb (fun t u _ _ e => by rw [dv_ee]; exact e) (fun t u _ _ e => by rw [dv_oo]; exact e)
  top := fun c x hc hx hs hR => by
    rcases Nat.mod_two_eq_zero_or_one x with e | e
    · rw [show x = 2 * (x / 2) by omega, show c = 2 * (c / 2) + 1 by omega, dv_eo] at hR
      cases ho : opp W (x / 2) (c / 2)
      · rw [ho] at hR; cases hR
      · obtain ⟨k, hk, e2⟩ := mcl_in (m := m) (H := H) hW (by omega) (by omega) ho
        rw [ho, e2, h k hk] at hR; cases hR
    · exact e
  low := ⟨2 * W, 1, by omega, by omega, by omega, rfl, by
    have : ov (2 * W) (dbl W a b m) (2 * 0 + 1) (2 * W) = true := by
      rw [dv_oe]; unfold opp mcl
      rw [if_neg (show ¬ W < W by omega), Nat.sub_self, Nat.zero_mul, Nat.zero_add, h 0 (Nat.mul_pos hW hH), decide_eq_false (show ¬ W < W by omega), decide_eq_true (show 0 < W by omega)]; rfl
    exact this⟩
/-- Its layers. -/
theorem Dbl2.layers {R : Nat → Nat → Bool} {s : Nat} (h : Dbl2 R (W + H) s) (hW : 1 ≤ W) (hH : 1 ≤ H) : (lix R (2 * (W + H))).length = 2 ∧ lyE R (2 * W) (2 * (W + H)) 0 = evl W s ∧ lyP R (2 * W) (2 * (W + H)) 0 = evl H s ∧ lyE R (2 * W) (2 * (W + H)) 1 = evl W (1 - s) ∧ lyP R (2 * W) (2 * (W + H)) 1 = evl H (1 - s) := by
  have hs := h.s2
  have p0 : prt R (2 * (W + H)) 0 = evl (W + H) s := by rw [h.prt0, ofl_evl hs]
  have p1 : prt R (2 * (W + H)) 1 = evl (W + H) (1 - s) := by rw [h.prt1, ofl_evl (by omega)]
  have b0 : bigP R (2 * (W + H)) 0 = true := by unfold bigP; rw [p0, evl_len]; exact decide_eq_true (by omega)
  have b1 : bigP R (2 * (W + H)) 1 = true := by unfold bigP; rw [p1, evl_len]; exact decide_eq_true (by omega)
  have hl : lix R (2 * (W + H)) = [0, 1] := by
    unfold lix; rw [h.pno, show 2 = 0 + 1 + 1 from rfl, ofl_yes b1, ofl_yes b0]; rfl
  refine ⟨by rw [hl]; rfl, ?_, ?_, ?_, ?_⟩
  · unfold lyE; rw [hl]; show lEn (2 * W) (prt R (2 * (W + H)) 0) = _; rw [p0, lEn_evl W H hs]
  · unfold lyP; rw [hl]; show lPi (2 * W) (prt R (2 * (W + H)) 0) = _; rw [p0, lPi_evl W H hs]
  · unfold lyE; rw [hl]; show lEn (2 * W) (prt R (2 * (W + H)) 1) = _; rw [p1, lEn_evl W H (by omega)]
  · unfold lyP; rw [hl]; show lPi (2 * W) (prt R (2 * (W + H)) 1) = _; rw [p1, lPi_evl W H (by omega)]

/-- The threads of one cloth come off. -/
def evf (s i : Nat) : Int := ((2 * i + s : Nat) : Int)
theorem evf_set {s : Nat} (hs : s < 2) (N : Nat) : setB (2 * N) N (evf s) = true := by
  unfold setB evf; rw [decide_eq_true_iff]; intro i hi; exact ⟨by omega, fun h => by omega⟩
theorem evf_mem {s N x : Nat} (hs : s < 2) (hx : x < 2 * N) : mem N (evf s) x = decide (x % 2 = s) := by
  by_cases e : x % 2 = s
  · rw [decide_eq_true e, mem_iff]; exact ⟨x / 2, by omega, by unfold evf; omega⟩
  · rw [decide_eq_false e]
    cases hm : mem N (evf s) x
    · rfl
    · obtain ⟨i, _, e2⟩ := mem_iff.1 hm; unfold evf at e2; omega
theorem evf_setL {s N : Nat} : setL N (evf s) = evl N s := by
  unfold setL evl
  refine List.map_congr_left fun i _ => ?_
  show ((2 * i + s : Nat) : Int).toNat = _
  rw [Int.toNat_natCast]
theorem off_a (hW : 1 ≤ W) (hH : 1 ≤ H) : offB (ov (2 * W) (dbl W a b m)) (2 * (W + H)) (W + H) (evf 0) = true ↔ ∀ i, i < W * H → m i = true := by
  rw [off_P (evf_set (by omega) _)]
  constructor
  · intro h i hi
    have a1 : i % W < W := Nat.mod_lt _ (by omega)
    have a2 : i / W < H := (Nat.div_lt_iff_lt_mul (by omega)).2 (by rwa [Nat.mul_comm])
    have a3 : i / W * W + i % W = i := by rw [Nat.mul_comm]; exact Nat.div_add_mod i W
    have := h.2.2 (2 * (W + i / W) + 1) (2 * (i % W)) (by omega) (by omega) (by rw [evf_mem (by omega) (by omega)]; exact decide_eq_false (by omega)) (by rw [evf_mem (by omega) (by omega)]; exact decide_eq_true (by omega))
    rw [dv_oe] at this; unfold opp mcl at this
    rw [decide_eq_true a1, decide_eq_false (Nat.not_lt.2 (Nat.le_add_right _ _)), if_pos a1, Nat.add_sub_cancel_left, a3] at this
    cases hm : m i
    · rw [hm] at this; cases this
    · rfl
  · intro h
    refine ⟨⟨0, by omega, by rw [evf_mem (by omega) (by omega)]; rfl⟩, ⟨1, by omega, by rw [evf_mem (by omega) (by omega)]; rfl⟩, fun x y hx hy p q => ?_⟩
    rw [evf_mem (by omega) hx] at p; rw [evf_mem (by omega) hy] at q
    have p' := of_decide_eq_false p; have q' := of_decide_eq_true q
    rw [show x = 2 * (x / 2) + 1 by omega, show y = 2 * (y / 2) by omega, dv_oe]
    cases ho : opp W (y / 2) (x / 2)
    · rfl
    · obtain ⟨k, hk, e2⟩ := mcl_in (m := m) (H := H) hW (by omega) (by omega) ho
      rw [e2, h k hk]; rfl
theorem off_b (hW : 1 ≤ W) (hH : 1 ≤ H) : offB (ov (2 * W) (dbl W a b m)) (2 * (W + H)) (W + H) (evf 1) = true ↔ ∀ i, i < W * H → m i = false := by
  rw [off_P (evf_set (by omega) _)]
  constructor
  · intro h i hi
    have a1 : i % W < W := Nat.mod_lt _ (by omega)
    have a2 : i / W < H := (Nat.div_lt_iff_lt_mul (by omega)).2 (by rwa [Nat.mul_comm])
    have a3 : i / W * W + i % W = i := by rw [Nat.mul_comm]; exact Nat.div_add_mod i W
    have := h.2.2 (2 * (i % W)) (2 * (W + i / W) + 1) (by omega) (by omega) (by rw [evf_mem (by omega) (by omega)]; exact decide_eq_false (by omega)) (by rw [evf_mem (by omega) (by omega)]; exact decide_eq_true (by omega))
    rw [dv_eo] at this; unfold opp mcl at this
    rw [decide_eq_true a1, decide_eq_false (Nat.not_lt.2 (Nat.le_add_right _ _)), if_pos a1, Nat.add_sub_cancel_left, a3] at this
    cases hm : m i
    · rfl
    · rw [hm] at this; cases this
  · intro h
    refine ⟨⟨1, by omega, by rw [evf_mem (by omega) (by omega)]; rfl⟩, ⟨0, by omega, by rw [evf_mem (by omega) (by omega)]; rfl⟩, fun x y hx hy p q => ?_⟩
    rw [evf_mem (by omega) hx] at p; rw [evf_mem (by omega) hy] at q
    have p' := of_decide_eq_false p; have q' := of_decide_eq_true q
    rw [show x = 2 * (x / 2) by omega, show y = 2 * (y / 2) + 1 by omega, dv_eo]
    cases ho : opp W (x / 2) (y / 2)
    · rfl
    · obtain ⟨k, hk, e2⟩ := mcl_in (m := m) (H := H) hW (by omega) (by omega) ho
      rw [e2, h k hk]; rfl
/-- The cloth of only the threads of one. -/
theorem on_evl {s : Nat} (hW : 1 ≤ W) {g : Nat → Bool} {k : Nat} (hk : k < W * H) : onF (2 * W) g (evl W s) (evl H s) k = g ((2 * (k / W) + s) * (2 * W) + (2 * (k % W) + s)) := by
  have a1 : k % W < W := Nat.mod_lt _ (by omega)
  have a2 : k / W < H := (Nat.div_lt_iff_lt_mul (by omega)).2 (by rwa [Nat.mul_comm])
  unfold onF
  rw [evl_len, evl_get a1, evl_get a2]
end
end Go.Proofs.Ytgmcbdnfgdmmaaa

/- double.build: cells asked of a function value, one behind the other. -/
namespace Go.Proofs.Ytgmcbdnfgdmmaaa
open Go.RowKit
set_option maxRecDepth 100000
set_option linter.unusedVariables false
set_option linter.unusedSimpArgs false

/-- 'append(s, b)'. -/
theorem app1b {ops : Array Oper} {rest : List Oper} {o : Oper} {a : Act} {Q : Exit → Act → World → Prop} (w : World) (hgd : o.guard = none) (s x : Operand)
    (ho : o.op = .call { callee := .builtin .append, args := #[s, x], argTypes := #[22, 22] }) (base : Nat) {v : Value} {n : Nat} {f : Nat → Bool} (hs : a.eval s = v) (hown : OwB w base v n f)
    (y : Bool) (hx : a.eval x = .slice (some ⟨w.heap.size, 0, none⟩) 1 1) (hy : f n = y) (hn : n ≤ 100000) (hb : base ≤ w.heap.size)
    (h : ∀ v' w', OwB w' base v' (n + 1) f → Below base w w' → wpList Try.prog ops Q rest (a.put o.dst v') w') :
    wpList Try.prog ops Q (o :: rest) a (w.alloc (.cells #[.bool y] 4)) := by
  obtain ⟨i0, hi, hz0, hz1, hz2⟩ := info_parts Try.info4
  refine wpList_append_own_at _ hgd s x 22 ho base 4 i0 (.bool false) 1 1 Try.underlying22 hi hz0 hz1 hz2 rfl (by decide) v n _ hs (hown.alloc _) ⟨w.heap.size, 0, none⟩ 1 1 [.bool y] hx rfl (cell_one_new _ _ _) (by intro u hu; simp at hu; rw [hu]; rfl)
    (by unfold maxLen; omega) (by omega) (by simp; omega) ?_
  intro v' w' ho' hg _ h3
  refine h v' w' ?_ ?_
  · unfold OwB
    rw [newsb_succ, hy]
    exact ho'
  · refine Below.grown ((Below.refl _ _).alloc hb _) hg (by simp; omega) fun k hk => (orow_block hown hk).1
theorem mk0_run (N : Nat) (hN : N ≤ 100000) (w : World) : (Instr.makeSlice 22 (.int .i64 0) (.int .i64 (N : Nat))).run Try.prog w = .ok (.slice (some ⟨w.heap.size, 0, none⟩) 0 N) (w.alloc (.cells (madeCells #[.bool false] N) 4)) := by
  obtain ⟨i0, hi, hz0, hz1, hz2⟩ := info_parts Try.info4
  have h := run_make (P := Try.prog) w 22 4 i0 (.bool false) Try.underlying22 hi hz0 .i64 .i64 0 (N : Nat) (Int.le_refl _) (by omega) (by rw [hz2]; omega) (by omega)
  simp only [Int.toNat_zero, Int.toNat_natCast, hz1, Nat.mul_one] at h
  exact h
/-- A new row of no cells. -/
theorem OwB.made (w : World) (base N : Nat) (hN : N ≤ 100000) (hb : base ≤ w.heap.size) (f : Nat → Bool) : OwB (w.alloc (.cells (madeCells #[.bool false] N) 4)) base (.slice (some ⟨w.heap.size, 0, none⟩) 0 N) 0 f :=
  ⟨rfl, .inr ⟨w.heap.size, N, madeCells #[.bool false] N, rfl, hb, World.alloc_heap_new _ _, Nat.zero_le _, by unfold maxLen; omega, by rw [size_madeCells, Nat.mul_one], rfl⟩⟩
theorem OwB.row {w : World} {base n : Nat} {v : Value} {f : Nat → Bool} (h : OwB w base v n f) (hn : 0 < n) : ∃ k c, v = .slice (some ⟨k, 0, none⟩) n c ∧ base ≤ k ∧ n ≤ c ∧ Row w k n f := by
  have h2 := h
  rcases h2.2 with ⟨e0, e1⟩ | ⟨g, cap, cur, e0, hb, _, hc, _⟩
  · omega
  · subst e0
    exact ⟨g, cap, rfl, hb, hc, Row.of_own h hn⟩
set_option maxHeartbeats 1600000 in
theorem dbuild_any (W H : Nat) (hW0 : 1 ≤ W) (hW : W ≤ 64) (hH0 : 1 ≤ H) (hH : H ≤ 64) (g : Nat) (lb : Array Value) (F : Nat → Nat → Bool) (w : World) (hG : Gives g lb w W H F)
    (eg : ∀ args w, (callFunc g args).run Try.prog w = .ok (.enter g args) w) :
    Calls Try.prog 91 #[.int .i64 (W : Nat), .int .i64 (H : Nat), .func (.func g) #[] lb] w fun e w' =>
      ∃ k c, e = .returned (.agg #[.int .i64 (W : Nat), .int .i64 (H : Nat), .slice (some ⟨k, 0, none⟩) (W * H) c]) ∧ w.heap.size ≤ k ∧ W * H ≤ c ∧ Row w' k (W * H) (fun i => F (i % W) (i / W)) ∧ Below w.heap.size w w' := by
  have hN : W * H ≤ 4096 := Nat.mul_le_mul hW hH
  have e1 : IntKind.i64.wrap ((W : Int) * (H : Int)) = ((W * H : Nat) : Int) := by
    rw [← Int.natCast_mul]; exact IntWalk.i64_in _ (by omega)
  have hmk := mk0_run (W * H) (by omega)
  have HG := Lib.hid hG
  clear hG
  have HN0 := Lib.hid (Nat.mul_pos hW0 hH0)
  obtain ⟨f, hf⟩ : ∃ f : Nat → Bool, f = fun i => F (i % W) (i / W) := ⟨_, rfl⟩
  have HFV := Lib.hid (fun x y (hx : x < W) => show f (y * W + x) = F x y by
    rw [hf]; show F ((y * W + x) % W) ((y * W + x) / W) = _
    rw [Nat.mul_comm y, Nat.mul_add_mod, Nat.mod_eq_of_lt hx, Nat.mul_add_div (by omega), Nat.div_eq_of_lt hx, Nat.add_zero])
  have HLT := Lib.hid (fun k x (hk : k < H) (hx : x < W) => ix_bd (W := W) (H := H) hx hk)
  have HLE := Lib.hid (fun k (hk : k ≤ H) => show k * W ≤ 4096 by have := Nat.mul_le_mul (show k ≤ 64 by omega) hW; omega)
  have HCM := Lib.hid (Nat.mul_comm H W)
  rw [← hf]
  clear hf
  obtain ⟨N, hNe⟩ : ∃ N, W * H = N := ⟨_, rfl⟩
  rw [hNe] at hN e1 hmk HN0 HLT HCM ⊢
  clear hNe
  have X0 := Lib.hid ((Box.new w 0 0 (.slice none 0 0)).alloc (.cells (madeCells #[.bool false] N) 4))
  have B0 := Lib.hid (((Below.refl w.heap.size w).alloc (Nat.le_refl _) (.cells #[.int .i64 0, .int .i64 0, .slice none 0 0] 24)).alloc (by simp) (.cells (madeCells #[.bool false] N) 4))
  have V0 := Lib.hid (OwB.made (w.alloc (.cells #[.int .i64 0, .int .i64 0, .slice none 0 0] 24)) (w.heap.size + 1) N (by omega) (by simp) f)
  rw [show (w.alloc (.cells #[.int .i64 0, .int .i64 0, .slice none 0 0] 24)).heap.size = w.heap.size + 1 by simp] at V0
  go_enter Try.func91, Try.ntmps91
  go_wp2
  generalize (w.alloc (.cells #[.int .i64 0, .int .i64 0, .slice none 0 0] 24)).alloc (.cells (madeCells #[.bool false] N) 4) = w0 at *
  go_loopw [7, 15] (fun q i wr => ∃ k : Nat, k ≤ H ∧ i = .int .i64 k ∧ Hid (OwB wr (w.heap.size + 1) q (k * W) f) ∧ Hid (Box wr w.heap.size 0 0 (.slice none 0 0)) ∧ Hid (Below w.heap.size w wr)) (fun _ i _ => H - (intOf i).toNat)
  case atStart => exact ⟨0, Nat.zero_le _, rfl, by rw [Nat.zero_mul]; exact V0, X0, B0⟩
  case round =>
    obtain ⟨k, hk, rfl, HO, HX, HB⟩ := hrel
    clear V0 X0 B0
    by_cases hlt : k < H
    · have y1 : (k : Int) < (H : Int) := by omega
      have y2 : (0 : Int) ≤ (k : Int) := by omega
      go_wp2
      go_loopw [7, 19] (fun q i wr => ∃ x : Nat, x ≤ W ∧ i = .int .i64 x ∧ Hid (OwB wr (w.heap.size + 1) q (k * W + x) f) ∧ Hid (Box wr w.heap.size 0 0 (.slice none 0 0)) ∧ Hid (Below w.heap.size w wr)) (fun _ i _ => W - (intOf i).toNat)
      case atStart => exact ⟨0, Nat.zero_le _, rfl, by rw [Nat.add_zero]; exact HO, HX, HB⟩
      case round =>
        obtain ⟨x, hx, rfl, HO2, HX2, HB2⟩ := hrel
        clear HO HX HB
        by_cases hltx : x < W
        · have y3 : (x : Int) < (W : Int) := by omega
          have y4 : (0 : Int) ≤ (x : Int) := by omega
          have HGk := Lib.hid (HG.out wr x k HB2.out hltx hlt)
          have HFk := Lib.hid (HFV.out x k hltx)
          have hlen := HLT.out k x hlt hltx
          have HE := Lib.hid (show k * W + (x + 1) = k * W + x + 1 by omega)
          obtain ⟨m, hm⟩ : ∃ m, k * W + x = m := ⟨_, rfl⟩
          rw [hm] at hlen HO2 HFk HE
          clear hm
          obtain ⟨bv, hbv⟩ : ∃ bv, F x k = bv := ⟨_, rfl⟩
          rw [hbv] at HGk HFk
          clear hbv
          go_wp2_with (first | (go_at_fn g; (refine HGk.out.mono ?_); rintro e w1 ⟨rfl, hb1⟩; have HB1 := Lib.hid (HB2.out.trans (hb1.mono HB2.out.size)); have HX1 := Lib.hid (HX2.out.below hb1 HX2.out.lt); have HO1 := Lib.hid (HO2.out.below hb1); have hsz : w.heap.size + 1 ≤ w1.heap.size := HX1.out.lt; clear hb1) | (at_builtin; refine app1b _ rfl _ _ (by rfl) (w.heap.size + 1) (by rfl) HO1.out bv (by rfl) HFk.out (by omega) hsz ?_; intro v' w5 hown5 hb5; have HO5 := Lib.hid hown5; have HB5 := Lib.hid hb5; clear hown5 hb5))
          have HB6 := Lib.hid (HB1.out.trans (HB5.out.mono (by omega)))
          have HX6 := Lib.hid (HX1.out.below HB5.out (by omega))
          go_roundw
          case rel => exact ⟨x + 1, by omega, by go_num, by rw [HE.out]; exact HO5, HX6, HB6⟩
          case measure => simp [intOf]; omega
        · have e : x = W := by omega
          have y3 : ¬ (x : Int) < (W : Int) := by omega
          have HO3 := Lib.hid (show OwB wr (w.heap.size + 1) u7 ((k + 1) * W) f by rw [Nat.add_mul, Nat.one_mul, ← e]; rw [e] at HO2 ⊢; exact HO2.out)
          clear e HO2
          go_wp2
          go_roundw
          case rel => exact ⟨k + 1, by omega, by go_num, HO3, HX2, HB2⟩
          case measure => simp [intOf]; omega
    · have e : k = H := by omega
      have y1 : ¬ (k : Int) < (H : Int) := by omega
      rw [e, HCM.out] at HO
      obtain ⟨g1, c1, rfl, hg1, hc1, hrow⟩ := HO.out.row HN0.out
      have HR := Lib.hid hrow
      have HLS := Lib.hid (show w.heap.size ≠ g1 by omega)
      clear e hrow
      obtain ⟨q0, q1, q2, q3, q4, q5, q6⟩ := HX.out.all
      go_wp2
      refine bodyPost_ret (v := .agg #[.int .i64 (W : Nat), .int .i64 (H : Nat), .slice (some ⟨g1, 0, none⟩) N c1]) (by simp [results, Try.results91, go_sem, q0, q1, q2, q3, q4, q5]) rfl ?_
      refine ⟨g1, c1, rfl, by omega, hc1, ((HR.out.far (p := ⟨w.heap.size, 0, none⟩) (by exact HLS.out.symm) _).far (p := ⟨w.heap.size, 1, none⟩) (by exact HLS.out.symm) _).far (p := ⟨w.heap.size, 2, none⟩) (by exact HLS.out.symm) _, ?_⟩
      exact ((HB.out.setCell (p := ⟨w.heap.size, 0, none⟩) (Nat.le_refl _) _).setCell (p := ⟨w.heap.size, 1, none⟩) (Nat.le_refl _) _).setCell (p := ⟨w.heap.size, 2, none⟩) (Nat.le_refl _) _
end Go.Proofs.Ytgmcbdnfgdmmaaa

/- The function values that double.build is handed; sides. -/
namespace Go.Proofs.Ytgmcbdnfgdmmaaa
open Go.RowKit
set_option maxRecDepth 100000
set_option linter.unusedVariables false
set_option linter.unusedSimpArgs false

theorem tdiv2 (y : Nat) : ((y : Nat) : Int).tdiv 2 = ((y / 2 : Nat) : Int) := rfl
theorem tmod2 (y : Nat) : ((y : Nat) : Int).tmod 2 = ((y % 2 : Nat) : Int) := rfl
/-- A cell of a grid that lies in a variable. -/
theorem Grid.cell {w : World} {gb W H c : Nat} {A : Option Addr} {f : Nat → Bool} (h : Grid w gb W H A c f) {i : Nat} (hi : i < W * H) : ∃ b o, A = some ⟨b, o, none⟩ ∧ w.cell? ⟨b, o + i, none⟩ = some (.bool (f i)) := by
  obtain ⟨b, o, e, _, hc⟩ := h.cells (by omega)
  exact ⟨b, o, e, hc i hi⟩
set_option maxHeartbeats 1600000 in
theorem weave_clo {w : World} {ga gm gb W H c d e : Nat} {A M B : Option Addr} {a m b : Nat → Bool} (ha : Grid w ga W H A c a) (hm : Grid w gm W H M d m) (hb : Grid w gb W H B e b) (hW : W ≤ 32) (hH : H ≤ 32) :
    Gives 96 #[.pointer (some ⟨ga, 0, none⟩), .pointer (some ⟨gm, 0, none⟩), .pointer (some ⟨gb, 0, none⟩)] w (2 * W) (2 * H) (dxy W a b m) := by
  intro w1 x y hbl hx hy
  have h1 := ha.below hbl
  have h2 := hm.below hbl
  have h3 := hb.below hbl
  have hN : W * H ≤ 1024 := Nat.mul_le_mul hW hH
  have hW0 := ha.w0
  have hix := ix_bd (W := W) (H := H) (x := x / 2) (y := y / 2) (by omega) (by omega)
  obtain ⟨b1, o1, rfl, c1⟩ := h1.cell hix
  obtain ⟨b2, o2, rfl, c2⟩ := h2.cell hix
  obtain ⟨b3, o3, rfl, c3⟩ := h3.cell hix
  obtain ⟨p0, p1, p2, p3, p4, p5, p6⟩ := h1.box.all
  obtain ⟨q0, q1, q2, q3, q4, q5, q6⟩ := h2.box.all
  obtain ⟨r0, r1, r2, r3, r4, r5, r6⟩ := h3.box.all
  have d1 := tdiv2 x
  have d2 := tdiv2 y
  have d3 := tmod2 x
  have d4 := tmod2 y
  have HF := Lib.hid (show dxy W a b m x y = if x % 2 = 0 then (if y % 2 = 0 then a (y / 2 * W + x / 2) else m (y / 2 * W + x / 2)) else (if y % 2 = 0 then !m (y / 2 * W + x / 2) else b (y / 2 * W + x / 2)) from rfl)
  have k1 : y / 2 * W ≤ 32 * 32 := Nat.mul_le_mul (by omega) hW
  have k2 := Nat.mod_two_eq_zero_or_one x
  have k3 := Nat.mod_two_eq_zero_or_one y
  obtain ⟨x2, hx2⟩ : ∃ z, x / 2 = z := ⟨_, rfl⟩
  obtain ⟨y2, hy2⟩ : ∃ z, y / 2 = z := ⟨_, rfl⟩
  obtain ⟨xm, hxm⟩ : ∃ z, x % 2 = z := ⟨_, rfl⟩
  obtain ⟨ym, hym⟩ : ∃ z, y % 2 = z := ⟨_, rfl⟩
  have hx3 : x2 < W := by omega
  have hy3 : y2 < H := by omega
  rw [hx2] at d1 HF hix c1 c2 c3
  rw [hy2] at d2 HF hix c1 c2 c3 k1
  rw [hxm] at d3 HF k2
  rw [hym] at d4 HF k3
  clear hx2 hy2 hxm hym
  have w1e : IntKind.i64.wrap ((y2 : Int) * (W : Int)) = ((y2 * W : Nat) : Int) := by rw [← Int.natCast_mul]; exact IntWalk.i64_in _ (by omega)
  obtain ⟨p, hp⟩ : ∃ p, y2 * W = p := ⟨_, rfl⟩
  rw [hp] at w1e HF hix c1 c2 c3 k1
  have w2e : IntKind.i64.wrap ((p : Int) + (x2 : Int)) = ((p + x2 : Nat) : Int) := by rw [← Int.natCast_add]; exact IntWalk.i64_in _ (by omega)
  obtain ⟨i, hi⟩ : ∃ i, p + x2 = i := ⟨_, rfl⟩
  rw [hi] at w2e HF hix c1 c2 c3
  clear hp hi
  obtain ⟨N, hNe⟩ : ∃ N, W * H = N := ⟨_, rfl⟩
  rw [hNe] at hN hix p2 q2 r2
  have y1 : (i : Int) < (N : Int) := by omega
  have y3 : (0 : Int) ≤ (i : Int) := by omega
  obtain ⟨ua, hua⟩ : ∃ z, a i = z := ⟨_, rfl⟩
  obtain ⟨um, hum⟩ : ∃ z, m i = z := ⟨_, rfl⟩
  obtain ⟨ub, hub⟩ : ∃ z, b i = z := ⟨_, rfl⟩
  rw [hua] at c1 HF
  rw [hum] at c2 HF
  rw [hub] at c3 HF
  rw [HF.out]
  clear ha hm hb h1 h2 h3 hua hum hub hNe HF hbl
  rcases k2 with rfl | rfl <;> rcases k3 with rfl | rfl
  · go_enter Try.func96, Try.ntmps96
    go_wp2
    go_ret
    exact ⟨rfl, Below.refl _ _⟩
  · go_enter Try.func96, Try.ntmps96
    go_wp2
    go_ret
    exact ⟨rfl, Below.refl _ _⟩
  · go_enter Try.func96, Try.ntmps96
    go_wp2
    go_ret
    exact ⟨rfl, Below.refl _ _⟩
  · go_enter Try.func96, Try.ntmps96
    go_wp2
    go_ret
    exact ⟨rfl, Below.refl _ _⟩
set_option maxHeartbeats 1600000 in
theorem face_clo {w : World} {ga gm gb W H c d e : Nat} {A M B : Option Addr} {a m b : Nat → Bool} (ha : Grid w ga W H A c a) (hm : Grid w gm W H M d m) (hb : Grid w gb W H B e b) :
    Gives 92 #[.pointer (some ⟨ga, 0, none⟩), .pointer (some ⟨gm, 0, none⟩), .pointer (some ⟨gb, 0, none⟩)] w W H (fun x y => if m (y * W + x) then a (y * W + x) else b (y * W + x)) := by
  intro w1 x y hbl hx hy
  have h1 := ha.below hbl
  have h2 := hm.below hbl
  have h3 := hb.below hbl
  have hN : W * H ≤ 4096 := Nat.mul_le_mul ha.w1 ha.h1
  have hix := ix_bd (W := W) (H := H) (x := x) (y := y) hx hy
  obtain ⟨b1, o1, rfl, c1⟩ := h1.cell hix
  obtain ⟨b2, o2, rfl, c2⟩ := h2.cell hix
  obtain ⟨b3, o3, rfl, c3⟩ := h3.cell hix
  obtain ⟨p0, p1, p2, p3, p4, p5, p6⟩ := h1.box.all
  obtain ⟨q0, q1, q2, q3, q4, q5, q6⟩ := h2.box.all
  obtain ⟨r0, r1, r2, r3, r4, r5, r6⟩ := h3.box.all
  have w1e : IntKind.i64.wrap ((y : Int) * (W : Int)) = ((y * W : Nat) : Int) := by rw [← Int.natCast_mul]; exact IntWalk.i64_in _ (by omega)
  have HF := Lib.hid (show (fun x y => if m (y * W + x) then a (y * W + x) else b (y * W + x)) x y = if m (y * W + x) then a (y * W + x) else b (y * W + x) from rfl)
  obtain ⟨p, hp⟩ : ∃ p, y * W = p := ⟨_, rfl⟩
  rw [hp] at w1e hix c1 c2 c3
  have w2e : IntKind.i64.wrap ((p : Int) + (x : Int)) = ((p + x : Nat) : Int) := by rw [← Int.natCast_add]; exact IntWalk.i64_in _ (by omega)
  have HG := Lib.hid (show (fun x y => if m (y * W + x) then a (y * W + x) else b (y * W + x)) x y = if m (p + x) then a (p + x) else b (p + x) by rw [HF.out, hp])
  obtain ⟨i, hi⟩ : ∃ i, p + x = i := ⟨_, rfl⟩
  rw [hi] at w2e hix c1 c2 c3 HG
  clear hp hi HF
  obtain ⟨N, hNe⟩ : ∃ N, W * H = N := ⟨_, rfl⟩
  rw [hNe] at hN hix p2 q2 r2
  have y1 : (i : Int) < (N : Int) := by omega
  have y3 : (0 : Int) ≤ (i : Int) := by omega
  rw [HG.out]
  obtain ⟨ua, hua⟩ : ∃ z, a i = z := ⟨_, rfl⟩
  obtain ⟨um, hum⟩ : ∃ z, m i = z := ⟨_, rfl⟩
  obtain ⟨ub, hub⟩ : ∃ z, b i = z := ⟨_, rfl⟩
  rw [hua] at c1 ⊢
  rw [hum] at c2 ⊢
  rw [hub] at c3 ⊢
  clear ha hm hb h1 h2 h3 hua hum hub hNe HG hbl
  cases um
  · rw [if_neg (by decide)]
    go_enter Try.func92, Try.ntmps92
    go_wp2
    go_ret
    exact ⟨rfl, Below.refl _ _⟩
  · rw [if_pos rfl]
    go_enter Try.func92, Try.ntmps92
    go_wp2
    go_ret
    exact ⟨rfl, Below.refl _ _⟩
theorem up_clo (w : World) (W H : Nat) : Gives 94 #[] w W H (fun _ _ => true) := by
  intro w1 x y hbl hx hy
  go_enter Try.func94, Try.ntmps94
  go_wp2
  go_ret
  exact ⟨rfl, Below.refl _ _⟩
theorem sides_of (W H : Int) (A : Option Addr) (n c : Nat) (w : World) :
    Calls Try.prog 129 #[.agg #[.int .i64 W, .int .i64 H, .slice A n c]] w fun e w' => e = .returned (.agg #[.int .i64 W, .int .i64 H]) ∧ Below w.heap.size w w' := by
  have X0 := Lib.hid ((Box.new w W H (.slice A n c)).alloc (.cells #[.int .i64 0, .int .i64 0] 46))
  go_enter Try.func129, Try.ntmps129
  obtain ⟨q0, q1, q2, q3, q4, q5, q6⟩ := X0.out.all
  go_wp2
  refine bodyPost_ret (v := .agg #[.int .i64 W, .int .i64 H]) (by simp [results, Try.results129, go_sem]) rfl ?_
  exact ⟨rfl, ((Below.refl w.heap.size w).alloc (Nat.le_refl _) _).alloc (by simp) _⟩
end Go.Proofs.Ytgmcbdnfgdmmaaa

/- double.fit: three grids are checked, and their sides compared. -/
namespace Go.Proofs.Ytgmcbdnfgdmmaaa
open Go.RowKit
set_option maxRecDepth 100000
set_option linter.unusedVariables false
set_option linter.unusedSimpArgs false

/-- What fit answers for three grids. -/
def fitZ (z0 z1 z2 : Int) (W H X Y U V : Int) : Int := if z0 ≠ 0 then z0 else if z1 ≠ 0 then z1 else if z2 ≠ 0 then z2 else if (X = W ∧ Y = H) ∧ (U = W ∧ V = H) then 0 else 2
/-- Three grids that lie in a row. -/
structure G3 (w : World) (g : Nat) (W H : Nat → Int) (A : Nat → Option Addr) (n c : Nat → Nat) : Prop where
  cells : ∀ i, i < 3 → w.cell? ⟨g, i * 3, none⟩ = some (.int .i64 (W i)) ∧ w.cell? ⟨g, i * 3 + 1, none⟩ = some (.int .i64 (H i)) ∧ w.cell? ⟨g, i * 3 + 2, none⟩ = some (.slice (A i) (n i) (c i))
  lt : g < w.heap.size
theorem G3.below {w w' : World} {g : Nat} {W H : Nat → Int} {A : Nat → Option Addr} {n c : Nat → Nat} (h : G3 w g W H A n c) (hb : Below w.heap.size w w') : G3 w' g W H A n c :=
  ⟨fun i hi => ⟨(hb.cell (p := ⟨g, i * 3, none⟩) h.lt).trans (h.cells i hi).1, (hb.cell (p := ⟨g, i * 3 + 1, none⟩) h.lt).trans (h.cells i hi).2.1, (hb.cell (p := ⟨g, i * 3 + 2, none⟩) h.lt).trans (h.cells i hi).2.2⟩, Nat.lt_of_lt_of_le h.lt hb.size⟩
theorem fitZ_err {z : Nat → Int} {W H X Y U V : Int} {k : Nat} (hk : k < 3) (h0 : ∀ j, j < k → z j = 0) (hz : z k ≠ 0) : fitZ (z 0) (z 1) (z 2) W H X Y U V = z k := by
  unfold fitZ
  rcases (show k = 0 ∨ k = 1 ∨ k = 2 by omega) with rfl | rfl | rfl
  · rw [if_pos hz]
  · rw [if_neg (by rw [h0 0 (by omega)]; decide), if_pos hz]
  · rw [if_neg (by rw [h0 0 (by omega)]; decide), if_neg (by rw [h0 1 (by omega)]; decide), if_pos hz]
theorem fitZ_arg {z : Nat → Int} {W H : Nat → Int} {k : Nat} (hk : k < 3) (h0 : ∀ j, j < 3 → z j = 0) (hs : ¬ (W k = W 0 ∧ H k = H 0)) : fitZ (z 0) (z 1) (z 2) (W 0) (H 0) (W 1) (H 1) (W 2) (H 2) = 2 := by
  unfold fitZ
  rw [if_neg (by rw [h0 0 (by omega)]; decide), if_neg (by rw [h0 1 (by omega)]; decide), if_neg (by rw [h0 2 (by omega)]; decide)]
  rcases (show k = 0 ∨ k = 1 ∨ k = 2 by omega) with rfl | rfl | rfl
  · exact absurd ⟨rfl, rfl⟩ hs
  · exact if_neg fun h => hs h.1
  · exact if_neg fun h => hs h.2
theorem fitZ_ok {z : Nat → Int} {W H : Nat → Int} (h0 : ∀ j, j < 3 → z j = 0) (hs : ∀ k, k < 3 → W k = W 0 ∧ H k = H 0) : fitZ (z 0) (z 1) (z 2) (W 0) (H 0) (W 1) (H 1) (W 2) (H 2) = 0 := by
  unfold fitZ
  rw [if_neg (by rw [h0 0 (by omega)]; decide), if_neg (by rw [h0 1 (by omega)]; decide), if_neg (by rw [h0 2 (by omega)]; decide), if_pos ⟨hs 1 (by omega), hs 2 (by omega)⟩]
/-- '==' of two arrays of two numbers. -/
theorem eq46 (a b c d : Int) (w : World) : (Op.equalIn 10000 46 (.agg #[.int .i64 a, .int .i64 b]) (.agg #[.int .i64 c, .int .i64 d])).run Try.prog w = .ok (a == c && b == d) w := by
  have u3 := Try.underlying3
  have a3 := Try.isAgg3
  have z3 := Try.sizeOf3
  rw [show (10000 : Nat) = 9999 + 1 from rfl, Op.equalIn]
  simp only [Sem.run_bind, run_underlying Try.underlying46, Result.andThen_ok]
  simp only [Std.Legacy.Range.forIn_eq_forIn_range', Std.Legacy.Range.size, Nat.sub_zero, Nat.add_sub_cancel, Nat.div_one, List.range'_succ, List.range'_zero, List.forIn_cons, List.forIn_nil]
  go_simp
  by_cases h1 : a = c <;> by_cases h2 : b = d <;> simp [h1, h2]
set_option maxHeartbeats 1600000 in
theorem fit_any (g : Nat) (W H : Nat → Int) (A : Nat → Option Addr) (n c : Nat → Nat) (w : World) (hg : G3 w g W H A n c) (hn : ∀ i, i < 3 → n i ≤ 4200) :
    Calls Try.prog 90 #[.slice (some ⟨g, 0, none⟩) 3 3] w fun e w' => e = .returned (.int .i64 (fitZ (chk (W 0) (H 0) (n 0)) (chk (W 1) (H 1) (n 1)) (chk (W 2) (H 2) (n 2)) (W 0) (H 0) (W 1) (H 1) (W 2) (H 2))) ∧ Below w.heap.size w w' := by
  obtain ⟨z, hz⟩ : ∃ z : Nat → Int, z = fun i => chk (W i) (H i) (n i) := ⟨_, rfl⟩
  have HC := Lib.hid (fun i (hi : i < 3) u => show Calls Try.prog 69 #[.agg #[.int .i64 (W i), .int .i64 (H i), .slice (A i) (n i) (c i)]] u fun e w' => e = .returned (.int .i64 (z i)) ∧ Below u.heap.size u w' by
    rw [hz]; exact chk_any (W i) (H i) (A i) (n i) (c i) u (hn i hi))
  have HZ0 : ∀ k, chk (W k) (H k) (n k) = z k := fun k => by rw [hz]
  rw [HZ0, HZ0, HZ0]
  clear HZ0 hz hn
  obtain ⟨r, hr⟩ : ∃ r, fitZ (z 0) (z 1) (z 2) (W 0) (H 0) (W 1) (H 1) (W 2) (H 2) = r := ⟨_, rfl⟩
  have HE := Lib.hid (fun k (hk : k < 3) (h0 : ∀ j, j < k → z j = 0) (hz : z k ≠ 0) => show z k = r by rw [← hr]; exact (fitZ_err hk h0 hz).symm)
  have HA := Lib.hid (fun k (hk : k < 3) (h0 : ∀ j, j < 3 → z j = 0) (hs : ¬ (W k = W 0 ∧ H k = H 0)) => show (2 : Int) = r by rw [← hr]; exact (fitZ_arg hk h0 hs).symm)
  have HO := Lib.hid (fun (h0 : ∀ j, j < 3 → z j = 0) (hs : ∀ k, k < 3 → W k = W 0 ∧ H k = H 0) => show (0 : Int) = r by rw [← hr]; exact (fitZ_ok h0 hs).symm)
  rw [hr]
  clear hr
  have HG := Lib.hid hg
  clear hg
  go_enter Try.func90, Try.ntmps90
  go_wp2
  go_loopw [10] (fun i wr => ∃ k : Nat, k ≤ 3 ∧ i = .int .i64 k ∧ Hid (∀ j, j < k → z j = 0) ∧ Hid (Below w.heap.size w wr)) (fun i _ => 3 - (intOf i).toNat)
  case atStart => exact ⟨0, by omega, rfl, Lib.hid (fun j hj => by omega), Lib.hid (Below.refl _ _)⟩
  case round =>
    obtain ⟨k, hk, rfl, HZ, HB⟩ := hrel
    by_cases hlt : k < 3
    · have y1 : (k : Int) < 3 := by omega
      have y2 : (0 : Int) ≤ (k : Int) := by omega
      obtain ⟨c0, c1, c2⟩ := ((HG.out.below HB.out).cells k hlt)
      have hgl := (HG.out.below HB.out).lt
      obtain ⟨zk, hzk⟩ : ∃ q, z k = q := ⟨_, rfl⟩
      have HCk := Lib.hid (HC.out k hlt)
      have HEk := Lib.hid (HE.out k hlt HZ.out)
      rw [hzk] at HCk HEk
      have HK := Lib.hid hzk
      clear hzk
      have HB1 := Lib.hid (HB.out.alloc HB.out.size (.cells #[.int .i64 (W k), .int .i64 (H k), .slice (A k) (n k) (c k)] 24))
      generalize W k = Wk at *
      generalize H k = Hk at *
      generalize A k = Ak at *
      generalize n k = nk at *
      generalize c k = ck at *
      by_cases hz0 : zk = 0
      · subst hz0
        go_wp2_with (go_at_call 69; with_reducible refine Calls.mono (HCk.out _) ?_; rintro e w1 ⟨rfl, hb1⟩)
        have HB2 := Lib.hid (HB1.out.trans (hb1.mono HB1.out.size))
        go_roundw
        case rel => exact ⟨k + 1, by omega, by go_num, Lib.hid (fun j hj => by rcases Nat.lt_or_ge j k with h | h; exact HZ.out j h; rw [show j = k by omega]; exact HK.out), HB2⟩
        case measure => simp [intOf]; omega
      · have hz1 : (zk == 0) = false := by rw [beq_eq_false_iff_ne]; exact hz0
        have hz2 : (zk != 0) = true := by rw [bne, hz1]; rfl
        have HR := Lib.hid (HEk.out hz0)
        go_wp2_with (go_at_call 69; with_reducible refine Calls.mono (HCk.out _) ?_; rintro e w1 ⟨rfl, hb1⟩)
        have HB2 := Lib.hid (HB1.out.trans (hb1.mono HB1.out.size))
        go_ret
        exact ⟨congrArg (fun q => Ending.returned (.int .i64 q)) HR.out, HB2.out⟩
    · have e : k = 3 := by omega
      subst e
      go_wp2
      have HB0 := HB
      clear HB
      go_loopw [22] (fun i wr => ∃ k : Nat, k ≤ 3 ∧ i = .int .i64 k ∧ Hid (∀ j, j < k → W j = W 0 ∧ H j = H 0) ∧ Hid (Below w.heap.size w wr)) (fun i _ => 3 - (intOf i).toNat)
      case atStart => exact ⟨0, by omega, rfl, Lib.hid (fun j hj => by omega), HB0⟩
      case round =>
        obtain ⟨k, hk, rfl, HS, HB⟩ := hrel
        clear HB0
        by_cases hlt : k < 3
        · have y1 : (k : Int) < 3 := by omega
          have y2 : (0 : Int) ≤ (k : Int) := by omega
          have HB1 := Lib.hid (HB.out.alloc HB.out.size (.cells #[.int .i64 (W k), .int .i64 (H k), .slice (A k) (n k) (c k)] 24))
          have X1 := Lib.hid (Box.new wr (W k) (H k) (.slice (A k) (n k) (c k)))
          obtain ⟨c0, c1, c2⟩ := ((HG.out.below HB.out).cells k hlt)
          have hgl := (HG.out.below HB.out).lt
          have HAk := Lib.hid (HA.out k hlt HZ.out)
          have HG1 := Lib.hid ((HG.out.below HB1.out))
          have HSk := Lib.hid (fun (h : W k = W 0 ∧ H k = H 0) j (hj : j < k + 1) => show W j = W 0 ∧ H j = H 0 by rcases Nat.lt_or_ge j k with h' | h'; exact HS.out j h'; rw [show j = k by omega]; exact h)
          obtain ⟨W0, hW0⟩ : ∃ q, W 0 = q := ⟨_, rfl⟩
          obtain ⟨H0, hH0⟩ : ∃ q, H 0 = q := ⟨_, rfl⟩
          obtain ⟨d0, d1, d2⟩ := HG1.out.cells 0 (by omega)
          rw [hW0] at d0 HAk HSk
          rw [hH0] at d1 HAk HSk
          rw [Nat.zero_mul] at d0 d1 d2
          rw [Nat.zero_add] at d1 d2
          generalize A 0 = A0 at d2
          generalize n 0 = n0 at d2
          generalize c 0 = c0' at d2
          clear HG1 HS
          generalize hWk : W k = Wk at *
          generalize hHk : H k = Hk at *
          generalize A k = Ak at *
          generalize n k = nk at *
          generalize c k = ck at *
          go_upto_region 11 with (fail)
          generalize wr.alloc (.cells #[.int .i64 Wk, .int .i64 Hk, .slice Ak nk ck] 24) = w1 at *
          have hX1 := X1.out.lt
          have hG1 : g < w1.heap.size := by omega
          have hsz := hgl
          obtain ⟨I, Wf, i0, h0, BF, CL⟩ := family w1
          have x0 := fun i => (X1.out.below (BF i) hX1).c0
          have x1 := fun i => (X1.out.below (BF i) hX1).c1
          have x2 := fun i => (X1.out.below (BF i) hX1).c2
          have x3 := fun i => ((BF i).cell (p := ⟨g, 0, none⟩) hG1).trans d0
          have x4 := fun i => ((BF i).cell (p := ⟨g, 1, none⟩) hG1).trans d1
          have x5 := fun i => ((BF i).cell (p := ⟨g, 2, none⟩) hG1).trans d2
          have C1 := Lib.hid (fun i => (sides_of Wk Hk Ak nk ck (Wf i)).mono fun e w2 h => (⟨h.1, CL i _ h.2⟩ : _ ∧ ∃ m, w2 = Wf m))
          have C2 := Lib.hid (fun i => (sides_of W0 H0 A0 n0 c0' (Wf i)).mono fun e w2 h => (⟨h.1, CL i _ h.2⟩ : _ ∧ ∃ m, w2 = Wf m))
          have BFH := Lib.hid (fun i => HB1.out.trans ((BF i).mono HB1.out.size))
          clear X1 BF CL HG HB1
          by_cases hsm : Wk = W0 ∧ Hk = H0
          · have HSN := Lib.hid (HSk.out hsm)
            obtain ⟨e1, e2⟩ := hsm
            subst e1 e2
            have heq : ∀ u, (Op.equalIn 10000 46 (.agg #[.int .i64 Wk, .int .i64 Hk]) (.agg #[.int .i64 Wk, .int .i64 Hk])).run Try.prog u = .ok true u := fun u => by
              rw [eq46, beq_self_eq_true, beq_self_eq_true]; rfl
            refine wp_region_fam Wf i0 h0 (by kernel_rfl) (by kernel_rfl) ?_
            clear h0
            repeat (go_big_quiet_step (first | exact rfl | (go_at_call 129; first | with_reducible exact C1.out _ | with_reducible exact C2.out _)))
            refine wpQuiet_nil ?_
            rintro _ ⟨nq, rfl⟩
            go_wp2
            go_roundw
            case rel => exact ⟨k + 1, by omega, by go_num, Lib.hid (fun j hj => by rw [hW0, hH0]; exact HSN.out j hj), Lib.hid (BFH.out nq)⟩
            case measure => simp [intOf]; omega
          · have HR := Lib.hid (HAk.out hsm)
            have heq : ∀ u, (Op.equalIn 10000 46 (.agg #[.int .i64 Wk, .int .i64 Hk]) (.agg #[.int .i64 W0, .int .i64 H0])).run Try.prog u = .ok false u := fun u => by
              rw [eq46]
              rcases Classical.em (Wk = W0) with h1 | h1
              · rw [show (Hk == H0) = false by rw [beq_eq_false_iff_ne]; exact fun h2 => hsm ⟨h1, h2⟩, Bool.and_false]
              · rw [show (Wk == W0) = false by rw [beq_eq_false_iff_ne]; exact h1]; rfl
            refine wp_region_fam Wf i0 h0 (by kernel_rfl) (by kernel_rfl) ?_
            clear h0
            repeat (go_big_quiet_step (first | exact rfl | (go_at_call 129; first | with_reducible exact C1.out _ | with_reducible exact C2.out _)))
            refine wpQuiet_nil ?_
            rintro _ ⟨nq, rfl⟩
            go_wp2
            go_ret
            exact ⟨congrArg (fun q => Ending.returned (.int .i64 q)) HR.out, BFH.out nq⟩
        · have e : k = 3 := by omega
          subst e
          have HR := Lib.hid (HO.out HZ.out HS.out)
          go_wp2
          go_ret
          exact ⟨congrArg (fun q => Ending.returned (.int .i64 q)) HR.out, HB.out⟩
end Go.Proofs.Ytgmcbdnfgdmmaaa
