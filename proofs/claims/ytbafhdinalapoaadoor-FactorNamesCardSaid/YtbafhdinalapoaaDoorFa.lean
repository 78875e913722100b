/- The program's FromLift where it makes a draft; how many kinds the lifts of a draft have. -/
import Derived.Test.YtbafhdinalapoaaDoorKa
import Derived.Test.YtbafhdinalapoaaDoorDb

/- The program's FromLift where it makes a draft. -/
namespace Go.Proofs.YtbafhdinalapoaaDoor
open Go.RowKit
set_option linter.unusedVariables false
set_option linter.unusedSimpArgs false
set_option maxRecDepth 100000

open L2 (fst nd ren nd_le)
/-- The draft that FromLift makes. -/
def flp (W H n : Nat) (th : Nat → Int) (f : Nat → Bool) : PD := ⟨W, nd (rc W f) H, n, H, fun i => (th i).toNat, fun y => (ren (rc W f) y).toNat, fun t s => f (frn (rc W f) H t * W + s)⟩
theorem nd_pos (c : Nat → Int) (H : Nat) (h : 1 ≤ H) : 1 ≤ nd c H := by
  have h0 : ¬ fst c (c 0) 0 < 0 := by omega
  have := nd_mono c h
  rw [nd_succ_new h0] at this
  omega
theorem flp_ok {W H n : Nat} {th : Nat → Int} {f : Nat → Bool} (hW0 : 1 ≤ W) (hW : W ≤ 40) (hH0 : 1 ≤ H) (hH : H ≤ 64) (hK : nd (rc W f) H ≤ 40) (hn : n ≤ 64) (hw : wi n th W = true) : (flp W H n th f).Ok := by
  unfold wi at hw
  simp only [decide_eq_true_eq] at hw
  refine ⟨hW0, hW, nd_pos _ _ hH0, hK, by show 1 ≤ n; omega, hn, hH0, hH, fun i hi => ?_, fun y hy => ?_⟩
  · have := hw.2 i hi
    show (th i).toNat < W
    omega
  · obtain ⟨k, h1, h2, _⟩ := ren_at (rc W f) H y hy
    show (ren (rc W f) y).toNat < nd (rc W f) H
    rw [h1]
    omega

end Go.Proofs.YtbafhdinalapoaaDoor

/- How many kinds of rows the lifts of a draft have; what FromLift makes of them. -/
namespace Go.Proofs.YtbafhdinalapoaaDoor
open Go.RowKit
set_option linter.unusedVariables false
set_option linter.unusedSimpArgs false
set_option maxRecDepth 100000

open L2 (fst nd ren nd_le fst_at fst_no fst_le)
theorem seen_iff (c : Nat → Int) (x : Int) (m : Nat) : fst c x m < m ↔ ∃ j, j < m ∧ c j = x := by
  constructor
  · intro h; exact ⟨_, h, fst_at c x m h⟩
  · rintro ⟨j, hj, e⟩
    rcases Nat.lt_or_ge (fst c x m) m with h | h
    · exact h
    · exact absurd e (fst_no c x m j (by omega))
theorem nd_le_nd (c d : Nat → Int) (m : Nat) (h : ∀ y z, y < m → z < m → d y = d z → c y = c z) : nd c m ≤ nd d m := by
  induction m with
  | zero => simp [nd]
  | succ m ih =>
    have ih := ih fun y z hy hz => h y z (by omega) (by omega)
    by_cases h1 : fst d (d m) m < m
    · obtain ⟨j, hj, e⟩ := (seen_iff d _ m).1 h1
      have h2 : fst c (c m) m < m := (seen_iff c _ m).2 ⟨j, hj, h j m (by omega) (by omega) e⟩
      rw [nd_succ_old h1, nd_succ_old h2]; exact ih
    · rw [nd_succ_new h1]
      by_cases h2 : fst c (c m) m < m
      · rw [nd_succ_old h2]; omega
      · rw [nd_succ_new h2]; omega
/-- How many numbers below T are among the first m. -/
def cnt (d : Nat → Nat) (m : Nat) : Nat → Nat
  | 0 => 0
  | T + 1 => cnt d m T + if decide (∃ j, j < m ∧ d j = T) then 1 else 0
theorem cnt_le (d : Nat → Nat) (m T : Nat) : cnt d m T ≤ T := by
  induction T with
  | zero => simp [cnt]
  | succ T ih => unfold cnt; split <;> omega
theorem cnt_zero (d : Nat → Nat) (T : Nat) : cnt d 0 T = 0 := by
  induction T with
  | zero => rfl
  | succ T ih => unfold cnt; rw [ih]; simp
theorem cnt_old (d : Nat → Nat) (m T : Nat) (h : ∃ j, j < m ∧ d j = d m) : cnt d (m + 1) T = cnt d m T := by
  induction T with
  | zero => rfl
  | succ T ih =>
    unfold cnt
    rw [ih]
    have e : (∃ j, j < m + 1 ∧ d j = T) ↔ ∃ j, j < m ∧ d j = T := by
      constructor
      · rintro ⟨j, hj, e⟩
        rcases Nat.lt_succ_iff_lt_or_eq.1 hj with h1 | rfl
        · exact ⟨j, h1, e⟩
        · obtain ⟨q, hq, e2⟩ := h
          exact ⟨q, hq, e2.trans e⟩
      · rintro ⟨j, hj, e⟩; exact ⟨j, by omega, e⟩
    simp only [e]
theorem cnt_new (d : Nat → Nat) (m T : Nat) (h : ¬ ∃ j, j < m ∧ d j = d m) : cnt d (m + 1) T = cnt d m T + if d m < T then 1 else 0 := by
  induction T with
  | zero => simp [cnt]
  | succ T ih =>
    unfold cnt
    rw [ih]
    by_cases e : d m = T
    · have h1 : (∃ j, j < m + 1 ∧ d j = T) := ⟨m, by omega, e⟩
      have h2 : ¬ ∃ j, j < m ∧ d j = T := fun ⟨j, hj, e2⟩ => h ⟨j, hj, e2.trans e.symm⟩
      simp only [h1, h2, decide_true, decide_false, if_true]
      rw [if_neg (show ¬ d m < T by omega), if_pos (show d m < T + 1 by omega)]
      simp
    · have h3 : (∃ j, j < m + 1 ∧ d j = T) ↔ ∃ j, j < m ∧ d j = T := by
        constructor
        · rintro ⟨j, hj, e2⟩
          rcases Nat.lt_succ_iff_lt_or_eq.1 hj with h1 | rfl
          · exact ⟨j, h1, e2⟩
          · exact absurd e2 e
        · rintro ⟨j, hj, e2⟩; exact ⟨j, by omega, e2⟩
      simp only [h3]
      have h4 : (d m < T + 1) ↔ d m < T := by omega
      simp only [h4]
      omega
theorem nd_cnt (d : Nat → Nat) (m T : Nat) (h : ∀ j, j < m → d j < T) : nd (fun j => (d j : Nat)) m = cnt d m T := by
  induction m with
  | zero => rw [cnt_zero]; rfl
  | succ m ih =>
    have ih := ih fun j hj => h j (by omega)
    have hs := seen_iff (fun j => (d j : Int)) (d m : Nat) m
    by_cases h1 : ∃ j, j < m ∧ d j = d m
    · have h2 : fst (fun j => (d j : Int)) (d m : Nat) m < m := hs.2 (by obtain ⟨j, hj, e⟩ := h1; exact ⟨j, hj, by show ((d j : Nat) : Int) = _; rw [e]⟩)
      rw [cnt_old d m T h1, nd_succ_old (c := fun j => (d j : Int)) h2, ih]
    · have h2 : ¬ fst (fun j => (d j : Int)) (d m : Nat) m < m := fun h => h1 (by obtain ⟨j, hj, e⟩ := hs.1 h; exact ⟨j, hj, by have e : ((d j : Nat) : Int) = ((d m : Nat) : Int) := e; omega⟩)
      rw [cnt_new d m T h1, nd_succ_new (c := fun j => (d j : Int)) h2, ih, if_pos (h m (by omega))]
/-- The lifts of a draft. -/
def PD.lf (P : PD) (i : Nat) : Bool := P.L (P.G (i / P.S)) (i % P.S)
theorem PD.lf_at (P : PD) {y s : Nat} (hs : s < P.S) : P.lf (y * P.S + s) = P.L (P.G y) s := by
  unfold PD.lf
  have h1 : (y * P.S + s) % P.S = s := by rw [Nat.mul_comm, Nat.mul_add_mod, Nat.mod_eq_of_lt hs]
  have h2 : (y * P.S + s) / P.S = y := by rw [Nat.mul_comm, Nat.mul_add_div (by omega), Nat.div_eq_of_lt hs]; omega
  rw [h1, h2]
theorem kinds_le {P : PD} (hP : P.Ok) : nd (rc P.S P.lf) P.m ≤ P.T := by
  refine Nat.le_trans (nd_le_nd _ (fun j => (P.G j : Nat)) P.m fun y z _ _ e => ?_) ?_
  · rw [rc_eq]
    unfold rsm
    rw [decide_eq_true_iff]
    intro i hi
    have e : P.G y = P.G z := by have e : ((P.G y : Nat) : Int) = ((P.G z : Nat) : Int) := e; omega
    rw [P.lf_at hi, P.lf_at hi, e]
  · rw [nd_cnt P.G P.m P.T hP.g]
    exact cnt_le _ _ _
/-- What FromLift makes of the threading and the lifts of a draft. -/
def PD.made (P : PD) (th : Nat → Int) : PD := flp P.S P.m P.n th P.lf
theorem wi_of {P : PD} (hP : P.Ok) {th : Nat → Int} (h : ∀ i, i < P.n → th i = P.F i) : wi P.n th P.S = true := by
  unfold wi
  rw [decide_eq_true_iff]
  have := hP.n0
  exact ⟨by omega, fun i hi => by have := hP.f i hi; rw [h i hi]; omega⟩
theorem made_ok {P : PD} (hP : P.Ok) {th : Nat → Int} (h : ∀ i, i < P.n → th i = P.F i) : (P.made th).Ok :=
  flp_ok hP.s0 hP.s1 hP.m0 hP.m1 (Nat.le_trans (kinds_le hP) hP.t1) hP.n1 (wi_of hP h)
theorem made_row {P : PD} (th : Nat → Int) {y s : Nat} (hy : y < P.m) (hs : s < P.S) : (P.made th).L ((P.made th).G y) s = P.L (P.G y) s := by
  obtain ⟨k, h1, h2, h3⟩ := ren_at (rc P.S P.lf) P.m y hy
  show P.lf (frn (rc P.S P.lf) P.m (ren (rc P.S P.lf) y).toNat * P.S + s) = _
  rw [h1]
  have h4 := (rc_eq _ _ _ _).1 h3
  unfold rsm at h4
  rw [decide_eq_true_iff] at h4
  have h5 := h4 s hs
  rw [Int.toNat_natCast, h5, P.lf_at hs]
theorem made_weave {P : PD} (hP : P.Ok) {th : Nat → Int} (h : ∀ i, i < P.n → th i = P.F i) (i : Nat) (hi : i < P.n * P.m) :
    (P.made th).L ((P.made th).G (i / P.n)) ((P.made th).F (i % P.n)) = P.L (P.G (i / P.n)) (P.F (i % P.n)) := by
  have hn := hP.n0
  have h1 : i % P.n < P.n := Nat.mod_lt _ (by omega)
  have h2 : i / P.n < P.m := Nat.div_lt_of_lt_mul hi
  have e : (P.made th).F (i % P.n) = P.F (i % P.n) := by show (th (i % P.n)).toNat = _; rw [h _ h1]; rfl
  rw [e, made_row th h2 (hP.f _ h1)]
theorem made_lift {P : PD} (hP : P.Ok) (th : Nat → Int) (i : Nat) (hi : i < P.S * P.m) : (P.made th).L ((P.made th).G (i / P.S)) (i % P.S) = P.lf i := by
  have hs := hP.s0
  have h1 : i % P.S < P.S := Nat.mod_lt _ (by omega)
  have h2 : i / P.S < P.m := Nat.div_lt_of_lt_mul hi
  rw [made_row th h2 h1]
  rfl
end Go.Proofs.YtbafhdinalapoaaDoor
