/- The lattice of a satin and of a twill: no program. -/
import Derived.Test.YtmakjdfkldacaaaStm
import Derived.Test.YtmakjdfkldacaaaPb
namespace Go.Proofs.Ytmakjdfkldacaaa
open Go.RowKit
set_option maxRecDepth 100000
set_option linter.unusedVariables false
set_option linter.unusedSimpArgs false

/-- The plane of a satin of n and m that begins at t, up and down exchanged unless u. -/
def Sat (n m : Nat) (t : Int) (u : Bool) (f : Nat → Bool) : Prop := ∀ x y : Int, pz n n f x y = (decide ((x - m * y - t) % (n : Int) = 0) == u)
theorem beq_inj {a b u : Bool} : ((a == u) = (b == u)) ↔ a = b := by cases a <;> cases b <;> cases u <;> simp
theorem Sat.rp {n m : Nat} {t : Int} {u : Bool} {f : Nat → Bool} (h : Sat n m t u f) (hn : 1 ≤ n) (a b : Int) : Rp n n f a b ↔ (a - m * b) % (n : Int) = 0 := by
  unfold Rp
  constructor
  · intro k
    have e := k t 0
    rw [h, h, beq_inj] at e
    have e1 : (t - m * 0 - t) % (n : Int) = 0 := by simp
    rw [decide_eq_true e1] at e
    have e2 := of_decide_eq_true e
    rwa [show t + a - m * (0 + b) - t = a - m * b by rw [Int.zero_add]; omega] at e2
  · intro k x y
    rw [h, h, beq_inj]
    congr 1
    apply propext
    have e : x + a - m * (y + b) - t = (x - m * y - t) + (a - m * b) := by rw [Int.mul_add]; omega
    rw [e]
    obtain ⟨q, hq⟩ := Int.dvd_of_emod_eq_zero k
    rw [hq, Int.add_mul_emod_self_left]
theorem Sat.rep {n m : Nat} {t : Int} {u : Bool} {f : Nat → Bool} (h : Sat n m t u f) (hn : 1 ≤ n) (a b : Nat) : rep n n f a b ↔ ((a : Int) - m * b) % (n : Int) = 0 := by
  rw [rep_iff hn hn, h.rp hn]
theorem small_mod {n : Nat} {v : Int} (h : v % (n : Int) = 0) (h0 : -(n : Int) < v) (h1 : v < n) : v = 0 := by
  obtain ⟨q, rfl⟩ := Int.dvd_of_emod_eq_zero h
  have hn : (0 : Int) < n := by omega
  have h2 : q < 1 := by
    apply Int.lt_of_mul_lt_mul_left (a := (n : Int)) _ (by omega)
    omega
  have h3 : -1 < q := by
    apply Int.lt_of_mul_lt_mul_left (a := (n : Int)) _ (by omega)
    omega
  have : q = 0 := by omega
  subst this; simp
/-- The lattice of a satin. -/
theorem Sat.isL {n m : Nat} {t : Int} {u : Bool} {f : Nat → Bool} (h : Sat n m t u f) (hn : 1 ≤ n) (hm : m < n) : IsL n n f n m 1 where
  a0 := hn
  aw := Nat.le_refl _
  ra := (h.rep hn _ _).2 (by simp)
  la := fun a h1 h2 k => by
    have k := small_mod ((h.rep hn _ _).1 k) (by simp; omega) (by simp; omega)
    simp at k; omega
  c0 := Nat.le_refl _
  ch := hn
  ba := hm
  rc := (h.rep hn _ _).2 (by simp)
  lb := fun b hb k => by
    have k := small_mod ((h.rep hn _ _).1 k) (by simp; omega) (by simp; omega)
    simp at k; omega
  lc := fun c h1 h2 => by omega
/-- The cells of a satin. -/
def stf (n m : Nat) (i : Nat) : Bool := decide (i % n = m * (i / n) % n)
theorem pz_lt {W H : Nat} (f : Nat → Bool) (x y : Int) : pz W H f x y = f ((y % (H : Int)).toNat * W + (x % (W : Int)).toNat) := rfl
theorem at_xy {n a b : Nat} (ha : a < n) : (b * n + a) % n = a ∧ (b * n + a) / n = b := by
  rw [Nat.add_comm, Nat.add_mul_mod_self_right, Nat.mod_eq_of_lt ha, Nat.add_mul_div_right _ _ (by omega), Nat.div_eq_of_lt ha]
  exact ⟨rfl, by omega⟩
theorem stf_sat {n m : Nat} (hn : 1 ≤ n) : Sat n m 0 true (stf n m) := by
  intro x y
  have hx0 := Int.emod_nonneg x (show (n : Int) ≠ 0 by omega)
  have hx1 := Int.emod_lt_of_pos x (show 0 < (n : Int) by omega)
  have hy0 := Int.emod_nonneg y (show (n : Int) ≠ 0 by omega)
  have hy1 := Int.emod_lt_of_pos y (show 0 < (n : Int) by omega)
  obtain ⟨a, ha⟩ := Int.eq_ofNat_of_zero_le hx0
  obtain ⟨b, hb⟩ := Int.eq_ofNat_of_zero_le hy0
  have han : a < n := by omega
  rw [pz_lt, ha, hb]
  simp only [Int.ofNat_eq_natCast, Int.toNat_natCast]
  unfold stf
  rw [(at_xy han).1, (at_xy han).2, beq_true]
  congr 1
  apply propext
  have e : (x - m * y - 0) % (n : Int) = ((a : Int) - m * b) % n := by
    have h1 := Int.emod_add_mul_ediv x n
    have h2 := Int.emod_add_mul_ediv y n
    rw [ha] at h1
    rw [hb] at h2
    have h3 : x - m * y - 0 = ((a : Int) - m * b) + n * (x / n - m * (y / n)) := by
      rw [Int.mul_sub]
      have h4 : (m : Int) * y = m * b + n * (m * (y / n)) := by
        rw [Int.mul_left_comm (n : Int), ← Int.mul_add]
        exact congrArg (fun t => (m : Int) * t) h2.symm
      omega
    rw [h3, Int.add_mul_emod_self_left]
  rw [e]
  constructor
  · intro h
    rw [Int.emod_eq_zero_of_dvd]
    have h2 : ((m * b % n : Nat) : Int) = (m * b : Int) % n := by simp
    rw [h, h2]
    have := Int.emod_add_mul_ediv ((m : Int) * b) n
    exact ⟨-((m : Int) * b / n), by rw [Int.mul_neg]; omega⟩
  · intro h
    obtain ⟨q, hq⟩ := Int.dvd_of_emod_eq_zero h
    have : ((m * b % n : Nat) : Int) = (a : Int) := by
      rw [Int.natCast_emod, Int.natCast_mul, show (m : Int) * b = a + n * (-q) by rw [Int.mul_neg]; omega, Int.add_mul_emod_self_left]
      exact Int.emod_eq_of_lt (by omega) (by omega)
    omega
/-- Planes that are the same at the cells of the grid. -/
theorem pz_cong {W H : Nat} {f g : Nat → Bool} (hW : 1 ≤ W) (hH : 1 ≤ H) (h : ∀ i, i < W * H → f i = g i) (x y : Int) : pz W H f x y = pz W H g x y := by
  have hx0 := Int.emod_nonneg x (show (W : Int) ≠ 0 by omega)
  have hx1 := Int.emod_lt_of_pos x (show 0 < (W : Int) by omega)
  have hy0 := Int.emod_nonneg y (show (H : Int) ≠ 0 by omega)
  have hy1 := Int.emod_lt_of_pos y (show 0 < (H : Int) by omega)
  rw [pz_lt, pz_lt]
  refine h _ ?_
  have h1 : (y % (H : Int)).toNat + 1 ≤ H := by omega
  have h2 := Nat.mul_le_mul_right W h1
  rw [Nat.add_mul, Nat.one_mul, Nat.mul_comm H W] at h2
  omega
theorem Sat.cong {n m : Nat} {t : Int} {u : Bool} {f g : Nat → Bool} (h : Sat n m t u f) (hn : 1 ≤ n) (e : ∀ i, i < n * n → f i = g i) : Sat n m t u g := fun x y => by rw [← pz_cong hn hn e, h]
theorem Sat.nt {n m : Nat} {t : Int} {u : Bool} {f : Nat → Bool} (h : Sat n m t u f) : Sat n m t (!u) (fun i => !f i) := fun x y => by
  have e := h x y
  rw [pz_lt] at e
  show (!f ((y % (n : Int)).toNat * n + (x % (n : Int)).toNat)) = _
  rw [e]; cases decide ((x - m * y - t) % (n : Int) = 0) <;> cases u <;> rfl
/-- How many of n neighbouring cells of a row are up. -/
theorem cnt_eq (q n : Nat) : cnt (fun j => decide (j = q)) n = if q < n then 1 else 0 := by
  induction n with
  | zero => rfl
  | succ n ih =>
    rw [cnt_s, ih]
    by_cases e : n = q
    · subst e; simp
    · by_cases e2 : q < n
      · simp [e, e2]; omega
      · simp [e, e2]; omega
theorem cnt_not (p : Nat → Bool) (n : Nat) : cnt p n + cnt (fun j => !p j) n = n := by
  induction n with
  | zero => rfl
  | succ n ih =>
    rw [cnt_s, cnt_s]
    cases p n <;> simp <;> omega
theorem cnt_line {n : Nat} (hn : 1 ≤ n) (v : Int) (p : Nat → Bool) (h : ∀ j, j < n → p j = decide (((j : Int) - v) % (n : Int) = 0)) : cnt p n = 1 := by
  have h0 := Int.emod_nonneg v (show (n : Int) ≠ 0 by omega)
  have h1 := Int.emod_lt_of_pos v (show 0 < (n : Int) by omega)
  rw [cnt_congr (q := fun j => decide (j = (v % (n : Int)).toNat)) fun j hj => ?_, cnt_eq, if_pos (by omega)]
  rw [h j hj]
  congr 1
  apply propext
  rw [Int.sub_emod, Int.emod_eq_of_lt (show (0 : Int) ≤ j by omega) (show (j : Int) < n by omega)]
  constructor
  · intro k
    have := small_mod k (by omega) (by omega)
    omega
  · intro k
    rw [show (j : Int) - v % n = 0 by omega]; simp
theorem Sat.row {n m : Nat} {t : Int} {u : Bool} {f : Nat → Bool} (h : Sat n m t u f) (hn : 1 ≤ n) (y : Int) : cnt (fun x => pz n n f x y) n = if u = true then 1 else n - 1 := by
  have e : ∀ j, decide ((((j : Nat) : Int) - m * y - t) % (n : Int) = 0) = decide (((j : Int) - (m * y + t)) % (n : Int) = 0) := fun j => by rw [Int.sub_sub]
  cases u
  · have k := cnt_not (fun x : Nat => pz n n f x y) n
    rw [cnt_line hn (m * y + t) (fun x : Nat => !pz n n f x y) fun j hj => by
      show (!pz n n f j y) = _
      rw [h, ← e]; cases decide ((((j : Nat) : Int) - m * y - t) % (n : Int) = 0) <;> rfl] at k
    simp; omega
  · rw [cnt_line hn (m * y + t) _ fun j hj => by rw [h, ← e, beq_true]]; rfl
end Go.Proofs.Ytmakjdfkldacaaa
