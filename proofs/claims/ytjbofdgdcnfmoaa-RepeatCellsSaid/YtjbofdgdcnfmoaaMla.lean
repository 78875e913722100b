/- The lattice of a plane: its steps are the repeats (arithmetic alone). -/
import Derived.Test.YtjbofdgdcnfmoaaRla
import Derived.Test.YtjbofdgdcnfmoaaLin
namespace Go.Proofs.Ytjbofdgdcnfmoaa
open Go.RowKit
set_option maxRecDepth 100000
set_option linter.unusedVariables false
set_option linter.unusedSimpArgs false

/-- A cell of the plane, at any place. -/
def pz (W H : Nat) (f : Nat → Bool) (x y : Int) : Bool := f ((y % (H : Int)).toNat * W + (x % (W : Int)).toNat)
theorem pz_nat (W H : Nat) (f : Nat → Bool) (x y : Nat) : pz W H f x y = pc W H f x y := by
  unfold pz pc
  rw [show ((y : Int) % (H : Int)).toNat = y % H by omega, show ((x : Int) % (W : Int)).toNat = x % W by omega]
theorem pz_mod {W H : Nat} {f : Nat → Bool} {x y x' y' : Int} (hx : x % (W : Int) = x' % (W : Int)) (hy : y % (H : Int) = y' % (H : Int)) : pz W H f x y = pz W H f x' y' := by
  unfold pz
  rw [hx, hy]
/-- The step is a repeat of the plane. -/
def Rp (W H : Nat) (f : Nat → Bool) (a b : Int) : Prop := ∀ x y, pz W H f (x + a) (y + b) = pz W H f x y
theorem Rp.zero (W H : Nat) (f : Nat → Bool) : Rp W H f 0 0 := fun x y => by rw [Int.add_zero, Int.add_zero]
theorem Rp.add {W H : Nat} {f : Nat → Bool} {a b c d : Int} (h : Rp W H f a b) (k : Rp W H f c d) : Rp W H f (a + c) (b + d) := fun x y => by
  rw [← Int.add_assoc, ← Int.add_assoc, k, h]
theorem Rp.neg {W H : Nat} {f : Nat → Bool} {a b : Int} (h : Rp W H f a b) : Rp W H f (-a) (-b) := fun x y => by
  rw [← h (x + -a) (y + -b), Int.neg_add_cancel_right, Int.neg_add_cancel_right]
theorem Rp.sub {W H : Nat} {f : Nat → Bool} {a b c d : Int} (h : Rp W H f a b) (k : Rp W H f c d) : Rp W H f (a - c) (b - d) := by
  rw [Int.sub_eq_add_neg, Int.sub_eq_add_neg]; exact h.add k.neg
theorem Rp.nmul {W H : Nat} {f : Nat → Bool} {a b : Int} (h : Rp W H f a b) (n : Nat) : Rp W H f (n * a) (n * b) := by
  induction n with
  | zero => rw [Int.natCast_zero, Int.zero_mul, Int.zero_mul]; exact Rp.zero W H f
  | succ n ih =>
    rw [Int.natCast_add, Int.add_mul, Int.add_mul, Int.natCast_one, Int.one_mul, Int.one_mul]
    exact ih.add h
theorem Rp.mul {W H : Nat} {f : Nat → Bool} {a b : Int} (h : Rp W H f a b) (k : Int) : Rp W H f (k * a) (k * b) := by
  rcases Int.eq_nat_or_neg k with ⟨n, rfl | rfl⟩
  · exact h.nmul n
  · rw [Int.neg_mul, Int.neg_mul]; exact (h.nmul n).neg
theorem Rp.cast {W H : Nat} {f : Nat → Bool} {a b c d : Int} (h : Rp W H f a b) (e : a = c) (k : b = d) : Rp W H f c d := by subst e; subst k; exact h
theorem Rp.side (W H : Nat) (f : Nat → Bool) : Rp W H f W 0 := fun x y => pz_mod (by rw [Int.add_emod_right]) (by rw [Int.add_zero])
theorem Rp.foot (W H : Nat) (f : Nat → Bool) : Rp W H f 0 H := fun x y => pz_mod (by rw [Int.add_zero]) (by rw [Int.add_emod_right])
theorem rep_iff {W H : Nat} {f : Nat → Bool} (hW0 : 1 ≤ W) (hH0 : 1 ≤ H) (a b : Nat) : rep W H f a b ↔ Rp W H f a b := by
  constructor
  · intro h x y
    have hx0 := Int.emod_nonneg x (show (W : Int) ≠ 0 by omega)
    have hx1 := Int.emod_lt_of_pos x (show 0 < (W : Int) by omega)
    have hy0 := Int.emod_nonneg y (show (H : Int) ≠ 0 by omega)
    have hy1 := Int.emod_lt_of_pos y (show 0 < (H : Int) by omega)
    have e := h (x % (W : Int)).toNat (by omega) (y % (H : Int)).toNat (by omega)
    rw [← pz_nat, ← pz_nat, Int.natCast_add, Int.natCast_add, Int.toNat_of_nonneg hx0, Int.toNat_of_nonneg hy0] at e
    rw [pz_mod (x' := x % (W : Int) + a) (y' := y % (H : Int) + b) (by rw [Int.emod_add_emod]) (by rw [Int.emod_add_emod]), ← e]
    exact pz_mod (Int.emod_emod_of_dvd _ (Int.dvd_refl _)) (Int.emod_emod_of_dvd _ (Int.dvd_refl _))
  · intro h x _ y _
    have e := h x y
    rw [← Int.natCast_add, ← Int.natCast_add, pz_nat, pz_nat] at e
    exact e.symm
/-- The repeats are the steps of the lattice. -/
theorem IsL.mem {W H : Nat} {f : Nat → Bool} {A B C : Nat} (h : IsL W H f A B C) (hH0 : 1 ≤ H) (dx dy : Int) : Rp W H f dx dy ↔ inn A B C dx dy = true := by
  have hW0 : 1 ≤ W := Nat.le_trans h.a0 h.aw
  have ra := (rep_iff hW0 hH0 A 0).1 h.ra
  have rc := (rep_iff hW0 hH0 B C).1 h.rc
  have ha0 := h.a0
  have hc0 := h.c0
  rw [show ((0 : Nat) : Int) = 0 from rfl] at ra
  unfold inn
  rw [decide_eq_true_iff]
  constructor
  · intro k
    have hr0 := Int.emod_nonneg dy (show (C : Int) ≠ 0 by omega)
    have hr1 := Int.emod_lt_of_pos dy (show 0 < (C : Int) by omega)
    have k1 : Rp W H f (dx - dy / C * B) (dy % (C : Int)) := (k.sub (rc.mul (dy / C))).cast rfl (by have := Int.mul_ediv_add_emod dy C; have := Int.mul_comm (C : Int) (dy / C); omega)
    generalize hs : dx - dy / C * B = s at k1 ⊢
    have ha1 := Int.emod_nonneg s (show (A : Int) ≠ 0 by omega)
    have ha2 := Int.emod_lt_of_pos s (show 0 < (A : Int) by omega)
    have k2 : Rp W H f (s % (A : Int)) (dy % (C : Int)) := (k1.sub (ra.mul (s / A))).cast (by have := Int.mul_ediv_add_emod s A; have := Int.mul_comm (A : Int) (s / A); omega) (by omega)
    obtain ⟨p, hp⟩ := Int.eq_ofNat_of_zero_le ha1
    obtain ⟨r, hr⟩ := Int.eq_ofNat_of_zero_le hr0
    rw [hp, hr] at k2
    have k3 := (rep_iff hW0 hH0 p r).2 k2
    have er : r = 0 := by
      rcases Nat.eq_zero_or_pos r with e | e
      · exact e
      · exact absurd k3 (h.lc r e (by omega) p (by omega))
    subst er
    have ep : p = 0 := by
      rcases Nat.eq_zero_or_pos p with e | e
      · exact e
      · exact absurd k3 (h.la p e (by omega))
    omega
  · rintro ⟨e1, e2⟩
    have t1 := (rc.mul (dy / C)).add (ra.mul ((dx - dy / C * B) / A))
    refine t1.cast ?_ ?_
    · have := Int.mul_ediv_add_emod (dx - dy / C * B) A
      have := Int.mul_comm (A : Int) ((dx - dy / C * B) / A)
      omega
    · have := Int.mul_ediv_add_emod dy C
      have := Int.mul_comm (C : Int) (dy / C)
      omega
theorem IsL.same {W H W' H' : Nat} {f f' : Nat → Bool} {A B C A' B' C' : Nat} (h : IsL W H f A B C) (k : IsL W' H' f' A' B' C') (e : ∀ a b : Nat, rep W H f a b ↔ rep W' H' f' a b) : A = A' ∧ B = B' ∧ C = C' := by
  have eA : A = A' := by
    rcases Nat.lt_trichotomy A A' with i | i | i
    · exact absurd ((e _ _).1 h.ra) (k.la A h.a0 i)
    · exact i
    · exact absurd ((e _ _).2 k.ra) (h.la A' k.a0 i)
  subst eA
  have eC : C = C' := by
    rcases Nat.lt_trichotomy C C' with i | i | i
    · exact absurd ((e _ _).1 h.rc) (k.lc C h.c0 i B h.ba)
    · exact i
    · exact absurd ((e _ _).2 k.rc) (h.lc C' k.c0 i B' k.ba)
  subst eC
  have eB : B = B' := by
    rcases Nat.lt_trichotomy B B' with i | i | i
    · exact absurd ((e _ _).1 h.rc) (k.lb B i)
    · exact i
    · exact absurd ((e _ _).2 k.rc) (h.lb B' i)
  exact ⟨rfl, eB, rfl⟩
/-- The plane of the first, moved by the step, is the second. -/
def Mt (W H : Nat) (f : Nat → Bool) (W' H' : Nat) (f' : Nat → Bool) (a b : Int) : Prop := ∀ x y, pz W H f x y = pz W' H' f' (x + a) (y + b)
theorem Mt.rp {W H W' H' : Nat} {f f' : Nat → Bool} {a b : Int} (h : Mt W H f W' H' f' a b) (c d : Int) : Rp W H f c d ↔ Rp W' H' f' c d := by
  constructor
  · intro k x y
    have e := k (x - a) (y - b)
    rw [h, h] at e
    rw [show x - a + c + a = x + c by omega, show y - b + d + b = y + d by omega, show x - a + a = x by omega, show y - b + b = y by omega] at e
    exact e
  · intro k x y
    rw [h, h, show x + c + a = x + a + c by omega, show y + d + b = y + b + d by omega]
    exact k _ _
theorem Mt.rep {W H W' H' : Nat} {f f' : Nat → Bool} {a b : Int} (h : Mt W H f W' H' f' a b) (hW : 1 ≤ W) (hH : 1 ≤ H) (hW' : 1 ≤ W') (hH' : 1 ≤ H') (c d : Nat) : rep W H f c d ↔ rep W' H' f' c d := by
  rw [rep_iff hW hH, rep_iff hW' hH']; exact h.rp c d
/-- Any place of the plane has its cell within A columns and C rows. -/
theorem IsL.red {W H : Nat} {f : Nat → Bool} {A B C : Nat} (h : IsL W H f A B C) (hH0 : 1 ≤ H) (x y : Int) : pz W H f x y = pz W H f ((x - y / C * B) % (A : Int)) (y % (C : Int)) := by
  have ha0 := h.a0
  have hc0 := h.c0
  have k : Rp W H f (y / C * B + A * ((x - y / C * B) / A)) (C * (y / C)) := (h.mem hH0 _ _).2 (by
    unfold inn
    rw [decide_eq_true_iff, Int.mul_ediv_cancel_left _ (show (C : Int) ≠ 0 by omega)]
    refine ⟨Int.mul_emod_right _ _, ?_⟩
    rw [show y / C * B + A * ((x - y / C * B) / A) - y / C * B = A * ((x - y / C * B) / A) by omega]
    exact Int.mul_emod_right _ _)
  have e := k ((x - y / C * B) % (A : Int)) (y % (C : Int))
  rw [← e]
  congr 1
  · have := Int.mul_ediv_add_emod (x - y / C * B) A
    omega
  · have := Int.mul_ediv_add_emod y C
    omega
/-- Planes of the same lattice are the same if A columns and C rows are. -/
theorem mt_of {W H W' H' : Nat} {f f' : Nat → Bool} {A B C : Nat} (h : IsL W H f A B C) (k : IsL W' H' f' A B C) (hH : 1 ≤ H) (hH' : 1 ≤ H') (a b : Nat) (e : ∀ y, y < C → ∀ x, x < A → pc W H f x y = pc W' H' f' (a + x) (y + b)) : Mt W H f W' H' f' a b := by
  intro x y
  have ha0 := h.a0
  have hc0 := h.c0
  have h1 := h.red hH x y
  have hs0 := Int.emod_nonneg (x - y / C * B) (show (A : Int) ≠ 0 by omega)
  have hs1 := Int.emod_lt_of_pos (x - y / C * B) (show 0 < (A : Int) by omega)
  have hr0 := Int.emod_nonneg y (show (C : Int) ≠ 0 by omega)
  have hr1 := Int.emod_lt_of_pos y (show 0 < (C : Int) by omega)
  have k1 : Rp W' H' f' (y / C * B + A * ((x - y / C * B) / A)) (C * (y / C)) := (k.mem hH' _ _).2 (by
    unfold inn
    rw [decide_eq_true_iff, Int.mul_ediv_cancel_left _ (show (C : Int) ≠ 0 by omega)]
    refine ⟨Int.mul_emod_right _ _, ?_⟩
    rw [show y / C * B + A * ((x - y / C * B) / A) - y / C * B = A * ((x - y / C * B) / A) by omega]
    exact Int.mul_emod_right _ _)
  have t1 := Int.mul_ediv_add_emod (x - y / C * B) A
  have t2 := Int.mul_ediv_add_emod y C
  obtain ⟨s, hs⟩ := Int.eq_ofNat_of_zero_le hs0
  obtain ⟨r, hr⟩ := Int.eq_ofNat_of_zero_le hr0
  rw [hs, hr, pz_nat, e r (by omega) s (by omega), ← pz_nat, Int.natCast_add, Int.natCast_add] at h1
  rw [h1]
  have k2 := k1 (a + s) (r + b)
  rw [← k2]
  congr 1
  · omega
  · omega
theorem mt_iff {W H W' H' : Nat} {f f' : Nat → Bool} {A B C : Nat} (h : IsL W H f A B C) (k : IsL W' H' f' A B C) (hH : 1 ≤ H) (hH' : 1 ≤ H') (a b : Nat) : (∀ y, y < C → ∀ x, x < A → pc W H f x y = pc W' H' f' (a + x) (y + b)) ↔ Mt W H f W' H' f' a b :=
  ⟨mt_of h k hH hH' a b, fun m y _ x _ => by rw [← pz_nat, ← pz_nat, Int.natCast_add, Int.natCast_add, m, Int.add_comm (x : Int) (a : Int)]⟩
/-- An offset may be taken modulo the lattice. -/
theorem Mt.red {W H W' H' : Nat} {f f' : Nat → Bool} {A B C : Nat} {a b : Int} (h : Mt W H f W' H' f' a b) (k : IsL W' H' f' A B C) (hH' : 1 ≤ H') : ∃ p q : Nat, p < A ∧ q < C ∧ Mt W H f W' H' f' p q ∧ (q : Int) = b % (C : Int) ∧ (p : Int) = (a - b / C * B) % (A : Int) := by
  have ha0 := k.a0
  have hc0 := k.c0
  have hs0 := Int.emod_nonneg (a - b / C * B) (show (A : Int) ≠ 0 by omega)
  have hs1 := Int.emod_lt_of_pos (a - b / C * B) (show 0 < (A : Int) by omega)
  have hr0 := Int.emod_nonneg b (show (C : Int) ≠ 0 by omega)
  have hr1 := Int.emod_lt_of_pos b (show 0 < (C : Int) by omega)
  have k1 : Rp W' H' f' (b / C * B + A * ((a - b / C * B) / A)) (C * (b / C)) := (k.mem hH' _ _).2 (by
    unfold inn
    rw [decide_eq_true_iff, Int.mul_ediv_cancel_left _ (show (C : Int) ≠ 0 by omega)]
    refine ⟨Int.mul_emod_right _ _, ?_⟩
    rw [show b / C * B + A * ((a - b / C * B) / A) - b / C * B = A * ((a - b / C * B) / A) by omega]
    exact Int.mul_emod_right _ _)
  have t1 := Int.mul_ediv_add_emod (a - b / C * B) A
  have t2 := Int.mul_ediv_add_emod b C
  obtain ⟨s, hs⟩ := Int.eq_ofNat_of_zero_le hs0
  obtain ⟨r, hr⟩ := Int.eq_ofNat_of_zero_le hr0
  refine ⟨s, r, by omega, by omega, fun x y => ?_, hr.symm, hs.symm⟩
  rw [h, ← k1 (x + s) (y + r)]
  congr 1
  · omega
  · omega
/-- The sides of the lattice divide those of the grid. -/
theorem IsL.divs {W H : Nat} {f : Nat → Bool} {A B C : Nat} (h : IsL W H f A B C) (hH0 : 1 ≤ H) : W % A = 0 ∧ H % C = 0 ∧ ((H : Int) / C * B) % A = 0 := by
  have e1 := (h.mem hH0 _ _).1 (Rp.side W H f)
  have e2 := (h.mem hH0 _ _).1 (Rp.foot W H f)
  unfold inn at e1 e2
  rw [decide_eq_true_iff] at e1 e2
  have a1 := e1.2
  rw [Int.zero_ediv, Int.zero_mul, Int.sub_zero] at a1
  have a2 := e2.2
  rw [Int.zero_sub] at a2
  refine ⟨by omega, by have := e2.1; omega, ?_⟩
  have := Int.emod_eq_zero_of_dvd (Int.dvd_neg.1 (Int.dvd_of_emod_eq_zero a2))
  exact this
end Go.Proofs.Ytjbofdgdcnfmoaa
