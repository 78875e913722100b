/- The least rectangle and the least cell: arithmetic. -/
import Derived.Test.YtjbofdgdcnfmoaaPb
import Derived.Test.YtjbofdgdcnfmoaaCb
import Derived.Test.YtjbofdgdcnfmoaaCa
namespace Go.Proofs.Ytjbofdgdcnfmoaa
open Go.RowKit
set_option maxRecDepth 100000
set_option linter.unusedVariables false
set_option linter.unusedSimpArgs false

/-- The rows of the least rectangle divide a number of rows. -/
theorem rh_iff {A B C b : Nat} (ha : 1 ≤ A) (hc : 1 ≤ C) : b % rh A B C = 0 ↔ (b % C = 0 ∧ (b / C * B) % A = 0) := by
  have hg : 0 < Nat.gcd A B := Nat.gcd_pos_of_pos_left _ ha
  obtain ⟨p, hp⟩ := Nat.gcd_dvd_left A B
  obtain ⟨q, hq⟩ := Nat.gcd_dvd_right A B
  have hco : Nat.gcd p q = 1 := by
    have h : Nat.gcd (A.gcd B * p) (A.gcd B * q) = Nat.gcd A B := by rw [← hp, ← hq]
    rw [Nat.gcd_mul_left] at h
    exact Nat.eq_of_mul_eq_mul_left hg (by rw [h, Nat.mul_one])
  have e : rh A B C = C * p := by
    have h : C * A / A.gcd B = C * (A / A.gcd B) := Nat.mul_div_assoc _ (Nat.gcd_dvd_left A B)
    have h2 : A / A.gcd B = p := Nat.div_eq_of_eq_mul_right hg hp
    show C * A / A.gcd B = C * p
    rw [h, h2]
  rw [e, ← Nat.dvd_iff_mod_eq_zero, ← Nat.dvd_iff_mod_eq_zero, ← Nat.dvd_iff_mod_eq_zero]
  have key : ∀ k, (A ∣ k * B ↔ p ∣ k) := by
    intro k
    rw [show (A ∣ k * B) = (A.gcd B * p ∣ A.gcd B * (k * q)) by rw [← hp, show A.gcd B * (k * q) = k * (A.gcd B * q) by rw [Nat.mul_left_comm], ← hq]]
    constructor
    · intro h
      exact Nat.Coprime.dvd_of_dvd_mul_right hco (Nat.dvd_of_mul_dvd_mul_left hg h)
    · intro h
      exact Nat.mul_dvd_mul_left _ (Nat.dvd_trans h (Nat.dvd_mul_right _ _))
  constructor
  · rintro ⟨k, rfl⟩
    refine ⟨⟨p * k, by rw [Nat.mul_assoc]⟩, ?_⟩
    rw [Nat.mul_assoc, Nat.mul_div_cancel_left _ hc, key]
    exact Nat.dvd_mul_right _ _
  · rintro ⟨⟨k, rfl⟩, h⟩
    rw [Nat.mul_div_cancel_left _ hc, key] at h
    exact Nat.mul_dvd_mul_left _ h
theorem rh_pos {A B C : Nat} (ha : 1 ≤ A) (hc : 1 ≤ C) : 1 ≤ rh A B C := by
  refine Nat.div_pos ?_ (Nat.gcd_pos_of_pos_left _ ha)
  exact Nat.le_trans (Nat.le_of_dvd ha (Nat.gcd_dvd_left A B)) (Nat.le_mul_of_pos_left _ hc)
theorem rh_div {W H A B C : Nat} {f : Nat → Bool} (hL : IsL W H f A B C) (hH0 : 1 ≤ H) : H % rh A B C = 0 := by
  obtain ⟨_, d2, d3⟩ := hL.divs hH0
  rw [rh_iff hL.a0 hL.c0]
  refine ⟨d2, ?_⟩
  have e : ((H : Int) / C * B) % A = ((H / C * B % A : Nat) : Int) := by rw [Int.natCast_emod, Int.natCast_mul, Int.natCast_ediv]
  rw [e] at d3
  exact Int.ofNat.inj d3
theorem spf_at {W H A B C : Nat} {f : Nat → Bool} (hL : IsL W H f A B C) (hH0 : 1 ≤ H) (x y : Nat) (hx : x < W) (hy : y < H) : spf A C (fun i => pc W H f (i % A) (i / A)) B x y = f (y * W + x) := by
  have ha0 := hL.a0
  have m0 := Int.emod_nonneg ((x : Int) - ((B * (y / C) : Nat) : Int)) (show (A : Int) ≠ 0 by omega)
  have m1 := Int.emod_lt_of_pos ((x : Int) - ((B * (y / C) : Nat) : Int)) (show 0 < (A : Int) by omega)
  show pc W H f ((y % C * A + (((x : Int) - ((B * (y / C) : Nat) : Int)) % (A : Int)).toNat) % A) ((y % C * A + (((x : Int) - ((B * (y / C) : Nat) : Int)) % (A : Int)).toNat) / A) = _
  have e := hL.red hH0 (x : Int) (y : Int)
  have e0 : (x : Int) - (y : Int) / (C : Int) * (B : Int) = (x : Int) - ((B * (y / C) : Nat) : Int) := by rw [Int.natCast_mul, Int.natCast_ediv, Int.mul_comm (B : Int)]
  rw [e0] at e
  have e1 : pz W H f x y = f (y * W + x) := by
    rw [pz_nat]; unfold pc; rw [Nat.mod_eq_of_lt hx, Nat.mod_eq_of_lt hy]
  rw [e1] at e
  obtain ⟨r, hr⟩ := Int.eq_ofNat_of_zero_le m0
  rw [hr] at e m1 ⊢
  rw [show (y : Int) % (C : Int) = ((y % C : Nat) : Int) by omega, pz_nat] at e
  have hrA : r < A := by omega
  rw [Int.toNat_natCast, (co (y % C) hrA).1, (co (y % C) hrA).2, e]
theorem nat_mod_dvd {x a W : Nat} (h : W % a = 0) : x % W % a = x % a := Nat.mod_mod_of_dvd _ (Nat.dvd_of_mod_eq_zero h)
/-- A part at the corner makes the grid by tiling just if the least rectangle's sides divide its own. -/
theorem tile_iff {W H A B C : Nat} {f : Nat → Bool} (hL : IsL W H f A B C) (hH0 : 1 ≤ H) (a b : Nat) (ha : 1 ≤ a) (hb : 1 ≤ b) (hda : W % a = 0) (hdb : H % b = 0) :
    (∀ i, i < W * H → f (i / W % b * W + i % W % a) = f i) ↔ (a % A = 0 ∧ b % rh A B C = 0) := by
  have hW0 := Nat.le_trans hL.a0 hL.aw
  have ma := hL.mem hH0 (a : Int) 0
  have mb := hL.mem hH0 0 (b : Int)
  have ia : inn A B C (a : Int) 0 = true ↔ a % A = 0 := by
    unfold inn
    rw [decide_eq_true_iff, Int.zero_emod, Int.zero_ediv, Int.zero_mul, Int.sub_zero]
    constructor
    · rintro ⟨_, h⟩; omega
    · intro h; exact ⟨rfl, by omega⟩
  have ib : inn A B C 0 (b : Int) = true ↔ b % rh A B C = 0 := by
    unfold inn
    rw [decide_eq_true_iff, rh_iff hL.a0 hL.c0, Int.zero_sub]
    have e : ((b : Int) / C * B) = ((b / C * B : Nat) : Int) := by rw [Int.natCast_mul, Int.natCast_ediv]
    rw [e]
    have e2 : -((b / C * B : Nat) : Int) % (A : Int) = 0 ↔ b / C * B % A = 0 := by
      rw [← Int.dvd_iff_emod_eq_zero, Int.dvd_neg, Int.natCast_dvd_natCast, Nat.dvd_iff_mod_eq_zero]
    rw [e2]
    constructor
    · rintro ⟨h1, h2⟩; exact ⟨by omega, h2⟩
    · rintro ⟨h1, h2⟩; exact ⟨by omega, h2⟩
  rw [← ia, ← ib, ← ma, ← mb]
  constructor
  · intro h
    have key : ∀ x y : Int, pz W H f x y = f ((y % (b : Int)).toNat * W + (x % (a : Int)).toNat) := by
      intro x y
      obtain ⟨p, hp⟩ := Int.eq_ofNat_of_zero_le (Int.emod_nonneg x (show (W : Int) ≠ 0 by omega))
      obtain ⟨q, hq⟩ := Int.eq_ofNat_of_zero_le (Int.emod_nonneg y (show (H : Int) ≠ 0 by omega))
      have p1 := Int.emod_lt_of_pos x (show 0 < (W : Int) by omega)
      have q1 := Int.emod_lt_of_pos y (show 0 < (H : Int) by omega)
      have hpW : p < W := by omega
      have hqH : q < H := by omega
      have e := h (q * W + p) (in_grid hpW hqH)
      rw [(co q hpW).1, (co q hpW).2] at e
      have ex : (x % (a : Int)).toNat = p % a := by
        have : x % (a : Int) = (p : Int) % (a : Int) := by rw [← hp, Int.emod_emod_of_dvd _ (Int.natCast_dvd_natCast.2 (Nat.dvd_of_mod_eq_zero hda))]
        rw [this]; omega
      have ey : (y % (b : Int)).toNat = q % b := by
        have : y % (b : Int) = (q : Int) % (b : Int) := by rw [← hq, Int.emod_emod_of_dvd _ (Int.natCast_dvd_natCast.2 (Nat.dvd_of_mod_eq_zero hdb))]
        rw [this]; omega
      rw [ex, ey, e]
      unfold pz
      rw [hp, hq]
      rfl
    refine ⟨fun x y => ?_, fun x y => ?_⟩
    · rw [key, key, Int.add_emod_right, Int.add_zero]
    · rw [key, key, Int.add_emod_right, Int.add_zero]
  · rintro ⟨ka, kb⟩ i hi
    have hx : i % W < W := Nat.mod_lt _ hW0
    have hy : i / W < H := div_bd hi
    generalize hX : i % W = x at *
    generalize hY : i / W = y at *
    have ei : i = y * W + x := by rw [← hX, ← hY, nat_div_mod]
    have e1 := (ka.mul ((x / a : Nat) : Int)).add (kb.mul ((y / b : Nat) : Int)) ((x % a : Nat) : Int) ((y % b : Nat) : Int)
    have x1 := Nat.mod_add_div x a
    have y1 := Nat.mod_add_div y b
    have f1 : ((x % a : Nat) : Int) + (((x / a : Nat) : Int) * (a : Int) + ((y / b : Nat) : Int) * 0) = (x : Int) := by
      rw [Int.mul_zero, Int.add_zero, ← Int.natCast_mul, ← Int.natCast_add, Nat.mul_comm, x1]
    have f2 : ((y % b : Nat) : Int) + (((x / a : Nat) : Int) * 0 + ((y / b : Nat) : Int) * (b : Int)) = (y : Int) := by
      rw [Int.mul_zero, Int.zero_add, ← Int.natCast_mul, ← Int.natCast_add, Nat.mul_comm, y1]
    rw [f1, f2, pz_nat, pz_nat] at e1
    unfold pc at e1
    have g1 : x % a < W := Nat.lt_of_le_of_lt (Nat.mod_le _ _) hx
    have g2 : y % b < H := Nat.lt_of_le_of_lt (Nat.mod_le _ _) hy
    rw [Nat.mod_eq_of_lt hx, Nat.mod_eq_of_lt hy, Nat.mod_eq_of_lt g1, Nat.mod_eq_of_lt g2] at e1
    rw [ei, e1]
end Go.Proofs.Ytjbofdgdcnfmoaa
