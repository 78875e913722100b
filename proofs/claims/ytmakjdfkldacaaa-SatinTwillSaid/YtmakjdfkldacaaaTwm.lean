/- A twill: its lattice, its rows: arithmetic. -/
import Derived.Test.YtmakjdfkldacaaaTwl
import Derived.Test.YtmakjdfkldacaaaKnm
import Derived.Test.YtmakjdfkldacaaaPb
namespace Go.Proofs.Ytmakjdfkldacaaa
open Go.RowKit
set_option maxRecDepth 100000
set_option linter.unusedVariables false
set_option linter.unusedSimpArgs false

theorem twf_at {N s x y : Nat} {r : Nat → Bool} (hx : x < N) : twf N s r (y * N + x) = r (((x : Int) - ((s * y : Nat) : Int)) % (N : Int)).toNat := by
  unfold twf
  rw [(at_xy hx).1, (at_xy hx).2]
theorem twf_row {N s i : Nat} {r : Nat → Bool} (hi : i < N) : twf N s r i = r i := by
  have h := twf_at (N := N) (s := s) (x := i) (y := 0) (r := r) hi
  rw [Nat.zero_mul, Nat.zero_add, Nat.mul_zero] at h
  rw [h, show (((i : Nat) : Int) - ((0 : Nat) : Int)) % (N : Int) = i from by rw [show ((i : Nat) : Int) - ((0 : Nat) : Int) = i by omega]; exact Int.emod_eq_of_lt (by omega) (by omega), Int.toNat_natCast]
theorem sv_zero {N s : Nat} (hN : 1 ≤ N) : s * (N / Nat.gcd N s) % N = 0 := by
  obtain ⟨a, ha⟩ := Nat.gcd_dvd_left N s
  obtain ⟨b, hb⟩ := Nat.gcd_dvd_right N s
  have hg : 0 < Nat.gcd N s := Nat.gcd_pos_of_pos_left _ hN
  generalize Nat.gcd N s = g at *
  have e : N / g = a := by rw [ha, Nat.mul_div_cancel_left _ hg]
  rw [e, hb]
  conv => lhs; rhs; rw [ha]
  rw [show g * b * a = b * (g * a) by rw [Nat.mul_assoc, Nat.mul_left_comm, Nat.mul_left_comm b g a, Nat.mul_comm b a, Nat.mul_comm a b]]
  exact Nat.mul_mod_left _ _
theorem sv_pos {N s y : Nat} (hN : 1 ≤ N) (hy0 : 1 ≤ y) (hy : y < N / Nat.gcd N s) : s * y % N ≠ 0 := by
  intro h
  have hg : 0 < Nat.gcd N s := Nat.gcd_pos_of_pos_left _ hN
  have hd := Nat.dvd_of_mod_eq_zero h
  have h1 : N / Nat.gcd N s ∣ (s / Nat.gcd N s) * y := by
    obtain ⟨a, ha⟩ := Nat.gcd_dvd_left N s
    obtain ⟨b, hb⟩ := Nat.gcd_dvd_right N s
    generalize Nat.gcd N s = g at *
    have ea : N / g = a := by rw [ha, Nat.mul_div_cancel_left _ hg]
    have eb : s / g = b := by rw [hb, Nat.mul_div_cancel_left _ hg]
    rw [ea, eb]
    rw [ha, hb, Nat.mul_assoc] at hd
    exact Nat.dvd_of_mul_dvd_mul_left hg hd
  have h2 := (Nat.coprime_div_gcd_div_gcd hg).dvd_of_dvd_mul_left h1
  have := Nat.le_of_dvd (by omega) h2
  omega
/-- The plane of a twill. -/
theorem tw_pz {N s : Nat} (hN : 1 ≤ N) (r : Nat → Bool) (x y : Int) : pz N (N / Nat.gcd N s) (twf N s r) x y = r ((x - s * y) % (N : Int)).toNat := by
  have hg : 0 < Nat.gcd N s := Nat.gcd_pos_of_pos_left _ hN
  have hV : 1 ≤ N / Nat.gcd N s := Nat.div_pos (Nat.gcd_le_left _ hN) hg
  have hz := sv_zero (N := N) (s := s) hN
  generalize N / Nat.gcd N s = V at *
  have hx0 := Int.emod_nonneg x (show (N : Int) ≠ 0 by omega)
  have hx1 := Int.emod_lt_of_pos x (show 0 < (N : Int) by omega)
  have hy0 := Int.emod_nonneg y (show (V : Int) ≠ 0 by omega)
  obtain ⟨a, ha⟩ := Int.eq_ofNat_of_zero_le hx0
  obtain ⟨b, hb⟩ := Int.eq_ofNat_of_zero_le hy0
  have h1 := Int.emod_add_mul_ediv x N
  have h2 := Int.emod_add_mul_ediv y V
  rw [pz_lt, ha, hb]
  rw [ha] at h1
  rw [hb] at h2
  simp only [Int.ofNat_eq_natCast, Int.toNat_natCast] at *
  rw [twf_at (by omega)]
  congr 2
  obtain ⟨q, hq⟩ := Nat.dvd_of_mod_eq_zero hz
  have e1 : (s : Int) * y = ((s * b : Nat) : Int) + N * (q * (y / V)) := by
    have hq' : (s : Int) * V = N * q := by exact_mod_cast hq
    calc (s : Int) * y = s * (b + V * (y / V)) := by rw [h2]
      _ = s * b + (s * V) * (y / V) := by rw [Int.mul_add, Int.mul_assoc]
      _ = ((s * b : Nat) : Int) + N * (q * (y / V)) := by rw [hq', Int.natCast_mul, Int.mul_assoc]
  have e2 : x - s * y = ((a : Int) - ((s * b : Nat) : Int)) + N * (x / N - q * (y / V)) := by rw [e1, Int.mul_sub]; omega
  rw [e2, Int.add_mul_emod_self_left]
theorem tw_rp {N s : Nat} (hN : 1 ≤ N) (r : Nat → Bool) : Rp N (N / Nat.gcd N s) (twf N s r) s 1 := fun x y => by
  rw [tw_pz hN, tw_pz hN]
  rw [show x + s - s * (y + 1) = x - s * y by rw [Int.mul_add]; omega]
theorem tw_rep {N s : Nat} (hN : 1 ≤ N) (r : Nat → Bool) (q : Nat) (hq : (1 : Int) % ((N / Nat.gcd N s : Nat) : Int) = q) : rep N (N / Nat.gcd N s) (twf N s r) s q := by
  have hg : 0 < Nat.gcd N s := Nat.gcd_pos_of_pos_left _ hN
  have hV : 1 ≤ N / Nat.gcd N s := Nat.div_pos (Nat.gcd_le_left _ hN) hg
  refine (rep_iff hN hV s q).2 fun x y => ?_
  rw [← tw_rp hN r x y]
  refine pz_mod rfl ?_
  rw [← hq, Int.add_emod_emod]
/-- The lattice of a twill: C is 1, and B goes by the step. -/
theorem tw_isl {N s A B C : Nat} (hN : 1 ≤ N) (r : Nat → Bool) (h : IsL N (N / Nat.gcd N s) (twf N s r) A B C) : C = 1 ∧ ∀ st : Int, st % (N : Int) = s → st % (A : Int) = B := by
  have hg : 0 < Nat.gcd N s := Nat.gcd_pos_of_pos_left _ hN
  have hV : 1 ≤ N / Nat.gcd N s := Nat.div_pos (Nat.gcd_le_left _ hN) hg
  have hm := (h.mem hV s 1).1 (tw_rp hN r)
  unfold inn at hm
  obtain ⟨h1, h2⟩ := of_decide_eq_true hm
  have hC : C = 1 := by
    have c0 := h.c0
    by_cases e : C = 1
    · exact e
    · rw [Int.emod_eq_of_lt (by omega) (by omega)] at h1; omega
  subst hC
  refine ⟨rfl, fun st hst => ?_⟩
  have hd := (h.divs hV).1
  have a0 := h.a0
  have ba := h.ba
  obtain ⟨q, hq⟩ := Nat.dvd_of_mod_eq_zero hd
  have e1 := Int.emod_add_mul_ediv st N
  rw [hst] at e1
  rw [show ((1 : Nat) : Int) = 1 from rfl, Int.ediv_one, Int.one_mul] at h2
  obtain ⟨p, hp⟩ := Int.dvd_of_emod_eq_zero h2
  have e2 : st = (B : Int) + A * (p + q * (st / N)) := by
    have e3 : (N : Int) * (st / N) = A * (q * (st / N)) := by rw [show (N : Int) = A * q by exact_mod_cast hq, Int.mul_assoc]
    rw [Int.mul_add]; omega
  rw [e2, Int.add_mul_emod_self_left]
  exact Int.emod_eq_of_lt (by omega) (by omega)
end Go.Proofs.Ytmakjdfkldacaaa
