/- Straight and pointed lists: what ThreadSteps asks of them. No program. -/
import Derived.Test.YtcmpoblbjjoaiaaDoorCanm
import Derived.Test.YtcmpoblbjjoaiaaDoorTurw
namespace Go.Proofs.YtcmpoblbjjoaiaaDoor
set_option linter.unusedVariables false
set_option linter.unusedSimpArgs false

theorem per_cases {N : Nat} (h : 1 ≤ N) : (N = 1 ∧ per N = 1) ∨ (1 < N ∧ per N + 2 = 2 * N) := by unfold per; split <;> omega
theorem ptd_bd {N : Nat} (h : 1 ≤ N) (k : Nat) : 0 ≤ ptd (per N) k ∧ ptd (per N) k < N := by
  have hp := per_cases h
  have hr : k % per N < per N := Nat.mod_lt _ (by omega)
  unfold ptd
  generalize k % per N = r at *
  generalize per N = p at *
  omega
theorem ptd_zero {N : Nat} : ptd (per N) 0 = 0 := by
  unfold ptd
  rw [Nat.zero_mod]
  omega
theorem ptd_next {N : Nat} (h : 1 < N) (k : Nat) : ptd (per N) (k + 1) - ptd (per N) k = 1 ∨ ptd (per N) (k + 1) - ptd (per N) k = -1 := by
  have hp := per_cases (show 1 ≤ N by omega)
  have hm := mod_succ k (show 1 ≤ per N by omega)
  unfold ptd
  generalize (k + 1) % per N = r' at *
  generalize k % per N = r at *
  generalize per N = p at *
  omega
theorem str_bd {N : Nat} (h : 1 ≤ N) (k : Nat) : (0 : Int) ≤ ((k % N : Nat) : Int) ∧ ((k % N : Nat) : Int) < (N : Int) := by
  have := Nat.mod_lt k (show 0 < N by omega)
  omega
theorem str_next {N : Nat} (k : Nat) : (((k % N : Nat) : Int) + 1).tmod (N : Int) = (((k + 1) % N : Nat) : Int) := by
  have e : ((k % N : Nat) : Int) + 1 = ((k % N + 1 : Nat) : Int) := by omega
  rw [e, Int.tmod_eq_emod_of_nonneg (by omega), ← Int.natCast_emod, Nat.mod_add_mod]
theorem str_count {N L : Nat} (h : 1 ≤ N) : nd (fun i => ((i % N : Nat) : Int)) L = min N L := by
  rw [nd_count (N := N) (fun i _ => str_bd h i)]
  rw [← cntr_lt N (min N L) (by omega)]
  refine cntr_congr fun v hv => ?_
  unfold inl
  congr 1
  apply propext
  constructor
  · rintro ⟨i, hi, e⟩
    have := Nat.mod_le i N
    have e' : ((i % N : Nat) : Int) = (v : Int) := e
    omega
  · intro h1
    exact ⟨v, by omega, by show ((v % N : Nat) : Int) = _; rw [Nat.mod_eq_of_lt hv]⟩
theorem ptd_count {N L : Nat} (h : 1 ≤ N) : nd (ptd (per N)) L = min N L := by
  rw [nd_count (N := N) (fun i _ => ptd_bd h i)]
  rw [← cntr_lt N (min N L) (by omega)]
  refine cntr_congr fun v hv => ?_
  unfold inl
  congr 1
  apply propext
  have hp := per_cases h
  constructor
  · rintro ⟨i, hi, e⟩
    have := Nat.mod_le i (per N)
    unfold ptd at e
    generalize i % per N = r at *
    omega
  · intro h1
    refine ⟨v, by omega, ?_⟩
    unfold ptd
    rw [Nat.mod_eq_of_lt (by omega)]
    omega
theorem mod_turn {p R i : Nat} (hp : 1 ≤ p) (hi : i ≤ R * p) : (R * p - i) % p + i % p = 0 ∨ (R * p - i) % p + i % p = p := by
  have h1 : ((R * p - i) + i) % p = 0 := by rw [Nat.sub_add_cancel hi, Nat.mul_mod_left]
  rw [Nat.add_mod] at h1
  have a := Nat.mod_lt (R * p - i) (show 0 < p by omega)
  have b := Nat.mod_lt i (show 0 < p by omega)
  generalize (R * p - i) % p = x at *
  generalize i % p = y at *
  rcases Nat.lt_or_ge (x + y) p with h | h
  · rw [Nat.mod_eq_of_lt h] at h1
    exact .inl h1
  · rw [Nat.mod_eq_sub_mod h, Nat.mod_eq_of_lt (by omega)] at h1
    exact .inr (by omega)
theorem ptd_turn {p R i : Nat} (hp : 1 ≤ p) (hi : i ≤ R * p) : ptd p i = ptd p (R * p - i) := by
  have h := mod_turn hp hi
  have a := Nat.mod_lt (R * p - i) (show 0 < p by omega)
  have b := Nat.mod_lt i (show 0 < p by omega)
  unfold ptd
  generalize (R * p - i) % p = x at *
  generalize i % p = y at *
  omega
end Go.Proofs.YtcmpoblbjjoaiaaDoor
