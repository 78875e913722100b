/- Layer 13, arithmetic alone: filled profiles, turned and shifted; spelled lists. -/
import Derived.Test.YtngjcekjboedjaaKma
namespace Go.Proofs.Ytngjcekjboedjaa
open Go.RowKit
set_option maxRecDepth 100000
set_option linter.unusedVariables false
set_option linter.unusedSimpArgs false

/-- The cells of a filled profile f with W columns, units of u by v. -/
def fil (W u v : Nat) (f a b : Nat → Bool) : Nat → Bool := joF u v W (fun i => if i = 0 then a else b) (fun i => if f i then 0 else 1)
theorem fil_at {W u v x y : Nat} {f a b : Nat → Bool} (hx : x < W * u) : fil W u v f a b (y * (W * u) + x) = if f (y / v * W + x / u) then a (y % v * u + x % u) else b (y % v * u + x % u) := by
  unfold fil; rw [jo_at hx]
  cases f (y / v * W + x / u) <;> rfl
theorem fil_congr {W H u v : Nat} {f a b f' a' b' : Nat → Bool} (hf : ∀ i, i < W * H → f i = f' i) (ha : ∀ i, i < u * v → a i = a' i) (hb : ∀ i, i < u * v → b i = b' i) : ∀ i, i < W * u * (H * v) → fil W u v f a b i = fil W u v f' a' b' i := by
  refine cells_all fun x y hx hy => ?_
  rw [fil_at hx, fil_at hx, hf _ (place_lt hx hy), ha _ (cell_lt hx hy), hb _ (cell_lt hx hy)]
theorem fil_not {W H u v : Nat} {f a b : Nat → Bool} : ∀ i, i < W * u * (H * v) → fil W u v (fun i => !f i) b a i = fil W u v f a b i := by
  refine cells_all fun x y hx hy => ?_
  rw [fil_at hx, fil_at hx]
  cases f (y / v * W + x / u) <;> rfl
theorem fil_turn {W H u v : Nat} {f a b : Nat → Bool} : ∀ i, i < H * v * (W * u) → fil H v u (fTurn W H f) (fTurn u v a) (fTurn u v b) i = fTurn (W * u) (H * v) (fil W u v f a b) i := by
  refine cells_all fun x y hx hy => ?_
  rw [fil_at hx, at_turn hx, fil_at hy, at_turn (quo_lt hx), at_turn (rem_lt hx), at_turn (rem_lt hx)]
theorem sh_mul {N u z : Nat} {d : Int} (hN : 1 ≤ N) (hz : z < N * u) : sh (N * u) (d * u) z = sh N d (z / u) * u + z % u := by
  have hu : z % u < u := rem_lt hz
  have h1 := sh_int (N := N) (d := d) (z := z / u) hN
  have h3 := sh_lt (N := N) (d := d) (z := z / u) hN
  have h2 : 1 ≤ N * u := by omega
  have h4 := sh_int (N := N * u) (d := d * u) (z := z) h2
  have e : (z : Int) = ((z / u : Nat) : Int) * u + ((z % u : Nat) : Int) := by
    rw [← Int.natCast_mul, ← Int.natCast_add, nat_div_mod]
  obtain ⟨q, hq⟩ : ∃ q, z / u = q := ⟨_, rfl⟩
  obtain ⟨r, hr⟩ : ∃ r, z % u = r := ⟨_, rfl⟩
  rw [hq, hr] at e
  rw [hq] at h1 h3 ⊢
  rw [hr] at hu ⊢
  have h5 : ((q : Int) - d) = (N : Int) * (((q : Int) - d) / N) + ((q : Int) - d) % N := (Int.mul_ediv_add_emod _ _).symm
  have h6 : (z : Int) - d * u = (((sh N d q * u + r : Nat) : Int)) + ((N * u : Nat) : Int) * (((q : Int) - d) / N) := by
    rw [Int.natCast_add, Int.natCast_mul, h1, Int.natCast_mul, e]
    generalize ((q : Int) - d) / N = t at *
    generalize ((q : Int) - d) % N = s at *
    have : (q : Int) * u - d * u = ((q : Int) - d) * u := by rw [Int.sub_mul]
    have h7 : (q : Int) * u + r - d * u = ((q : Int) - d) * u + r := by omega
    rw [h7, h5, Int.add_mul]
    have h8 : (N : Int) * t * u = (N : Int) * u * t := by rw [Int.mul_assoc, Int.mul_comm t, ← Int.mul_assoc]
    omega
  rw [h6, Int.add_mul_emod_self_left] at h4
  have h9 : sh N d q * u + r < N * u := by
    have := Nat.mul_le_mul_right u (show sh N d q + 1 ≤ N from h3); rw [Nat.add_mul, Nat.one_mul] at this; omega
  rw [Int.emod_eq_of_lt (by omega) (by omega)] at h4
  omega
theorem fil_shift {W H u v : Nat} {dx dy : Int} {f a b : Nat → Bool} (hW : 1 ≤ W) (hH : 1 ≤ H) : ∀ i, i < W * u * (H * v) → fil W u v (fShift W H dx dy f) a b i = fShift (W * u) (H * v) (dx * u) (dy * v) (fil W u v f a b) i := by
  refine cells_all fun x y hx hy => ?_
  have h1 := sh_mul (d := dx) hW hx
  have h2 := sh_mul (d := dy) hH hy
  have h3 : sh (W * u) (dx * u) x < W * u := sh_lt (by omega)
  rw [fil_at hx, at_shift hx, fil_at h3, at_shift (quo_lt hx), h1, h2, (co _ (rem_lt hx)).1, (co _ (rem_lt hx)).2, (co _ (rem_lt hy)).1, (co _ (rem_lt hy)).2]
/-- The parts of a filled profile. -/
theorem pt_fil {W H u v k i : Nat} {f a b : Nat → Bool} (hu : 1 ≤ u) (hv : 1 ≤ v) (hk : k < W * H) (hi : i < u * v) : ptF (W * u) u v W (fil W u v f a b) k i = if f k then a i else b i := by
  unfold fil
  rw [pt_jo hu hv hk hi]
  cases f k <;> rfl
/-- A grid of which each part is one of two units. -/
theorem fil_pt {W H u v : Nat} {f a b g : Nat → Bool} (h : ∀ k, k < W * H → ∀ i, i < u * v → (if f k then a i else b i) = ptF (W * u) u v W g k i) : ∀ i, i < W * u * (H * v) → fil W u v f a b i = g i := by
  unfold fil
  refine jo_pt fun k hk i hi => ?_
  rw [← h k hk i hi]
  cases f k <;> rfl
/-- The first n elements as a list. -/
def il (n : Nat) (f : Nat → Int) : List Int := (List.range n).map f
section
variable {n : Nat} {f g : Nat → Int}
theorem il_eq : il n f = il n g ↔ ∀ i, i < n → f i = g i := by
  unfold il
  rw [List.map_inj_left]
  simp
theorem il_beq : (il n f == il n g) = decide (∀ i, i < n → f i = g i) := by
  rw [Bool.eq_iff_iff, beq_iff_eq, il_eq, decide_eq_true_iff]
end
/-- Blocks b spelled with units L of n elements. -/
def spF (n : Nat) (L : Nat → Nat → Int) (b : Nat → Nat) (k : Nat) : Int := L (b (k / n)) (k % n)
theorem sp_at {n k i : Nat} {L : Nat → Nat → Int} {b : Nat → Nat} (hi : i < n) : spF n L b (k * n + i) = L (b k) i := by
  unfold spF; rw [(co k hi).1, (co k hi).2]
end Go.Proofs.Ytngjcekjboedjaa
