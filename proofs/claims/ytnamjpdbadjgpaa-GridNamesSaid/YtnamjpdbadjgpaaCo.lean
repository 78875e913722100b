/- What the operations of place do to a cell, by its column and row; and that they undo one another. -/
import Derived.Test.YtnamjpdbadjgpaaRshift
namespace Go.Proofs.Ytnamjpdbadjgpaa
set_option linter.unusedVariables false
set_option linter.unusedSimpArgs false

theorem co {W x : Nat} (y : Nat) (hx : x < W) : (y * W + x) / W = y ∧ (y * W + x) % W = x := by
  have h : 0 < W := by omega
  constructor
  · rw [Nat.mul_comm, Nat.mul_add_div h, Nat.div_eq_of_lt hx]; omega
  · rw [Nat.mul_comm, Nat.mul_add_mod, Nat.mod_eq_of_lt hx]
theorem cells_all {W H : Nat} {F G : Nat → Bool} (h : ∀ x y, x < W → y < H → F (y * W + x) = G (y * W + x)) : ∀ i, i < W * H → F i = G i := by
  intro i hi
  have hW : 0 < W := by rcases Nat.eq_zero_or_pos W with h | h; · subst h; simp at hi
                        · exact h
  have e := h (i % W) (i / W) (Nat.mod_lt _ hW) (Nat.div_lt_of_lt_mul hi)
  have e2 : i / W * W + i % W = i := by rw [Nat.mul_comm, Nat.div_add_mod]
  rw [e2] at e
  exact e
theorem in_grid {W H x y : Nat} (hx : x < W) (hy : y < H) : y * W + x < W * H := by
  have : (y + 1) * W ≤ H * W := Nat.mul_le_mul_right W hy
  rw [Nat.succ_mul] at this
  rw [Nat.mul_comm W H]
  omega

def fTurn (W H : Nat) (f : Nat → Bool) : Nat → Bool := fun i => f (i % H * W + i / H)
def fMir0 (W : Nat) (f : Nat → Bool) : Nat → Bool := fun i => f (i / W * W + (W - 1 - i % W))
def fMir1 (W H : Nat) (f : Nat → Bool) : Nat → Bool := fun i => f ((H - 1 - i / W) * W + i % W)
def fShift (W H : Nat) (dx dy : Int) (f : Nat → Bool) : Nat → Bool := fun i => f (ay W H (dy % H) i * W + ax W (dx % W) i)
def fTile (P : Nat) (W H : Nat) (f : Nat → Bool) : Nat → Bool := fun i => f (i / P % H * W + i % P % W)
def fPart (W pw px py : Nat) (f : Nat → Bool) : Nat → Bool := fun i => f ((py + i / pw) * W + (px + i % pw))
/-- Where a shift by d along an axis of N cells takes the cell at z from. -/
def sh (N : Nat) (d : Int) (z : Nat) : Nat := (((z : Int) - d) % (N : Int)).toNat

section
variable {W H x y : Nat} {f : Nat → Bool}
theorem at_turn (hx : x < H) : fTurn W H f (y * H + x) = f (x * W + y) := by
  obtain ⟨e1, e2⟩ := co y hx
  simp only [fTurn, e1, e2]
theorem at_mir0 (hx : x < W) : fMir0 W f (y * W + x) = f (y * W + (W - 1 - x)) := by
  obtain ⟨e1, e2⟩ := co y hx
  simp only [fMir0, e1, e2]
theorem at_mir1 (hx : x < W) : fMir1 W H f (y * W + x) = f ((H - 1 - y) * W + x) := by
  obtain ⟨e1, e2⟩ := co y hx
  simp only [fMir1, e1, e2]
theorem at_shift {dx dy : Int} (hx : x < W) : fShift W H dx dy f (y * W + x) = f (sh H dy y * W + sh W dx x) := by
  obtain ⟨e1, e2⟩ := co y hx
  simp only [fShift, ax, ay, sh, e1, e2, Int.sub_emod_emod]
theorem at_tile {P : Nat} (hx : x < P) : fTile P W H f (y * P + x) = f (y % H * W + x % W) := by
  obtain ⟨e1, e2⟩ := co y hx
  simp only [fTile, e1, e2]
theorem at_part {pw px py : Nat} (hx : x < pw) : fPart W pw px py f (y * pw + x) = f ((py + y) * W + (px + x)) := by
  obtain ⟨e1, e2⟩ := co y hx
  simp only [fPart, e1, e2]
end
theorem sh_lt {N : Nat} {d : Int} {z : Nat} (hN : 1 ≤ N) : sh N d z < N := by
  have := mod_bd (v := (z : Int) - d) (W := (N : Int)) (by omega)
  unfold sh; omega
theorem sh_int {N : Nat} {d : Int} {z : Nat} (hN : 1 ≤ N) : ((sh N d z : Nat) : Int) = ((z : Int) - d) % (N : Int) := by
  have := mod_bd (v := (z : Int) - d) (W := (N : Int)) (by omega)
  unfold sh; omega
theorem sh_back {N : Nat} {d : Int} {z : Nat} (hz : z < N) : sh N (-d) (sh N d z) = z := by
  have h := sh_int (N := N) (d := d) (z := z) (by omega)
  have h2 := sh_int (N := N) (d := -d) (z := sh N d z) (by omega)
  rw [h, Int.sub_neg, Int.emod_add_emod, Int.sub_add_cancel, Int.emod_eq_of_lt (by omega) (by omega)] at h2
  omega
theorem sh_back' {N : Nat} {d : Int} {z : Nat} (hz : z < N) : sh N d (sh N (-d) z) = z := by
  have h := sh_back (d := -d) hz
  rwa [Int.neg_neg] at h
theorem sh_mirror {N : Nat} {d : Int} {z : Nat} (hz : z < N) : sh N d (N - 1 - z) = N - 1 - sh N (-d) z := by
  have hN : 1 ≤ N := by omega
  have h := sh_int (d := d) (z := N - 1 - z) hN
  have h2 := sh_int (d := -d) (z := z) hN
  have l2 := sh_lt (d := -d) (z := z) hN
  have e : ((N - 1 - z : Nat) : Int) - d = (N : Int) - 1 - ((z : Int) - -d) := by omega
  rw [e] at h
  have h3 : ((N : Int) - 1 - ((z : Int) - -d)) % (N : Int) = (N : Int) - 1 - ((z : Int) - -d) % (N : Int) := by
    have q := Int.emod_add_mul_ediv ((z : Int) - -d) (N : Int)
    generalize ((z : Int) - -d) % (N : Int) = r at *
    generalize ((z : Int) - -d) / (N : Int) = t at *
    rw [← q]
    have e2 : (N : Int) - 1 - (r + (N : Int) * t) = ((N : Int) - 1 - r) + (N : Int) * (-t) := by
      rw [Int.mul_neg]; omega
    rw [e2, Int.add_mul_emod_self_left, Int.emod_eq_of_lt (by omega) (by omega)]
  omega
theorem sh_mod {N M : Nat} {d : Int} {z : Nat} (hM : 1 ≤ M) (hd : (M : Int) ∣ d) (hN : 1 ≤ N) (hMN : M ∣ N) : sh N d z % M = z % M := by
  have h := sh_int (d := d) (z := z) hN
  have hMN' : (M : Int) ∣ (N : Int) := Int.natCast_dvd_natCast.2 hMN
  have e : ((sh N d z % M : Nat) : Int) = ((z % M : Nat) : Int) := by
    rw [Int.natCast_emod, h, Int.emod_emod_of_dvd _ hMN', Int.natCast_emod]
    obtain ⟨t, rfl⟩ := hd
    rw [Int.sub_mul_emod_self_left]
  omega

section
variable {W H : Nat} {f : Nat → Bool}
theorem turn_turn : ∀ i, i < W * H → fTurn H W (fTurn W H f) i = f i :=
  cells_all fun x y hx hy => by rw [at_turn hx, at_turn hy]
theorem not_not_ : ∀ i, i < W * H → (!(!f i)) = f i := fun i _ => by simp
theorem mir0_mir0 : ∀ i, i < W * H → fMir0 W (fMir0 W f) i = f i :=
  cells_all fun x y hx hy => by rw [at_mir0 hx, at_mir0 (by omega), show W - 1 - (W - 1 - x) = x by omega]
theorem mir1_mir1 : ∀ i, i < W * H → fMir1 W H (fMir1 W H f) i = f i :=
  cells_all fun x y hx hy => by rw [at_mir1 hx, at_mir1 (by omega), show H - 1 - (H - 1 - y) = y by omega]
theorem shift_back {dx dy : Int} : ∀ i, i < W * H → fShift W H (-dx) (-dy) (fShift W H dx dy f) i = f i :=
  cells_all fun x y hx hy => by rw [at_shift hx, at_shift (sh_lt (by omega)), sh_back' hx, sh_back' hy]
theorem part_tile0 {nx : Nat} (hn : 1 ≤ nx) : ∀ i, i < W * H → fPart (nx * W) W 0 0 (fTile (nx * W) W H f) i = f i :=
  cells_all fun x y hx hy => by
    have : 1 * W ≤ nx * W := Nat.mul_le_mul_right W hn
    rw [at_part hx, at_tile (by omega), Nat.zero_add, Nat.zero_add, Nat.mod_eq_of_lt hx, Nat.mod_eq_of_lt hy]
theorem part_tile1 {nx ny : Nat} (hn : 1 ≤ nx) (hm : 1 ≤ ny) : ∀ i, i < W * H → fPart (nx * W) W (nx * W - W) (ny * H - H) (fTile (nx * W) W H f) i = f i :=
  cells_all fun x y hx hy => by
    obtain ⟨n, rfl⟩ : ∃ n, nx = n + 1 := ⟨nx - 1, by omega⟩
    obtain ⟨m, rfl⟩ : ∃ m, ny = m + 1 := ⟨ny - 1, by omega⟩
    rw [at_part hx, at_tile (by rw [Nat.succ_mul]; omega), Nat.succ_mul, Nat.succ_mul, Nat.add_sub_cancel, Nat.add_sub_cancel, Nat.mul_comm n W, Nat.mul_add_mod, Nat.mul_comm m H, Nat.mul_add_mod, Nat.mod_eq_of_lt hx, Nat.mod_eq_of_lt hy]
theorem shift_tile {nx ny : Nat} (hn : 1 ≤ nx) (hm : 1 ≤ ny) : ∀ i, i < nx * W * (ny * H) → fShift (nx * W) (ny * H) W (-(H : Int)) (fTile (nx * W) W H f) i = fTile (nx * W) W H f i :=
  cells_all fun x y hx hy => by
    have hW : 0 < nx * W := by omega
    have hH : 0 < ny * H := by omega
    have hW1 : 1 ≤ W := Nat.pos_of_mul_pos_left hW
    have hH1 : 1 ≤ H := Nat.pos_of_mul_pos_left hH
    rw [at_shift hx, at_tile (sh_lt hW), at_tile hx, sh_mod hH1 (Int.dvd_neg.2 (Int.dvd_refl _)) hH (Nat.dvd_mul_left _ _), sh_mod hW1 (Int.dvd_refl _) hW (Nat.dvd_mul_left _ _)]
end
end Go.Proofs.Ytnamjpdbadjgpaa
