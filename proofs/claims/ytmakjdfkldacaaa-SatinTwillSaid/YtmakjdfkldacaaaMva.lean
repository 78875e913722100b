/- Grids that are moved: arithmetic, and Offset by the program where the answer is known. -/
import Derived.Test.YtmakjdfkldacaaaCb
import Derived.Test.YtmakjdfkldacaaaGb
namespace Go.Proofs.Ytmakjdfkldacaaa
open Go.RowKit
set_option maxRecDepth 100000
set_option linter.unusedVariables false
set_option linter.unusedSimpArgs false

theorem mt_shift {W H : Nat} (f : Nat → Bool) (hW0 : 1 ≤ W) (hH0 : 1 ≤ H) (dx dy : Int) : Mt W H f W H (fShift W H dx dy f) dx dy := by
  intro x y
  have m0 := Int.emod_nonneg (x + dx) (show (W : Int) ≠ 0 by omega)
  have m1 := Int.emod_lt_of_pos (x + dx) (show 0 < (W : Int) by omega)
  have n0 := Int.emod_nonneg (y + dy) (show (H : Int) ≠ 0 by omega)
  show _ = fShift W H dx dy f (((y + dy) % (H : Int)).toNat * W + ((x + dx) % (W : Int)).toNat)
  rw [at_shift (by omega)]
  have e1 : sh W dx ((x + dx) % (W : Int)).toNat = (x % (W : Int)).toNat := by
    unfold sh
    rw [Int.toNat_of_nonneg m0, Int.emod_sub_emod, Int.add_sub_cancel]
  have e2 : sh H dy ((y + dy) % (H : Int)).toNat = (y % (H : Int)).toNat := by
    unfold sh
    rw [Int.toNat_of_nonneg n0, Int.emod_sub_emod, Int.add_sub_cancel]
  rw [e1, e2]
  rfl
theorem mt_tile2 {W H : Nat} (f : Nat → Bool) (hW0 : 1 ≤ W) (hH0 : 1 ≤ H) : Mt W H f (2 * W) H (fTile (2 * W) W H f) 0 0 := by
  intro x y
  have m0 := Int.emod_nonneg x (show ((2 * W : Nat) : Int) ≠ 0 by omega)
  have m1 := Int.emod_lt_of_pos x (show 0 < ((2 * W : Nat) : Int) by omega)
  have n0 := Int.emod_nonneg y (show (H : Int) ≠ 0 by omega)
  have n1 := Int.emod_lt_of_pos y (show 0 < (H : Int) by omega)
  show _ = fTile (2 * W) W H f (((y + 0) % (H : Int)).toNat * (2 * W) + ((x + 0) % ((2 * W : Nat) : Int)).toNat)
  rw [Int.add_zero, Int.add_zero, at_tile (by omega)]
  have e1 : (x % ((2 * W : Nat) : Int)).toNat % W = (x % (W : Int)).toNat := by
    apply Int.ofNat.inj
    show (((x % ((2 * W : Nat) : Int)).toNat % W : Nat) : Int) = (((x % (W : Int)).toNat : Nat) : Int)
    rw [Int.natCast_emod, Int.toNat_of_nonneg m0, Int.toNat_of_nonneg (Int.emod_nonneg x (show (W : Int) ≠ 0 by omega)), Int.emod_emod_of_dvd _ ⟨2, by rw [Int.natCast_mul, Int.mul_comm]; rfl⟩]
  rw [e1, Nat.mod_eq_of_lt (by omega)]
  rfl
theorem Mt.two {W H W' H' : Nat} {f f' : Nat → Bool} {a b c d : Int} (h : Mt W H f W' H' f' a b) (k : Mt W H f W' H' f' c d) : Rp W H f (a - c) (b - d) := by
  intro x y
  rw [k (x + (a - c)) (y + (b - d)), h x y]
  congr 1 <;> omega
theorem Mt.back {W H W' H' : Nat} {f f' : Nat → Bool} {a b : Int} (h : Mt W H f W' H' f' a b) : Mt W' H' f' W H f (-a) (-b) := by
  intro x y
  rw [h (x + -a) (y + -b)]
  congr 1 <;> omega
theorem Mt.lat {W H W' H' : Nat} {f f' : Nat → Bool} {a b : Int} {A B C A' B' C' : Nat} (h : Mt W H f W' H' f' a b) (hL : IsL W H f A B C) (kL : IsL W' H' f' A' B' C') (hW : 1 ≤ W) (hH : 1 ≤ H) (hW' : 1 ≤ W') (hH' : 1 ≤ H') : A = A' ∧ B = B' ∧ C = C' :=
  hL.same kL fun c d => h.rep hW hH hW' hH' c d
theorem Mt.isl {W H W' H' : Nat} {f f' : Nat → Bool} {a b : Int} {A B C : Nat} (h : Mt W H f W' H' f' a b) (hL : IsL W H f A B C) (hW : 1 ≤ W) (hH : 1 ≤ H) (hW' : 1 ≤ W') (hH' : 1 ≤ H') : IsL W' H' f' A B C := by
  obtain ⟨A', B', C', k⟩ := IsL.ex W' H' f' hW' hH'
  obtain ⟨rfl, rfl, rfl⟩ := h.lat hL k hW hH hW' hH'
  exact k
/-- The first offset lies within the lattice. -/
theorem FO.lt {W H : Nat} {f : Nat → Bool} {X Y : Nat} {g : Nat → Bool} {p q A B C : Nat} (h : FO W H f X Y g p q) (k : IsL X Y g A B C) (hY : 1 ≤ Y) : p < A ∧ q < C := by
  have hq : q < C := by
    obtain ⟨p', q', _, h2, h3, _⟩ := h.mt.red k hY
    refine Nat.lt_of_not_le fun hc => h.ly q' (by omega) p' h3
  obtain ⟨p', q', h1, h2, h3, h4, h5⟩ := h.mt.red k hY
  have e : q' = q := by
    have : (q : Int) % (C : Int) = q := Int.emod_eq_of_lt (by omega) (by omega)
    omega
  subst e
  refine ⟨Nat.lt_of_not_le fun hc => h.lx p' (by omega) h3, hq⟩
theorem FOut2.zero {W H : Nat} {f : Nat → Bool} {X Y : Nat} {g : Nat → Bool} (h : Mt W H f X Y g 0 0) : FOut2 W H f X Y g 0 0 0 :=
  .inl ⟨0, 0, ⟨h, fun y hy => absurd hy (by omega), fun x hx => absurd hx (by omega)⟩, rfl, rfl, rfl⟩
theorem FOut2.z {W H : Nat} {f : Nat → Bool} {X Y : Nat} {g : Nat → Bool} {a b z : Int} (h : FOut2 W H f X Y g a b z) : z = 0 ∨ z = 6 := by
  rcases h with ⟨_, _, _, _, _, h⟩ | ⟨_, _, _, h⟩
  · exact .inl h
  · exact .inr h
/-- There is one back. -/
theorem FOut2.back {W H : Nat} {f : Nat → Bool} {X Y : Nat} {g : Nat → Bool} {a b z c d u : Int} (h : FOut2 W H f X Y g a b z) (k : FOut2 X Y g W H f c d u) (hW : 1 ≤ W) (hH : 1 ≤ H) (hX : 1 ≤ X) (hY : 1 ≤ Y) : z = u := by
  have key : ∀ (W H X Y : Nat) (f g : Nat → Bool) (p q : Nat), 1 ≤ W → 1 ≤ H → Mt W H f X Y g p q → ∃ x y : Nat, Mt X Y g W H f x y := by
    intro W H X Y f g p q hW hH h
    obtain ⟨A, B, C, hL⟩ := IsL.ex W H f hW hH
    obtain ⟨x, y, _, _, h3, _⟩ := h.back.red hL hH
    exact ⟨x, y, h3⟩
  rcases h with ⟨p, q, h1, _, _, rfl⟩ | ⟨h1, _, _, rfl⟩
  · rcases k with ⟨p', q', k1, _, _, rfl⟩ | ⟨k1, _, _, rfl⟩
    · rfl
    · obtain ⟨x, y, m⟩ := key _ _ _ _ _ _ p q hW hH h1.mt
      exact absurd m (k1 x y)
  · rcases k with ⟨p', q', k1, _, _, rfl⟩ | ⟨k1, _, _, rfl⟩
    · obtain ⟨x, y, m⟩ := key _ _ _ _ _ _ p' q' hX hY k1.mt
      exact absurd m (h1 x y)
    · rfl
/-- Offset by the program, where the answer is known. -/
theorem poff_is {W H X Y : Nat} {f g : Nat → Bool} {a b z : Int} (hF : FOut2 W H f X Y g a b z) (ba oa c bb ob d : Nat) (w : World) (la : ba < w.heap.size) (lb : bb < w.heap.size) (hca : ∀ i, i < W * H → w.cell? ⟨ba, oa + i, none⟩ = some (.bool (f i))) (hcb : ∀ i, i < X * Y → w.cell? ⟨bb, ob + i, none⟩ = some (.bool (g i)))
    (pa : W * H ≤ c) (pb : X * Y ≤ d) (hW0 : 1 ≤ W) (hW : W ≤ 64) (hH0 : 1 ≤ H) (hH : H ≤ 64) (hX0 : 1 ≤ X) (hX : X ≤ 64) (hY0 : 1 ≤ Y) (hY : Y ≤ 64) :
    Calls Try.prog 35 #[.agg #[.int .i64 (W : Nat), .int .i64 (H : Nat), .slice (some ⟨ba, oa, none⟩) (W * H) c], .agg #[.int .i64 (X : Nat), .int .i64 (Y : Nat), .slice (some ⟨bb, ob, none⟩) (X * Y) d]] w fun e w' => e = .returned (.tuple #[.agg #[.int .i64 a, .int .i64 b], .int .i64 z]) ∧ Below w.heap.size w w' := by
  obtain ⟨A, B, C, hL⟩ := IsL.ex W H f hW0 hH0
  obtain ⟨P, Q, R, kL⟩ := IsL.ex X Y g hX0 hY0
  by_cases he : A = P ∧ B = Q ∧ C = R
  · obtain ⟨rfl, rfl, rfl⟩ := he
    refine (poff_at hL kL ba oa c bb ob d w la lb hca hcb pa pb hW hH0 hH hX hY0 hY).mono ?_
    rintro e w' ⟨a', b', z', rfl, h, hb⟩
    obtain ⟨rfl, rfl, rfl⟩ := h.one hF
    exact ⟨rfl, hb⟩
  · have hn : FOut2 W H f X Y g 0 0 6 := .inr ⟨fun x y m => he (m.lat hL kL hW0 hH0 hX0 hY0), rfl, rfl, rfl⟩
    obtain ⟨rfl, rfl, rfl⟩ := hF.one hn
    have HA : ∀ v, Below w.heap.size w v → Holds v v.heap.size (some ⟨ba, oa, none⟩) (W * H) f := fun v h => fun _ => ⟨ba, oa, rfl, Nat.lt_of_lt_of_le la h.size, fun i hi => (h.cell (p := ⟨ba, oa + i, none⟩) la).trans (hca i hi)⟩
    have HB : ∀ v, Below w.heap.size w v → Holds v v.heap.size (some ⟨bb, ob, none⟩) (X * Y) g := fun v h => fun _ => ⟨bb, ob, rfl, Nat.lt_of_lt_of_le lb h.size, fun i hi => (h.cell (p := ⟨bb, ob + i, none⟩) lb).trans (hcb i hi)⟩
    refine poff_ne (W : Nat) (H : Nat) (X : Nat) (Y : Nat) _ _ _ c _ d (A : Nat) (B : Nat) (C : Nat) (P : Nat) (Q : Nat) (R : Nat) w (fun h => he ⟨by omega, by omega, by omega⟩) ?_ ?_
    · exact fun v h => pof_at hL _ c v (HA v h) pa hW hH0 hH
    · exact fun v h => pof_at kL _ d v (HB v h) pb hX hY0 hY
end Go.Proofs.Ytmakjdfkldacaaa
