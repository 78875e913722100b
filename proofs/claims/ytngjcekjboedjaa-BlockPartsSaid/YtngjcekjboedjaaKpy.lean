/- BlockParts: the walk. -/
import Derived.Test.YtngjcekjboedjaaKrw
import Derived.Test.YtngjcekjboedjaaKrv
import Derived.Test.YtngjcekjboedjaaKsg
import Derived.Test.YtngjcekjboedjaaOpl
import Derived.Test.YtngjcekjboedjaaKgl
namespace Go.Proofs.Ytngjcekjboedjaa
open Go.RowKit
set_option maxRecDepth 100000
set_option linter.unusedVariables false
set_option linter.unusedSimpArgs false

theorem jz_zero {m : Nat} {G : Nat → GV} {k : Nat} {f : Nat → Int} {x : Int} (h : jz m G k f x = 0) : 0 < m ∧ gfe m G = 0 ∧ one m G = true ∧ ∃ wn r u v : Nat, x = wn ∧ 1 ≤ wn ∧ 1 ≤ r ∧ k = r * wn ∧ inds k f m = true ∧ (G 0).W = u ∧ (G 0).H = v ∧ 1 ≤ u ∧ u ≤ 64 ∧ 1 ≤ v ∧ v ≤ 64 ∧ wn * u ≤ 64 ∧ r * v ≤ 64 := by
  unfold jz at h
  by_cases h0 : m = 0
  · rw [if_pos h0] at h; exact absurd h (by decide)
  rw [if_neg h0] at h
  by_cases h1 : gfe m G = 0
  · rw [if_neg (by simpa using h1)] at h
    by_cases h2 : one m G = false
    · rw [if_pos h2] at h; exact absurd h (by decide)
    rw [if_neg h2] at h
    by_cases h3 : x < 1
    · rw [if_pos h3] at h; exact absurd h (by decide)
    rw [if_neg h3] at h
    by_cases h4 : k = 0
    · rw [if_pos h4] at h; exact absurd h (by decide)
    rw [if_neg h4] at h
    by_cases h5 : (k : Int) % x = 0
    · rw [if_neg (by simpa using h5)] at h
      by_cases h6 : inds k f m = false
      · rw [if_pos h6] at h; exact absurd h (by decide)
      rw [if_neg h6] at h
      obtain ⟨u, v, hu, hv, _, u0, u1, v0, v1⟩ := chk_nat (fe_zero.1 h1 0 (Nat.pos_of_ne_zero h0))
      rw [hu, hv] at h
      by_cases h7 : (64 : Int) / (u : Int) < x
      · rw [if_pos h7] at h; exact absurd h (by decide)
      rw [if_neg h7] at h
      by_cases h8 : (64 : Int) / (v : Int) < (k : Int) / x
      · rw [if_pos h8] at h; exact absurd h (by decide)
      obtain ⟨wn, hwn⟩ := Int.eq_ofNat_of_zero_le (show 0 ≤ x by omega)
      subst hwn
      obtain ⟨r, hr⟩ := Int.eq_ofNat_of_zero_le (show 0 ≤ (k : Int) / (wn : Int) from Int.ediv_nonneg (by omega) (by omega))
      rw [hr] at h8
      have hkr : k = r * wn := by
        have a1 := Int.mul_ediv_add_emod (k : Int) (wn : Int)
        rw [h5, hr, Int.add_zero, ← Int.natCast_mul] at a1
        rw [Nat.mul_comm]; exact (Int.ofNat.inj a1).symm
      refine ⟨Nat.pos_of_ne_zero h0, h1, Bool.of_not_eq_false h2, wn, r, u, v, rfl, by omega, Nat.pos_of_ne_zero fun q => h4 (by rw [hkr, q, Nat.zero_mul]), hkr, Bool.of_not_eq_false h6, hu, hv, u0, u1, v0, v1, (quo_le u0).1 h7, (quo_le v0).1 h8⟩
    · rw [if_pos h5] at h; exact absurd h (by decide)
  · rw [if_pos h1] at h; exact absurd h h1
section
variable {D : Option Addr} {m c : Nat} {G : Nat → GV} {A : Option Addr} {k d : Nat} {f : Nat → Int} {x : Int} {w : World}
/-- The program's Join gives what the reference's gives. -/
theorem pjoin_any (hm : m ≤ 5000) (hn : ∀ i, i < m → (G i).n ≤ 4200) (h : GLs w D m G) (hk : k ≤ 4096) (ha : L2.Holds w w.heap.size A k f) :
    Calls Try.prog 53 #[.slice D m c, .slice A k d, .int .i64 x] w (RJ w m G k f x) := by
  by_cases hz : jz m G k f x = 0
  · obtain ⟨h0, h1, h2, wn, r, u, v, hx, hw, hr, hkr, hin, hu, hv, u0, u1, v0, v1, h6, h7⟩ := jz_zero hz
    have hin2 := of_decide_eq_true hin
    have h22 := of_decide_eq_true h2
    refine (join_ok D m c G A k d f x w hm hn h hk ha h0 h1 h2 wn r hx hw hr hkr (fun i => (f i).toNat) (fun i hi => by have := hin2 i hi; exact ⟨(Int.toNat_of_nonneg this.1).symm, by omega⟩) u v (fun i hi => ?_) u0 u1 v0 v1 h6 h7).mono fun e w' hh => .inr ⟨hz, wn, r, u, v, hx, hkr, hu, hv, hh⟩
    obtain ⟨P, Q, c1, c2, c3, _⟩ := chk_nat (fe_zero.1 h1 i hi)
    have e1 := (h22 i hi).1.trans hu
    have e2 := (h22 i hi).2.trans hv
    exact ⟨e1, e2, by rw [c3, show P = u from Int.ofNat.inj (c1.symm.trans e1), show Q = v from Int.ofNat.inj (c2.symm.trans e2)]⟩
  · have L : ∀ z, jz m G k f x = z → Calls Try.prog 53 #[.slice D m c, .slice A k d, .int .i64 x] w (ErrGrid w z) → Calls Try.prog 53 #[.slice D m c, .slice A k d, .int .i64 x] w (RJ w m G k f x) := fun z e hc => hc.mono fun e' w' hh => .inl ⟨hz, by rw [e]; exact hh⟩
    have hJ : jz m G k f x = jz m G k f x := rfl
    conv at hJ => rhs; unfold jz
    by_cases h0 : m = 0
    · rw [if_pos h0] at hJ
      exact L _ hJ (join_none D m c G A k d f x w hm hn h (by omega) ha h0)
    rw [if_neg h0] at hJ
    have h0' := Nat.pos_of_ne_zero h0
    by_cases h1 : gfe m G = 0
    · rw [if_neg (by simpa using h1)] at hJ
      by_cases h2 : one m G = false
      · rw [if_pos h2] at hJ
        exact L _ hJ (join_c1 D m c G A k d f x w hm hn h (by omega) ha h0' h1 h2)
      rw [if_neg h2] at hJ
      have h2' := Bool.of_not_eq_false h2
      by_cases h3 : x < 1
      · rw [if_pos h3] at hJ
        exact L _ hJ (join_c2 D m c G A k d f x w hm hn h (by omega) ha h0' h1 h2' h3)
      rw [if_neg h3] at hJ
      by_cases h4 : k = 0
      · rw [if_pos h4] at hJ
        exact L _ hJ (join_c3 D m c G A k d f x w hm hn h (by omega) ha h0' h1 h2' h3 h4)
      rw [if_neg h4] at hJ
      by_cases h5 : (k : Int) % x = 0
      · rw [if_neg (by simpa using h5)] at hJ
        obtain ⟨wn, hwn⟩ := Int.eq_ofNat_of_zero_le (show 0 ≤ x by omega)
        obtain ⟨r, hr⟩ := Int.eq_ofNat_of_zero_le (show 0 ≤ (k : Int) / x from Int.ediv_nonneg (by omega) (by omega))
        have hkr : k = r * wn := by
          have a1 := Int.mul_ediv_add_emod (k : Int) x
          rw [h5, hr, hwn, Int.add_zero, ← Int.natCast_mul] at a1
          rw [Nat.mul_comm]; exact (Int.ofNat.inj a1).symm
        have hw1 : 1 ≤ wn := by omega
        have hr1 : 1 ≤ r := Nat.pos_of_ne_zero fun q => h4 (by rw [hkr, q, Nat.zero_mul])
        by_cases h6 : inds k f m = false
        · rw [if_pos h6] at hJ
          exact L _ hJ (join_c5 D m c G A k d f x w hm hn h (by omega) ha h0' h1 h2' wn r hwn hw1 hr1 hkr h6)
        rw [if_neg h6] at hJ
        obtain ⟨u, v, hu, hv, _, u0, u1, v0, v1⟩ := chk_nat (fe_zero.1 h1 0 h0')
        rw [hu, hv, hr] at hJ
        subst hwn
        by_cases h7 : (64 : Int) / (u : Int) < (wn : Int)
        · rw [if_pos h7] at hJ
          exact L _ hJ (join_many1 D m c G A k d f (wn : Int) w hm hn h (by omega) ha h0' h1 h2' wn r rfl hw1 hr1 hkr (Bool.of_not_eq_false h6) u v hu hv u0 u1 v0 v1 (Nat.lt_of_not_le fun q => (quo_le u0).2 q h7))
        rw [if_neg h7] at hJ
        by_cases h8 : (64 : Int) / (v : Int) < (r : Int)
        · rw [if_pos h8] at hJ
          exact L _ hJ (join_many2 D m c G A k d f (wn : Int) w hm hn h (by omega) ha h0' h1 h2' wn r rfl hw1 hr1 hkr (Bool.of_not_eq_false h6) u v hu hv u0 u1 v0 v1 ((quo_le u0).1 h7) (Nat.lt_of_not_le fun q => (quo_le v0).2 q h8))
        rw [if_neg h8] at hJ
        exact absurd hJ hz
      · rw [if_pos h5] at hJ
        exact L _ hJ (join_c4 D m c G A k d f x w hm hn h (by omega) ha h0' h1 h2' h3 (Nat.pos_of_ne_zero h4) h5)
    · rw [if_pos h1] at hJ
      exact L _ hJ (join_err D m c G A k d f x w hm hn h (by omega) ha h0' _ rfl h1)
/-- Both Joins give the same. -/
theorem join_pair (hm : m ≤ 5000) (hn : ∀ i, i < m → (G i).n ≤ 4200) (h : GLs w D m G) (hk : k ≤ 4096) (ha : L2.Holds w w.heap.size A k f) : ∃ (X Y : Int) (n : Nat) (F : Nat → Bool) (z : Int), n ≤ 4200 ∧
    (∀ t, Below w.heap.size w t → Calls Try.prog 53 #[.slice D m c, .slice A k d, .int .i64 x] t (RG t X Y n F z)) ∧ (∀ t, Below w.heap.size w t → Calls Try.prog 54 #[.slice D m c, .slice A k d, .int .i64 x] t (RG t X Y n F z)) := by
  have P1 := fun t (ht : Below w.heap.size w t) => pjoin_any (c := c) (d := d) (x := x) hm hn (h.below ht) hk ((ha.below ht).more ht.size)
  have P2 := fun t (ht : Below w.heap.size w t) => rjoin_any D m c G A k d f x t hm hn (h.below ht) hk ((ha.below ht).more ht.size)
  by_cases hz : jz m G k f x = 0
  · obtain ⟨h0, h1, h2, wn, r, u, v, hx, hw, hr, hkr, hin, hu, hv, u0, u1, v0, v1, h6, h7⟩ := jz_zero hz
    have L : ∀ t e w', RJ t m G k f x e w' → RG t ((wn * u : Nat) : Int) ((r * v : Nat) : Int) (wn * u * (r * v)) (joF u v wn (fun i => (G i).f) (fun i => (f i).toNat)) 0 e w' := fun t e w' hh => hh.elim (fun q => absurd hz q.1) fun ⟨_, wn', r', u', v', a1, a2, a3, a4, a5⟩ => by
      have b1 : wn' = wn := Int.ofNat.inj (a1.symm.trans hx)
      have b3 : u' = u := Int.ofNat.inj (a3.symm.trans hu)
      have b4 : v' = v := Int.ofNat.inj (a4.symm.trans hv)
      subst b1 b3 b4
      have b2 : r' = r := Nat.eq_of_mul_eq_mul_right hw (a2.symm.trans hkr)
      subst b2
      exact RG.ok a5
    exact ⟨_, _, _, _, _, Nat.le_trans (Nat.mul_le_mul h6 h7) (by decide), fun t ht => (P1 t ht).mono (L t), fun t ht => (P2 t ht).mono (L t)⟩
  · have L : ∀ t e w', RJ t m G k f x e w' → RG t 0 0 0 (fun _ => false) (jz m G k f x) e w' := fun t e w' hh => hh.elim (fun q => RG.err q.2) fun q => absurd q.1 hz
    exact ⟨_, _, _, _, _, Nat.zero_le _, fun t ht => (P1 t ht).mono (L t), fun t ht => (P2 t ht).mono (L t)⟩
end
section
variable {W H : Int} {A : Option Addr} {n c : Nat} {f : Nat → Bool} {w : World}
/-- Both Units give the same. -/
theorem unit_pair (x y : Int) (hn : n ≤ 4200) (hf : Holds w w.heap.size A n f) : ∃ (wd ht : Int) (nn : Nat) (F : Nat → Nat → Bool) (mm kk : Nat) (p : Nat → Nat) (z : Int), nn ≤ 4200 ∧ mm ≤ 4200 ∧ kk ≤ 4200 ∧
    (∀ t, Below w.heap.size w t → Calls Try.prog 51 #[.agg #[.int .i64 W, .int .i64 H, .slice A n c], .int .i64 x, .int .i64 y] t (UR t wd ht nn F mm kk p z)) ∧ (∀ t, Below w.heap.size w t → Calls Try.prog 52 #[.agg #[.int .i64 W, .int .i64 H, .slice A n c], .int .i64 x, .int .i64 y] t (UR t wd ht nn F mm kk p z)) := by
  by_cases hz : chk W H n = 0
  · obtain ⟨P, Q, rfl, rfl, rfl, p0, p1, q0, q1⟩ := chk_nat hz
    by_cases h1 : x < 1
    · exact ⟨0, 0, 0, fun _ _ => false, 0, 0, fun _ => 0, 26, by omega, by omega, by omega, fun t _ => units_c1 x y 0 0 0 _ _ t p0 p1 q0 q1 h1, fun t _ => runits_c1 x y 0 0 0 _ _ t p0 p1 q0 q1 h1⟩
    by_cases h2 : y < 1
    · exact ⟨0, 0, 0, fun _ _ => false, 0, 0, fun _ => 0, 26, by omega, by omega, by omega, fun t _ => units_c2 x y 0 0 0 _ _ t p0 p1 q0 q1 h1 h2, fun t _ => runits_c2 x y 0 0 0 _ _ t p0 p1 q0 q1 h1 h2⟩
    by_cases h3 : (P : Int) % x = 0
    · by_cases h4 : (Q : Int) % y = 0
      · obtain ⟨a, ha⟩ := Int.eq_ofNat_of_zero_le (show 0 ≤ x by omega)
        obtain ⟨b, hb⟩ := Int.eq_ofNat_of_zero_le (show 0 ≤ y by omega)
        subst ha hb
        rw [← Int.natCast_emod] at h3 h4
        obtain ⟨nx, e1⟩ := Nat.dvd_of_mod_eq_zero (Int.ofNat.inj h3)
        obtain ⟨ny, e2⟩ := Nat.dvd_of_mod_eq_zero (Int.ofNat.inj h4)
        rw [Nat.mul_comm] at e1 e2
        subst e1 e2
        have n1 : 1 ≤ nx := Nat.pos_of_ne_zero fun h => by rw [h, Nat.zero_mul] at p0; omega
        have n2 : 1 ≤ ny := Nat.pos_of_ne_zero fun h => by rw [h, Nat.zero_mul] at q0; omega
        have a1 : 1 ≤ a := by omega
        have b1 : 1 ≤ b := by omega
        have c1 : a ≤ 64 := Nat.le_trans (Nat.le_mul_of_pos_left _ n1) p1
        have c2 : b ≤ 64 := Nat.le_trans (Nat.le_mul_of_pos_left _ n2) q1
        have c3 : nx ≤ 64 := Nat.le_trans (Nat.le_mul_of_pos_right _ a1) p1
        have c4 : ny ≤ 64 := Nat.le_trans (Nat.le_mul_of_pos_right _ b1) q1
        have c5 : nx * ny ≤ 64 * 64 := Nat.mul_le_mul c3 c4
        have c6 : a * b ≤ 64 * 64 := Nat.mul_le_mul c1 c2
        have c7 := us_le (P := fun k => bl (a * b) (ptF (nx * a) a b nx f k)) (nx * ny)
        exact ⟨_, _, _, _, _, _, _, 0, by omega, by omega, by omega, fun t ht => units_ok a b nx ny f t ((hf.below ht).more ht.size) a1 b1 n1 n2 p1 q1 (fun k => bl (a * b) (ptF (nx * a) a b nx f k)) (fun _ => rfl), fun t ht => runits_ok a b nx ny f t ((hf.below ht).more ht.size) a1 b1 n1 n2 p1 q1 (fun k => bl (a * b) (ptF (nx * a) a b nx f k)) (fun _ => rfl)⟩
      · exact ⟨0, 0, 0, fun _ _ => false, 0, 0, fun _ => 0, 26, by omega, by omega, by omega, fun t _ => units_c4 x y 0 0 0 _ _ t p0 p1 q0 q1 h1 h2 h3 h4, fun t _ => runits_c4 x y 0 0 0 _ _ t p0 p1 q0 q1 h1 h2 h3 h4⟩
    · exact ⟨0, 0, 0, fun _ _ => false, 0, 0, fun _ => 0, 26, by omega, by omega, by omega, fun t _ => units_c3 x y 0 0 0 _ _ t p0 p1 q0 q1 h1 h2 h3, fun t _ => runits_c3 x y 0 0 0 _ _ t p0 p1 q0 q1 h1 h2 h3⟩
  · exact ⟨0, 0, 0, fun _ _ => false, 0, 0, fun _ => 0, chk W H n, by omega, by omega, by omega, fun t _ => units_err x y 0 0 0 _ _ t hn _ rfl hz, fun t _ => runits_err x y 0 0 0 _ _ t hn _ rfl hz⟩
end
end Go.Proofs.Ytngjcekjboedjaa
