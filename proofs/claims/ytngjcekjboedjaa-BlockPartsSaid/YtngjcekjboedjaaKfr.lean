/- BlockFills: both sides. -/
import Derived.Test.YtngjcekjboedjaaKri
import Derived.Test.YtngjcekjboedjaaKff
namespace Go.Proofs.Ytngjcekjboedjaa
open Go.RowKit
set_option maxRecDepth 100000
set_option linter.unusedVariables false
set_option linter.unusedSimpArgs false

/-- Both sides give the same grid and the same error; the program's is given copies. -/
def PairC (pf rf : FuncId) (w : World) (W H X Y U V : Int) (A B C : Option Addr) (n c m d k e : Nat) (f a b : Nat → Bool) : Prop :=
  ∃ (P Q : Int) (N : Nat) (F : Nat → Bool) (z : Int), N ≤ 5000 ∧
    (∀ u A1 c1 A2 c2 A3 c3, Below w.heap.size w u → Holds u u.heap.size A1 n f → Holds u u.heap.size A2 m a → Holds u u.heap.size A3 k b → Calls Try.prog pf #[.agg #[.int .i64 W, .int .i64 H, .slice A1 n c1], .agg #[.int .i64 X, .int .i64 Y, .slice A2 m c2], .agg #[.int .i64 U, .int .i64 V, .slice A3 k c3]] u (RG u P Q N F z)) ∧
    ∀ u, Below w.heap.size w u → Calls Try.prog rf #[.agg #[.int .i64 W, .int .i64 H, .slice A n c], .agg #[.int .i64 X, .int .i64 Y, .slice B m d], .agg #[.int .i64 U, .int .i64 V, .slice C k e]] u (RG u P Q N F z)
theorem gfe_th {W H X Y U V : Int} {A B C : Option Addr} {n c m d k e : Nat} {f a b : Nat → Bool} : gfe 3 (G3 ⟨W, H, A, n, c, f⟩ ⟨X, Y, B, m, d, a⟩ ⟨U, V, C, k, e, b⟩) = th3 (chk W H n) (chk X Y m) (chk U V k) := gfe_3 _ _ _
theorem chk_nat {W H : Int} {n : Nat} (h : chk W H n = 0) : ∃ P Q : Nat, W = P ∧ H = Q ∧ n = P * Q ∧ 1 ≤ P ∧ P ≤ 64 ∧ 1 ≤ Q ∧ Q ≤ 64 := by
  obtain ⟨a1, a2, a3, a4, a5⟩ := chk_ok h
  obtain ⟨P, rfl⟩ := Int.eq_ofNat_of_zero_le (show 0 ≤ W by omega)
  obtain ⟨Q, rfl⟩ := Int.eq_ofNat_of_zero_le (show 0 ≤ H by omega)
  exact ⟨P, Q, rfl, rfl, by omega, by omega, by omega, by omega, by omega⟩
section
variable {W H X Y U V : Int} {A B C : Option Addr} {n c m d k e : Nat} {f a b : Nat → Bool} {w : World}
theorem fill_pair (hn : n ≤ 4200) (hm : m ≤ 4200) (hk : k ≤ 4200) (hf : Holds w w.heap.size A n f) (ha : Holds w w.heap.size B m a) (hb : Holds w w.heap.size C k b) : PairC 45 46 w W H X Y U V A B C n c m d k e f a b := by
  by_cases hz : th3 (chk W H n) (chk X Y m) (chk U V k) = 0
  · have h1 : chk W H n = 0 := by unfold th3 at hz; split at hz <;> simp_all
    have h2 : chk X Y m = 0 := Classical.byContradiction fun h => by unfold th3 at hz; rw [h1] at hz; simp [h] at hz
    have h3 : chk U V k = 0 := by unfold th3 at hz; rw [h1, h2] at hz; simpa using hz
    obtain ⟨P, Q, rfl, rfl, rfl, p0, p1, q0, q1⟩ := chk_nat h1
    obtain ⟨u, v, rfl, rfl, rfl, u0, u1, v0, v1⟩ := chk_nat h2
    obtain ⟨u', v', rfl, rfl, rfl, x0, x1, z0, z1⟩ := chk_nat h3
    by_cases hs : u' = u ∧ v' = v
    · obtain ⟨rfl, rfl⟩ := hs
      by_cases h6 : P * u' ≤ 64
      · by_cases h7 : Q * v' ≤ 64
        · have := Nat.mul_le_mul h6 h7
          exact ⟨_, _, _, fil P u' v' f a b, 0, by omega, fun t A1 c1 A2 c2 A3 c3 ht g1 g2 g3 => fill_ok p0 q0 g1 u0 v0 g2 g3 h6 h7, fun t ht => rfill_ok P Q u' v' A B C c d e t p0 p1 q0 q1 u0 u1 v0 v1 f a b ((hf.below ht).more ht.size) ((ha.below ht).more ht.size) ((hb.below ht).more ht.size) h6 h7⟩
        · exact ⟨_, _, _, (fun _ => false), 4, Nat.zero_le _, fun t A1 c1 A2 c2 A3 c3 ht g1 g2 g3 => fill_many p0 p1 q0 q1 g1 u0 u1 v0 v1 g2 g3 _ (fun h => h7 h.2), fun t ht => rfill_many2 P Q u' v' A B C c d e t p0 p1 q0 q1 u0 u1 v0 v1 _ h6 (by omega)⟩
      · exact ⟨_, _, _, (fun _ => false), 4, Nat.zero_le _, fun t A1 c1 A2 c2 A3 c3 ht g1 g2 g3 => fill_many p0 p1 q0 q1 g1 u0 u1 v0 v1 g2 g3 _ (fun h => h6 h.1), fun t ht => rfill_many1 P Q u' v' A B C c d e t p0 p1 q0 q1 u0 u1 v0 v1 _ (by omega)⟩
    · exact ⟨_, _, _, (fun _ => false), 26, Nat.zero_le _, fun t A1 c1 A2 c2 A3 c3 ht g1 g2 g3 => fill_cnt p0 p1 q0 q1 g1 u0 u1 v0 v1 x0 x1 z0 z1 g2 g3 _ hs, fun t ht => rfill_cnt _ _ _ _ _ _ A B C _ c _ d _ e t hn hm hk _ hz (fun q => hs ⟨by omega, by omega⟩)⟩
  · refine ⟨_, _, _, (fun _ => false), th3 (chk W H n) (chk X Y m) (chk U V k), Nat.zero_le _, fun t A1 c1 A2 c2 A3 c3 ht g1 g2 g3 => ?_, fun t ht => rfill_err _ _ _ _ _ _ A B C _ c _ d _ e t hn hm hk _ _ rfl hz⟩
    by_cases h1 : chk W H n = 0
    · obtain ⟨P, Q, rfl, rfl, rfl, p0, p1, q0, q1⟩ := chk_nat h1
      refine fill_ze p0 p1 q0 q1 g1 g2 g3 hm hk _ _ ?_ hz
      unfold th3; rw [h1]; simp
    · exact fill_err _ hn (by unfold th3; rw [if_pos h1]) hz t
theorem prof_pair (hn : n ≤ 4200) (hm : m ≤ 4200) (hk : k ≤ 4200) (hf : Holds w w.heap.size A n f) (ha : Holds w w.heap.size B m a) (hb : Holds w w.heap.size C k b) : PairC 47 48 w W H X Y U V A B C n c m d k e f a b := by
  by_cases hz : th3 (chk W H n) (chk X Y m) (chk U V k) = 0
  · have h1 : chk W H n = 0 := by unfold th3 at hz; split at hz <;> simp_all
    have h2 : chk X Y m = 0 := Classical.byContradiction fun h => by unfold th3 at hz; rw [h1] at hz; simp [h] at hz
    have h3 : chk U V k = 0 := by unfold th3 at hz; rw [h1, h2] at hz; simpa using hz
    obtain ⟨P, Q, rfl, rfl, rfl, p0, p1, q0, q1⟩ := chk_nat h1
    obtain ⟨u, v, rfl, rfl, rfl, u0, u1, v0, v1⟩ := chk_nat h2
    obtain ⟨u', v', rfl, rfl, rfl, x0, x1, z0, z1⟩ := chk_nat h3
    by_cases hs : u' = u ∧ v' = v
    · obtain ⟨rfl, rfl⟩ := hs
      by_cases a3 : P % u' = 0
      · by_cases a4 : Q % v' = 0
        · by_cases he : ∀ j, j < u' * v' → a j = b j
          · obtain ⟨W, e1⟩ := Nat.dvd_of_mod_eq_zero a3
            obtain ⟨H, e2⟩ := Nat.dvd_of_mod_eq_zero a4
            rw [Nat.mul_comm] at e1 e2
            have W0 : 1 ≤ W := Nat.pos_of_ne_zero fun h => by rw [e1, h, Nat.zero_mul] at p0; omega
            have H0 : 1 ≤ H := Nat.pos_of_ne_zero fun h => by rw [e2, h, Nat.zero_mul] at q0; omega
            refine ⟨_, _, _, (fun _ => false), 14, Nat.zero_le _, fun t A1 c1 A2 c2 A3 c3 ht g1 g2 g3 => ?_, fun t ht => rprof_same P Q u' v' A B C c d e t p0 p1 q0 q1 u0 u1 v0 v1 f a b ((hf.below ht).more ht.size) ((ha.below ht).more ht.size) ((hb.below ht).more ht.size) _ a3 a4 he⟩
            subst e1 e2
            exact prof_same W0 H0 u0 v0 p1 q1 g1 g2 g3 _ he
          · obtain ⟨W, e1⟩ := Nat.dvd_of_mod_eq_zero a3
            obtain ⟨H, e2⟩ := Nat.dvd_of_mod_eq_zero a4
            rw [Nat.mul_comm] at e1 e2
            subst e1 e2
            have W0 : 1 ≤ W := Nat.pos_of_ne_zero fun h => by rw [h, Nat.zero_mul] at p0; omega
            have H0 : 1 ≤ H := Nat.pos_of_ne_zero fun h => by rw [h, Nat.zero_mul] at q0; omega
            have b1 : W ≤ 64 := Nat.le_trans (Nat.le_mul_of_pos_right _ u0) p1
            have b2 : H ≤ 64 := Nat.le_trans (Nat.le_mul_of_pos_right _ v0) q1
            have b3 : W * H ≤ 64 * 64 := Nat.mul_le_mul b1 b2
            have HL := fun t (ht : Below w.heap.size w t) => rprof_loop W H (W * u') (H * v') u' v' A B C c d e t p0 p1 q0 q1 u0 u1 v0 v1 f a b ((hf.below ht).more ht.size) ((ha.below ht).more ht.size) ((hb.below ht).more ht.size) rfl rfl b1 b2 he
            by_cases hp : ∀ q, q < W * H → (∀ j, j < u' * v' → ptF (W * u') u' v' W f q j = a j) ∨ (∀ j, j < u' * v' → ptF (W * u') u' v' W f q j = b j)
            · exact ⟨_, _, _, _, 0, by omega, fun t A1 c1 A2 c2 A3 c3 ht g1 g2 g3 => prof_two W0 H0 u0 v0 p1 q1 g1 g2 g3 he hp, fun t ht => (HL t ht).mono fun _ _ h => h.elim (fun h => h.2) (fun h => absurd hp h.1)⟩
            · have ⟨q, hq⟩ := Classical.not_forall.1 hp
              have ⟨hk1, hk2⟩ := Classical.not_imp.1 hq
              have ⟨hk3, hk4⟩ := not_or.1 hk2
              exact ⟨_, _, _, (fun _ => false), 6, Nat.zero_le _, fun t A1 c1 A2 c2 A3 c3 ht g1 g2 g3 => prof_none W0 H0 u0 v0 p1 q1 g1 g2 g3 _ he q hk1 hk3 hk4, fun t ht => (HL t ht).mono fun _ _ h => h.elim (fun h => absurd h.1 hp) (fun h => h.2)⟩
        · exact ⟨_, _, _, (fun _ => false), 26, Nat.zero_le _, fun t A1 c1 A2 c2 A3 c3 ht g1 g2 g3 => prof_un t g1 g2 g3 hn hm hk _ (gfe_th.trans hz) ⟨rfl, rfl⟩ 26 (by decide) fun s hs => units_c4 (u' : Nat) (v' : Nat) 1 1 0 (fun _ _ => false) (fun _ => 0) s p0 p1 q0 q1 (by omega) (by omega) (by omega) (by omega), fun t ht => rprof_cnt4 P Q u' v' A B C c d e t p0 p1 q0 q1 u0 u1 v0 v1 _ a3 a4⟩
      · exact ⟨_, _, _, (fun _ => false), 26, Nat.zero_le _, fun t A1 c1 A2 c2 A3 c3 ht g1 g2 g3 => prof_un t g1 g2 g3 hn hm hk _ (gfe_th.trans hz) ⟨rfl, rfl⟩ 26 (by decide) fun s hs => units_c3 (u' : Nat) (v' : Nat) 1 1 0 (fun _ _ => false) (fun _ => 0) s p0 p1 q0 q1 (by omega) (by omega) (by omega), fun t ht => rprof_cnt3 P Q u' v' A B C c d e t p0 p1 q0 q1 u0 u1 v0 v1 _ a3⟩
    · refine ⟨_, _, _, (fun _ => false), 26, Nat.zero_le _, fun t A1 c1 A2 c2 A3 c3 ht g1 g2 g3 => prof_c1 t g1 g2 g3 hn hm hk _ (gfe_th.trans hz) (fun q => hs ⟨by omega, by omega⟩), fun t ht => ?_⟩
      by_cases h4 : u = u'
      · exact rprof_cnt2 P Q u v u' v' A B C c d e t p0 p1 q0 q1 u0 u1 v0 v1 x0 x1 z0 z1 _ h4 (fun h => hs ⟨h4.symm, h.symm⟩)
      · exact rprof_cnt1 P Q u v u' v' A B C c d e t p0 p1 q0 q1 u0 u1 v0 v1 x0 x1 z0 z1 _ h4
  · exact ⟨_, _, _, (fun _ => false), th3 (chk W H n) (chk X Y m) (chk U V k), Nat.zero_le _, fun t A1 c1 A2 c2 A3 c3 ht g1 g2 g3 => prof_err t g1 g2 g3 hn hm hk _ _ gfe_th hz, fun t ht => rprof_err _ _ _ _ _ _ A B C _ c _ d _ e t hn hm hk _ _ rfl hz⟩
/-- A copy came back. -/
def TWR (w : World) (W H : Int) (n : Nat) (a : Nat → Bool) (e : Ending) (w' : World) : Prop := ∃ A c, e = .returned (.agg #[.int .i64 W, .int .i64 H, .slice A n c]) ∧ Holds w' w'.heap.size A n a ∧ Below w.heap.size w w'
theorem twin_all (w : World) (hn : n ≤ 4200) (ha : Holds w w.heap.size A n a) : Calls Try.prog 44 #[.agg #[.int .i64 W, .int .i64 H, .slice A n c]] w (TWR w W H n a) := by
  rcases Nat.eq_zero_or_pos n with rfl | h0
  · exact (twin_none W H A c w).mono fun e w' ⟨k, he, hb⟩ => ⟨_, _, he, Holds.none_, hb⟩
  · exact (twin_some W H A n c a w hn h0 ha).mono fun e w' ⟨k, d, he, hk, hr, hb⟩ => ⟨_, _, he, hr.holds hr.lt, hb⟩
end
end Go.Proofs.Ytngjcekjboedjaa
