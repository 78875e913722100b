/- BlockJoins: numbers and contracts. -/
import Derived.Test.YtngjcekjboedjaaKam
import Derived.Test.YtngjcekjboedjaaKpf
namespace Go.Proofs.Ytngjcekjboedjaa
open Go.RowKit
set_option maxRecDepth 100000
set_option linter.unusedVariables false
set_option linter.unusedSimpArgs false

theorem us_next {P : Nat → List Bool} {k : Nat} : (us P (k + 1)).length = if ua P k = (us P k).length then (us P k).length + 1 else (us P k).length := by
  rcases us_step (P := P) (k := k) with ⟨e, h⟩ | ⟨e, h⟩
  · rw [e, if_neg (by omega)]
  · rw [e, if_pos h, List.length_append, List.length_singleton]
theorem list_getD {l1 l2 : List Bool} {N : Nat} (a1 : l1.length = N) (a2 : l2.length = N) (h : ∀ q, q < N → l1.getD q false = l2.getD q false) : l1 = l2 := by
  refine List.ext_getElem (by rw [a1, a2]) fun q h1 h2 => ?_
  have e := h q (by rw [← a1]; exact h1)
  rw [List.getD_eq_getElem?_getD, List.getD_eq_getElem?_getD, List.getElem?_eq_getElem h1, List.getElem?_eq_getElem h2] at e
  exact e
theorem us_ne {P : Nat → List Bool} {m i j N : Nat} (hP : ∀ k, (P k).length = N) (hij : i < j) (hj : j < (us P m).length) : ¬ ∀ q, q < N → ((us P m).getD i []).getD q false = ((us P m).getD j []).getD q false :=
  fun h => us_diff m i j hij hj (list_getD (us_len m i (Nat.lt_trans hij hj) hP) (us_len m j hj hP) h)
section
variable {g : Nat → Bool} {wn hn nx ny : Nat} {w : World}
/-- Join of the units of a grid. -/
theorem join_back (w0 : 1 ≤ wn) (h0 : 1 ≤ hn) (n1 : 1 ≤ nx) (n2 : 1 ≤ ny) (hW : nx * wn ≤ 64) (hH : ny * hn ≤ 64) {A A2 : Option Addr} {c c2 : Nat} {G : Nat → GV}
    (hG : GLs w A (us (Pp nx wn hn g) (nx * ny)).length G)
    (he : ∀ i, i < (us (Pp nx wn hn g) (nx * ny)).length → (G i).W = (wn : Nat) ∧ (G i).H = (hn : Nat) ∧ (G i).n = wn * hn ∧ ∀ j, j < wn * hn → (G i).f j = ((us (Pp nx wn hn g) (nx * ny)).getD i []).getD j false)
    (ha : L2.Holds w w.heap.size A2 (nx * ny) (fun i => (ua (Pp nx wn hn g) i : Int))) :
    Calls Try.prog 53 #[.slice A (us (Pp nx wn hn g) (nx * ny)).length c, .slice A2 (nx * ny) c2, .int .i64 (nx : Nat)] w (RG w ((nx * wn : Nat) : Int) ((ny * hn : Nat) : Int) (nx * wn * (ny * hn)) g 0) := by
  have b1 : nx ≤ 64 := Nat.le_trans (Nat.le_mul_of_pos_right _ w0) hW
  have b2 : ny ≤ 64 := Nat.le_trans (Nat.le_mul_of_pos_right _ h0) hH
  have b3 : wn ≤ 64 := Nat.le_trans (Nat.le_mul_of_pos_left _ n1) hW
  have b4 : hn ≤ 64 := Nat.le_trans (Nat.le_mul_of_pos_left _ n2) hH
  have b5 : nx * ny ≤ 64 * 64 := Nat.mul_le_mul b1 b2
  have b6 : wn * hn ≤ 64 * 64 := Nat.mul_le_mul b3 b4
  have b7 := us_le (P := Pp nx wn hn g) (nx * ny)
  have b8 : 0 < nx * ny := Nat.mul_pos n1 n2
  have b9 := ua_lt (P := Pp nx wn hn g) b8
  refine (join_ok A _ c G A2 (nx * ny) c2 _ (nx : Nat) w (by omega) (fun i hi => by rw [(he i hi).2.2.1]; omega) hG (by omega) ha (by omega) (fe_zero.2 fun i hi => ?_) (decide_eq_true fun i hi => ?_) nx ny rfl n1 n2 (Nat.mul_comm _ _) (ua (Pp nx wn hn g)) (fun i hi => ⟨rfl, ua_lt hi⟩) wn hn (fun i hi => ⟨(he i hi).1, (he i hi).2.1, (he i hi).2.2.1⟩) w0 b3 h0 b4 hW hH).mono fun e' w' h => ?_
  · obtain ⟨e1, e2, e3, _⟩ := he i hi
    rw [e1, e2, e3]
    exact chk_zero w0 b3 h0 b4
  · obtain ⟨e1, e2, _⟩ := he i hi
    obtain ⟨f1, f2, _⟩ := he 0 (by omega)
    exact ⟨e1.trans f1.symm, e2.trans f2.symm⟩
  · obtain ⟨A3, c3, h1, h2, h3⟩ := RG.ok h
    refine ⟨A3, c3, h1, h2.congr (jo_pt fun k hk i hi => ?_), h3⟩
    rw [(he _ (ua_lt hk)).2.2.2 i hi, ua_get hk]
    exact bl_get hi
end
/-- What Profile and Fill of the profile give. -/
def PrC (w : World) (W H X Y U V : Int) (A B C : Option Addr) (n c m d k e : Nat) (g : Nat → Bool) : Prop :=
  (∃ z : Int, z ≠ 0 ∧ ∀ u, Below w.heap.size w u → Calls Try.prog 47 #[.agg #[.int .i64 W, .int .i64 H, .slice A n c], .agg #[.int .i64 X, .int .i64 Y, .slice B m d], .agg #[.int .i64 U, .int .i64 V, .slice C k e]] u (RG u 0 0 0 (fun _ => false) z)) ∨
  ∃ (pw ph pn : Nat) (F : Nat → Bool), (∀ u, Below w.heap.size w u → Calls Try.prog 47 #[.agg #[.int .i64 W, .int .i64 H, .slice A n c], .agg #[.int .i64 X, .int .i64 Y, .slice B m d], .agg #[.int .i64 U, .int .i64 V, .slice C k e]] u (RG u (pw : Nat) (ph : Nat) pn F 0)) ∧
    ∀ u A1 c1, Below w.heap.size w u → Holds u u.heap.size A1 pn F → Calls Try.prog 45 #[.agg #[.int .i64 (pw : Nat), .int .i64 (ph : Nat), .slice A1 pn c1], .agg #[.int .i64 X, .int .i64 Y, .slice B m d], .agg #[.int .i64 U, .int .i64 V, .slice C k e]] u (RG u W H n g 0)
/-- What Units and Join of the units give. -/
def UnC (w : World) (W H x y : Int) (A : Option Addr) (n c : Nat) (g : Nat → Bool) : Prop :=
  (∀ u, Below w.heap.size w u → Calls Try.prog 51 #[.agg #[.int .i64 W, .int .i64 H, .slice A n c], .int .i64 x, .int .i64 y] u (UR u 1 1 0 (fun _ _ => false) 0 0 (fun _ => 0) 26)) ∨
  ∃ (wn hn nx nn m K : Nat) (FF : Nat → Nat → Bool) (pp L : Nat → Nat), x = (wn : Nat) ∧ 1 ≤ wn ∧ wn ≤ 64 ∧ nx ≤ 64 ∧ W.tdiv (wn : Nat) = (nx : Nat) ∧ nn ≤ 5000 ∧ m ≤ 5000 ∧ K ≤ 5000 ∧
    (∀ u, Below w.heap.size w u → Calls Try.prog 51 #[.agg #[.int .i64 W, .int .i64 H, .slice A n c], .int .i64 x, .int .i64 y] u (UR u (wn : Nat) (hn : Nat) nn FF m K pp 0)) ∧
    (∀ u A1 c1 A2 c2 G, GLs u A1 m G → (∀ i, i < m → (G i).W = (wn : Nat) ∧ (G i).H = (hn : Nat) ∧ (G i).n = nn ∧ ∀ j, j < nn → (G i).f j = FF i j) → L2.Holds u u.heap.size A2 K (fun i => (pp i : Int)) →
      Calls Try.prog 53 #[.slice A1 m c1, .slice A2 K c2, .int .i64 (nx : Nat)] u (RG u W H n g 0)) ∧
    L 0 = 0 ∧ L K = m ∧ (∀ j, j < K → pp j ≤ L j ∧ pp j < m ∧ L j ≤ 5000 ∧ L (j + 1) = if pp j = L j then L j + 1 else L j) ∧ ∀ i j, i < j → j < m → ¬ ∀ q, q < nn → FF i q = FF j q
theorem unC (P Q : Nat) (x y : Int) (A : Option Addr) (c : Nat) (g : Nat → Bool) (w : World) (hg : Holds w w.heap.size A (P * Q) g) (p0 : 1 ≤ P) (p1 : P ≤ 64) (q0 : 1 ≤ Q) (q1 : Q ≤ 64) : UnC w (P : Nat) (Q : Nat) x y A (P * Q) c g := by
  by_cases a1 : x < 1
  · exact .inl fun u hu => units_c1 x y _ _ _ _ _ u p0 p1 q0 q1 a1
  by_cases a2 : y < 1
  · exact .inl fun u hu => units_c2 x y _ _ _ _ _ u p0 p1 q0 q1 a1 a2
  by_cases a3 : (P : Int) % x = 0
  · by_cases a4 : (Q : Int) % y = 0
    · obtain ⟨wn, rfl⟩ := Int.eq_ofNat_of_zero_le (show 0 ≤ x by omega)
      obtain ⟨hn, rfl⟩ := Int.eq_ofNat_of_zero_le (show 0 ≤ y by omega)
      have d1 : wn ∣ P := Nat.dvd_of_mod_eq_zero (by omega)
      have d2 : hn ∣ Q := Nat.dvd_of_mod_eq_zero (by omega)
      obtain ⟨nx, e1⟩ := d1
      obtain ⟨ny, e2⟩ := d2
      rw [Nat.mul_comm] at e1 e2
      subst e1 e2
      have w0 : 1 ≤ wn := by omega
      have h0 : 1 ≤ hn := by omega
      have n1 : 1 ≤ nx := Nat.pos_of_ne_zero fun h => by rw [h, Nat.zero_mul] at p0; omega
      have n2 : 1 ≤ ny := Nat.pos_of_ne_zero fun h => by rw [h, Nat.zero_mul] at q0; omega
      have b1 : nx ≤ 64 := Nat.le_trans (Nat.le_mul_of_pos_right _ w0) p1
      have b2 : ny ≤ 64 := Nat.le_trans (Nat.le_mul_of_pos_right _ h0) q1
      have b3 : wn ≤ 64 := Nat.le_trans (Nat.le_mul_of_pos_left _ n1) p1
      have b4 : hn ≤ 64 := Nat.le_trans (Nat.le_mul_of_pos_left _ n2) q1
      have b5 : nx * ny ≤ 64 * 64 := Nat.mul_le_mul b1 b2
      have b6 : wn * hn ≤ 64 * 64 := Nat.mul_le_mul b3 b4
      have b7 := us_le (P := Pp nx wn hn g) (nx * ny)
      refine .inr ⟨wn, hn, nx, wn * hn, (us (Pp nx wn hn g) (nx * ny)).length, nx * ny, fun i j => ((us (Pp nx wn hn g) (nx * ny)).getD i []).getD j false, ua (Pp nx wn hn g), fun k => (us (Pp nx wn hn g) k).length, rfl, w0, b3, b1, tdq w0, by omega, by omega, by omega,
        fun u hu => un_ok n1 n2 w0 h0 p1 q1 hg u hu, fun u A1 c1 A2 c2 G h1 h2 h3 => join_back w0 h0 n1 n2 p1 q1 h1 h2 h3, rfl, rfl, fun j hj => ⟨ua_le, ua_lt hj, by have := us_le (P := Pp nx wn hn g) j; show (us (Pp nx wn hn g) j).length ≤ 5000; omega, us_next⟩, fun i j hi hj => us_ne (fun k => bl_len) hi hj⟩
    · exact .inl fun u hu => units_c4 x y _ _ _ _ _ u p0 p1 q0 q1 a1 a2 a3 a4
  · exact .inl fun u hu => units_c3 x y _ _ _ _ _ u p0 p1 q0 q1 a1 a2 a3
theorem prC (P Q u v u' v' : Nat) (A B C : Option Addr) (c d e : Nat) (g a b : Nat → Bool) (w : World) (hg : Holds w w.heap.size A (P * Q) g) (ha : Holds w w.heap.size B (u * v) a) (hb : Holds w w.heap.size C (u' * v') b)
    (p0 : 1 ≤ P) (p1 : P ≤ 64) (q0 : 1 ≤ Q) (q1 : Q ≤ 64) (u0 : 1 ≤ u) (u1 : u ≤ 64) (v0 : 1 ≤ v) (v1 : v ≤ 64) (x0 : 1 ≤ u') (x1 : u' ≤ 64) (z0 : 1 ≤ v') (z1 : v' ≤ 64) :
    PrC w (P : Nat) (Q : Nat) (u : Nat) (v : Nat) (u' : Nat) (v' : Nat) A B C (P * Q) c (u * v) d (u' * v') e g := by
  have n1 : P * Q ≤ 64 * 64 := Nat.mul_le_mul p1 q1
  have n2 : u * v ≤ 64 * 64 := Nat.mul_le_mul u1 v1
  have n3 : u' * v' ≤ 64 * 64 := Nat.mul_le_mul x1 z1
  have hz : gfe 3 (G3 ⟨(P : Nat), (Q : Nat), A, P * Q, c, g⟩ ⟨(u : Nat), (v : Nat), B, u * v, d, a⟩ ⟨(u' : Nat), (v' : Nat), C, u' * v', e, b⟩) = 0 := by
    rw [gfe_3]; simp [chk_zero p0 p1 q0 q1, chk_zero u0 u1 v0 v1, chk_zero x0 x1 z0 z1]
  by_cases hs : u' = u ∧ v' = v
  · obtain ⟨rfl, rfl⟩ := hs
    by_cases a3 : P % u' = 0
    · by_cases a4 : Q % v' = 0
      · obtain ⟨W, e1⟩ := Nat.dvd_of_mod_eq_zero a3
        obtain ⟨H, e2⟩ := Nat.dvd_of_mod_eq_zero a4
        rw [Nat.mul_comm] at e1 e2
        subst e1 e2
        have W0 : 1 ≤ W := Nat.pos_of_ne_zero fun h => by rw [h, Nat.zero_mul] at p0; omega
        have H0 : 1 ≤ H := Nat.pos_of_ne_zero fun h => by rw [h, Nat.zero_mul] at q0; omega
        by_cases he : ∀ j, j < u' * v' → a j = b j
        · exact .inl ⟨14, by decide, fun z h => prof_same W0 H0 u0 v0 p1 q1 ((hg.below h).more h.size) ((ha.below h).more h.size) ((hb.below h).more h.size) _ he⟩
        by_cases hp : ∀ k, k < W * H → (∀ j, j < u' * v' → ptF (W * u') u' v' W g k j = a j) ∨ (∀ j, j < u' * v' → ptF (W * u') u' v' W g k j = b j)
        · refine .inr ⟨W, H, W * H, _, fun z h => prof_two W0 H0 u0 v0 p1 q1 ((hg.below h).more h.size) ((ha.below h).more h.size) ((hb.below h).more h.size) he hp, fun z A1 c1 h hh => ?_⟩
          refine (fill_ok W0 H0 hh u0 v0 ((ha.below h).more h.size) ((hb.below h).more h.size) p1 q1).mono fun e' w' ⟨A2, c2, h1, h2, h3⟩ => ⟨A2, c2, h1, h2.congr (fil_pt fun k hk i hi => ?_), h3⟩
          by_cases hq : ∀ j, j < u' * v' → ptF (W * u') u' v' W g k j = a j
          · rw [if_pos (decide_eq_true hq), hq i hi]
          · rw [if_neg (by simpa using hq)]
            exact (((hp k hk).resolve_left hq) i hi).symm
        · have ⟨k, hk⟩ := Classical.not_forall.1 hp
          have ⟨hk1, hk2⟩ := Classical.not_imp.1 hk
          have ⟨hk3, hk4⟩ := not_or.1 hk2
          exact .inl ⟨6, by decide, fun z h => prof_none W0 H0 u0 v0 p1 q1 ((hg.below h).more h.size) ((ha.below h).more h.size) ((hb.below h).more h.size) _ he k hk1 hk3 hk4⟩
      · exact .inl ⟨26, by decide, fun z h => prof_un z ((hg.below h).more h.size) ((ha.below h).more h.size) ((hb.below h).more h.size) (by omega) (by omega) (by omega) _ hz ⟨rfl, rfl⟩ 26 (by decide) fun t ht => units_c4 (u' : Nat) (v' : Nat) 1 1 0 (fun _ _ => false) (fun _ => 0) t p0 p1 q0 q1 (by omega) (by omega) (by omega) (by omega)⟩
    · exact .inl ⟨26, by decide, fun z h => prof_un z ((hg.below h).more h.size) ((ha.below h).more h.size) ((hb.below h).more h.size) (by omega) (by omega) (by omega) _ hz ⟨rfl, rfl⟩ 26 (by decide) fun t ht => units_c3 (u' : Nat) (v' : Nat) 1 1 0 (fun _ _ => false) (fun _ => 0) t p0 p1 q0 q1 (by omega) (by omega) (by omega)⟩
  · exact .inl ⟨26, by decide, fun z h => prof_c1 z ((hg.below h).more h.size) ((ha.below h).more h.size) ((hb.below h).more h.size) (by omega) (by omega) (by omega) _ hz (fun q => hs ⟨by omega, by omega⟩)⟩
end Go.Proofs.Ytngjcekjboedjaa
