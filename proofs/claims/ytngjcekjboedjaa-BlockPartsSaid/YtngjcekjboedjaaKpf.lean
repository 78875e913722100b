/- Layer 13 of the program: Profile of a filled profile. -/
import Derived.Test.YtngjcekjboedjaaKfw
namespace Go.Proofs.Ytngjcekjboedjaa
open Go.RowKit
set_option maxRecDepth 100000
set_option linter.unusedVariables false
set_option linter.unusedSimpArgs false

section
variable {W H u v : Nat} {A B C : Option Addr} {c d e : Nat} {g a b : Nat → Bool} {w : World}
theorem g3_zero {P Q : Nat} (p0 : 1 ≤ P) (p1 : P ≤ 64) (q0 : 1 ≤ Q) (q1 : Q ≤ 64) (u0 : 1 ≤ u) (u1 : u ≤ 64) (v0 : 1 ≤ v) (v1 : v ≤ 64) : gfe 3 (G3 ⟨(P : Nat), (Q : Nat), A, P * Q, c, g⟩ ⟨(u : Nat), (v : Nat), B, u * v, d, a⟩ ⟨(u : Nat), (v : Nat), C, u * v, e, b⟩) = 0 := by
  rw [gfe_3]; simp [chk_zero p0 p1 q0 q1, chk_zero u0 u1 v0 v1]
/-- The cells of the units of a grid, as lists. -/
def Pp (W u v : Nat) (g : Nat → Bool) (k : Nat) : List Bool := bl (u * v) (ptF (W * u) u v W g k)
theorem un_ok (W0 : 1 ≤ W) (H0 : 1 ≤ H) (u0 : 1 ≤ u) (v0 : 1 ≤ v) (h6 : W * u ≤ 64) (h7 : H * v ≤ 64) (hg : Holds w w.heap.size A (W * u * (H * v)) g) (z : World) (hb : Below w.heap.size w z) :
    Calls Try.prog 51 #[.agg #[.int .i64 ((W * u : Nat) : Int), .int .i64 ((H * v : Nat) : Int), .slice A (W * u * (H * v)) c], .int .i64 (u : Nat), .int .i64 (v : Nat)] z (UR z (u : Nat) (v : Nat) (u * v) (fun i j => ((us (Pp W u v g) (W * H)).getD i []).getD j false) (us (Pp W u v g) (W * H)).length (W * H) (ua (Pp W u v g)) 0) :=
  units_ok u v W H g z ((hg.below hb).more hb.size) u0 v0 W0 H0 h6 h7 (Pp W u v g) (fun _ => rfl)
theorem tdq {a b : Nat} (h : 1 ≤ b) : (((a * b : Nat) : Int)).tdiv (b : Nat) = (a : Nat) := by
  rw [tdiv_nat, Nat.mul_div_cancel _ (by omega)]
/-- Profile of equal units. -/
theorem prof_same (W0 : 1 ≤ W) (H0 : 1 ≤ H) (u0 : 1 ≤ u) (v0 : 1 ≤ v) (h6 : W * u ≤ 64) (h7 : H * v ≤ 64) (hg : Holds w w.heap.size A (W * u * (H * v)) g) (ha : Holds w w.heap.size B (u * v) a) (hb : Holds w w.heap.size C (u * v) b) (F : Nat → Bool) (hs : ∀ j, j < u * v → a j = b j) :
    Calls Try.prog 47 #[.agg #[.int .i64 ((W * u : Nat) : Int), .int .i64 ((H * v : Nat) : Int), .slice A (W * u * (H * v)) c], .agg #[.int .i64 (u : Nat), .int .i64 (v : Nat), .slice B (u * v) d], .agg #[.int .i64 (u : Nat), .int .i64 (v : Nat), .slice C (u * v) e]] w (RG w 0 0 0 F 14) := by
  have hW : W ≤ 64 := Nat.le_trans (Nat.le_mul_of_pos_right _ u0) h6
  have hH : H ≤ 64 := Nat.le_trans (Nat.le_mul_of_pos_right _ v0) h7
  have u1 : u ≤ 64 := Nat.le_trans (Nat.le_mul_of_pos_left _ W0) h6
  have v1 : v ≤ 64 := Nat.le_trans (Nat.le_mul_of_pos_left _ H0) h7
  have n1 : W * u * (H * v) ≤ 64 * 64 := Nat.mul_le_mul h6 h7
  have n2 : u * v ≤ 64 * 64 := Nat.mul_le_mul u1 v1
  have n3 : W * H ≤ 64 * 64 := Nat.mul_le_mul hW hH
  have n4 := us_le (P := Pp W u v g) (W * H)
  exact prof_tw w hg ha hb (by omega) (by omega) (g3_zero (Nat.mul_le_mul W0 u0) h6 (Nat.mul_le_mul H0 v0) h7 u0 u1 v0 v1) (M := (us (Pp W u v g) (W * H)).length) (K := W * H) (p := ua (Pp W u v g)) (by omega) (by omega) (fun z hb => un_ok W0 H0 u0 v0 h6 h7 hg z hb) F hs
/-- Profile of a grid each part of which is one of two units. -/
theorem prof_two (W0 : 1 ≤ W) (H0 : 1 ≤ H) (u0 : 1 ≤ u) (v0 : 1 ≤ v) (h6 : W * u ≤ 64) (h7 : H * v ≤ 64) (hg : Holds w w.heap.size A (W * u * (H * v)) g) (ha : Holds w w.heap.size B (u * v) a) (hb : Holds w w.heap.size C (u * v) b) (hs : ¬ ∀ j, j < u * v → a j = b j)
    (hp : ∀ k, k < W * H → (∀ j, j < u * v → ptF (W * u) u v W g k j = a j) ∨ (∀ j, j < u * v → ptF (W * u) u v W g k j = b j)) :
    Calls Try.prog 47 #[.agg #[.int .i64 ((W * u : Nat) : Int), .int .i64 ((H * v : Nat) : Int), .slice A (W * u * (H * v)) c], .agg #[.int .i64 (u : Nat), .int .i64 (v : Nat), .slice B (u * v) d], .agg #[.int .i64 (u : Nat), .int .i64 (v : Nat), .slice C (u * v) e]] w (RG w (W : Nat) (H : Nat) (W * H) (fun k => decide (∀ j, j < u * v → ptF (W * u) u v W g k j = a j)) 0) := by
  have hW : W ≤ 64 := Nat.le_trans (Nat.le_mul_of_pos_right _ u0) h6
  have hH : H ≤ 64 := Nat.le_trans (Nat.le_mul_of_pos_right _ v0) h7
  have u1 : u ≤ 64 := Nat.le_trans (Nat.le_mul_of_pos_left _ W0) h6
  have v1 : v ≤ 64 := Nat.le_trans (Nat.le_mul_of_pos_left _ H0) h7
  have n1 : W * u * (H * v) ≤ 64 * 64 := Nat.mul_le_mul h6 h7
  have n2 : u * v ≤ 64 * 64 := Nat.mul_le_mul u1 v1
  have n3 : W * H ≤ 64 * 64 := Nat.mul_le_mul hW hH
  have n4 := us_le (P := Pp W u v g) (W * H)
  refine (prof_ok w hg ha hb (by omega) (by omega) (g3_zero (Nat.mul_le_mul W0 u0) h6 (Nat.mul_le_mul H0 v0) h7 u0 u1 v0 v1) (M := (us (Pp W u v g) (W * H)).length) (K := W * H) (p := ua (Pp W u v g)) (by omega) (by omega) (fun z hb => un_ok W0 H0 u0 v0 h6 h7 hg z hb) hs (fun i hi => ?_) (fun i hi => ua_lt hi) W H (by omega) (by omega) (tdq u0) (tdq v0) hW hH rfl).mono fun e' w' ⟨A2, c2, he, hh, hb'⟩ => ⟨A2, c2, he, hh.congr fun k hk => ?_, hb'⟩
  · obtain ⟨k, hk, e1⟩ := us_has (P := Pp W u v g) (W * H) i hi
    rw [e1]
    unfold Pp
    rcases hp k hk with h | h
    · exact .inl fun t ht => by rw [bl_get ht]; exact h t ht
    · exact .inr fun t ht => by rw [bl_get ht]; exact h t ht
  · show decide (∀ j, j < u * v → ((us (Pp W u v g) (W * H)).getD (ua (Pp W u v g) k) []).getD j false = a j) = decide (∀ j, j < u * v → ptF (W * u) u v W g k j = a j)
    rw [ua_get hk]
    rw [Bool.eq_iff_iff, decide_eq_true_iff, decide_eq_true_iff]
    exact ⟨fun h j hj => by rw [← h j hj]; exact (bl_get hj).symm, fun h j hj => by rw [← h j hj]; exact bl_get hj⟩
/-- Profile of a grid one part of which is neither unit. -/
theorem prof_none (W0 : 1 ≤ W) (H0 : 1 ≤ H) (u0 : 1 ≤ u) (v0 : 1 ≤ v) (h6 : W * u ≤ 64) (h7 : H * v ≤ 64) (hg : Holds w w.heap.size A (W * u * (H * v)) g) (ha : Holds w w.heap.size B (u * v) a) (hb : Holds w w.heap.size C (u * v) b) (F : Nat → Bool) (hs : ¬ ∀ j, j < u * v → a j = b j)
    (k : Nat) (hk : k < W * H) (h1 : ¬ ∀ j, j < u * v → ptF (W * u) u v W g k j = a j) (h2 : ¬ ∀ j, j < u * v → ptF (W * u) u v W g k j = b j) :
    Calls Try.prog 47 #[.agg #[.int .i64 ((W * u : Nat) : Int), .int .i64 ((H * v : Nat) : Int), .slice A (W * u * (H * v)) c], .agg #[.int .i64 (u : Nat), .int .i64 (v : Nat), .slice B (u * v) d], .agg #[.int .i64 (u : Nat), .int .i64 (v : Nat), .slice C (u * v) e]] w (RG w 0 0 0 F 6) := by
  have hW : W ≤ 64 := Nat.le_trans (Nat.le_mul_of_pos_right _ u0) h6
  have hH : H ≤ 64 := Nat.le_trans (Nat.le_mul_of_pos_right _ v0) h7
  have u1 : u ≤ 64 := Nat.le_trans (Nat.le_mul_of_pos_left _ W0) h6
  have v1 : v ≤ 64 := Nat.le_trans (Nat.le_mul_of_pos_left _ H0) h7
  have n1 : W * u * (H * v) ≤ 64 * 64 := Nat.mul_le_mul h6 h7
  have n2 : u * v ≤ 64 * 64 := Nat.mul_le_mul u1 v1
  have n3 : W * H ≤ 64 * 64 := Nat.mul_le_mul hW hH
  have n4 := us_le (P := Pp W u v g) (W * H)
  have e1 := ua_get (P := Pp W u v g) hk
  refine prof_no w hg ha hb (by omega) (by omega) (g3_zero (Nat.mul_le_mul W0 u0) h6 (Nat.mul_le_mul H0 v0) h7 u0 u1 v0 v1) (M := (us (Pp W u v g) (W * H)).length) (K := W * H) (p := ua (Pp W u v g)) (by omega) (by omega) (fun z hb => un_ok W0 H0 u0 v0 h6 h7 hg z hb) F hs (ua (Pp W u v g) k) (ua_lt hk) ?_ ?_
  · rw [e1]; exact fun h => h1 fun j hj => by rw [← h j hj]; exact (bl_get hj).symm
  · rw [e1]; exact fun h => h2 fun j hj => by rw [← h j hj]; exact (bl_get hj).symm
/-- Profile of a filled profile. -/
theorem prof_fil {f : Nat → Bool} (W0 : 1 ≤ W) (H0 : 1 ≤ H) (u0 : 1 ≤ u) (v0 : 1 ≤ v) (h6 : W * u ≤ 64) (h7 : H * v ≤ 64) (hg : Holds w w.heap.size A (W * u * (H * v)) (fil W u v f a b)) (ha : Holds w w.heap.size B (u * v) a) (hb : Holds w w.heap.size C (u * v) b) (hs : ¬ ∀ j, j < u * v → a j = b j) :
    Calls Try.prog 47 #[.agg #[.int .i64 ((W * u : Nat) : Int), .int .i64 ((H * v : Nat) : Int), .slice A (W * u * (H * v)) c], .agg #[.int .i64 (u : Nat), .int .i64 (v : Nat), .slice B (u * v) d], .agg #[.int .i64 (u : Nat), .int .i64 (v : Nat), .slice C (u * v) e]] w (RG w (W : Nat) (H : Nat) (W * H) f 0) :=
  (prof_two W0 H0 u0 v0 h6 h7 hg ha hb hs fun k hk => by
    cases hf : f k
    · exact .inr fun j hj => by rw [pt_fil u0 v0 hk hj, hf]; rfl
    · exact .inl fun j hj => by rw [pt_fil u0 v0 hk hj, hf]; rfl).mono fun e' w' ⟨A2, c2, he, hh, hb'⟩ => ⟨A2, c2, he, hh.congr fun k hk => by
    cases hf : f k
    · exact decide_eq_false fun h => hs fun j hj => by
        have := h j hj
        rw [pt_fil u0 v0 hk hj, hf] at this
        exact this.symm
    · exact decide_eq_true fun j hj => by rw [pt_fil u0 v0 hk hj, hf]; rfl, hb'⟩
/-- The reference's Same of grids with the same cells. -/
theorem rsame_t {W H : Int} {A D : Option Addr} {n c d : Nat} {f g : Nat → Bool} (hn : n ≤ 5000) (e : ∀ i, i < n → f i = g i) (w : World) (h1 : Holds w w.heap.size A n f) (h2 : Holds w w.heap.size D n g) :
    Calls Try.prog 49 #[.agg #[.int .i64 W, .int .i64 H, .slice A n c], .agg #[.int .i64 W, .int .i64 H, .slice D n d]] w fun e w' => e = .returned (.bool true) ∧ Below w.heap.size w w' :=
  (rsame_loop W H W H A D n c d f g w hn rfl rfl h1 h2).mono fun e' w' h => ⟨by rw [h.1, decide_eq_true e], h.2⟩
end
end Go.Proofs.Ytngjcekjboedjaa
