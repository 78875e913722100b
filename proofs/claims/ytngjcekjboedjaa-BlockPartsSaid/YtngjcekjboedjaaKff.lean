/- Layer 13 of the program: what Fill and Profile hand back. -/
import Derived.Test.YtngjcekjboedjaaKps
namespace Go.Proofs.Ytngjcekjboedjaa
open Go.RowKit
set_option maxRecDepth 100000
set_option linter.unusedVariables false
set_option linter.unusedSimpArgs false

section
variable {W H : Nat} {A B C : Option Addr} {c d e : Nat} {f a b : Nat → Bool} {w : World}
theorem fill_ze {X Y U V : Int} {m k : Nat} (hW0 : 1 ≤ W) (hW : W ≤ 64) (hH0 : 1 ≤ H) (hH : H ≤ 64) (hf : Holds w w.heap.size A (W * H) f) (ha : Holds w w.heap.size B m a) (hb : Holds w w.heap.size C k b) (hm : m ≤ 4200) (hk : k ≤ 4200) (F : Nat → Bool)
    (z : Int) (hz : (if chk X Y m ≠ 0 then chk X Y m else chk U V k) = z) (hne : z ≠ 0) : Calls Try.prog 45 #[.agg #[.int .i64 (W : Nat), .int .i64 (H : Nat), .slice A (W * H) c], .agg #[.int .i64 X, .int .i64 Y, .slice B m d], .agg #[.int .i64 U, .int .i64 V, .slice C k e]] w (RG w 0 0 0 F z) := by
  have hM : W * H ≤ 64 * 64 := Nat.mul_le_mul hW hH
  refine fill_any W H hW0 hW hH0 hH w hf ha hb 0 0 0 F z fun u D E hu hG hE => ?_
  exact (join_err D 2 2 _ E (W * H) (W * H) _ (W : Nat) u (by omega) (fun i hi => by rcases (show i = 0 ∨ i = 1 by omega) with rfl | rfl <;> assumption) hG (by omega) hE (by omega) z (by rw [gfe_2]; exact hz) hne).mono fun _ _ => RG.err
theorem chk_two {u v u' v' : Nat} (h1 : chk (u : Nat) (v : Nat) (u * v) = 0) (h2 : chk (u' : Nat) (v' : Nat) (u' * v') = 0) (B C : Option Addr) (d e : Nat) (a b : Nat → Bool) : gfe 2 (fun i => if i = 0 then (⟨(u : Nat), (v : Nat), B, u * v, d, a⟩ : GV) else ⟨(u' : Nat), (v' : Nat), C, u' * v', e, b⟩) = 0 := by
  rw [gfe_2]; simp [h1, h2]
theorem fill_cnt {u v u' v' : Nat} (hW0 : 1 ≤ W) (hW : W ≤ 64) (hH0 : 1 ≤ H) (hH : H ≤ 64) (hf : Holds w w.heap.size A (W * H) f) (u0 : 1 ≤ u) (u1 : u ≤ 64) (v0 : 1 ≤ v) (v1 : v ≤ 64) (x0 : 1 ≤ u') (x1 : u' ≤ 64) (z0 : 1 ≤ v') (z1 : v' ≤ 64)
    (ha : Holds w w.heap.size B (u * v) a) (hb : Holds w w.heap.size C (u' * v') b) (F : Nat → Bool) (hne : ¬ (u' = u ∧ v' = v)) : Calls Try.prog 45 #[.agg #[.int .i64 (W : Nat), .int .i64 (H : Nat), .slice A (W * H) c], .agg #[.int .i64 (u : Nat), .int .i64 (v : Nat), .slice B (u * v) d], .agg #[.int .i64 (u' : Nat), .int .i64 (v' : Nat), .slice C (u' * v') e]] w (RG w 0 0 0 F 26) := by
  have hM : W * H ≤ 64 * 64 := Nat.mul_le_mul hW hH
  have h1 : u * v ≤ 64 * 64 := Nat.mul_le_mul u1 v1
  have h2 : u' * v' ≤ 64 * 64 := Nat.mul_le_mul x1 z1
  refine fill_any W H hW0 hW hH0 hH w hf ha hb 0 0 0 F 26 fun y D E hu hG hE => ?_
  exact (join_c1 D 2 2 _ E (W * H) (W * H) _ (W : Nat) y (by omega) (fun i hi => by rcases (show i = 0 ∨ i = 1 by omega) with rfl | rfl <;> first | (show u * v ≤ 4200; omega) | (show u' * v' ≤ 4200; omega)) hG (by omega) hE (by omega) (chk_two (chk_zero u0 u1 v0 v1) (chk_zero x0 x1 z0 z1) B C d e a b) (by rw [one_2]; exact decide_eq_false fun q => hne ⟨by have h : (u' : Int) = u := q.1; omega, by have h : (v' : Int) = v := q.2; omega⟩)).mono fun _ _ => RG.err
theorem fil_places {f : Nat → Bool} {k : Nat} : ∀ i, i < k → (if f i then (0 : Int) else 1) = (((if f i then 0 else 1 : Nat) : Nat) : Int) ∧ (if f i then 0 else 1 : Nat) < 2 := fun i _ => by cases f i <;> simp
theorem one_same {u v : Nat} (B C : Option Addr) (d e : Nat) (a b : Nat → Bool) : one 2 (fun i => if i = 0 then (⟨(u : Nat), (v : Nat), B, u * v, d, a⟩ : GV) else ⟨(u : Nat), (v : Nat), C, u * v, e, b⟩) = true := by
  rw [one_2]; simp
theorem fill_many {u v : Nat} (hW0 : 1 ≤ W) (hW : W ≤ 64) (hH0 : 1 ≤ H) (hH : H ≤ 64) (hf : Holds w w.heap.size A (W * H) f) (u0 : 1 ≤ u) (u1 : u ≤ 64) (v0 : 1 ≤ v) (v1 : v ≤ 64)
    (ha : Holds w w.heap.size B (u * v) a) (hb : Holds w w.heap.size C (u * v) b) (F : Nat → Bool) (hne : ¬ (W * u ≤ 64 ∧ H * v ≤ 64)) : Calls Try.prog 45 #[.agg #[.int .i64 (W : Nat), .int .i64 (H : Nat), .slice A (W * H) c], .agg #[.int .i64 (u : Nat), .int .i64 (v : Nat), .slice B (u * v) d], .agg #[.int .i64 (u : Nat), .int .i64 (v : Nat), .slice C (u * v) e]] w (RG w 0 0 0 F 4) := by
  have hM : W * H ≤ 64 * 64 := Nat.mul_le_mul hW hH
  have h1 : u * v ≤ 64 * 64 := Nat.mul_le_mul u1 v1
  have hn : ∀ i, i < 2 → ((fun i => if i = 0 then (⟨(u : Nat), (v : Nat), B, u * v, d, a⟩ : GV) else ⟨(u : Nat), (v : Nat), C, u * v, e, b⟩) i).n ≤ 4200 := fun i hi => by
    rcases (show i = 0 ∨ i = 1 by omega) with rfl | rfl <;> (show u * v ≤ 4200; omega)
  have hi : inds (W * H) (fun i => if f i then 0 else 1) (2 : Nat) = true := decide_eq_true fun i _ => by
    show (0 : Int) ≤ (if f i then 0 else 1) ∧ (if f i then (0 : Int) else 1) < ((2 : Nat) : Int)
    cases f i <;> simp
  have hz := chk_two (chk_zero u0 u1 v0 v1) (chk_zero u0 u1 v0 v1) B C d e a b
  refine fill_any W H hW0 hW hH0 hH w hf ha hb 0 0 0 F 4 fun y D E hu hG hE => ?_
  by_cases h6 : W * u ≤ 64
  · exact (join_many2 D 2 2 _ E (W * H) (W * H) _ (W : Nat) y (by omega) hn hG (by omega) hE (by omega) hz (one_same B C d e a b) W H rfl hW0 hH0 (Nat.mul_comm _ _) hi u v rfl rfl u0 u1 v0 v1 h6 (by omega)).mono fun _ _ => RG.err
  · exact (join_many1 D 2 2 _ E (W * H) (W * H) _ (W : Nat) y (by omega) hn hG (by omega) hE (by omega) hz (one_same B C d e a b) W H rfl hW0 hH0 (Nat.mul_comm _ _) hi u v rfl rfl u0 u1 v0 v1 (by omega)).mono fun _ _ => RG.err
theorem fill_ok {u v : Nat} (hW0 : 1 ≤ W) (hH0 : 1 ≤ H) (hf : Holds w w.heap.size A (W * H) f) (u0 : 1 ≤ u) (v0 : 1 ≤ v)
    (ha : Holds w w.heap.size B (u * v) a) (hb : Holds w w.heap.size C (u * v) b) (h6 : W * u ≤ 64) (h7 : H * v ≤ 64) : Calls Try.prog 45 #[.agg #[.int .i64 (W : Nat), .int .i64 (H : Nat), .slice A (W * H) c], .agg #[.int .i64 (u : Nat), .int .i64 (v : Nat), .slice B (u * v) d], .agg #[.int .i64 (u : Nat), .int .i64 (v : Nat), .slice C (u * v) e]] w (RG w ((W * u : Nat) : Int) ((H * v : Nat) : Int) (W * u * (H * v)) (fil W u v f a b) 0) := by
  have hW : W ≤ 64 := Nat.le_trans (Nat.le_mul_of_pos_right _ u0) h6
  have hH : H ≤ 64 := Nat.le_trans (Nat.le_mul_of_pos_right _ v0) h7
  have u1 : u ≤ 64 := Nat.le_trans (Nat.le_mul_of_pos_left _ hW0) h6
  have v1 : v ≤ 64 := Nat.le_trans (Nat.le_mul_of_pos_left _ hH0) h7
  have hM : W * H ≤ 64 * 64 := Nat.mul_le_mul hW hH
  have h1 : u * v ≤ 64 * 64 := Nat.mul_le_mul u1 v1
  have hn : ∀ i, i < 2 → ((fun i => if i = 0 then (⟨(u : Nat), (v : Nat), B, u * v, d, a⟩ : GV) else ⟨(u : Nat), (v : Nat), C, u * v, e, b⟩) i).n ≤ 4200 := fun i hi => by
    rcases (show i = 0 ∨ i = 1 by omega) with rfl | rfl <;> (show u * v ≤ 4200; omega)
  have hz := chk_two (chk_zero u0 u1 v0 v1) (chk_zero u0 u1 v0 v1) B C d e a b
  refine fill_any W H hW0 hW hH0 hH w hf ha hb _ _ _ _ 0 fun y D E hu hG hE => ?_
  refine (join_ok D 2 2 _ E (W * H) (W * H) _ (W : Nat) y (by omega) hn hG (by omega) hE (by omega) hz (one_same B C d e a b) W H rfl hW0 hH0 (Nat.mul_comm _ _) (fun i => if f i then 0 else 1) fil_places u v (fun i hi => by rcases (show i = 0 ∨ i = 1 by omega) with rfl | rfl <;> exact ⟨rfl, rfl, rfl⟩) u0 u1 v0 v1 h6 h7).mono fun _ _ h => ?_
  have h := RG.ok h
  have e1 : (fun i => ((fun i => if i = 0 then (⟨(u : Nat), (v : Nat), B, u * v, d, a⟩ : GV) else ⟨(u : Nat), (v : Nat), C, u * v, e, b⟩) i).f) = fun i => if i = 0 then a else b := by
    funext i
    by_cases e : i = 0 <;> simp [e]
  rw [e1] at h
  exact h
end
end Go.Proofs.Ytngjcekjboedjaa
