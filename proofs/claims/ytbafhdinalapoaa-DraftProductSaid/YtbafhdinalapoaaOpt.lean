/- The program's Tile and Part. -/
import Derived.Test.YtbafhdinalapoaaOps
namespace Go.Proofs.Ytbafhdinalapoaa
open Go.RowKit
set_option linter.unusedVariables false
set_option linter.unusedSimpArgs false

theorem build_int (Wi Hi : Int) (W H : Nat) (eW : Wi = W) (eH : Hi = H) (hW0 : 1 ≤ W) (hW : W ≤ 64) (hH0 : 1 ≤ H) (hH : H ≤ 64) (g : Nat) (lb : Array Value) (F : Nat → Nat → Bool) (w : World) (hG : Gives g lb w W H F)
    (eg : ∀ args w, (callFunc g args).run Try.prog w = .ok (.enter g args) w) :
    Calls Try.prog 49 #[.int .i64 Wi, .int .i64 Hi, .func (.func g) #[] lb] w fun e w' =>
      ∃ k, e = .returned (.agg #[.int .i64 W, .int .i64 H, .slice (some ⟨k, 0, none⟩) (W * H) (W * H)]) ∧ w.heap.size ≤ k ∧ Row w' k (W * H) (fun i => F (i % W) (i / W)) ∧ Below w.heap.size w w' := by
  subst eW eH
  exact build_any W H hW0 hW hH0 hH g lb F w hG eg

theorem quo_bd (W : Nat) (hW0 : 1 ≤ W) : (64 : Int).tdiv (W : Int) = (64 : Int) / (W : Int) ∧ 0 ≤ (64 : Int) / (W : Int) ∧ (64 : Int) / (W : Int) ≤ 64 := by
  have e : (64 : Int) / (W : Int) = ((64 / W : Nat) : Int) := by simp
  refine ⟨Int.tdiv_eq_ediv_of_nonneg (by omega), by rw [e]; exact Int.natCast_nonneg _, ?_⟩
  rw [e]
  exact Int.ofNat_le.2 (Nat.div_le_self 64 W)
theorem quo_le {W n : Nat} (hW0 : 1 ≤ W) : ¬ (64 : Int) / (W : Int) < (n : Int) ↔ n * W ≤ 64 := by
  have e : (64 : Int) / (W : Int) = ((64 / W : Nat) : Int) := by simp
  rw [e, Int.not_lt, Int.ofNat_le, Nat.le_div_iff_mul_le (by omega)]

theorem Num.new (w : World) (v : Int) : Num (w.alloc (.cells #[.int .i64 v] 3)) w.heap.size v := by
  refine ⟨?_, by simp⟩
  simp
/-- Part's parameters in boxes of their own, and the result's box, behind the first call. -/
theorem after4 {w w1 : World} {W H x y : Int} {v : Value} (hb : Below ((((w.alloc (.cells #[.int .i64 W, .int .i64 H, v] 24)).alloc (.cells #[.int .i64 x] 3)).alloc (.cells #[.int .i64 y] 3)).alloc (.cells #[.int .i64 0, .int .i64 0, .slice none 0 0] 24)).heap.size
      ((((w.alloc (.cells #[.int .i64 W, .int .i64 H, v] 24)).alloc (.cells #[.int .i64 x] 3)).alloc (.cells #[.int .i64 y] 3)).alloc (.cells #[.int .i64 0, .int .i64 0, .slice none 0 0] 24)) w1) :
    Box w1 w.heap.size W H v ∧ Num w1 (w.heap.size + 1) x ∧ Num w1 (w.heap.size + 2) y ∧ Box w1 (w.heap.size + 3) 0 0 (.slice none 0 0) ∧ Below w.heap.size w w1 ∧ w.heap.size + 4 ≤ w1.heap.size := by
  have h1 := ((((Box.new w W H v).alloc (.cells #[.int .i64 x] 3)).alloc (.cells #[.int .i64 y] 3)).alloc (.cells #[.int .i64 0, .int .i64 0, .slice none 0 0] 24)).below hb (by simp; omega)
  have h2 := (Box.new (((w.alloc (.cells #[.int .i64 W, .int .i64 H, v] 24)).alloc (.cells #[.int .i64 x] 3)).alloc (.cells #[.int .i64 y] 3)) 0 0 (.slice none 0 0)).below hb (by simp)
  have n1 := (((Num.new (w.alloc (.cells #[.int .i64 W, .int .i64 H, v] 24)) x).below ((Below.refl _ _).alloc (Nat.le_refl _) (.cells #[.int .i64 y] 3))).below ((Below.refl _ _).alloc (Nat.le_refl _) (.cells #[.int .i64 0, .int .i64 0, .slice none 0 0] 24))).below hb
  have n2 := ((Num.new ((w.alloc (.cells #[.int .i64 W, .int .i64 H, v] 24)).alloc (.cells #[.int .i64 x] 3)) y).below ((Below.refl _ _).alloc (Nat.le_refl _) (.cells #[.int .i64 0, .int .i64 0, .slice none 0 0] 24))).below hb
  have h3 : Below w.heap.size w w1 := (((((Below.refl _ _).alloc (Nat.le_refl _) _).alloc (by simp) _).alloc (by simp; omega) _).alloc (by simp; omega) _).trans (hb.mono (by simp; omega))
  have h4 := hb.size
  simp at h2 h4 n1 n2
  exact ⟨h1, n1, n2, h2, h3, by omega⟩

end Go.Proofs.Ytbafhdinalapoaa
