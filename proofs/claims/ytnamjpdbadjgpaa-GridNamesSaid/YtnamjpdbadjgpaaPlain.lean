/- Plain facts on the text of a grid: no walk. -/
import Derived.Test.YtnamjpdbadjgpaaText
import Derived.Test.YtnamjpdbadjgpaaParse
namespace Go.Proofs.Ytnamjpdbadjgpaa
set_option linter.unusedVariables false
set_option linter.unusedSimpArgs false

theorem indexByte_of (l1 l2 : List UInt8) (c : UInt8) (h : c ∉ l1) : Lib.indexByte (l1 ++ c :: l2) c = (l1.length : Int) := by
  induction l1 with
  | nil => simp [Lib.indexByte]
  | cons a l ih =>
    have h1 : ¬ a = c := fun e => h (by simp [e])
    have h2 := ih (fun hm => h (by simp [hm]))
    have h3 : ((l.length : Int) == -1) = false := by simp
    simp [Lib.indexByte, h1, h2, h3]
theorem mk_ne (b : Bool) : mk b ≠ 10 := by cases b <;> decide
theorem cellsL_no (W : Nat) (f : Nat → Bool) (y x : Nat) : (10 : UInt8) ∉ cellsL W f y x := by
  unfold cellsL
  intro h
  obtain ⟨i, _, e⟩ := List.mem_map.1 h
  exact mk_ne _ e
theorem rowsT_cons (W H : Nat) (f : Nat → Bool) (k : Nat) : ∃ l, rowsT W H f (k + 1) = cellsL W f (H - 1) W ++ 10 :: l := by
  refine ⟨(List.range k).flatMap fun j => rowL W f (H - 1 - (j + 1)), ?_⟩
  unfold rowsT
  rw [List.range_succ_eq_map, List.flatMap_cons, List.flatMap_map, rowL]
  simp
theorem index_text (W H : Nat) (f : Nat → Bool) (h : 1 ≤ H) : Lib.indexByte (rowsT W H f H) 10 = (W : Int) := by
  obtain ⟨k, rfl⟩ : ∃ k, H = k + 1 := ⟨H - 1, by omega⟩
  obtain ⟨l, e⟩ := rowsT_cons W (k + 1) f k
  rw [e, indexByte_of _ _ _ (cellsL_no _ _ _ _), cellsL_length]
/-- The bytes of a text, by their places. -/
theorem rowsT_get (W H : Nat) (f : Nat → Bool) (k i : Nat) (hi : i < k * (W + 1)) :
    (rowsT W H f k)[i]? = some (if i % (W + 1) = W then 10 else mk (f ((H - 1 - i / (W + 1)) * W + i % (W + 1)))) := by
  induction k with
  | zero => simp at hi
  | succ k ih =>
    rw [rowsT_succ]
    by_cases h : i < k * (W + 1)
    · rw [List.getElem?_append_left (by rw [rowsT_length]; exact h), ih h]
    · rw [List.getElem?_append_right (by rw [rowsT_length]; omega), rowsT_length]
      rw [Nat.add_mul, Nat.one_mul] at hi
      have hd : i / (W + 1) = k := by
        rw [Nat.div_eq_iff (by omega)]
        omega
      have hm : i % (W + 1) = i - k * (W + 1) := by
        have := Nat.div_add_mod i (W + 1)
        rw [hd, Nat.mul_comm] at this
        omega
      rw [hd, hm]
      have hr' : i - k * (W + 1) < W + 1 := by omega
      generalize i - k * (W + 1) = r at *
      rw [rowL]
      by_cases hr : r = W
      · rw [if_pos hr, List.getElem?_append_right (by rw [cellsL_length]; omega), cellsL_length, hr]; simp
      · rw [if_neg hr, List.getElem?_append_left (by rw [cellsL_length]; omega)]
        unfold cellsL
        rw [List.getElem?_map, List.getElem?_range (by omega)]
        rfl
end Go.Proofs.Ytnamjpdbadjgpaa
