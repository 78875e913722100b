/- A text is a text: what Parse gives of it is what it was made of, and the text of that is the string again. -/
import Derived.Test.YtnamjpdbadjgpaaPlain
import Derived.Test.YtnamjpdbadjgpaaParseany
namespace Go.Proofs.Ytnamjpdbadjgpaa
open Go.RowKit
set_option linter.unusedVariables false
set_option linter.unusedSimpArgs false

def T (W H : Nat) (f : Nat → Bool) : ByteArray := ⟨(rowsT W H f H).toArray⟩
theorem T_size (W H : Nat) (f : Nat → Bool) : (T W H f).size = H * (W + 1) := by
  show (rowsT W H f H).toArray.size = _
  rw [List.size_toArray, rowsT_length]
theorem T_get (W H : Nat) (f : Nat → Bool) (i : Nat) (h : i < (T W H f).size) :
    (T W H f)[i]'h = if i % (W + 1) = W then 10 else mk (f ((H - 1 - i / (W + 1)) * W + i % (W + 1))) := by
  have h' : i < H * (W + 1) := by rw [← T_size W H f]; exact h
  have e := rowsT_get W H f H i h'
  have e2 : (rowsT W H f H)[i]? = some ((T W H f)[i]'h) := by
    rw [List.getElem?_eq_getElem (by rw [rowsT_length]; exact h')]
    rfl
  rw [e2] at e
  exact Option.some.inj e
theorem mk_nat (b : Bool) : (mk b).toNat = if b then 120 else 46 := by cases b <;> rfl
theorem T_lines (W H : Nat) (f : Nat → Bool) : Lines (T W H f) W := by
  refine ⟨by rw [T_size]; exact Nat.mul_mod_left _ _, ?_⟩
  intro i h
  unfold okAt
  rw [T_get]
  split
  · rfl
  · rw [mk_nat]; split <;> simp
theorem T_txt (W H : Nat) (f : Nat → Bool) (a1 : 1 ≤ W) (a2 : W ≤ 64) (a3 : 1 ≤ H) (a4 : H ≤ 64) : Txt (T W H f) W H :=
  ⟨a1, a2, a3, a4, (T_size W H f).symm, T_lines W H f, index_text W H f a3⟩
theorem T_bit (W H : Nat) (f : Nat → Bool) (y x : Nat) (hy : y < H) (hx : x < W) :
    bitS (T W H f) ((H - 1 - y) * (W + 1) + x) = f (y * W + x) := by
  have hlt : (H - 1 - y) * (W + 1) + x < (T W H f).size := by rw [T_size]; exact text_ix hx hy rfl
  unfold bitS
  rw [dif_pos hlt, T_get]
  have hm : ((H - 1 - y) * (W + 1) + x) % (W + 1) = x := by
    rw [Nat.mul_comm, Nat.mul_add_mod, Nat.mod_eq_of_lt (by omega)]
  have hd : ((H - 1 - y) * (W + 1) + x) / (W + 1) = H - 1 - y := by
    rw [Nat.mul_comm, Nat.mul_add_div (by omega), Nat.div_eq_of_lt (by omega)]; rfl
  rw [hm, hd, if_neg (by omega), mk_nat]
  have : H - 1 - (H - 1 - y) = y := by omega
  rw [this]
  cases f (y * W + x) <;> rfl
theorem T_bits (W H : Nat) (f : Nat → Bool) (i : Nat) (hi : i < W * H) :
    bitS (T W H f) ((H - 1 - i / W) * (W + 1) + i % W) = f i := by
  have hW : 0 < W := by
    rcases Nat.eq_zero_or_pos W with h | h
    · subst h; simp at hi
    · exact h
  rw [T_bit W H f (i / W) (i % W) (Nat.div_lt_of_lt_mul hi) (Nat.mod_lt _ hW)]
  congr 1
  rw [Nat.mul_comm]
  exact Nat.div_add_mod i W
theorem txt_T (s : ByteArray) (w h : Nat) (ht : Txt s w h) :
    T w h (fun i => bitS s ((h - 1 - i / w) * (w + 1) + i % w)) = s := by
  obtain ⟨a1, a2, a3, a4, a5, ⟨_, a6⟩, _⟩ := ht
  apply ByteArray.ext
  apply Array.ext
  · exact (T_size w h _).trans a5
  · intro i h1 h2
    show (T w h _)[i]'h1 = s[i]'h2
    have hi : i < h * (w + 1) := by rw [a5]; exact h2
    have ok := a6 i h2
    unfold okAt at ok
    rw [T_get]
    by_cases hm : i % (w + 1) = w
    · rw [if_pos hm] at ok
      rw [if_pos hm]
      exact (UInt8.toNat_inj.1 (by rw [ok]; rfl)).symm
    · rw [if_neg hm] at ok
      rw [if_neg hm]
      have hx : i % (w + 1) < w := by have := Nat.mod_lt i (show 0 < w + 1 by omega); omega
      have hy : i / (w + 1) < h := Nat.div_lt_of_lt_mul (by rw [Nat.mul_comm]; exact hi)
      have e1 : ((h - 1 - i / (w + 1)) * w + i % (w + 1)) / w = h - 1 - i / (w + 1) := by
        rw [Nat.mul_comm, Nat.mul_add_div (by omega), Nat.div_eq_of_lt hx]; rfl
      have e2 : ((h - 1 - i / (w + 1)) * w + i % (w + 1)) % w = i % (w + 1) := by
        rw [Nat.mul_comm, Nat.mul_add_mod, Nat.mod_eq_of_lt hx]
      have e3 : h - 1 - (h - 1 - i / (w + 1)) = i / (w + 1) := Nat.sub_sub_self (Nat.le_sub_one_of_lt hy)
      have e4 : i / (w + 1) * (w + 1) + i % (w + 1) = i := by rw [Nat.mul_comm]; exact Nat.div_add_mod i (w + 1)
      simp only [e1, e2, e3, e4]
      unfold bitS
      have h2' : i < s.size := h2
      rw [dif_pos h2']
      apply UInt8.toNat_inj.1
      rw [mk_nat]
      rcases ok with ok | ok <;> rw [ok] <;> rfl
end Go.Proofs.Ytnamjpdbadjgpaa
