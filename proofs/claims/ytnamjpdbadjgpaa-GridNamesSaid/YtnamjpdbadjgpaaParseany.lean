/- The program's Parse at any string of at most 5,000 bytes. -/
import Derived.Test.YtnamjpdbadjgpaaParse
import Derived.Test.YtnamjpdbadjgpaaShelf
namespace Go.Proofs.Ytnamjpdbadjgpaa
open Go.RowKit
set_option linter.unusedVariables false
set_option linter.unusedSimpArgs false

/-- A text of h lines with w characters each; w is where its first line ends. -/
def Txt (s : ByteArray) (w h : Nat) : Prop :=
  1 ≤ w ∧ w ≤ 64 ∧ 1 ≤ h ∧ h ≤ 64 ∧ h * (w + 1) = s.size ∧ Lines s w ∧ Lib.indexByte s.data.toList 10 = (w : Int)

theorem index_at (s : ByteArray) (v : Int) (h : Lib.indexByte s.data.toList 10 = v) (W' : World) :
    Calls Try.prog 62 #[.string s, .int .u8 10] W' fun e w' => e = .returned (.int .i64 v) ∧ w' = W' := by
  refine (Try.strings_IndexByte s 10 W').mono ?_
  rintro e w' ⟨he, hw⟩
  refine ⟨?_, hw⟩
  rw [he, ← h]
  rfl

theorem parse_any (s : ByteArray) (W : World) (hs : s.size ≤ 5000) :
    Calls Try.prog 29 #[.string s] W fun e w' =>
      (∃ w h, Txt s w h ∧ OkGrid W w h (fun i => bitS s ((h - 1 - i / w) * (w + 1) + i % w)) e w') ∨
      ((∀ w h, ¬ Txt s w h) ∧ ErrGrid W 12 e w') := by
  obtain ⟨v, hv⟩ : ∃ v, Lib.indexByte s.data.toList 10 = v := ⟨_, rfl⟩
  have hI := index_at s v hv
  by_cases hw : v < 1 ∨ 64 < v
  · refine (parse_bad1 s v W hw hI).mono ?_
    intro e w' hE
    refine .inr ⟨?_, hE⟩
    rintro w h ⟨a1, a2, _, _, _, _, a7⟩
    rw [hv] at a7
    omega
  · obtain ⟨w, rfl⟩ : ∃ w : Nat, v = (w : Int) := ⟨v.toNat, by omega⟩
    have w0 : 1 ≤ w := by omega
    have w1 : w ≤ 64 := by omega
    have same : ∀ w' h, Txt s w' h → w' = w := by
      rintro w' h ⟨_, _, _, _, _, _, a7⟩
      rw [hv] at a7
      omega
    by_cases hL : Lines s w
    · have hne : s.size ≠ 0 := by
        intro h0
        have e0 : s.data.toList = [] := by
          have : s.data.size = 0 := h0
          exact List.length_eq_zero_iff.1 (by simpa using this)
        rw [e0] at hv
        simp [Lib.indexByte] at hv
      have hm : s.size % (w + 1) = 0 := hL.1
      obtain ⟨h, hn⟩ : ∃ h, h * (w + 1) = s.size := ⟨s.size / (w + 1), Nat.div_mul_cancel (Nat.dvd_of_mod_eq_zero hm)⟩
      have h0 : 1 ≤ h := by
        rcases Nat.eq_zero_or_pos h with h' | h'
        · rw [h', Nat.zero_mul] at hn
          exact absurd hn.symm hne
        · exact h'
      by_cases h1 : h ≤ 64
      · refine (parse_ok s w h W hs w0 w1 h0 h1 hn hL hI).mono ?_
        intro e w' hO
        exact .inl ⟨w, h, ⟨w0, w1, h0, h1, hn, hL, hv⟩, hO⟩
      · refine (parse_bad3 s w h W hs w0 w1 hL hn (by omega) hI).mono ?_
        intro e w' hE
        refine .inr ⟨?_, hE⟩
        intro w2 h2 ht
        have e2 := same w2 h2 ht
        subst e2
        obtain ⟨_, _, _, b4, b5, _, _⟩ := ht
        rw [← hn] at b5
        have := Nat.eq_of_mul_eq_mul_right (by omega) b5
        omega
    · refine (parse_bad2 s w W hs w0 w1 hL hI).mono ?_
      intro e w' hE
      refine .inr ⟨?_, hE⟩
      intro w2 h2 ht
      have e2 := same w2 h2 ht
      subst e2
      exact hL ht.2.2.2.2.2.1
end Go.Proofs.Ytnamjpdbadjgpaa
