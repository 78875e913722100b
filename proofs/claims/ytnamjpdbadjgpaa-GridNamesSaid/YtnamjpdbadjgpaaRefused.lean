/- refused: of a string that is no text. -/
import Derived.Test.YtnamjpdbadjgpaaParseany
namespace Go.Proofs.Ytnamjpdbadjgpaa
open Go.RowKit
set_option linter.unusedVariables false
set_option linter.unusedSimpArgs false

theorem parse_none (s : ByteArray) (W : World) (hs : s.size ≤ 5000) (hn : ∀ w h, ¬ Txt s w h) :
    Calls Try.prog 29 #[.string s] W (ErrGrid W 12) := by
  refine (parse_any s W hs).mono ?_
  rintro e w' (⟨w, h, ht, _⟩ | ⟨_, hE⟩)
  · exact absurd ht (hn w h)
  · exact hE

theorem refused_yes (s : ByteArray) (W : World) (hs : s.size ≤ 5000) (hn : ∀ w h, ¬ Txt s w h) :
    Calls Try.prog 22 #[.string s] W fun e w' => e = .returned (.bool true) ∧ Below W.heap.size W w' := by
  have HP := Lib.hid (fun w => parse_none s w hs hn)
  clear hn hs
  go_enter Try.func22, Try.ntmps22
  go_wp2_with fail
  refine (HP.out _).mono ?_
  rintro e w2 ⟨rfl, bel⟩
  go_wp2_with fail
  refine bodyPost_ret (v := .bool true) (by simp [results, Try.results22, go_sem]) rfl ⟨rfl, ?_⟩
  exact bel.alloc bel.size _
end Go.Proofs.Ytnamjpdbadjgpaa
