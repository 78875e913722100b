/- GridBack holds for every grid and every string; no condition. -/
import Derived.Test.YtnamjpdbadjgpaaRows
import Derived.Test.YtnamjpdbadjgpaaOpen
import Derived.Test.YtnamjpdbadjgpaaBacky
import Derived.ProofKit
import Derived.OpenShut
import Derived.ShutString
import Derived.ChangeOld
namespace Go.Proofs.Ytnamjpdbadjgpaa.gridBack
open Go.ChangeShapes Go.WideShapes Go.ChangeAt Go.RowKit
open Go.ChangeMaps (open_string shut_string)
set_option linter.unusedVariables false
set_option linter.unusedSimpArgs false

theorem own : ownKnob Try.prog.godebug = none := by kernel_rfl
theorem laidOut : laidOutB Try.prog = true := by kernel_rfl

theorem back_any (W H : Int) (A : Option Addr) (n c : Nat) (f : Nat → Bool) (s : ByteArray) (w : World) (hr : Holds w w.heap.size A n f) (hb63 : s.size < 2 ^ 63) :
    Calls Try.prog 7 #[.agg #[.int .i64 W, .int .i64 H, .slice A n c], .string s] w fun e w' => e = .returned (.bool true) ∧ Below w.heap.size w w' := by
  by_cases hn : 4200 < n
  · by_cases hl : 5000 < s.size
    · exact back_great_long W H A n c s w hn hl hb63
    · by_cases hT : ∃ P Q, Txt s P Q
      · obtain ⟨P, Q, hT⟩ := hT
        exact back_great_text W H A n c s w hn (by omega) P Q hT hb63
      · exact back_great_none W H A n c s w hn (by omega) (fun P Q h => hT ⟨P, Q, h⟩) hb63
  · by_cases h0 : chk W H n = 0
    · obtain ⟨P', Q', rfl, rfl, rfl, a1, a2, a3, a4⟩ := chk_nat h0
      by_cases hl : 5000 < s.size
      · exact back_yes_long P' Q' A c f s w hr a1 a2 a3 a4 hl hb63
      · by_cases hT : ∃ P Q, Txt s P Q
        · obtain ⟨P, Q, hT⟩ := hT
          exact back_yes_text P' Q' A c f s w hr a1 a2 a3 a4 (by omega) P Q hT hb63
        · exact back_yes_none P' Q' A c f s w hr a1 a2 a3 a4 (by omega) (fun P Q h => hT ⟨P, Q, h⟩) hb63
    · by_cases hl : 5000 < s.size
      · exact back_no_long W H A n c s w (by omega) h0 hl hb63
      · by_cases hT : ∃ P Q, Txt s P Q
        · obtain ⟨P, Q, hT⟩ := hT
          exact back_no_text W H A n c s w (by omega) h0 (by omega) P Q hT hb63
        · exact back_no_none W H A n c s w (by omega) h0 (by omega) (fun P Q h => hT ⟨P, Q, h⟩) hb63

set_option maxRecDepth 100000 in
theorem lifted (os : Os) (started : os.Started) (H : Type) (enc : TypeId × Value → H) :
    ReturnsInHanded {} Try.checked os 7 .any (Rows.gridBackSpec.pre6 enc Try.prog Try.f7 Rows.gridBackRow.domain false) (Rows.gridBackSpec.post enc Try.prog Try.f7 false true false false) := by
  refine returnsInHanded_of_change (C := Try.checked) own started (by kernel_rfl) Try.func7
    (ChangeSpec.witness6 (enc := enc) (C := Try.checked) false ⟨#[], #[.agg #[.int .i64 0, .int .i64 0, .slice none 0 0], .string ⟨#[]⟩], []⟩ 8 (by kernel_rfl) (by kernel_rfl) (by kernel_rfl) (by kernel_rfl)) ?_
  intro W base args ds gs before hval0 hW hcnd _
  have hval : ∀ (j : Nat) t v, Try.f7.params[j]? = some t → args[j]? = some v → Value.okWide Try.prog W .any base t v := hval0
  have hW' := hW
  obtain ⟨p, q, hA0, hV, rfl, hfz, hnd⟩ := hW
  have hA : DataW.TrodAll enc Try.prog W 0 (fun _ => true) true Try.f7.params.toList args.toList ds p := hA0
  rw [Try.params7] at hA hval
  obtain ⟨v0, vs0, d0, ds0, p0, q0, hargs, rfl, rfl, h0, r0⟩ := trodAll_cons hA
  obtain ⟨v1, vs1, d1, ds1, p1, q1, rfl, rfl, rfl, h1, r1⟩ := trodAll_cons r0
  obtain ⟨rfl, rfl, rfl⟩ := trodAll_nil r1
  obtain rfl : args = #[v0, v1] := by cases args; simp_all
  obtain ⟨rfl, rfl⟩ := trodVars_none hV
  have k0 := h0
  have lt0 : ∀ x ∈ p0, x.block < W.heap.size := by obtain ⟨m, hm⟩ := k0; exact DataW.trod_lt m _ _ _ hm
  obtain ⟨W0, H0, A0, n0, c0, f0, rfl, w0, w0', g0⟩ := open_grid (hval 0 24 v0 rfl rfl) h0
  obtain ⟨s, rfl, rfl, rfl, hs⟩ := open_string Try.underlying9 (hval 1 9 v1 rfl rfl) h1
  clear hA0 hval0
  simp only [List.append_nil, List.nil_append] at hW'
  refine (back_any W0 H0 A0 n0 c0 f0 s W g0 (by have := hs; simp [maxLen] at this; omega)).mono fun e W' ⟨he, bel⟩ => ?_
  subst he
  exact ⟨_, rfl, _, _, _, [], _, [], hW', trodAll_mk1 (shut_bool Try.underlying4 _), (trodAll_cons_mk (Below.trod laidOut (by kernel_rfl) (of_decide_eq_true (by kernel_rfl)) k0 bel lt0) (trodAll_cons_mk (shut_string Try.underlying9 hs) trodAll_mk0)), rfl, bel.frame _, fun h => by cases h⟩

theorem over : Rows.gridBackRow.holds Try.pinned (OpenSpec.ofChange Rows.gridBackSpec) :=
  OpenClaim.holds_of_wide 7 Try.f7 rfl rfl rfl rfl rfl rfl rfl ⟨rfl, rfl, rfl, rfl, rfl⟩ rfl rfl rfl rfl rfl (by kernel_rfl) Try.func7 (by kernel_rfl)
    (of_decide_eq_true (by kernel_rfl)) (by unfold Func.isWrapper; first | (rw [if_pos (by decide +kernel)]; kernel_rfl) | (rw [if_neg (by decide +kernel)]; exact ⟨rfl, rfl⟩))
    (fun os started H enc _ => lifted os started H enc)

theorem proved : Rows.GridBackSaid := over
end Go.Proofs.Ytnamjpdbadjgpaa.gridBack
