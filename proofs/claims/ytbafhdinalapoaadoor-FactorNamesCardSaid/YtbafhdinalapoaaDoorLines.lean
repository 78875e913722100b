/- Whether a string has lines of one length: by the program. -/
import Derived.Test.YtbafhdinalapoaaDoorGa
namespace Go.Proofs.YtbafhdinalapoaaDoor
open Go.RowKit
set_option linter.unusedVariables false
set_option linter.unusedSimpArgs false

/-- The byte at i is what a text with lines of w characters has there. -/
def okAt (s : ByteArray) (w i : Nat) (h : i < s.size) : Prop := if i % (w + 1) = w then (s[i]'h).toNat = 10 else (s[i]'h).toNat = 120 ∨ (s[i]'h).toNat = 46
def Lines (s : ByteArray) (w : Nat) : Prop := s.size % (w + 1) = 0 ∧ ∀ i (h : i < s.size), okAt s w i h
def Says (p : Prop) (w : World) (e : Ending) (w' : World) : Prop := ∃ b : Bool, e = .returned (.bool b) ∧ (b = true ↔ p) ∧ w' = w
theorem says_no {p : Prop} {w : World} (h : ¬ p) : Says p w (.returned (.bool false)) w := ⟨false, rfl, ⟨(fun h' => by cases h'), (fun h' => absurd h' h)⟩, rfl⟩
theorem says_yes {p : Prop} {w : World} (h : p) : Says p w (.returned (.bool true)) w := ⟨true, rfl, ⟨fun _ => h, fun _ => rfl⟩, rfl⟩

set_option maxHeartbeats 800000 in
theorem lines_any (s : ByteArray) (w : Nat) (W : World) (hs : s.size ≤ 5000) (h0 : 1 ≤ w) (h1 : w ≤ 64) :
    Calls Tryd.prog 64 #[.string s, .int .i64 w] W (Says (Lines s w) W) := by
  by_cases hm : s.size % (w + 1) = 0
  · have hmi : (s.size : Int) % ((w : Int) + 1) = 0 := by have := congrArg (fun n : Nat => (n : Int)) hm; simpa using this
    have hmb : ((s.size : Int) % ((w : Int) + 1) != 0) = false := by simp [hmi]
    have HM := Lib.hid hm
    clear hm hmi
    go_enter Tryd.func64, Tryd.ntmps64
    go_wp2
    go_loop [14] (fun i => ∃ k : Nat, k ≤ s.size ∧ i = .int .i64 k ∧ Hid (∀ i (h : i < s.size), i < k → okAt s w i h)) (fun i => s.size - (intOf i).toNat)
    case atStart => exact ⟨0, Nat.zero_le _, rfl, fun i _ hi => absurd hi (by omega)⟩
    case round =>
      obtain ⟨k, hk, rfl, hall⟩ := hrel
      by_cases hlt : k < s.size
      · by_cases he : k % (w + 1) = w
        · have hei : ((k : Int) % ((w : Int) + 1) == (w : Int)) = true := by
            have := congrArg (fun n : Nat => (n : Int)) he; simpa using this
          have HE := Lib.hid he
          clear he
          go_wp2
          · have h : (((s[k]'hlt).toNat : Int) != 10) = true := by assumption
            go_ret
            refine says_no fun L => ?_
            have g := L.2 k hlt
            unfold okAt at g
            rw [if_pos HE.out] at g
            simp [g] at h
          · have h : (((s[k]'hlt).toNat : Int) != 10) = false := by assumption
            refine ⟨⟨k + 1, by omega, by go_num, fun i hi hi' => ?_⟩, by simp [intOf]; omega⟩
            rcases Nat.lt_succ_iff_lt_or_eq.1 hi' with h' | rfl
            · exact hall.out i hi h'
            · unfold okAt
              rw [if_pos HE.out]
              simp at h; omega
        · have hei : ((k : Int) % ((w : Int) + 1) == (w : Int)) = false := by
            have : ((k % (w + 1) : Nat) : Int) ≠ (w : Int) := fun h => he (by exact_mod_cast h)
            simpa using this
          have HE := Lib.hid he
          clear he
          go_wp2
          · have h : ((s[k]'hlt).toNat : Int) = 120 := by assumption
            refine ⟨⟨k + 1, by omega, by go_num, fun i hi hi' => ?_⟩, by simp [intOf]; omega⟩
            rcases Nat.lt_succ_iff_lt_or_eq.1 hi' with h' | rfl
            · exact hall.out i hi h'
            · unfold okAt
              rw [if_neg HE.out]
              exact .inl (by omega)
          · have h : (((s[k]'hlt).toNat : Int) != 120) = true ∧ (((s[k]'hlt).toNat : Int) != 46) = true := by assumption
            go_ret
            refine says_no fun L => ?_
            have g := L.2 k hlt
            unfold okAt at g
            rw [if_neg HE.out] at g
            rcases g with g | g <;> simp [g] at h
          · have h : (((s[k]'hlt).toNat : Int) != 120) = false ∨ (((s[k]'hlt).toNat : Int) != 46) = false := by assumption
            refine ⟨⟨k + 1, by omega, by go_num, fun i hi hi' => ?_⟩, by simp [intOf]; omega⟩
            rcases Nat.lt_succ_iff_lt_or_eq.1 hi' with h' | rfl
            · exact hall.out i hi h'
            · unfold okAt
              rw [if_neg HE.out]
              rcases h with h | h <;> simp at h <;> omega
      · have e : k = s.size := by omega
        subst e
        go_wp2
        go_ret
        exact says_yes ⟨HM.out, fun i hi => hall.out i hi hi⟩
  · have hmi : ¬ (s.size : Int) % ((w : Int) + 1) = 0 := fun h => hm (by
      have e : ((s.size % (w + 1) : Nat) : Int) = (s.size : Int) % ((w : Int) + 1) := by simp
      omega)
    have hmb : ((s.size : Int) % ((w : Int) + 1) != 0) = true := by simp [hmi]
    have HM := Lib.hid hm
    clear hm hmi
    go_enter Tryd.func64, Tryd.ntmps64
    go_wp2
    go_ret
    exact says_no fun L => HM.out L.1
end Go.Proofs.YtbafhdinalapoaaDoor
