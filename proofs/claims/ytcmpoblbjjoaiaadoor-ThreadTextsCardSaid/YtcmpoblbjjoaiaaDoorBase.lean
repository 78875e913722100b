/- What the walks of this seat say of a list's elements in memory, and the first contracts: Great, Check, Same. -/
import Derived.Test.YtcmpoblbjjoaiaaDoorProg
import Derived.WalkKit
import Derived.Below
import Derived.Lib.Hide
import Derived.Outline
import Derived.WalkSpells
import Derived.Deep.OwnRows
import Derived.Deep.Draws
import Derived.Deep.QuietTactic
import Derived.BigQuiet
namespace Go.Proofs.YtcmpoblbjjoaiaaDoor
open Go.RowKit
set_option linter.unusedVariables false
set_option linter.unusedSimpArgs false

/-- The slice at 'A' of 'n' elements holds 'f 0', 'f 1', .., in a block below B. -/
def Holds (w : World) (B : Nat) (A : Option Addr) (n : Nat) (f : Nat → Int) : Prop :=
  0 < n → ∃ b o, A = some ⟨b, o, none⟩ ∧ b < B ∧ ∀ i, i < n → w.cell? ⟨b, o + i, none⟩ = some (.int .i64 (f i))
section
variable {w w' : World} {B B' n g : Nat} {A : Option Addr} {f : Nat → Int}
theorem Holds.below (h : Holds w B A n f) (hb : Below B w w') : Holds w' B A n f := fun hn => by
  obtain ⟨b, o, e, hlt, hc⟩ := h hn
  exact ⟨b, o, e, hlt, fun i hi => (hb.cell (p := ⟨b, o + i, none⟩) hlt).trans (hc i hi)⟩
theorem Holds.more (h : Holds w B A n f) (hB : B ≤ B') : Holds w B' A n f := fun hn => by
  obtain ⟨b, o, e, hlt, hc⟩ := h hn
  exact ⟨b, o, e, by omega, hc⟩
theorem Holds.none_ : Holds w B A 0 f := fun h => absurd h (by omega)
/-- The block g is a row of n elements of the call's own. -/
def Row (w : World) (g n : Nat) (f : Nat → Int) : Prop :=
  ∃ cs : Array Value, w.heap[g]? = some (.cells cs 3 (0, 0)) ∧ n ≤ cs.size ∧ ∀ i, i < n → cs[i]? = some (.int .i64 (f i))
theorem Row.lt (h : Row w g n f) : g < w.heap.size := by
  obtain ⟨cs, hg, _⟩ := h
  rcases Nat.lt_or_ge g w.heap.size with hlt | hge
  · exact hlt
  · rw [Array.getElem?_eq_none hge] at hg; cases hg
theorem Row.cell (h : Row w g n f) {i : Nat} (hi : i < n) : w.cell? ⟨g, i, none⟩ = some (.int .i64 (f i)) := by
  obtain ⟨cs, hg, _, hc⟩ := h
  simp [World.cell?, hg, hc i hi]
theorem Row.free (h : Row w g n f) (i : Nat) : w.frozen? ⟨g, i, none⟩ = false := by
  obtain ⟨cs, hg, _⟩ := h
  simp [World.frozen?, hg]
theorem Row.holds (h : Row w g n f) (hB : g < B) : Holds w B (some ⟨g, 0, none⟩) n f := fun _ =>
  ⟨g, 0, rfl, hB, fun i hi => by rw [Nat.zero_add]; exact h.cell hi⟩
theorem Row.below (h : Row w g n f) (hb : Below B w w') (hg : g < B) : Row w' g n f := by
  obtain ⟨cs, h1, h2⟩ := h
  exact ⟨cs, (hb.block g hg).trans h1, h2⟩
theorem Row.alloc (h : Row w g n f) (o : Obj) : Row (w.alloc o) g n f := by
  have hl := h.lt
  obtain ⟨cs, h1, h2⟩ := h
  exact ⟨cs, (Below.heap_alloc w o g hl).trans h1, h2⟩
theorem Row.drewN (h : Row w g n f) (k : Nat) : Row (w.drewN k) g n f := h
theorem Row.far (h : Row w g n f) {p : Addr} (hp : g ≠ p.block) (u : Value) : Row (w.setCell p u) g n f := by
  obtain ⟨cs, h1, h2⟩ := h
  exact ⟨cs, (Below.heap_setCell w p u g hp).trans h1, h2⟩
theorem Row.set_ (h : Row w g n f) (i : Nat) (v : Int) : Row (w.setCell ⟨g, i, none⟩ (.int .i64 v)) g n (fun j => if j = i then v else f j) := by
  obtain ⟨cs, h1, h2, h3⟩ := h
  refine ⟨cs.setIfInBounds i (.int .i64 v), by simp [World.setCell, Array.getElem?_modify, h1], by simpa using h2, fun j hj => ?_⟩
  rw [Array.getElem?_setIfInBounds]
  by_cases e : i = j
  · subst e; simp; omega
  · have e' : ¬ j = i := fun h => e h.symm
    simp [e, e', h3 j hj]
theorem Row.congr {f' : Nat → Int} (h : Row w g n f) (e : ∀ i, i < n → f i = f' i) : Row w g n f' := by
  obtain ⟨cs, h1, h2, h3⟩ := h
  exact ⟨cs, h1, h2, fun i hi => by rw [h3 i hi, e i hi]⟩
end
theorem ret_bool {a b : Bool} (h : a = b) : Ending.returned (.bool a) = .returned (.bool b) := by rw [h]

/-- What Check answers. -/
def lchk (n : Nat) (f : Nat → Int) : Int := if 400 < n then 4 else if decide (∀ i, i < n → 0 ≤ f i ∧ f i < 400) then 0 else 8

set_option maxHeartbeats 400000 in
theorem great_any (A : Option Addr) (n c : Nat) (w : World) :
    Calls Tryd.prog 21 #[.slice A n c] w fun e w' => e = .returned (.bool (decide (60 < n ∧ n ≤ 400 ∨ 420 < n))) ∧ w' = w := by
  by_cases h1 : 60 < n
  · by_cases h2 : n ≤ 400
    · have b1 : decide ((60 : Int) < (n : Int)) = true := by simp; omega
      have b2 : decide ((n : Int) ≤ 400) = true := by simp; omega
      go_enter Tryd.func21, Tryd.ntmps21
      go_wp2
      go_ret
      exact ⟨ret_bool (by simp [h1, h2]), rfl⟩
    · have b1 : decide ((60 : Int) < (n : Int)) = true := by simp; omega
      have b2 : decide ((n : Int) ≤ 400) = false := by simp; omega
      go_enter Tryd.func21, Tryd.ntmps21
      go_wp2
      go_ret
      exact ⟨ret_bool (by simp [h1, h2]; omega), rfl⟩
  · have b1 : decide ((60 : Int) < (n : Int)) = false := by simp; omega
    go_enter Tryd.func21, Tryd.ntmps21
    go_wp2
    go_ret
    exact ⟨ret_bool (by simp [h1]; omega), rfl⟩

set_option maxHeartbeats 1600000 in
theorem rcheck_any (A : Option Addr) (n c : Nat) (f : Nat → Int) (w : World) (hn : n ≤ 420) (hr : Holds w w.heap.size A n f) :
    Calls Tryd.prog 26 #[.slice A n c] w fun e w' => e = .returned (.int .i64 (lchk n f)) ∧ Below w.heap.size w w' := by
  have HR := Lib.hid hr
  clear hr
  by_cases h1 : 400 < n
  · have b1 : decide ((400 : Int) < (n : Int)) = true := by simp; omega
    have e : lchk n f = 4 := by unfold lchk; rw [if_pos h1]
    rw [e]
    go_enter Tryd.func26, Tryd.ntmps26
    go_wp2
    go_ret
    exact ⟨rfl, Below.refl _ _⟩
  · have b1 : decide ((400 : Int) < (n : Int)) = false := by simp; omega
    have e : lchk n f = if decide (∀ i, i < n → 0 ≤ f i ∧ f i < 400) then 0 else 8 := by unfold lchk; rw [if_neg h1]
    have HE := Lib.hid e
    clear e
    go_enter Tryd.func26, Tryd.ntmps26
    go_wp2
    go_loopw [3] (fun i wr => ∃ k : Nat, k ≤ n ∧ i = .int .i64 k ∧ Hid (∀ i, i < k → 0 ≤ f i ∧ f i < 400) ∧ Below w.heap.size w wr) (fun i _ => n - (intOf i).toNat)
    case atStart => exact ⟨0, Nat.zero_le _, rfl, Lib.hid fun i hi => absurd hi (by omega), Below.refl _ _⟩
    case round =>
      obtain ⟨k, hk, rfl, hall, hbel⟩ := hrel
      by_cases hlt : k < n
      · obtain ⟨b, o, rfl, hbl, hc⟩ := (HR.out.below hbel) (by omega)
        have c1 := hc k hlt
        clear hc
        have B1 := Lib.hid hbel
        clear hbel
        have y1 : (0 : Int) ≤ (k : Int) := by omega
        have y2 : (k : Int) < (n : Int) := by omega
        obtain ⟨v, hv⟩ : ∃ v, f k = v := ⟨_, rfl⟩
        rw [hv] at c1
        have HV := Lib.hid hv
        clear hv
        by_cases g1 : v < 0
        · have d1 : decide (v < 0) = true := by simp [g1]
          have hbad : lchk n f = 8 := by
            rw [HE.out, if_neg]
            simp only [decide_eq_true_eq]
            intro h
            have := h k hlt
            rw [HV.out] at this
            omega
          have HB := Lib.hid hbad
          clear hbad
          go_wp2
          go_ret
          exact ⟨by rw [HB.out]; rfl, B1.out⟩
        · have d1 : decide (v < 0) = false := by simp [g1]
          by_cases g2 : 400 ≤ v
          · have d2 : decide (400 ≤ v) = true := by simp [g2]
            have hbad : lchk n f = 8 := by
              rw [HE.out, if_neg]
              simp only [decide_eq_true_eq]
              intro h
              have := h k hlt
              rw [HV.out] at this
              omega
            have HB := Lib.hid hbad
            clear hbad
            go_wp2
            go_ret
            exact ⟨by rw [HB.out]; rfl, B1.out⟩
          · have d2 : decide (400 ≤ v) = false := by simp [g2]
            have HK := Lib.hid (show 0 ≤ f k ∧ f k < 400 by rw [HV.out]; omega)
            go_wp2
            refine ⟨⟨k + 1, by omega, by go_num, fun i hi => ?_, B1.out⟩, by simp [intOf]; omega⟩
            rcases Nat.lt_succ_iff_lt_or_eq.1 hi with h | rfl
            · exact hall.out i h
            · exact HK.out
      · have e : k = n := by omega
        subst e
        have hok : lchk k f = 0 := by
          rw [HE.out, if_pos]
          simp only [decide_eq_true_eq]
          exact hall.out
        have HO := Lib.hid hok
        clear hok
        go_wp2
        go_ret
        exact ⟨by rw [HO.out]; rfl, hbel⟩
end Go.Proofs.YtcmpoblbjjoaiaaDoor
