/- What the program and the reference answer, side by side. -/
import Derived.Test.YthipdfkgeghooaaNrl
import Derived.Test.YthipdfkgeghooaaNrd
import Derived.Test.YthipdfkgeghooaaNtl
import Derived.Test.YthipdfkgeghooaaRtw
namespace Go.Proofs.Ythipdfkgeghooaa
open Go.RowKit
set_option maxRecDepth 100000
set_option linter.unusedVariables false
set_option linter.unusedSimpArgs false

theorem rl_nil {w : World} {z : Int} {e : Ending} {w' : World} (h : e = .returned (.tuple #[.slice none 0 0, .int .i64 z]) ∧ Below w.heap.size w w') : RL w 0 (fun _ => 0) z e w' := ⟨none, 0, h.1, L2.Holds.none_, h.2⟩
theorem rl_row {w : World} {n : Nat} {F : Nat → Int} {e : Ending} {w' : World} (h : ∃ k, e = .returned (.tuple #[.slice (some ⟨k, 0, none⟩) n n, .int .i64 0]) ∧ L2.Row w' k n F ∧ Below w.heap.size w w') : RL w n F 0 e w' := by
  obtain ⟨k, h1, h2, h3⟩ := h
  exact ⟨_, _, h1, h2.holds h2.lt, h3⟩
theorem rl_any {w : World} {n : Nat} {F : Nat → Int} {e : Ending} {w' : World} (h : ∃ D k, e = .returned (.tuple #[.slice D n k, .int .i64 0]) ∧ L2.Holds w' w'.heap.size D n F ∧ Below w.heap.size w w') : RL w n F 0 e w' := by
  obtain ⟨D, k, h1, h2, h3⟩ := h
  exact ⟨_, _, h1, h2, h3⟩
/-- A bool and an error came back. -/
def RB (w : World) (b : Bool) (z : Int) (e : Ending) (w' : World) : Prop := e = .returned (.tuple #[.bool b, .int .i64 z]) ∧ Below w.heap.size w w'
theorem nat_list {n : Nat} {f : Nat → Int} (h : ∀ i, i < n → 0 ≤ f i) : ∃ g : Nat → Nat, ∀ i, i < n → f i = ((g i : Nat) : Int) := ⟨fun i => (f i).toNat, fun i hi => by have := h i hi; show f i = (((f i).toNat : Nat) : Int); omega⟩
theorem lchk_of {n : Nat} {f : Nat → Int} (h : L2.lchk n f = 0) : n ≤ 400 ∧ ∀ i, i < n → 0 ≤ f i ∧ f i < 400 := by
  unfold L2.lchk at h
  by_cases h1 : 400 < n
  · rw [if_pos h1] at h; cases h
  · rw [if_neg h1] at h
    by_cases h2 : decide (∀ i, i < n → 0 ≤ f i ∧ f i < 400) = true
    · exact ⟨by omega, of_decide_eq_true h2⟩
    · rw [if_neg h2] at h; cases h
theorem lchk_congr {n : Nat} {f g : Nat → Int} (h : ∀ i, i < n → f i = g i) : L2.lchk n f = L2.lchk n g := by
  have : (∀ i, i < n → 0 ≤ f i ∧ f i < 400) = (∀ i, i < n → 0 ≤ g i ∧ g i < 400) := propext ⟨fun q i hi => h i hi ▸ q i hi, fun q i hi => (h i hi).symm ▸ q i hi⟩
  unfold L2.lchk
  rw [show decide (∀ i, i < n → 0 ≤ f i ∧ f i < 400) = decide (∀ i, i < n → 0 ≤ g i ∧ g i < 400) from decide_eq_decide.2 (this ▸ Iff.rfl)]
theorem dr_two (S N : Int) (n : Nat) (f : Nat → Int) (m : Nat) (l : Nat → Int) (hn : n ≤ 100) (hm : m ≤ 100) : ∃ L F z, L ≤ 100 ∧
    (∀ w A c D d, L2.Holds w w.heap.size A n f → L2.Holds w w.heap.size D m l → Calls Try.prog 12 #[.agg #[.int .i64 S, .int .i64 N, .slice A n c], .slice D m d] w (RL w L F z)) ∧
    (∀ w A c D d, L2.Holds w w.heap.size A n f → L2.Holds w w.heap.size D m l → Calls Try.prog 13 #[.agg #[.int .i64 S, .int .i64 N, .slice A n c], .slice D m d] w (RL w L F z)) := by
  rcases nck_or S N n f with h | h
  · cases hh : hts m l with
    | false => exact ⟨0, fun _ => 0, 8, by omega, fun w A c D d hA hD => (dr_l S N A n c f D m d l w (by omega) (by omega) hA hD h hh).mono fun e w' q => rl_nil q, fun w A c D d hA hD => (rdr_l S N A n c f D m d l w (by omega) (by omega) hA hD h hh).mono fun e w' q => rl_nil q⟩
    | true =>
      obtain ⟨P, Q, b, rfl, rfl, hO, hb⟩ := nck_ok h
      exact ⟨m, drf P Q n b l, 0, hm, fun w A c D d hA hD => (dr_ok P Q n A c b hO D m d l w (hA.congr hb) hD hh).mono fun e w' q => rl_row q, fun w A c D d hA hD => (rdr_ok P Q n A c b hO D m d l w (hA.congr hb) hD hh).mono fun e w' q => rl_any q⟩
  · exact ⟨0, fun _ => 0, 8, by omega, fun w A c D d hA hD => (dr_bad S N A n c f D m d l w (by omega) (by omega) hA hD h).mono fun e w' q => rl_nil q, fun w A c D d hA hD => (rdr_bad S N A n c f D m d w (by omega) hA h).mono fun e w' q => rl_nil q⟩
theorem on_two (S N : Int) (n : Nat) (f : Nat → Int) (m : Nat) (l : Nat → Int) (hn : n ≤ 100) (hm : m ≤ 410) : ∃ bv z,
    (∀ w A c D d, L2.Holds w w.heap.size A n f → L2.Holds w w.heap.size D m l → Calls Try.prog 14 #[.agg #[.int .i64 S, .int .i64 N, .slice A n c], .slice D m d] w (RB w bv z)) ∧
    (∀ w A c D d, L2.Holds w w.heap.size A n f → L2.Holds w w.heap.size D m l → Calls Try.prog 15 #[.agg #[.int .i64 S, .int .i64 N, .slice A n c], .slice D m d] w (RB w bv z)) := by
  rcases nck_or S N n f with h | h
  · by_cases hl : L2.lchk m l = 0
    · obtain ⟨P, Q, b, rfl, rfl, hO, hb⟩ := nck_ok h
      obtain ⟨h4, hq⟩ := lchk_of hl
      obtain ⟨g, hg⟩ := nat_list (fun i hi => (hq i hi).1)
      have hl2 : L2.lchk m (fun i => ((g i : Nat) : Int)) = 0 := by rw [← hl]; exact (lchk_congr hg).symm
      exact ⟨onB P Q n b m g, 0, fun w A c D d hA hD => on_ok P Q n A c b hO D m d g h4 w (hA.congr hb) (hD.congr hg) hl2, fun w A c D d hA hD => ron_ok P Q n A c b hO D m d g h4 w (hA.congr hb) (hD.congr hg) hl2⟩
    · have hz : (L2.lchk m l != 0) = true := by simp [hl]
      exact ⟨false, L2.lchk m l, fun w A c D d hA hD => on_l S N A n c f D m d l w (by omega) (by omega) hA hD h _ rfl hz, fun w A c D d hA hD => ron_l S N A n c f D m d l w (by omega) (by omega) hA hD h _ rfl hz⟩
  · exact ⟨false, 8, fun w A c D d hA hD => on_bad S N A n c f D m d l w (by omega) (by omega) hA hD h, fun w A c D d hA hD => ron_bad S N A n c f D m d w (by omega) hA h⟩
theorem pl_two (S N : Int) (n : Nat) (f : Nat → Int) (hn : n ≤ 100) : ∃ bv z,
    (∀ w A c, L2.Holds w w.heap.size A n f → Calls Try.prog 16 #[.agg #[.int .i64 S, .int .i64 N, .slice A n c]] w (RB w bv z)) ∧
    (∀ w A c, L2.Holds w w.heap.size A n f → Calls Try.prog 17 #[.agg #[.int .i64 S, .int .i64 N, .slice A n c]] w (RB w bv z)) := by
  rcases nck_or S N n f with h | h
  · obtain ⟨P, Q, b, rfl, rfl, hO, hb⟩ := nck_ok h
    exact ⟨plB Q n b, 0, fun w A c hA => pl_ok P Q n A c b hO w (hA.congr hb), fun w A c hA => rpl_ok P Q n A c b hO w (hA.congr hb)⟩
  · exact ⟨false, 8, fun w A c hA => pl_bad S N A n c f w (by omega) hA h, fun w A c hA => rpl_bad S N A n c f w (by omega) hA h⟩
theorem al_two (S N : Int) (n : Nat) (f : Nat → Int) (x : Int) (hn : n ≤ 100) : ∃ L F z, L ≤ 100 ∧
    (∀ w A c, L2.Holds w w.heap.size A n f → Calls Try.prog 21 #[.agg #[.int .i64 S, .int .i64 N, .slice A n c], .int .i64 x] w (RL w L F z)) ∧
    (∀ w A c, L2.Holds w w.heap.size A n f → Calls Try.prog 22 #[.agg #[.int .i64 S, .int .i64 N, .slice A n c], .int .i64 x] w (RL w L F z)) := by
  rcases nck_or S N n f with h | h
  · by_cases hx : x < 0 ∨ 64 ≤ x
    · exact ⟨0, fun _ => 0, 2, by omega, fun w A c hA => (al_arg S N A n c f x w (by omega) hA h hx).mono fun e w' q => rl_nil q, fun w A c hA => (ral_arg S N A n c f x w (by omega) hA h hx).mono fun e w' q => rl_nil q⟩
    · obtain ⟨P, Q, b, rfl, rfl, hO, hb⟩ := nck_ok h
      obtain ⟨y, rfl⟩ := Int.eq_ofNat_of_zero_le (show 0 ≤ x by omega)
      exact ⟨P / Q, cls Q (b (y % n)), 0, by have := Nat.div_le_self P Q; have := hO.s1; omega, fun w A c hA => (al_ok P Q n A c b y hO (by omega) w (hA.congr hb)).mono fun e w' q => rl_any q, fun w A c hA => (ral_ok P Q n A c b y hO (by omega) w (hA.congr hb)).mono fun e w' q => rl_any q⟩
  · exact ⟨0, fun _ => 0, 8, by omega, fun w A c hA => (al_bad S N A n c f x w (by omega) hA h).mono fun e w' q => rl_nil q, fun w A c hA => (ral_bad S N A n c f x w (by omega) hA h).mono fun e w' q => rl_nil q⟩
theorem PH.congr {w : World} {B n : Nat} {A : Option Addr} {X Y X' Y' : Nat → Int} (h : PH w B A n X Y) (hx : ∀ i, i < n → X i = X' i) (hy : ∀ i, i < n → Y i = Y' i) : PH w B A n X' Y' := fun h0 => by
  obtain ⟨b, o, e, hl, hc⟩ := h h0
  exact ⟨b, o, e, hl, fun i hi => by rw [← hx i hi, ← hy i hi]; exact hc i hi⟩
theorem ln_two (n : Nat) (X Y : Nat → Int) (hn : n ≤ 100) : ∃ L F z, L ≤ 100 ∧
    (∀ w A c, n ≤ c → PH w w.heap.size A n X Y → Calls Try.prog 23 #[.slice A n c] w (RL w L F z)) ∧
    (∀ w A c, PH w w.heap.size A n X Y → Calls Try.prog 24 #[.slice A n c] w (RL w L F z)) := by
  cases h : ptB n X Y with
  | false => exact ⟨0, fun _ => 0, 8, by omega, fun w A c hc hA => (ln_bad A n c X Y w (by omega) hA h).mono fun e w' q => rl_nil q, fun w A c hA => (rln_bad A n c X Y w (by omega) hA h).mono fun e w' q => rl_nil q⟩
  | true =>
    obtain ⟨P, Q, hp, hx, hy⟩ := pt_ok h
    refine ⟨P (n - 1) + 1, lnf n P Q, 0, by have := hp.xs (n - 1) (by have := hp.n0; omega); omega, fun w A c hc hA => (ln_ok A n c P Q w hp hn hc (hA.congr hx hy)).mono fun e w' q => ?_, fun w A c hA => (rln_ok A n c P Q w hp hn (hA.congr hx hy)).mono fun e w' q => rl_any q⟩
    obtain ⟨k, d, q1, q2, q3⟩ := q
    exact ⟨_, _, q1, q2.holds q2.lt, q3⟩
theorem bel_refl {w w' : World} (h : w' = w) : Below w.heap.size w w' := by rw [h]; exact Below.refl _ _
theorem tl_two (n : Nat) (l : Nat → Int) (m : Int) (hn : n ≤ 410) : ∃ L F z, L ≤ 5000 ∧
    (∀ w D d, (D = none → d = 0) → L2.Holds w w.heap.size D n l → Calls Try.prog 25 #[.slice D n d, .int .i64 m] w (RL w L F z)) ∧
    (∀ w D d, (D = none → d = 0) → L2.Holds w w.heap.size D n l → Calls Try.prog 26 #[.slice D n d, .int .i64 m] w (RL w L F z)) := by
  by_cases hl : L2.lchk n l = 0
  · by_cases hm : m < 1 ∨ 40 < m
    · exact ⟨0, fun _ => 0, 2, by omega, fun w D d _ hD => (tl_arg D n d l m w (by omega) hD hl hm).mono fun e w' q => rl_nil ⟨q.1, bel_refl q.2⟩, fun w D d _ hD => (rtl_arg D n d l m w (by omega) hD hl hm).mono fun e w' q => rl_nil ⟨q.1, bel_refl q.2⟩⟩
    · obtain ⟨k, rfl⟩ := Int.eq_ofNat_of_zero_le (show 0 ≤ m by omega)
      obtain ⟨h4, hq⟩ := lchk_of hl
      obtain ⟨g, hg⟩ := nat_list (fun i hi => (hq i hi).1)
      have hl2 : L2.lchk n (fun i => ((g i : Nat) : Int)) = 0 := by rw [← hl]; exact (lchk_congr hg).symm
      exact ⟨n, tlf g k, 0, by omega, fun w D d _ hD => (tl_ok D n d g k w h4 (hD.congr hg) hl2 (by omega) (by omega)).mono fun e w' q => rl_row q, fun w D d h0 hD => (rtl_ok D n d g k w h4 h0 (hD.congr hg) hl2 (fun i hi => by have := hg i hi; have := hq i hi; omega) (by omega) (by omega)).mono fun e w' q => rl_any q⟩
  · have hz : (L2.lchk n l != 0) = true := by simp [hl]
    exact ⟨0, fun _ => 0, L2.lchk n l, by omega, fun w D d _ hD => (tl_l D n d l m w (by omega) hD _ rfl hz).mono fun e w' q => rl_nil ⟨q.1, bel_refl q.2⟩, fun w D d _ hD => (rtl_l D n d l m w (by omega) hD _ rfl hz).mono fun e w' q => rl_nil ⟨q.1, bel_refl q.2⟩⟩
end Go.Proofs.Ythipdfkgeghooaa
