/- Whether two grids are the same: by the reference. -/
import Derived.Test.YtjbofdgdcnfmoaaBuild
import Derived.Deep.QuietTactic
import Derived.BigQuiet
namespace Go.Proofs.Ytjbofdgdcnfmoaa
open Go.RowKit
set_option maxRecDepth 100000
set_option linter.unusedVariables false
set_option linter.unusedSimpArgs false

/-- The two grids that are compared: their boxes and their cells. -/
structure Two (w : World) (ga gb : Nat) (W H : Int) (A : Option Addr) (n c : Nat) (f : Nat → Bool) (X Y : Int) (D : Option Addr) (m d : Nat) (g : Nat → Bool) : Prop where
  boxa : Box w ga W H (.slice A n c)
  boxb : Box w gb X Y (.slice D m d)
  ca : Holds w w.heap.size A n f
  cb : Holds w w.heap.size D m g

theorem Two.below {w w' : World} {ga gb n c m d : Nat} {W H X Y : Int} {A D : Option Addr} {f g : Nat → Bool} (h : Two w ga gb W H A n c f X Y D m d g) (hb : Below w.heap.size w w') : Two w' ga gb W H A n c f X Y D m d g :=
  ⟨h.boxa.below hb h.boxa.lt, h.boxb.below hb h.boxb.lt, (h.ca.below hb).more hb.size, (h.cb.below hb).more hb.size⟩

theorem boxes2 (w : World) (W H X Y : Int) (v u : Value) :
    Box ((w.alloc (.cells #[.int .i64 W, .int .i64 H, v] 24)).alloc (.cells #[.int .i64 X, .int .i64 Y, u] 24)) w.heap.size W H v ∧
    Box ((w.alloc (.cells #[.int .i64 W, .int .i64 H, v] 24)).alloc (.cells #[.int .i64 X, .int .i64 Y, u] 24)) (w.heap.size + 1) X Y u ∧
    Below w.heap.size w ((w.alloc (.cells #[.int .i64 W, .int .i64 H, v] 24)).alloc (.cells #[.int .i64 X, .int .i64 Y, u] 24)) := by
  have h2 := Box.new (w.alloc (.cells #[.int .i64 W, .int .i64 H, v] 24)) X Y u
  simp only [World.size_alloc] at h2
  exact ⟨(Box.new w W H v).alloc _, h2, ((Below.refl _ _).alloc (Nat.le_refl _) _).alloc (by simp) _⟩

set_option maxHeartbeats 800000 in
theorem rsame_no0 (W H X Y : Int) (A D : Option Addr) (n m c d : Nat) (w : World) (h : ¬ (W = X ∧ H = Y ∧ n = m)) :
    Calls Try.prog 39 #[.agg #[.int .i64 W, .int .i64 H, .slice A n c], .agg #[.int .i64 X, .int .i64 Y, .slice D m d]] w fun e w' => e = .returned (.bool false) ∧ Below w.heap.size w w' := by
  have hcase : ((W != X) = true) ∨ ((W != X) = false ∧ (H != Y) = true) ∨ ((W != X) = false ∧ (H != Y) = false ∧ ((n : Int) != (m : Int)) = true) := by
    by_cases e : W = X
    · by_cases e' : H = Y
      · refine .inr (.inr ⟨by simp [e], by simp [e'], ?_⟩)
        simp
        intro h'
        exact h ⟨e, e', by omega⟩
      · exact .inr (.inl ⟨by simp [e], by simp [e']⟩)
    · exact .inl (by simp [e])
  clear h
  have hb := Lib.hid (boxes2 w W H X Y (.slice A n c) (.slice D m d)).2.2
  rcases hcase with h | ⟨h, h'⟩ | ⟨h, h', h''⟩
  all_goals
    go_enter Try.func39, Try.ntmps39
    go_wp2
    go_ret
    exact ⟨rfl, hb.out⟩

set_option maxHeartbeats 1600000 in
theorem rsame_loop (W H X Y : Int) (A D : Option Addr) (n c d : Nat) (f g : Nat → Bool) (w : World) (hn : n ≤ 5000) (eW : W = X) (eH : H = Y) (hr : Holds w w.heap.size A n f) (hs : Holds w w.heap.size D n g) :
    Calls Try.prog 39 #[.agg #[.int .i64 W, .int .i64 H, .slice A n c], .agg #[.int .i64 X, .int .i64 Y, .slice D n d]] w fun e w' => e = .returned (.bool (decide (∀ i, i < n → f i = g i))) ∧ Below w.heap.size w w' := by
  subst eW eH
  obtain ⟨hb1, hb2, hb3⟩ := boxes2 w W H W H (.slice A n c) (.slice D n d)
  have T0 := Lib.hid (⟨hb1, hb2, (hr.below hb3).more hb3.size, (hs.below hb3).more hb3.size⟩ : Two _ w.heap.size (w.heap.size + 1) W H A n c f W H D n d g)
  have B0 := Lib.hid hb3
  clear hb1 hb2 hb3 hr hs
  have z1 : (W != W) = false := by simp
  have z2 : (H != H) = false := by simp
  have z3 : ((n : Int) != (n : Int)) = false := by simp
  go_enter Try.func39, Try.ntmps39
  go_wp2
  go_loopw [5] (fun i wr => ∃ k : Nat, k ≤ n ∧ i = .int .i64 k ∧ Hid (∀ i, i < k → f i = g i) ∧ Two wr w.heap.size (w.heap.size + 1) W H A n c f W H D n d g ∧ Below w.heap.size w wr) (fun i _ => n - (intOf i).toNat)
  case atStart => exact ⟨0, Nat.zero_le _, rfl, fun i hi => absurd hi (by omega), T0.out, B0.out⟩
  case round =>
    obtain ⟨k, hk, rfl, hall, T, hbel⟩ := hrel
    obtain ⟨q0, q1, q2, q3, q4, q5, q6⟩ := T.boxa.all
    obtain ⟨p0, p1, p2, p3, p4, p5, p6⟩ := T.boxb.all
    by_cases hlt : k < n
    · obtain ⟨b, o, rfl, hbl, hc⟩ := T.ca (by omega)
      obtain ⟨b', o', rfl, hbl', hc'⟩ := T.cb (by omega)
      have c1 := hc k hlt
      have c2 := hc' k hlt
      clear hc hc'
      have hT := Lib.hid T
      clear T
      have y1 : (0 : Int) ≤ (k : Int) := by omega
      have y2 : (k : Int) < (n : Int) := by omega
      obtain ⟨u, hu⟩ : ∃ u, f k = u := ⟨_, rfl⟩
      obtain ⟨v, hv⟩ : ∃ v, g k = v := ⟨_, rfl⟩
      rw [hu] at c1
      rw [hv] at c2
      have HU := Lib.hid hu
      have HV := Lib.hid hv
      clear hu hv
      by_cases e : u = v
      · have E : f k = g k := by rw [HU.out, HV.out, e]
        have E := Lib.hid E
        subst e
        cases u
        all_goals
          go_wp2
          go_quiet (fail)
          go_wp2
          refine ⟨⟨k + 1, by omega, by go_num, fun i hi => ?_, hT.out.below (Go.Proofs.below_drewN' (Below.refl _ _) _), Go.Proofs.below_drewN' hbel _⟩, by simp [intOf]; omega⟩
          rcases Nat.lt_succ_iff_lt_or_eq.1 hi with h | rfl
          · exact hall.out i h
          · exact E.out
      · have E : ¬ f k = g k := by rw [HU.out, HV.out]; exact e
        have E := Lib.hid E
        cases u <;> cases v <;> first | exact absurd rfl e | skip
        all_goals
          clear e
          go_wp2
          go_quiet (fail)
          go_wp2
          go_ret
          exact ⟨ret_bool (by symm; rw [decide_eq_false_iff_not]; exact fun h => E.out (h k hlt)), Go.Proofs.below_drewN' hbel _⟩
    · have e : k = n := by omega
      subst e
      go_wp2
      go_ret
      exact ⟨ret_bool (by symm; rw [decide_eq_true_iff]; exact hall.out), hbel⟩
end Go.Proofs.Ytjbofdgdcnfmoaa
