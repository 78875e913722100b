/- Great; and appending a list to an empty one in a region. -/
import Derived.Test.YtbafhdinalapoaaDor
import Derived.Test.YtbafhdinalapoaaTwin
import Derived.Deep.RegionLawGrows
namespace Go.Proofs.Ytbafhdinalapoaa
open Go.RowKit
set_option linter.unusedVariables false
set_option linter.unusedSimpArgs false
set_option maxRecDepth 100000

set_option maxHeartbeats 800000 in
theorem dgreat_n (D : Dr) (w : World) (h : 70 < D.n) :
    Calls Try.prog 24 #[.agg #[.int .i64 D.S, .int .i64 D.T, .slice D.A D.n D.c, .slice D.B D.m D.d, .int .i64 D.W, .int .i64 D.H, .slice D.C D.k D.e]] w fun e w' => e = .returned (.bool true) ∧ Below w.heap.size w w' := by
  obtain ⟨S, T, A, n, c, B, m, d, W, H, C, k, e', f, g, b⟩ := D
  dsimp only at *
  have b0 : decide ((70 : Int) < (n : Int)) = true := by simp; omega
  go_enter Try.func24, Try.ntmps24
  go_wp2
  go_ret
  exact ⟨rfl, (Below.refl _ _).alloc (Nat.le_refl _) _⟩

set_option maxHeartbeats 800000 in
theorem dgreat_m (D : Dr) (w : World) (h0 : ¬ 70 < D.n) (h : 70 < D.m) :
    Calls Try.prog 24 #[.agg #[.int .i64 D.S, .int .i64 D.T, .slice D.A D.n D.c, .slice D.B D.m D.d, .int .i64 D.W, .int .i64 D.H, .slice D.C D.k D.e]] w fun e w' => e = .returned (.bool true) ∧ Below w.heap.size w w' := by
  obtain ⟨S, T, A, n, c, B, m, d, W, H, C, k, e', f, g, b⟩ := D
  dsimp only at *
  have b0 : decide ((70 : Int) < (n : Int)) = false := by simp; omega
  have b1 : decide ((70 : Int) < (m : Int)) = true := by simp; omega
  go_enter Try.func24, Try.ntmps24
  go_wp2
  go_ret
  exact ⟨rfl, (Below.refl _ _).alloc (Nat.le_refl _) _⟩

set_option maxHeartbeats 800000 in
theorem dgreat_k (D : Dr) (w : World) (h0 : ¬ 70 < D.n) (h1 : ¬ 70 < D.m) (h : 4200 < D.k) :
    Calls Try.prog 24 #[.agg #[.int .i64 D.S, .int .i64 D.T, .slice D.A D.n D.c, .slice D.B D.m D.d, .int .i64 D.W, .int .i64 D.H, .slice D.C D.k D.e]] w fun e w' => e = .returned (.bool true) ∧ Below w.heap.size w w' := by
  obtain ⟨S, T, A, n, c, B, m, d, W, H, C, k, e', f, g, b⟩ := D
  dsimp only at *
  have b0 : decide ((70 : Int) < (n : Int)) = false := by simp; omega
  have b1 : decide ((70 : Int) < (m : Int)) = false := by simp; omega
  go_enter Try.func24, Try.ntmps24
  go_wp2_with fail
  refine (great_yes _ _ _ _ _ _ (by omega)).mono ?_
  rintro e w1 ⟨rfl, hb⟩
  have HB := Lib.hid (((Below.refl w.heap.size w).alloc (Nat.le_refl _) _).trans (hb.mono (by simp)))
  clear hb
  go_wp2
  go_ret
  exact ⟨rfl, HB.out⟩

set_option maxHeartbeats 800000 in
theorem dgreat_no (D : Dr) (w : World) (hs : D.Small) :
    Calls Try.prog 24 #[.agg #[.int .i64 D.S, .int .i64 D.T, .slice D.A D.n D.c, .slice D.B D.m D.d, .int .i64 D.W, .int .i64 D.H, .slice D.C D.k D.e]] w fun e w' => e = .returned (.bool false) ∧ Below w.heap.size w w' := by
  obtain ⟨S, T, A, n, c, B, m, d, W, H, C, k, e', f, g, b⟩ := D
  dsimp only at *
  obtain ⟨s0, s1, s2⟩ := hs
  dsimp only at s0 s1 s2
  have b0 : decide ((70 : Int) < (n : Int)) = false := by simp; omega
  have b1 : decide ((70 : Int) < (m : Int)) = false := by simp; omega
  go_enter Try.func24, Try.ntmps24
  go_wp2_with fail
  refine (great_no _ _ _ _ _ _ (by omega)).mono ?_
  rintro e w1 ⟨rfl, hb⟩
  have HB := Lib.hid (((Below.refl w.heap.size w).alloc (Nat.le_refl _) _).trans (hb.mono (by simp)))
  clear hb
  go_wp2
  go_ret
  exact ⟨rfl, HB.out⟩

theorem dgreat_case (D : Dr) : D.Small ∨ ∀ w, Calls Try.prog 24 #[.agg #[.int .i64 D.S, .int .i64 D.T, .slice D.A D.n D.c, .slice D.B D.m D.d, .int .i64 D.W, .int .i64 D.H, .slice D.C D.k D.e]] w fun e w' => e = .returned (.bool true) ∧ Below w.heap.size w w' := by
  by_cases h0 : 70 < D.n
  · exact .inr fun w => dgreat_n D w h0
  by_cases h1 : 70 < D.m
  · exact .inr fun w => dgreat_m D w h0 h1
  by_cases h2 : 4200 < D.k
  · exact .inr fun w => dgreat_k D w h0 h1 h2
  exact .inl ⟨by omega, by omega, by omega⟩

theorem twin_any (W H : Int) (A : Option Addr) (n c : Nat) (f : Nat → Bool) (w : World) (hn : n ≤ 4200) (hr : Holds w w.heap.size A n f) :
    Calls Try.prog 65 #[.agg #[.int .i64 W, .int .i64 H, .slice A n c]] w fun e w' => ∃ D d, e = .returned (.agg #[.int .i64 W, .int .i64 H, .slice D n d]) ∧ (0 < n → ∃ k, D = some ⟨k, 0, none⟩ ∧ w.heap.size ≤ k ∧ Row w' k n f) ∧ Below w.heap.size w w' := by
  rcases Nat.eq_zero_or_pos n with h | h
  · subst h
    exact (twin_none W H A c w).mono fun _ _ ⟨k, he, hb⟩ => ⟨_, _, he, fun h => absurd h (by omega), hb⟩
  · exact (twin_some W H A n c f w hn h hr).mono fun _ _ ⟨k, d, he, hk, hr, hb⟩ => ⟨_, _, he, fun _ => ⟨k, rfl, hk, hr⟩, hb⟩

theorem iappend_none (g : Nat) (A : Option Addr) (c : Nat) (ty : TypeId) (w : World) : (Builtin.append_ #[28, 28] ty #[.slice (some ⟨g, 0, none⟩) 0 0, .slice A 0 c]).run Try.prog w = .ok (.slice (some ⟨g, 0, none⟩) 0 0) w := by
  obtain ⟨i0, hi, hz0, hz1, hz2⟩ := info_parts L2.TryI.info3
  cases A <;> simp [Builtin.append_, run_underlying Try.underlying28, sizeOf, typeInfo, hi, Builtin.lenOf, Builtin.firstCells, storeCells, loadCells, loadCellsFrom]

/-- 'append([]int{}, l...)' at a step of a region that draws its order. -/
theorem step_cat {ops : Array Oper} {o : Oper} {a : Act} {w : World} {K : Act → World → Prop} {Q : Exit → Act → World → Prop} {E : Prop} (hgd : o.guard = none) (s x : Operand)
    (ho : o.op = .call { callee := .builtin .append, args := #[s, x], argTypes := #[28, 28] }) (g : Nat) (hs : a.eval s = .slice (some ⟨g, 0, none⟩) 0 0) {B : Nat} {A : Option Addr} {m c : Nat} {f : Nat → Int} (hx : a.eval x = .slice A m c)
    (hr : L2.Holds w B A m f) (hm : m ≤ 5000)
    (h : ∀ k d w', (0 < m → L2.Row w' k m f ∧ w.heap.size ≤ k) → Below w.heap.size w w' → K (a.put o.dst (.slice (some ⟨k, 0, none⟩) m d)) w') : if Region.wanted o (yielded ops a.tmps) = true then Oper.wp Try.prog o a w K Q else E := by
  rcases Nat.eq_zero_or_pos m with h0 | h0
  · subst h0
    have hw : Region.wanted o (yielded ops a.tmps) = true := by simp [Region.wanted, hgd]
    rw [if_pos hw]
    have hr := iappend_none g A c o.type w
    unfold Oper.wp execOp
    simp only [ho, resolve, invoke, builtin, Sem.run_bind, Sem.run_pure, Result.andThen_ok, List.map_toArray, List.map_cons, List.map_nil, hs, hx, hr]
    exact h g 0 w (fun h => absurd h (by omega)) (Below.refl _ _)
  · obtain ⟨i0, hi, hz0, hz1, hz2⟩ := info_parts L2.TryI.info3
    obtain ⟨b, off, rfl, _, hc⟩ := hr h0
    refine step_append_grows hgd s x 28 ho 3 i0 (.int .i64 0) 1 8 Try.underlying28 hi hz0 hz1 hz2 rfl (by decide) (some ⟨g, 0, none⟩) 0 0 [] hs (fun h => by cases h) rfl (fun _ _ j u h => by simp at h) ⟨b, off, none⟩ m c (L2.news m f) hx (by rw [L2.news_length]; omega) ?_ L2.news_one (by omega) (by unfold maxLen; omega) (by omega) ?_
    · intro j u hj
      obtain ⟨hj', rfl⟩ := L2.news_get hj
      have e : Addr.add ⟨b, off, none⟩ j = ⟨b, off + j, none⟩ := by unfold Addr.add; by_cases h : j = 0 <;> simp [h]
      rw [e]
      exact hc j hj'
    · intro v' w' hown hgr
      rw [List.nil_append, Nat.zero_add] at hown
      obtain ⟨A', c', rfl, _, hrow⟩ := L2.Own.out (f := f) hown
      obtain ⟨k, rfl, hk, hrow⟩ := hrow h0
      exact h k c' w' (fun _ => ⟨hrow, hk⟩) (Below.grown (Below.refl _ _) hgr (by simp) (by simp))
end Go.Proofs.Ytbafhdinalapoaa
