/- Of by the reference. -/
import Derived.Test.YtjbofdgdcnfmoaaRla
namespace Go.Proofs.Ytjbofdgdcnfmoaa
open Go.RowKit
set_option maxRecDepth 100000
set_option linter.unusedVariables false
set_option linter.unusedSimpArgs false

/-- What lies in Of: the grid's box, the result's cell. -/
def OS (w u : World) (W H : Int) (s : Value) : Prop := Box u w.heap.size W H s ∧ Tri u (w.heap.size + 1) 0 0 0 ∧ Below w.heap.size w u
theorem OS.new (w : World) (W H : Int) (s : Value) : OS w ((w.alloc (.cells #[.int .i64 W, .int .i64 H, s] 24)).alloc (.cells #[.int .i64 0, .int .i64 0, .int .i64 0] 27)) W H s := by
  have e1 := Box.new w W H s
  have e2 := Tri.new (w.alloc (.cells #[.int .i64 W, .int .i64 H, s] 24)) 0 0 0
  rw [World.size_alloc] at e2
  exact ⟨e1.alloc _, e2, ((Below.refl _ w).alloc (Nat.le_refl _) _).alloc (by simp) _⟩
theorem OS.step {w u u' : World} {W H : Int} {s : Value} (h : OS w u W H s) (hb : Below u.heap.size u u') : OS w u' W H s := ⟨h.1.below hb h.1.lt, h.2.1.below hb h.2.1.lt, h.2.2.trans (hb.mono h.2.2.size)⟩
theorem os_fin {w u : World} {W H : Int} {s : Value} (h : OS w u W H s) (a b c : Value) : Below w.heap.size w (((u.setCell ⟨w.heap.size + 1, 0, none⟩ a).setCell ⟨w.heap.size + 1, 1, none⟩ b).setCell ⟨w.heap.size + 1, 2, none⟩ c) :=
  (((h.2.2.setCell (Nat.le_succ _) _).setCell (Nat.le_succ _) _).setCell (Nat.le_succ _) _)
set_option maxHeartbeats 400000 in
theorem rof_err (W H : Int) (A : Option Addr) (n c : Nat) (w : World) (hn : n ≤ 4200) (z : Int) (hx : chk W H n = z) (hne : (z != 0) = true) :
    Calls Try.prog 30 #[.agg #[.int .i64 W, .int .i64 H, .slice A n c]] w fun e w' => e = .returned (.tuple #[.agg #[.int .i64 0, .int .i64 0, .int .i64 0], .int .i64 z]) ∧ Below w.heap.size w w' := by
  have H1 := Lib.hid (show ∀ u, OS w u W H (.slice A n c) → Calls Try.prog 75 #[.agg #[.int .i64 W, .int .i64 H, .slice A n c]] u fun e w' => e = .returned (.int .i64 z) ∧ OS w w' W H (.slice A n c) from fun u hu => by
    have h := rchk_any W H A n c u hn
    rw [hx] at h
    exact h.mono fun e w' ⟨h1, h2⟩ => ⟨h1, hu.step h2⟩)
  have h0 := OS.new w W H (.slice A n c)
  clear hx
  go_enter Try.func30, Try.ntmps30
  go_wp2_with (go_at_call 75; refine (H1.out _ h0).mono ?_; rintro e w2 ⟨rfl, h0⟩; obtain ⟨q0, q1, q2, -⟩ := h0.1.all; obtain ⟨r0, r1, r2, r3, r4, r5⟩ := h0.2.1.all)
  refine bodyPost_ret (v := .tuple #[.agg #[.int .i64 0, .int .i64 0, .int .i64 0], .int .i64 z]) (by simp [results, Try.results30, go_sem, r0, r1, r2]) rfl ⟨rfl, os_fin h0 _ _ _⟩
set_option maxHeartbeats 400000 in
theorem rof_ok (W H : Nat) (A : Option Addr) (c : Nat) (f : Nat → Bool) (w : World) (hr : Holds w w.heap.size A (W * H) f) (hW0 : 1 ≤ W) (hW : W ≤ 64) (hH0 : 1 ≤ H) (hH : H ≤ 64) :
    Calls Try.prog 30 #[.agg #[.int .i64 (W : Nat), .int .i64 (H : Nat), .slice A (W * H) c]] w fun e w' => ∃ a b d, e = .returned (.tuple #[.agg #[.int .i64 (a : Nat), .int .i64 (b : Nat), .int .i64 (d : Nat)], .int .i64 0]) ∧ IsL W H f a b d ∧ Below w.heap.size w w' := by
  have hWH : W * H ≤ 4096 := Nat.mul_le_mul hW hH
  have H1 := Lib.hid (show ∀ u, OS w u (W : Nat) (H : Nat) (.slice A (W * H) c) → Calls Try.prog 75 #[.agg #[.int .i64 (W : Nat), .int .i64 (H : Nat), .slice A (W * H) c]] u fun e w' => e = .returned (.int .i64 0) ∧ OS w w' (W : Nat) (H : Nat) (.slice A (W * H) c) from fun u hu => by
    have h := rchk_any W H A (W * H) c u (by omega)
    rw [chk_zero hW0 hW hH0 hH] at h
    exact h.mono fun e w' ⟨h1, h2⟩ => ⟨h1, hu.step h2⟩)
  have H2 := Lib.hid (show ∀ u, OS w u (W : Nat) (H : Nat) (.slice A (W * H) c) → Calls Try.prog 77 #[.agg #[.int .i64 (W : Nat), .int .i64 (H : Nat), .slice A (W * H) c]] u fun e w' => ∃ a b d, e = .returned (.agg #[.int .i64 (a : Nat), .int .i64 (b : Nat), .int .i64 (d : Nat)]) ∧ Hid (IsL W H f a b d) ∧ OS w w' (W : Nat) (H : Nat) (.slice A (W * H) c) from fun u hu =>
    (lattice_any W H A c f u ((hr.below hu.2.2).more hu.2.2.size) hW0 hW hH0 hH).mono fun e w' ⟨a, b, d, h1, h2, h3⟩ => ⟨a, b, d, h1, h2, hu.step h3⟩)
  have h0 := OS.new w (W : Nat) (H : Nat) (.slice A (W * H) c)
  clear hr
  go_enter Try.func30, Try.ntmps30
  go_wp2_with (first
    | (go_at_call 75; refine (H1.out _ h0).mono ?_; rintro e w2 ⟨rfl, h0⟩; obtain ⟨q0, q1, q2, -⟩ := h0.1.all)
    | (go_at_call 77; refine (H2.out _ h0).mono ?_; rintro e w3 ⟨a, b, d, rfl, hl, h0⟩; obtain ⟨r0, r1, r2, r3, r4, r5⟩ := h0.2.1.all))
  refine bodyPost_ret (v := .tuple #[.agg #[.int .i64 (a : Nat), .int .i64 (b : Nat), .int .i64 (d : Nat)], .int .i64 0]) (by simp [results, Try.results30, go_sem, r0, r1, r2]) rfl ⟨a, b, d, rfl, hl.out, os_fin h0 _ _ _⟩
end Go.Proofs.Ytjbofdgdcnfmoaa
