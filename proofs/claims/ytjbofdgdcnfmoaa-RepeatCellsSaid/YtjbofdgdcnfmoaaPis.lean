/- Is by the program. -/
import Derived.Test.YtjbofdgdcnfmoaaPle
import Derived.Test.YtjbofdgdcnfmoaaRib
namespace Go.Proofs.Ytjbofdgdcnfmoaa
open Go.RowKit
set_option maxRecDepth 100000
set_option linter.unusedVariables false
set_option linter.unusedSimpArgs false

theorem fits_rep {W H : Nat} {f : Nat → Bool} {A B : PV} (ea : A.W = W ∧ A.H = H ∧ A.f = f) (eb : B.W = W ∧ B.H = H ∧ B.f = f) (a b : Nat) :
    decide (∀ y, y < H → ∀ i, i < W → A.c i y = B.c (a + i) (y + b)) = decide (rep W H f a b) := by
  have e : (∀ y, y < H → ∀ i, i < W → A.c i y = B.c (a + i) (y + b)) ↔ rep W H f a b := by
    unfold rep PV.c
    rw [ea.1, ea.2.1, ea.2.2, eb.1, eb.2.1, eb.2.2]
    constructor
    · intro h x hx y hy; rw [Nat.add_comm x a]; exact h y hy x hx
    · intro h y hy x hx; rw [Nat.add_comm a x]; exact h x hx y hy
  by_cases h : rep W H f a b
  · rw [decide_eq_true h, decide_eq_true (e.2 h)]
  · rw [decide_eq_false h, decide_eq_false (fun k => h (e.1 k))]
/-- The test that fits hands back, of a grid with itself. -/
theorem fits1_rep {W H : Nat} {f : Nat → Bool} {u : World} {lo ph pf pw pt : Nat} {A B : PV} (F : FT u lo ph pf pw pt H W A B) (ea : A.W = W ∧ A.H = H ∧ A.f = f) (eb : B.W = W ∧ B.H = H ∧ B.f = f) (hW0 : 1 ≤ W) (hH : H ≤ 64) (a b : Nat) (ha : a ≤ 64) (hb : b ≤ 64) :
    Calls Try.prog 114 #[.int .i64 (a : Nat), .int .i64 (b : Nat), .pointer (some ⟨ph, 0, none⟩), .pointer (some ⟨pf, 0, none⟩), .pointer (some ⟨pw, 0, none⟩), .pointer (some ⟨pt, 0, none⟩)] u fun e w' => e = .returned (.bool (decide (rep W H f a b))) ∧ ∃ m, w' = u.drewN m := by
  have h := fits1_any F hH hW0 (by rw [ea.1]; exact Nat.le_refl _) (by rw [eb.1]; exact Nat.le_refl _) a b (by omega) (by omega)
  rw [fits_rep ea eb] at h
  exact h
set_option maxHeartbeats 400000 in
theorem pis_err (W H : Int) (A : Option Addr) (n c : Nat) (dx dy : Int) (w : World) (hn : n ≤ 4200) (z : Int) (hx : chk W H n = z) (hne : (z != 0) = true) :
    Calls Try.prog 23 #[.agg #[.int .i64 W, .int .i64 H, .slice A n c], .int .i64 dx, .int .i64 dy] w fun e w' => e = .returned (.tuple #[.bool false, .int .i64 z]) ∧ Below w.heap.size w w' := by
  have H1 := Lib.hid (show ∀ u, (Box u w.heap.size W H (.slice A n c) ∧ Below w.heap.size w u) → Calls Try.prog 70 #[.agg #[.int .i64 W, .int .i64 H, .slice A n c]] u fun e w' => e = .returned (.int .i64 z) ∧ (Box w' w.heap.size W H (.slice A n c) ∧ Below w.heap.size w w') from fun u hu => by
    have h := chk_any W H A n c u hn
    rw [hx] at h
    exact h.mono fun e w' ⟨h1, h2⟩ => ⟨h1, hu.1.below h2 hu.1.lt, hu.2.trans (h2.mono hu.2.size)⟩)
  have h0 := And.intro (Box.new w W H (.slice A n c)) ((Below.refl w.heap.size w).alloc (Nat.le_refl _) (.cells #[.int .i64 W, .int .i64 H, .slice A n c] 24))
  clear hx
  go_enter Try.func23, Try.ntmps23
  go_wp2_with (go_at_call 70; refine (H1.out _ h0).mono ?_; rintro e w2 ⟨rfl, h0⟩; obtain ⟨q0, q1, q2, -⟩ := h0.1.all)
  go_ret2
  exact ⟨rfl, h0.2⟩
set_option maxHeartbeats 800000 in
theorem pis_ok (W H b o c : Nat) (f : Nat → Bool) (dx dy : Int) (p q : Nat) (w : World) (hlb : b < w.heap.size) (hcp : W * H ≤ c) (hcs : ∀ i, i < W * H → w.cell? ⟨b, o + i, none⟩ = some (.bool (f i))) (hW0 : 1 ≤ W) (hW : W ≤ 64) (hH0 : 1 ≤ H) (hH : H ≤ 64)
    (hx0 : -9223372036854775808 ≤ dx) (hx1 : dx ≤ 9223372036854775807) (hy0 : -9223372036854775808 ≤ dy) (hy1 : dy ≤ 9223372036854775807) (ha : dx % (W : Int) = (p : Int)) (hb : dy % (H : Int) = (q : Int)) :
    Calls Try.prog 23 #[.agg #[.int .i64 (W : Nat), .int .i64 (H : Nat), .slice (some ⟨b, o, none⟩) (W * H) c], .int .i64 dx, .int .i64 dy] w fun e w' => e = .returned (.tuple #[.bool (decide (rep W H f p q)), .int .i64 0]) ∧ Below w.heap.size w w' := by
  have hWH : W * H ≤ 4096 := Nat.mul_le_mul hW hH
  have p1 := Int.emod_lt_of_pos dx (show 0 < (W : Int) by omega)
  have q1' := Int.emod_lt_of_pos dy (show 0 < (H : Int) by omega)
  have M1 := fun u => modulo6_any dx W u (by omega) (by omega) hx0 hx1
  have M2 := fun u => modulo6_any dy H u (by omega) (by omega) hy0 hy1
  rw [ha] at M1 p1
  rw [hb] at M2 q1'
  have M1 := Lib.hid M1
  have M2 := Lib.hid M2
  have H1 := Lib.hid (show ∀ u, (Box u w.heap.size (W : Nat) (H : Nat) (.slice (some ⟨b, o, none⟩) (W * H) c) ∧ Below w.heap.size w u) → Calls Try.prog 70 #[.agg #[.int .i64 (W : Nat), .int .i64 (H : Nat), .slice (some ⟨b, o, none⟩) (W * H) c]] u fun e w' => e = .returned (.int .i64 0) ∧ (Box w' w.heap.size (W : Nat) (H : Nat) (.slice (some ⟨b, o, none⟩) (W * H) c) ∧ Below w.heap.size w w') from fun u hu => by
    have h := chk_any W H (some ⟨b, o, none⟩) (W * H) c u (by omega)
    rw [chk_zero hW0 hW hH0 hH] at h
    exact h.mono fun e w' ⟨h1, h2⟩ => ⟨h1, hu.1.below h2 hu.1.lt, hu.2.trans (h2.mono hu.2.size)⟩)
  have HF := Lib.hid (fun u (h : Below w.heap.size w u) => fits_any u W H b o c f W H b o c f W H hW0 hW hH0 hH hW0 hW hH0 hH hcp hcp (Nat.lt_of_lt_of_le hlb h.size) (Nat.lt_of_lt_of_le hlb h.size) (fun i hi => (h.cell (p := ⟨b, o + i, none⟩) hlb).trans (hcs i hi)) (fun i hi => (h.cell (p := ⟨b, o + i, none⟩) hlb).trans (hcs i hi)))
  obtain ⟨t, ht⟩ : ∃ t, decide (rep W H f p q) = t := ⟨_, rfl⟩
  have HT := Lib.hid ht
  have HQ := Lib.hid (fun (u : World) (lo ph pf pw pt : Nat) (A B : PV) (F : FT u lo ph pf pw pt H W A B) (ea : A.W = W ∧ A.H = H ∧ A.f = f) (eb : B.W = W ∧ B.H = H ∧ B.f = f) => (show Calls Try.prog 114 #[.int .i64 (p : Nat), .int .i64 (q : Nat), .pointer (some ⟨ph, 0, none⟩), .pointer (some ⟨pf, 0, none⟩), .pointer (some ⟨pw, 0, none⟩), .pointer (some ⟨pt, 0, none⟩)] u fun e w' => e = .returned (.bool t) ∧ ∃ m, w' = u.drewN m by
    have h := fits1_rep F ea eb hW0 hH p q (by omega) (by omega)
    rw [ht] at h
    exact h))
  have h0 := And.intro (Box.new w (W : Nat) (H : Nat) (.slice (some ⟨b, o, none⟩) (W * H) c)) ((Below.refl w.heap.size w).alloc (Nat.le_refl _) (.cells #[.int .i64 (W : Nat), .int .i64 (H : Nat), .slice (some ⟨b, o, none⟩) (W * H) c] 24))
  clear ht ha hb hcs
  go_enter Try.func23, Try.ntmps23
  go_wp2_with (go_at_call 70; refine (H1.out _ h0).mono ?_; rintro e w2 ⟨rfl, h0⟩; obtain ⟨q0, q1, q2, -⟩ := h0.1.all)
  have HK := Lib.hid (fun u (h : Below w2.heap.size w2 u) => (show u.cell? ⟨w.heap.size, 0, none⟩ = some (.int .i64 (W : Nat)) ∧ u.cell? ⟨w.heap.size, 1, none⟩ = some (.int .i64 (H : Nat)) ∧ u.cell? ⟨w.heap.size, 2, none⟩ = some (.slice (some ⟨b, o, none⟩) (W * H) c) from ⟨(h0.1.below h h0.1.lt).c0, (h0.1.below h h0.1.lt).c1, (h0.1.below h h0.1.lt).c2⟩))
  have hB := Lib.hid h0.2
  clear h0
  go_region_held3 (fun w' => w'.cell? ⟨w.heap.size, 0, none⟩ = some (.int .i64 (W : Nat)) ∧ w'.cell? ⟨w.heap.size, 1, none⟩ = some (.int .i64 (H : Nat)) ∧ w'.cell? ⟨w.heap.size, 2, none⟩ = some (.slice (some ⟨b, o, none⟩) (W * H) c))
    (first
      | exact HK.out _ (Go.Proofs.below_drewN' hx2 _)
      | exact HK.out _ hx2
      | exact HK.out _ (Below.refl _ _).drew)
    (first
      | (go_at_call_of 73 (Value.int IntKind.i64 dx); (with_reducible refine (M1.out _).mono ?_); rintro e w2 ⟨rfl, rfl⟩)
      | (go_at_call_of 73 (Value.int IntKind.i64 dy); (with_reducible refine (M2.out _).mono ?_); rintro e w2 ⟨rfl, rfl⟩)
      | (go_at_call 71
         with_reducible refine (HF.out _ hB.out.drew).mono ?_
         rintro e u2 ⟨ph, pf, pw, pt, P, Q, rfl, hFT, hPe, hQe, hb2⟩
         have hx2 : Below w2.heap.size w2 u2 := (Below.refl _ _).drew.trans hb2)
      | (go_at_call 114
         with_reducible refine (HQ.out _ _ _ _ _ _ _ _ hFT hPe hQe).mono ?_
         rintro e u3 ⟨rfl, m, rfl⟩))
  go_wp2
  go_ret2
  exact ⟨by rw [HT.out]; rfl, hB.out.trans ((Go.Proofs.below_drewN' hx2 _).mono hB.out.size)⟩
end Go.Proofs.Ytjbofdgdcnfmoaa
