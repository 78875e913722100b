/- Merged: Pis Pof Mla Two. -/
import Derived.Test.YtmakjdfkldacaaaPle
import Derived.Test.YtmakjdfkldacaaaRa
import Derived.Scope
import Derived.WalkMore
import Derived.Test.YtmakjdfkldacaaaLb

/- Is by the program. -/
namespace Go.Proofs.Ytmakjdfkldacaaa
open Go.RowKit
set_option maxRecDepth 100000
set_option linter.unusedVariables false
set_option linter.unusedSimpArgs false

theorem fits_rep {W H : Nat} {f : Nat → Bool} {A B : PV} (ea : A.W = W ∧ A.H = H ∧ A.f = f) (eb : B.W = W ∧ B.H = H ∧ B.f = f) (a b : Nat) :
    decide (∀ y, y < H → ∀ i, i < W → A.c i y = B.c (a + i) (y + b)) = decide (rep W H f a b) := by
  have e : (∀ y, y < H → ∀ i, i < W → A.c i y = B.c (a + i) (y + b)) ↔ rep W H f a b := by
    unfold rep PV.c
    rw [ea.1, ea.2.1, ea.2.2, eb.1, eb.2.1, eb.2.2]
    constructor
    · intro h x hx y hy; rw [Nat.add_comm x a]; exact h y hy x hx
    · intro h y hy x hx; rw [Nat.add_comm a x]; exact h x hx y hy
  by_cases h : rep W H f a b
  · rw [decide_eq_true h, decide_eq_true (e.2 h)]
  · rw [decide_eq_false h, decide_eq_false (fun k => h (e.1 k))]
/-- The test that fits hands back, of a grid with itself. -/
theorem fits1_rep {W H : Nat} {f : Nat → Bool} {u : World} {lo ph pf pw pt : Nat} {A B : PV} (F : FT u lo ph pf pw pt H W A B) (ea : A.W = W ∧ A.H = H ∧ A.f = f) (eb : B.W = W ∧ B.H = H ∧ B.f = f) (hW0 : 1 ≤ W) (hH : H ≤ 64) (a b : Nat) (ha : a ≤ 64) (hb : b ≤ 64) :
    Calls Try.prog 80 #[.int .i64 (a : Nat), .int .i64 (b : Nat), .pointer (some ⟨ph, 0, none⟩), .pointer (some ⟨pf, 0, none⟩), .pointer (some ⟨pw, 0, none⟩), .pointer (some ⟨pt, 0, none⟩)] u fun e w' => e = .returned (.bool (decide (rep W H f a b))) ∧ ∃ m, w' = u.drewN m := by
  have h := fits1_any F hH hW0 (by rw [ea.1]; exact Nat.le_refl _) (by rw [eb.1]; exact Nat.le_refl _) a b (by omega) (by omega)
  rw [fits_rep ea eb] at h
  exact h
set_option maxHeartbeats 400000 in
theorem pis_err (W H : Int) (A : Option Addr) (n c : Nat) (dx dy : Int) (w : World) (hn : n ≤ 4200) (z : Int) (hx : chk W H n = z) (hne : (z != 0) = true) :
    Calls Try.prog 39 #[.agg #[.int .i64 W, .int .i64 H, .slice A n c], .int .i64 dx, .int .i64 dy] w fun e w' => e = .returned (.tuple #[.bool false, .int .i64 z]) ∧ Below w.heap.size w w' := by
  have H1 := Lib.hid (show ∀ u, (Box u w.heap.size W H (.slice A n c) ∧ Below w.heap.size w u) → Calls Try.prog 50 #[.agg #[.int .i64 W, .int .i64 H, .slice A n c]] u fun e w' => e = .returned (.int .i64 z) ∧ (Box w' w.heap.size W H (.slice A n c) ∧ Below w.heap.size w w') from fun u hu => by
    have h := chk_any W H A n c u hn
    rw [hx] at h
    exact h.mono fun e w' ⟨h1, h2⟩ => ⟨h1, hu.1.below h2 hu.1.lt, hu.2.trans (h2.mono hu.2.size)⟩)
  have h0 := And.intro (Box.new w W H (.slice A n c)) ((Below.refl w.heap.size w).alloc (Nat.le_refl _) (.cells #[.int .i64 W, .int .i64 H, .slice A n c] 24))
  clear hx
  go_enter Try.func39, Try.ntmps39
  go_wp2_with (go_at_call 50; refine (H1.out _ h0).mono ?_; rintro e w2 ⟨rfl, h0⟩; obtain ⟨q0, q1, q2, -⟩ := h0.1.all)
  go_ret2
  exact ⟨rfl, h0.2⟩
set_option maxHeartbeats 800000 in
theorem pis_ok (W H b o c : Nat) (f : Nat → Bool) (dx dy : Int) (p q : Nat) (w : World) (hlb : b < w.heap.size) (hcp : W * H ≤ c) (hcs : ∀ i, i < W * H → w.cell? ⟨b, o + i, none⟩ = some (.bool (f i))) (hW0 : 1 ≤ W) (hW : W ≤ 64) (hH0 : 1 ≤ H) (hH : H ≤ 64)
    (hx0 : -9223372036854775808 ≤ dx) (hx1 : dx ≤ 9223372036854775807) (hy0 : -9223372036854775808 ≤ dy) (hy1 : dy ≤ 9223372036854775807) (ha : dx % (W : Int) = (p : Int)) (hb : dy % (H : Int) = (q : Int)) :
    Calls Try.prog 39 #[.agg #[.int .i64 (W : Nat), .int .i64 (H : Nat), .slice (some ⟨b, o, none⟩) (W * H) c], .int .i64 dx, .int .i64 dy] w fun e w' => e = .returned (.tuple #[.bool (decide (rep W H f p q)), .int .i64 0]) ∧ Below w.heap.size w w' := by
  have hWH : W * H ≤ 4096 := Nat.mul_le_mul hW hH
  have p1 := Int.emod_lt_of_pos dx (show 0 < (W : Int) by omega)
  have q1' := Int.emod_lt_of_pos dy (show 0 < (H : Int) by omega)
  have M1 := fun u => modulo6_any dx W u (by omega) (by omega) hx0 hx1
  have M2 := fun u => modulo6_any dy H u (by omega) (by omega) hy0 hy1
  rw [ha] at M1 p1
  rw [hb] at M2 q1'
  have M1 := Lib.hid M1
  have M2 := Lib.hid M2
  have H1 := Lib.hid (show ∀ u, (Box u w.heap.size (W : Nat) (H : Nat) (.slice (some ⟨b, o, none⟩) (W * H) c) ∧ Below w.heap.size w u) → Calls Try.prog 50 #[.agg #[.int .i64 (W : Nat), .int .i64 (H : Nat), .slice (some ⟨b, o, none⟩) (W * H) c]] u fun e w' => e = .returned (.int .i64 0) ∧ (Box w' w.heap.size (W : Nat) (H : Nat) (.slice (some ⟨b, o, none⟩) (W * H) c) ∧ Below w.heap.size w w') from fun u hu => by
    have h := chk_any W H (some ⟨b, o, none⟩) (W * H) c u (by omega)
    rw [chk_zero hW0 hW hH0 hH] at h
    exact h.mono fun e w' ⟨h1, h2⟩ => ⟨h1, hu.1.below h2 hu.1.lt, hu.2.trans (h2.mono hu.2.size)⟩)
  have HF := Lib.hid (fun u (h : Below w.heap.size w u) => fits_any u W H b o c f W H b o c f W H hW0 hW hH0 hH hW0 hW hH0 hH hcp hcp (Nat.lt_of_lt_of_le hlb h.size) (Nat.lt_of_lt_of_le hlb h.size) (fun i hi => (h.cell (p := ⟨b, o + i, none⟩) hlb).trans (hcs i hi)) (fun i hi => (h.cell (p := ⟨b, o + i, none⟩) hlb).trans (hcs i hi)))
  obtain ⟨t, ht⟩ : ∃ t, decide (rep W H f p q) = t := ⟨_, rfl⟩
  have HT := Lib.hid ht
  have HQ := Lib.hid (fun (u : World) (lo ph pf pw pt : Nat) (A B : PV) (F : FT u lo ph pf pw pt H W A B) (ea : A.W = W ∧ A.H = H ∧ A.f = f) (eb : B.W = W ∧ B.H = H ∧ B.f = f) => (show Calls Try.prog 80 #[.int .i64 (p : Nat), .int .i64 (q : Nat), .pointer (some ⟨ph, 0, none⟩), .pointer (some ⟨pf, 0, none⟩), .pointer (some ⟨pw, 0, none⟩), .pointer (some ⟨pt, 0, none⟩)] u fun e w' => e = .returned (.bool t) ∧ ∃ m, w' = u.drewN m by
    have h := fits1_rep F ea eb hW0 hH p q (by omega) (by omega)
    rw [ht] at h
    exact h))
  have h0 := And.intro (Box.new w (W : Nat) (H : Nat) (.slice (some ⟨b, o, none⟩) (W * H) c)) ((Below.refl w.heap.size w).alloc (Nat.le_refl _) (.cells #[.int .i64 (W : Nat), .int .i64 (H : Nat), .slice (some ⟨b, o, none⟩) (W * H) c] 24))
  clear ht ha hb hcs
  go_enter Try.func39, Try.ntmps39
  go_wp2_with (go_at_call 50; refine (H1.out _ h0).mono ?_; rintro e w2 ⟨rfl, h0⟩; obtain ⟨q0, q1, q2, -⟩ := h0.1.all)
  have HK := Lib.hid (fun u (h : Below w2.heap.size w2 u) => (show u.cell? ⟨w.heap.size, 0, none⟩ = some (.int .i64 (W : Nat)) ∧ u.cell? ⟨w.heap.size, 1, none⟩ = some (.int .i64 (H : Nat)) ∧ u.cell? ⟨w.heap.size, 2, none⟩ = some (.slice (some ⟨b, o, none⟩) (W * H) c) from ⟨(h0.1.below h h0.1.lt).c0, (h0.1.below h h0.1.lt).c1, (h0.1.below h h0.1.lt).c2⟩))
  have hB := Lib.hid h0.2
  clear h0
  go_region_held3 (fun w' => w'.cell? ⟨w.heap.size, 0, none⟩ = some (.int .i64 (W : Nat)) ∧ w'.cell? ⟨w.heap.size, 1, none⟩ = some (.int .i64 (H : Nat)) ∧ w'.cell? ⟨w.heap.size, 2, none⟩ = some (.slice (some ⟨b, o, none⟩) (W * H) c))
    (first
      | exact HK.out _ (Go.Proofs.below_drewN' hx2 _)
      | exact HK.out _ hx2
      | exact HK.out _ (Below.refl _ _).drew)
    (first
      | (go_at_call_of 71 (Value.int IntKind.i64 dx); (with_reducible refine (M1.out _).mono ?_); rintro e w2 ⟨rfl, rfl⟩)
      | (go_at_call_of 71 (Value.int IntKind.i64 dy); (with_reducible refine (M2.out _).mono ?_); rintro e w2 ⟨rfl, rfl⟩)
      | (go_at_call 70
         with_reducible refine (HF.out _ hB.out.drew).mono ?_
         rintro e u2 ⟨ph, pf, pw, pt, P, Q, rfl, hFT, hPe, hQe, hb2⟩
         have hx2 : Below w2.heap.size w2 u2 := (Below.refl _ _).drew.trans hb2)
      | (go_at_call 80
         with_reducible refine (HQ.out _ _ _ _ _ _ _ _ hFT hPe hQe).mono ?_
         rintro e u3 ⟨rfl, m, rfl⟩))
  go_wp2
  go_ret2
  exact ⟨by rw [HT.out]; rfl, hB.out.trans ((Go.Proofs.below_drewN' hx2 _).mono hB.out.size)⟩
end Go.Proofs.Ytmakjdfkldacaaa

/- Of by the program. -/
namespace Go.Proofs.Ytmakjdfkldacaaa
open Go.RowKit
set_option maxRecDepth 100000
set_option linter.unusedVariables false
set_option linter.unusedSimpArgs false

set_option maxHeartbeats 400000 in
theorem pof_err (W H : Int) (A : Option Addr) (n c : Nat) (w : World) (hn : n ≤ 4200) (z : Int) (hx : chk W H n = z) (hne : (z != 0) = true) :
    Calls Try.prog 40 #[.agg #[.int .i64 W, .int .i64 H, .slice A n c]] w fun e w' => e = .returned (.tuple #[.agg #[.int .i64 0, .int .i64 0, .int .i64 0], .int .i64 z]) ∧ Below w.heap.size w w' := by
  have H1 := Lib.hid (show ∀ u, OS w u W H (.slice A n c) → Calls Try.prog 50 #[.agg #[.int .i64 W, .int .i64 H, .slice A n c]] u fun e w' => e = .returned (.int .i64 z) ∧ OS w w' W H (.slice A n c) from fun u hu => by
    have h := chk_any W H A n c u hn
    rw [hx] at h
    exact h.mono fun e w' ⟨h1, h2⟩ => ⟨h1, hu.step h2⟩)
  have h0 := OS.new w W H (.slice A n c)
  clear hx
  go_enter Try.func40, Try.ntmps40
  go_wp2_with fail
  apply wp_scope_straight
  go_wp2_with (go_at_call 50; refine (H1.out _ h0).mono ?_; rintro e w2 ⟨rfl, h0⟩; obtain ⟨q0, q1, q2, -⟩ := h0.1.all; obtain ⟨r0, r1, r2, r3, r4, r5⟩ := h0.2.1.all)
  rw [Exit.noGoto_ret]
  refine bodyPost_ret (v := .tuple #[.agg #[.int .i64 0, .int .i64 0, .int .i64 0], .int .i64 z]) ?_ rfl ⟨rfl, os_fin h0 _ _ _⟩
  simp [results, Try.results40, go_sem, r0, r1, r2]
/-- The number in the third cell of a block. -/
def trd (w : World) (p : Nat) : Nat := match w.cell? ⟨p, 2, none⟩ with | some (.int _ v) => v.toNat | _ => 0
theorem trd_tri {w : World} {p : Nat} {c : Nat} {a b : Int} (h : Tri w p a b (c : Nat)) : trd w p = c := by
  unfold trd
  rw [h.all.2.2.1]
  simp
theorem Tri.put0 {u : World} {p : Nat} {a b c : Int} (h : Tri u p a b c) (x : Int) : Tri (u.setCell ⟨p, 0, none⟩ (.int .i64 x)) p x b c := by
  obtain ⟨hlt, hk⟩ := Array.getElem?_eq_some_iff.1 h
  show (u.heap.modify p _)[p]? = _
  rw [Array.getElem?_eq_getElem (by rw [Array.size_modify]; exact hlt), Array.getElem_modify_self, hk]
  rfl
theorem Tri.put1 {u : World} {p : Nat} {a b c : Int} (h : Tri u p a b c) (x : Int) : Tri (u.setCell ⟨p, 1, none⟩ (.int .i64 x)) p a x c := by
  obtain ⟨hlt, hk⟩ := Array.getElem?_eq_some_iff.1 h
  show (u.heap.modify p _)[p]? = _
  rw [Array.getElem?_eq_getElem (by rw [Array.size_modify]; exact hlt), Array.getElem_modify_self, hk]
  rfl
theorem Tri.put2 {u : World} {p : Nat} {a b c : Int} (h : Tri u p a b c) (x : Int) : Tri (u.setCell ⟨p, 2, none⟩ (.int .i64 x)) p a b x := by
  obtain ⟨hlt, hk⟩ := Array.getElem?_eq_some_iff.1 h
  show (u.heap.modify p _)[p]? = _
  rw [Array.getElem?_eq_getElem (by rw [Array.size_modify]; exact hlt), Array.getElem_modify_self, hk]
  rfl

/-- What lies while the lattice is sought, behind the making of the test. -/
structure PS (u0 u : World) (a b d : Int) : Prop where
  bel : Below u0.heap.size u0 u
  tri : Tri u u0.heap.size a b d
theorem PS.new (u0 : World) (a b d : Int) : PS u0 (u0.alloc (.cells #[.int .i64 a, .int .i64 b, .int .i64 d] 68)) a b d := ⟨(Below.refl _ _).alloc (Nat.le_refl _) _, Tri.new _ _ _ _⟩
theorem PS.set0 {u0 u : World} {a b d : Int} (h : PS u0 u a b d) (x : Int) : PS u0 (u.setCell ⟨u0.heap.size, 0, none⟩ (.int .i64 x)) x b d := ⟨h.bel.setCell (Nat.le_refl _) _, h.tri.put0 x⟩
theorem PS.set1 {u0 u : World} {a b d : Int} (h : PS u0 u a b d) (x : Int) : PS u0 (u.setCell ⟨u0.heap.size, 1, none⟩ (.int .i64 x)) a x d := ⟨h.bel.setCell (Nat.le_refl _) _, h.tri.put1 x⟩
theorem PS.set2 {u0 u : World} {a b d : Int} (h : PS u0 u a b d) (x : Int) : PS u0 (u.setCell ⟨u0.heap.size, 2, none⟩ (.int .i64 x)) a b x := ⟨h.bel.setCell (Nat.le_refl _) _, h.tri.put2 x⟩
theorem PS.step {u0 u u' : World} {a b d : Int} (h : PS u0 u a b d) (hb : Below u.heap.size u u') : PS u0 u' a b d := ⟨h.bel.trans (hb.mono h.bel.size), h.tri.below hb h.tri.lt⟩
theorem ps_is {u0 u : World} {W H lo ph pf pw pt : Nat} {f : Nat → Bool} {A B : PV} {a b d : Int} (h : PS u0 u a b d) (F : FT u0 lo ph pf pw pt H W A B) (ea : A.W = W ∧ A.H = H ∧ A.f = f) (eb : B.W = W ∧ B.H = H ∧ B.f = f) (hW0 : 1 ≤ W) (hH : H ≤ 64) (x y : Nat) (hx : x ≤ 64) (hy : y ≤ 64) :
    Calls Try.prog 80 #[.int .i64 (x : Nat), .int .i64 (y : Nat), .pointer (some ⟨ph, 0, none⟩), .pointer (some ⟨pf, 0, none⟩), .pointer (some ⟨pw, 0, none⟩), .pointer (some ⟨pt, 0, none⟩)] u fun e w' => e = .returned (.bool (decide (rep W H f x y))) ∧ PS u0 w' a b d :=
  (fits1_rep (F.next h.bel) ea eb hW0 hH x y hx hy).mono fun e w' ⟨h1, m, h2⟩ => ⟨h1, by subst h2; exact h.step (Go.Proofs.below_drewN' (Below.refl _ _) m)⟩
theorem ps_fin {w u0 u : World} {a b d : Int} (h : PS u0 u a b d) (k : Below w.heap.size w u0) (x y z : Value) : Below w.heap.size w (((u.setCell ⟨w.heap.size + 1, 0, none⟩ x).setCell ⟨w.heap.size + 1, 1, none⟩ y).setCell ⟨w.heap.size + 1, 2, none⟩ z) :=
  (((k.trans (h.bel.mono k.size)).setCell (Nat.le_succ _) _).setCell (Nat.le_succ _) _).setCell (Nat.le_succ _) _
set_option maxHeartbeats 1200000 in
theorem pof_ok (W H b o c : Nat) (f : Nat → Bool) (w : World) (hlb : b < w.heap.size) (hcp : W * H ≤ c) (hcs : ∀ i, i < W * H → w.cell? ⟨b, o + i, none⟩ = some (.bool (f i))) (hW0 : 1 ≤ W) (hW : W ≤ 64) (hH0 : 1 ≤ H) (hH : H ≤ 64) :
    Calls Try.prog 40 #[.agg #[.int .i64 (W : Nat), .int .i64 (H : Nat), .slice (some ⟨b, o, none⟩) (W * H) c]] w fun e w' => ∃ a b d, e = .returned (.tuple #[.agg #[.int .i64 (a : Nat), .int .i64 (b : Nat), .int .i64 (d : Nat)], .int .i64 0]) ∧ IsL W H f a b d ∧ Below w.heap.size w w' := by
  have hWH : W * H ≤ 4096 := Nat.mul_le_mul hW hH
  have H1 := Lib.hid (show ∀ u, OS w u (W : Nat) (H : Nat) (.slice (some ⟨b, o, none⟩) (W * H) c) → Calls Try.prog 50 #[.agg #[.int .i64 (W : Nat), .int .i64 (H : Nat), .slice (some ⟨b, o, none⟩) (W * H) c]] u fun e w' => e = .returned (.int .i64 0) ∧ OS w w' (W : Nat) (H : Nat) (.slice (some ⟨b, o, none⟩) (W * H) c) from fun u hu => by
    have h := chk_any W H (some ⟨b, o, none⟩) (W * H) c u (by omega)
    rw [chk_zero hW0 hW hH0 hH] at h
    exact h.mono fun e w' ⟨h1, h2⟩ => ⟨h1, hu.step h2⟩)
  have HF := Lib.hid (fun u (h : Below w.heap.size w u) => fits_any u W H b o c f W H b o c f W H hW0 hW hH0 hH hW0 hW hH0 hH hcp hcp (Nat.lt_of_lt_of_le hlb h.size) (Nat.lt_of_lt_of_le hlb h.size) (fun i hi => (h.cell (p := ⟨b, o + i, none⟩) hlb).trans (hcs i hi)) (fun i hi => (h.cell (p := ⟨b, o + i, none⟩) hlb).trans (hcs i hi)))
  have h0 := OS.new w (W : Nat) (H : Nat) (.slice (some ⟨b, o, none⟩) (W * H) c)
  clear hcs
  go_enter Try.func40, Try.ntmps40
  go_wp2_with fail
  apply wp_scope_straight
  go_wp2_with (go_at_call 50; refine (H1.out _ h0).mono ?_; rintro e w2 ⟨rfl, hbx, htr, hbl⟩; obtain ⟨q0, q1, q2, -⟩ := hbx.all; have hb0 := Lib.hid hbl; have ht0 := Lib.hid htr; clear hbl htr hbx)
  refine (HF.out _ hb0.out).mono ?_
  rintro e u ⟨ph, pf, pw, pt, P, Q, rfl, hFT, hPe, hQe, hb2⟩
  go_wp2
  have hub := Lib.hid (hb0.out.trans (hb2.mono hb0.out.size))
  have hsz := Lib.hid (hb2.size)
  have HP := Lib.hid (fun wr (x y z : Int) (h : PS u wr x y z) m n hm hn => ps_is h hFT hPe hQe hW0 hH m n hm hn)
  have HR := Lib.hid (fun wr (k : Below u.heap.size u wr) => (ht0.out.below hb2 ht0.out.lt).below k (Nat.lt_of_lt_of_le ht0.out.lt hb2.size))
  clear hFT hPe hQe hb2 q0 q1 q2 ht0 hb0
  have h0 := PS.new u 1 0 1
  generalize World.alloc _ (Obj.cells #[Value.int IntKind.i64 1, Value.int IntKind.i64 0, Value.int IntKind.i64 1] 68) = u0 at h0 ⊢
  have H0 := Lib.hid h0
  clear h0
  go_loopw [28] (fun _ wr => ∃ a : Nat, 1 ≤ a ∧ a ≤ W ∧ Hid (∀ a', 1 ≤ a' → a' < a → ¬ rep W H f a' 0) ∧ Hid (PS u wr (a : Nat) 0 1)) (fun _ wr => W - fst0 wr u.heap.size)
  case atStart => exact ⟨1, Nat.le_refl _, hW0, fun a' h1 h2 => absurd h2 (by omega), H0⟩
  case round =>
    obtain ⟨a, ha0, haW, hla, hLS⟩ := hrel
    clear H0
    obtain ⟨t0, t1, t2, t3, t4, t5⟩ := hLS.out.tri.all
    have H2 := HP.out wr _ _ _ hLS.out a 0 (by omega) (by omega)
    rw [show ((0 : Nat) : Int) = 0 from rfl] at H2
    have hM := Lib.hid (fst0_tri hLS.out.tri)
    by_cases e : rep W H f a 0
    · have E0 := Lib.hid e
      rw [decide_eq_true e] at H2
      have H2 := Lib.hid H2
      clear e
      go_wp2_with (go_at_call 80; with_reducible refine H2.out.mono ?_; rintro e w3 ⟨rfl, h3⟩)
      have H3 := Lib.hid h3
      clear h3 t0 t1 t2 t3 t4 t5 H2
      go_step3
      go_wp2_with fail
      go_loopw [46] (fun _ wr => ∃ d k : Nat, 1 ≤ d ∧ d ≤ H ∧ Hid (∀ d', 1 ≤ d' → d' < d → ∀ b, b < a → ¬ rep W H f b d') ∧ Hid (PS u wr (a : Nat) (k : Nat) (d : Nat))) (fun _ wr => H + 1 - trd wr u.heap.size)
      case atStart => exact ⟨1, 0, Nat.le_refl _, hH0, fun d' h1 h2 => absurd h2 (by omega), H3⟩
      case round =>
        obtain ⟨d, k, hd0, hdH, hlc, hLS⟩ := hrel
        have hMd := Lib.hid (trd_tri hLS.out.tri)
        obtain ⟨t0, t1, t2, t3, t4, t5⟩ := hLS.out.tri.all
        go_wp2_with fail
        go_loopw [36] (fun i wr => ∃ b k : Nat, b ≤ a ∧ i = .int .i64 b ∧ Hid (∀ b', b' < b → ¬ rep W H f b' d) ∧ Hid (PS u wr (a : Nat) (k : Nat) (d : Nat))) (fun i _ => a + 1 - (intOf i).toNat)
        case atStart => exact ⟨0, k, Nat.zero_le _, rfl, fun b' h => absurd h (by omega), hLS⟩
        case round =>
          clear t0 t1 t2 t3 t4 t5
          obtain ⟨b, k, hba, rfl, hlb, hLS⟩ := hrel
          obtain ⟨t0, t1, t2, t3, t4, t5⟩ := hLS.out.tri.all
          by_cases hlt : b < a
          · have hLS1 := hLS.out.set1 (b : Nat)
            have H2 := HP.out _ _ _ _ hLS1 b d (by omega) (by omega)
            by_cases e : rep W H f b d
            · have E := Lib.hid e
              rw [decide_eq_true e] at H2
              have H2 := Lib.hid H2
              clear e hLS1
              go_wp2_with (go_at_call 80; with_reducible refine H2.out.mono ?_; rintro e w3 ⟨rfl, h3⟩; obtain ⟨t0, t1, t2, t3, t4, t5⟩ := h3.tri.all; obtain ⟨r0, r1, r2, r3, r4, r5⟩ := (HR.out _ h3.bel).all)
              rw [Exit.noGoto_ret]
              refine bodyPost_ret (v := .tuple #[.agg #[.int .i64 (a : Nat), .int .i64 (b : Nat), .int .i64 (d : Nat)], .int .i64 0]) ?_ rfl ⟨a, b, d, rfl, ⟨ha0, haW, E0.out, hla.out, hd0, hdH, hlt, E.out, hlb.out, hlc.out⟩, ps_fin h3 hub.out _ _ _⟩
              simp [results, Try.results40, go_sem, r0, r1, r2]
            · have E := Lib.hid e
              rw [decide_eq_false e] at H2
              have H2 := Lib.hid H2
              clear e hLS1
              go_wp2_with (go_at_call 80; with_reducible refine H2.out.mono ?_; rintro e w3 ⟨rfl, h3⟩)
              refine ⟨⟨b + 1, b, by omega, by go_num, fun b' h => ?_, h3⟩, by simp [intOf]; omega⟩
              rcases Nat.lt_succ_iff_lt_or_eq.1 h with h | rfl
              · exact hlb.out b' h
              · exact E.out
          · have e : b = a := by omega
            subst e
            have hne : ¬ d = H := fun h => by subst h; exact hlb.out 0 ha0 (rep_foot _ _ _)
            go_wp2
            have h4 : PS u (wr.setCell ⟨u.heap.size, 2, none⟩ (.int .i64 ((d : Int) + 1))) (b : Nat) (k : Nat) ((d + 1 : Nat) : Int) := hLS.out.set2 ((d : Int) + 1)
            refine ⟨⟨d + 1, k, by omega, by omega, fun d' h1 h2 => ?_, h4⟩, ?_⟩
            · rcases Nat.lt_succ_iff_lt_or_eq.1 h2 with h | rfl
              · exact hlc.out d' h1 h
              · exact hlb.out
            · have h5 := trd_tri h4.tri
              have h6 := hMd.out
              omega
    · have E := Lib.hid e
      have hne : ¬ a = W := fun h => by subst h; exact e (rep_side _ _ _)
      rw [decide_eq_false e] at H2
      have H2 := Lib.hid H2
      clear e
      go_wp2_with (go_at_call 80; with_reducible refine H2.out.mono ?_; rintro e w3 ⟨rfl, h3⟩; obtain ⟨t0, t1, t2, t3, t4, t5⟩ := h3.tri.all)
      refine ⟨⟨a + 1, by omega, by omega, fun a' h1 h2 => ?_, by have := h3.set0 (a + 1); exact this⟩, ?_⟩
      · rcases Nat.lt_succ_iff_lt_or_eq.1 h2 with h | rfl
        · exact hla.out a' h1 h
        · exact E.out
      · have hf : fst0 (w3.setCell ⟨u.heap.size, 0, none⟩ (.int .i64 ((a : Int) + 1))) u.heap.size = a + 1 := fst0_tri (a := a + 1) (h3.set0 ((a : Int) + 1)).tri
        rw [hM.out, hf]
        omega
end Go.Proofs.Ytmakjdfkldacaaa

/- The lattice of a plane: its steps are the repeats (arithmetic alone). -/
namespace Go.Proofs.Ytmakjdfkldacaaa
open Go.RowKit
set_option maxRecDepth 100000
set_option linter.unusedVariables false
set_option linter.unusedSimpArgs false

/-- A cell of the plane, at any place. -/
def pz (W H : Nat) (f : Nat → Bool) (x y : Int) : Bool := f ((y % (H : Int)).toNat * W + (x % (W : Int)).toNat)
theorem pz_nat (W H : Nat) (f : Nat → Bool) (x y : Nat) : pz W H f x y = pc W H f x y := by
  unfold pz pc
  rw [show ((y : Int) % (H : Int)).toNat = y % H by omega, show ((x : Int) % (W : Int)).toNat = x % W by omega]
theorem pz_mod {W H : Nat} {f : Nat → Bool} {x y x' y' : Int} (hx : x % (W : Int) = x' % (W : Int)) (hy : y % (H : Int) = y' % (H : Int)) : pz W H f x y = pz W H f x' y' := by
  unfold pz
  rw [hx, hy]
/-- The step is a repeat of the plane. -/
def Rp (W H : Nat) (f : Nat → Bool) (a b : Int) : Prop := ∀ x y, pz W H f (x + a) (y + b) = pz W H f x y
theorem Rp.zero (W H : Nat) (f : Nat → Bool) : Rp W H f 0 0 := fun x y => by rw [Int.add_zero, Int.add_zero]
theorem Rp.add {W H : Nat} {f : Nat → Bool} {a b c d : Int} (h : Rp W H f a b) (k : Rp W H f c d) : Rp W H f (a + c) (b + d) := fun x y => by
  rw [← Int.add_assoc, ← Int.add_assoc, k, h]
theorem Rp.neg {W H : Nat} {f : Nat → Bool} {a b : Int} (h : Rp W H f a b) : Rp W H f (-a) (-b) := fun x y => by
  rw [← h (x + -a) (y + -b), Int.neg_add_cancel_right, Int.neg_add_cancel_right]
theorem Rp.sub {W H : Nat} {f : Nat → Bool} {a b c d : Int} (h : Rp W H f a b) (k : Rp W H f c d) : Rp W H f (a - c) (b - d) := by
  rw [Int.sub_eq_add_neg, Int.sub_eq_add_neg]; exact h.add k.neg
theorem Rp.nmul {W H : Nat} {f : Nat → Bool} {a b : Int} (h : Rp W H f a b) (n : Nat) : Rp W H f (n * a) (n * b) := by
  induction n with
  | zero => rw [Int.natCast_zero, Int.zero_mul, Int.zero_mul]; exact Rp.zero W H f
  | succ n ih =>
    rw [Int.natCast_add, Int.add_mul, Int.add_mul, Int.natCast_one, Int.one_mul, Int.one_mul]
    exact ih.add h
theorem Rp.mul {W H : Nat} {f : Nat → Bool} {a b : Int} (h : Rp W H f a b) (k : Int) : Rp W H f (k * a) (k * b) := by
  rcases Int.eq_nat_or_neg k with ⟨n, rfl | rfl⟩
  · exact h.nmul n
  · rw [Int.neg_mul, Int.neg_mul]; exact (h.nmul n).neg
theorem Rp.cast {W H : Nat} {f : Nat → Bool} {a b c d : Int} (h : Rp W H f a b) (e : a = c) (k : b = d) : Rp W H f c d := by subst e; subst k; exact h
theorem Rp.side (W H : Nat) (f : Nat → Bool) : Rp W H f W 0 := fun x y => pz_mod (by rw [Int.add_emod_right]) (by rw [Int.add_zero])
theorem Rp.foot (W H : Nat) (f : Nat → Bool) : Rp W H f 0 H := fun x y => pz_mod (by rw [Int.add_zero]) (by rw [Int.add_emod_right])
theorem rep_iff {W H : Nat} {f : Nat → Bool} (hW0 : 1 ≤ W) (hH0 : 1 ≤ H) (a b : Nat) : rep W H f a b ↔ Rp W H f a b := by
  constructor
  · intro h x y
    have hx0 := Int.emod_nonneg x (show (W : Int) ≠ 0 by omega)
    have hx1 := Int.emod_lt_of_pos x (show 0 < (W : Int) by omega)
    have hy0 := Int.emod_nonneg y (show (H : Int) ≠ 0 by omega)
    have hy1 := Int.emod_lt_of_pos y (show 0 < (H : Int) by omega)
    have e := h (x % (W : Int)).toNat (by omega) (y % (H : Int)).toNat (by omega)
    rw [← pz_nat, ← pz_nat, Int.natCast_add, Int.natCast_add, Int.toNat_of_nonneg hx0, Int.toNat_of_nonneg hy0] at e
    rw [pz_mod (x' := x % (W : Int) + a) (y' := y % (H : Int) + b) (by rw [Int.emod_add_emod]) (by rw [Int.emod_add_emod]), ← e]
    exact pz_mod (Int.emod_emod_of_dvd _ (Int.dvd_refl _)) (Int.emod_emod_of_dvd _ (Int.dvd_refl _))
  · intro h x _ y _
    have e := h x y
    rw [← Int.natCast_add, ← Int.natCast_add, pz_nat, pz_nat] at e
    exact e.symm
/-- The repeats are the steps of the lattice. -/
theorem IsL.mem {W H : Nat} {f : Nat → Bool} {A B C : Nat} (h : IsL W H f A B C) (hH0 : 1 ≤ H) (dx dy : Int) : Rp W H f dx dy ↔ inn A B C dx dy = true := by
  have hW0 : 1 ≤ W := Nat.le_trans h.a0 h.aw
  have ra := (rep_iff hW0 hH0 A 0).1 h.ra
  have rc := (rep_iff hW0 hH0 B C).1 h.rc
  have ha0 := h.a0
  have hc0 := h.c0
  rw [show ((0 : Nat) : Int) = 0 from rfl] at ra
  unfold inn
  rw [decide_eq_true_iff]
  constructor
  · intro k
    have hr0 := Int.emod_nonneg dy (show (C : Int) ≠ 0 by omega)
    have hr1 := Int.emod_lt_of_pos dy (show 0 < (C : Int) by omega)
    have k1 : Rp W H f (dx - dy / C * B) (dy % (C : Int)) := (k.sub (rc.mul (dy / C))).cast rfl (by have := Int.mul_ediv_add_emod dy C; have := Int.mul_comm (C : Int) (dy / C); omega)
    generalize hs : dx - dy / C * B = s at k1 ⊢
    have ha1 := Int.emod_nonneg s (show (A : Int) ≠ 0 by omega)
    have ha2 := Int.emod_lt_of_pos s (show 0 < (A : Int) by omega)
    have k2 : Rp W H f (s % (A : Int)) (dy % (C : Int)) := (k1.sub (ra.mul (s / A))).cast (by have := Int.mul_ediv_add_emod s A; have := Int.mul_comm (A : Int) (s / A); omega) (by omega)
    obtain ⟨p, hp⟩ := Int.eq_ofNat_of_zero_le ha1
    obtain ⟨r, hr⟩ := Int.eq_ofNat_of_zero_le hr0
    rw [hp, hr] at k2
    have k3 := (rep_iff hW0 hH0 p r).2 k2
    have er : r = 0 := by
      rcases Nat.eq_zero_or_pos r with e | e
      · exact e
      · exact absurd k3 (h.lc r e (by omega) p (by omega))
    subst er
    have ep : p = 0 := by
      rcases Nat.eq_zero_or_pos p with e | e
      · exact e
      · exact absurd k3 (h.la p e (by omega))
    omega
  · rintro ⟨e1, e2⟩
    have t1 := (rc.mul (dy / C)).add (ra.mul ((dx - dy / C * B) / A))
    refine t1.cast ?_ ?_
    · have := Int.mul_ediv_add_emod (dx - dy / C * B) A
      have := Int.mul_comm (A : Int) ((dx - dy / C * B) / A)
      omega
    · have := Int.mul_ediv_add_emod dy C
      have := Int.mul_comm (C : Int) (dy / C)
      omega
theorem IsL.same {W H W' H' : Nat} {f f' : Nat → Bool} {A B C A' B' C' : Nat} (h : IsL W H f A B C) (k : IsL W' H' f' A' B' C') (e : ∀ a b : Nat, rep W H f a b ↔ rep W' H' f' a b) : A = A' ∧ B = B' ∧ C = C' := by
  have eA : A = A' := by
    rcases Nat.lt_trichotomy A A' with i | i | i
    · exact absurd ((e _ _).1 h.ra) (k.la A h.a0 i)
    · exact i
    · exact absurd ((e _ _).2 k.ra) (h.la A' k.a0 i)
  subst eA
  have eC : C = C' := by
    rcases Nat.lt_trichotomy C C' with i | i | i
    · exact absurd ((e _ _).1 h.rc) (k.lc C h.c0 i B h.ba)
    · exact i
    · exact absurd ((e _ _).2 k.rc) (h.lc C' k.c0 i B' k.ba)
  subst eC
  have eB : B = B' := by
    rcases Nat.lt_trichotomy B B' with i | i | i
    · exact absurd ((e _ _).1 h.rc) (k.lb B i)
    · exact i
    · exact absurd ((e _ _).2 k.rc) (h.lb B' i)
  exact ⟨rfl, eB, rfl⟩
/-- The plane of the first, moved by the step, is the second. -/
def Mt (W H : Nat) (f : Nat → Bool) (W' H' : Nat) (f' : Nat → Bool) (a b : Int) : Prop := ∀ x y, pz W H f x y = pz W' H' f' (x + a) (y + b)
theorem Mt.rp {W H W' H' : Nat} {f f' : Nat → Bool} {a b : Int} (h : Mt W H f W' H' f' a b) (c d : Int) : Rp W H f c d ↔ Rp W' H' f' c d := by
  constructor
  · intro k x y
    have e := k (x - a) (y - b)
    rw [h, h] at e
    rw [show x - a + c + a = x + c by omega, show y - b + d + b = y + d by omega, show x - a + a = x by omega, show y - b + b = y by omega] at e
    exact e
  · intro k x y
    rw [h, h, show x + c + a = x + a + c by omega, show y + d + b = y + b + d by omega]
    exact k _ _
theorem Mt.rep {W H W' H' : Nat} {f f' : Nat → Bool} {a b : Int} (h : Mt W H f W' H' f' a b) (hW : 1 ≤ W) (hH : 1 ≤ H) (hW' : 1 ≤ W') (hH' : 1 ≤ H') (c d : Nat) : rep W H f c d ↔ rep W' H' f' c d := by
  rw [rep_iff hW hH, rep_iff hW' hH']; exact h.rp c d
/-- Any place of the plane has its cell within A columns and C rows. -/
theorem IsL.red {W H : Nat} {f : Nat → Bool} {A B C : Nat} (h : IsL W H f A B C) (hH0 : 1 ≤ H) (x y : Int) : pz W H f x y = pz W H f ((x - y / C * B) % (A : Int)) (y % (C : Int)) := by
  have ha0 := h.a0
  have hc0 := h.c0
  have k : Rp W H f (y / C * B + A * ((x - y / C * B) / A)) (C * (y / C)) := (h.mem hH0 _ _).2 (by
    unfold inn
    rw [decide_eq_true_iff, Int.mul_ediv_cancel_left _ (show (C : Int) ≠ 0 by omega)]
    refine ⟨Int.mul_emod_right _ _, ?_⟩
    rw [show y / C * B + A * ((x - y / C * B) / A) - y / C * B = A * ((x - y / C * B) / A) by omega]
    exact Int.mul_emod_right _ _)
  have e := k ((x - y / C * B) % (A : Int)) (y % (C : Int))
  rw [← e]
  congr 1
  · have := Int.mul_ediv_add_emod (x - y / C * B) A
    omega
  · have := Int.mul_ediv_add_emod y C
    omega
/-- Planes of the same lattice are the same if A columns and C rows are. -/
theorem mt_of {W H W' H' : Nat} {f f' : Nat → Bool} {A B C : Nat} (h : IsL W H f A B C) (k : IsL W' H' f' A B C) (hH : 1 ≤ H) (hH' : 1 ≤ H') (a b : Nat) (e : ∀ y, y < C → ∀ x, x < A → pc W H f x y = pc W' H' f' (a + x) (y + b)) : Mt W H f W' H' f' a b := by
  intro x y
  have ha0 := h.a0
  have hc0 := h.c0
  have h1 := h.red hH x y
  have hs0 := Int.emod_nonneg (x - y / C * B) (show (A : Int) ≠ 0 by omega)
  have hs1 := Int.emod_lt_of_pos (x - y / C * B) (show 0 < (A : Int) by omega)
  have hr0 := Int.emod_nonneg y (show (C : Int) ≠ 0 by omega)
  have hr1 := Int.emod_lt_of_pos y (show 0 < (C : Int) by omega)
  have k1 : Rp W' H' f' (y / C * B + A * ((x - y / C * B) / A)) (C * (y / C)) := (k.mem hH' _ _).2 (by
    unfold inn
    rw [decide_eq_true_iff, Int.mul_ediv_cancel_left _ (show (C : Int) ≠ 0 by omega)]
    refine ⟨Int.mul_emod_right _ _, ?_⟩
    rw [show y / C * B + A * ((x - y / C * B) / A) - y / C * B = A * ((x - y / C * B) / A) by omega]
    exact Int.mul_emod_right _ _)
  have t1 := Int.mul_ediv_add_emod (x - y / C * B) A
  have t2 := Int.mul_ediv_add_emod y C
  obtain ⟨s, hs⟩ := Int.eq_ofNat_of_zero_le hs0
  obtain ⟨r, hr⟩ := Int.eq_ofNat_of_zero_le hr0
  rw [hs, hr, pz_nat, e r (by omega) s (by omega), ← pz_nat, Int.natCast_add, Int.natCast_add] at h1
  rw [h1]
  have k2 := k1 (a + s) (r + b)
  rw [← k2]
  congr 1
  · omega
  · omega
theorem mt_iff {W H W' H' : Nat} {f f' : Nat → Bool} {A B C : Nat} (h : IsL W H f A B C) (k : IsL W' H' f' A B C) (hH : 1 ≤ H) (hH' : 1 ≤ H') (a b : Nat) : (∀ y, y < C → ∀ x, x < A → pc W H f x y = pc W' H' f' (a + x) (y + b)) ↔ Mt W H f W' H' f' a b :=
  ⟨mt_of h k hH hH' a b, fun m y _ x _ => by rw [← pz_nat, ← pz_nat, Int.natCast_add, Int.natCast_add, m, Int.add_comm (x : Int) (a : Int)]⟩
/-- An offset may be taken modulo the lattice. -/
theorem Mt.red {W H W' H' : Nat} {f f' : Nat → Bool} {A B C : Nat} {a b : Int} (h : Mt W H f W' H' f' a b) (k : IsL W' H' f' A B C) (hH' : 1 ≤ H') : ∃ p q : Nat, p < A ∧ q < C ∧ Mt W H f W' H' f' p q ∧ (q : Int) = b % (C : Int) ∧ (p : Int) = (a - b / C * B) % (A : Int) := by
  have ha0 := k.a0
  have hc0 := k.c0
  have hs0 := Int.emod_nonneg (a - b / C * B) (show (A : Int) ≠ 0 by omega)
  have hs1 := Int.emod_lt_of_pos (a - b / C * B) (show 0 < (A : Int) by omega)
  have hr0 := Int.emod_nonneg b (show (C : Int) ≠ 0 by omega)
  have hr1 := Int.emod_lt_of_pos b (show 0 < (C : Int) by omega)
  have k1 : Rp W' H' f' (b / C * B + A * ((a - b / C * B) / A)) (C * (b / C)) := (k.mem hH' _ _).2 (by
    unfold inn
    rw [decide_eq_true_iff, Int.mul_ediv_cancel_left _ (show (C : Int) ≠ 0 by omega)]
    refine ⟨Int.mul_emod_right _ _, ?_⟩
    rw [show b / C * B + A * ((a - b / C * B) / A) - b / C * B = A * ((a - b / C * B) / A) by omega]
    exact Int.mul_emod_right _ _)
  have t1 := Int.mul_ediv_add_emod (a - b / C * B) A
  have t2 := Int.mul_ediv_add_emod b C
  obtain ⟨s, hs⟩ := Int.eq_ofNat_of_zero_le hs0
  obtain ⟨r, hr⟩ := Int.eq_ofNat_of_zero_le hr0
  refine ⟨s, r, by omega, by omega, fun x y => ?_, hr.symm, hs.symm⟩
  rw [h, ← k1 (x + s) (y + r)]
  congr 1
  · omega
  · omega
/-- The sides of the lattice divide those of the grid. -/
theorem IsL.divs {W H : Nat} {f : Nat → Bool} {A B C : Nat} (h : IsL W H f A B C) (hH0 : 1 ≤ H) : W % A = 0 ∧ H % C = 0 ∧ ((H : Int) / C * B) % A = 0 := by
  have e1 := (h.mem hH0 _ _).1 (Rp.side W H f)
  have e2 := (h.mem hH0 _ _).1 (Rp.foot W H f)
  unfold inn at e1 e2
  rw [decide_eq_true_iff] at e1 e2
  have a1 := e1.2
  rw [Int.zero_ediv, Int.zero_mul, Int.sub_zero] at a1
  have a2 := e2.2
  rw [Int.zero_sub] at a2
  refine ⟨by omega, by have := e2.1; omega, ?_⟩
  have := Int.emod_eq_zero_of_dvd (Int.dvd_neg.1 (Int.dvd_of_emod_eq_zero a2))
  exact this
end Go.Proofs.Ytmakjdfkldacaaa

/- Of, Is and In of both sides give the same. -/
namespace Go.Proofs.Ytmakjdfkldacaaa
open Go.RowKit
set_option maxRecDepth 100000
set_option linter.unusedVariables false
set_option linter.unusedSimpArgs false

theorem least_ex {p : Nat → Prop} (n : Nat) (h : p n) : ∃ m, m ≤ n ∧ p m ∧ ∀ k, k < m → ¬ p k := by
  induction n using Nat.strongRecOn with
  | _ n ih =>
    by_cases e : ∃ k, k < n ∧ p k
    · obtain ⟨k, hk, hp⟩ := e
      obtain ⟨m, h1, h2, h3⟩ := ih k hk hp
      exact ⟨m, by omega, h2, h3⟩
    · exact ⟨n, Nat.le_refl _, h, fun k hk hp => e ⟨k, hk, hp⟩⟩
/-- Each plane has its lattice. -/
theorem IsL.ex (W H : Nat) (f : Nat → Bool) (hW0 : 1 ≤ W) (hH0 : 1 ≤ H) : ∃ A B C, IsL W H f A B C := by
  obtain ⟨A, a1, ⟨a2, a3⟩, a4⟩ := least_ex (p := fun a => 1 ≤ a ∧ rep W H f a 0) W ⟨hW0, rep_side W H f⟩
  obtain ⟨C, c1, ⟨c2, b, c3, c4⟩, c5⟩ := least_ex (p := fun c => 1 ≤ c ∧ ∃ b, b < A ∧ rep W H f b c) H ⟨hH0, 0, a2, rep_foot W H f⟩
  obtain ⟨B, b1, b2, b3⟩ := least_ex (p := fun b => rep W H f b C) b c4
  exact ⟨A, B, C, a2, a1, a3, fun a h1 h2 h3 => a4 a h2 ⟨h1, h3⟩, c2, c1, by omega, b2, b3, fun c h1 h2 b h3 h4 => c5 c h2 ⟨h1, b, h3, h4⟩⟩
theorem Holds.some_ {w : World} {B : Nat} {A : Option Addr} {n : Nat} {f : Nat → Bool} (h : Holds w B A n f) (h0 : 0 < n) : ∃ b o, A = some ⟨b, o, none⟩ ∧ b < B ∧ ∀ i, i < n → w.cell? ⟨b, o + i, none⟩ = some (.bool (f i)) := h h0
theorem mul_ge {W H : Nat} (hW0 : 1 ≤ W) (hH0 : 1 ≤ H) : 0 < W * H := Nat.mul_pos hW0 hH0
/-- Of by the program, where the lattice is known. -/
theorem pof_at {W H A B C : Nat} {f : Nat → Bool} (hL : IsL W H f A B C) (D : Option Addr) (c : Nat) (v : World) (hr : Holds v v.heap.size D (W * H) f) (hcp : W * H ≤ c) (hW : W ≤ 64) (hH0 : 1 ≤ H) (hH : H ≤ 64) :
    Calls Try.prog 40 #[.agg #[.int .i64 (W : Nat), .int .i64 (H : Nat), .slice D (W * H) c]] v fun e w' => e = .returned (.tuple #[.agg #[.int .i64 (A : Nat), .int .i64 (B : Nat), .int .i64 (C : Nat)], .int .i64 0]) ∧ Below v.heap.size v w' := by
  have hW0 := Nat.le_trans hL.a0 hL.aw
  obtain ⟨b, o, rfl, hb, hcs⟩ := hr.some_ (mul_ge hW0 hH0)
  refine (pof_ok W H b o c f v hb hcp hcs hW0 hW hH0 hH).mono ?_
  rintro e w' ⟨a', b', d', rfl, k, hb⟩
  obtain ⟨rfl, rfl, rfl⟩ := hL.one k
  exact ⟨rfl, hb⟩
theorem rof_at {W H A B C : Nat} {f : Nat → Bool} (hL : IsL W H f A B C) (D : Option Addr) (c : Nat) (v : World) (hr : Holds v v.heap.size D (W * H) f) (hW : W ≤ 64) (hH0 : 1 ≤ H) (hH : H ≤ 64) :
    Calls Try.prog 63 #[.agg #[.int .i64 (W : Nat), .int .i64 (H : Nat), .slice D (W * H) c]] v fun e w' => e = .returned (.tuple #[.agg #[.int .i64 (A : Nat), .int .i64 (B : Nat), .int .i64 (C : Nat)], .int .i64 0]) ∧ Below v.heap.size v w' := by
  have hW0 := Nat.le_trans hL.a0 hL.aw
  refine (rof_ok W H D c f v hr hW0 hW hH0 hH).mono ?_
  rintro e w' ⟨a', b', d', rfl, k, hb⟩
  obtain ⟨rfl, rfl, rfl⟩ := hL.one k
  exact ⟨rfl, hb⟩
theorem rlat_at {W H A B C : Nat} {f : Nat → Bool} (hL : IsL W H f A B C) (D : Option Addr) (c : Nat) (v : World) (hr : Holds v v.heap.size D (W * H) f) (hW : W ≤ 64) (hH0 : 1 ≤ H) (hH : H ≤ 64) :
    Calls Try.prog 78 #[.agg #[.int .i64 (W : Nat), .int .i64 (H : Nat), .slice D (W * H) c]] v fun e w' => e = .returned (.agg #[.int .i64 (A : Nat), .int .i64 (B : Nat), .int .i64 (C : Nat)]) ∧ Below v.heap.size v w' := by
  have hW0 := Nat.le_trans hL.a0 hL.aw
  refine (lattice_any W H D c f v hr hW0 hW hH0 hH).mono ?_
  rintro e w' ⟨a', b', d', rfl, k, hb⟩
  obtain ⟨rfl, rfl, rfl⟩ := hL.one k
  exact ⟨rfl, hb⟩
/-- The sides of a valid grid, as numbers that are not negative. -/
theorem chk_nat {W H : Int} {n : Nat} (h : chk W H n = 0) : ∃ W' H' : Nat, W = W' ∧ H = H' ∧ 1 ≤ W' ∧ W' ≤ 64 ∧ 1 ≤ H' ∧ H' ≤ 64 ∧ n = W' * H' := by
  obtain ⟨a, b, c, d, e⟩ := chk_ok h
  obtain ⟨W', rfl⟩ := Int.eq_ofNat_of_zero_le (show 0 ≤ W by omega)
  obtain ⟨H', rfl⟩ := Int.eq_ofNat_of_zero_le (show 0 ≤ H by omega)
  exact ⟨W', H', rfl, rfl, by omega, by omega, by omega, by omega, by rw [← Int.natCast_mul] at e; omega⟩
theorem of_two (W H : Int) (D : Option Addr) (n c : Nat) (f : Nat → Bool) (w : World) (hr : Holds w w.heap.size D n f) (hn : n ≤ 4200) (hc : n ≤ c) : ∃ a b d z : Int, ∀ v, Below w.heap.size w v →
    (Calls Try.prog 40 #[.agg #[.int .i64 W, .int .i64 H, .slice D n c]] v fun e w' => e = .returned (.tuple #[.agg #[.int .i64 a, .int .i64 b, .int .i64 d], .int .i64 z]) ∧ Below v.heap.size v w') ∧
    (Calls Try.prog 63 #[.agg #[.int .i64 W, .int .i64 H, .slice D n c]] v fun e w' => e = .returned (.tuple #[.agg #[.int .i64 a, .int .i64 b, .int .i64 d], .int .i64 z]) ∧ Below v.heap.size v w') := by
  by_cases hx : chk W H n = 0
  · obtain ⟨W', H', rfl, rfl, h1, h2, h3, h4, rfl⟩ := chk_nat hx
    obtain ⟨A, B, C, hL⟩ := IsL.ex W' H' f h1 h3
    exact ⟨A, B, C, 0, fun v hv => ⟨pof_at hL D c v ((hr.below hv).more hv.size) hc h2 h3 h4, rof_at hL D c v ((hr.below hv).more hv.size) h2 h3 h4⟩⟩
  · exact ⟨0, 0, 0, chk W H n, fun v hv => ⟨pof_err W H D n c v hn _ rfl (by simpa using hx), rof_err W H D n c v hn _ rfl (by simpa using hx)⟩⟩
end Go.Proofs.Ytmakjdfkldacaaa
