/- Of by the program. -/
import Derived.Scope
import Derived.WalkMore
import Derived.Test.YtjbofdgdcnfmoaaPis
import Derived.Test.YtjbofdgdcnfmoaaRof
namespace Go.Proofs.Ytjbofdgdcnfmoaa
open Go.RowKit
set_option maxRecDepth 100000
set_option linter.unusedVariables false
set_option linter.unusedSimpArgs false

set_option maxHeartbeats 400000 in
theorem pof_err (W H : Int) (A : Option Addr) (n c : Nat) (w : World) (hn : n ≤ 4200) (z : Int) (hx : chk W H n = z) (hne : (z != 0) = true) :
    Calls Try.prog 19 #[.agg #[.int .i64 W, .int .i64 H, .slice A n c]] w fun e w' => e = .returned (.tuple #[.agg #[.int .i64 0, .int .i64 0, .int .i64 0], .int .i64 z]) ∧ Below w.heap.size w w' := by
  have H1 := Lib.hid (show ∀ u, OS w u W H (.slice A n c) → Calls Try.prog 70 #[.agg #[.int .i64 W, .int .i64 H, .slice A n c]] u fun e w' => e = .returned (.int .i64 z) ∧ OS w w' W H (.slice A n c) from fun u hu => by
    have h := chk_any W H A n c u hn
    rw [hx] at h
    exact h.mono fun e w' ⟨h1, h2⟩ => ⟨h1, hu.step h2⟩)
  have h0 := OS.new w W H (.slice A n c)
  clear hx
  go_enter Try.func19, Try.ntmps19
  go_wp2_with fail
  apply wp_scope_straight
  go_wp2_with (go_at_call 70; refine (H1.out _ h0).mono ?_; rintro e w2 ⟨rfl, h0⟩; obtain ⟨q0, q1, q2, -⟩ := h0.1.all; obtain ⟨r0, r1, r2, r3, r4, r5⟩ := h0.2.1.all)
  rw [Exit.noGoto_ret]
  refine bodyPost_ret (v := .tuple #[.agg #[.int .i64 0, .int .i64 0, .int .i64 0], .int .i64 z]) ?_ rfl ⟨rfl, os_fin h0 _ _ _⟩
  simp [results, Try.results19, go_sem, r0, r1, r2]
/-- The number in the third cell of a block. -/
def trd (w : World) (p : Nat) : Nat := match w.cell? ⟨p, 2, none⟩ with | some (.int _ v) => v.toNat | _ => 0
theorem trd_tri {w : World} {p : Nat} {c : Nat} {a b : Int} (h : Tri w p a b (c : Nat)) : trd w p = c := by
  unfold trd
  rw [h.all.2.2.1]
  simp
theorem Tri.put0 {u : World} {p : Nat} {a b c : Int} (h : Tri u p a b c) (x : Int) : Tri (u.setCell ⟨p, 0, none⟩ (.int .i64 x)) p x b c := by
  obtain ⟨hlt, hk⟩ := Array.getElem?_eq_some_iff.1 h
  show (u.heap.modify p _)[p]? = _
  rw [Array.getElem?_eq_getElem (by rw [Array.size_modify]; exact hlt), Array.getElem_modify_self, hk]
  rfl
theorem Tri.put1 {u : World} {p : Nat} {a b c : Int} (h : Tri u p a b c) (x : Int) : Tri (u.setCell ⟨p, 1, none⟩ (.int .i64 x)) p a x c := by
  obtain ⟨hlt, hk⟩ := Array.getElem?_eq_some_iff.1 h
  show (u.heap.modify p _)[p]? = _
  rw [Array.getElem?_eq_getElem (by rw [Array.size_modify]; exact hlt), Array.getElem_modify_self, hk]
  rfl
theorem Tri.put2 {u : World} {p : Nat} {a b c : Int} (h : Tri u p a b c) (x : Int) : Tri (u.setCell ⟨p, 2, none⟩ (.int .i64 x)) p a b x := by
  obtain ⟨hlt, hk⟩ := Array.getElem?_eq_some_iff.1 h
  show (u.heap.modify p _)[p]? = _
  rw [Array.getElem?_eq_getElem (by rw [Array.size_modify]; exact hlt), Array.getElem_modify_self, hk]
  rfl

/-- What lies while the lattice is sought, behind the making of the test. -/
structure PS (u0 u : World) (a b d : Int) : Prop where
  bel : Below u0.heap.size u0 u
  tri : Tri u u0.heap.size a b d
theorem PS.new (u0 : World) (a b d : Int) : PS u0 (u0.alloc (.cells #[.int .i64 a, .int .i64 b, .int .i64 d] 27)) a b d := ⟨(Below.refl _ _).alloc (Nat.le_refl _) _, Tri.new _ _ _ _⟩
theorem PS.set0 {u0 u : World} {a b d : Int} (h : PS u0 u a b d) (x : Int) : PS u0 (u.setCell ⟨u0.heap.size, 0, none⟩ (.int .i64 x)) x b d := ⟨h.bel.setCell (Nat.le_refl _) _, h.tri.put0 x⟩
theorem PS.set1 {u0 u : World} {a b d : Int} (h : PS u0 u a b d) (x : Int) : PS u0 (u.setCell ⟨u0.heap.size, 1, none⟩ (.int .i64 x)) a x d := ⟨h.bel.setCell (Nat.le_refl _) _, h.tri.put1 x⟩
theorem PS.set2 {u0 u : World} {a b d : Int} (h : PS u0 u a b d) (x : Int) : PS u0 (u.setCell ⟨u0.heap.size, 2, none⟩ (.int .i64 x)) a b x := ⟨h.bel.setCell (Nat.le_refl _) _, h.tri.put2 x⟩
theorem PS.step {u0 u u' : World} {a b d : Int} (h : PS u0 u a b d) (hb : Below u.heap.size u u') : PS u0 u' a b d := ⟨h.bel.trans (hb.mono h.bel.size), h.tri.below hb h.tri.lt⟩
theorem ps_is {u0 u : World} {W H lo ph pf pw pt : Nat} {f : Nat → Bool} {A B : PV} {a b d : Int} (h : PS u0 u a b d) (F : FT u0 lo ph pf pw pt H W A B) (ea : A.W = W ∧ A.H = H ∧ A.f = f) (eb : B.W = W ∧ B.H = H ∧ B.f = f) (hW0 : 1 ≤ W) (hH : H ≤ 64) (x y : Nat) (hx : x ≤ 64) (hy : y ≤ 64) :
    Calls Try.prog 114 #[.int .i64 (x : Nat), .int .i64 (y : Nat), .pointer (some ⟨ph, 0, none⟩), .pointer (some ⟨pf, 0, none⟩), .pointer (some ⟨pw, 0, none⟩), .pointer (some ⟨pt, 0, none⟩)] u fun e w' => e = .returned (.bool (decide (rep W H f x y))) ∧ PS u0 w' a b d :=
  (fits1_rep (F.next h.bel) ea eb hW0 hH x y hx hy).mono fun e w' ⟨h1, m, h2⟩ => ⟨h1, by subst h2; exact h.step (Go.Proofs.below_drewN' (Below.refl _ _) m)⟩
theorem ps_fin {w u0 u : World} {a b d : Int} (h : PS u0 u a b d) (k : Below w.heap.size w u0) (x y z : Value) : Below w.heap.size w (((u.setCell ⟨w.heap.size + 1, 0, none⟩ x).setCell ⟨w.heap.size + 1, 1, none⟩ y).setCell ⟨w.heap.size + 1, 2, none⟩ z) :=
  (((k.trans (h.bel.mono k.size)).setCell (Nat.le_succ _) _).setCell (Nat.le_succ _) _).setCell (Nat.le_succ _) _
set_option maxHeartbeats 1200000 in
theorem pof_ok (W H b o c : Nat) (f : Nat → Bool) (w : World) (hlb : b < w.heap.size) (hcp : W * H ≤ c) (hcs : ∀ i, i < W * H → w.cell? ⟨b, o + i, none⟩ = some (.bool (f i))) (hW0 : 1 ≤ W) (hW : W ≤ 64) (hH0 : 1 ≤ H) (hH : H ≤ 64) :
    Calls Try.prog 19 #[.agg #[.int .i64 (W : Nat), .int .i64 (H : Nat), .slice (some ⟨b, o, none⟩) (W * H) c]] w fun e w' => ∃ a b d, e = .returned (.tuple #[.agg #[.int .i64 (a : Nat), .int .i64 (b : Nat), .int .i64 (d : Nat)], .int .i64 0]) ∧ IsL W H f a b d ∧ Below w.heap.size w w' := by
  have hWH : W * H ≤ 4096 := Nat.mul_le_mul hW hH
  have H1 := Lib.hid (show ∀ u, OS w u (W : Nat) (H : Nat) (.slice (some ⟨b, o, none⟩) (W * H) c) → Calls Try.prog 70 #[.agg #[.int .i64 (W : Nat), .int .i64 (H : Nat), .slice (some ⟨b, o, none⟩) (W * H) c]] u fun e w' => e = .returned (.int .i64 0) ∧ OS w w' (W : Nat) (H : Nat) (.slice (some ⟨b, o, none⟩) (W * H) c) from fun u hu => by
    have h := chk_any W H (some ⟨b, o, none⟩) (W * H) c u (by omega)
    rw [chk_zero hW0 hW hH0 hH] at h
    exact h.mono fun e w' ⟨h1, h2⟩ => ⟨h1, hu.step h2⟩)
  have HF := Lib.hid (fun u (h : Below w.heap.size w u) => fits_any u W H b o c f W H b o c f W H hW0 hW hH0 hH hW0 hW hH0 hH hcp hcp (Nat.lt_of_lt_of_le hlb h.size) (Nat.lt_of_lt_of_le hlb h.size) (fun i hi => (h.cell (p := ⟨b, o + i, none⟩) hlb).trans (hcs i hi)) (fun i hi => (h.cell (p := ⟨b, o + i, none⟩) hlb).trans (hcs i hi)))
  have h0 := OS.new w (W : Nat) (H : Nat) (.slice (some ⟨b, o, none⟩) (W * H) c)
  clear hcs
  go_enter Try.func19, Try.ntmps19
  go_wp2_with fail
  apply wp_scope_straight
  go_wp2_with (go_at_call 70; refine (H1.out _ h0).mono ?_; rintro e w2 ⟨rfl, hbx, htr, hbl⟩; obtain ⟨q0, q1, q2, -⟩ := hbx.all; have hb0 := Lib.hid hbl; have ht0 := Lib.hid htr; clear hbl htr hbx)
  refine (HF.out _ hb0.out).mono ?_
  rintro e u ⟨ph, pf, pw, pt, P, Q, rfl, hFT, hPe, hQe, hb2⟩
  go_wp2
  have hub := Lib.hid (hb0.out.trans (hb2.mono hb0.out.size))
  have hsz := Lib.hid (hb2.size)
  have HP := Lib.hid (fun wr (x y z : Int) (h : PS u wr x y z) m n hm hn => ps_is h hFT hPe hQe hW0 hH m n hm hn)
  have HR := Lib.hid (fun wr (k : Below u.heap.size u wr) => (ht0.out.below hb2 ht0.out.lt).below k (Nat.lt_of_lt_of_le ht0.out.lt hb2.size))
  clear hFT hPe hQe hb2 q0 q1 q2 ht0 hb0
  have h0 := PS.new u 1 0 1
  generalize World.alloc _ (Obj.cells #[Value.int IntKind.i64 1, Value.int IntKind.i64 0, Value.int IntKind.i64 1] 27) = u0 at h0 ⊢
  have H0 := Lib.hid h0
  clear h0
  go_loopw [28] (fun _ wr => ∃ a : Nat, 1 ≤ a ∧ a ≤ W ∧ Hid (∀ a', 1 ≤ a' → a' < a → ¬ rep W H f a' 0) ∧ Hid (PS u wr (a : Nat) 0 1)) (fun _ wr => W - fst0 wr u.heap.size)
  case atStart => exact ⟨1, Nat.le_refl _, hW0, fun a' h1 h2 => absurd h2 (by omega), H0⟩
  case round =>
    obtain ⟨a, ha0, haW, hla, hLS⟩ := hrel
    clear H0
    obtain ⟨t0, t1, t2, t3, t4, t5⟩ := hLS.out.tri.all
    have H2 := HP.out wr _ _ _ hLS.out a 0 (by omega) (by omega)
    rw [show ((0 : Nat) : Int) = 0 from rfl] at H2
    have hM := Lib.hid (fst0_tri hLS.out.tri)
    by_cases e : rep W H f a 0
    · have E0 := Lib.hid e
      rw [decide_eq_true e] at H2
      have H2 := Lib.hid H2
      clear e
      go_wp2_with (go_at_call 114; with_reducible refine H2.out.mono ?_; rintro e w3 ⟨rfl, h3⟩)
      have H3 := Lib.hid h3
      clear h3 t0 t1 t2 t3 t4 t5 H2
      go_step3
      go_wp2_with fail
      go_loopw [46] (fun _ wr => ∃ d k : Nat, 1 ≤ d ∧ d ≤ H ∧ Hid (∀ d', 1 ≤ d' → d' < d → ∀ b, b < a → ¬ rep W H f b d') ∧ Hid (PS u wr (a : Nat) (k : Nat) (d : Nat))) (fun _ wr => H + 1 - trd wr u.heap.size)
      case atStart => exact ⟨1, 0, Nat.le_refl _, hH0, fun d' h1 h2 => absurd h2 (by omega), H3⟩
      case round =>
        obtain ⟨d, k, hd0, hdH, hlc, hLS⟩ := hrel
        have hMd := Lib.hid (trd_tri hLS.out.tri)
        obtain ⟨t0, t1, t2, t3, t4, t5⟩ := hLS.out.tri.all
        go_wp2_with fail
        go_loopw [36] (fun i wr => ∃ b k : Nat, b ≤ a ∧ i = .int .i64 b ∧ Hid (∀ b', b' < b → ¬ rep W H f b' d) ∧ Hid (PS u wr (a : Nat) (k : Nat) (d : Nat))) (fun i _ => a + 1 - (intOf i).toNat)
        case atStart => exact ⟨0, k, Nat.zero_le _, rfl, fun b' h => absurd h (by omega), hLS⟩
        case round =>
          clear t0 t1 t2 t3 t4 t5
          obtain ⟨b, k, hba, rfl, hlb, hLS⟩ := hrel
          obtain ⟨t0, t1, t2, t3, t4, t5⟩ := hLS.out.tri.all
          by_cases hlt : b < a
          · have hLS1 := hLS.out.set1 (b : Nat)
            have H2 := HP.out _ _ _ _ hLS1 b d (by omega) (by omega)
            by_cases e : rep W H f b d
            · have E := Lib.hid e
              rw [decide_eq_true e] at H2
              have H2 := Lib.hid H2
              clear e hLS1
              go_wp2_with (go_at_call 114; with_reducible refine H2.out.mono ?_; rintro e w3 ⟨rfl, h3⟩; obtain ⟨t0, t1, t2, t3, t4, t5⟩ := h3.tri.all; obtain ⟨r0, r1, r2, r3, r4, r5⟩ := (HR.out _ h3.bel).all)
              rw [Exit.noGoto_ret]
              refine bodyPost_ret (v := .tuple #[.agg #[.int .i64 (a : Nat), .int .i64 (b : Nat), .int .i64 (d : Nat)], .int .i64 0]) ?_ rfl ⟨a, b, d, rfl, ⟨ha0, haW, E0.out, hla.out, hd0, hdH, hlt, E.out, hlb.out, hlc.out⟩, ps_fin h3 hub.out _ _ _⟩
              simp [results, Try.results19, go_sem, r0, r1, r2]
            · have E := Lib.hid e
              rw [decide_eq_false e] at H2
              have H2 := Lib.hid H2
              clear e hLS1
              go_wp2_with (go_at_call 114; with_reducible refine H2.out.mono ?_; rintro e w3 ⟨rfl, h3⟩)
              refine ⟨⟨b + 1, b, by omega, by go_num, fun b' h => ?_, h3⟩, by simp [intOf]; omega⟩
              rcases Nat.lt_succ_iff_lt_or_eq.1 h with h | rfl
              · exact hlb.out b' h
              · exact E.out
          · have e : b = a := by omega
            subst e
            have hne : ¬ d = H := fun h => by subst h; exact hlb.out 0 ha0 (rep_foot _ _ _)
            go_wp2
            have h4 : PS u (wr.setCell ⟨u.heap.size, 2, none⟩ (.int .i64 ((d : Int) + 1))) (b : Nat) (k : Nat) ((d + 1 : Nat) : Int) := hLS.out.set2 ((d : Int) + 1)
            refine ⟨⟨d + 1, k, by omega, by omega, fun d' h1 h2 => ?_, h4⟩, ?_⟩
            · rcases Nat.lt_succ_iff_lt_or_eq.1 h2 with h | rfl
              · exact hlc.out d' h1 h
              · exact hlb.out
            · have h5 := trd_tri h4.tri
              have h6 := hMd.out
              omega
    · have E := Lib.hid e
      have hne : ¬ a = W := fun h => by subst h; exact e (rep_side _ _ _)
      rw [decide_eq_false e] at H2
      have H2 := Lib.hid H2
      clear e
      go_wp2_with (go_at_call 114; with_reducible refine H2.out.mono ?_; rintro e w3 ⟨rfl, h3⟩; obtain ⟨t0, t1, t2, t3, t4, t5⟩ := h3.tri.all)
      refine ⟨⟨a + 1, by omega, by omega, fun a' h1 h2 => ?_, by have := h3.set0 (a + 1); exact this⟩, ?_⟩
      · rcases Nat.lt_succ_iff_lt_or_eq.1 h2 with h | rfl
        · exact hla.out a' h1 h
        · exact E.out
      · have hf : fst0 (w3.setCell ⟨u.heap.size, 0, none⟩ (.int .i64 ((a : Int) + 1))) u.heap.size = a + 1 := fst0_tri (a := a + 1) (h3.set0 ((a : Int) + 1)).tri
        rw [hM.out, hf]
        omega
end Go.Proofs.Ytjbofdgdcnfmoaa
