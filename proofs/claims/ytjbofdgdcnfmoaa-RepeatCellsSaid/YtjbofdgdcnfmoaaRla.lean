/- The lattice of a grid by the reference. -/
import Derived.Test.YtjbofdgdcnfmoaaRib
namespace Go.Proofs.Ytjbofdgdcnfmoaa
open Go.RowKit
set_option maxRecDepth 100000
set_option linter.unusedVariables false
set_option linter.unusedSimpArgs false

theorem pc_mod (W H : Nat) (f : Nat → Bool) (x y a b : Nat) : pc W H f (x + a % W) (y + b % H) = pc W H f (x + a) (y + b) := by
  unfold pc
  rw [Nat.add_mod_mod, Nat.add_mod_mod]
theorem rep_mod (W H : Nat) (f : Nat → Bool) (a b : Nat) : rep W H f (a % W) (b % H) ↔ rep W H f a b := by
  unfold rep
  constructor
  · intro h x hx y hy; rw [← pc_mod]; exact h x hx y hy
  · intro h x hx y hy; rw [pc_mod]; exact h x hx y hy
theorem rep_side (W H : Nat) (f : Nat → Bool) : rep W H f W 0 := fun x _ y _ => by rw [← pc_mod]; simp
theorem rep_foot (W H : Nat) (f : Nat → Bool) : rep W H f 0 H := fun x _ y _ => by rw [← pc_mod]; simp
/-- (A, B, C) is the lattice. -/
structure IsL (W H : Nat) (f : Nat → Bool) (A B C : Nat) : Prop where
  a0 : 1 ≤ A
  aw : A ≤ W
  ra : rep W H f A 0
  la : ∀ a, 1 ≤ a → a < A → ¬ rep W H f a 0
  c0 : 1 ≤ C
  ch : C ≤ H
  ba : B < A
  rc : rep W H f B C
  lb : ∀ b, b < B → ¬ rep W H f b C
  lc : ∀ c, 1 ≤ c → c < C → ∀ b, b < A → ¬ rep W H f b c
theorem IsL.one {W H : Nat} {f : Nat → Bool} {A B C A' B' C' : Nat} (h : IsL W H f A B C) (k : IsL W H f A' B' C') : A = A' ∧ B = B' ∧ C = C' := by
  have eA : A = A' := by
    rcases Nat.lt_trichotomy A A' with e | e | e
    · exact absurd h.ra (k.la A h.a0 e)
    · exact e
    · exact absurd k.ra (h.la A' k.a0 e)
  subst eA
  have eC : C = C' := by
    rcases Nat.lt_trichotomy C C' with e | e | e
    · exact absurd h.rc (k.lc C h.c0 e B h.ba)
    · exact e
    · exact absurd k.rc (h.lc C' k.c0 e B' k.ba)
  subst eC
  have eB : B = B' := by
    rcases Nat.lt_trichotomy B B' with e | e | e
    · exact absurd h.rc (k.lb B e)
    · exact e
    · exact absurd k.rc (h.lb B' e)
  exact ⟨rfl, eB, rfl⟩
/-- What lies while the lattice is sought: the heap's size was s at the call. -/
structure LS (w u : World) (W H : Nat) (A : Option Addr) (c : Nat) (a : Nat) : Prop where
  box : Box u w.heap.size (W : Nat) (H : Nat) (.slice A (W * H) c)
  res : Tri u (w.heap.size + 1) 0 0 0
  tri : Tri u (w.heap.size + 2) (a : Nat) 0 0
  bel : Below w.heap.size w u
theorem LS.step {w u u' : World} {W H c a : Nat} {A : Option Addr} (h : LS w u W H A c a) (hb : Below u.heap.size u u') : LS w u' W H A c a :=
  ⟨h.box.below hb h.box.lt, h.res.below hb h.res.lt, h.tri.below hb h.tri.lt, h.bel.trans (hb.mono h.bel.size)⟩
theorem LS.set {w u : World} {W H c a : Nat} {A : Option Addr} (h : LS w u W H A c a) (a' : Nat) : LS w (u.setCell ⟨w.heap.size + 2, 0, none⟩ (.int .i64 (a' : Nat))) W H A c a' := by
  refine ⟨h.box.far (by simp) _, (Below.heap_setCell u ⟨w.heap.size + 2, 0, none⟩ _ (w.heap.size + 1) (by simp)).trans h.res, ?_, h.bel.setCell (by simp) _⟩
  have ht := h.tri
  obtain ⟨hlt, hk⟩ := Array.getElem?_eq_some_iff.1 ht
  show (u.heap.modify (w.heap.size + 2) _)[w.heap.size + 2]? = _
  rw [Array.getElem?_eq_getElem (by rw [Array.size_modify]; exact hlt), Array.getElem_modify_self, hk]
  rfl
/-- The contract of the test while the lattice is sought. -/
theorem ls_is {w u : World} {W H c k : Nat} {A : Option Addr} {f : Nat → Bool} (h : LS w u W H A c k) (hr : Holds w w.heap.size A (W * H) f) (hW0 : 1 ≤ W) (hW : W ≤ 64) (hH0 : 1 ≤ H) (hH : H ≤ 64) (a b : Nat) (ha : a ≤ 64) (hb : b ≤ 64) :
    Calls Try.prog 76 #[.agg #[.int .i64 (W : Nat), .int .i64 (H : Nat), .slice A (W * H) c], .int .i64 (a : Nat), .int .i64 (b : Nat)] u fun e w' => e = .returned (.bool (decide (rep W H f a b))) ∧ LS w w' W H A c k := by
  have hd : decide (rep W H f (a % W) (b % H)) = decide (rep W H f a b) := by
    by_cases e : rep W H f a b
    · rw [decide_eq_true e, decide_eq_true ((rep_mod W H f a b).2 e)]
    · rw [decide_eq_false e, decide_eq_false (fun h => e ((rep_mod W H f a b).1 h))]
  have hc := ris6_core W H A c f a b (a % W) (b % H) u ((hr.below h.bel).more h.bel.size) hW0 hW hH0 hH (by omega) (by omega) (by omega) (by omega) (by simp) (by simp)
  rw [hd] at hc
  exact hc.mono fun e w' ⟨h1, h2⟩ => ⟨h1, h.step h2⟩
/-- The number in the first cell of a block. -/
def fst0 (w : World) (p : Nat) : Nat := match w.cell? ⟨p, 0, none⟩ with | some (.int _ v) => v.toNat | _ => 0
theorem fst0_tri {w : World} {p : Nat} {a : Nat} {b c : Int} (h : Tri w p (a : Nat) b c) : fst0 w p = a := by
  unfold fst0
  rw [h.all.1]
  simp
set_option maxHeartbeats 800000 in
theorem lattice_any (W H : Nat) (A : Option Addr) (c : Nat) (f : Nat → Bool) (w : World) (hr : Holds w w.heap.size A (W * H) f) (hW0 : 1 ≤ W) (hW : W ≤ 64) (hH0 : 1 ≤ H) (hH : H ≤ 64) :
    Calls Try.prog 77 #[.agg #[.int .i64 (W : Nat), .int .i64 (H : Nat), .slice A (W * H) c]] w fun e w' => ∃ a b d, e = .returned (.agg #[.int .i64 (a : Nat), .int .i64 (b : Nat), .int .i64 (d : Nat)]) ∧ IsL W H f a b d ∧ Below w.heap.size w w' := by
  have HI := Lib.hid (fun u k (h : LS w u W H A c k) a b ha hb => ls_is h hr hW0 hW hH0 hH a b ha hb)
  have hL : ∀ u, u = ((w.alloc (.cells #[.int .i64 (W : Nat), .int .i64 (H : Nat), .slice A (W * H) c] 24)).alloc (.cells #[.int .i64 0, .int .i64 0, .int .i64 0] 27)).alloc (.cells #[.int .i64 1, .int .i64 0, .int .i64 0] 27) → LS w u W H A c 1 := by
    rintro _ rfl
    have e1 := Box.new w (W : Nat) (H : Nat) (.slice A (W * H) c)
    have e2 := Tri.new (w.alloc (.cells #[.int .i64 (W : Nat), .int .i64 (H : Nat), .slice A (W * H) c] 24)) 0 0 0
    have e3 := Tri.new ((w.alloc (.cells #[.int .i64 (W : Nat), .int .i64 (H : Nat), .slice A (W * H) c] 24)).alloc (.cells #[.int .i64 0, .int .i64 0, .int .i64 0] 27)) 1 0 0
    rw [World.size_alloc] at e2 e3
    rw [World.size_alloc] at e3
    exact ⟨(e1.alloc _).alloc _, (Below.heap_alloc _ _ _ e2.lt).trans e2, e3, (((Below.refl _ w).alloc (Nat.le_refl _) _).alloc (by simp) _).alloc (by simp; omega) _⟩
  clear hr
  go_enter Try.func77, Try.ntmps77
  go_wp2_with fail
  have h0 := hL _ rfl
  generalize World.alloc _ (Obj.cells #[Value.int IntKind.i64 1, Value.int IntKind.i64 0, Value.int IntKind.i64 0] 27) = u0 at h0 ⊢
  clear hL
  go_loopw [7] (fun _ wr => ∃ a : Nat, 1 ≤ a ∧ a ≤ W ∧ Hid (∀ a', 1 ≤ a' → a' < a → ¬ rep W H f a' 0) ∧ Hid (LS w wr W H A c a)) (fun _ wr => W - fst0 wr (w.heap.size + 2))
  case atStart => exact ⟨1, Nat.le_refl _, hW0, fun a' h1 h2 => absurd h2 (by omega), h0⟩
  case round =>
    obtain ⟨a, ha0, haW, hla, hLS⟩ := hrel
    clear h0
    obtain ⟨q0, q1, q2, q3, q4, q5⟩ := hLS.out.box.all
    obtain ⟨t0, t1, t2, t3, t4, t5⟩ := hLS.out.tri.all
    have H1 := HI.out wr a hLS.out a 0 (by omega) (by omega)
    rw [show ((0 : Nat) : Int) = 0 from rfl] at H1
    have hM := Lib.hid (fst0_tri hLS.out.tri)
    by_cases e : rep W H f a 0
    · have E0 := Lib.hid e
      rw [decide_eq_true e] at H1
      have H1 := Lib.hid H1
      clear e
      go_wp2_with (go_at_call 76; with_reducible refine H1.out.mono ?_; rintro e w3 ⟨rfl, h3⟩)
      have H3 := Lib.hid h3
      clear h3 q0 q1 q2 q3 q4 q5 t0 t1 t2 t3 t4 t5
      go_loopw [4] (fun i wr => ∃ d : Nat, 1 ≤ d ∧ d ≤ H ∧ i = .int .i64 d ∧ Hid (∀ d', 1 ≤ d' → d' < d → ∀ b, b < a → ¬ rep W H f b d') ∧ Hid (LS w wr W H A c a)) (fun i _ => H + 1 - (intOf i).toNat)
      case atStart => exact ⟨1, Nat.le_refl _, hH0, rfl, fun d' h1 h2 => absurd h2 (by omega), H3⟩
      case round =>
        obtain ⟨d, hd0, hdH, rfl, hlc, hLS⟩ := hrel
        go_wp2_with fail
        go_loopw [5] (fun i wr => ∃ b : Nat, b ≤ a ∧ i = .int .i64 b ∧ Hid (∀ b', b' < b → ¬ rep W H f b' d) ∧ Hid (LS w wr W H A c a)) (fun i _ => a + 1 - (intOf i).toNat)
        case atStart => exact ⟨0, Nat.zero_le _, rfl, fun b' h => absurd h (by omega), hLS⟩
        case round =>
          obtain ⟨b, hba, rfl, hlb, hLS⟩ := hrel
          obtain ⟨q0, q1, q2, q3, q4, q5⟩ := hLS.out.box.all
          obtain ⟨t0, t1, t2, t3, t4, t5⟩ := hLS.out.tri.all
          by_cases hlt : b < a
          · have H1 := HI.out wr a hLS.out b d (by omega) (by omega)
            by_cases e : rep W H f b d
            · have E := Lib.hid e
              rw [decide_eq_true e] at H1
              have H1 := Lib.hid H1
              clear e
              go_wp2_with (go_at_call 76; with_reducible refine H1.out.mono ?_; rintro e w3 ⟨rfl, h3⟩; obtain ⟨t0, t1, t2, t3, t4, t5⟩ := h3.tri.all; obtain ⟨r0, r1, r2, r3, r4, r5⟩ := h3.res.all)
              refine bodyPost_ret (v := .agg #[.int .i64 (a : Nat), .int .i64 (b : Nat), .int .i64 (d : Nat)]) (by simp [results, Try.results77, go_sem, r0, r1, r2]) rfl ⟨a, b, d, rfl, ⟨ha0, haW, E0.out, hla.out, hd0, hdH, hlt, E.out, hlb.out, hlc.out⟩, ?_⟩
              have hb : ∀ k, w.heap.size ≤ w.heap.size + k := fun k => Nat.le_add_right _ _
              exact ((((h3.bel.setCell (hb 2) _).setCell (hb 2) _).setCell (hb 1) _).setCell (hb 1) _).setCell (hb 1) _
            · have E := Lib.hid e
              rw [decide_eq_false e] at H1
              have H1 := Lib.hid H1
              clear e
              go_wp2_with (go_at_call 76; with_reducible refine H1.out.mono ?_; rintro e w3 ⟨rfl, h3⟩)
              refine ⟨⟨b + 1, by omega, by go_num, fun b' h => ?_, h3⟩, by simp [intOf]; omega⟩
              rcases Nat.lt_succ_iff_lt_or_eq.1 h with h | rfl
              · exact hlb.out b' h
              · exact E.out
          · have e : b = a := by omega
            subst e
            have hne : ¬ d = H := fun h => by subst h; exact hlb.out 0 ha0 (rep_foot _ _ _)
            go_wp2
            refine ⟨⟨d + 1, by omega, by omega, by go_num, fun d' h1 h2 => ?_, hLS⟩, by simp [intOf]; omega⟩
            rcases Nat.lt_succ_iff_lt_or_eq.1 h2 with h | rfl
            · exact hlc.out d' h1 h
            · exact hlb.out
    · have E := Lib.hid e
      have hne : ¬ a = W := fun h => by subst h; exact e (rep_side _ _ _)
      rw [decide_eq_false e] at H1
      have H1 := Lib.hid H1
      clear e
      go_wp2_with (go_at_call 76; with_reducible refine H1.out.mono ?_; rintro e w3 ⟨rfl, h3⟩; obtain ⟨t0, t1, t2, t3, t4, t5⟩ := h3.tri.all)
      refine ⟨⟨a + 1, by omega, by omega, fun a' h1 h2 => ?_, by have := h3.set (a + 1); rw [Int.natCast_add] at this; exact this⟩, ?_⟩
      · rcases Nat.lt_succ_iff_lt_or_eq.1 h2 with h | rfl
        · exact hla.out a' h1 h
        · exact E.out
      · have hf : fst0 (w3.setCell ⟨w.heap.size + 1 + 1, 0, none⟩ (.int .i64 ((a : Int) + 1))) (w.heap.size + 2) = a + 1 := fst0_tri (h3.set (a + 1)).tri
        rw [hM.out, hf]
        omega
end Go.Proofs.Ytjbofdgdcnfmoaa
