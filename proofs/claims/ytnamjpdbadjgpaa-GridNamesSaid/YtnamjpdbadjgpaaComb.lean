/- The function value that 'combine' hands to 'build', for 'and' and for 'or'. -/
import Derived.Test.YtnamjpdbadjgpaaClo
namespace Go.Proofs.Ytnamjpdbadjgpaa
open Go.RowKit
set_option linter.unusedVariables false
set_option linter.unusedSimpArgs false

set_option maxHeartbeats 400000 in
theorem and_clo (p q : Bool) (w : World) : Calls Try.prog 53 #[.bool p, .bool q] w fun e w' => e = .returned (.bool (p && q)) ∧ w' = w := by
  cases p <;> cases q <;> (go_enter Try.func53, Try.ntmps53; go_wp2; go_ret; exact ⟨rfl, rfl⟩)
set_option maxHeartbeats 400000 in
theorem or_clo (p q : Bool) (w : World) : Calls Try.prog 54 #[.bool p, .bool q] w fun e w' => e = .returned (.bool (p || q)) ∧ w' = w := by
  cases p <;> cases q <;> (go_enter Try.func54, Try.ntmps54; go_wp2; go_ret; exact ⟨rfl, rfl⟩)

/-- A captured function value in a variable of its own. -/
def FnAt (w : World) (g k : Nat) : Prop := w.cell? ⟨g, 0, none⟩ = some (.func (.func k) #[] #[]) ∧ g < w.heap.size
theorem FnAt.below {w w' : World} {g k : Nat} (h : FnAt w g k) (hb : Below w.heap.size w w') : FnAt w' g k :=
  ⟨(hb.cell (p := ⟨g, 0, none⟩) h.2).trans h.1, Nat.lt_of_lt_of_le h.2 hb.size⟩

/-- What the region of 'combine''s function value reads. -/
theorem comb_keep {w w' : World} {ga gb go k W H c d : Nat} {A D : Option Addr} {f g : Nat → Bool} (ha : Grid w ga W H A c f) (hb : Grid w gb W H D d g) (ho : FnAt w go k) (h : Below w.heap.size w w') :
    w'.cell? ⟨go, 0, none⟩ = some (.func (.func k) #[] #[]) ∧ w'.cell? ⟨ga, 0, none⟩ = some (.int .i64 W) ∧ w'.cell? ⟨ga, 1, none⟩ = some (.int .i64 H) ∧ w'.cell? ⟨ga, 2, none⟩ = some (.slice A (W * H) c) ∧
    w'.cell? ⟨gb, 0, none⟩ = some (.int .i64 W) ∧ w'.cell? ⟨gb, 1, none⟩ = some (.int .i64 H) ∧ w'.cell? ⟨gb, 2, none⟩ = some (.slice D (W * H) d) :=
  ⟨(ho.below h).1, (ha.below h).box.c0, (ha.below h).box.c1, (ha.below h).box.c2, (hb.below h).box.c0, (hb.below h).box.c1, (hb.below h).box.c2⟩


set_option maxHeartbeats 800000 in
theorem comb_and {w : World} {ga gb go W H c d : Nat} {A D : Option Addr} {f g : Nat → Bool} (ha : Grid w ga W H A c f) (hb : Grid w gb W H D d g) (ho : FnAt w go 53) :
    Gives 71 #[.pointer (some ⟨go, 0, none⟩), .pointer (some ⟨ga, 0, none⟩), .pointer (some ⟨gb, 0, none⟩)] w W H (fun x y => (f (y * W + x) && g (y * W + x))) := by
  intro w1 x y hb1 hx hy
  have ha1 := ha.below hb1
  have hb1' := hb.below hb1
  have ho1 := ho.below hb1
  have HA := Lib.hid (fun w' (h : Below w1.heap.size w1 w') => (cell_nat W H A c x y f w' (ha1.below h).cells ha.w1 ha.h1 x y rfl rfl hx hy).mono fun e w2 hh => (⟨hh.1, h.trans (hh.2.mono h.size)⟩ : e = _ ∧ Below w1.heap.size w1 w2))
  have HB := Lib.hid (fun w' (h : Below w1.heap.size w1 w') => (cell_nat W H D d x y g w' (hb1'.below h).cells ha.w1 ha.h1 x y rfl rfl hx hy).mono fun e w2 hh => (⟨hh.1, h.trans (hh.2.mono h.size)⟩ : e = _ ∧ Below w1.heap.size w1 w2))
  have HK := Lib.hid (fun w' (h : Below w1.heap.size w1 w') => comb_keep ha1 hb1' ho1 h)
  have h0 := comb_keep ha1 hb1' ho1 (Below.refl _ _)
  clear ha hb ho hb1 ha1 hb1' ho1
  obtain ⟨h1, h2, h3, h4, h5, h6, h7⟩ := h0
  go_enter Try.func71, Try.ntmps71
  go_wp2
  go_region_held3 (fun w' => w'.cell? ⟨go, 0, none⟩ = some (.func (.func 53) #[] #[]) ∧ w'.cell? ⟨ga, 0, none⟩ = some (.int .i64 W) ∧ w'.cell? ⟨ga, 1, none⟩ = some (.int .i64 H) ∧ w'.cell? ⟨ga, 2, none⟩ = some (.slice A (W * H) c) ∧
    w'.cell? ⟨gb, 0, none⟩ = some (.int .i64 W) ∧ w'.cell? ⟨gb, 1, none⟩ = some (.int .i64 H) ∧ w'.cell? ⟨gb, 2, none⟩ = some (.slice D (W * H) d))
    (exact HK.out _ (by first | assumption | exact (Below.refl _ _).drew))
    (first
      | (go_at_call_of 46 (Value.slice A (W * H) c); refine (HA.out _ ?_).mono ?_; (first | assumption | exact (Below.refl _ _).drew); rintro e w2 ⟨rfl, hb2⟩)
      | (go_at_call_of 46 (Value.slice D (W * H) d); refine (HB.out _ ?_).mono ?_; (first | assumption | exact (Below.refl _ _).drew); rintro e w2 ⟨rfl, hb2⟩)
      | (go_at_call 53; refine (and_clo _ _ _).mono ?_; rintro e w2 ⟨rfl, rfl⟩))
  all_goals go_wp2
  all_goals go_ret
  all_goals exact ⟨rfl, by assumption⟩

set_option maxHeartbeats 800000 in
theorem comb_or {w : World} {ga gb go W H c d : Nat} {A D : Option Addr} {f g : Nat → Bool} (ha : Grid w ga W H A c f) (hb : Grid w gb W H D d g) (ho : FnAt w go 54) :
    Gives 71 #[.pointer (some ⟨go, 0, none⟩), .pointer (some ⟨ga, 0, none⟩), .pointer (some ⟨gb, 0, none⟩)] w W H (fun x y => (f (y * W + x) || g (y * W + x))) := by
  intro w1 x y hb1 hx hy
  have ha1 := ha.below hb1
  have hb1' := hb.below hb1
  have ho1 := ho.below hb1
  have HA := Lib.hid (fun w' (h : Below w1.heap.size w1 w') => (cell_nat W H A c x y f w' (ha1.below h).cells ha.w1 ha.h1 x y rfl rfl hx hy).mono fun e w2 hh => (⟨hh.1, h.trans (hh.2.mono h.size)⟩ : e = _ ∧ Below w1.heap.size w1 w2))
  have HB := Lib.hid (fun w' (h : Below w1.heap.size w1 w') => (cell_nat W H D d x y g w' (hb1'.below h).cells ha.w1 ha.h1 x y rfl rfl hx hy).mono fun e w2 hh => (⟨hh.1, h.trans (hh.2.mono h.size)⟩ : e = _ ∧ Below w1.heap.size w1 w2))
  have HK := Lib.hid (fun w' (h : Below w1.heap.size w1 w') => comb_keep ha1 hb1' ho1 h)
  have h0 := comb_keep ha1 hb1' ho1 (Below.refl _ _)
  clear ha hb ho hb1 ha1 hb1' ho1
  obtain ⟨h1, h2, h3, h4, h5, h6, h7⟩ := h0
  go_enter Try.func71, Try.ntmps71
  go_wp2
  go_region_held3 (fun w' => w'.cell? ⟨go, 0, none⟩ = some (.func (.func 54) #[] #[]) ∧ w'.cell? ⟨ga, 0, none⟩ = some (.int .i64 W) ∧ w'.cell? ⟨ga, 1, none⟩ = some (.int .i64 H) ∧ w'.cell? ⟨ga, 2, none⟩ = some (.slice A (W * H) c) ∧
    w'.cell? ⟨gb, 0, none⟩ = some (.int .i64 W) ∧ w'.cell? ⟨gb, 1, none⟩ = some (.int .i64 H) ∧ w'.cell? ⟨gb, 2, none⟩ = some (.slice D (W * H) d))
    (exact HK.out _ (by first | assumption | exact (Below.refl _ _).drew))
    (first
      | (go_at_call_of 46 (Value.slice A (W * H) c); refine (HA.out _ ?_).mono ?_; (first | assumption | exact (Below.refl _ _).drew); rintro e w2 ⟨rfl, hb2⟩)
      | (go_at_call_of 46 (Value.slice D (W * H) d); refine (HB.out _ ?_).mono ?_; (first | assumption | exact (Below.refl _ _).drew); rintro e w2 ⟨rfl, hb2⟩)
      | (go_at_call 54; refine (or_clo _ _ _).mono ?_; rintro e w2 ⟨rfl, rfl⟩))
  all_goals go_wp2
  all_goals go_ret
  all_goals exact ⟨rfl, by assumption⟩
end Go.Proofs.Ytnamjpdbadjgpaa
