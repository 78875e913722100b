/- The reference's test of a step. -/
import Derived.Test.YtjbofdgdcnfmoaaRat
namespace Go.Proofs.Ytjbofdgdcnfmoaa
open Go.RowKit
set_option maxRecDepth 100000
set_option linter.unusedVariables false
set_option linter.unusedSimpArgs false

/-- The grid repeats by the step (a, b). -/
def rep (W H : Nat) (f : Nat → Bool) (a b : Nat) : Prop := ∀ x, x < W → ∀ y, y < H → pc W H f x y = pc W H f (x + a) (y + b)
instance (W H : Nat) (f : Nat → Bool) (a b : Nat) : Decidable (rep W H f a b) := by unfold rep; infer_instance
set_option maxHeartbeats 1600000 in
theorem ris6_core (W H : Nat) (A : Option Addr) (c : Nat) (f : Nat → Bool) (dx dy : Int) (a b : Nat) (w : World) (hr : Holds w w.heap.size A (W * H) f) (hW0 : 1 ≤ W) (hW : W ≤ 64) (hH0 : 1 ≤ H) (hH : H ≤ 64)
    (hx0 : -9223372036854775808 ≤ dx) (hx1 : dx ≤ 9223372036854775807) (hy0 : -9223372036854775808 ≤ dy) (hy1 : dy ≤ 9223372036854775807) (ha : dx % (W : Int) = (a : Int)) (hb : dy % (H : Int) = (b : Int)) :
    Calls Try.prog 76 #[.agg #[.int .i64 (W : Nat), .int .i64 (H : Nat), .slice A (W * H) c], .int .i64 dx, .int .i64 dy] w fun e w' => e = .returned (.bool (decide (rep W H f a b))) ∧ Below w.heap.size w w' := by
  have a1 := Int.emod_lt_of_pos dx (show 0 < (W : Int) by omega)
  have b1 := Int.emod_lt_of_pos dy (show 0 < (H : Int) by omega)
  have M1 := fun u => mod_any dx W u (by omega) (by omega) hx0 hx1
  have M2 := fun u => mod_any dy H u (by omega) (by omega) hy0 hy1
  rw [ha] at a1 M1
  rw [hb] at b1 M2
  have M1 := Lib.hid M1
  have M2 := Lib.hid M2
  have HR := Lib.hid hr
  clear hr ha hb
  have HB := Box.new w (W : Nat) (H : Nat) (.slice A (W * H) c)
  have hB := (Below.refl w.heap.size w).alloc (Nat.le_refl _) (.cells #[.int .i64 (W : Nat), .int .i64 (H : Nat), .slice A (W * H) c] 24)
  go_enter Try.func76, Try.ntmps76
  go_wp2_with fail
  generalize w.alloc (.cells #[.int .i64 (W : Nat), .int .i64 (H : Nat), .slice A (W * H) c] 24) = w0 at *
  obtain ⟨q0, q1, q2, q3, q4, q5⟩ := HB.all
  go_quiet ((first | (go_at_call_of 78 (Value.int IntKind.i64 dx); with_reducible exact Calls.quiet_of_same (M1.out _)) | (go_at_call_of 78 (Value.int IntKind.i64 dy); with_reducible exact Calls.quiet_of_same (M2.out _))))
  generalize hw1 : World.drewN w0 _ = w1
  have HB1 : Box w1 w.heap.size (W : Nat) (H : Nat) (.slice A (W * H) c) := by rw [← hw1]; exact HB
  have hB1 : Below w.heap.size w w1 := by rw [← hw1]; exact Go.Proofs.below_drewN' hB _
  clear hw1 HB hB q0 q1 q2 q3 q4 q5
  go_wp2
  go_loopw [7] (fun i wr => ∃ x : Nat, x ≤ W ∧ i = .int .i64 x ∧ Hid (∀ x', x' < x → ∀ y, y < H → pc W H f x' y = pc W H f (x' + a) (y + b)) ∧ Hid (Box wr w.heap.size (W : Nat) (H : Nat) (.slice A (W * H) c)) ∧ Hid (Below w.heap.size w wr)) (fun i _ => W - (intOf i).toNat)
  case atStart => exact ⟨0, Nat.zero_le _, rfl, fun x hx => absurd hx (by omega), HB1, hB1⟩
  case round =>
    obtain ⟨x, hx, rfl, hall, HB, hB⟩ := hrel
    obtain ⟨q0, q1, q2, q3, q4, q5⟩ := HB.out.all
    by_cases hlx : x < W
    · go_wp2
      clear q0 q1 q2 q3 q4 q5
      go_loopw [8] (fun i wr => ∃ y : Nat, y ≤ H ∧ i = .int .i64 y ∧ Hid (∀ y', y' < y → pc W H f x y' = pc W H f (x + a) (y' + b)) ∧ Hid (Box wr w.heap.size (W : Nat) (H : Nat) (.slice A (W * H) c)) ∧ Hid (Below w.heap.size w wr)) (fun i _ => H - (intOf i).toNat)
      case atStart => exact ⟨0, Nat.zero_le _, rfl, fun y hy => absurd hy (by omega), HB, hB⟩
      case round =>
        obtain ⟨y, hy, rfl, hal2, HB, hB⟩ := hrel
        obtain ⟨q0, q1, q2, q3, q4, q5⟩ := HB.out.all
        by_cases hly : y < H
        · have HK := Lib.hid (fun u (h : Below wr.heap.size wr u) => (show u.cell? ⟨w.heap.size, 0, none⟩ = some (.int .i64 (W : Nat)) ∧ u.cell? ⟨w.heap.size, 1, none⟩ = some (.int .i64 (H : Nat)) ∧ u.cell? ⟨w.heap.size, 2, none⟩ = some (.slice A (W * H) c) from ⟨(HB.out.below h HB.out.lt).c0, (HB.out.below h HB.out.lt).c1, (HB.out.below h HB.out.lt).c2⟩))
          have hH2 := fun u (h : Below wr.heap.size wr u) => (HR.out.below (hB.out.trans (h.mono hB.out.size))).more (Nat.le_trans hB.out.size h.size)
          have P1 := fun u (h : Below wr.heap.size wr u) => at6_nat W H A c f x y u (hH2 u h) hW0 hW hH0 hH (by omega) (by omega)
          have P2 := fun u (h : Below wr.heap.size wr u) => at6_nat W H A c f (x + a) (y + b) u (hH2 u h) hW0 hW hH0 hH (by omega) (by omega)
          have e0 : IntKind.i64.wrap ((x : Int) + (a : Int)) = (x : Int) + (a : Int) := IntWalk.i64_in _ (by omega)
          have e1 : IntKind.i64.wrap ((y : Int) + (b : Int)) = (y : Int) + (b : Int) := IntWalk.i64_in _ (by omega)
          rw [Int.natCast_add, Int.natCast_add] at P2
          obtain ⟨u, hu⟩ : ∃ u, pc W H f x y = u := ⟨_, rfl⟩
          obtain ⟨v, hv⟩ : ∃ v, pc W H f (x + a) (y + b) = v := ⟨_, rfl⟩
          rw [hu] at P1
          rw [hv] at P2
          have P1 := Lib.hid P1
          have P2 := Lib.hid P2
          have HU := Lib.hid hu
          have HV := Lib.hid hv
          clear hu hv hH2
          by_cases e : u = v
          · have E : pc W H f x y = pc W H f (x + a) (y + b) := by rw [HU.out, HV.out, e]
            have E := Lib.hid E
            subst e
            clear HU HV
            cases u
            all_goals
              go_wp2
              go_region_held3 (fun w' => w'.cell? ⟨w.heap.size, 0, none⟩ = some (.int .i64 (W : Nat)) ∧ w'.cell? ⟨w.heap.size, 1, none⟩ = some (.int .i64 (H : Nat)) ∧ w'.cell? ⟨w.heap.size, 2, none⟩ = some (.slice A (W * H) c))
              (first
                | exact HK.out _ hb2'
                | exact HK.out _ hb1'
                | exact HK.out _ (Below.refl _ _).drew)
              (first
                | (go_at_call 81
                   with_reducible refine (P1.out _ (Below.refl _ _).drew).mono ?_
                   rintro e w2 ⟨rfl, hb1⟩
                   have hb1' : Below wr.heap.size wr w2 := (Below.refl _ _).drew.trans hb1)
                | (go_at_call 81
                   with_reducible refine (P2.out _ hb1').mono ?_
                   rintro e w3 ⟨rfl, hb2⟩
                   have hb2' : Below wr.heap.size wr w3 := hb1'.trans (hb2.mono hb1'.size)))
              clear e0 e1
              go_wp2
              refine ⟨⟨y + 1, by omega, by go_num, fun y' hy' => ?_, HB.out.below hb2' HB.out.lt, hB.out.trans (hb2'.mono hB.out.size)⟩, by simp [intOf]; omega⟩
              rcases Nat.lt_succ_iff_lt_or_eq.1 hy' with h | rfl
              · exact hal2.out y' h
              · exact E.out
          · have E : ¬ pc W H f x y = pc W H f (x + a) (y + b) := by rw [HU.out, HV.out]; exact e
            have E := Lib.hid E
            clear HU HV
            cases u <;> cases v <;> first | exact absurd rfl e | skip
            all_goals
              clear e
              go_wp2
              go_region_held3 (fun w' => w'.cell? ⟨w.heap.size, 0, none⟩ = some (.int .i64 (W : Nat)) ∧ w'.cell? ⟨w.heap.size, 1, none⟩ = some (.int .i64 (H : Nat)) ∧ w'.cell? ⟨w.heap.size, 2, none⟩ = some (.slice A (W * H) c))
              (first
                | exact HK.out _ hb2'
                | exact HK.out _ hb1'
                | exact HK.out _ (Below.refl _ _).drew)
              (first
                | (go_at_call 81
                   with_reducible refine (P1.out _ (Below.refl _ _).drew).mono ?_
                   rintro e w2 ⟨rfl, hb1⟩
                   have hb1' : Below wr.heap.size wr w2 := (Below.refl _ _).drew.trans hb1)
                | (go_at_call 81
                   with_reducible refine (P2.out _ hb1').mono ?_
                   rintro e w3 ⟨rfl, hb2⟩
                   have hb2' : Below wr.heap.size wr w3 := hb1'.trans (hb2.mono hb1'.size)))
              clear e0 e1
              go_wp2
              go_ret
              exact ⟨ret_bool (by symm; rw [decide_eq_false_iff_not]; exact fun h => E.out (h x hlx y hly)), hB.out.trans (hb2'.mono hB.out.size)⟩
        · have e : y = H := by omega
          subst e
          go_wp2
          refine ⟨⟨x + 1, by omega, by go_num, fun x' hx' => ?_, HB, hB⟩, by simp [intOf]; omega⟩
          rcases Nat.lt_succ_iff_lt_or_eq.1 hx' with h | rfl
          · exact hall.out x' h
          · exact hal2.out
    · have e : x = W := by omega
      subst e
      go_wp2
      go_ret
      exact ⟨ret_bool (by symm; rw [decide_eq_true_iff]; exact hall.out), hB.out⟩
end Go.Proofs.Ytjbofdgdcnfmoaa
