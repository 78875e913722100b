/- A plane's cell by the reference; the reference's test of a step. -/
import Derived.Test.YtjbofdgdcnfmoaaLin
import Derived.Test.YtjbofdgdcnfmoaaRshift
import Derived.Test.YtjbofdgdcnfmoaaPlc
namespace Go.Proofs.Ytjbofdgdcnfmoaa
open Go.RowKit
set_option maxRecDepth 100000
set_option linter.unusedVariables false
set_option linter.unusedSimpArgs false

set_option maxHeartbeats 800000 in
theorem at6_core (W H : Nat) (A : Option Addr) (c : Nat) (f : Nat → Bool) (x y p q : Int) (w : World) (hr : Holds w w.heap.size A (W * H) f) (hW0 : 1 ≤ W) (hW : W ≤ 64) (hH0 : 1 ≤ H) (hH : H ≤ 64)
    (hx0 : -9223372036854775808 ≤ x) (hx1 : x ≤ 9223372036854775807) (hy0 : -9223372036854775808 ≤ y) (hy1 : y ≤ 9223372036854775807) (hp : x % (W : Int) = p) (hq : y % (H : Int) = q) :
    Calls Try.prog 81 #[.agg #[.int .i64 (W : Nat), .int .i64 (H : Nat), .slice A (W * H) c], .int .i64 x, .int .i64 y] w fun e w' => e = .returned (.bool (f (q * W + p).toNat)) ∧ Below w.heap.size w w' := by
  have p0 := Int.emod_nonneg x (show (W : Int) ≠ 0 by omega)
  have p1 := Int.emod_lt_of_pos x (show 0 < (W : Int) by omega)
  have q0' := Int.emod_nonneg y (show (H : Int) ≠ 0 by omega)
  have q1' := Int.emod_lt_of_pos y (show 0 < (H : Int) by omega)
  have M1 := fun u => mod_any x W u (by omega) (by omega) hx0 hx1
  have M2 := fun u => mod_any y H u (by omega) (by omega) hy0 hy1
  rw [hp] at p0 p1 M1
  rw [hq] at q0' q1' M2
  have M1 := Lib.hid M1
  have M2 := Lib.hid M2
  have hi : (q * W + p).toNat < W * H := by
    obtain ⟨a, rfl⟩ : ∃ a : Nat, q = a := ⟨q.toNat, by omega⟩
    obtain ⟨b, rfl⟩ : ∃ b : Nat, p = b := ⟨p.toNat, by omega⟩
    have e1 : (a + 1) * W ≤ H * W := Nat.mul_le_mul_right W (by omega)
    rw [Nat.add_mul, Nat.one_mul, Nat.mul_comm H W] at e1
    have e2 : ((a : Int) * (W : Int) + (b : Int)).toNat = a * W + b := by
      rw [← Int.natCast_mul, ← Int.natCast_add, Int.toNat_natCast]
    omega
  have hWH : W * H ≤ 4096 := Nat.mul_le_mul hW hH
  have HB := Box.new w (W : Nat) (H : Nat) (.slice A (W * H) c)
  have hB := (Below.refl w.heap.size w).alloc (Nat.le_refl _) (.cells #[.int .i64 (W : Nat), .int .i64 (H : Nat), .slice A (W * H) c] 24)
  have HA := Lib.hid (fun u (h : Below w.heap.size w u) => at_any W H A (W * H) c p q f w.heap.size u (hr.below h) h.size (by omega) (by omega) (by omega) p0 (by omega) q0' (by omega) hi)
  clear hr hp hq
  go_enter Try.func81, Try.ntmps81
  go_wp2_with fail
  generalize w.alloc (.cells #[.int .i64 (W : Nat), .int .i64 (H : Nat), .slice A (W * H) c] 24) = w0 at *
  have hlt := HB.lt
  have HK := Lib.hid (fun u (h : Below w0.heap.size w0 u) => (show u.cell? ⟨w.heap.size, 0, none⟩ = some (.int .i64 (W : Nat)) ∧ u.cell? ⟨w.heap.size, 1, none⟩ = some (.int .i64 (H : Nat)) ∧ u.cell? ⟨w.heap.size, 2, none⟩ = some (.slice A (W * H) c) from ⟨(HB.below h hlt).c0, (HB.below h hlt).c1, (HB.below h hlt).c2⟩))
  obtain ⟨a0, a1, a2, a3, a4, a5⟩ := HB.all
  have hB := Lib.hid hB
  go_region_held3 (fun w' => w'.cell? ⟨w.heap.size, 0, none⟩ = some (.int .i64 (W : Nat)) ∧ w'.cell? ⟨w.heap.size, 1, none⟩ = some (.int .i64 (H : Nat)) ∧ w'.cell? ⟨w.heap.size, 2, none⟩ = some (.slice A (W * H) c))
    (first
      | exact HK.out _ hb2'
      | exact HK.out _ (Below.refl _ _).drew)
    (first
      | (go_at_call_of 78 (Value.int IntKind.i64 x); (with_reducible refine (M1.out _).mono ?_); rintro e w2 ⟨rfl, rfl⟩)
      | (go_at_call_of 78 (Value.int IntKind.i64 y); (with_reducible refine (M2.out _).mono ?_); rintro e w2 ⟨rfl, rfl⟩)
      | (go_at_call 116
         refine (HA.out _ hB.out.drew).mono ?_
         rintro e w2 ⟨rfl, hb2⟩
         have hb2' : Below w0.heap.size w0 w2 := (Below.refl _ _).drew.trans hb2))
  go_wp2
  go_ret
  exact ⟨rfl, hB.out.trans (hb2'.mono hB.out.size)⟩
theorem at6_any (W H : Nat) (A : Option Addr) (c : Nat) (f : Nat → Bool) (x y : Int) (w : World) (hr : Holds w w.heap.size A (W * H) f) (hW0 : 1 ≤ W) (hW : W ≤ 64) (hH0 : 1 ≤ H) (hH : H ≤ 64)
    (hx0 : -9223372036854775808 ≤ x) (hx1 : x ≤ 9223372036854775807) (hy0 : -9223372036854775808 ≤ y) (hy1 : y ≤ 9223372036854775807) :
    Calls Try.prog 81 #[.agg #[.int .i64 (W : Nat), .int .i64 (H : Nat), .slice A (W * H) c], .int .i64 x, .int .i64 y] w fun e w' => e = .returned (.bool (f ((y % (H : Int)) * W + x % (W : Int)).toNat)) ∧ Below w.heap.size w w' :=
  at6_core W H A c f x y _ _ w hr hW0 hW hH0 hH hx0 hx1 hy0 hy1 rfl rfl
/-- .. at a place that is not negative. -/
theorem at6_nat (W H : Nat) (A : Option Addr) (c : Nat) (f : Nat → Bool) (x y : Nat) (w : World) (hr : Holds w w.heap.size A (W * H) f) (hW0 : 1 ≤ W) (hW : W ≤ 64) (hH0 : 1 ≤ H) (hH : H ≤ 64) (hx : x ≤ 1000) (hy : y ≤ 1000) :
    Calls Try.prog 81 #[.agg #[.int .i64 (W : Nat), .int .i64 (H : Nat), .slice A (W * H) c], .int .i64 (x : Nat), .int .i64 (y : Nat)] w fun e w' => e = .returned (.bool (pc W H f x y)) ∧ Below w.heap.size w w' := by
  have h := at6_any W H A c f x y w hr hW0 hW hH0 hH (by omega) (by omega) (by omega) (by omega)
  have e : (((y : Int) % (H : Int)) * W + (x : Int) % (W : Int)).toNat = y % H * W + x % W := by
    rw [← Int.natCast_emod, ← Int.natCast_emod, ← Int.natCast_mul, ← Int.natCast_add, Int.toNat_natCast]
  rw [e] at h
  exact h
end Go.Proofs.Ytjbofdgdcnfmoaa
