/- The reference of layer 8: Great, Cells, Face. -/
import Derived.Test.YtnpgmgaajejhjaaGb
namespace Go.Proofs.Ytnpgmgaajejhjaa
open Go.RowKit
set_option maxRecDepth 100000
set_option linter.unusedVariables false
set_option linter.unusedSimpArgs false

/-- The sides of a thread, as the reference sees them: is the cell i on the face? -/
def sd (W H : Nat) (f : Nat → Bool) (warp : Bool) (at_ i : Nat) : Bool := if warp = true then f (i * W + at_) else !f (at_ * W + i)
/-- How many cells a thread has. -/
def nc (W H : Nat) (warp : Bool) : Nat := if warp = true then H else W
theorem great8_any (W H : Int) (A : Option Addr) (n c : Nat) (w : World) (t : Bool) (ht : decide (600 < n) = t) : Calls Try.prog 24 #[.agg #[.int .i64 W, .int .i64 H, .slice A n c]] w fun e w' => e = .returned (.bool t) ∧ Below w.heap.size w w' := by
  have X0 := Lib.hid (Box.new w W H (.slice A n c))
  have LB0 := Lib.hid (show Below w.heap.size w (w.alloc (.cells #[.int .i64 W, .int .i64 H, .slice A n c] 24)) from (Below.refl _ _).alloc (Nat.le_refl _) _)
  have y1 : decide ((600 : Int) < (n : Int)) = t := by rw [← ht]; simp; omega
  clear ht
  go_enter Try.func24, Try.ntmps24
  obtain ⟨q0, q1, q2, q3, q4, q5, q6⟩ := X0.out.all
  go_wp2
  go_ret
  exact ⟨ret_bool (by rw [← y1]), LB0.out⟩
theorem cells_any (W H : Nat) (A : Option Addr) (n c : Nat) (warp : Bool) (w : World) : Calls Try.prog 33 #[.agg #[.int .i64 (W : Nat), .int .i64 (H : Nat), .slice A n c], .bool warp] w fun e w' => e = .returned (.int .i64 (nc W H warp : Nat)) ∧ Below w.heap.size w w' := by
  have X0 := Lib.hid (Box.new w (W : Nat) (H : Nat) (.slice A n c))
  have LB0 := Lib.hid (show Below w.heap.size w (w.alloc (.cells #[.int .i64 (W : Nat), .int .i64 (H : Nat), .slice A n c] 24)) from (Below.refl _ _).alloc (Nat.le_refl _) _)
  cases warp
  · go_enter Try.func33, Try.ntmps33
    obtain ⟨q0, q1, q2, q3, q4, q5, q6⟩ := X0.out.all
    go_wp2
    go_ret
    exact ⟨rfl, LB0.out⟩
  · go_enter Try.func33, Try.ntmps33
    obtain ⟨q0, q1, q2, q3, q4, q5, q6⟩ := X0.out.all
    go_wp2
    go_ret
    exact ⟨rfl, LB0.out⟩
set_option maxHeartbeats 1600000 in
theorem face_t_core (W H : Nat) (A : Option Addr) (c : Nat) (f : Nat → Bool) (at_ : Nat) (i q : Int) (w : World) (hr : Holds w w.heap.size A (W * H) f) (hW0 : 1 ≤ W) (hW : W ≤ 64) (hH0 : 1 ≤ H) (hH : H ≤ 64) (ha : at_ < W) (hi0 : -9223372036854775808 ≤ i) (hi1 : i ≤ 9223372036854775807) (hq : i % (H : Int) = q) :
    Calls Try.prog 34 #[.agg #[.int .i64 (W : Nat), .int .i64 (H : Nat), .slice A (W * H) c], .bool true, .int .i64 (at_ : Nat), .int .i64 i] w fun e w' => e = .returned (.bool (f (q * W + (at_ : Int)).toNat)) ∧ Below w.heap.size w w' := by
  have q0' := Int.emod_nonneg i (show (H : Int) ≠ 0 by omega)
  have q1' := Int.emod_lt_of_pos i (show 0 < (H : Int) by omega)
  have M1 := fun u => mod_any i H u (by omega) (by omega) hi0 hi1
  rw [hq] at q0' q1' M1
  have M1 := Lib.hid M1
  obtain ⟨b, rfl⟩ : ∃ b : Nat, q = b := ⟨q.toNat, by omega⟩
  have hi : ((b : Int) * (W : Int) + (at_ : Int)).toNat < W * H := by
    have e1 : (b + 1) * W ≤ H * W := Nat.mul_le_mul_right W (by omega)
    rw [Nat.add_mul, Nat.one_mul, Nat.mul_comm H W] at e1
    have e2 : ((b : Int) * (W : Int) + (at_ : Int)).toNat = b * W + at_ := by rw [← Int.natCast_mul, ← Int.natCast_add, Int.toNat_natCast]
    omega
  have hWH : W * H ≤ 4096 := Nat.mul_le_mul hW hH
  have HB := Box.new w (W : Nat) (H : Nat) (.slice A (W * H) c)
  have hB := (Below.refl w.heap.size w).alloc (Nat.le_refl _) (.cells #[.int .i64 (W : Nat), .int .i64 (H : Nat), .slice A (W * H) c] 24)
  have HA := Lib.hid (fun u (h : Below w.heap.size w u) => at_any W H A (W * H) c (at_ : Int) (b : Int) f w.heap.size u (hr.below h) h.size (by omega) (by omega) (by omega) (by omega) (by omega) (by omega) (by omega) hi)
  clear hr hq hi
  go_enter Try.func34, Try.ntmps34
  go_wp2_with fail
  generalize w.alloc (.cells #[.int .i64 (W : Nat), .int .i64 (H : Nat), .slice A (W * H) c] 24) = w0 at *
  have hlt := HB.lt
  have HK := Lib.hid (fun u (h : Below w0.heap.size w0 u) => (show u.cell? ⟨w.heap.size, 0, none⟩ = some (.int .i64 (W : Nat)) ∧ u.cell? ⟨w.heap.size, 1, none⟩ = some (.int .i64 (H : Nat)) ∧ u.cell? ⟨w.heap.size, 2, none⟩ = some (.slice A (W * H) c) from ⟨(HB.below h hlt).c0, (HB.below h hlt).c1, (HB.below h hlt).c2⟩))
  obtain ⟨a0, a1, a2, a3, a4, a5⟩ := HB.all
  have hB := Lib.hid hB
  go_region_held3 (fun w' => w'.cell? ⟨w.heap.size, 0, none⟩ = some (.int .i64 (W : Nat)) ∧ w'.cell? ⟨w.heap.size, 1, none⟩ = some (.int .i64 (H : Nat)) ∧ w'.cell? ⟨w.heap.size, 2, none⟩ = some (.slice A (W * H) c))
    (first
      | exact HK.out _ hb2'
      | exact HK.out _ (Below.refl _ _).drew)
    (first
      | (go_at_call 38; (with_reducible refine (M1.out _).mono ?_); rintro e w2 ⟨rfl, rfl⟩)
      | (go_at_call 70
         refine (HA.out _ hB.out.drew).mono ?_
         rintro e w2 ⟨rfl, hb2⟩
         have hb2' : Below w0.heap.size w0 w2 := (Below.refl _ _).drew.trans hb2))
  go_wp2
  go_ret
  exact ⟨rfl, hB.out.trans (hb2'.mono hB.out.size)⟩
set_option maxHeartbeats 1600000 in
theorem face_f_core (W H : Nat) (A : Option Addr) (c : Nat) (f : Nat → Bool) (at_ : Nat) (i q : Int) (w : World) (hr : Holds w w.heap.size A (W * H) f) (hW0 : 1 ≤ W) (hW : W ≤ 64) (hH0 : 1 ≤ H) (hH : H ≤ 64) (ha : at_ < H) (hi0 : -9223372036854775808 ≤ i) (hi1 : i ≤ 9223372036854775807) (hq : i % (W : Int) = q) :
    Calls Try.prog 34 #[.agg #[.int .i64 (W : Nat), .int .i64 (H : Nat), .slice A (W * H) c], .bool false, .int .i64 (at_ : Nat), .int .i64 i] w fun e w' => e = .returned (.bool (!f ((at_ : Int) * W + q).toNat)) ∧ Below w.heap.size w w' := by
  have q0' := Int.emod_nonneg i (show (W : Int) ≠ 0 by omega)
  have q1' := Int.emod_lt_of_pos i (show 0 < (W : Int) by omega)
  have M1 := fun u => mod_any i W u (by omega) (by omega) hi0 hi1
  rw [hq] at q0' q1' M1
  have M1 := Lib.hid M1
  obtain ⟨b, rfl⟩ : ∃ b : Nat, q = b := ⟨q.toNat, by omega⟩
  have hi : ((at_ : Int) * (W : Int) + (b : Int)).toNat < W * H := by
    have e1 : (at_ + 1) * W ≤ H * W := Nat.mul_le_mul_right W (by omega)
    rw [Nat.add_mul, Nat.one_mul, Nat.mul_comm H W] at e1
    have e2 : ((at_ : Int) * (W : Int) + (b : Int)).toNat = at_ * W + b := by rw [← Int.natCast_mul, ← Int.natCast_add, Int.toNat_natCast]
    omega
  have hWH : W * H ≤ 4096 := Nat.mul_le_mul hW hH
  have HB := Box.new w (W : Nat) (H : Nat) (.slice A (W * H) c)
  have hB := (Below.refl w.heap.size w).alloc (Nat.le_refl _) (.cells #[.int .i64 (W : Nat), .int .i64 (H : Nat), .slice A (W * H) c] 24)
  have HA := Lib.hid (fun u (h : Below w.heap.size w u) => at_any W H A (W * H) c (b : Int) (at_ : Int) f w.heap.size u (hr.below h) h.size (by omega) (by omega) (by omega) (by omega) (by omega) (by omega) (by omega) hi)
  clear hr hq hi
  go_enter Try.func34, Try.ntmps34
  go_wp2_with fail
  generalize w.alloc (.cells #[.int .i64 (W : Nat), .int .i64 (H : Nat), .slice A (W * H) c] 24) = w0 at *
  have hlt := HB.lt
  have HK := Lib.hid (fun u (h : Below w0.heap.size w0 u) => (show u.cell? ⟨w.heap.size, 0, none⟩ = some (.int .i64 (W : Nat)) ∧ u.cell? ⟨w.heap.size, 1, none⟩ = some (.int .i64 (H : Nat)) ∧ u.cell? ⟨w.heap.size, 2, none⟩ = some (.slice A (W * H) c) from ⟨(HB.below h hlt).c0, (HB.below h hlt).c1, (HB.below h hlt).c2⟩))
  obtain ⟨a0, a1, a2, a3, a4, a5⟩ := HB.all
  have hB := Lib.hid hB
  go_region_held3 (fun w' => w'.cell? ⟨w.heap.size, 0, none⟩ = some (.int .i64 (W : Nat)) ∧ w'.cell? ⟨w.heap.size, 1, none⟩ = some (.int .i64 (H : Nat)) ∧ w'.cell? ⟨w.heap.size, 2, none⟩ = some (.slice A (W * H) c))
    (first
      | exact HK.out _ hb2'
      | exact HK.out _ (Below.refl _ _).drew)
    (first
      | (go_at_call 38; (with_reducible refine (M1.out _).mono ?_); rintro e w2 ⟨rfl, rfl⟩)
      | (go_at_call 70
         refine (HA.out _ hB.out.drew).mono ?_
         rintro e w2 ⟨rfl, hb2⟩
         have hb2' : Below w0.heap.size w0 w2 := (Below.refl _ _).drew.trans hb2))
  go_wp2
  go_ret
  exact ⟨rfl, hB.out.trans (hb2'.mono hB.out.size)⟩
/-- Face at any place. -/
theorem face_any (W H : Nat) (A : Option Addr) (c : Nat) (f : Nat → Bool) (warp : Bool) (at_ : Nat) (i : Int) (w : World) (hr : Holds w w.heap.size A (W * H) f) (hW0 : 1 ≤ W) (hW : W ≤ 64) (hH0 : 1 ≤ H) (hH : H ≤ 64) (ha : at_ < nc W H !warp) (hi0 : -9223372036854775808 ≤ i) (hi1 : i ≤ 9223372036854775807) :
    Calls Try.prog 34 #[.agg #[.int .i64 (W : Nat), .int .i64 (H : Nat), .slice A (W * H) c], .bool warp, .int .i64 (at_ : Nat), .int .i64 i] w fun e w' => e = .returned (.bool (sd W H f warp at_ (i % (nc W H warp : Int)).toNat)) ∧ Below w.heap.size w w' := by
  cases warp
  · have h := face_f_core W H A c f at_ i _ w hr hW0 hW hH0 hH ha hi0 hi1 rfl
    obtain ⟨b, hb⟩ : ∃ b : Nat, i % (W : Int) = b := ⟨(i % (W : Int)).toNat, by have := Int.emod_nonneg i (show (W : Int) ≠ 0 by omega); omega⟩
    rw [hb] at h
    show Calls _ _ _ _ fun e w' => e = .returned (.bool (!f (at_ * W + (i % (W : Int)).toNat))) ∧ _
    rw [hb, Int.toNat_natCast]
    rwa [show ((at_ : Int) * (W : Int) + (b : Int)).toNat = at_ * W + b by rw [← Int.natCast_mul, ← Int.natCast_add, Int.toNat_natCast]] at h
  · have h := face_t_core W H A c f at_ i _ w hr hW0 hW hH0 hH ha hi0 hi1 rfl
    obtain ⟨b, hb⟩ : ∃ b : Nat, i % (H : Int) = b := ⟨(i % (H : Int)).toNat, by have := Int.emod_nonneg i (show (H : Int) ≠ 0 by omega); omega⟩
    rw [hb] at h
    show Calls _ _ _ _ fun e w' => e = .returned (.bool (f ((i % (H : Int)).toNat * W + at_))) ∧ _
    rw [hb, Int.toNat_natCast]
    rwa [show ((b : Int) * (W : Int) + (at_ : Int)).toNat = b * W + at_ by rw [← Int.natCast_mul, ← Int.natCast_add, Int.toNat_natCast]] at h
end Go.Proofs.Ytnpgmgaajejhjaa
