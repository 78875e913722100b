/- The program's threads: the function values isUp, and those of an end and of a pick. -/
import Derived.Test.YtnpgmgaajejhjaaSds
namespace Go.Proofs.Ytnpgmgaajejhjaa
open Go.RowKit Go.Shelf
set_option maxRecDepth 100000
set_option linter.unusedVariables false
set_option linter.unusedSimpArgs false

theorem up_bd {W H x y : Nat} (hx : x < W) (hy : y < H) : y * W + x < W * H := by
  have h := Nat.mul_le_mul_right W (show y + 1 ≤ H by omega)
  rw [Nat.add_mul, Nat.one_mul, Nat.mul_comm H W] at h
  omega
/-- What threads has captured: the grid's variable, the function value isUp. -/
structure TG (v : World) (gb kb W H b o c : Nat) (f : Nat → Bool) : Prop where
  g : Box v gb (W : Nat) (H : Nat) (.slice (some ⟨b, o, none⟩) (W * H) c)
  k : Boxed v kb 95 (.func (.func 99) #[] #[.pointer (some ⟨gb, 0, none⟩)])
  r : ∀ i, i < W * H → v.cell? ⟨b, o + i, none⟩ = some (.bool (f i))
  b0 : b < v.heap.size
  w0 : 1 ≤ W
  w1 : W ≤ 64
  h0 : 1 ≤ H
  h1 : H ≤ 64
theorem TG.next {v v' : World} {gb kb W H b o c : Nat} {f : Nat → Bool} (h : TG v gb kb W H b o c f) (hb : Below v.heap.size v v') : TG v' gb kb W H b o c f :=
  ⟨h.g.below hb h.g.lt, (hb.block kb h.k.lt).trans h.k, fun i hi => (hb.cell (p := ⟨b, o + i, none⟩) h.b0).trans (h.r i hi), Nat.lt_of_lt_of_le h.b0 hb.size, h.w0, h.w1, h.h0, h.h1⟩
theorem up_any {v : World} {gb kb W H b o c : Nat} {f : Nat → Bool} (h : TG v gb kb W H b o c f) (x y : Nat) (hx : x < W) (hy : y < H) :
    Calls Try.prog 99 #[.int .i64 (x : Nat), .int .i64 (y : Nat), .pointer (some ⟨gb, 0, none⟩)] v fun e w' => e = .returned (.bool (f (y * W + x))) ∧ w' = v := by
  have hi := up_bd hx hy
  have hWH : W * H ≤ 4096 := Nat.mul_le_mul h.w1 h.h1
  have hc := h.r _ hi
  have h1 := h.w1
  have h2 := h.h1
  have e1 : (y : Int) * (W : Int) = ((y * W : Nat) : Int) := by rw [Int.natCast_mul]
  have e2 : y * W ≤ 4096 := by have := Nat.mul_le_mul (show y ≤ 64 by omega) h1; omega
  have m1 : IntKind.i64.wrap ((y : Int) * (W : Int)) = ((y * W : Nat) : Int) := by rw [e1]; exact IntWalk.i64_in _ (by omega)
  have m2 : IntKind.i64.wrap (((y * W : Nat) : Int) + (x : Int)) = ((y * W + x : Nat) : Int) := by rw [← Int.natCast_add]; exact IntWalk.i64_in _ (by omega)
  have y1 : ((y * W + x : Nat) : Int) < ((W * H : Nat) : Int) := by omega
  have y2 : (0 : Int) ≤ ((y * W + x : Nat) : Int) := by omega
  have X := Lib.hid h.g
  have e3 : ((y * W : Nat) : Int) + (x : Int) = ((y * W + x : Nat) : Int) := by rw [Int.natCast_add]
  clear h
  obtain ⟨q0, q1, q2, q3, q4, q5, q6⟩ := X.out.all
  generalize y * W + x = p at *
  generalize y * W = r at *
  generalize W * H = n at *
  go_enter Try.func99, Try.ntmps99
  go_wp2
  go_ret
  exact ⟨rfl, rfl⟩
theorem end_says {v : World} {gb kb W H b o c : Nat} {f : Nat → Bool} (h : TG v gb kb W H b o c f) (xb x : Nat) (hx : x < W) (hxb : Boxed v xb 3 (.int .i64 (x : Nat))) :
    SaysN 102 (.pointer (some ⟨kb, 0, none⟩)) (.pointer (some ⟨xb, 0, none⟩)) v H (sd W H f true x) := by
  intro u y hu hy
  have h' := h.next hu
  have hk := h'.k.cell
  have hx' : Boxed u xb 3 (.int .i64 (x : Nat)) := (hu.block xb hxb.lt).trans hxb
  have hc := hx'.cell
  have HU := Lib.hid (up_any h' x y hx hy)
  have HS := Lib.hid (show sd W H f true x y = f (y * W + x) from rfl)
  generalize sd W H f true x y = t at *
  clear h h' hx'
  go_enter Try.func102, Try.ntmps102
  go_wp2_with fail
  refine HU.out.mono ?_
  rintro e w1 ⟨rfl, hww⟩
  subst w1
  go_wp2
  go_ret
  exact ⟨by rw [HS.out]; rfl, Below.refl _ _⟩
theorem pick_says {v : World} {gb kb W H b o c : Nat} {f : Nat → Bool} (h : TG v gb kb W H b o c f) (yb y : Nat) (hy : y < H) (hyb : Boxed v yb 3 (.int .i64 (y : Nat))) :
    SaysN 103 (.pointer (some ⟨kb, 0, none⟩)) (.pointer (some ⟨yb, 0, none⟩)) v W (sd W H f false y) := by
  intro u x hu hx
  have h' := h.next hu
  have hk := h'.k.cell
  have hx' : Boxed u yb 3 (.int .i64 (y : Nat)) := (hu.block yb hyb.lt).trans hyb
  have hc := hx'.cell
  have HU := Lib.hid (up_any h' x y hx hy)
  have HS := Lib.hid (show sd W H f false y x = !f (y * W + x) from rfl)
  generalize sd W H f false y x = t at *
  clear h h' hx'
  go_enter Try.func103, Try.ntmps103
  go_wp2_with fail
  refine HU.out.mono ?_
  rintro e w1 ⟨rfl, hww⟩
  subst w1
  go_wp2
  go_ret
  exact ⟨by rw [HS.out]; rfl, Below.refl _ _⟩
end Go.Proofs.Ytnpgmgaajejhjaa
