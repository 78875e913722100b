/- The function values of a view: Front, Back, Turn. -/
import Derived.Test.YtmcdfnhpaneanaaCvw
namespace Go.Proofs.Ytmcdfnhpaneanaa
open Go.RowKit
set_option maxRecDepth 100000
set_option linter.unusedVariables false
set_option linter.unusedSimpArgs false

/-- A grid and its threads' colours in variables: what Front's function value reads. -/
structure Thr (w : World) (gb wb fb : Nat) (W H : Nat) (A : Option Addr) (c : Nat) (f : Nat → Bool) (B : Option Addr) (d : Nat) (a : Nat → Int) (C : Option Addr) (e : Nat) (b : Nat → Int) : Prop where
  box : Box w gb W H (.slice A (W * H) c)
  wbox : SBox w wb (.slice B W d)
  fbox : SBox w fb (.slice C H e)
  cells : Holds w w.heap.size A (W * H) f
  warp : L2.Holds w w.heap.size B W a
  weft : L2.Holds w w.heap.size C H b
theorem Thr.below {w w' : World} {gb wb fb W H c d e : Nat} {A B C : Option Addr} {f : Nat → Bool} {a b : Nat → Int} (h : Thr w gb wb fb W H A c f B d a C e b) (hb : Below w.heap.size w w') : Thr w' gb wb fb W H A c f B d a C e b :=
  ⟨h.box.below hb h.box.lt, h.wbox.below hb h.wbox.lt, h.fbox.below hb h.fbox.lt, (h.cells.below hb).more hb.size, (h.warp.below hb).more hb.size, (h.weft.below hb).more hb.size⟩
set_option maxHeartbeats 800000 in
theorem front_clo {w : World} {gb wb fb W H c d e : Nat} {A B C : Option Addr} {f : Nat → Bool} {a b : Nat → Int} (h : Thr w gb wb fb W H A c f B d a C e b) (hW : W ≤ 64) (hH : H ≤ 64) :
    GivesI 68 #[.pointer (some ⟨gb, 0, none⟩), .pointer (some ⟨wb, 0, none⟩), .pointer (some ⟨fb, 0, none⟩)] w W H (fun x y => if f (y * W + x) then a x else b y) := by
  intro w1 x y hb hx hy
  have h1 := h.below hb
  obtain ⟨q0, q1, q2, q3, q4, q5, q6⟩ := h1.box.all
  obtain ⟨r0, r1, r2⟩ := h1.wbox.all
  obtain ⟨s0, s1, s2⟩ := h1.fbox.all
  have hi := ix_bd hx hy
  have hN : W * H ≤ 4096 := Nat.mul_le_mul hW hH
  obtain ⟨b1, o1, rfl, l1, c1⟩ := h1.cells (by omega)
  obtain ⟨b2, o2, rfl, l2, c2⟩ := h1.warp (by omega)
  obtain ⟨b3, o3, rfl, l3, c3⟩ := h1.weft (by omega)
  have a1 := c1 _ hi
  have a2 := c2 x hx
  have a3 := c3 y hy
  have hm : ((y : Int) * (W : Int) + (x : Int)) = ((y * W + x : Nat) : Int) := by simp
  obtain ⟨j, hj⟩ : ∃ j, y * W + x = j := ⟨_, rfl⟩
  have ej : (y : Int) * (W : Int) = ((y * W : Nat) : Int) := by simp
  have hml : y * W ≤ 4096 := by omega
  show Calls _ _ _ _ (fun e w2 => e = .returned (.int .i64 (if f (y * W + x) then a x else b y)) ∧ Below w1.heap.size w1 w2)
  rw [hj] at a1 hi hm ⊢
  obtain ⟨ym, hym⟩ : ∃ z, y * W = z := ⟨_, rfl⟩
  rw [hym] at ej hml hj
  have yx : (x : Int) < (W : Int) := by omega
  have yy : (y : Int) < (H : Int) := by omega
  have yj : (j : Int) < ((W * H : Nat) : Int) := by omega
  have ez : (ym : Int) + (x : Int) = (j : Int) := by omega
  clear h h1 c1 c2 c3 hb hm
  cases hv : f j
  · rw [hv] at a1
    go_enter Try.func68, Try.ntmps68
    go_wp2
    go_ret
    exact ⟨by simp [hv], Below.refl _ _⟩
  · rw [hv] at a1
    go_enter Try.func68, Try.ntmps68
    go_wp2
    go_ret
    exact ⟨by simp [hv], Below.refl _ _⟩
/-- An image in a variable: its cells lie. -/
structure Img (w : World) (gb : Nat) (W H : Nat) (A : Option Addr) (c : Nat) (f : Nat → Int) : Prop where
  box : IBox w gb W H (.slice A (W * H) c)
  cells : L2.Holds w w.heap.size A (W * H) f
theorem Img.below {w w' : World} {gb W H c : Nat} {A : Option Addr} {f : Nat → Int} (h : Img w gb W H A c f) (hb : Below w.heap.size w w') : Img w' gb W H A c f :=
  ⟨h.box.below hb h.box.lt, (h.cells.below hb).more hb.size⟩
theorem iturn_clo {w : World} {gb W H c : Nat} {A : Option Addr} {f : Nat → Int} (h : Img w gb W H A c f) (hW : W ≤ 64) (hH : H ≤ 64) :
    GivesI 70 #[.pointer (some ⟨gb, 0, none⟩)] w H W (fun x y => f (x * W + y)) := by
  intro w1 x y hb hx hy
  have h1 := h.below hb
  obtain ⟨q0, q1, q2, q3, q4, q5, q6⟩ := h1.box.all
  have HC := Lib.hid (icell_nat W H A c y x f w1 h1.cells hW hH y x rfl rfl hy hx)
  go_enter Try.func70, Try.ntmps70
  go_wp2_with (go_at_call 71; refine HC.out.mono ?_; rintro e w2 ⟨rfl, hb2⟩)
  go_ret
  exact ⟨rfl, hb2⟩
end Go.Proofs.Ytmcdfnhpaneanaa
