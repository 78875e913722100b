/- Join, the program's (checkAll, slices.Concat, slices.Grow) and the reference's (Both). -/
import Derived.Test.YtbafhdinalapoaaDoorIa
import Derived.Handy
import Derived.Lib.AppendZerosOnto
namespace Go.Proofs.YtbafhdinalapoaaDoor.L2
open Go.RowKit
set_option linter.unusedVariables false
set_option linter.unusedSimpArgs false

/-- The error of two lists: the first one's first. -/
def bchk (n : Nat) (f : Nat → Int) (m : Nat) (g : Nat → Int) : Int := if lchk n f ≠ 0 then lchk n f else lchk m g

/-- Two lists in a row of two, which the call itself has laid at block b. -/
structure Two (w : World) (b : Nat) (A : Option Addr) (n c : Nat) (f : Nat → Int) (D : Option Addr) (m d : Nat) (g : Nat → Int) : Prop where
  c0 : w.cell? ⟨b, 0, none⟩ = some (.slice A n c)
  c1 : w.cell? ⟨b, 1, none⟩ = some (.slice D m d)
  lt : b < w.heap.size
  h0 : Holds w w.heap.size A n f
  h1 : Holds w w.heap.size D m g
theorem Two.below {w w' : World} {b : Nat} {A : Option Addr} {n c : Nat} {f : Nat → Int} {D : Option Addr} {m d : Nat} {g : Nat → Int} (h : Two w b A n c f D m d g) (hb : Below w.heap.size w w') : Two w' b A n c f D m d g :=
  ⟨(hb.cell (p := ⟨b, 0, none⟩) h.lt).trans h.c0, (hb.cell (p := ⟨b, 1, none⟩) h.lt).trans h.c1, Nat.lt_of_lt_of_le h.lt hb.size, (h.h0.below hb).more hb.size, (h.h1.below hb).more hb.size⟩
theorem Two.new {w : World} {A : Option Addr} {n c : Nat} {f : Nat → Int} {D : Option Addr} {m d : Nat} {g : Nat → Int} (hr : Holds w w.heap.size A n f) (hs : Holds w w.heap.size D m g) :
    Two (w.alloc (.cells #[.slice A n c, .slice D m d] 22)) w.heap.size A n c f D m d g :=
  ⟨by simp only [World.cell?, heap_alloc_new]; rfl, by simp only [World.cell?, heap_alloc_new]; rfl, by simp,
    (hr.below ((Below.refl _ _).alloc (Nat.le_refl _) _)).more (by simp), (hs.below ((Below.refl _ _).alloc (Nat.le_refl _) _)).more (by simp)⟩

set_option maxHeartbeats 1600000 in
theorem checkall_any (b : Nat) (A : Option Addr) (n c : Nat) (f : Nat → Int) (D : Option Addr) (m d : Nat) (g : Nat → Int) (w : World) (h : Two w b A n c f D m d g) (hn : n ≤ 420) (hm : m ≤ 420) :
    Calls Tryd.prog 71 #[.slice (some ⟨b, 0, none⟩) 2 2] w fun e w' => e = .returned (.int .i64 (bchk n f m g)) ∧ Below w.heap.size w w' := by
  unfold bchk
  obtain ⟨e1, he1⟩ : ∃ e1, lchk n f = e1 := ⟨_, rfl⟩
  obtain ⟨e2, he2⟩ : ∃ e2, lchk m g = e2 := ⟨_, rfl⟩
  have C1 := Lib.hid (chk_is (A := A) c hn he1)
  have C2 := Lib.hid (chk_is (A := D) d hm he2)
  rw [he1, he2]
  clear he1 he2
  have H0 := Lib.hid h
  have q0 := h.c0
  clear h
  by_cases z : e1 = 0
  · subst z
    rw [if_neg (by simp)]
    go_enter Tryd.func71, Tryd.ntmps71
    go_wp2
    refine wp_loop_rounds 3 ?_
    rw [rounds_succ]
    go_wp2_with fail
    refine (C1.out _ H0.out.h0).mono ?_
    rintro e w1 ⟨rfl, hb⟩
    have B1 := Lib.hid hb
    have H1 := Lib.hid (H0.out.below hb)
    have q1 := H1.out.c1
    clear hb q0
    by_cases z2 : e2 = 0
    · subst z2
      go_wp2
      rw [rounds_succ]
      go_wp2_with fail
      refine (C2.out _ H1.out.h1).mono ?_
      rintro e w2 ⟨rfl, hb⟩
      have B2 := Lib.hid (B1.out.trans (hb.mono B1.out.size))
      clear hb q1
      go_wp2
      rw [rounds_succ]
      go_wp2
      go_ret
      exact ⟨rfl, B2.out⟩
    · have z2' : (e2 != 0) = true := by simp [z2]
      go_wp2
      rw [rounds_succ]
      go_wp2_with fail
      refine (C2.out _ H1.out.h1).mono ?_
      rintro e w2 ⟨rfl, hb⟩
      have B2 := Lib.hid (B1.out.trans (hb.mono B1.out.size))
      clear hb q1
      go_wp2
      go_ret
      exact ⟨rfl, B2.out⟩
  · have z' : (e1 != 0) = true := by simp [z]
    rw [if_pos z]
    go_enter Tryd.func71, Tryd.ntmps71
    go_wp2
    refine wp_loop_rounds 3 ?_
    rw [rounds_succ]
    go_wp2_with fail
    refine (C1.out _ H0.out.h0).mono ?_
    rintro e w1 ⟨rfl, hb⟩
    have B1 := Lib.hid hb
    clear hb q0
    go_wp2
    go_ret
    exact ⟨rfl, B1.out⟩

/-- slices.Grow of nothing. -/
def GrowOut (w : World) (f : Nat → Int) (e : Ending) (w' : World) : Prop := ∃ v, e = .returned v ∧ Own w' w.heap.size v 0 f ∧ Below w.heap.size w w'

end Go.Proofs.YtbafhdinalapoaaDoor.L2
