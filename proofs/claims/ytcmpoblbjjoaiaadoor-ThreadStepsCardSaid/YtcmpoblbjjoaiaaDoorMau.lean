/- Match, the program's other answers; the reference's Match. -/
import Derived.Test.YtcmpoblbjjoaiaaDoorMat
import Derived.Test.YtcmpoblbjjoaiaaDoorPar
import Derived.Test.YtcmpoblbjjoaiaaDoorRen
import Derived.Test.YtcmpoblbjjoaiaaDoorRnm
namespace Go.Proofs.YtcmpoblbjjoaiaaDoor
open Go.RowKit
set_option linter.unusedVariables false
set_option linter.unusedSimpArgs false

/-- The error of Match but for ErrNone, or 0. -/
def mchk (n : Nat) (f : Nat → Int) (m : Nat) (g : Nat → Int) : Int := if bchk n f m g ≠ 0 then bchk n f m g else if n ≠ m then 2 else 0

set_option maxHeartbeats 1600000 in
theorem match_err (A : Option Addr) (n c : Nat) (f : Nat → Int) (D : Option Addr) (m d : Nat) (g F : Nat → Int) (w : World) (err : Int) (hr : Holds w w.heap.size A n f) (hs : Holds w w.heap.size D m g) (hn : n ≤ 420) (hm : m ≤ 420)
    (hx : mchk n f m g = err) (hne : (err != 0) = true) : Calls Tryd.prog 14 #[.slice A n c, .slice D m d] w (LOut w 0 F err) := by
  obtain ⟨e1, he1⟩ : ∃ e1, bchk n f m g = e1 := ⟨_, rfl⟩
  have HT := Lib.hid (Two.new (c := c) (d := d) hr hs)
  have HB := Lib.hid ((Below.refl w.heap.size w).alloc (Nat.le_refl _) (.cells #[.slice A n c, .slice D m d] 22))
  have HC := Lib.hid (he1 ▸ checkall_any _ A n c f D m d g _ HT.out hn hm)
  unfold mchk at hx
  rw [he1] at hx
  clear hr hs he1
  by_cases z : e1 = 0
  · subst z
    rw [if_neg (by simp)] at hx
    by_cases z2 : n = m
    · rw [if_neg (by simp [z2])] at hx
      subst hx
      simp at hne
    · rw [if_pos z2] at hx
      subst hx
      have y : ((n : Int) != (m : Int)) = true := by simp; omega
      clear z2
      go_enter Tryd.func14, Tryd.ntmps14
      go_wp2_with fail
      refine HC.out.mono ?_
      rintro e w1 ⟨rfl, hb⟩
      have HF := Lib.hid (HB.out.trans (hb.mono HB.out.size))
      clear hb
      go_wp2
      go_ret2
      exact LOut.err HF.out
  · have z' : (e1 != 0) = true := by simp [z]
    rw [if_pos z] at hx
    subst hx
    clear hne
    go_enter Tryd.func14, Tryd.ntmps14
    go_wp2_with fail
    refine HC.out.mono ?_
    rintro e w1 ⟨rfl, hb⟩
    have HF := Lib.hid (HB.out.trans (hb.mono HB.out.size))
    clear hb
    go_wp2
    go_ret2
    exact LOut.err HF.out

theorem bchk_nil (f g : Nat → Int) : bchk 0 f 0 g = 0 := by
  unfold bchk lchk
  simp

set_option maxHeartbeats 1600000 in
theorem match_nil (A : Option Addr) (c : Nat) (f : Nat → Int) (D : Option Addr) (d : Nat) (g F : Nat → Int) (w : World) : Calls Tryd.prog 14 #[.slice A 0 c, .slice D 0 d] w (LOut w 0 F 0) := by
  have hr : Holds w w.heap.size A 0 f := Holds.none_
  have hs : Holds w w.heap.size D 0 g := Holds.none_
  have HT := Lib.hid (Two.new (c := c) (d := d) hr hs)
  have HB := Lib.hid ((Below.refl w.heap.size w).alloc (Nat.le_refl _) (.cells #[.slice A 0 c, .slice D 0 d] 22))
  have HC := Lib.hid (bchk_nil f g ▸ checkall_any _ A 0 c f D 0 d g _ HT.out (by omega) (by omega))
  clear hr hs
  go_enter Tryd.func14, Tryd.ntmps14
  go_wp2_with fail
  refine HC.out.mono ?_
  rintro e w1 ⟨rfl, hb⟩
  have HF := Lib.hid (HB.out.trans (hb.mono HB.out.size))
  clear hb
  go_wp2
  go_ret2
  exact LOut.err HF.out

/-- What the last loop of the reference's Match keeps. -/
structure RS (W : World) (g N : Nat) (a b : Nat → Int) (k : Nat) (wr : World) : Prop where
  bel : Below W.heap.size W wr
  row : Row wr g N (fun x => mt a b k x)
  con : Cons a b k
  g0 : W.heap.size ≤ g
theorem RS.drewN {W : World} {g N : Nat} {a b : Nat → Int} {k : Nat} {wr : World} (h : RS W g N a b k wr) (m : Nat) : RS W g N a b k (wr.drewN m) := ⟨Go.Proofs.below_drewN' h.bel m, h.row, h.con, h.g0⟩
theorem RS.put {W : World} {g N : Nat} {a b : Nat → Int} {k U V : Nat} {wr : World} (h : RS W g N a b k wr) (hu : a k = U) (hv : b k = V) (hc : ∀ q, q < k → (a k = a q ↔ b k = b q)) :
    RS W g N a b (k + 1) (wr.drew.setCell ⟨g, U, none⟩ (.int .i64 V)) := by
  refine ⟨h.bel.drew.setCell h.g0 _, ?_, fun p q hp hq => ?_, h.g0⟩
  · have hrow : Row wr.drew g N (fun x => mt a b k x) := h.row
    refine (hrow.set_ U V).congr fun i hi => ?_
    rw [mt, hu, hv]
    by_cases e : i = U
    · rw [if_pos e, if_pos (by omega)]
    · rw [if_neg e, if_neg (by omega)]
  · rcases Nat.lt_or_ge p k with h3 | h3
    · exact h.con p q h3 hq
    · obtain rfl : p = k := by omega
      exact hc q hq

end Go.Proofs.YtcmpoblbjjoaiaaDoor
