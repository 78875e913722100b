/- slices.Concat of two lists; Join, the program's and the reference's. -/
import Derived.Test.YtcmpoblbjjoaiaaDoorJoi
namespace Go.Proofs.YtcmpoblbjjoaiaaDoor
open Go.RowKit
set_option linter.unusedVariables false
set_option linter.unusedSimpArgs false

def CatOut (w : World) (n : Nat) (f : Nat → Int) (e : Ending) (w' : World) : Prop := ∃ v, e = .returned v ∧ Own w' w.heap.size v n f ∧ Below w.heap.size w w'

theorem both_zero (f g : Nat → Int) : both 0 f g = g := by funext i; simp [both]

set_option maxHeartbeats 3200000 in
theorem concat_any (b : Nat) (A : Option Addr) (n c : Nat) (f : Nat → Int) (D : Option Addr) (m d : Nat) (g : Nat → Int) (w : World) (h : Two w b A n c f D m d g) (hA : A = none → c = 0) (hD : D = none → d = 0) (hn : n ≤ 420) (hm : m ≤ 420) :
    Calls Tryd.prog 35 #[.slice (some ⟨b, 0, none⟩) 2 2] w (CatOut w (n + m) (both n f g)) := by
  have HA := Lib.hid hA
  have HD := Lib.hid hD
  have H0 := Lib.hid h
  have q0 := h.c0
  have q1 := h.c1
  obtain ⟨N, hN⟩ : ∃ N, N = n + m := ⟨_, rfl⟩
  have hNi : (n : Int) + (m : Int) = (N : Int) := by omega
  have HN := Lib.hid hN
  have hNb : N ≤ 840 := by omega
  clear h hA hD hN
  go_enter Tryd.func35, Tryd.ntmps35
  go_wp2
  refine wp_loop_rounds 3 ?_
  rw [rounds_succ]
  go_wp2
  rw [rounds_succ]
  go_wp2
  rw [rounds_succ]
  go_wp2_with fail
  refine (grow_any N _ f (by omega)).mono ?_
  rintro e w1 ⟨v, rfl, hown, hb⟩
  have hown := hown.lower (Nat.le_refl w.heap.size)
  have HO := Lib.hid hown
  have HB := Lib.hid hb
  have H1 := Lib.hid (H0.out.below hb)
  have hs1 := hb.size
  have p0 := H1.out.c0
  have p1 := H1.out.c1
  clear q0 q1 hb hown hNi
  go_wp2
  refine wp_loop_rounds 3 ?_
  rw [rounds_succ]
  go_wp2_with (at_builtin; refine appN _ rfl _ _ (by rfl) w.heap.size (by rfl) HO.out (by rfl) HA.out H1.out.h0 (by omega) (by omega) hs1 ?_; intro v2 w2 hown2 hb2; have HO2 := Lib.hid hown2; have HB2 := Lib.hid hb2; clear hown2 hb2)
  have hb2 := HB.out.trans HB2.out
  have H2 := Lib.hid (H0.out.below hb2)
  have hs2 := hb2.size
  have HB3 := Lib.hid hb2
  clear p0 p1 hb2
  have p1 := H2.out.c1
  go_wp2
  rw [rounds_succ]
  go_wp2_with (at_builtin; refine appN _ rfl _ _ (by rfl) w.heap.size (by rfl) HO2.out (by rfl) HD.out H2.out.h1 (by omega) (by omega) hs2 ?_; intro v3 w3 hown3 hb3; have HO3 := Lib.hid hown3; have HB4 := Lib.hid (HB3.out.trans hb3); clear hown3 hb3)
  clear p1
  go_wp2
  rw [rounds_succ]
  go_wp2
  go_ret
  refine ⟨_, rfl, ?_, HB4.out⟩
  have h3 := HO3.out
  rw [both_zero, Nat.zero_add] at h3
  exact h3

/-- The error of Join, or 0. -/
def jchk (n : Nat) (f : Nat → Int) (m : Nat) (g : Nat → Int) : Int := if bchk n f m g ≠ 0 then bchk n f m g else if 400 < n + m then 4 else 0

set_option maxHeartbeats 1600000 in
theorem join_err (A : Option Addr) (n c : Nat) (f : Nat → Int) (D : Option Addr) (m d : Nat) (g F : Nat → Int) (w : World) (err : Int) (hr : Holds w w.heap.size A n f) (hs : Holds w w.heap.size D m g) (hn : n ≤ 420) (hm : m ≤ 420)
    (hx : jchk n f m g = err) (hne : (err != 0) = true) : Calls Tryd.prog 11 #[.slice A n c, .slice D m d] w (LOut w 0 F err) := by
  obtain ⟨e1, he1⟩ : ∃ e1, bchk n f m g = e1 := ⟨_, rfl⟩
  have HT := Lib.hid (Two.new (c := c) (d := d) hr hs)
  have HB := Lib.hid ((Below.refl w.heap.size w).alloc (Nat.le_refl _) (.cells #[.slice A n c, .slice D m d] 22))
  have HC := Lib.hid (he1 ▸ checkall_any _ A n c f D m d g _ HT.out hn hm)
  unfold jchk at hx
  rw [he1] at hx
  clear hr hs he1
  by_cases z : e1 = 0
  · subst z
    rw [if_neg (by simp)] at hx
    by_cases z2 : 400 < n + m
    · rw [if_pos z2] at hx
      subst hx
      have y : decide ((400 : Int) < (n : Int) + (m : Int)) = true := by simp; omega
      clear z2
      go_enter Tryd.func11, Tryd.ntmps11
      go_wp2_with fail
      refine HC.out.mono ?_
      rintro e w1 ⟨rfl, hb⟩
      have HF := Lib.hid (HB.out.trans (hb.mono HB.out.size))
      clear hb
      go_wp2
      go_ret2
      exact LOut.err HF.out
    · rw [if_neg z2] at hx
      subst hx
      simp at hne
  · have z' : (e1 != 0) = true := by simp [z]
    rw [if_pos z] at hx
    subst hx
    clear hne
    go_enter Tryd.func11, Tryd.ntmps11
    go_wp2_with fail
    refine HC.out.mono ?_
    rintro e w1 ⟨rfl, hb⟩
    have HF := Lib.hid (HB.out.trans (hb.mono HB.out.size))
    clear hb
    go_wp2
    go_ret2
    exact LOut.err HF.out

set_option maxHeartbeats 1600000 in
theorem join_ok (A : Option Addr) (n c : Nat) (f : Nat → Int) (D : Option Addr) (m d : Nat) (g : Nat → Int) (w : World) (hr : Holds w w.heap.size A n f) (hs : Holds w w.heap.size D m g) (hA : A = none → c = 0) (hD : D = none → d = 0) (hn : n ≤ 420) (hm : m ≤ 420)
    (hx : bchk n f m g = 0) (hnm : n + m ≤ 400) : Calls Tryd.prog 11 #[.slice A n c, .slice D m d] w (LOut w (n + m) (both n f g) 0) := by
  have HT := Lib.hid (Two.new (c := c) (d := d) hr hs)
  have HB := Lib.hid ((Below.refl w.heap.size w).alloc (Nat.le_refl _) (.cells #[.slice A n c, .slice D m d] 22))
  have HC := Lib.hid (hx ▸ checkall_any _ A n c f D m d g _ HT.out hn hm)
  have HR := Lib.hid hr
  have HS := Lib.hid hs
  have HA := Lib.hid hA
  have HD := Lib.hid hD
  have y : decide ((400 : Int) < (n : Int) + (m : Int)) = false := by simp; omega
  clear hr hs hx hA hD
  go_enter Tryd.func11, Tryd.ntmps11
  go_wp2_with fail
  refine HC.out.mono ?_
  rintro e w1 ⟨rfl, hb⟩
  have HF := Lib.hid (HB.out.trans (hb.mono HB.out.size))
  have HT1 := Lib.hid (Two.new (w := w1) (c := c) (d := d) ((HR.out.below HF.out).more HF.out.size) ((HS.out.below HF.out).more HF.out.size))
  clear hb
  go_wp2_with fail
  refine (concat_any _ A n c f D m d g _ HT1.out HA.out HD.out hn hm).mono ?_
  rintro e w2 ⟨v, rfl, hown, hb⟩
  have HG := Lib.hid (LOut.own (hown.lower (by simp; exact Nat.le_succ_of_le HF.out.size)) ((HF.out.alloc HF.out.size _).trans (hb.mono (by simp; exact Nat.le_succ_of_le HF.out.size))))
  clear hown hb
  go_wp2
  go_ret2
  exact HG.out

end Go.Proofs.YtcmpoblbjjoaiaaDoor
