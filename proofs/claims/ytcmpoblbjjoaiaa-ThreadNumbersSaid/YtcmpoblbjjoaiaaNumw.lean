/- The walk of the statement ThreadNumbers. -/
import Derived.Test.YtcmpoblbjjoaiaaMau
namespace Go.Proofs.Ytcmpoblbjjoaiaa
open Go.RowKit
set_option linter.unusedVariables false
set_option linter.unusedSimpArgs false

/-- What the loop of the statement keeps: of the old memory all; the copy; and the list that it writes. -/
structure NK (w v : World) (lw hw : Nat) (Aw : Option Addr) (n : Nat) (f : Nat → Int) (l3 h3 : Nat) (A3 : Option Addr) (N3 : Nat) : Prop where
  bel : Below w.heap.size w v
  was : LV v lw hw Aw n f
  v3 : ∃ F, LV v l3 h3 A3 N3 F
  s0 : w.heap.size ≤ l3
  s1 : hw ≤ l3
theorem NK.first {w v : World} {lw hw : Nat} {Aw : Option Addr} {n : Nat} {f : Nat → Int} {l3 h3 : Nat} {A3 : Option Addr} {N3 : Nat} (h : NK w v lw hw Aw n f l3 h3 A3 N3) (hn : 0 < N3) :
    ∃ k, A3 = some ⟨k, 0, none⟩ ∧ (∃ F, Row v k N3 F) ∧ ∀ i u, NK w (v.setCell ⟨k, i, none⟩ (.int .i64 u)) lw hw Aw n f l3 h3 A3 N3 := by
  obtain ⟨F3, V3⟩ := h.v3
  obtain ⟨k, e, h1, h2, h3'⟩ := V3 hn
  have s0 := h.s0
  have s1 := h.s1
  exact ⟨k, e, ⟨F3, h3'⟩, fun i u => ⟨h.bel.setCell (by simp; omega) _, h.was.far (by simp; omega) _, ⟨_, V3.set_ e hn i u⟩, s0, s1⟩⟩

set_option maxRecDepth 100000 in
set_option maxHeartbeats 400000 in
theorem numbers_great1 (A : Option Addr) (n c : Nat) (D : Option Addr) (m d : Nat) (w : World) (hn : decide (60 < n ∧ n ≤ 400 ∨ 420 < n) = true) :
    Calls Try.prog 3 #[.slice A n c, .slice D m d] w fun e w' => e = .returned (.bool true) ∧ Below w.heap.size w w' := by
  have HG := Lib.hid (great_is hn A c w)
  clear hn
  go_enter Try.func3, Try.ntmps3
  go_wp2_with fail
  refine HG.out.mono ?_
  rintro e w1 ⟨rfl, rfl⟩
  go_wp2
  go_ret
  exact ⟨rfl, Below.refl _ _⟩

set_option maxRecDepth 100000 in
set_option maxHeartbeats 400000 in
theorem numbers_great2 (A : Option Addr) (n c : Nat) (D : Option Addr) (m d : Nat) (w : World) (hn : decide (60 < n ∧ n ≤ 400 ∨ 420 < n) = false) (hm : decide (60 < m ∧ m ≤ 400 ∨ 420 < m) = true) :
    Calls Try.prog 3 #[.slice A n c, .slice D m d] w fun e w' => e = .returned (.bool true) ∧ Below w.heap.size w w' := by
  have HG := Lib.hid (great_is hn A c w)
  have HM := Lib.hid (great_is hm D d w)
  clear hn hm
  go_enter Try.func3, Try.ntmps3
  go_wp2_with fail
  refine HG.out.mono ?_
  rintro e w1 ⟨rfl, rfl⟩
  go_wp2_with fail
  refine HM.out.mono ?_
  rintro e w1 ⟨rfl, rfl⟩
  go_wp2
  go_ret
  exact ⟨rfl, Below.refl _ _⟩

set_option maxRecDepth 100000 in
set_option maxHeartbeats 6400000 in
theorem numbers_main (A : Option Addr) (n c : Nat) (f : Nat → Int) (D : Option Addr) (m d : Nat) (g : Nat → Int) (w : World) (hn : decide (60 < n ∧ n ≤ 400 ∨ 420 < n) = false) (hm : decide (60 < m ∧ m ≤ 400 ∨ 420 < m) = false)
    (hA : A = none → c = 0) (hr : Holds w w.heap.size A n f) (hs : Holds w w.heap.size D m g) :
    Calls Try.prog 3 #[.slice A n c, .slice D m d] w fun e w' => e = .returned (.bool true) ∧ Below w.heap.size w w' := by
  have hn4 := great_no hn
  have hm4 := great_no hm
  have HG := Lib.hid (great_is hn A c w)
  have HM := Lib.hid (great_is hm D d w)
  obtain ⟨N1, F1, E1, b1, g11, g12⟩ := renumber_pair A n c f w hn4 hr
  obtain ⟨N2, F2, E2, b2, g21, g22⟩ := match_pair A n c f D m d g w hn4 hm4 hr hs
  have HR := Lib.hid hr
  have HA := Lib.hid hA
  have G11 := Lib.hid g11
  have G12 := Lib.hid g12
  have G21 := Lib.hid g21
  have G22 := Lib.hid g22
  clear hn hm hA hr hs g11 g12 g21 g22
  go_enter Try.func3, Try.ntmps3
  go_wp2_with fail
  refine HG.out.mono ?_
  rintro e w1 ⟨rfl, rfl⟩
  go_wp2_with fail
  refine HM.out.mono ?_
  rintro e w1 ⟨rfl, rfl⟩
  have hb0 := (Below.refl w.heap.size w).alloc (Nat.le_refl _) (.cells #[] 3)
  have HO := Lib.hid (Own.empty w (Nat.le_refl _) f)
  have hb0s := hb0.size
  have HB0 := Lib.hid hb0
  clear hb0 HG HM
  go_wp2_with (first | (at_builtin; refine appN _ rfl (.tmp 21) (.tmp 22) rfl w.heap.size (by rfl) HO.out (by rfl) HA.out (HR.out.below HB0.out) (by omega) (by omega) hb0s ?_; intro v0 u0 hown0 hb; obtain ⟨Aw, cw, rfl, hv⟩ := LV.own hown0; have Vw0 := Lib.hid hv; have L0 := Lib.hid (HB0.out.trans hb); clear hv hown0 hb) | fail)
  rw [both_zero, Nat.zero_add] at Vw0
  have SW := Lib.hid L0.out.size
  go_wp2_with fail
  refine (G11.out _ L0.out).mono ?_
  rintro e u1 ⟨A11, c11, rfl, hnil, hrow, hb⟩
  have hv := LV.of hrow
  have L1 := Lib.hid (L0.out.trans (hb.mono L0.out.size))
  have Vw1 := Lib.hid (Vw0.out.next hb)
  clear hb L0 Vw0
  have V111 := Lib.hid hv
  have Z11 := Lib.hid hnil
  clear hv hrow hnil
  go_wp2_with fail
  refine (G12.out _ L1.out).mono ?_
  rintro e u2 ⟨A12, c12, rfl, hnil, hrow, hb⟩
  have hv := LV.of hrow
  have L2 := Lib.hid (L1.out.trans (hb.mono L1.out.size))
  have Vw2 := Lib.hid (Vw1.out.next hb)
  have V112 := Lib.hid (V111.out.next hb)
  clear hb L1 Vw1 V111
  have V122 := Lib.hid hv
  have Z12 := Lib.hid hnil
  clear hv hrow hnil
  go_wp2_with fail
  refine (G21.out _ L2.out).mono ?_
  rintro e u3 ⟨A21, c21, rfl, hnil, hrow, hb⟩
  have hv := LV.of hrow
  have L3 := Lib.hid (L2.out.trans (hb.mono L2.out.size))
  have Vw3 := Lib.hid (Vw2.out.next hb)
  have V113 := Lib.hid (V112.out.next hb)
  have V123 := Lib.hid (V122.out.next hb)
  clear hb L2 Vw2 V112 V122
  have V213 := Lib.hid hv
  have Z21 := Lib.hid hnil
  clear hv hrow hnil
  go_wp2_with fail
  refine (G22.out _ L3.out).mono ?_
  rintro e u4 ⟨A22, c22, rfl, hnil, hrow, hb⟩
  have hv := LV.of hrow
  have L4 := Lib.hid (L3.out.trans (hb.mono L3.out.size))
  have Vw4 := Lib.hid (Vw3.out.next hb)
  have V114 := Lib.hid (V113.out.next hb)
  have V124 := Lib.hid (V123.out.next hb)
  have V214 := Lib.hid (V213.out.next hb)
  clear hb L3 Vw3 V113 V123 V213
  have V224 := Lib.hid hv
  have Z22 := Lib.hid hnil
  clear hv hrow hnil
  go_wp2_with fail
  refine (rsame_eq _ _ _ _ _ _ _ (by omega) V114.out.holds V124.out.holds).mono ?_
  rintro e u5 ⟨rfl, hb⟩
  have L5 := Lib.hid (L4.out.trans (hb.mono L4.out.size))
  have Vw5 := Lib.hid (Vw4.out.next hb)
  have V115 := Lib.hid (V114.out.next hb)
  have V215 := Lib.hid (V214.out.next hb)
  have V225 := Lib.hid (V224.out.next hb)
  clear hb L4 V124 Vw4 V114 V214 V224
  go_wp2_with fail
  refine (rsame_eq _ _ _ _ _ _ _ (by omega) V215.out.holds V225.out.holds).mono ?_
  rintro e u6 ⟨rfl, hb⟩
  have L6 := Lib.hid (L5.out.trans (hb.mono L5.out.size))
  have Vw6 := Lib.hid (Vw5.out.next hb)
  have V116 := Lib.hid (V115.out.next hb)
  clear hb L5 V215 V225 Vw5 V115
  have K0 := Lib.hid (⟨L6.out, Vw6.out, ⟨_, V116.out⟩, SW.out, Nat.le_refl _⟩ : NK w u6 w.heap.size u0.heap.size Aw n f u0.heap.size u1.heap.size A11 N1)
  clear G11 G12 G21 G22 HO HB0 SW L6 Vw6 V116 Z11 Z12 Z21 Z22
  generalize u0.heap.size = hw, u1.heap.size = h3 at K0
  go_wp2
  go_loopw [14] (fun i wr => ∃ j : Nat, j ≤ N1 ∧ i = .int .i64 j ∧ NK w wr w.heap.size hw Aw n f hw h3 A11 N1) (fun i _ => N1 - (intOf i).toNat)
  case atStart => exact ⟨0, Nat.zero_le _, rfl, K0.out⟩
  case round =>
    obtain ⟨j, hj, rfl, K⟩ := hrel
    by_cases hlt : j < N1
    · obtain ⟨k, rfl, ⟨F, row⟩, x⟩ := K.first (by omega)
      have c1 := row.cell hlt
      have fr := row.free j
      have y1 : (j : Int) < (N1 : Int) := by omega
      have HX := Lib.hid x
      clear K x row K0
      go_wp2
      exact ⟨⟨j + 1, by omega, by go_num, HX.out _ _⟩, by simp [intOf]; omega⟩
    · have e : j = N1 := by omega
      subst e
      have K2 := Lib.hid K
      clear K K0
      go_wp2_with fail
      refine (rsame_eq _ _ _ _ _ _ _ (by omega) (later HR.out K2.out.bel) K2.out.was.holds).mono ?_
      rintro e ux ⟨rfl, hb⟩
      have HF := Lib.hid (K2.out.bel.trans (hb.mono K2.out.bel.size))
      clear hb
      go_wp2
      go_ret
      exact ⟨rfl, HF.out⟩

theorem numbers_any (A : Option Addr) (n c : Nat) (f : Nat → Int) (D : Option Addr) (m d : Nat) (g : Nat → Int) (w : World)
    (hA : A = none → c = 0) (hr : Holds w w.heap.size A n f) (hs : Holds w w.heap.size D m g) :
    Calls Try.prog 3 #[.slice A n c, .slice D m d] w fun e w' => e = .returned (.bool true) ∧ Below w.heap.size w w' := by
  cases hn : decide (60 < n ∧ n ≤ 400 ∨ 420 < n)
  · cases hm : decide (60 < m ∧ m ≤ 400 ∨ 420 < m)
    · exact numbers_main A n c f D m d g w hn hm hA hr hs
    · exact numbers_great2 A n c D m d w hn hm
  · exact numbers_great1 A n c D m d w hn
end Go.Proofs.Ytcmpoblbjjoaiaa
