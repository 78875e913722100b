/- The walk of the statement ThreadMakes. -/
import Derived.Test.YtcmpoblbjjoaiaaPar
namespace Go.Proofs.Ytcmpoblbjjoaiaa
open Go.RowKit
set_option linter.unusedVariables false
set_option linter.unusedSimpArgs false

/-- What the loops of the statement keep: of the old memory all; the copy; and two lists that they write. -/
structure MK (w v : World) (lw hw : Nat) (Aw : Option Addr) (n : Nat) (f : Nat → Int) (l3 h3 : Nat) (A3 : Option Addr) (N3 : Nat) (l5 h5 : Nat) (A5 : Option Addr) (N5 : Nat) : Prop where
  bel : Below w.heap.size w v
  was : LV v lw hw Aw n f
  v3 : ∃ F, LV v l3 h3 A3 N3 F
  v5 : ∃ F, LV v l5 h5 A5 N5 F
  s0 : w.heap.size ≤ l3
  s1 : hw ≤ l3
  s2 : h3 ≤ l5
  s3 : l3 ≤ h3
section
variable {w v : World} {lw hw : Nat} {Aw : Option Addr} {n : Nat} {f : Nat → Int} {l3 h3 : Nat} {A3 : Option Addr} {N3 : Nat} {l5 h5 : Nat} {A5 : Option Addr} {N5 : Nat}
theorem MK.first (h : MK w v lw hw Aw n f l3 h3 A3 N3 l5 h5 A5 N5) (hn : 0 < N3) :
    ∃ k, A3 = some ⟨k, 0, none⟩ ∧ (∃ F, Row v k N3 F) ∧ ∀ i u, MK w (v.setCell ⟨k, i, none⟩ (.int .i64 u)) lw hw Aw n f l3 h3 A3 N3 l5 h5 A5 N5 := by
  obtain ⟨F3, V3⟩ := h.v3
  obtain ⟨F5, V5⟩ := h.v5
  obtain ⟨k, e, h1, h2, h3'⟩ := V3 hn
  have s0 := h.s0
  have s1 := h.s1
  have s2 := h.s2
  have s3 := h.s3
  exact ⟨k, e, ⟨F3, h3'⟩, fun i u => ⟨h.bel.setCell (by simp; omega) _, h.was.far (by simp; omega) _, ⟨_, V3.set_ e hn i u⟩, ⟨F5, V5.far (by simp; omega) _⟩, s0, s1, s2, s3⟩⟩
theorem MK.second (h : MK w v lw hw Aw n f l3 h3 A3 N3 l5 h5 A5 N5) (hn : 0 < N5) :
    ∃ k, A5 = some ⟨k, 0, none⟩ ∧ (∃ F, Row v k N5 F) ∧ ∀ i u, MK w (v.setCell ⟨k, i, none⟩ (.int .i64 u)) lw hw Aw n f l3 h3 A3 N3 l5 h5 A5 N5 := by
  obtain ⟨F3, V3⟩ := h.v3
  obtain ⟨F5, V5⟩ := h.v5
  obtain ⟨k, e, h1, h2, h3'⟩ := V5 hn
  have s0 := h.s0
  have s1 := h.s1
  have s2 := h.s2
  have s3 := h.s3
  exact ⟨k, e, ⟨F5, h3'⟩, fun i u => ⟨h.bel.setCell (by simp; omega) _, h.was.far (by simp; omega) _, ⟨F3, V3.far (by simp; omega) _⟩, ⟨_, V5.set_ e hn i u⟩, s0, s1, s2, s3⟩⟩
end

set_option maxRecDepth 100000 in
set_option maxHeartbeats 400000 in
theorem makes_great1 (A : Option Addr) (n c : Nat) (D : Option Addr) (m d : Nat) (p q : Int) (w : World) (hn : decide (60 < n ∧ n ≤ 400 ∨ 420 < n) = true) :
    Calls Try.prog 4 #[.slice A n c, .slice D m d, .int .i64 p, .int .i64 q] w fun e w' => e = .returned (.bool true) ∧ Below w.heap.size w w' := by
  have HG := Lib.hid (great_is hn A c w)
  clear hn
  go_enter Try.func4, Try.ntmps4
  go_wp2_with fail
  refine HG.out.mono ?_
  rintro e w1 ⟨rfl, rfl⟩
  go_wp2
  go_ret
  exact ⟨rfl, Below.refl _ _⟩

set_option maxRecDepth 100000 in
set_option maxHeartbeats 400000 in
theorem makes_great2 (A : Option Addr) (n c : Nat) (D : Option Addr) (m d : Nat) (p q : Int) (w : World) (hn : decide (60 < n ∧ n ≤ 400 ∨ 420 < n) = false) (hm : decide (60 < m ∧ m ≤ 400 ∨ 420 < m) = true) :
    Calls Try.prog 4 #[.slice A n c, .slice D m d, .int .i64 p, .int .i64 q] w fun e w' => e = .returned (.bool true) ∧ Below w.heap.size w w' := by
  have HG := Lib.hid (great_is hn A c w)
  have HM := Lib.hid (great_is hm D d w)
  clear hn hm
  go_enter Try.func4, Try.ntmps4
  go_wp2_with fail
  refine HG.out.mono ?_
  rintro e w1 ⟨rfl, rfl⟩
  go_wp2_with fail
  refine HM.out.mono ?_
  rintro e w1 ⟨rfl, rfl⟩
  go_wp2
  go_ret
  exact ⟨rfl, Below.refl _ _⟩

set_option maxRecDepth 100000 in
set_option maxHeartbeats 6400000 in
theorem makes_main (A : Option Addr) (n c : Nat) (f : Nat → Int) (D : Option Addr) (m d : Nat) (g : Nat → Int) (p q : Int) (w : World) (hn : decide (60 < n ∧ n ≤ 400 ∨ 420 < n) = false) (hm : decide (60 < m ∧ m ≤ 400 ∨ 420 < m) = false)
    (hA : A = none → c = 0) (hD : D = none → d = 0) (hr : Holds w w.heap.size A n f) (hs : Holds w w.heap.size D m g) (hp0 : -9223372036854775808 ≤ p) (hp1 : p ≤ 9223372036854775807) :
    Calls Try.prog 4 #[.slice A n c, .slice D m d, .int .i64 p, .int .i64 q] w fun e w' => e = .returned (.bool true) ∧ Below w.heap.size w w' := by
  have hn4 := great_no hn
  have hm4 := great_no hm
  have HG := Lib.hid (great_is hn A c w)
  have HM := Lib.hid (great_is hm D d w)
  obtain ⟨N1, F1, E1, b1, g11, g12⟩ := straight_pair p q w
  obtain ⟨N2, F2, E2, b2, g21, g22⟩ := pointed_pair p q w
  obtain ⟨N3, F3, E3, b3, g31, g32⟩ := join_pair A n c f D m d g w hn4 hm4 hA hD hr hs
  obtain ⟨N4, F4, E4, b4, g41, g42⟩ := tile_pair A n c f p w hn4 hA hr hp0 hp1
  obtain ⟨N5, F5, E5, b5, g51, g52⟩ := rev_pair A n c f w hn4 hr
  have HR := Lib.hid hr
  have HA := Lib.hid hA
  have G11 := Lib.hid g11
  have G12 := Lib.hid g12
  have G21 := Lib.hid g21
  have G22 := Lib.hid g22
  have G31 := Lib.hid g31
  have G32 := Lib.hid g32
  have G41 := Lib.hid g41
  have G42 := Lib.hid g42
  have G51 := Lib.hid g51
  have G52 := Lib.hid g52
  clear hn hm hA hD hr hs g11 g12 g21 g22 g31 g32 g41 g42 g51 g52
  go_enter Try.func4, Try.ntmps4
  go_wp2_with fail
  refine HG.out.mono ?_
  rintro e w1 ⟨rfl, rfl⟩
  go_wp2_with fail
  refine HM.out.mono ?_
  rintro e w1 ⟨rfl, rfl⟩
  have hb0 := (Below.refl w.heap.size w).alloc (Nat.le_refl _) (.cells #[] 3)
  have HO := Lib.hid (Own.empty w (Nat.le_refl _) f)
  have hb0s := hb0.size
  have HB0 := Lib.hid hb0
  clear hb0 HG HM
  go_wp2_with (first | (at_builtin; refine appN _ rfl (.tmp 38) (.tmp 39) rfl w.heap.size (by rfl) HO.out (by rfl) HA.out (HR.out.below HB0.out) (by omega) (by omega) hb0s ?_; intro v0 u0 hown0 hb; obtain ⟨Aw, cw, rfl, hv⟩ := LV.own hown0; have Vw0 := Lib.hid hv; have L0 := Lib.hid (HB0.out.trans hb); clear hv hown0 hb) | fail)
  rw [both_zero, Nat.zero_add] at Vw0
  have Tu0 := Lib.hid (Nat.le_refl u0.heap.size)
  go_wp2_with fail
  refine (G11.out _ L0.out).mono ?_
  rintro e u1 ⟨A11, c11, rfl, hnil, hrow, hb⟩
  have hv := LV.of hrow
  have L1 := Lib.hid (L0.out.trans (hb.mono L0.out.size))
  have Vw1 := Lib.hid (Vw0.out.next hb)
  have Tu0_1 := Lib.hid (Nat.le_trans Tu0.out hb.size)
  clear hb L0 Vw0 Tu0
  have V111 := Lib.hid hv
  have Z11 := Lib.hid hnil
  clear hv hrow hnil
  go_wp2_with fail
  refine (G12.out _ L1.out).mono ?_
  rintro e u2 ⟨A12, c12, rfl, hnil, hrow, hb⟩
  have hv := LV.of hrow
  have L2 := Lib.hid (L1.out.trans (hb.mono L1.out.size))
  have Vw2 := Lib.hid (Vw1.out.next hb)
  have V112 := Lib.hid (V111.out.next hb)
  have Tu0_2 := Lib.hid (Nat.le_trans Tu0_1.out hb.size)
  clear hb L1 Vw1 V111 Tu0_1
  have V122 := Lib.hid hv
  have Z12 := Lib.hid hnil
  clear hv hrow hnil
  go_wp2_with fail
  refine (G21.out _ L2.out).mono ?_
  rintro e u3 ⟨A21, c21, rfl, hnil, hrow, hb⟩
  have hv := LV.of hrow
  have L3 := Lib.hid (L2.out.trans (hb.mono L2.out.size))
  have Vw3 := Lib.hid (Vw2.out.next hb)
  have V113 := Lib.hid (V112.out.next hb)
  have V123 := Lib.hid (V122.out.next hb)
  have Tu0_3 := Lib.hid (Nat.le_trans Tu0_2.out hb.size)
  clear hb L2 Vw2 V112 V122 Tu0_2
  have V213 := Lib.hid hv
  have Z21 := Lib.hid hnil
  clear hv hrow hnil
  go_wp2_with fail
  refine (G22.out _ L3.out).mono ?_
  rintro e u4 ⟨A22, c22, rfl, hnil, hrow, hb⟩
  have hv := LV.of hrow
  have L4 := Lib.hid (L3.out.trans (hb.mono L3.out.size))
  have Vw4 := Lib.hid (Vw3.out.next hb)
  have V114 := Lib.hid (V113.out.next hb)
  have V124 := Lib.hid (V123.out.next hb)
  have V214 := Lib.hid (V213.out.next hb)
  have Tu0_4 := Lib.hid (Nat.le_trans Tu0_3.out hb.size)
  clear hb L3 Vw3 V113 V123 V213 Tu0_3
  have V224 := Lib.hid hv
  have Z22 := Lib.hid hnil
  clear hv hrow hnil
  have S31 := Lib.hid Tu0_4.out
  have SW := Lib.hid (L4.out.size)
  go_wp2_with fail
  refine (G31.out _ L4.out).mono ?_
  rintro e u5 ⟨A31, c31, rfl, hnil, hrow, hb⟩
  have hv := LV.of hrow
  have S33 := Lib.hid hb.size
  have L5 := Lib.hid (L4.out.trans (hb.mono L4.out.size))
  have Vw5 := Lib.hid (Vw4.out.next hb)
  have V115 := Lib.hid (V114.out.next hb)
  have V125 := Lib.hid (V124.out.next hb)
  have V215 := Lib.hid (V214.out.next hb)
  have V225 := Lib.hid (V224.out.next hb)
  have Tu0_5 := Lib.hid (Nat.le_trans Tu0_4.out hb.size)
  clear hb L4 Vw4 V114 V124 V214 V224 Tu0_4
  have V315 := Lib.hid hv
  have Z31 := Lib.hid hnil
  clear hv hrow hnil
  have Tu5 := Lib.hid (Nat.le_refl u5.heap.size)
  go_wp2_with fail
  refine (G32.out _ L5.out).mono ?_
  rintro e u6 ⟨A32, c32, rfl, hnil, hrow, hb⟩
  have hv := LV.of hrow
  have L6 := Lib.hid (L5.out.trans (hb.mono L5.out.size))
  have Vw6 := Lib.hid (Vw5.out.next hb)
  have V116 := Lib.hid (V115.out.next hb)
  have V126 := Lib.hid (V125.out.next hb)
  have V216 := Lib.hid (V215.out.next hb)
  have V226 := Lib.hid (V225.out.next hb)
  have V316 := Lib.hid (V315.out.next hb)
  have Tu0_6 := Lib.hid (Nat.le_trans Tu0_5.out hb.size)
  have Tu5_6 := Lib.hid (Nat.le_trans Tu5.out hb.size)
  clear hb L5 Vw5 V115 V125 V215 V225 V315 Tu0_5 Tu5
  have V326 := Lib.hid hv
  have Z32 := Lib.hid hnil
  clear hv hrow hnil
  go_wp2_with fail
  refine (G41.out _ L6.out).mono ?_
  rintro e u7 ⟨A41, c41, rfl, hnil, hrow, hb⟩
  have hv := LV.of hrow
  have L7 := Lib.hid (L6.out.trans (hb.mono L6.out.size))
  have Vw7 := Lib.hid (Vw6.out.next hb)
  have V117 := Lib.hid (V116.out.next hb)
  have V127 := Lib.hid (V126.out.next hb)
  have V217 := Lib.hid (V216.out.next hb)
  have V227 := Lib.hid (V226.out.next hb)
  have V317 := Lib.hid (V316.out.next hb)
  have V327 := Lib.hid (V326.out.next hb)
  have Tu0_7 := Lib.hid (Nat.le_trans Tu0_6.out hb.size)
  have Tu5_7 := Lib.hid (Nat.le_trans Tu5_6.out hb.size)
  clear hb L6 Vw6 V116 V126 V216 V226 V316 V326 Tu0_6 Tu5_6
  have V417 := Lib.hid hv
  have Z41 := Lib.hid hnil
  clear hv hrow hnil
  go_wp2_with fail
  refine (G42.out _ L7.out).mono ?_
  rintro e u8 ⟨A42, c42, rfl, hnil, hrow, hb⟩
  have hv := LV.of hrow
  have L8 := Lib.hid (L7.out.trans (hb.mono L7.out.size))
  have Vw8 := Lib.hid (Vw7.out.next hb)
  have V118 := Lib.hid (V117.out.next hb)
  have V128 := Lib.hid (V127.out.next hb)
  have V218 := Lib.hid (V217.out.next hb)
  have V228 := Lib.hid (V227.out.next hb)
  have V318 := Lib.hid (V317.out.next hb)
  have V328 := Lib.hid (V327.out.next hb)
  have V418 := Lib.hid (V417.out.next hb)
  have Tu0_8 := Lib.hid (Nat.le_trans Tu0_7.out hb.size)
  have Tu5_8 := Lib.hid (Nat.le_trans Tu5_7.out hb.size)
  clear hb L7 Vw7 V117 V127 V217 V227 V317 V327 V417 Tu0_7 Tu5_7
  have V428 := Lib.hid hv
  have Z42 := Lib.hid hnil
  clear hv hrow hnil
  have S51 := Lib.hid Tu5_8.out
  go_wp2_with fail
  refine (G51.out _ L8.out).mono ?_
  rintro e u9 ⟨A51, c51, rfl, hnil, hrow, hb⟩
  have hv := LV.of hrow
  have L9 := Lib.hid (L8.out.trans (hb.mono L8.out.size))
  have Vw9 := Lib.hid (Vw8.out.next hb)
  have V119 := Lib.hid (V118.out.next hb)
  have V129 := Lib.hid (V128.out.next hb)
  have V219 := Lib.hid (V218.out.next hb)
  have V229 := Lib.hid (V228.out.next hb)
  have V319 := Lib.hid (V318.out.next hb)
  have V329 := Lib.hid (V328.out.next hb)
  have V419 := Lib.hid (V418.out.next hb)
  have V429 := Lib.hid (V428.out.next hb)
  have Tu0_9 := Lib.hid (Nat.le_trans Tu0_8.out hb.size)
  have Tu5_9 := Lib.hid (Nat.le_trans Tu5_8.out hb.size)
  clear hb L8 Vw8 V118 V128 V218 V228 V318 V328 V418 V428 Tu0_8 Tu5_8
  have V519 := Lib.hid hv
  have Z51 := Lib.hid hnil
  clear hv hrow hnil
  go_wp2_with fail
  refine (G52.out _ L9.out).mono ?_
  rintro e u10 ⟨A52, c52, rfl, hnil, hrow, hb⟩
  have hv := LV.of hrow
  have L10 := Lib.hid (L9.out.trans (hb.mono L9.out.size))
  have Vw10 := Lib.hid (Vw9.out.next hb)
  have V1110 := Lib.hid (V119.out.next hb)
  have V1210 := Lib.hid (V129.out.next hb)
  have V2110 := Lib.hid (V219.out.next hb)
  have V2210 := Lib.hid (V229.out.next hb)
  have V3110 := Lib.hid (V319.out.next hb)
  have V3210 := Lib.hid (V329.out.next hb)
  have V4110 := Lib.hid (V419.out.next hb)
  have V4210 := Lib.hid (V429.out.next hb)
  have V5110 := Lib.hid (V519.out.next hb)
  have Tu0_10 := Lib.hid (Nat.le_trans Tu0_9.out hb.size)
  have Tu5_10 := Lib.hid (Nat.le_trans Tu5_9.out hb.size)
  clear hb L9 Vw9 V119 V129 V219 V229 V319 V329 V419 V429 V519 Tu0_9 Tu5_9
  have V5210 := Lib.hid hv
  have Z52 := Lib.hid hnil
  clear hv hrow hnil
  go_wp2_with fail
  refine (rsame_eq _ _ _ _ _ _ _ (by omega) V1110.out.holds V1210.out.holds).mono ?_
  rintro e u11 ⟨rfl, hb⟩
  have L11 := Lib.hid (L10.out.trans (hb.mono L10.out.size))
  have Vw11 := Lib.hid (Vw10.out.next hb)
  have V2111 := Lib.hid (V2110.out.next hb)
  have V2211 := Lib.hid (V2210.out.next hb)
  have V3111 := Lib.hid (V3110.out.next hb)
  have V3211 := Lib.hid (V3210.out.next hb)
  have V4111 := Lib.hid (V4110.out.next hb)
  have V4211 := Lib.hid (V4210.out.next hb)
  have V5111 := Lib.hid (V5110.out.next hb)
  have V5211 := Lib.hid (V5210.out.next hb)
  have Tu0_11 := Lib.hid (Nat.le_trans Tu0_10.out hb.size)
  have Tu5_11 := Lib.hid (Nat.le_trans Tu5_10.out hb.size)
  clear hb L10 V1110 V1210 Vw10 V2110 V2210 V3110 V3210 V4110 V4210 V5110 V5210 Tu0_10 Tu5_10
  go_wp2_with fail
  refine (rsame_eq _ _ _ _ _ _ _ (by omega) V2111.out.holds V2211.out.holds).mono ?_
  rintro e u12 ⟨rfl, hb⟩
  have L12 := Lib.hid (L11.out.trans (hb.mono L11.out.size))
  have Vw12 := Lib.hid (Vw11.out.next hb)
  have V3112 := Lib.hid (V3111.out.next hb)
  have V3212 := Lib.hid (V3211.out.next hb)
  have V4112 := Lib.hid (V4111.out.next hb)
  have V4212 := Lib.hid (V4211.out.next hb)
  have V5112 := Lib.hid (V5111.out.next hb)
  have V5212 := Lib.hid (V5211.out.next hb)
  have Tu0_12 := Lib.hid (Nat.le_trans Tu0_11.out hb.size)
  have Tu5_12 := Lib.hid (Nat.le_trans Tu5_11.out hb.size)
  clear hb L11 V2111 V2211 Vw11 V3111 V3211 V4111 V4211 V5111 V5211 Tu0_11 Tu5_11
  go_wp2_with fail
  refine (rsame_eq _ _ _ _ _ _ _ (by omega) V3112.out.holds V3212.out.holds).mono ?_
  rintro e u13 ⟨rfl, hb⟩
  have L13 := Lib.hid (L12.out.trans (hb.mono L12.out.size))
  have Vw13 := Lib.hid (Vw12.out.next hb)
  have V3113 := Lib.hid (V3112.out.next hb)
  have V4113 := Lib.hid (V4112.out.next hb)
  have V4213 := Lib.hid (V4212.out.next hb)
  have V5113 := Lib.hid (V5112.out.next hb)
  have V5213 := Lib.hid (V5212.out.next hb)
  have Tu0_13 := Lib.hid (Nat.le_trans Tu0_12.out hb.size)
  have Tu5_13 := Lib.hid (Nat.le_trans Tu5_12.out hb.size)
  clear hb L12 V3212 Vw12 V3112 V4112 V4212 V5112 V5212 Tu0_12 Tu5_12
  go_wp2_with fail
  refine (rsame_eq _ _ _ _ _ _ _ (by omega) V4113.out.holds V4213.out.holds).mono ?_
  rintro e u14 ⟨rfl, hb⟩
  have L14 := Lib.hid (L13.out.trans (hb.mono L13.out.size))
  have Vw14 := Lib.hid (Vw13.out.next hb)
  have V3114 := Lib.hid (V3113.out.next hb)
  have V5114 := Lib.hid (V5113.out.next hb)
  have V5214 := Lib.hid (V5213.out.next hb)
  have Tu0_14 := Lib.hid (Nat.le_trans Tu0_13.out hb.size)
  have Tu5_14 := Lib.hid (Nat.le_trans Tu5_13.out hb.size)
  clear hb L13 V4113 V4213 Vw13 V3113 V5113 V5213 Tu0_13 Tu5_13
  go_wp2_with fail
  refine (rsame_eq _ _ _ _ _ _ _ (by omega) V5114.out.holds V5214.out.holds).mono ?_
  rintro e u15 ⟨rfl, hb⟩
  have L15 := Lib.hid (L14.out.trans (hb.mono L14.out.size))
  have Vw15 := Lib.hid (Vw14.out.next hb)
  have V3115 := Lib.hid (V3114.out.next hb)
  have V5115 := Lib.hid (V5114.out.next hb)
  have Tu0_15 := Lib.hid (Nat.le_trans Tu0_14.out hb.size)
  have Tu5_15 := Lib.hid (Nat.le_trans Tu5_14.out hb.size)
  clear hb L14 V5214 Vw14 V3114 V5114 Tu0_14 Tu5_14
  have K0 := Lib.hid (⟨L15.out, Vw15.out, ⟨_, V3115.out⟩, ⟨_, V5115.out⟩, SW.out, S31.out, S51.out, S33.out⟩ : MK w u15 w.heap.size u0.heap.size Aw n f u4.heap.size u5.heap.size A31 N3 u8.heap.size u9.heap.size A51 N5)
  clear G11 G12 G21 G22 G31 G32 G41 G42 G51 G52 HO HB0 SW S31 S33 S51 L15 Vw15 V3115 V5115 Tu0_15 Tu5_15
  clear Z11 Z12 Z21 Z22 Z31 Z32 Z41 Z42 Z51 Z52
  generalize u4.heap.size = l3, u5.heap.size = h3, u8.heap.size = l5, u9.heap.size = h5, u0.heap.size = hw at K0
  go_wp2
  go_loopw [30] (fun i wr => ∃ j : Nat, j ≤ N3 ∧ i = .int .i64 j ∧ MK w wr w.heap.size hw Aw n f l3 h3 A31 N3 l5 h5 A51 N5) (fun i _ => N3 - (intOf i).toNat)
  case atStart => exact ⟨0, Nat.zero_le _, rfl, K0.out⟩
  case round =>
    obtain ⟨j, hj, rfl, K⟩ := hrel
    by_cases hlt : j < N3
    · obtain ⟨k, rfl, ⟨F, row⟩, x⟩ := K.first (by omega)
      have c1 := row.cell hlt
      have fr := row.free j
      have y1 : (j : Int) < (N3 : Int) := by omega
      have HX := Lib.hid x
      clear K x row K0
      go_wp2
      exact ⟨⟨j + 1, by omega, by go_num, HX.out _ _⟩, by simp [intOf]; omega⟩
    · have e : j = N3 := by omega
      subst e
      have K1 := Lib.hid K
      clear K K0
      go_wp2
      go_loopw [31] (fun i wr => ∃ i' : Nat, i' ≤ N5 ∧ i = .int .i64 i' ∧ MK w wr w.heap.size hw Aw n f l3 h3 A31 j l5 h5 A51 N5) (fun i _ => N5 - (intOf i).toNat)
      case atStart => exact ⟨0, Nat.zero_le _, rfl, K1.out⟩
      case round =>
        obtain ⟨i, hi, rfl, K⟩ := hrel
        by_cases hlt2 : i < N5
        · obtain ⟨k, rfl, ⟨F, row⟩, x⟩ := K.second (by omega)
          have c1 := row.cell hlt2
          have fr := row.free i
          have y1 : (i : Int) < (N5 : Int) := by omega
          have HX := Lib.hid x
          clear K x row K1
          go_wp2
          exact ⟨⟨i + 1, by omega, by go_num, HX.out _ _⟩, by simp [intOf]; omega⟩
        · have e : i = N5 := by omega
          subst e
          have K2 := Lib.hid K
          clear K K1
          go_wp2_with fail
          refine (rsame_eq _ _ _ _ _ _ _ (by omega) (later HR.out K2.out.bel) K2.out.was.holds).mono ?_
          rintro e ux ⟨rfl, hb⟩
          have HF := Lib.hid (K2.out.bel.trans (hb.mono K2.out.bel.size))
          clear hb
          go_wp2
          go_ret
          exact ⟨rfl, HF.out⟩

theorem makes_any (A : Option Addr) (n c : Nat) (f : Nat → Int) (D : Option Addr) (m d : Nat) (g : Nat → Int) (p q : Int) (w : World)
    (hA : A = none → c = 0) (hD : D = none → d = 0) (hr : Holds w w.heap.size A n f) (hs : Holds w w.heap.size D m g) (hp0 : -9223372036854775808 ≤ p) (hp1 : p ≤ 9223372036854775807) :
    Calls Try.prog 4 #[.slice A n c, .slice D m d, .int .i64 p, .int .i64 q] w fun e w' => e = .returned (.bool true) ∧ Below w.heap.size w w' := by
  cases hn : decide (60 < n ∧ n ≤ 400 ∨ 420 < n)
  · cases hm : decide (60 < m ∧ m ≤ 400 ∨ 420 < m)
    · exact makes_main A n c f D m d g p q w hn hm hA hD hr hs hp0 hp1
    · exact makes_great2 A n c D m d p q w hn hm
  · exact makes_great1 A n c D m d p q w hn
end Go.Proofs.Ytcmpoblbjjoaiaa
