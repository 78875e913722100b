/- GridBack's walks: every case of the grid and of the string. -/
import Derived.Test.YtnamjpdbadjgpaaValid
import Derived.Test.YtnamjpdbadjgpaaBackw
namespace Go.Proofs.Ytnamjpdbadjgpaa
open Go.RowKit
set_option linter.unusedVariables false
set_option linter.unusedSimpArgs false


theorem back_yes_long (W H : Nat) (A : Option Addr) (c : Nat) (f : Nat → Bool) (s : ByteArray) (w : World) (hr : Holds w w.heap.size A (W * H) f) (a1 : 1 ≤ W) (a2 : W ≤ 64) (a3 : 1 ≤ H) (a4 : H ≤ 64) (hl : 5000 < s.size) (hb63 : s.size < 2 ^ 63) :
    Calls Try.prog 7 #[.agg #[.int .i64 W, .int .i64 H, .slice A (W * H) c], .string s] w fun e w' => e = .returned (.bool true) ∧ Below w.heap.size w w' := by
  have HV := Lib.hid (fun w => valid_yes W H A (W * H) c w (prod_le a2 a4) (chk_zero a1 a2 a3 a4))
  have HX1 := Lib.hid (fun w2 (hb : Below w.heap.size w w2) => text_T W H A c f w2 ((hr.below hb).more hb.size) a1 a2 a3 a4)
  have HP1 := Lib.hid (fun w2 => parse_T W H f w2 a1 a2 a3 a4)
  have HS := Lib.hid (fun w2 (hb : Below w.heap.size w w2) k (hk : k < w2.heap.size) (hR : Row w2 k (W * H) f) => rsame_eq W H A (some ⟨k, 0, none⟩) (W * H) c (W * H) f w2 (prod_le a2 a4) ((hr.below hb).more hb.size) (hR.holds hk))
  have HA := Lib.hid alive_yes
  have hd : decide ((5000 : Int) < (s.size : Int)) = true := by simp; omega
  clear hr a1 a2 a3 a4 hl
  generalize T W H f = str at *
  have hbx := Lib.hid (Box.new w W H (.slice A (W * H) c))
  have hbel := Lib.hid ((Below.refl w.heap.size w).alloc (Nat.le_refl _) (.cells #[.int .i64 W, .int .i64 H, .slice A (W * H) c] 24))
  obtain ⟨p0, p1, p2, p3, p4, p5, p6⟩ := hbx.out.all
  go_enter Try.func7, Try.ntmps7
  go_wp2_with fail
  refine (HV.out _).mono ?_
  rintro e w2 ⟨rfl, bel⟩
  have G2 := Lib.hid (hbx.out.below bel hbx.out.lt)
  have B0 := Lib.hid (hbel.out.trans (bel.mono hbel.out.size))
  clear hbx hbel bel p0 p1 p2 p3 p4 p5 p6
  obtain ⟨p0, p1, p2, p3, p4, p5, p6⟩ := G2.out.all
  go_wp2_with fail
  refine (HX1.out _ B0.out).mono ?_
  rintro e w3 ⟨rfl, bel⟩
  have G3 := Lib.hid (G2.out.below bel G2.out.lt)
  have B3 := Lib.hid (B0.out.trans (bel.mono B0.out.size))
  clear G2 B0 bel HX1 p0 p1 p2 p3 p4 p5 p6
  go_wp2_with fail
  refine (HP1.out _).mono ?_
  rintro e w4 ⟨k0, rfl, hk0, hR0, bel⟩
  have B4 := Lib.hid (B3.out.trans (bel.mono B3.out.size))
  have J := Lib.hid (Box.new w4 W H (.slice (some ⟨k0, 0, none⟩) (W * H) (W * H)))
  have G5 := Lib.hid ((G3.out.below bel G3.out.lt).alloc (.cells #[.int .i64 W, .int .i64 H, .slice (some ⟨k0, 0, none⟩) (W * H) (W * H)] 24))
  have B5 := Lib.hid (B4.out.alloc B4.out.size (.cells #[.int .i64 W, .int .i64 H, .slice (some ⟨k0, 0, none⟩) (W * H) (W * H)] 24))
  have R5 := Lib.hid (hR0.alloc (.cells #[.int .i64 W, .int .i64 H, .slice (some ⟨k0, 0, none⟩) (W * H) (W * H)] 24))
  clear hk0 hR0 bel G3 B3 B4 HP1
  obtain ⟨p0, p1, p2, p3, p4, p5, p6⟩ := G5.out.all
  obtain ⟨q0, q1, q2, q3, q4, q5, q6⟩ := J.out.all
  go_wp2_with fail
  refine (HS.out _ B5.out k0 R5.out.lt R5.out).mono ?_
  rintro e w6 ⟨rfl, bel⟩
  have B2 := Lib.hid (B5.out.trans (bel.mono B5.out.size))
  clear bel HS B5 R5 G5 J p0 p1 p2 p3 p4 p5 p6 q0 q1 q2 q3 q4 q5 q6
  go_wp2_with fail
  refine (HA.out _).mono ?_
  rintro e w9 ⟨rfl, bel⟩
  have B9 := Lib.hid (B2.out.trans (bel.mono B2.out.size))
  clear B2 bel
  go_wp2_with fail
  refine bodyPost_ret (v := .bool true) (by simp [results, Try.results7, go_sem]) rfl ⟨rfl, B9.out⟩

theorem back_yes_none (W H : Nat) (A : Option Addr) (c : Nat) (f : Nat → Bool) (s : ByteArray) (w : World) (hr : Holds w w.heap.size A (W * H) f) (a1 : 1 ≤ W) (a2 : W ≤ 64) (a3 : 1 ≤ H) (a4 : H ≤ 64) (hs : s.size ≤ 5000) (hT : ∀ w h, ¬ Txt s w h) (hb63 : s.size < 2 ^ 63) :
    Calls Try.prog 7 #[.agg #[.int .i64 W, .int .i64 H, .slice A (W * H) c], .string s] w fun e w' => e = .returned (.bool true) ∧ Below w.heap.size w w' := by
  have HV := Lib.hid (fun w => valid_yes W H A (W * H) c w (prod_le a2 a4) (chk_zero a1 a2 a3 a4))
  have HX1 := Lib.hid (fun w2 (hb : Below w.heap.size w w2) => text_T W H A c f w2 ((hr.below hb).more hb.size) a1 a2 a3 a4)
  have HP1 := Lib.hid (fun w2 => parse_T W H f w2 a1 a2 a3 a4)
  have HS := Lib.hid (fun w2 (hb : Below w.heap.size w w2) k (hk : k < w2.heap.size) (hR : Row w2 k (W * H) f) => rsame_eq W H A (some ⟨k, 0, none⟩) (W * H) c (W * H) f w2 (prod_le a2 a4) ((hr.below hb).more hb.size) (hR.holds hk))
  have HA := Lib.hid alive_yes
  have hd : decide ((5000 : Int) < (s.size : Int)) = false := by simp; omega
  have HP := Lib.hid (fun w => parse_none s w hs hT)
  clear hr a1 a2 a3 a4 hs hT
  generalize T W H f = str at *
  have hbx := Lib.hid (Box.new w W H (.slice A (W * H) c))
  have hbel := Lib.hid ((Below.refl w.heap.size w).alloc (Nat.le_refl _) (.cells #[.int .i64 W, .int .i64 H, .slice A (W * H) c] 24))
  obtain ⟨p0, p1, p2, p3, p4, p5, p6⟩ := hbx.out.all
  go_enter Try.func7, Try.ntmps7
  go_wp2_with fail
  refine (HV.out _).mono ?_
  rintro e w2 ⟨rfl, bel⟩
  have G2 := Lib.hid (hbx.out.below bel hbx.out.lt)
  have B0 := Lib.hid (hbel.out.trans (bel.mono hbel.out.size))
  clear hbx hbel bel p0 p1 p2 p3 p4 p5 p6
  obtain ⟨p0, p1, p2, p3, p4, p5, p6⟩ := G2.out.all
  go_wp2_with fail
  refine (HX1.out _ B0.out).mono ?_
  rintro e w3 ⟨rfl, bel⟩
  have G3 := Lib.hid (G2.out.below bel G2.out.lt)
  have B3 := Lib.hid (B0.out.trans (bel.mono B0.out.size))
  clear G2 B0 bel HX1 p0 p1 p2 p3 p4 p5 p6
  go_wp2_with fail
  refine (HP1.out _).mono ?_
  rintro e w4 ⟨k0, rfl, hk0, hR0, bel⟩
  have B4 := Lib.hid (B3.out.trans (bel.mono B3.out.size))
  have J := Lib.hid (Box.new w4 W H (.slice (some ⟨k0, 0, none⟩) (W * H) (W * H)))
  have G5 := Lib.hid ((G3.out.below bel G3.out.lt).alloc (.cells #[.int .i64 W, .int .i64 H, .slice (some ⟨k0, 0, none⟩) (W * H) (W * H)] 24))
  have B5 := Lib.hid (B4.out.alloc B4.out.size (.cells #[.int .i64 W, .int .i64 H, .slice (some ⟨k0, 0, none⟩) (W * H) (W * H)] 24))
  have R5 := Lib.hid (hR0.alloc (.cells #[.int .i64 W, .int .i64 H, .slice (some ⟨k0, 0, none⟩) (W * H) (W * H)] 24))
  clear hk0 hR0 bel G3 B3 B4 HP1
  obtain ⟨p0, p1, p2, p3, p4, p5, p6⟩ := G5.out.all
  obtain ⟨q0, q1, q2, q3, q4, q5, q6⟩ := J.out.all
  go_wp2_with fail
  refine (HS.out _ B5.out k0 R5.out.lt R5.out).mono ?_
  rintro e w6 ⟨rfl, bel⟩
  have B2 := Lib.hid (B5.out.trans (bel.mono B5.out.size))
  clear bel HS B5 R5 G5 J p0 p1 p2 p3 p4 p5 p6 q0 q1 q2 q3 q4 q5 q6
  go_wp2_with fail
  refine (HP.out _).mono ?_
  rintro e w7 ⟨rfl, bel⟩
  have B7 := Lib.hid (B2.out.trans (bel.mono B2.out.size))
  have B8 := Lib.hid (B7.out.alloc B7.out.size (.cells #[.int .i64 0, .int .i64 0, .slice none 0 0] 24))
  clear B2 bel
  go_wp2_with fail
  refine (HA.out _).mono ?_
  rintro e w9 ⟨rfl, bel⟩
  have B9 := Lib.hid (B8.out.trans (bel.mono B8.out.size))
  clear B8 bel
  go_wp2_with fail
  refine bodyPost_ret (v := .bool true) (by simp [results, Try.results7, go_sem]) rfl ⟨rfl, B9.out⟩

theorem back_yes_text (W H : Nat) (A : Option Addr) (c : Nat) (f : Nat → Bool) (s : ByteArray) (w : World) (hr : Holds w w.heap.size A (W * H) f) (a1 : 1 ≤ W) (a2 : W ≤ 64) (a3 : 1 ≤ H) (a4 : H ≤ 64) (hs : s.size ≤ 5000) (P Q : Nat) (hT : Txt s P Q) (hb63 : s.size < 2 ^ 63) :
    Calls Try.prog 7 #[.agg #[.int .i64 W, .int .i64 H, .slice A (W * H) c], .string s] w fun e w' => e = .returned (.bool true) ∧ Below w.heap.size w w' := by
  have HV := Lib.hid (fun w => valid_yes W H A (W * H) c w (prod_le a2 a4) (chk_zero a1 a2 a3 a4))
  have HX1 := Lib.hid (fun w2 (hb : Below w.heap.size w w2) => text_T W H A c f w2 ((hr.below hb).more hb.size) a1 a2 a3 a4)
  have HP1 := Lib.hid (fun w2 => parse_T W H f w2 a1 a2 a3 a4)
  have HS := Lib.hid (fun w2 (hb : Below w.heap.size w w2) k (hk : k < w2.heap.size) (hR : Row w2 k (W * H) f) => rsame_eq W H A (some ⟨k, 0, none⟩) (W * H) c (W * H) f w2 (prod_le a2 a4) ((hr.below hb).more hb.size) (hR.holds hk))
  have HA := Lib.hid alive_yes
  have hd : decide ((5000 : Int) < (s.size : Int)) = false := by simp; omega
  have HP := Lib.hid (fun w => parse_text s P Q hT w)
  have HX := Lib.hid (fun w k hR => text_text s P Q hT w k hR)
  have HC := Lib.hid (fun w A => check_text s P Q hT w A)
  clear hr a1 a2 a3 a4 hs hT
  generalize T W H f = str at *
  have hbx := Lib.hid (Box.new w W H (.slice A (W * H) c))
  have hbel := Lib.hid ((Below.refl w.heap.size w).alloc (Nat.le_refl _) (.cells #[.int .i64 W, .int .i64 H, .slice A (W * H) c] 24))
  obtain ⟨p0, p1, p2, p3, p4, p5, p6⟩ := hbx.out.all
  go_enter Try.func7, Try.ntmps7
  go_wp2_with fail
  refine (HV.out _).mono ?_
  rintro e w2 ⟨rfl, bel⟩
  have G2 := Lib.hid (hbx.out.below bel hbx.out.lt)
  have B0 := Lib.hid (hbel.out.trans (bel.mono hbel.out.size))
  clear hbx hbel bel p0 p1 p2 p3 p4 p5 p6
  obtain ⟨p0, p1, p2, p3, p4, p5, p6⟩ := G2.out.all
  go_wp2_with fail
  refine (HX1.out _ B0.out).mono ?_
  rintro e w3 ⟨rfl, bel⟩
  have G3 := Lib.hid (G2.out.below bel G2.out.lt)
  have B3 := Lib.hid (B0.out.trans (bel.mono B0.out.size))
  clear G2 B0 bel HX1 p0 p1 p2 p3 p4 p5 p6
  go_wp2_with fail
  refine (HP1.out _).mono ?_
  rintro e w4 ⟨k0, rfl, hk0, hR0, bel⟩
  have B4 := Lib.hid (B3.out.trans (bel.mono B3.out.size))
  have J := Lib.hid (Box.new w4 W H (.slice (some ⟨k0, 0, none⟩) (W * H) (W * H)))
  have G5 := Lib.hid ((G3.out.below bel G3.out.lt).alloc (.cells #[.int .i64 W, .int .i64 H, .slice (some ⟨k0, 0, none⟩) (W * H) (W * H)] 24))
  have B5 := Lib.hid (B4.out.alloc B4.out.size (.cells #[.int .i64 W, .int .i64 H, .slice (some ⟨k0, 0, none⟩) (W * H) (W * H)] 24))
  have R5 := Lib.hid (hR0.alloc (.cells #[.int .i64 W, .int .i64 H, .slice (some ⟨k0, 0, none⟩) (W * H) (W * H)] 24))
  clear hk0 hR0 bel G3 B3 B4 HP1
  obtain ⟨p0, p1, p2, p3, p4, p5, p6⟩ := G5.out.all
  obtain ⟨q0, q1, q2, q3, q4, q5, q6⟩ := J.out.all
  go_wp2_with fail
  refine (HS.out _ B5.out k0 R5.out.lt R5.out).mono ?_
  rintro e w6 ⟨rfl, bel⟩
  have B2 := Lib.hid (B5.out.trans (bel.mono B5.out.size))
  clear bel HS B5 R5 G5 J p0 p1 p2 p3 p4 p5 p6 q0 q1 q2 q3 q4 q5 q6
  go_wp2_with fail
  refine (HP.out _).mono ?_
  rintro e w7 ⟨k, rfl, hk, hR, bel⟩
  have B7 := Lib.hid (B2.out.trans (bel.mono B2.out.size))
  have bH := Lib.hid (Box.new w7 P Q (.slice (some ⟨k, 0, none⟩) (P * Q) (P * Q)))
  have B8 := Lib.hid (B7.out.alloc B7.out.size (.cells #[.int .i64 P, .int .i64 Q, .slice (some ⟨k, 0, none⟩) (P * Q) (P * Q)] 24))
  have HT := Lib.hid (HX.out _ k (hR.alloc (.cells #[.int .i64 P, .int .i64 Q, .slice (some ⟨k, 0, none⟩) (P * Q) (P * Q)] 24)))
  clear B2 bel hk hR B7 HX HP
  obtain ⟨p0, p1, p2, p3, p4, p5, p6⟩ := bH.out.all
  go_wp2_with fail
  refine HT.out.mono ?_
  rintro e w9 ⟨rfl, bel⟩
  have B9 := Lib.hid (B8.out.trans (bel.mono B8.out.size))
  have bH9 := Lib.hid (bH.out.below bel bH.out.lt)
  clear B8 bel HT bH p0 p1 p2 p3 p4 p5 p6
  obtain ⟨p0, p1, p2, p3, p4, p5, p6⟩ := bH9.out.all
  go_wp2_with fail
  refine (HC.out _ _).mono ?_
  rintro e w10 ⟨rfl, bel⟩
  have B10 := Lib.hid (B9.out.trans (bel.mono B9.out.size))
  clear B9 bel bH9 p0 p1 p2 p3 p4 p5 p6
  go_wp2_with fail
  refine (HA.out _).mono ?_
  rintro e w11 ⟨rfl, bel⟩
  have B11 := Lib.hid (B10.out.trans (bel.mono B10.out.size))
  clear B10 bel
  go_wp2_with fail
  refine bodyPost_ret (v := .bool true) (by simp [results, Try.results7, go_sem]) rfl ⟨rfl, B11.out⟩

end Go.Proofs.Ytnamjpdbadjgpaa
