/- GridBack's walks: every case of the grid and of the string. -/
import Derived.Test.YtnamjpdbadjgpaaValid
import Derived.Test.YtnamjpdbadjgpaaAlive
namespace Go.Proofs.Ytnamjpdbadjgpaa
open Go.RowKit
set_option linter.unusedVariables false
set_option linter.unusedSimpArgs false

theorem parse_text (s : ByteArray) (P Q : Nat) (ht : Txt s P Q) (w : World) : Calls Try.prog 29 #[.string s] w (OkGrid w P Q fun i => bitS s ((Q - 1 - i / P) * (P + 1) + i % P)) := by
  have h := parse_T P Q (fun i => bitS s ((Q - 1 - i / P) * (P + 1) + i % P)) w ht.1 ht.2.1 ht.2.2.1 ht.2.2.2.1
  rw [txt_T s P Q ht] at h
  exact h
theorem text_text (s : ByteArray) (P Q : Nat) (ht : Txt s P Q) (w : World) (k : Nat) (hR : Row w k (P * Q) fun i => bitS s ((Q - 1 - i / P) * (P + 1) + i % P)) :
    Calls Try.prog 27 #[.agg #[.int .i64 P, .int .i64 Q, .slice (some ⟨k, 0, none⟩) (P * Q) (P * Q)]] w fun e w' => e = .returned (.tuple #[.string s, .int .i64 0]) ∧ Below w.heap.size w w' := by
  have h := text_T P Q (some ⟨k, 0, none⟩) (P * Q) _ w (hR.holds hR.lt) ht.1 ht.2.1 ht.2.2.1 ht.2.2.2.1
  rw [txt_T s P Q ht] at h
  exact h
theorem check_text (s : ByteArray) (P Q : Nat) (ht : Txt s P Q) (w : World) (A : Option Addr) :
    Calls Try.prog 20 #[.agg #[.int .i64 P, .int .i64 Q, .slice A (P * Q) (P * Q)]] w fun e w' => e = .returned (.int .i64 0) ∧ Below w.heap.size w w' := by
  have h := chk_any P Q A (P * Q) (P * Q) w (prod_le ht.2.1 ht.2.2.2.1)
  rw [chk_zero ht.1 ht.2.1 ht.2.2.1 ht.2.2.2.1] at h
  exact h

theorem back_great_long (W H : Int) (A : Option Addr) (n c : Nat) (s : ByteArray) (w : World) (hn : 4200 < n) (hl : 5000 < s.size) (hb63 : s.size < 2 ^ 63) :
    Calls Try.prog 7 #[.agg #[.int .i64 W, .int .i64 H, .slice A n c], .string s] w fun e w' => e = .returned (.bool true) ∧ Below w.heap.size w w' := by
  have HV := Lib.hid (fun w => valid_great W H A n c w hn)
  have HA := Lib.hid alive_yes
  have hd : decide ((5000 : Int) < (s.size : Int)) = true := by simp; omega
  clear hn hl
  have hbx := Lib.hid (Box.new w W H (.slice A n c))
  have hbel := Lib.hid ((Below.refl w.heap.size w).alloc (Nat.le_refl _) (.cells #[.int .i64 W, .int .i64 H, .slice A n c] 24))
  obtain ⟨p0, p1, p2, p3, p4, p5, p6⟩ := hbx.out.all
  go_enter Try.func7, Try.ntmps7
  go_wp2_with fail
  refine (HV.out _).mono ?_
  rintro e w2 ⟨rfl, bel⟩
  have B2 := Lib.hid (hbel.out.trans (bel.mono hbel.out.size))
  clear hbx hbel bel p0 p1 p2 p3 p4 p5 p6
  go_wp2_with fail
  refine (HA.out _).mono ?_
  rintro e w9 ⟨rfl, bel⟩
  have B9 := Lib.hid (B2.out.trans (bel.mono B2.out.size))
  clear B2 bel
  go_wp2_with fail
  refine bodyPost_ret (v := .bool true) (by simp [results, Try.results7, go_sem]) rfl ⟨rfl, B9.out⟩

theorem back_great_none (W H : Int) (A : Option Addr) (n c : Nat) (s : ByteArray) (w : World) (hn : 4200 < n) (hs : s.size ≤ 5000) (hT : ∀ w h, ¬ Txt s w h) (hb63 : s.size < 2 ^ 63) :
    Calls Try.prog 7 #[.agg #[.int .i64 W, .int .i64 H, .slice A n c], .string s] w fun e w' => e = .returned (.bool true) ∧ Below w.heap.size w w' := by
  have HV := Lib.hid (fun w => valid_great W H A n c w hn)
  have HA := Lib.hid alive_yes
  have hd : decide ((5000 : Int) < (s.size : Int)) = false := by simp; omega
  have HP := Lib.hid (fun w => parse_none s w hs hT)
  clear hn hs hT
  have hbx := Lib.hid (Box.new w W H (.slice A n c))
  have hbel := Lib.hid ((Below.refl w.heap.size w).alloc (Nat.le_refl _) (.cells #[.int .i64 W, .int .i64 H, .slice A n c] 24))
  obtain ⟨p0, p1, p2, p3, p4, p5, p6⟩ := hbx.out.all
  go_enter Try.func7, Try.ntmps7
  go_wp2_with fail
  refine (HV.out _).mono ?_
  rintro e w2 ⟨rfl, bel⟩
  have B2 := Lib.hid (hbel.out.trans (bel.mono hbel.out.size))
  clear hbx hbel bel p0 p1 p2 p3 p4 p5 p6
  go_wp2_with fail
  refine (HP.out _).mono ?_
  rintro e w7 ⟨rfl, bel⟩
  have B7 := Lib.hid (B2.out.trans (bel.mono B2.out.size))
  have B8 := Lib.hid (B7.out.alloc B7.out.size (.cells #[.int .i64 0, .int .i64 0, .slice none 0 0] 24))
  clear B2 bel
  go_wp2_with fail
  refine (HA.out _).mono ?_
  rintro e w9 ⟨rfl, bel⟩
  have B9 := Lib.hid (B8.out.trans (bel.mono B8.out.size))
  clear B8 bel
  go_wp2_with fail
  refine bodyPost_ret (v := .bool true) (by simp [results, Try.results7, go_sem]) rfl ⟨rfl, B9.out⟩

theorem back_great_text (W H : Int) (A : Option Addr) (n c : Nat) (s : ByteArray) (w : World) (hn : 4200 < n) (hs : s.size ≤ 5000) (P Q : Nat) (hT : Txt s P Q) (hb63 : s.size < 2 ^ 63) :
    Calls Try.prog 7 #[.agg #[.int .i64 W, .int .i64 H, .slice A n c], .string s] w fun e w' => e = .returned (.bool true) ∧ Below w.heap.size w w' := by
  have HV := Lib.hid (fun w => valid_great W H A n c w hn)
  have HA := Lib.hid alive_yes
  have hd : decide ((5000 : Int) < (s.size : Int)) = false := by simp; omega
  have HP := Lib.hid (fun w => parse_text s P Q hT w)
  have HX := Lib.hid (fun w k hR => text_text s P Q hT w k hR)
  have HC := Lib.hid (fun w A => check_text s P Q hT w A)
  clear hn hs hT
  have hbx := Lib.hid (Box.new w W H (.slice A n c))
  have hbel := Lib.hid ((Below.refl w.heap.size w).alloc (Nat.le_refl _) (.cells #[.int .i64 W, .int .i64 H, .slice A n c] 24))
  obtain ⟨p0, p1, p2, p3, p4, p5, p6⟩ := hbx.out.all
  go_enter Try.func7, Try.ntmps7
  go_wp2_with fail
  refine (HV.out _).mono ?_
  rintro e w2 ⟨rfl, bel⟩
  have B2 := Lib.hid (hbel.out.trans (bel.mono hbel.out.size))
  clear hbx hbel bel p0 p1 p2 p3 p4 p5 p6
  go_wp2_with fail
  refine (HP.out _).mono ?_
  rintro e w7 ⟨k, rfl, hk, hR, bel⟩
  have B7 := Lib.hid (B2.out.trans (bel.mono B2.out.size))
  have bH := Lib.hid (Box.new w7 P Q (.slice (some ⟨k, 0, none⟩) (P * Q) (P * Q)))
  have B8 := Lib.hid (B7.out.alloc B7.out.size (.cells #[.int .i64 P, .int .i64 Q, .slice (some ⟨k, 0, none⟩) (P * Q) (P * Q)] 24))
  have HT := Lib.hid (HX.out _ k (hR.alloc (.cells #[.int .i64 P, .int .i64 Q, .slice (some ⟨k, 0, none⟩) (P * Q) (P * Q)] 24)))
  clear B2 bel hk hR B7 HX HP
  obtain ⟨p0, p1, p2, p3, p4, p5, p6⟩ := bH.out.all
  go_wp2_with fail
  refine HT.out.mono ?_
  rintro e w9 ⟨rfl, bel⟩
  have B9 := Lib.hid (B8.out.trans (bel.mono B8.out.size))
  have bH9 := Lib.hid (bH.out.below bel bH.out.lt)
  clear B8 bel HT bH p0 p1 p2 p3 p4 p5 p6
  obtain ⟨p0, p1, p2, p3, p4, p5, p6⟩ := bH9.out.all
  go_wp2_with fail
  refine (HC.out _ _).mono ?_
  rintro e w10 ⟨rfl, bel⟩
  have B10 := Lib.hid (B9.out.trans (bel.mono B9.out.size))
  clear B9 bel bH9 p0 p1 p2 p3 p4 p5 p6
  go_wp2_with fail
  refine (HA.out _).mono ?_
  rintro e w11 ⟨rfl, bel⟩
  have B11 := Lib.hid (B10.out.trans (bel.mono B10.out.size))
  clear B10 bel
  go_wp2_with fail
  refine bodyPost_ret (v := .bool true) (by simp [results, Try.results7, go_sem]) rfl ⟨rfl, B11.out⟩

theorem back_no_long (W H : Int) (A : Option Addr) (n c : Nat) (s : ByteArray) (w : World) (hn : n ≤ 4200) (h0 : ¬ chk W H n = 0) (hl : 5000 < s.size) (hb63 : s.size < 2 ^ 63) :
    Calls Try.prog 7 #[.agg #[.int .i64 W, .int .i64 H, .slice A n c], .string s] w fun e w' => e = .returned (.bool true) ∧ Below w.heap.size w w' := by
  have HV := Lib.hid (fun w => valid_no W H A n c w hn h0)
  have HA := Lib.hid alive_yes
  have hd : decide ((5000 : Int) < (s.size : Int)) = true := by simp; omega
  clear hn h0 hl
  have hbx := Lib.hid (Box.new w W H (.slice A n c))
  have hbel := Lib.hid ((Below.refl w.heap.size w).alloc (Nat.le_refl _) (.cells #[.int .i64 W, .int .i64 H, .slice A n c] 24))
  obtain ⟨p0, p1, p2, p3, p4, p5, p6⟩ := hbx.out.all
  go_enter Try.func7, Try.ntmps7
  go_wp2_with fail
  refine (HV.out _).mono ?_
  rintro e w2 ⟨rfl, bel⟩
  have B2 := Lib.hid (hbel.out.trans (bel.mono hbel.out.size))
  clear hbx hbel bel p0 p1 p2 p3 p4 p5 p6
  go_wp2_with fail
  refine (HA.out _).mono ?_
  rintro e w9 ⟨rfl, bel⟩
  have B9 := Lib.hid (B2.out.trans (bel.mono B2.out.size))
  clear B2 bel
  go_wp2_with fail
  refine bodyPost_ret (v := .bool true) (by simp [results, Try.results7, go_sem]) rfl ⟨rfl, B9.out⟩

theorem back_no_none (W H : Int) (A : Option Addr) (n c : Nat) (s : ByteArray) (w : World) (hn : n ≤ 4200) (h0 : ¬ chk W H n = 0) (hs : s.size ≤ 5000) (hT : ∀ w h, ¬ Txt s w h) (hb63 : s.size < 2 ^ 63) :
    Calls Try.prog 7 #[.agg #[.int .i64 W, .int .i64 H, .slice A n c], .string s] w fun e w' => e = .returned (.bool true) ∧ Below w.heap.size w w' := by
  have HV := Lib.hid (fun w => valid_no W H A n c w hn h0)
  have HA := Lib.hid alive_yes
  have hd : decide ((5000 : Int) < (s.size : Int)) = false := by simp; omega
  have HP := Lib.hid (fun w => parse_none s w hs hT)
  clear hn h0 hs hT
  have hbx := Lib.hid (Box.new w W H (.slice A n c))
  have hbel := Lib.hid ((Below.refl w.heap.size w).alloc (Nat.le_refl _) (.cells #[.int .i64 W, .int .i64 H, .slice A n c] 24))
  obtain ⟨p0, p1, p2, p3, p4, p5, p6⟩ := hbx.out.all
  go_enter Try.func7, Try.ntmps7
  go_wp2_with fail
  refine (HV.out _).mono ?_
  rintro e w2 ⟨rfl, bel⟩
  have B2 := Lib.hid (hbel.out.trans (bel.mono hbel.out.size))
  clear hbx hbel bel p0 p1 p2 p3 p4 p5 p6
  go_wp2_with fail
  refine (HP.out _).mono ?_
  rintro e w7 ⟨rfl, bel⟩
  have B7 := Lib.hid (B2.out.trans (bel.mono B2.out.size))
  have B8 := Lib.hid (B7.out.alloc B7.out.size (.cells #[.int .i64 0, .int .i64 0, .slice none 0 0] 24))
  clear B2 bel
  go_wp2_with fail
  refine (HA.out _).mono ?_
  rintro e w9 ⟨rfl, bel⟩
  have B9 := Lib.hid (B8.out.trans (bel.mono B8.out.size))
  clear B8 bel
  go_wp2_with fail
  refine bodyPost_ret (v := .bool true) (by simp [results, Try.results7, go_sem]) rfl ⟨rfl, B9.out⟩

theorem back_no_text (W H : Int) (A : Option Addr) (n c : Nat) (s : ByteArray) (w : World) (hn : n ≤ 4200) (h0 : ¬ chk W H n = 0) (hs : s.size ≤ 5000) (P Q : Nat) (hT : Txt s P Q) (hb63 : s.size < 2 ^ 63) :
    Calls Try.prog 7 #[.agg #[.int .i64 W, .int .i64 H, .slice A n c], .string s] w fun e w' => e = .returned (.bool true) ∧ Below w.heap.size w w' := by
  have HV := Lib.hid (fun w => valid_no W H A n c w hn h0)
  have HA := Lib.hid alive_yes
  have hd : decide ((5000 : Int) < (s.size : Int)) = false := by simp; omega
  have HP := Lib.hid (fun w => parse_text s P Q hT w)
  have HX := Lib.hid (fun w k hR => text_text s P Q hT w k hR)
  have HC := Lib.hid (fun w A => check_text s P Q hT w A)
  clear hn h0 hs hT
  have hbx := Lib.hid (Box.new w W H (.slice A n c))
  have hbel := Lib.hid ((Below.refl w.heap.size w).alloc (Nat.le_refl _) (.cells #[.int .i64 W, .int .i64 H, .slice A n c] 24))
  obtain ⟨p0, p1, p2, p3, p4, p5, p6⟩ := hbx.out.all
  go_enter Try.func7, Try.ntmps7
  go_wp2_with fail
  refine (HV.out _).mono ?_
  rintro e w2 ⟨rfl, bel⟩
  have B2 := Lib.hid (hbel.out.trans (bel.mono hbel.out.size))
  clear hbx hbel bel p0 p1 p2 p3 p4 p5 p6
  go_wp2_with fail
  refine (HP.out _).mono ?_
  rintro e w7 ⟨k, rfl, hk, hR, bel⟩
  have B7 := Lib.hid (B2.out.trans (bel.mono B2.out.size))
  have bH := Lib.hid (Box.new w7 P Q (.slice (some ⟨k, 0, none⟩) (P * Q) (P * Q)))
  have B8 := Lib.hid (B7.out.alloc B7.out.size (.cells #[.int .i64 P, .int .i64 Q, .slice (some ⟨k, 0, none⟩) (P * Q) (P * Q)] 24))
  have HT := Lib.hid (HX.out _ k (hR.alloc (.cells #[.int .i64 P, .int .i64 Q, .slice (some ⟨k, 0, none⟩) (P * Q) (P * Q)] 24)))
  clear B2 bel hk hR B7 HX HP
  obtain ⟨p0, p1, p2, p3, p4, p5, p6⟩ := bH.out.all
  go_wp2_with fail
  refine HT.out.mono ?_
  rintro e w9 ⟨rfl, bel⟩
  have B9 := Lib.hid (B8.out.trans (bel.mono B8.out.size))
  have bH9 := Lib.hid (bH.out.below bel bH.out.lt)
  clear B8 bel HT bH p0 p1 p2 p3 p4 p5 p6
  obtain ⟨p0, p1, p2, p3, p4, p5, p6⟩ := bH9.out.all
  go_wp2_with fail
  refine (HC.out _ _).mono ?_
  rintro e w10 ⟨rfl, bel⟩
  have B10 := Lib.hid (B9.out.trans (bel.mono B9.out.size))
  clear B9 bel bH9 p0 p1 p2 p3 p4 p5 p6
  go_wp2_with fail
  refine (HA.out _).mono ?_
  rintro e w11 ⟨rfl, bel⟩
  have B11 := Lib.hid (B10.out.trans (bel.mono B10.out.size))
  clear B10 bel
  go_wp2_with fail
  refine bodyPost_ret (v := .bool true) (by simp [results, Try.results7, go_sem]) rfl ⟨rfl, B11.out⟩

end Go.Proofs.Ytnamjpdbadjgpaa
