/- valid: of any grid. -/
import Derived.Test.YtnamjpdbadjgpaaChk
namespace Go.Proofs.Ytnamjpdbadjgpaa
open Go.RowKit
set_option linter.unusedVariables false
set_option linter.unusedSimpArgs false

theorem valid_yes (W H : Int) (A : Option Addr) (n c : Nat) (w : World) (hn : n ≤ 4200) (h0 : chk W H n = 0) :
    Calls Try.prog 43 #[.agg #[.int .i64 W, .int .i64 H, .slice A n c]] w fun e w' => e = .returned (.bool true) ∧ Below w.heap.size w w' := by
  have H1 := Lib.hid (fun w => great_no W H A n c w hn)
  have H2 := Lib.hid (fun w => rchk_any W H A n c w hn)
  rw [h0] at H2
  clear hn h0
  have hbx := Lib.hid (Box.new w W H (.slice A n c))
  have hbel := Lib.hid ((Below.refl w.heap.size w).alloc (Nat.le_refl _) (.cells #[.int .i64 W, .int .i64 H, .slice A n c] 24))
  obtain ⟨p0, p1, p2, p3, p4, p5, p6⟩ := hbx.out.all
  go_enter Try.func43, Try.ntmps43
  go_wp2_with fail
  refine (H1.out _).mono ?_
  rintro e w2 ⟨rfl, bel⟩
  have hbx2 := Lib.hid (hbx.out.below bel hbx.out.lt)
  have B2 := Lib.hid (hbel.out.trans (bel.mono hbel.out.size))
  clear hbx hbel bel p0 p1 p2 p3 p4 p5 p6
  obtain ⟨p0, p1, p2, p3, p4, p5, p6⟩ := hbx2.out.all
  go_wp2_with fail
  refine (H2.out _).mono ?_
  rintro e w3 ⟨rfl, bel⟩
  have B3 := Lib.hid (B2.out.trans (bel.mono B2.out.size))
  clear hbx2 B2 bel p0 p1 p2 p3 p4 p5 p6
  go_wp2_with fail
  refine bodyPost_ret (v := .bool true) (by simp [results, Try.results43, go_sem]) rfl ⟨rfl, B3.out⟩

theorem valid_no (W H : Int) (A : Option Addr) (n c : Nat) (w : World) (hn : n ≤ 4200) (h0 : ¬ chk W H n = 0) :
    Calls Try.prog 43 #[.agg #[.int .i64 W, .int .i64 H, .slice A n c]] w fun e w' => e = .returned (.bool false) ∧ Below w.heap.size w w' := by
  have H1 := Lib.hid (fun w => great_no W H A n c w hn)
  have H2 := Lib.hid (fun w => rchk_any W H A n c w hn)
  have hbd := chk_bd W H n
  have hne : (chk W H n == 0) = false := by simp [h0]
  generalize chk W H n = v at *
  clear hn h0
  have hbx := Lib.hid (Box.new w W H (.slice A n c))
  have hbel := Lib.hid ((Below.refl w.heap.size w).alloc (Nat.le_refl _) (.cells #[.int .i64 W, .int .i64 H, .slice A n c] 24))
  obtain ⟨p0, p1, p2, p3, p4, p5, p6⟩ := hbx.out.all
  go_enter Try.func43, Try.ntmps43
  go_wp2_with fail
  refine (H1.out _).mono ?_
  rintro e w2 ⟨rfl, bel⟩
  have hbx2 := Lib.hid (hbx.out.below bel hbx.out.lt)
  have B2 := Lib.hid (hbel.out.trans (bel.mono hbel.out.size))
  clear hbx hbel bel p0 p1 p2 p3 p4 p5 p6
  obtain ⟨p0, p1, p2, p3, p4, p5, p6⟩ := hbx2.out.all
  go_wp2_with fail
  refine (H2.out _).mono ?_
  rintro e w3 ⟨rfl, bel⟩
  have B3 := Lib.hid (B2.out.trans (bel.mono B2.out.size))
  clear hbx2 B2 bel p0 p1 p2 p3 p4 p5 p6
  go_wp2_with fail
  refine bodyPost_ret (v := .bool false) (by simp [results, Try.results43, go_sem, hne]) rfl ⟨rfl, B3.out⟩

theorem valid_great (W H : Int) (A : Option Addr) (n c : Nat) (w : World) (hn : 4200 < n) :
    Calls Try.prog 43 #[.agg #[.int .i64 W, .int .i64 H, .slice A n c]] w fun e w' => e = .returned (.bool false) ∧ Below w.heap.size w w' := by
  have H1 := Lib.hid (fun w => great_yes W H A n c w hn)
  clear hn
  have hbx := Lib.hid (Box.new w W H (.slice A n c))
  have hbel := Lib.hid ((Below.refl w.heap.size w).alloc (Nat.le_refl _) (.cells #[.int .i64 W, .int .i64 H, .slice A n c] 24))
  obtain ⟨p0, p1, p2, p3, p4, p5, p6⟩ := hbx.out.all
  go_enter Try.func43, Try.ntmps43
  go_wp2_with fail
  refine (H1.out _).mono ?_
  rintro e w2 ⟨rfl, bel⟩
  have B2 := Lib.hid (hbel.out.trans (bel.mono hbel.out.size))
  clear hbx hbel bel p0 p1 p2 p3 p4 p5 p6
  go_wp2_with fail
  refine bodyPost_ret (v := .bool false) (by simp [results, Try.results43, go_sem]) rfl ⟨rfl, B2.out⟩
end Go.Proofs.Ytnamjpdbadjgpaa
