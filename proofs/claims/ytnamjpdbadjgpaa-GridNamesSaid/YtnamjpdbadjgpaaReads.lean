/- reads: of the text of a grid and that grid. -/
import Derived.Test.YtnamjpdbadjgpaaParset
import Derived.Test.YtnamjpdbadjgpaaText
import Derived.Test.YtnamjpdbadjgpaaPair
namespace Go.Proofs.Ytnamjpdbadjgpaa
open Go.RowKit
set_option linter.unusedVariables false
set_option linter.unusedSimpArgs false

theorem text_T (W H : Nat) (A : Option Addr) (c : Nat) (f : Nat → Bool) (w : World) (hr : Holds w w.heap.size A (W * H) f) (a1 : 1 ≤ W) (a2 : W ≤ 64) (a3 : 1 ≤ H) (a4 : H ≤ 64) :
    Calls Try.prog 27 #[.agg #[.int .i64 W, .int .i64 H, .slice A (W * H) c]] w fun e w' => e = .returned (.tuple #[.string (T W H f), .int .i64 0]) ∧ Below w.heap.size w w' :=
  text_ok W H A c f w hr a1 a2 a3 a4

theorem reads_yes (W H : Nat) (A : Option Addr) (c : Nat) (f : Nat → Bool) (w : World) (hr : Holds w w.heap.size A (W * H) f) (a1 : 1 ≤ W) (a2 : W ≤ 64) (a3 : 1 ≤ H) (a4 : H ≤ 64) :
    Calls Try.prog 18 #[.string (T W H f), .agg #[.int .i64 W, .int .i64 H, .slice A (W * H) c], .int .i64 0] w fun e w' => e = .returned (.bool true) ∧ Below w.heap.size w w' := by
  have HT := Lib.hid (fun w2 (hb : Below w.heap.size w w2) => text_T W H A c f w2 ((hr.below hb).more hb.size) a1 a2 a3 a4)
  have HP := Lib.hid (fun w2 => parse_T W H f w2 a1 a2 a3 a4)
  have HS := Lib.hid (fun w2 (hb : Below w.heap.size w w2) k (hk : k < w2.heap.size) (hR : Row w2 k (W * H) f) => rsame_eq W H A (some ⟨k, 0, none⟩) (W * H) c (W * H) f w2 (prod_le a2 a4) ((hr.below hb).more hb.size) (hR.holds hk))
  clear hr a1 a2 a3 a4
  generalize T W H f = str at *
  have hbx := Lib.hid (Box.new w W H (.slice A (W * H) c))
  have hbel := Lib.hid ((Below.refl w.heap.size w).alloc (Nat.le_refl _) (.cells #[.int .i64 W, .int .i64 H, .slice A (W * H) c] 24))
  go_enter Try.func18, Try.ntmps18
  go_wp2_with fail
  refine (HT.out _ hbel.out).mono ?_
  rintro e w2 ⟨rfl, bel2⟩
  have hbx2 := Lib.hid (hbx.out.below bel2 hbx.out.lt)
  have hb2 := Lib.hid (hbel.out.trans (bel2.mono hbel.out.size))
  clear hbx hbel bel2
  go_wp2_with fail
  refine (HP.out _).mono ?_
  rintro e w3 ⟨k, rfl, hk, hR, bel3⟩
  have hbx3 := Lib.hid (hbx2.out.below bel3 hbx2.out.lt)
  have hb3 := Lib.hid (hb2.out.trans (bel3.mono hb2.out.size))
  have hbh := Lib.hid (Box.new w3 W H (.slice (some ⟨k, 0, none⟩) (W * H) (W * H)))
  have hbx4 := Lib.hid (hbx3.out.alloc (.cells #[.int .i64 W, .int .i64 H, .slice (some ⟨k, 0, none⟩) (W * H) (W * H)] 24))
  have hb4 := Lib.hid (hb3.out.alloc hb3.out.size (.cells #[.int .i64 W, .int .i64 H, .slice (some ⟨k, 0, none⟩) (W * H) (W * H)] 24))
  have hk3 := Lib.hid hR.lt
  have hR4 := Lib.hid (hR.alloc (.cells #[.int .i64 W, .int .i64 H, .slice (some ⟨k, 0, none⟩) (W * H) (W * H)] 24))
  clear hbx2 hb2 bel3 hbx3 hb3 hR HP HT hk
  obtain ⟨p0, p1, p2, p3, p4, p5, p6⟩ := hbx4.out.all
  obtain ⟨q0, q1, q2, q3, q4, q5, q6⟩ := hbh.out.all
  go_wp2_with fail
  refine (HS.out _ hb4.out k (by have := hk3.out; simp only [World.size_alloc]; omega) hR4.out).mono ?_
  rintro e w5 ⟨rfl, bel5⟩
  have hb5 := Lib.hid (hb4.out.trans (bel5.mono hb4.out.size))
  clear bel5 hb4 hR4 hbx4 hbh p0 p1 p2 p3 p4 p5 p6 q0 q1 q2 q3 q4 q5 q6
  go_wp2_with fail
  refine bodyPost_ret (v := .bool true) (by simp [results, Try.results18, go_sem]) rfl ⟨rfl, hb5.out⟩
end Go.Proofs.Ytnamjpdbadjgpaa
