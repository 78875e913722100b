/- PictureChoices: the walk. -/
import Derived.Test.YtmcdfnhpaneanaaPho
import Derived.Test.YtmcdfnhpaneanaaPav
import Derived.BigQuiet
namespace Go.Proofs.Ytmcdfnhpaneanaa
open Go.RowKit
set_option maxRecDepth 100000
set_option linter.unusedVariables false
set_option linter.unusedSimpArgs false

set_option maxHeartbeats 800000 in
theorem choices_no (W H : Int) (A B C : Option Addr) (n c m d k e : Nat) (s : Nat → Bool) (a b : Nat → Int) (w : World) (hg : Holds w w.heap.size A n s) (ha : L2.Holds w w.heap.size B m a) (hb1 : L2.Holds w w.heap.size C k b) (hz : thE W H n m k a b ≠ 0 ∨ 100 < n) :
    Calls Try.prog 9 #[.agg #[.int .i64 W, .int .i64 H, .slice A n c], .slice B m d, .slice C k e] w fun e w' => e = .returned (.bool true) ∧ Below w.heap.size w w' := by
  have HT := Lib.hid (fun u (hb : Below w.heap.size w u) => rth_all W H A B C n c m d k e a b u ((ha.below hb).more hb.size) ((hb1.below hb).more hb.size))
  have z0 : ((0 : Int) != 0) = false := rfl
  clear hg ha hb1
  obtain ⟨z, hz1⟩ : ∃ z, thE W H n m k a b = z := ⟨_, rfl⟩
  rw [hz1] at HT hz
  clear hz1
  by_cases h1 : z = 0
  · subst h1
    have y1 : (100 : Int) < (n : Int) := by
      rcases hz with h | h
      · exact absurd rfl h
      · omega
    clear hz
    have LB0 := Lib.hid (Below.refl w.heap.size w)
    have X1 := Box.new w W H (.slice A n c)
    have X1 := Lib.hid X1
    have LB0 := Lib.hid (LB0.out.alloc LB0.out.size (.cells #[.int .i64 W, .int .i64 H, .slice A n c] 27))
    go_enter Try.func9, Try.ntmps9
    go_upto_region 1 with (fail)
    generalize w.alloc (.cells #[.int .i64 W, .int .i64 H, .slice A n c] 27) = w0 at *
    go_wp2_with fail
    with_reducible refine Calls.mono (alive15_any _) ?_
    rintro e w1 ⟨rfl, hb⟩
    have LB1 := Lib.hid (LB0.out.trans (hb.mono LB0.out.size))
    have X1 := Lib.hid (X1.out.below hb X1.out.lt)
    clear hb LB0 
    obtain ⟨q0, q1, q2, q3, q4, q5, q6⟩ := X1.out.all
    go_wp2_with fail
    clear q0 q1 q2 q3 q4 q5 q6
    with_reducible refine Calls.mono (HT.out _ LB1.out) ?_
    rintro e w2 ⟨rfl, hb⟩
    have LB2 := Lib.hid (LB1.out.trans (hb.mono LB1.out.size))
    have X1 := Lib.hid (X1.out.below hb X1.out.lt)
    clear hb LB1 
    obtain ⟨q0, q1, q2, q3, q4, q5, q6⟩ := X1.out.all
    go_wp2
    go_ret
    exact ⟨rfl, LB2.out⟩
  · have y1 : (z != 0) = true := by simp [h1]
    clear h1 hz
    have LB0 := Lib.hid (Below.refl w.heap.size w)
    have X1 := Box.new w W H (.slice A n c)
    have X1 := Lib.hid X1
    have LB0 := Lib.hid (LB0.out.alloc LB0.out.size (.cells #[.int .i64 W, .int .i64 H, .slice A n c] 27))
    go_enter Try.func9, Try.ntmps9
    go_upto_region 1 with (fail)
    generalize w.alloc (.cells #[.int .i64 W, .int .i64 H, .slice A n c] 27) = w0 at *
    go_wp2_with fail
    with_reducible refine Calls.mono (alive15_any _) ?_
    rintro e w1 ⟨rfl, hb⟩
    have LB1 := Lib.hid (LB0.out.trans (hb.mono LB0.out.size))
    have X1 := Lib.hid (X1.out.below hb X1.out.lt)
    clear hb LB0 
    obtain ⟨q0, q1, q2, q3, q4, q5, q6⟩ := X1.out.all
    go_wp2_with fail
    clear q0 q1 q2 q3 q4 q5 q6
    with_reducible refine Calls.mono (HT.out _ LB1.out) ?_
    rintro e w2 ⟨rfl, hb⟩
    have LB2 := Lib.hid (LB1.out.trans (hb.mono LB1.out.size))
    have X1 := Lib.hid (X1.out.below hb X1.out.lt)
    clear hb LB1 
    obtain ⟨q0, q1, q2, q3, q4, q5, q6⟩ := X1.out.all
    go_wp2
    go_ret
    exact ⟨rfl, LB2.out⟩
end Go.Proofs.Ytmcdfnhpaneanaa
