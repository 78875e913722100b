/- Hangs and Apart of both sides. -/
import Derived.Test.YtgmcbdnfgdmmaaaHpb
import Derived.Test.YtgmcbdnfgdmmaaaHvv
namespace Go.Proofs.Ytgmcbdnfgdmmaaa
open Go.RowKit
set_option maxRecDepth 100000
set_option linter.unusedVariables false
set_option linter.unusedSimpArgs false

set_option maxHeartbeats 800000 in
theorem phangs_err {W H : Int} {A : Option Addr} {N c : Nat} (z : Int) (hN : N ≤ 4200) (hz : chk W H N = z) (hne : (z != 0) = true) (w : World) :
    Calls Try.prog 39 #[.agg #[.int .i64 W, .int .i64 H, .slice A N c]] w (BRet w false z) := by
  have HK := Lib.hid (fun u => papart_err (A := A) (c := c) z hN hz hne u)
  have LB0 := Lib.hid (show Below w.heap.size w (w.alloc (.cells #[.int .i64 W, .int .i64 H, (.slice A N c)] 24)) from (Below.refl _ _).alloc (Nat.le_refl _) _)
  have hne' : (z == 0) = false := by simpa using hne
  clear hz
  go_enter Try.func39, Try.ntmps39
  go_wp2_with fail
  with_reducible refine Calls.mono (HK.out _) ?_
  rintro e w1 ⟨D, c, rfl, _, _, hb⟩
  have LB1 := Lib.hid (LB0.out.trans (hb.mono LB0.out.size))
  clear hb LB0
  go_wp2
  go_ret2
  exact ⟨rfl, LB1.out⟩
set_option maxHeartbeats 800000 in
theorem phangs_core (W H N : Nat) (hNN : W + H = N) (A : Option Addr) (c : Nat) (g : Nat → Bool) (w : World) (hg : Holds w w.heap.size A (W * H) g) (hW0 : 1 ≤ W) (hW : W ≤ 64) (hH0 : 1 ≤ H) (hH : H ≤ 64) (q : Bool) (hq : hgs (ov W g) N = q) : Calls Try.prog 39 #[.agg #[.int .i64 (W : Nat), .int .i64 (H : Nat), .slice A (W * H) c]] w (BRet w q 0) := by
  have HP := Lib.hid (show 0 < (ofl (up (ov W g) N (t0 (ov W g) N)) N).length from ofl_pos (R := ov W g) (t0_lt (by omega)))
  have HAP := Lib.hid (fun u (h : Below w.heap.size w u) => papart_core W H N hNN A c g u ((hg.below h).more h.size) hW0 hW hH0 hH q hq _ rfl)
  have X0 := Lib.hid (Box.new w (W : Nat) (H : Nat) (.slice A (W * H) c))
  have LB0 := Lib.hid (show Below w.heap.size w (w.alloc (.cells #[.int .i64 (W : Nat), .int .i64 (H : Nat), (.slice A (W * H) c)] 24)) from (Below.refl _ _).alloc (Nat.le_refl _) _)
  clear hg hNN hq
  generalize W * H = M at *
  generalize ofl (up (ov W g) N (t0 (ov W g) N)) N = l at *
  cases q
  · have HAQ := Lib.hid (fun u h => (show Calls Try.prog 84 _ u (PRet u l 0) from HAP.out u h))
    clear HAP
    go_enter Try.func39, Try.ntmps39
    go_wp2_with fail
    generalize w.alloc (.cells #[.int .i64 (W : Nat), .int .i64 (H : Nat), .slice A M c] 24) = w0 at *
    obtain ⟨q0, q1, q2, q3, q4, q5, q6⟩ := X0.out.all
    go_wp2_with fail
    clear q0 q1 q2 q3 q4 q5 q6
    with_reducible refine Calls.mono (HAQ.out _ LB0.out) ?_
    rintro e w1 ⟨D, d, rfl, _, _, hb⟩
    have LB1 := Lib.hid (LB0.out.trans (hb.mono LB0.out.size))
    have z1 : ((l.length : Int) == 0) = false := by have := HP.out; rw [beq_eq_false_iff_ne]; omega
    obtain ⟨n, hn⟩ : ∃ n, l.length = n := ⟨_, rfl⟩
    rw [hn] at z1 ⊢
    clear hb LB0 X0 HP hn
    go_wp2
    go_ret2
    exact ⟨rfl, LB1.out⟩
  · have HAQ := Lib.hid (fun u h => (show Calls Try.prog 84 _ u (PRet u [] 0) from HAP.out u h))
    clear HAP
    go_enter Try.func39, Try.ntmps39
    go_wp2_with fail
    generalize w.alloc (.cells #[.int .i64 (W : Nat), .int .i64 (H : Nat), .slice A M c] 24) = w0 at *
    obtain ⟨q0, q1, q2, q3, q4, q5, q6⟩ := X0.out.all
    go_wp2_with fail
    clear q0 q1 q2 q3 q4 q5 q6
    with_reducible refine Calls.mono (HAQ.out _ LB0.out) ?_
    rintro e w1 ⟨D, d, rfl, _, _, hb⟩
    have LB1 := Lib.hid (LB0.out.trans (hb.mono LB0.out.size))
    clear hb LB0 X0
    go_wp2
    go_ret2
    exact ⟨rfl, LB1.out⟩
end Go.Proofs.Ytgmcbdnfgdmmaaa
