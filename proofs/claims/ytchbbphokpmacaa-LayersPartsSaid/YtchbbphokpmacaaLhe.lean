/- Held of the program. -/
import Derived.Test.YtchbbphokpmacaaLpp
namespace Go.Proofs.Ytchbbphokpmacaa
open Go.RowKit
set_option maxRecDepth 100000
set_option linter.unusedVariables false
set_option linter.unusedSimpArgs false

/-- What Held says. -/
def hldE (W H : Nat) (a b : Int) : Bool := decide ((0 ≤ a ∧ a < ((W + H : Nat) : Int)) ∧ (0 ≤ b ∧ b < ((W + H : Nat) : Int)))
theorem over_no (W H : Nat) (A : Option Addr) (c : Nat) (g : Nat → Bool) (a b : Int) (w : World) (hg : Holds w w.heap.size A (W * H) g) (hW0 : 1 ≤ W) (hW : W ≤ 64) (hH0 : 1 ≤ H) (hH : H ≤ 64) (h : hldE W H a b = false) :
    Calls Try.prog 66 #[.agg #[.int .i64 (W : Nat), .int .i64 (H : Nat), .slice A (W * H) c], .int .i64 a, .int .i64 b] w (BRet w false 2) := by
  unfold hldE at h
  rw [decide_eq_false_iff_not] at h
  by_cases ha : 0 ≤ a ∧ a < ((W + H : Nat) : Int)
  · exact pover_b W H A c g a b w hg hW0 hW hH0 hH ha fun hb => h ⟨ha, hb⟩
  · exact pover_a W H A c g a b w hg hW0 hW hH0 hH ha
theorem pheld_no (W H : Nat) (A : Option Addr) (c : Nat) (g : Nat → Bool) (a b : Int) (w : World) (hg : Holds w w.heap.size A (W * H) g) (hW0 : 1 ≤ W) (hW : W ≤ 64) (hH0 : 1 ≤ H) (hH : H ≤ 64) (h : hldE W H a b = false) :
    Calls Try.prog 48 #[.agg #[.int .i64 (W : Nat), .int .i64 (H : Nat), .slice A (W * H) c], .int .i64 a, .int .i64 b] w (BRet w false 2) := by
  have HK := Lib.hid (fun u (hb : Below w.heap.size w u) => over_no W H A c g a b u ((hg.below hb).more hb.size) hW0 hW hH0 hH h)
  have LB0 := Lib.hid (show Below w.heap.size w (w.alloc (.cells #[.int .i64 (W : Nat), .int .i64 (H : Nat), (.slice A (W * H) c)] 24)) from (Below.refl _ _).alloc (Nat.le_refl _) _)
  clear hg h
  generalize W * H = M at *
  go_enter Try.func48, Try.ntmps48
  go_wp2_with fail
  with_reducible refine Calls.mono (HK.out _ LB0.out) ?_
  rintro e w1 ⟨rfl, hb⟩
  have LB1 := Lib.hid (LB0.out.trans (hb.mono LB0.out.size))
  clear hb LB0
  go_wp2
  go_ret2
  exact ⟨rfl, LB1.out⟩
theorem pheld_err {W H : Int} {A : Option Addr} {N c : Nat} (a b : Int) (z : Int) (hN : N ≤ 4200) (hz : chk W H N = z) (hne : (z != 0) = true) (w : World) :
    Calls Try.prog 48 #[.agg #[.int .i64 W, .int .i64 H, .slice A N c], .int .i64 a, .int .i64 b] w (BRet w false z) := by
  have HK := Lib.hid (fun u => pover_err (A := A) (c := c) a b z hN hz hne u)
  have LB0 := Lib.hid (show Below w.heap.size w (w.alloc (.cells #[.int .i64 W, .int .i64 H, (.slice A N c)] 24)) from (Below.refl _ _).alloc (Nat.le_refl _) _)
  clear hz
  go_enter Try.func48, Try.ntmps48
  go_wp2_with fail
  with_reducible refine Calls.mono (HK.out _) ?_
  rintro e w1 ⟨rfl, hb⟩
  have LB1 := Lib.hid (LB0.out.trans (hb.mono LB0.out.size))
  clear hb LB0
  go_wp2
  go_ret2
  exact ⟨rfl, LB1.out⟩
set_option maxHeartbeats 800000 in
theorem pheld_n (W H N : Nat) (hNN : W + H = N) (A : Option Addr) (c : Nat) (g : Nat → Bool) (a b : Nat) (w : World) (hg : Holds w w.heap.size A (W * H) g) (hW0 : 1 ≤ W) (hW : W ≤ 64) (hH0 : 1 ≤ H) (hH : H ≤ 64) (ha : a < N) (hb : b < N) :
    Calls Try.prog 48 #[.agg #[.int .i64 (W : Nat), .int .i64 (H : Nat), .slice A (W * H) c], .int .i64 (a : Nat), .int .i64 (b : Nat)] w (BRet w (up (ov W g) N a b) 0) := by
  have hN : N ≤ 128 := by omega
  have HK := Lib.hid (fun u (h : Below w.heap.size w u) => over_nn W H A c g a b u ((hg.below h).more h.size) hW0 hW hH0 hH (by omega) (by omega))
  have HAB := Lib.hid (fun u (h : Below w.heap.size w u) => aboves_n W H N hNN A c g u ((hg.below h).more h.size) hW0 hW hH0 hH)
  have HHO := Lib.hid (fun u D (hl : LLs u D N (LA W N g)) => holders_n (ov W g) N D N (LA W N g) (fun _ _ => rfl) a u hl ha hN)
  have X0 := Lib.hid (Box.new w (W : Nat) (H : Nat) (.slice A (W * H) c))
  have LB0 := Lib.hid (show Below w.heap.size w (w.alloc (.cells #[.int .i64 (W : Nat), .int .i64 (H : Nat), (.slice A (W * H) c)] 24)) from (Below.refl _ _).alloc (Nat.le_refl _) _)
  clear hg hNN
  generalize W * H = M at *
  have y1 : (b : Int) < (N : Int) := by omega
  have y2 : (0 : Int) ≤ (b : Int) := by omega
  go_enter Try.func48, Try.ntmps48
  go_wp2_with fail
  generalize w.alloc (.cells #[.int .i64 (W : Nat), .int .i64 (H : Nat), .slice A M c] 24) = w0 at *
  obtain ⟨q0, q1, q2, q3, q4, q5, q6⟩ := X0.out.all
  go_wp2_with fail
  clear q0 q1 q2 q3 q4 q5 q6
  with_reducible refine Calls.mono (HK.out _ LB0.out) ?_
  rintro e w1 ⟨rfl, hb1⟩
  have X1 := Lib.hid (X0.out.below hb1 X0.out.lt)
  have LB1 := Lib.hid (LB0.out.trans (hb1.mono LB0.out.size))
  clear hb1 X0 LB0 HK
  obtain ⟨q0, q1, q2, q3, q4, q5, q6⟩ := X1.out.all
  go_wp2_with fail
  clear q0 q1 q2 q3 q4 q5 q6
  with_reducible refine Calls.mono (HAB.out _ LB1.out) ?_
  rintro e w2 ⟨ka, rfl, hla, hb1⟩
  have LB2 := Lib.hid (LB1.out.trans (hb1.mono LB1.out.size))
  have HHk := Lib.hid (HHO.out w2 (some ⟨ka, 0, none⟩) hla)
  clear hb1 X1 LB1 HAB HHO hla
  go_wp2_with fail
  with_reducible refine Calls.mono HHk.out ?_
  rintro e w3 ⟨kh, rfl, hkh, hrow, hb1⟩
  have LB3 := Lib.hid (LB2.out.trans (hb1.mono LB2.out.size))
  have c1 := hrow.cell hb
  clear hb1 LB2 hrow hkh HHk
  go_wp2
  go_ret2
  exact ⟨rfl, LB3.out⟩
end Go.Proofs.Ytchbbphokpmacaa
