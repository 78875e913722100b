/- The reference: Parts, Held, Split, Layers. -/
import Derived.Test.YtchbbphokpmacaaLqm
import Derived.Test.YtchbbphokpmacaaLsp
import Derived.Test.YtchbbphokpmacaaLhe
namespace Go.Proofs.Ytchbbphokpmacaa
open Go.RowKit
set_option maxRecDepth 100000
set_option linter.unusedVariables false
set_option linter.unusedSimpArgs false

set_option maxHeartbeats 800000 in
theorem rparts_err {W H : Int} {A : Option Addr} {N c : Nat} (z : Int) (hN : N ≤ 4200) (hz : chk W H N = z) (hne : (z != 0) = true) (w : World) :
    Calls Try.prog 55 #[.agg #[.int .i64 W, .int .i64 H, .slice A N c]] w (PaR w (fun _ => []) 0 z) := by
  have HK := Lib.hid (fun u => rchk_err (A := A) (c := c) hN hz u)
  have X0 := Lib.hid (Box.new w W H (.slice A N c))
  have LB0 := Lib.hid (show Below w.heap.size w (w.alloc (.cells #[.int .i64 W, .int .i64 H, (.slice A N c)] 24)) from (Below.refl _ _).alloc (Nat.le_refl _) _)
  clear hz
  go_enter Try.func55, Try.ntmps55
  go_wp2_with fail
  generalize w.alloc (.cells #[.int .i64 W, .int .i64 H, .slice A N c] 24) = w0 at *
  obtain ⟨q0, q1, q2, q3, q4, q5, q6⟩ := X0.out.all
  go_wp2_with fail
  clear q0 q1 q2 q3 q4 q5 q6
  with_reducible refine Calls.mono (HK.out _) ?_
  rintro e w1 ⟨rfl, hb⟩
  have X1 := Lib.hid (X0.out.below hb X0.out.lt)
  have LB1 := Lib.hid (LB0.out.trans (hb.mono LB0.out.size))
  clear hb X0 LB0 
  obtain ⟨q0, q1, q2, q3, q4, q5, q6⟩ := X1.out.all
  go_wp2_with fail
  clear q0 q1 q2 q3 q4 q5 q6
  with_reducible refine Calls.mono (HK.out _) ?_
  rintro e w2 ⟨rfl, hb⟩
  have X2 := Lib.hid (X1.out.below hb X1.out.lt)
  have LB2 := Lib.hid (LB1.out.trans (hb.mono LB1.out.size))
  clear hb X1 LB1 
  go_wp2
  go_ret2
  exact ⟨none, 0, rfl, ⟨fun _ => rfl, Nat.le_refl _⟩, (fun h => absurd h (by omega)), LB2.out⟩
set_option maxHeartbeats 800000 in
theorem rheld_err {W H : Int} {A : Option Addr} {N c : Nat} (a b : Int) (z : Int) (hN : N ≤ 4200) (hz : chk W H N = z) (hne : (z != 0) = true) (w : World) :
    Calls Try.prog 56 #[.agg #[.int .i64 W, .int .i64 H, .slice A N c], .int .i64 a, .int .i64 b] w (BRet w false z) := by
  have HK := Lib.hid (fun u => rchk_err (A := A) (c := c) hN hz u)
  have X0 := Lib.hid (Box.new w W H (.slice A N c))
  have LB0 := Lib.hid (show Below w.heap.size w (w.alloc (.cells #[.int .i64 W, .int .i64 H, (.slice A N c)] 24)) from (Below.refl _ _).alloc (Nat.le_refl _) _)
  clear hz
  go_enter Try.func56, Try.ntmps56
  go_wp2_with fail
  generalize w.alloc (.cells #[.int .i64 W, .int .i64 H, .slice A N c] 24) = w0 at *
  obtain ⟨q0, q1, q2, q3, q4, q5, q6⟩ := X0.out.all
  go_wp2_with fail
  clear q0 q1 q2 q3 q4 q5 q6
  with_reducible refine Calls.mono (HK.out _) ?_
  rintro e w1 ⟨rfl, hb⟩
  have X1 := Lib.hid (X0.out.below hb X0.out.lt)
  have LB1 := Lib.hid (LB0.out.trans (hb.mono LB0.out.size))
  clear hb X0 LB0 
  obtain ⟨q0, q1, q2, q3, q4, q5, q6⟩ := X1.out.all
  go_wp2_with fail
  clear q0 q1 q2 q3 q4 q5 q6
  with_reducible refine Calls.mono (HK.out _) ?_
  rintro e w2 ⟨rfl, hb⟩
  have X2 := Lib.hid (X1.out.below hb X1.out.lt)
  have LB2 := Lib.hid (LB1.out.trans (hb.mono LB1.out.size))
  clear hb X1 LB1 
  go_wp2
  go_ret2
  exact ⟨rfl, LB2.out⟩
set_option maxHeartbeats 800000 in
theorem rsplit_err {W H : Int} {A : Option Addr} {N c : Nat} (n : Int) (z : Int) (hN : N ≤ 4200) (hz : chk W H N = z) (hne : (z != 0) = true) (w : World) :
    Calls Try.prog 58 #[.agg #[.int .i64 W, .int .i64 H, .slice A N c], .int .i64 n] w (SpE w [] [] z) := by
  have HK := Lib.hid (fun u => rchk_err (A := A) (c := c) hN hz u)
  have X0 := Lib.hid (Box.new w W H (.slice A N c))
  have LB0 := Lib.hid (show Below w.heap.size w (w.alloc (.cells #[.int .i64 W, .int .i64 H, (.slice A N c)] 24)) from (Below.refl _ _).alloc (Nat.le_refl _) _)
  clear hz
  go_enter Try.func58, Try.ntmps58
  go_wp2_with fail
  generalize w.alloc (.cells #[.int .i64 W, .int .i64 H, .slice A N c] 24) = w0 at *
  obtain ⟨q0, q1, q2, q3, q4, q5, q6⟩ := X0.out.all
  go_wp2_with fail
  clear q0 q1 q2 q3 q4 q5 q6
  with_reducible refine Calls.mono (HK.out _) ?_
  rintro e w1 ⟨rfl, hb⟩
  have X1 := Lib.hid (X0.out.below hb X0.out.lt)
  have LB1 := Lib.hid (LB0.out.trans (hb.mono LB0.out.size))
  clear hb X0 LB0 
  obtain ⟨q0, q1, q2, q3, q4, q5, q6⟩ := X1.out.all
  go_wp2_with fail
  clear q0 q1 q2 q3 q4 q5 q6
  with_reducible refine Calls.mono (HK.out _) ?_
  rintro e w2 ⟨rfl, hb⟩
  have X2 := Lib.hid (X1.out.below hb X1.out.lt)
  have LB2 := Lib.hid (LB1.out.trans (hb.mono LB1.out.size))
  clear hb X1 LB1 
  go_wp2
  go_ret3
  exact ⟨none, 0, none, 0, rfl, ⟨⟨fun _ => rfl, Nat.le_refl _⟩, ll_nil _ _⟩, ll_nil _ _, LB2.out⟩
set_option maxHeartbeats 800000 in
theorem rlayers_err {W H : Int} {A : Option Addr} {N c : Nat} (z : Int) (hN : N ≤ 4200) (hz : chk W H N = z) (hne : (z != 0) = true) (w : World) :
    Calls Try.prog 57 #[.agg #[.int .i64 W, .int .i64 H, .slice A N c]] w (LsR w (fun _ => []) (fun _ => []) 0 z) := by
  have HK := Lib.hid (fun u => rchk_err (A := A) (c := c) hN hz u)
  have X0 := Lib.hid (Box.new w W H (.slice A N c))
  have LB0 := Lib.hid (show Below w.heap.size w (w.alloc (.cells #[.int .i64 W, .int .i64 H, (.slice A N c)] 24)) from (Below.refl _ _).alloc (Nat.le_refl _) _)
  clear hz
  go_enter Try.func57, Try.ntmps57
  go_wp2_with fail
  generalize w.alloc (.cells #[.int .i64 W, .int .i64 H, .slice A N c] 24) = w0 at *
  obtain ⟨q0, q1, q2, q3, q4, q5, q6⟩ := X0.out.all
  go_wp2_with fail
  clear q0 q1 q2 q3 q4 q5 q6
  with_reducible refine Calls.mono (HK.out _) ?_
  rintro e w1 ⟨rfl, hb⟩
  have X1 := Lib.hid (X0.out.below hb X0.out.lt)
  have LB1 := Lib.hid (LB0.out.trans (hb.mono LB0.out.size))
  clear hb X0 LB0 
  obtain ⟨q0, q1, q2, q3, q4, q5, q6⟩ := X1.out.all
  go_wp2_with fail
  clear q0 q1 q2 q3 q4 q5 q6
  with_reducible refine Calls.mono (HK.out _) ?_
  rintro e w2 ⟨rfl, hb⟩
  have X2 := Lib.hid (X1.out.below hb X1.out.lt)
  have LB2 := Lib.hid (LB1.out.trans (hb.mono LB1.out.size))
  clear hb X1 LB1 
  go_wp2
  go_ret2
  exact ⟨none, 0, rfl, (fun h => absurd h (by omega)), LB2.out⟩
set_option maxHeartbeats 800000 in
theorem rparts_n (W H N : Nat) (hNN : W + H = N) (A : Option Addr) (c : Nat) (g : Nat → Bool) (w : World) (hg : Holds w w.heap.size A (W * H) g) (hW0 : 1 ≤ W) (hW : W ≤ 64) (hH0 : 1 ≤ H) (hH : H ≤ 64) :
    Calls Try.prog 55 #[.agg #[.int .i64 (W : Nat), .int .i64 (H : Nat), .slice A (W * H) c]] w (PaR w (prt (ov W g) N) (pno (ov W g) N) 0) := by
  have HK := Lib.hid (fun u => rchk_valid A c u hW0 hW hH0 hH)
  have HL := Lib.hid (fun u (h : Below w.heap.size w u) => listed_n W H N hNN A c g u ((hg.below h).more h.size) hW0 hW hH0 hH)
  have X0 := Lib.hid (Box.new w (W : Nat) (H : Nat) (.slice A (W * H) c))
  have LB0 := Lib.hid (show Below w.heap.size w (w.alloc (.cells #[.int .i64 (W : Nat), .int .i64 (H : Nat), (.slice A (W * H) c)] 24)) from (Below.refl _ _).alloc (Nat.le_refl _) _)
  clear hg hNN
  generalize W * H = M at *
  generalize pno (ov W g) N = pn at *
  go_enter Try.func55, Try.ntmps55
  go_wp2_with fail
  generalize w.alloc (.cells #[.int .i64 (W : Nat), .int .i64 (H : Nat), .slice A M c] 24) = w0 at *
  obtain ⟨q0, q1, q2, q3, q4, q5, q6⟩ := X0.out.all
  go_wp2_with fail
  clear q0 q1 q2 q3 q4 q5 q6
  with_reducible refine Calls.mono (HK.out _) ?_
  rintro e w1 ⟨rfl, hb⟩
  have X1 := Lib.hid (X0.out.below hb X0.out.lt)
  have LB1 := Lib.hid (LB0.out.trans (hb.mono LB0.out.size))
  clear hb X0 LB0 
  obtain ⟨q0, q1, q2, q3, q4, q5, q6⟩ := X1.out.all
  go_wp2_with fail
  clear q0 q1 q2 q3 q4 q5 q6
  with_reducible refine Calls.mono (HL.out _ LB1.out) ?_
  rintro e w2 ⟨D, d, rfl, hcp, hls, hb⟩
  have X2 := Lib.hid (X1.out.below hb X1.out.lt)
  have LB2 := Lib.hid (LB1.out.trans (hb.mono LB1.out.size))
  clear hb X1 LB1 
  go_wp2
  go_ret2
  exact ⟨D, d, rfl, hcp, hls, LB2.out⟩
set_option maxHeartbeats 800000 in
theorem rheld_a (W H : Nat) (A : Option Addr) (c : Nat) (a b : Int) (w : World) (hW0 : 1 ≤ W) (hW : W ≤ 64) (hH0 : 1 ≤ H) (hH : H ≤ 64) (ha : ¬ (0 ≤ a ∧ a < ((W + H : Nat) : Int))) :
    Calls Try.prog 56 #[.agg #[.int .i64 (W : Nat), .int .i64 (H : Nat), .slice A (W * H) c], .int .i64 a, .int .i64 b] w (BRet w false 2) := by
  have HK := Lib.hid (fun u => rchk_valid A c u hW0 hW hH0 hH)
  have HT0 := Lib.hid (fun u => (show Calls Try.prog 41 #[.agg #[.int .i64 (W : Nat), .int .i64 (H : Nat), .slice A (W * H) c], .int .i64 a] u fun e w' => e = .returned (.bool false) ∧ Below u.heap.size u w' from by have z := ris_any W H A (W * H) c a u hW hH; rwa [decide_eq_false ha] at z))
  have X0 := Lib.hid (Box.new w (W : Nat) (H : Nat) (.slice A (W * H) c))
  have LB0 := Lib.hid (show Below w.heap.size w (w.alloc (.cells #[.int .i64 (W : Nat), .int .i64 (H : Nat), (.slice A (W * H) c)] 24)) from (Below.refl _ _).alloc (Nat.le_refl _) _)
  clear ha
  generalize W * H = M at *
  go_enter Try.func56, Try.ntmps56
  go_wp2_with fail
  generalize w.alloc (.cells #[.int .i64 (W : Nat), .int .i64 (H : Nat), .slice A M c] 24) = w0 at *
  obtain ⟨q0, q1, q2, q3, q4, q5, q6⟩ := X0.out.all
  go_wp2_with fail
  clear q0 q1 q2 q3 q4 q5 q6
  with_reducible refine Calls.mono (HK.out _) ?_
  rintro e w1 ⟨rfl, hb⟩
  have X1 := Lib.hid (X0.out.below hb X0.out.lt)
  have LB1 := Lib.hid (LB0.out.trans (hb.mono LB0.out.size))
  clear hb X0 LB0 
  obtain ⟨q0, q1, q2, q3, q4, q5, q6⟩ := X1.out.all
  go_wp2_with fail
  clear q0 q1 q2 q3 q4 q5 q6
  with_reducible refine Calls.mono (HT0.out _) ?_
  rintro e w2 ⟨rfl, hb⟩
  have X2 := Lib.hid (X1.out.below hb X1.out.lt)
  have LB2 := Lib.hid (LB1.out.trans (hb.mono LB1.out.size))
  clear hb X1 LB1 
  go_wp2
  go_ret2
  exact ⟨rfl, LB2.out⟩
set_option maxHeartbeats 800000 in
theorem rheld_b (W H : Nat) (A : Option Addr) (c : Nat) (a b : Int) (w : World) (hW0 : 1 ≤ W) (hW : W ≤ 64) (hH0 : 1 ≤ H) (hH : H ≤ 64) (ha : 0 ≤ a ∧ a < ((W + H : Nat) : Int)) (hb : ¬ (0 ≤ b ∧ b < ((W + H : Nat) : Int))) :
    Calls Try.prog 56 #[.agg #[.int .i64 (W : Nat), .int .i64 (H : Nat), .slice A (W * H) c], .int .i64 a, .int .i64 b] w (BRet w false 2) := by
  have HK := Lib.hid (fun u => rchk_valid A c u hW0 hW hH0 hH)
  have HT0 := Lib.hid (fun u => (show Calls Try.prog 41 #[.agg #[.int .i64 (W : Nat), .int .i64 (H : Nat), .slice A (W * H) c], .int .i64 a] u fun e w' => e = .returned (.bool true) ∧ Below u.heap.size u w' from by have z := ris_any W H A (W * H) c a u hW hH; rwa [decide_eq_true ha] at z))
  have HT1 := Lib.hid (fun u => (show Calls Try.prog 41 #[.agg #[.int .i64 (W : Nat), .int .i64 (H : Nat), .slice A (W * H) c], .int .i64 b] u fun e w' => e = .returned (.bool false) ∧ Below u.heap.size u w' from by have z := ris_any W H A (W * H) c b u hW hH; rwa [decide_eq_false hb] at z))
  have X0 := Lib.hid (Box.new w (W : Nat) (H : Nat) (.slice A (W * H) c))
  have LB0 := Lib.hid (show Below w.heap.size w (w.alloc (.cells #[.int .i64 (W : Nat), .int .i64 (H : Nat), (.slice A (W * H) c)] 24)) from (Below.refl _ _).alloc (Nat.le_refl _) _)
  clear ha hb
  generalize W * H = M at *
  go_enter Try.func56, Try.ntmps56
  go_wp2_with fail
  generalize w.alloc (.cells #[.int .i64 (W : Nat), .int .i64 (H : Nat), .slice A M c] 24) = w0 at *
  obtain ⟨q0, q1, q2, q3, q4, q5, q6⟩ := X0.out.all
  go_wp2_with fail
  clear q0 q1 q2 q3 q4 q5 q6
  with_reducible refine Calls.mono (HK.out _) ?_
  rintro e w1 ⟨rfl, hb⟩
  have X1 := Lib.hid (X0.out.below hb X0.out.lt)
  have LB1 := Lib.hid (LB0.out.trans (hb.mono LB0.out.size))
  clear hb X0 LB0 
  obtain ⟨q0, q1, q2, q3, q4, q5, q6⟩ := X1.out.all
  go_wp2_with fail
  clear q0 q1 q2 q3 q4 q5 q6
  with_reducible refine Calls.mono (HT0.out _) ?_
  rintro e w2 ⟨rfl, hb⟩
  have X2 := Lib.hid (X1.out.below hb X1.out.lt)
  have LB2 := Lib.hid (LB1.out.trans (hb.mono LB1.out.size))
  clear hb X1 LB1 
  obtain ⟨q0, q1, q2, q3, q4, q5, q6⟩ := X2.out.all
  go_wp2_with fail
  clear q0 q1 q2 q3 q4 q5 q6
  with_reducible refine Calls.mono (HT1.out _) ?_
  rintro e w3 ⟨rfl, hb⟩
  have X3 := Lib.hid (X2.out.below hb X2.out.lt)
  have LB3 := Lib.hid (LB2.out.trans (hb.mono LB2.out.size))
  clear hb X2 LB2 
  go_wp2
  go_ret2
  exact ⟨rfl, LB3.out⟩
set_option maxHeartbeats 800000 in
theorem rheld_n (W H N : Nat) (hNN : W + H = N) (A : Option Addr) (c : Nat) (g : Nat → Bool) (a b : Nat) (w : World) (hg : Holds w w.heap.size A (W * H) g) (hW0 : 1 ≤ W) (hW : W ≤ 64) (hH0 : 1 ≤ H) (hH : H ≤ 64) (ha' : a < N) (hb' : b < N) :
    Calls Try.prog 56 #[.agg #[.int .i64 (W : Nat), .int .i64 (H : Nat), .slice A (W * H) c], .int .i64 (a : Nat), .int .i64 (b : Nat)] w (BRet w (up (ov W g) N a b) 0) := by
  have HK := Lib.hid (fun u => rchk_valid A c u hW0 hW hH0 hH)
  have h_a : 0 ≤ ((a : Nat) : Int) ∧ ((a : Nat) : Int) < ((W + H : Nat) : Int) := by omega
  have h_b : 0 ≤ ((b : Nat) : Int) ∧ ((b : Nat) : Int) < ((W + H : Nat) : Int) := by omega
  have HT0 := Lib.hid (fun u => (show Calls Try.prog 41 #[.agg #[.int .i64 (W : Nat), .int .i64 (H : Nat), .slice A (W * H) c], .int .i64 (a : Nat)] u fun e w' => e = .returned (.bool true) ∧ Below u.heap.size u w' from by have z := ris_any W H A (W * H) c (a : Nat) u hW hH; rwa [decide_eq_true h_a] at z))
  have HT1 := Lib.hid (fun u => (show Calls Try.prog 41 #[.agg #[.int .i64 (W : Nat), .int .i64 (H : Nat), .slice A (W * H) c], .int .i64 (b : Nat)] u fun e w' => e = .returned (.bool true) ∧ Below u.heap.size u w' from by have z := ris_any W H A (W * H) c (b : Nat) u hW hH; rwa [decide_eq_true h_b] at z))
  have HST := Lib.hid (fun u (h : Below w.heap.size w u) => rsteps_n W H N hNN A c g a u ((hg.below h).more h.size) hW hH ha')
  have yb1 : (b : Int) < (N : Int) := by omega
  have yb2 : (0 : Int) ≤ (b : Int) := by omega
  have X0 := Lib.hid (Box.new w (W : Nat) (H : Nat) (.slice A (W * H) c))
  have LB0 := Lib.hid (show Below w.heap.size w (w.alloc (.cells #[.int .i64 (W : Nat), .int .i64 (H : Nat), (.slice A (W * H) c)] 24)) from (Below.refl _ _).alloc (Nat.le_refl _) _)
  clear hg hNN h_a h_b
  generalize W * H = M at *
  go_enter Try.func56, Try.ntmps56
  go_wp2_with fail
  generalize w.alloc (.cells #[.int .i64 (W : Nat), .int .i64 (H : Nat), .slice A M c] 24) = w0 at *
  obtain ⟨q0, q1, q2, q3, q4, q5, q6⟩ := X0.out.all
  go_wp2_with fail
  clear q0 q1 q2 q3 q4 q5 q6
  with_reducible refine Calls.mono (HK.out _) ?_
  rintro e w1 ⟨rfl, hb⟩
  have X1 := Lib.hid (X0.out.below hb X0.out.lt)
  have LB1 := Lib.hid (LB0.out.trans (hb.mono LB0.out.size))
  clear hb X0 LB0 
  obtain ⟨q0, q1, q2, q3, q4, q5, q6⟩ := X1.out.all
  go_wp2_with fail
  clear q0 q1 q2 q3 q4 q5 q6
  with_reducible refine Calls.mono (HT0.out _) ?_
  rintro e w2 ⟨rfl, hb⟩
  have X2 := Lib.hid (X1.out.below hb X1.out.lt)
  have LB2 := Lib.hid (LB1.out.trans (hb.mono LB1.out.size))
  clear hb X1 LB1 
  obtain ⟨q0, q1, q2, q3, q4, q5, q6⟩ := X2.out.all
  go_wp2_with fail
  clear q0 q1 q2 q3 q4 q5 q6
  with_reducible refine Calls.mono (HT1.out _) ?_
  rintro e w3 ⟨rfl, hb⟩
  have X3 := Lib.hid (X2.out.below hb X2.out.lt)
  have LB3 := Lib.hid (LB2.out.trans (hb.mono LB2.out.size))
  clear hb X2 LB2 
  obtain ⟨q0, q1, q2, q3, q4, q5, q6⟩ := X3.out.all
  go_wp2_with fail
  clear q0 q1 q2 q3 q4 q5 q6
  with_reducible refine Calls.mono (HST.out _ LB3.out) ?_
  rintro e w4 ⟨kf, rfl, hkf, hfar, hb⟩
  have X4 := Lib.hid (X3.out.below hb X3.out.lt)
  have LB4 := Lib.hid (LB3.out.trans (hb.mono LB3.out.size))
  clear hb X3 LB3 
  have x1 := hfar.cell hb'
  obtain ⟨u, hu⟩ : ∃ u, far (ov W g) N a b = u := ⟨_, rfl⟩
  have HU := Lib.hid (show up (ov W g) N a b = decide (0 ≤ u) by unfold up; rw [hu])
  rw [hu] at x1
  clear hu hfar
  obtain ⟨bu, hbu⟩ : ∃ b, decide (0 ≤ u) = b := ⟨_, rfl⟩
  have hbu' : decide (u ≥ 0) = bu := hbu
  have HB := Lib.hid (HU.out.trans hbu)
  clear HU
  go_wp2
  go_ret2
  refine ⟨?_, LB4.out⟩
  rw [HB.out]
  first | rfl | (simp only [hbu, hbu'])
theorem flag_next {R : Nat → Nat → Bool} {N i : Nat} (hi : i < pno R N) {b : Nat} (hb : b < N) : (!out R N i b || hasL (prt R N i) b) = !out R N (i + 1) b := by
  have h : hasL (prt R N i) b = cls R N (pfi R N i) b := by
    unfold hasL
    rw [Bool.eq_iff_iff, List.contains_iff_mem, mem_prt hi]
    exact ⟨fun h => h.2, fun h => ⟨hb, h⟩⟩
  rw [h, out_succ]
  cases out R N i b <;> cases cls R N (pfi R N i) b <;> rfl
theorem has_take {l : List Nat} {k : Nat} (hk : k < l.length) (b : Nat) : hasL (l.take (k + 1)) b = (if b = l.getD k 0 then true else hasL (l.take k) b) := by
  rw [take_has hk]
  by_cases h : b = l.getD k 0
  · rw [if_pos h, h]; simp
  · rw [if_neg h, show (l.getD k 0 == b) = false from beq_eq_false_iff_ne.2 fun e => h e.symm, Bool.or_false]
set_option maxHeartbeats 800000 in
theorem rsplit_no (W H : Nat) (A : Option Addr) (c : Nat) (g : Nat → Bool) (n : Int) (w : World) (hg : Holds w w.heap.size A (W * H) g) (hW0 : 1 ≤ W) (hW : W ≤ 64) (hH0 : 1 ≤ H) (hH : H ≤ 64) (h : n < 0 ∨ ((pno (ov W g) (W + H) : Nat) : Int) < n) :
    Calls Try.prog 58 #[.agg #[.int .i64 (W : Nat), .int .i64 (H : Nat), .slice A (W * H) c], .int .i64 n] w (SpE w [] [] 2) := by
  have HK := Lib.hid (fun u => rchk_valid A c u hW0 hW hH0 hH)
  have HL := Lib.hid (fun u (hb : Below w.heap.size w u) => listed_n W H (W + H) rfl A c g u ((hg.below hb).more hb.size) hW0 hW hH0 hH)
  have X0 := Lib.hid (Box.new w (W : Nat) (H : Nat) (.slice A (W * H) c))
  have LB0 := Lib.hid (show Below w.heap.size w (w.alloc (.cells #[.int .i64 (W : Nat), .int .i64 (H : Nat), (.slice A (W * H) c)] 24)) from (Below.refl _ _).alloc (Nat.le_refl _) _)
  clear hg
  generalize W * H = M at *
  generalize pno (ov W g) (W + H) = pn at *
  go_enter Try.func58, Try.ntmps58
  go_wp2_with fail
  generalize w.alloc (.cells #[.int .i64 (W : Nat), .int .i64 (H : Nat), .slice A M c] 24) = w0 at *
  obtain ⟨q0, q1, q2, q3, q4, q5, q6⟩ := X0.out.all
  go_wp2_with fail
  clear q0 q1 q2 q3 q4 q5 q6
  with_reducible refine Calls.mono (HK.out _) ?_
  rintro e w1 ⟨rfl, hb⟩
  have X1 := Lib.hid (X0.out.below hb X0.out.lt)
  have LB1 := Lib.hid (LB0.out.trans (hb.mono LB0.out.size))
  clear hb X0 LB0 
  obtain ⟨q0, q1, q2, q3, q4, q5, q6⟩ := X1.out.all
  go_wp2_with fail
  clear q0 q1 q2 q3 q4 q5 q6
  with_reducible refine Calls.mono (HL.out _ LB1.out) ?_
  rintro e w2 ⟨D, d, rfl, _, _, hb⟩
  have X2 := Lib.hid (X1.out.below hb X1.out.lt)
  have LB2 := Lib.hid (LB1.out.trans (hb.mono LB1.out.size))
  clear hb X1 LB1 
  by_cases hn : n < 0
  · go_wp2
    go_ret3
    exact ⟨none, 0, none, 0, rfl, ⟨⟨fun _ => rfl, Nat.le_refl _⟩, ll_nil _ _⟩, ll_nil _ _, LB2.out⟩
  · have y1 : n > (pn : Int) := by omega
    have y2 : (pn : Int) < n := by omega
    have y3 : ¬ n < (0 : Int) := hn
    go_wp2
    go_ret3
    exact ⟨none, 0, none, 0, rfl, ⟨⟨fun _ => rfl, Nat.le_refl _⟩, ll_nil _ _⟩, ll_nil _ _, LB2.out⟩
set_option maxHeartbeats 6400000 in
theorem rsplit_n (W H N : Nat) (hNN : W + H = N) (A : Option Addr) (c : Nat) (g : Nat → Bool) (n : Nat) (w : World) (hg : Holds w w.heap.size A (W * H) g) (hW0 : 1 ≤ W) (hW : W ≤ 64) (hH0 : 1 ≤ H) (hH : H ≤ 64) (hn : n ≤ pno (ov W g) N) :
    Calls Try.prog 58 #[.agg #[.int .i64 (W : Nat), .int .i64 (H : Nat), .slice A (W * H) c], .int .i64 (n : Nat)] w (SpE w (ofl (topS (ov W g) N n) N) (ofl (out (ov W g) N n) N) 0) := by
  have hN : N ≤ 128 := by omega
  have HK := Lib.hid (fun u => rchk_valid A c u hW0 hW hH0 hH)
  have HL := Lib.hid (fun u (hb : Below w.heap.size w u) => listed_n W H N hNN A c g u ((hg.below hb).more hb.size) hW0 hW hH0 hH)
  have HTR := Lib.hid (fun u => rthr_any W H A (W * H) c u hW hH)
  rw [hNN] at HTR
  have hmkb := mkb_run N (by omega)
  generalize hR : ov W g = R at *
  clear hR
  have HNX := Lib.hid (fun i (hi : i < pno R N) b (hb : b < N) => flag_next hi hb)
  have HPM := Lib.hid (fun i k (hi : i < pno R N) (hk : k < (prt R N i).length) => (show (prt R N i).getD k 0 < N from by rw [prt_eq (pno_ne hi)] at hk ⊢; exact (ofl_get hk).1))
  have HLT := Lib.hid (fun i => prt_len R N i)
  have X0 := Lib.hid (Box.new w (W : Nat) (H : Nat) (.slice A (W * H) c))
  have LB0 := Lib.hid (show Below w.heap.size w (w.alloc (.cells #[.int .i64 (W : Nat), .int .i64 (H : Nat), (.slice A (W * H) c)] 24)) from (Below.refl _ _).alloc (Nat.le_refl _) _)
  clear hg hNN
  generalize W * H = M at *
  have hpN := (pno_all R N).1
  obtain ⟨pn, hpn⟩ : ∃ x, pno R N = x := ⟨_, rfl⟩
  rw [hpn] at HL HNX HPM hn hpN
  clear hpn
  have yn1 : ¬ ((n : Nat) : Int) < 0 := by omega
  have yn2 : ¬ ((n : Nat) : Int) > (pn : Int) := by omega
  have yn3 : ¬ (pn : Int) < ((n : Nat) : Int) := by omega
  go_enter Try.func58, Try.ntmps58
  go_wp2_with fail
  generalize w.alloc (.cells #[.int .i64 (W : Nat), .int .i64 (H : Nat), .slice A M c] 24) = w0 at *
  obtain ⟨q0, q1, q2, q3, q4, q5, q6⟩ := X0.out.all
  go_wp2_with fail
  clear q0 q1 q2 q3 q4 q5 q6
  with_reducible refine Calls.mono (HK.out _) ?_
  rintro e w1 ⟨rfl, hb⟩
  have X1 := Lib.hid (X0.out.below hb X0.out.lt)
  have LB1 := Lib.hid (LB0.out.trans (hb.mono LB0.out.size))
  clear hb X0 LB0 
  obtain ⟨q0, q1, q2, q3, q4, q5, q6⟩ := X1.out.all
  go_wp2_with fail
  clear q0 q1 q2 q3 q4 q5 q6
  with_reducible refine Calls.mono (HL.out _ LB1.out) ?_
  rintro e w2 ⟨D, d, rfl, _, hls, hb⟩
  have X2 := Lib.hid (X1.out.below hb X1.out.lt)
  have LB2 := Lib.hid (LB1.out.trans (hb.mono LB1.out.size))
  have P := Lib.hid hls
  clear hb X1 LB1 hls
  obtain ⟨q0, q1, q2, q3, q4, q5, q6⟩ := X2.out.all
  go_wp2_with fail
  clear q0 q1 q2 q3 q4 q5 q6
  with_reducible refine Calls.mono (HTR.out _) ?_
  rintro e w3 ⟨rfl, hb⟩
  have X3 := Lib.hid (X2.out.below hb X2.out.lt)
  have LB3 := Lib.hid (LB2.out.trans (hb.mono LB2.out.size))
  have P := Lib.hid (P.out.below hb)
  clear hb X2 LB2 
  have RW := Lib.hid (Row.made w3 N)
  have HB0 := Lib.hid (bel_alloc w3 (.cells (madeCells #[.bool false] N) 4))
  clear X3 HK HL HTR
  go_upto_region 7 with (fail)
  clear hmkb
  obtain ⟨kb, hkb⟩ : ∃ kb, w3.heap.size = kb := ⟨_, rfl⟩
  have HKB := Lib.hid hkb
  rw [hkb] at RW HB0 ⊢
  clear hkb
  generalize w3.alloc (.cells (madeCells #[.bool false] N) 4) = w10 at *
  have RW0 : Hid (Row w10 kb N (fun b => !out R N 0 b)) := Lib.hid (RW.out.congr fun i hi => by rw [out_zero]; rfl)
  clear RW
  go_wp2
  go_loopw [9] (fun i wr => ∃ a : Nat, a ≤ n ∧ i = .int .i64 a ∧ Hid (Row wr kb N (fun b => !out R N a b)) ∧ Hid (Below kb w3 wr)) (fun i _ => n - (intOf i).toNat)
  case atStart => exact ⟨0, Nat.zero_le _, rfl, RW0, HB0⟩
  case round =>
    obtain ⟨a, ha, rfl, HR, HB⟩ := hrel
    clear RW0 HB0
    by_cases hlt : a < n
    · have y1 : (a : Int) < (n : Int) := by omega
      have y2 : (0 : Int) ≤ (a : Int) := by omega
      have HR0 : Hid (Row wr kb N (fun b => !out R N a b || hasL ((prt R N a).take 0) b)) := Lib.hid (HR.out.congr fun i hi => by rw [show hasL ((prt R N a).take 0) i = false from rfl, Bool.or_false])
      have hpl := HLT.out a
      clear HR
      go_wp2
      go_loopw [10] (fun i wx => ∃ m : Nat, m ≤ (prt R N a).length ∧ i = .int .i64 m ∧ Hid (Row wx kb N (fun b => !out R N a b || hasL ((prt R N a).take m) b)) ∧ Hid (Below kb w3 wx)) (fun i _ => (prt R N a).length - (intOf i).toNat)
      case atStart => exact ⟨0, Nat.zero_le _, rfl, HR0, HB⟩
      case round =>
        obtain ⟨m, hm, rfl, HR2, HB2⟩ := hrel
        clear HR0 HB
        obtain ⟨b1, o1, rfl, hb1, hc1⟩ := (P.out.below (by rw [HKB.out]; exact HB2.out)) (by omega)
        obtain ⟨E1, d1, a1, _, l1⟩ := hc1 a (by omega)
        clear hc1
        by_cases hlm : m < (prt R N a).length
        · have hxN := HPM.out a m (by omega) hlm
          have HTK := Lib.hid (fun b => has_take hlm b)
          obtain ⟨b2, o2, rfl, hb2, hc2⟩ := l1 (by omega)
          have x2 := hc2 m hlm
          rw [show lf (prt R N a) m = (((prt R N a).getD m 0 : Nat) : Int) from rfl] at x2
          obtain ⟨x, hx⟩ : ∃ x, (prt R N a).getD m 0 = x := ⟨_, rfl⟩
          rw [hx] at x2 hxN HTK
          have y3 : (m : Int) < ((prt R N a).length : Int) := by omega
          have y4 : (0 : Int) ≤ (m : Int) := by omega
          have y5 : (x : Int) < (N : Int) := by omega
          have y6 : (0 : Int) ≤ (x : Int) := by omega
          have z1 := HR2.out.cell hxN
          have z2 := HR2.out.free x
          have z3 := HR2.out.lt
          clear hx hc2
          obtain ⟨np, hnp⟩ : ∃ y, (prt R N a).length = y := ⟨_, rfl⟩
          rw [hnp] at a1 y3 hpl hm hlm
          have HNP := Lib.hid hnp
          clear hnp
          go_wp2
          have HRn := Lib.hid ((HR2.out.set_ x true).congr (f' := fun b => !out R N a b || hasL ((prt R N a).take (m + 1)) b) (fun i hi => by
            rw [HTK.out i]
            by_cases e : i = x
            · rw [if_pos e, if_pos e, Bool.or_true]
            · rw [if_neg e, if_neg e]))
          have HBn := Lib.hid (HB2.out.setCell (p := ⟨kb, x, none⟩) (Nat.le_refl _) (.bool true))
          go_roundw
          case rel => exact ⟨m + 1, by rw [HNP.out]; omega, by go_num, HRn, HBn⟩
          case measure => rw [HNP.out]; simp [intOf]; omega
        · have e : m = (prt R N a).length := by omega
          have y3 : ¬ (m : Int) < ((prt R N a).length : Int) := by omega
          have HRn : Hid (Row _ kb N (fun b => !out R N (a + 1) b)) := Lib.hid (HR2.out.congr fun i hi => by
            rw [show (prt R N a).take m = prt R N a from List.take_of_length_le (by omega)]
            exact HNX.out a (by omega) i hi)
          clear e HR2
          generalize (prt R N a).length = np at *
          go_wp2
          go_roundw
          case rel => exact ⟨a + 1, by omega, by go_num, HRn, HB2⟩
          case measure => simp [intOf]; omega
    · have e : a = n := by omega
      have y1 : ¬ (a : Int) < (n : Int) := by omega
      rw [e] at HR
      have hkl := HR.out.lt
      have LB9 := Lib.hid (LB3.out.trans (HB.out.mono (by rw [← HKB.out]; exact LB3.out.size)))
      have HT2 := Lib.hid (show ∀ b, topS R N n b = !out R N n b from fun b => rfl)
      clear HNX HPM HLT P LB3 HKB HB e
      obtain ⟨wo, rfl⟩ : ∃ wo : World, wo = wr := ⟨_, rfl⟩
      go_wp2
      go_loopw [11, 12, 13] (fun v1 v2 i wx => ∃ m : Nat, m ≤ N ∧ i = .int .i64 m ∧ Hid (L2.Own wx wo.heap.size v1 (ofl (topS R N n) m).length (lf (ofl (topS R N n) m))) ∧ Hid (L2.Own wx wo.heap.size v2 (ofl (out R N n) m).length (lf (ofl (out R N n) m))) ∧ Hid (Apt v1 v2) ∧ Hid (Below wo.heap.size wo wx)) (fun _ _ i _ => N - (intOf i).toNat)
      case atStart => exact ⟨0, Nat.zero_le _, rfl, Lib.hid (L2.Own.nil _ _ _), Lib.hid (L2.Own.nil _ _ _), Lib.hid (Apt.nil _), Lib.hid (Below.refl _ _)⟩
      case round =>
        obtain ⟨m, hm, rfl, H1, H2, HA, HBx⟩ := hrel
        by_cases hlm : m < N
        · have ym1 : (m : Int) < (N : Int) := by omega
          have ym2 : (0 : Int) ≤ (m : Int) := by omega
          have hbs := HBx.out.size
          have z1 := (HR.out.below HBx.out hkl).cell hlm
          have hl1 := ofl_len (topS R N n) m
          have hl2 := ofl_len (out R N n) m
          have HTm := Lib.hid (HT2.out m)
          obtain ⟨o, ho⟩ : ∃ x, out R N n m = x := ⟨_, rfl⟩
          rw [ho] at z1 HTm
          cases o
          · have E1 := Lib.hid (ofl_yes (T := topS R N n) (k := m) HTm.out)
            have E2 := Lib.hid (ofl_no ho)
            have HP1 := Lib.hid (own_app H1.out m)
            have HY := Lib.hid (lf_last (ofl (topS R N n) m) m)
            have EL := Lib.hid (show (ofl (topS R N n) (m + 1)).length = (ofl (topS R N n) m).length + 1 by rw [E1.out, List.length_append]; rfl)
            rw [← E1.out] at HP1 HY
            obtain ⟨n0, hn0⟩ : ∃ x, (ofl (topS R N n) m).length = x := ⟨_, rfl⟩
            rw [hn0] at HP1 HY EL hl1
            clear hn0 H1 ho HTm
            go_wp2_with (at_builtin; refine app1k _ rfl _ _ (by rfl) wo.heap.size (by rfl) HP1.out (m : Int) (by rfl) HY.out (by omega) hbs ?_; intro v' w6 h1 h2 h3; have K1 := Lib.hid h1; have K2 := Lib.hid h2; have K3 := Lib.hid (h3 _ _ _ H2.out HA.out.symm); clear h1 h2 h3)
            have HB6 := Lib.hid (HBx.out.trans K2.out)
            have K1' : Hid (L2.Own w6 wo.heap.size v' (ofl (topS R N n) (m + 1)).length (lf (ofl (topS R N n) (m + 1)))) := Lib.hid (by rw [EL.out]; exact K1.out)
            have K3' : Hid (L2.Own w6 wo.heap.size _ (ofl (out R N n) (m + 1)).length (lf (ofl (out R N n) (m + 1)))) := Lib.hid (by rw [E2.out]; exact K3.out.1)
            have K4' := Lib.hid K3.out.2.symm
            first
            | exact ⟨⟨m + 1, by omega, by go_num, K1', K3', K4', HB6⟩, by simp [intOf]; omega⟩
            | (go_roundw
               case rel => exact ⟨m + 1, by omega, by go_num, K1', K3', K4', HB6⟩
               case measure => simp [intOf]; omega)
          · have E1 := Lib.hid (ofl_no (T := topS R N n) (k := m) HTm.out)
            have E2 := Lib.hid (ofl_yes ho)
            have HP1 := Lib.hid (own_app H2.out m)
            have HY := Lib.hid (lf_last (ofl (out R N n) m) m)
            have EL := Lib.hid (show (ofl (out R N n) (m + 1)).length = (ofl (out R N n) m).length + 1 by rw [E2.out, List.length_append]; rfl)
            rw [← E2.out] at HP1 HY
            obtain ⟨n0, hn0⟩ : ∃ x, (ofl (out R N n) m).length = x := ⟨_, rfl⟩
            rw [hn0] at HP1 HY EL hl2
            clear hn0 H2 ho HTm
            go_wp2_with (at_builtin; refine app1k _ rfl _ _ (by rfl) wo.heap.size (by rfl) HP1.out (m : Int) (by rfl) HY.out (by omega) hbs ?_; intro v' w6 h1 h2 h3; have K1 := Lib.hid h1; have K2 := Lib.hid h2; have K3 := Lib.hid (h3 _ _ _ H1.out HA.out); clear h1 h2 h3)
            have HB6 := Lib.hid (HBx.out.trans K2.out)
            have K1' : Hid (L2.Own w6 wo.heap.size v' (ofl (out R N n) (m + 1)).length (lf (ofl (out R N n) (m + 1)))) := Lib.hid (by rw [EL.out]; exact K1.out)
            have K3' : Hid (L2.Own w6 wo.heap.size _ (ofl (topS R N n) (m + 1)).length (lf (ofl (topS R N n) (m + 1)))) := Lib.hid (by rw [E1.out]; exact K3.out.1)
            have K4' := Lib.hid K3.out.2
            first
            | exact ⟨⟨m + 1, by omega, by go_num, K3', K1', K4', HB6⟩, by simp [intOf]; omega⟩
            | (go_roundw
               case rel => exact ⟨m + 1, by omega, by go_num, K3', K1', K4', HB6⟩
               case measure => simp [intOf]; omega)
        · have e : m = N := by omega
          have ym1 : ¬ (m : Int) < (N : Int) := by omega
          rw [e] at H1 H2
          obtain ⟨A1, d1, rfl⟩ := orow_shape H1.out
          obtain ⟨A2, d2, rfl⟩ := orow_shape H2.out
          have HFIN : Hid (SpE w (ofl (topS R N n) N) (ofl (out R N n) N) 0 (.returned (.tuple #[.slice A1 (ofl (topS R N n) N).length d1, .slice A2 (ofl (out R N n) N).length d2, .int .i64 0])) _) := Lib.hid ⟨A1, d1, A2, d2, rfl, ⟨own_cp H1.out, (own_tt H1.out).ll⟩, (own_tt H2.out).ll, LB9.out.trans (HBx.out.mono LB9.out.size)⟩
          clear H1 H2 HA e
          generalize (ofl (topS R N n) N).length = t1 at *
          generalize (ofl (out R N n) N).length = t2 at *
          go_wp2
          go_ret3
          exact HFIN.out
/-- 'append(s, y)' of a layer at a step of a region that draws its order. -/
theorem step_lya {ops : Array Oper} {o : Oper} {a : Act} {w : World} {K : Act → World → Prop} {Q : Exit → Act → World → Prop} {E : Prop} (hgd : o.guard = none) (s x : Operand)
    (ho : o.op = .call { callee := .builtin .append, args := #[s, x], argTypes := #[70, 70] }) (base : Nat) {v : Value} {n : Nat} {xs : List Value} (hs : a.eval s = v) (hown : w.ownsRow base 92 2 v n xs)
    (D1 : Option Addr) (m1 c1 : Nat) (D2 : Option Addr) (m2 c2 : Nat) (g : Nat) (hx : a.eval x = .slice (some ⟨g, 0, none⟩) 1 1) (hc0 : w.cell? ⟨g, 0, none⟩ = some (.slice D1 m1 c1)) (hc1 : w.cell? ⟨g, 1, none⟩ = some (.slice D2 m2 c2)) (hn : n ≤ 100000) (hb : base ≤ w.heap.size)
    (h : ∀ v' w', w'.ownsRow base 92 2 v' (n + 1) (xs ++ [.slice D1 m1 c1, .slice D2 m2 c2]) → w.grownBy w' v.ownBlock → K (a.put o.dst v') w') : if Region.wanted o (yielded ops a.tmps) = true then Oper.wp Try.prog o a w K Q else E := by
  have hw : Region.wanted o (yielded ops a.tmps) = true := by simp [Region.wanted, hgd]
  rw [if_pos hw]
  obtain ⟨i0, hi, hz0, hz1, hz2⟩ := info_parts Try.info92
  obtain ⟨v', w', hrun, h1, h2, _, hat⟩ := run_append_own_at (P := Try.prog) w base 70 o.type 92 i0 (.agg #[.slice none 0 0, .slice none 0 0]) 2 48 Try.underlying70 hi hz0 hz1 hz2 rfl (by decide) v n xs hown ⟨g, 0, none⟩ 1 1 [.slice D1 m1 c1, .slice D2 m2 c2] (by simp)
    (by
      intro j u hu
      match j, hu with
      | 0, hu => (simp at hu; subst hu; simpa [Addr.add] using hc0)
      | 1, hu => (simp at hu; subst hu; simpa [Addr.add] using hc1)) (by intro u hu; simp at hu; rcases hu with rfl | rfl <;> rfl) (by unfold maxLen; omega) (by omega) hb
  unfold Oper.wp
  simp [execOp, ho, resolve, invoke, builtin, hs, hx, hrun, Result.andThen]
  exact h v' w' h1 h2
set_option maxHeartbeats 6400000 in
theorem rlayers_n (W H N : Nat) (hNN : W + H = N) (A : Option Addr) (c : Nat) (g : Nat → Bool) (w : World) (hg : Holds w w.heap.size A (W * H) g) (hW0 : 1 ≤ W) (hW : W ≤ 64) (hH0 : 1 ≤ H) (hH : H ≤ 64) :
    Calls Try.prog 57 #[.agg #[.int .i64 (W : Nat), .int .i64 (H : Nat), .slice A (W * H) c]] w (LsR w (lyE (ov W g) W N) (lyP (ov W g) W N) (lix (ov W g) N).length 0) := by
  have hN : N ≤ 128 := by omega
  have HPA := Lib.hid (fun u (h : Below w.heap.size w u) => listed_n W H N hNN A c g u ((hg.below h).more h.size) hW0 hW hH0 hH)
  have HK := Lib.hid (fun u => rchk_valid A c u hW0 hW hH0 hH)
  generalize hR : ov W g = R at *
  clear hR
  have HLA := Lib.hid (fun u l D d (hl : LL u D l) (hn : l.length ≤ 128) (hlN : ∀ b, b ∈ l → b < 128) => div_n W H A (W * H) c l D d u hl hn hlN)
  have X0 := Lib.hid (Box.new w (W : Nat) (H : Nat) (.slice A (W * H) c))
  have LB0 := Lib.hid (show Below w.heap.size w (w.alloc (.cells #[.int .i64 (W : Nat), .int .i64 (H : Nat), (.slice A (W * H) c)] 24)) from (Below.refl _ _).alloc (Nat.le_refl _) _)
  have hm0 := (pno_all R N).1
  clear hg hNN
  generalize W * H = M at *
  go_enter Try.func57, Try.ntmps57
  go_wp2_with fail
  generalize w.alloc (.cells #[.int .i64 (W : Nat), .int .i64 (H : Nat), .slice A M c] 24) = w0 at *
  obtain ⟨q0, q1, q2, q3, q4, q5, q6⟩ := X0.out.all
  go_wp2_with fail
  clear q0 q1 q2 q3 q4 q5 q6
  with_reducible refine Calls.mono (HK.out _) ?_
  rintro e w1 ⟨rfl, hb⟩
  have X1 := Lib.hid (X0.out.below hb X0.out.lt)
  have LB1 := Lib.hid (LB0.out.trans (hb.mono LB0.out.size))
  clear hb
  obtain ⟨q0, q1, q2, q3, q4, q5, q6⟩ := X1.out.all
  go_wp2_with fail
  clear q0 q1 q2 q3 q4 q5 q6
  with_reducible refine Calls.mono (HPA.out _ LB1.out) ?_
  rintro e w2 ⟨D, d, rfl, _, hlls, hb⟩
  have X2 := Lib.hid (X1.out.below hb X1.out.lt)
  have LB2 := Lib.hid (LB1.out.trans (hb.mono LB1.out.size))
  have HLS := Lib.hid hlls
  have hx2 := X2.out.lt
  clear hb hlls X0 LB0 X1 LB1 HPA HK
  obtain ⟨m, hme⟩ : ∃ m, pno R N = m := ⟨_, rfl⟩
  have HME := Lib.hid hme
  rw [hme] at HLS hm0 ⊢
  clear hme
  go_wp2
  go_loopw [5, 6] (fun v i wr => ∃ (k : Nat) (xs : List Value), k ≤ m ∧ i = .int .i64 k ∧ Hid (wr.ownsRow w2.heap.size 92 2 v (ofl (bigP R N) k).length xs) ∧ Hid (∀ j, j < (ofl (bigP R N) k).length → LyE wr xs j (lEn W (prt R N ((ofl (bigP R N) k).getD j 0))) (lPi W (prt R N ((ofl (bigP R N) k).getD j 0)))) ∧ Hid (Below w2.heap.size w2 wr)) (fun _ i _ => m - (intOf i).toNat)
  case atStart => exact ⟨0, [], Nat.zero_le _, rfl, Lib.hid ⟨rfl, .inl ⟨rfl, rfl⟩⟩, Lib.hid (fun j hj => by simp [ofl] at hj), Lib.hid (Below.refl _ _)⟩
  case round =>
    obtain ⟨k, xs, hk, rfl, HO, HE, HB⟩ := hrel
    by_cases hlt : k < m
    · have y1 : (k : Int) < (m : Int) := by omega
      have y2 : (0 : Int) ≤ (k : Int) := by omega
      obtain ⟨b1, o1, rfl, hb1, hc1⟩ := (HLS.out.below HB.out) (by omega)
      obtain ⟨E1, d1, a1, _, l1⟩ := hc1 k hlt
      have hpl := prt_len R N k
      have HLk := Lib.hid (fun u (h : Below wr.heap.size wr u) => HLA.out u (prt R N k) E1 d1 (l1.below h) (by omega) (fun b hb => Nat.lt_of_lt_of_le (prt_mem hb) hN))
      clear hc1 l1
      by_cases hbig : bigP R N k = true
      · have hgt : 1 < (prt R N k).length := of_decide_eq_true hbig
        have y3 : ((prt R N k).length : Int) > 1 := by omega
        have y4 : (1 : Int) < ((prt R N k).length : Int) := by omega
        have HBG := Lib.hid hbig
        obtain ⟨n0, hn0⟩ : ∃ x, (prt R N k).length = x := ⟨_, rfl⟩
        rw [hn0] at a1 y3 y4 hgt HLk
        clear hn0 hbig
        have X3 := Lib.hid (X2.out.below HB.out hx2)
        obtain ⟨q0, q1, q2, q3, q4, q5, q6⟩ := X3.out.all
        have hop := HO.out
        have hcnt := ofl_len (bigP R N) k
        have HXL := Lib.hid (show xs.length = (ofl (bigP R N) k).length * 2 from hop.1)
        have HCN := Lib.hid (show (ofl (bigP R N) (k + 1)).length = (ofl (bigP R N) k).length + 1 by rw [ofl_yes HBG.out]; simp)
        have HOw := Lib.hid (fun (u : World) (h : Below wr.heap.size wr u) => orow_keep (w' := u) hop fun b _ hk => h.block b (orow_block hop hk).2.1)
        have HEw := Lib.hid (fun (u : World) (h : Below wr.heap.size wr u) => (show ∀ j, j < (ofl (bigP R N) k).length → LyE u xs j (lEn W (prt R N ((ofl (bigP R N) k).getD j 0))) (lPi W (prt R N ((ofl (bigP R N) k).getD j 0))) from fun j hj => by
          have := (HE.out j hj).keep (w' := u) (ys := []) fun b cs hc => h.block b (Array.getElem?_eq_some_iff.1 hc).1
          rwa [List.append_nil] at this))
        have hb1w : b1 < w2.heap.size := by
          obtain ⟨b1', o1', e1', h9, _⟩ := HLS.out (by omega)
          cases e1'
          exact h9
        have HP := Lib.hid (fun (u : World) (h : Below w2.heap.size wr u) => (⟨(h.cell (p := ⟨w.heap.size, 0, none⟩) hx2).trans q0, (h.cell (p := ⟨w.heap.size, 1, none⟩) hx2).trans q1, (h.cell (p := ⟨w.heap.size, 2, none⟩) hx2).trans q2, (h.cell (p := ⟨b1, o1 + k, none⟩) hb1w).trans a1⟩ : _ ∧ _ ∧ _ ∧ _))
        clear hop HO HE
        obtain ⟨cn, hcn⟩ : ∃ x, (ofl (bigP R N) k).length = x := ⟨_, rfl⟩
        rw [hcn] at HOw hcnt HCN
        have HCC := Lib.hid hcn
        clear hcn
        have hsw := HB.out.size
        go_wp2
        go_region_held3 (fun w' => w'.cell? ⟨w.heap.size, 0, none⟩ = some (.int .i64 W) ∧ w'.cell? ⟨w.heap.size, 1, none⟩ = some (.int .i64 H) ∧ w'.cell? ⟨w.heap.size, 2, none⟩ = some (.slice A M c) ∧ w'.cell? ⟨b1, o1 + k, none⟩ = some (.slice E1 n0 d1))
          (first
            | exact HP.out _ hb6
            | exact HP.out _ (hba.mono hsw)
            | exact HP.out _ (hb5.mono hsw)
            | exact HP.out _ (Below.refl _ _).drew)
          (first
            | (go_at_call 105
               refine (HLk.out _ (Below.refl _ _).drew).mono ?_
               rintro e w5 ⟨F1, f1, F2, f2, rfl, ⟨hp1, ht1⟩, ⟨hp2, ht2⟩, hb⟩
               have hb5 : Below wr.heap.size wr w5 := (Below.refl _ _).drew.trans hb
               have hba : Below wr.heap.size wr (w5.alloc (.cells #[.slice F1 (lEn W (prt R N k)).length f1, .slice F2 (lPi W (prt R N k)).length f2] 92)) := hb5.alloc hb5.size _
               have hoa := HOw.out _ hba
               have hs5 : w2.heap.size ≤ (w5.alloc (.cells #[.slice F1 (lEn W (prt R N k)).length f1, .slice F2 (lPi W (prt R N k)).length f2] 92)).heap.size := Nat.le_trans hsw hba.size
               have hc0 : (w5.alloc (.cells #[.slice F1 (lEn W (prt R N k)).length f1, .slice F2 (lPi W (prt R N k)).length f2] 92)).cell? ⟨w5.heap.size, 0, none⟩ = some (.slice F1 (lEn W (prt R N k)).length f1) := by simp
               have hc1 : (w5.alloc (.cells #[.slice F1 (lEn W (prt R N k)).length f1, .slice F2 (lPi W (prt R N k)).length f2] 92)).cell? ⟨w5.heap.size, 1, none⟩ = some (.slice F2 (lPi W (prt R N k)).length f2) := by simp
               clear hb)
            | (refine step_lya rfl (.tmp 26) (.tmp 33) rfl w2.heap.size rfl hoa F1 (lEn W (prt R N k)).length f1 F2 (lPi W (prt R N k)).length f2 w5.heap.size rfl hc0 hc1 (by omega) hs5 ?_
               intro v6 w6 h1 h2
               have hb6 : Below w2.heap.size wr w6 := (hba.mono hsw).trans (Below.grown (Below.refl w2.heap.size _) h2 hs5 fun b hb => (orow_block hoa (k := b) hb).1)))
        have hkp : ∀ (b : Nat) (cs : Array Value), w5.heap[b]? = some (Obj.cells cs 3 (0, 0)) → w6.heap[b]? = w5.heap[b]? := fun b cs hc => by
          have hb : b < w5.heap.size := (Array.getElem?_eq_some_iff.1 hc).1
          rw [h2.block b (by simp; omega) fun e => by
            obtain ⟨cs2, hc2⟩ := orow_type (HOw.out _ hb5) e.symm
            rw [hc] at hc2
            cases hc2]
          exact Below.heap_alloc _ _ b hb
        have HE6 := Lib.hid (ofl_app (E := fun i => lEn W (prt R N i)) (F := fun i => lPi W (prt R N i)) (D1 := F1) (D2 := F2) (c1 := f1) (c2 := f2) HBG.out HXL.out (fun j hj => (HEw.out _ hb5 j hj).keep hkp) (ht1.keep hkp) (ht2.keep hkp))
        have H1 := Lib.hid h1
        have HB6 := Lib.hid (HB.out.trans hb6)
        clear hb6 q0 q1 q2 q3 q4 q5 q6 hkp h1 h2 hoa hs5 hc0 hc1 hb5 hba ht1 ht2 hp1 hp2 HOw HEw HP HLk X3 a1
        go_wp2
        go_roundw
        case rel => exact ⟨k + 1, _, by omega, by go_num, by rw [HCN.out]; exact H1, HE6, HB6⟩
        case measure => simp [intOf]; omega
      · have hbf : bigP R N k = false := by simpa using hbig
        have hgt : ¬ 1 < (prt R N k).length := of_decide_eq_false hbf
        have y3 : ¬ ((prt R N k).length : Int) > 1 := by omega
        have y4 : ¬ (1 : Int) < ((prt R N k).length : Int) := by omega
        have HS2 := Lib.hid (ofl_no hbf)
        obtain ⟨n0, hn0⟩ : ∃ x, (prt R N k).length = x := ⟨_, rfl⟩
        rw [hn0] at a1 y3 y4 hgt
        clear hn0 hbig hbf HLk
        go_wp2
        go_roundw
        case rel => exact ⟨k + 1, xs, by omega, by go_num, by rw [HS2.out]; exact HO, by rw [HS2.out]; exact HE, HB⟩
        case measure => simp [intOf]; omega
    · have e : k = m := by omega
      have y1 : ¬ (k : Int) < (m : Int) := by omega
      have hop := HO.out
      obtain ⟨D6, c6, e6, hly⟩ := lys_of hop HE.out
      have HLY := Lib.hid hly
      subst e6
      have HW6 := Lib.hid (LB2.out.trans (HB.out.mono LB2.out.size))
      have HCE := Lib.hid (show ofl (bigP R N) k = lix R N by unfold lix; rw [HME.out, e])
      clear hop hly e HO HE
      obtain ⟨cn, hcn⟩ : ∃ x, (ofl (bigP R N) k).length = x := ⟨_, rfl⟩
      have HCN := Lib.hid hcn
      rw [hcn]
      clear hcn
      go_wp2
      go_ret2
      have h1 := HLY.out
      have h2 := HCN.out
      rw [HCE.out] at h1 h2
      rw [h2] at h1 ⊢
      exact ⟨D6, c6, rfl, h1, HW6.out⟩
end Go.Proofs.Ytchbbphokpmacaa
