/- The reference of layer 8: Crossings and Count. -/
import Derived.Test.YtnpgmgaajejhjaaRcr
namespace Go.Proofs.Ytnpgmgaajejhjaa
open Go.RowKit
set_option maxRecDepth 100000
set_option linter.unusedVariables false
set_option linter.unusedSimpArgs false

theorem rcs_err (W H : Int) (A : Option Addr) (n c : Nat) (b : Bool) (a : Int) (w : World) (hn : n ≤ 4200) (z : Int) (hx : chk W H n = z) (hne : (z != 0) = true) :
    Calls Try.prog 29 #[.agg #[.int .i64 W, .int .i64 H, .slice A n c], .bool b, .int .i64 a] w fun e w' => e = .returned (.tuple #[.int .i64 0, .int .i64 z]) ∧ Below w.heap.size w w' := by
  have HK := Lib.hid (fun u => (show Calls Try.prog 67 #[.agg #[.int .i64 W, .int .i64 H, .slice A n c]] u fun e w' => e = .returned (.int .i64 z) ∧ Below u.heap.size u w' from by have h := rchk_any W H A n c u (by omega); rwa [hx] at h))
  have X0 := Lib.hid (Box.new w W H (.slice A n c))
  have LB0 := Lib.hid (show Below w.heap.size w (w.alloc (.cells #[.int .i64 W, .int .i64 H, (.slice A n c)] 24)) from (Below.refl _ _).alloc (Nat.le_refl _) _)
  clear hx
  go_enter Try.func29, Try.ntmps29
  obtain ⟨q0, q1, q2, q3, q4, q5, q6⟩ := X0.out.all
  go_wp2_with fail
  clear q0 q1 q2 q3 q4 q5 q6
  refine (HK.out _).mono ?_
  rintro e w1 ⟨rfl, hb⟩
  have X1 := Lib.hid (X0.out.below hb X0.out.lt)
  have LB1 := Lib.hid (LB0.out.trans (hb.mono LB0.out.size))
  clear hb X0 LB0
  obtain ⟨q0, q1, q2, q3, q4, q5, q6⟩ := X1.out.all
  go_wp2_with fail
  clear q0 q1 q2 q3 q4 q5 q6
  refine (HK.out _).mono ?_
  rintro e w2 ⟨rfl, hb⟩
  have X2 := Lib.hid (X1.out.below hb X1.out.lt)
  have LB2 := Lib.hid (LB1.out.trans (hb.mono LB1.out.size))
  clear hb X1 LB1
  go_wp2
  go_ret2
  exact ⟨rfl, LB2.out⟩
theorem rct_err (W H : Int) (A : Option Addr) (n c : Nat) (w : World) (hn : n ≤ 4200) (z : Int) (hx : chk W H n = z) (hne : (z != 0) = true) :
    Calls Try.prog 30 #[.agg #[.int .i64 W, .int .i64 H, .slice A n c]] w fun e w' => e = .returned (.tuple #[.int .i64 0, .int .i64 0, .int .i64 z]) ∧ Below w.heap.size w w' := by
  have HK := Lib.hid (fun u => (show Calls Try.prog 67 #[.agg #[.int .i64 W, .int .i64 H, .slice A n c]] u fun e w' => e = .returned (.int .i64 z) ∧ Below u.heap.size u w' from by have h := rchk_any W H A n c u (by omega); rwa [hx] at h))
  have X0 := Lib.hid (Box.new w W H (.slice A n c))
  have LB0 := Lib.hid (show Below w.heap.size w (w.alloc (.cells #[.int .i64 W, .int .i64 H, (.slice A n c)] 24)) from (Below.refl _ _).alloc (Nat.le_refl _) _)
  clear hx
  go_enter Try.func30, Try.ntmps30
  obtain ⟨q0, q1, q2, q3, q4, q5, q6⟩ := X0.out.all
  go_wp2_with fail
  clear q0 q1 q2 q3 q4 q5 q6
  refine (HK.out _).mono ?_
  rintro e w1 ⟨rfl, hb⟩
  have X1 := Lib.hid (X0.out.below hb X0.out.lt)
  have LB1 := Lib.hid (LB0.out.trans (hb.mono LB0.out.size))
  clear hb X0 LB0
  obtain ⟨q0, q1, q2, q3, q4, q5, q6⟩ := X1.out.all
  go_wp2_with fail
  clear q0 q1 q2 q3 q4 q5 q6
  refine (HK.out _).mono ?_
  rintro e w2 ⟨rfl, hb⟩
  have X2 := Lib.hid (X1.out.below hb X1.out.lt)
  have LB2 := Lib.hid (LB1.out.trans (hb.mono LB1.out.size))
  clear hb X1 LB1
  go_wp2
  go_ret3
  exact ⟨rfl, LB2.out⟩
theorem rcs_lo_true (W H : Nat) (A : Option Addr) (c : Nat) (a : Int) (w : World) (hn : W * H ≤ 4200) (hx : chk (W : Nat) (H : Nat) (W * H) = 0) (ha : a < 0) :
    Calls Try.prog 29 #[.agg #[.int .i64 (W : Nat), .int .i64 (H : Nat), .slice A (W * H) c], .bool true, .int .i64 a] w fun e w' => e = .returned (.tuple #[.int .i64 0, .int .i64 2]) ∧ Below w.heap.size w w' := by
  have HK := Lib.hid (fun u => (show Calls Try.prog 67 #[.agg #[.int .i64 (W : Nat), .int .i64 (H : Nat), .slice A (W * H) c]] u fun e w' => e = .returned (.int .i64 0) ∧ Below u.heap.size u w' from by have h := rchk_any (W : Nat) (H : Nat) A (W * H) c u (by omega); rwa [hx] at h))
  have X0 := Lib.hid (Box.new w (W : Nat) (H : Nat) (.slice A (W * H) c))
  have LB0 := Lib.hid (show Below w.heap.size w (w.alloc (.cells #[.int .i64 (W : Nat), .int .i64 (H : Nat), (.slice A (W * H) c)] 24)) from (Below.refl _ _).alloc (Nat.le_refl _) _)
  clear hx
  go_enter Try.func29, Try.ntmps29
  obtain ⟨q0, q1, q2, q3, q4, q5, q6⟩ := X0.out.all
  go_wp2_with fail
  clear q0 q1 q2 q3 q4 q5 q6
  refine (HK.out _).mono ?_
  rintro e w1 ⟨rfl, hb⟩
  have X1 := Lib.hid (X0.out.below hb X0.out.lt)
  have LB1 := Lib.hid (LB0.out.trans (hb.mono LB0.out.size))
  clear hb X0 LB0
  have y1 : decide (a < 0) = true := by simp; omega
  obtain ⟨q0, q1, q2, q3, q4, q5, q6⟩ := X1.out.all
  go_wp2
  go_ret2
  exact ⟨rfl, LB1.out⟩
theorem rcs_hi_true (W H : Nat) (A : Option Addr) (c : Nat) (a : Int) (w : World) (hn : W * H ≤ 4200) (hx : chk (W : Nat) (H : Nat) (W * H) = 0) (ha : (W : Int) ≤ a) :
    Calls Try.prog 29 #[.agg #[.int .i64 (W : Nat), .int .i64 (H : Nat), .slice A (W * H) c], .bool true, .int .i64 a] w fun e w' => e = .returned (.tuple #[.int .i64 0, .int .i64 2]) ∧ Below w.heap.size w w' := by
  have HK := Lib.hid (fun u => (show Calls Try.prog 67 #[.agg #[.int .i64 (W : Nat), .int .i64 (H : Nat), .slice A (W * H) c]] u fun e w' => e = .returned (.int .i64 0) ∧ Below u.heap.size u w' from by have h := rchk_any (W : Nat) (H : Nat) A (W * H) c u (by omega); rwa [hx] at h))
  have X0 := Lib.hid (Box.new w (W : Nat) (H : Nat) (.slice A (W * H) c))
  have LB0 := Lib.hid (show Below w.heap.size w (w.alloc (.cells #[.int .i64 (W : Nat), .int .i64 (H : Nat), (.slice A (W * H) c)] 24)) from (Below.refl _ _).alloc (Nat.le_refl _) _)
  clear hx
  go_enter Try.func29, Try.ntmps29
  obtain ⟨q0, q1, q2, q3, q4, q5, q6⟩ := X0.out.all
  go_wp2_with fail
  clear q0 q1 q2 q3 q4 q5 q6
  refine (HK.out _).mono ?_
  rintro e w1 ⟨rfl, hb⟩
  have X1 := Lib.hid (X0.out.below hb X0.out.lt)
  have LB1 := Lib.hid (LB0.out.trans (hb.mono LB0.out.size))
  clear hb X0 LB0
  have y0 : ¬ a < 0 := by omega
  have y1 : decide (a < 0) = false := by simp; omega
  have y2 : decide ((W : Int) ≤ a) = true := by simp; omega
  obtain ⟨q0, q1, q2, q3, q4, q5, q6⟩ := X1.out.all
  go_wp2
  go_ret2
  exact ⟨rfl, LB1.out⟩
theorem rcs_ok_true (W H : Nat) (A : Option Addr) (c : Nat) (f : Nat → Bool) (a : Nat) (w : World) (hr : Holds w w.heap.size A (W * H) f) (hW0 : 1 ≤ W) (hW : W ≤ 64) (hH0 : 1 ≤ H) (hH : H ≤ 64) (hn : W * H ≤ 4200) (hx : chk (W : Nat) (H : Nat) (W * H) = 0) (ha : a < W) :
    Calls Try.prog 29 #[.agg #[.int .i64 (W : Nat), .int .i64 (H : Nat), .slice A (W * H) c], .bool true, .int .i64 (a : Nat)] w fun e w' => e = .returned (.tuple #[.int .i64 (cro (nc W H true) (sd W H f true a) (nc W H true) : Nat), .int .i64 0]) ∧ Below w.heap.size w w' := by
  have HK := Lib.hid (fun u => (show Calls Try.prog 67 #[.agg #[.int .i64 (W : Nat), .int .i64 (H : Nat), .slice A (W * H) c]] u fun e w' => e = .returned (.int .i64 0) ∧ Below u.heap.size u w' from by have h := rchk_any (W : Nat) (H : Nat) A (W * H) c u (by omega); rwa [hx] at h))
  have HC := Lib.hid (fun u (h : Below w.heap.size w u) => rcro_any W H A c f true a u ((hr.below h).more h.size) hW0 hW hH0 hH ha)
  have X0 := Lib.hid (Box.new w (W : Nat) (H : Nat) (.slice A (W * H) c))
  have LB0 := Lib.hid (show Below w.heap.size w (w.alloc (.cells #[.int .i64 (W : Nat), .int .i64 (H : Nat), (.slice A (W * H) c)] 24)) from (Below.refl _ _).alloc (Nat.le_refl _) _)
  clear hx hr
  generalize cro (nc W H true) (sd W H f true a) (nc W H true) = C at *
  go_enter Try.func29, Try.ntmps29
  obtain ⟨q0, q1, q2, q3, q4, q5, q6⟩ := X0.out.all
  go_wp2_with fail
  clear q0 q1 q2 q3 q4 q5 q6
  refine (HK.out _).mono ?_
  rintro e w1 ⟨rfl, hb⟩
  have X1 := Lib.hid (X0.out.below hb X0.out.lt)
  have LB1 := Lib.hid (LB0.out.trans (hb.mono LB0.out.size))
  clear hb X0 LB0
  have y0 : ¬ (a : Int) < 0 := by omega
  have y2 : decide ((W : Int) ≤ (a : Int)) = false := by simp; omega
  have y3 : ¬ (W : Int) ≤ (a : Int) := by omega
  obtain ⟨q0, q1, q2, q3, q4, q5, q6⟩ := X1.out.all
  go_wp2_with fail
  clear q0 q1 q2 q3 q4 q5 q6
  refine (HC.out _ LB1.out).mono ?_
  rintro e w2 ⟨rfl, hb⟩
  have X2 := Lib.hid (X1.out.below hb X1.out.lt)
  have LB2 := Lib.hid (LB1.out.trans (hb.mono LB1.out.size))
  clear hb X1 LB1
  go_wp2
  go_ret2
  exact ⟨rfl, LB2.out⟩
theorem rcs_lo_false (W H : Nat) (A : Option Addr) (c : Nat) (a : Int) (w : World) (hn : W * H ≤ 4200) (hx : chk (W : Nat) (H : Nat) (W * H) = 0) (ha : a < 0) :
    Calls Try.prog 29 #[.agg #[.int .i64 (W : Nat), .int .i64 (H : Nat), .slice A (W * H) c], .bool false, .int .i64 a] w fun e w' => e = .returned (.tuple #[.int .i64 0, .int .i64 2]) ∧ Below w.heap.size w w' := by
  have HK := Lib.hid (fun u => (show Calls Try.prog 67 #[.agg #[.int .i64 (W : Nat), .int .i64 (H : Nat), .slice A (W * H) c]] u fun e w' => e = .returned (.int .i64 0) ∧ Below u.heap.size u w' from by have h := rchk_any (W : Nat) (H : Nat) A (W * H) c u (by omega); rwa [hx] at h))
  have X0 := Lib.hid (Box.new w (W : Nat) (H : Nat) (.slice A (W * H) c))
  have LB0 := Lib.hid (show Below w.heap.size w (w.alloc (.cells #[.int .i64 (W : Nat), .int .i64 (H : Nat), (.slice A (W * H) c)] 24)) from (Below.refl _ _).alloc (Nat.le_refl _) _)
  clear hx
  go_enter Try.func29, Try.ntmps29
  obtain ⟨q0, q1, q2, q3, q4, q5, q6⟩ := X0.out.all
  go_wp2_with fail
  clear q0 q1 q2 q3 q4 q5 q6
  refine (HK.out _).mono ?_
  rintro e w1 ⟨rfl, hb⟩
  have X1 := Lib.hid (X0.out.below hb X0.out.lt)
  have LB1 := Lib.hid (LB0.out.trans (hb.mono LB0.out.size))
  clear hb X0 LB0
  have y1 : decide (a < 0) = true := by simp; omega
  obtain ⟨q0, q1, q2, q3, q4, q5, q6⟩ := X1.out.all
  go_wp2
  go_ret2
  exact ⟨rfl, LB1.out⟩
theorem rcs_hi_false (W H : Nat) (A : Option Addr) (c : Nat) (a : Int) (w : World) (hn : W * H ≤ 4200) (hx : chk (W : Nat) (H : Nat) (W * H) = 0) (ha : (H : Int) ≤ a) :
    Calls Try.prog 29 #[.agg #[.int .i64 (W : Nat), .int .i64 (H : Nat), .slice A (W * H) c], .bool false, .int .i64 a] w fun e w' => e = .returned (.tuple #[.int .i64 0, .int .i64 2]) ∧ Below w.heap.size w w' := by
  have HK := Lib.hid (fun u => (show Calls Try.prog 67 #[.agg #[.int .i64 (W : Nat), .int .i64 (H : Nat), .slice A (W * H) c]] u fun e w' => e = .returned (.int .i64 0) ∧ Below u.heap.size u w' from by have h := rchk_any (W : Nat) (H : Nat) A (W * H) c u (by omega); rwa [hx] at h))
  have X0 := Lib.hid (Box.new w (W : Nat) (H : Nat) (.slice A (W * H) c))
  have LB0 := Lib.hid (show Below w.heap.size w (w.alloc (.cells #[.int .i64 (W : Nat), .int .i64 (H : Nat), (.slice A (W * H) c)] 24)) from (Below.refl _ _).alloc (Nat.le_refl _) _)
  clear hx
  go_enter Try.func29, Try.ntmps29
  obtain ⟨q0, q1, q2, q3, q4, q5, q6⟩ := X0.out.all
  go_wp2_with fail
  clear q0 q1 q2 q3 q4 q5 q6
  refine (HK.out _).mono ?_
  rintro e w1 ⟨rfl, hb⟩
  have X1 := Lib.hid (X0.out.below hb X0.out.lt)
  have LB1 := Lib.hid (LB0.out.trans (hb.mono LB0.out.size))
  clear hb X0 LB0
  have y0 : ¬ a < 0 := by omega
  have y1 : decide (a < 0) = false := by simp; omega
  have y2 : decide ((H : Int) ≤ a) = true := by simp; omega
  obtain ⟨q0, q1, q2, q3, q4, q5, q6⟩ := X1.out.all
  go_wp2
  go_ret2
  exact ⟨rfl, LB1.out⟩
theorem rcs_ok_false (W H : Nat) (A : Option Addr) (c : Nat) (f : Nat → Bool) (a : Nat) (w : World) (hr : Holds w w.heap.size A (W * H) f) (hW0 : 1 ≤ W) (hW : W ≤ 64) (hH0 : 1 ≤ H) (hH : H ≤ 64) (hn : W * H ≤ 4200) (hx : chk (W : Nat) (H : Nat) (W * H) = 0) (ha : a < H) :
    Calls Try.prog 29 #[.agg #[.int .i64 (W : Nat), .int .i64 (H : Nat), .slice A (W * H) c], .bool false, .int .i64 (a : Nat)] w fun e w' => e = .returned (.tuple #[.int .i64 (cro (nc W H false) (sd W H f false a) (nc W H false) : Nat), .int .i64 0]) ∧ Below w.heap.size w w' := by
  have HK := Lib.hid (fun u => (show Calls Try.prog 67 #[.agg #[.int .i64 (W : Nat), .int .i64 (H : Nat), .slice A (W * H) c]] u fun e w' => e = .returned (.int .i64 0) ∧ Below u.heap.size u w' from by have h := rchk_any (W : Nat) (H : Nat) A (W * H) c u (by omega); rwa [hx] at h))
  have HC := Lib.hid (fun u (h : Below w.heap.size w u) => rcro_any W H A c f false a u ((hr.below h).more h.size) hW0 hW hH0 hH ha)
  have X0 := Lib.hid (Box.new w (W : Nat) (H : Nat) (.slice A (W * H) c))
  have LB0 := Lib.hid (show Below w.heap.size w (w.alloc (.cells #[.int .i64 (W : Nat), .int .i64 (H : Nat), (.slice A (W * H) c)] 24)) from (Below.refl _ _).alloc (Nat.le_refl _) _)
  clear hx hr
  generalize cro (nc W H false) (sd W H f false a) (nc W H false) = C at *
  go_enter Try.func29, Try.ntmps29
  obtain ⟨q0, q1, q2, q3, q4, q5, q6⟩ := X0.out.all
  go_wp2_with fail
  clear q0 q1 q2 q3 q4 q5 q6
  refine (HK.out _).mono ?_
  rintro e w1 ⟨rfl, hb⟩
  have X1 := Lib.hid (X0.out.below hb X0.out.lt)
  have LB1 := Lib.hid (LB0.out.trans (hb.mono LB0.out.size))
  clear hb X0 LB0
  have y0 : ¬ (a : Int) < 0 := by omega
  have y2 : decide ((H : Int) ≤ (a : Int)) = false := by simp; omega
  have y3 : ¬ (H : Int) ≤ (a : Int) := by omega
  obtain ⟨q0, q1, q2, q3, q4, q5, q6⟩ := X1.out.all
  go_wp2_with fail
  clear q0 q1 q2 q3 q4 q5 q6
  refine (HC.out _ LB1.out).mono ?_
  rintro e w2 ⟨rfl, hb⟩
  have X2 := Lib.hid (X1.out.below hb X1.out.lt)
  have LB2 := Lib.hid (LB1.out.trans (hb.mono LB1.out.size))
  clear hb X1 LB1
  go_wp2
  go_ret2
  exact ⟨rfl, LB2.out⟩
/-- The crossings of the first k threads. -/
def crs (W H : Nat) (f : Nat → Bool) (warp : Bool) (k : Nat) : Nat := ((List.range k).map fun a => cro (nc W H warp) (sd W H f warp a) (nc W H warp)).sum
theorem crs_succ (W H : Nat) (f : Nat → Bool) (warp : Bool) (k : Nat) : crs W H f warp (k + 1) = crs W H f warp k + cro (nc W H warp) (sd W H f warp k) (nc W H warp) := by
  unfold crs
  rw [List.range_succ, List.map_append, List.sum_append]
  simp
theorem crs_le (W H : Nat) (f : Nat → Bool) (warp : Bool) (hW : W ≤ 64) (hH : H ≤ 64) (k : Nat) : crs W H f warp k ≤ k * 64 := by
  induction k with
  | zero => simp [crs]
  | succ k ih =>
    have h := cro_le (nc W H warp) (sd W H f warp k) (nc W H warp)
    have h2 : nc W H warp ≤ 64 := by cases warp <;> assumption
    rw [crs_succ, Nat.add_mul]
    omega
set_option maxHeartbeats 1600000 in
theorem rct_ok (W H : Nat) (A : Option Addr) (c : Nat) (f : Nat → Bool) (w : World) (hr : Holds w w.heap.size A (W * H) f) (hW0 : 1 ≤ W) (hW : W ≤ 64) (hH0 : 1 ≤ H) (hH : H ≤ 64) (hn : W * H ≤ 4200) (hx : chk (W : Nat) (H : Nat) (W * H) = 0) :
    Calls Try.prog 30 #[.agg #[.int .i64 (W : Nat), .int .i64 (H : Nat), .slice A (W * H) c]] w fun e w' => e = .returned (.tuple #[.int .i64 (crs W H f true W : Nat), .int .i64 (crs W H f false H : Nat), .int .i64 0]) ∧ Below w.heap.size w w' := by
  have HCt := Lib.hid (fun u (h : Below w.heap.size w u) a (ha : a < W) => rcro_any W H A c f true a u ((hr.below h).more h.size) hW0 hW hH0 hH ha)
  have HCf := Lib.hid (fun u (h : Below w.heap.size w u) a (ha : a < H) => rcro_any W H A c f false a u ((hr.below h).more h.size) hW0 hW hH0 hH ha)
  have HSt := Lib.hid (crs_succ W H f true)
  have HSf := Lib.hid (crs_succ W H f false)
  have HLt := Lib.hid (crs_le W H f true hW hH)
  have HLf := Lib.hid (crs_le W H f false hW hH)
  have HQt := Lib.hid (fun a => (show cro (nc W H true) (sd W H f true a) (nc W H true) ≤ 64 from Nat.le_trans (cro_le _ _ _) hH))
  have HQf := Lib.hid (fun a => (show cro (nc W H false) (sd W H f false a) (nc W H false) ≤ 64 from Nat.le_trans (cro_le _ _ _) hW))
  have HK := Lib.hid (fun u => (show Calls Try.prog 67 #[.agg #[.int .i64 (W : Nat), .int .i64 (H : Nat), .slice A (W * H) c]] u fun e w' => e = .returned (.int .i64 0) ∧ Below u.heap.size u w' from by have h := rchk_any (W : Nat) (H : Nat) A (W * H) c u (by omega); rwa [hx] at h))
  have X0 := Lib.hid (Box.new w (W : Nat) (H : Nat) (.slice A (W * H) c))
  have LB0 := Lib.hid (show Below w.heap.size w (w.alloc (.cells #[.int .i64 (W : Nat), .int .i64 (H : Nat), (.slice A (W * H) c)] 24)) from (Below.refl _ _).alloc (Nat.le_refl _) _)
  clear hx hr
  obtain ⟨Ct, hCt⟩ : ∃ C : Nat → Nat, (fun a => cro (nc W H true) (sd W H f true a) (nc W H true)) = C := ⟨_, rfl⟩
  obtain ⟨Cf, hCf⟩ : ∃ C : Nat → Nat, (fun a => cro (nc W H false) (sd W H f false a) (nc W H false)) = C := ⟨_, rfl⟩
  have eCt : ∀ a, cro (nc W H true) (sd W H f true a) (nc W H true) = Ct a := fun a => congrFun hCt a
  have eCf : ∀ a, cro (nc W H false) (sd W H f false a) (nc W H false) = Cf a := fun a => congrFun hCf a
  simp only [eCt] at HCt HSt HQt
  simp only [eCf] at HCf HSf HQf
  clear eCt eCf hCt hCf
  generalize crs W H f true = St at *
  generalize crs W H f false = Sf at *
  have HZt : Hid (St 0 = 0) := Lib.hid (Nat.le_zero.1 (HLt.out 0))
  have HZf : Hid (Sf 0 = 0) := Lib.hid (Nat.le_zero.1 (HLf.out 0))
  go_enter Try.func30, Try.ntmps30
  obtain ⟨q0, q1, q2, q3, q4, q5, q6⟩ := X0.out.all
  go_wp2_with fail
  clear q0 q1 q2 q3 q4 q5 q6
  refine (HK.out _).mono ?_
  rintro e w1 ⟨rfl, hb⟩
  have X1 := Lib.hid (X0.out.below hb X0.out.lt)
  have LB1 := Lib.hid (LB0.out.trans (hb.mono LB0.out.size))
  clear hb X0 LB0
  go_wp2
  go_loopw [5, 7] (fun q v wr => ∃ i : Nat, i ≤ W ∧ v = .int .i64 i ∧ q = .int .i64 (St i : Nat) ∧ Hid (Box wr w.heap.size (W : Nat) (H : Nat) (.slice A (W * H) c)) ∧ Hid (Below w.heap.size w wr)) (fun _ v _ => W - (intOf v).toNat)
  case atStart => exact ⟨0, by omega, rfl, by rw [HZt.out]; rfl, X1, LB1⟩
  case round =>
    obtain ⟨i, hi, rfl, rfl, HB, HL1⟩ := hrel
    obtain ⟨q0, q1, q2, q3, q4, q5, q6⟩ := HB.out.all
    by_cases hli : i < W
    · have y1 : (i : Int) < (W : Int) := by omega
      go_wp2_with fail
      clear q0 q1 q2 q3 q4 q5 q6 y1
      refine (HCt.out _ HL1.out i hli).mono ?_
      rintro e w2 ⟨rfl, hb⟩
      have HB1 := Lib.hid (HB.out.below hb HB.out.lt)
      have HL2 := Lib.hid (HL1.out.trans (hb.mono HL1.out.size))
      clear hb HB HL1
      have h1 := HLt.out i
      have h2 := HQt.out i
      go_wp2
      exact ⟨⟨i + 1, by omega, by go_num, by rw [HSt.out i]; simp, HB1, HL2⟩, by simp [intOf]; omega⟩
    · have e : i = W := by omega
      subst e
      go_wp2
      go_loopw [6, 8] (fun q v wr => ∃ k : Nat, k ≤ H ∧ v = .int .i64 k ∧ q = .int .i64 (Sf k : Nat) ∧ Hid (Box wr w.heap.size (i : Nat) (H : Nat) (.slice A (i * H) c)) ∧ Hid (Below w.heap.size w wr)) (fun _ v _ => H - (intOf v).toNat)
      case atStart => exact ⟨0, by omega, rfl, by rw [HZf.out]; rfl, HB, HL1⟩
      case round =>
        obtain ⟨k, hk, rfl, rfl, HB2, HL2⟩ := hrel
        obtain ⟨q0, q1, q2, q3, q4, q5, q6⟩ := HB2.out.all
        by_cases hlk : k < H
        · have y1 : (k : Int) < (H : Int) := by omega
          go_wp2_with fail
          clear q0 q1 q2 q3 q4 q5 q6 y1
          refine (HCf.out _ HL2.out k hlk).mono ?_
          rintro e w2 ⟨rfl, hb⟩
          have HB3 := Lib.hid (HB2.out.below hb HB2.out.lt)
          have HL3 := Lib.hid (HL2.out.trans (hb.mono HL2.out.size))
          clear hb HB2 HL2
          have h1 := HLf.out k
          have h2 := HQf.out k
          go_wp2
          exact ⟨⟨k + 1, by omega, by go_num, by rw [HSf.out k]; simp, HB3, HL3⟩, by simp [intOf]; omega⟩
        · have e : k = H := by omega
          subst e
          go_wp2
          go_ret3
          exact ⟨rfl, HL2.out⟩
end Go.Proofs.Ytnpgmgaajejhjaa
