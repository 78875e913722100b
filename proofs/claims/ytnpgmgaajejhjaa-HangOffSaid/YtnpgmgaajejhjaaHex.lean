/- The walk of HangExactly. -/
import Derived.Test.YtnpgmgaajejhjaaHal
namespace Go.Proofs.Ytnpgmgaajejhjaa
open Go.RowKit
set_option maxRecDepth 100000
set_option linter.unusedVariables false
set_option linter.unusedSimpArgs false

theorem valid_no {W H : Int} {A : Option Addr} {n c : Nat} (h : grt W H n = true ∨ chk W H n ≠ 0) (w : World) :
    Calls Try.prog 56 #[.agg #[.int .i64 W, .int .i64 H, .slice A n c]] w fun e w' => e = .returned (.bool false) ∧ Below w.heap.size w w' := by
  have X0 := Lib.hid (Box.new w W H (.slice A n c))
  have LB0 := Lib.hid (show Below w.heap.size w (w.alloc (.cells #[.int .i64 W, .int .i64 H, (.slice A n c)] 24)) from (Below.refl _ _).alloc (Nat.le_refl _) _)
  by_cases hgr : grt W H n = true
  · have HGR := Lib.hid (fun u => great_any W H A n c u)
    rw [hgr] at HGR
    clear hgr h
    go_enter Try.func56, Try.ntmps56
    go_wp2_with fail
    generalize w.alloc (.cells #[.int .i64 W, .int .i64 H, .slice A n c] 24) = w0 at *
    obtain ⟨q0, q1, q2, q3, q4, q5, q6⟩ := X0.out.all
    go_wp2_with fail
    clear q0 q1 q2 q3 q4 q5 q6
    with_reducible refine Calls.mono (HGR.out _) ?_
    rintro e w1 ⟨rfl, hb⟩
    have X1 := Lib.hid (X0.out.below hb X0.out.lt)
    have LB1 := Lib.hid (LB0.out.trans (hb.mono LB0.out.size))
    clear hb X0 LB0
    go_wp2
    go_ret
    exact ⟨rfl, LB1.out⟩
  · have hgf : grt W H n = false := by simpa using hgr
    have hn := grt_no hgf
    have hz : chk W H n ≠ 0 := by rcases h with h | h; exact absurd h hgr; exact h
    have HGR := Lib.hid (fun u => great_any W H A n c u)
    rw [hgf] at HGR
    have HK := Lib.hid (fun u => rchk_err (A := A) (c := c) (err := chk W H n) (show n ≤ 4200 by omega) rfl u)
    obtain ⟨z, hzz⟩ : ∃ z, chk W H n = z := ⟨_, rfl⟩
    rw [hzz] at hz HK
    have hz1 : (z == 0) = false := by simpa using hz
    clear hgf hgr h hzz
    go_enter Try.func56, Try.ntmps56
    go_wp2_with fail
    generalize w.alloc (.cells #[.int .i64 W, .int .i64 H, .slice A n c] 24) = w0 at *
    obtain ⟨q0, q1, q2, q3, q4, q5, q6⟩ := X0.out.all
    go_wp2_with fail
    clear q0 q1 q2 q3 q4 q5 q6
    with_reducible refine Calls.mono (HGR.out _) ?_
    rintro e w1 ⟨rfl, hb⟩
    have X1 := Lib.hid (X0.out.below hb X0.out.lt)
    have LB1 := Lib.hid (LB0.out.trans (hb.mono LB0.out.size))
    clear hb X0 LB0
    obtain ⟨q0, q1, q2, q3, q4, q5, q6⟩ := X1.out.all
    go_wp2_with fail
    clear q0 q1 q2 q3 q4 q5 q6
    with_reducible refine Calls.mono (HK.out _) ?_
    rintro e w2 ⟨rfl, hb⟩
    have X2 := Lib.hid (X1.out.below hb X1.out.lt)
    have LB2 := Lib.hid (LB1.out.trans (hb.mono LB1.out.size))
    clear hb X1 LB1
    go_wp2
    go_ret
    exact ⟨rfl, LB2.out⟩
theorem valid_yes {W H : Int} {A : Option Addr} {n c : Nat} (hgf : grt W H n = false) (hz : chk W H n = 0) (w : World) :
    Calls Try.prog 56 #[.agg #[.int .i64 W, .int .i64 H, .slice A n c]] w fun e w' => e = .returned (.bool true) ∧ Below w.heap.size w w' := by
  have X0 := Lib.hid (Box.new w W H (.slice A n c))
  have LB0 := Lib.hid (show Below w.heap.size w (w.alloc (.cells #[.int .i64 W, .int .i64 H, (.slice A n c)] 24)) from (Below.refl _ _).alloc (Nat.le_refl _) _)
  have hn := grt_no hgf
  have HGR := Lib.hid (fun u => great_any W H A n c u)
  rw [hgf] at HGR
  have HK := Lib.hid (fun u => rchk_err (A := A) (c := c) (show n ≤ 4200 by omega) hz u)
  clear hgf hz
  go_enter Try.func56, Try.ntmps56
  go_wp2_with fail
  generalize w.alloc (.cells #[.int .i64 W, .int .i64 H, .slice A n c] 24) = w0 at *
  obtain ⟨q0, q1, q2, q3, q4, q5, q6⟩ := X0.out.all
  go_wp2_with fail
  clear q0 q1 q2 q3 q4 q5 q6
  with_reducible refine Calls.mono (HGR.out _) ?_
  rintro e w1 ⟨rfl, hb⟩
  have X1 := Lib.hid (X0.out.below hb X0.out.lt)
  have LB1 := Lib.hid (LB0.out.trans (hb.mono LB0.out.size))
  clear hb X0 LB0
  obtain ⟨q0, q1, q2, q3, q4, q5, q6⟩ := X1.out.all
  go_wp2_with fail
  clear q0 q1 q2 q3 q4 q5 q6
  with_reducible refine Calls.mono (HK.out _) ?_
  rintro e w2 ⟨rfl, hb⟩
  have X2 := Lib.hid (X1.out.below hb X1.out.lt)
  have LB2 := Lib.hid (LB1.out.trans (hb.mono LB1.out.size))
  clear hb X1 LB1
  go_wp2
  go_ret
  exact ⟨rfl, LB2.out⟩
/-- A list of numbers came back; its length is a letter. -/
def PN (w : World) (n : Nat) (l : List Nat) (z : Int) (e : Ending) (w' : World) : Prop := ∃ D c, e = .returned (.tuple #[.slice D n c, .int .i64 z]) ∧ (Cp D n c ∧ LL w' D l) ∧ Below w.heap.size w w'
theorem PRet.pn {w w' : World} {l : List Nat} {n : Nat} {z : Int} {e : Ending} (h : PRet w l z e w') (hn : l.length = n) : PN w n l z e w' := by
  subst hn
  obtain ⟨D, c, h1, h2, h3, h4⟩ := h
  exact ⟨D, c, h1, ⟨h2, h3⟩, h4⟩
theorem ex_inv (W H : Int) (A : Option Addr) (n c : Nat) (D : Option Addr) (m d : Nat) (E : Option Addr) (k e : Nat) (w : World) (HV : ∀ u, Calls Try.prog 56 #[.agg #[.int .i64 W, .int .i64 H, .slice A n c]] u fun e w' => e = .returned (.bool false) ∧ Below u.heap.size u w') :
    Calls Try.prog 13 #[.agg #[.int .i64 W, .int .i64 H, .slice A n c], .slice D m d, .slice E k e] w fun e w' => e = .returned (.bool true) ∧ Below w.heap.size w w' := by
  have HV := Lib.hid HV
  have X0 := Lib.hid (Box.new w W H (.slice A n c))
  have LB0 := Lib.hid (show Below w.heap.size w (w.alloc (.cells #[.int .i64 W, .int .i64 H, (.slice A n c)] 24)) from (Below.refl _ _).alloc (Nat.le_refl _) _)
  go_enter Try.func13, Try.ntmps13
  go_wp2_with fail
  generalize w.alloc (.cells #[.int .i64 W, .int .i64 H, .slice A n c] 24) = w0 at *
  obtain ⟨q0, q1, q2, q3, q4, q5, q6⟩ := X0.out.all
  go_wp2_with fail
  clear q0 q1 q2 q3 q4 q5 q6
  with_reducible refine Calls.mono (HV.out _) ?_
  rintro e w1 ⟨rfl, hb⟩
  have X1 := Lib.hid (X0.out.below hb X0.out.lt)
  have LB1 := Lib.hid (LB0.out.trans (hb.mono LB0.out.size))
  clear hb X0 LB0
  go_wp2_with fail
  with_reducible refine Calls.mono (alive10_any _) ?_
  rintro e w2 ⟨rfl, hb⟩
  have LB2 := Lib.hid (LB1.out.trans (hb.mono LB1.out.size))
  clear hb
  go_wp2
  go_ret
  exact ⟨rfl, LB2.out⟩
theorem ex_long (W H : Int) (A : Option Addr) (n c : Nat) (D : Option Addr) (m d : Nat) (E : Option Addr) (k e : Nat) (w : World) (HV : ∀ u, Calls Try.prog 56 #[.agg #[.int .i64 W, .int .i64 H, .slice A n c]] u fun e w' => e = .returned (.bool true) ∧ Below u.heap.size u w') (hm : 200 < m) :
    Calls Try.prog 13 #[.agg #[.int .i64 W, .int .i64 H, .slice A n c], .slice D m d, .slice E k e] w fun e w' => e = .returned (.bool true) ∧ Below w.heap.size w w' := by
  have HV := Lib.hid HV
  have X0 := Lib.hid (Box.new w W H (.slice A n c))
  have LB0 := Lib.hid (show Below w.heap.size w (w.alloc (.cells #[.int .i64 W, .int .i64 H, (.slice A n c)] 24)) from (Below.refl _ _).alloc (Nat.le_refl _) _)
  have z1 : (200 : Int) < (m : Int) := by omega
  go_enter Try.func13, Try.ntmps13
  go_wp2_with fail
  generalize w.alloc (.cells #[.int .i64 W, .int .i64 H, .slice A n c] 24) = w0 at *
  obtain ⟨q0, q1, q2, q3, q4, q5, q6⟩ := X0.out.all
  go_wp2_with fail
  clear q0 q1 q2 q3 q4 q5 q6
  with_reducible refine Calls.mono (HV.out _) ?_
  rintro e w1 ⟨rfl, hb⟩
  have X1 := Lib.hid (X0.out.below hb X0.out.lt)
  have LB1 := Lib.hid (LB0.out.trans (hb.mono LB0.out.size))
  clear hb X0 LB0
  go_wp2_with fail
  with_reducible refine Calls.mono (alive10_any _) ?_
  rintro e w2 ⟨rfl, hb⟩
  have LB2 := Lib.hid (LB1.out.trans (hb.mono LB1.out.size))
  clear hb
  go_wp2
  go_ret
  exact ⟨rfl, LB2.out⟩
theorem ex_wide (W H : Int) (A : Option Addr) (n c : Nat) (D : Option Addr) (m d : Nat) (E : Option Addr) (k e : Nat) (w : World) (HV : ∀ u, Calls Try.prog 56 #[.agg #[.int .i64 W, .int .i64 H, .slice A n c]] u fun e w' => e = .returned (.bool true) ∧ Below u.heap.size u w') (hm : ¬ 200 < m) (hk : 200 < k) :
    Calls Try.prog 13 #[.agg #[.int .i64 W, .int .i64 H, .slice A n c], .slice D m d, .slice E k e] w fun e w' => e = .returned (.bool true) ∧ Below w.heap.size w w' := by
  have HV := Lib.hid HV
  have X0 := Lib.hid (Box.new w W H (.slice A n c))
  have LB0 := Lib.hid (show Below w.heap.size w (w.alloc (.cells #[.int .i64 W, .int .i64 H, (.slice A n c)] 24)) from (Below.refl _ _).alloc (Nat.le_refl _) _)
  have z1 : ¬ (200 : Int) < (m : Int) := by omega
  have z2 : (200 : Int) < (k : Int) := by omega
  go_enter Try.func13, Try.ntmps13
  go_wp2_with fail
  generalize w.alloc (.cells #[.int .i64 W, .int .i64 H, .slice A n c] 24) = w0 at *
  obtain ⟨q0, q1, q2, q3, q4, q5, q6⟩ := X0.out.all
  go_wp2_with fail
  clear q0 q1 q2 q3 q4 q5 q6
  with_reducible refine Calls.mono (HV.out _) ?_
  rintro e w1 ⟨rfl, hb⟩
  have X1 := Lib.hid (X0.out.below hb X0.out.lt)
  have LB1 := Lib.hid (LB0.out.trans (hb.mono LB0.out.size))
  clear hb X0 LB0
  go_wp2_with fail
  with_reducible refine Calls.mono (alive10_any _) ?_
  rintro e w2 ⟨rfl, hb⟩
  have LB2 := Lib.hid (LB1.out.trans (hb.mono LB1.out.size))
  clear hb
  go_wp2
  go_ret
  exact ⟨rfl, LB2.out⟩
set_option maxHeartbeats 1600000 in
theorem ex_y0 (W H : Int) (A : Option Addr) (n c : Nat) (D : Option Addr) (m d : Nat) (E : Option Addr) (k e : Nat) (w : World) (hm : ¬ 200 < m) (hk : ¬ 200 < k) (HV : ∀ u, Calls Try.prog 56 #[.agg #[.int .i64 W, .int .i64 H, .slice A n c]] u fun e w' => e = .returned (.bool true) ∧ Below u.heap.size u w') (La Lw : Nat) (ap wl : List Nat) (bw : Bool)
    (H40 : ∀ u, Below w.heap.size w u → Calls Try.prog 40 #[.agg #[.int .i64 W, .int .i64 H, .slice A n c]] u (BRet u true 0))
    (H42 : ∀ u, Below w.heap.size w u → Calls Try.prog 42 #[.agg #[.int .i64 W, .int .i64 H, .slice A n c]] u (PN u 0 ap 0))
    (H46 : ∀ u, Below w.heap.size w u → Calls Try.prog 46 #[.agg #[.int .i64 W, .int .i64 H, .slice A n c]] u (PN u Lw wl 0))
    (H43 : ∀ u, Below w.heap.size w u → Calls Try.prog 43 #[.agg #[.int .i64 W, .int .i64 H, .slice A n c], .slice D m d] u (BRet u false 0))
    (H47 : ∀ u, Below w.heap.size w u → Calls Try.prog 47 #[.agg #[.int .i64 W, .int .i64 H, .slice A n c], .slice E k e] u (BRet u bw 0))
    (H47w : ∀ u D9 d9, Below w.heap.size w u → Cp D9 Lw d9 → LL u D9 wl → Calls Try.prog 47 #[.agg #[.int .i64 W, .int .i64 H, .slice A n c], .slice D9 Lw d9] u (BRet u true 0)) :
    Calls Try.prog 13 #[.agg #[.int .i64 W, .int .i64 H, .slice A n c], .slice D m d, .slice E k e] w fun e w' => e = .returned (.bool true) ∧ Below w.heap.size w w' := by
  have HV := Lib.hid HV
  have H40 := Lib.hid H40
  have H42 := Lib.hid H42
  have H46 := Lib.hid H46
  have H43 := Lib.hid H43
  have H47 := Lib.hid H47
  have H47w := Lib.hid H47w
  have z1 : ¬ (200 : Int) < (m : Int) := by omega
  have z2 : ¬ (200 : Int) < (k : Int) := by omega
  have X0 := Lib.hid (Box.new w W H (.slice A n c))
  have LB0 := Lib.hid (show Below w.heap.size w (w.alloc (.cells #[.int .i64 W, .int .i64 H, (.slice A n c)] 24)) from (Below.refl _ _).alloc (Nat.le_refl _) _)
  go_enter Try.func13, Try.ntmps13
  go_wp2_with fail
  generalize w.alloc (.cells #[.int .i64 W, .int .i64 H, .slice A n c] 24) = w0 at *
  obtain ⟨q0, q1, q2, q3, q4, q5, q6⟩ := X0.out.all
  go_wp2_with fail
  clear q0 q1 q2 q3 q4 q5 q6
  with_reducible refine Calls.mono (HV.out _) ?_
  rintro e w1 ⟨rfl, hb⟩
  have X1 := Lib.hid (X0.out.below hb X0.out.lt)
  have LB1 := Lib.hid (LB0.out.trans (hb.mono LB0.out.size))
  clear hb X0 LB0
  obtain ⟨q0, q1, q2, q3, q4, q5, q6⟩ := X1.out.all
  go_wp2_with fail
  clear q0 q1 q2 q3 q4 q5 q6
  with_reducible refine Calls.mono (H40.out _ LB1.out) ?_
  rintro e w2 ⟨rfl, hb⟩
  have X2 := Lib.hid (X1.out.below hb X1.out.lt)
  have LB2 := Lib.hid (LB1.out.trans (hb.mono LB1.out.size))
  clear hb X1 LB1
  obtain ⟨q0, q1, q2, q3, q4, q5, q6⟩ := X2.out.all
  go_wp2_with fail
  clear q0 q1 q2 q3 q4 q5 q6
  with_reducible refine Calls.mono (H42.out _ LB2.out) ?_
  rintro e w3 ⟨D1, d1, rfl, hcl, hb⟩
  have X3 := Lib.hid (X2.out.below hb X2.out.lt)
  have LB3 := Lib.hid (LB2.out.trans (hb.mono LB2.out.size))
  have P1 := Lib.hid hcl.2
  clear hcl
  clear hb X2 LB2
  obtain ⟨q0, q1, q2, q3, q4, q5, q6⟩ := X3.out.all
  go_wp2_with fail
  clear q0 q1 q2 q3 q4 q5 q6
  with_reducible refine Calls.mono (H46.out _ LB3.out) ?_
  rintro e w4 ⟨D2, d2, rfl, hcl, hb⟩
  have X4 := Lib.hid (X3.out.below hb X3.out.lt)
  have LB4 := Lib.hid (LB3.out.trans (hb.mono LB3.out.size))
  have P2 := Lib.hid hcl.2
  have K2 := Lib.hid hcl.1
  clear hcl
  clear hb X3 LB3
  obtain ⟨q0, q1, q2, q3, q4, q5, q6⟩ := X4.out.all
  go_wp2_with fail
  clear q0 q1 q2 q3 q4 q5 q6
  with_reducible refine Calls.mono (H43.out _ LB4.out) ?_
  rintro e w5 ⟨rfl, hb⟩
  have X5 := Lib.hid (X4.out.below hb X4.out.lt)
  have LB5 := Lib.hid (LB4.out.trans (hb.mono LB4.out.size))
  have P2 := Lib.hid (P2.out.below hb)
  clear hb X4 LB4
  obtain ⟨q0, q1, q2, q3, q4, q5, q6⟩ := X5.out.all
  go_wp2_with fail
  clear q0 q1 q2 q3 q4 q5 q6
  with_reducible refine Calls.mono (H47.out _ LB5.out) ?_
  rintro e w6 ⟨rfl, hb⟩
  have X6 := Lib.hid (X5.out.below hb X5.out.lt)
  have LB6 := Lib.hid (LB5.out.trans (hb.mono LB5.out.size))
  have P2 := Lib.hid (P2.out.below hb)
  clear hb X5 LB5
  obtain ⟨q0, q1, q2, q3, q4, q5, q6⟩ := X6.out.all
  go_wp2_with fail
  clear q0 q1 q2 q3 q4 q5 q6
  with_reducible refine Calls.mono (H47w.out _ _ _ LB6.out K2.out P2.out) ?_
  rintro e w7 ⟨rfl, hb⟩
  have X7 := Lib.hid (X6.out.below hb X6.out.lt)
  have LB7 := Lib.hid (LB6.out.trans (hb.mono LB6.out.size))
  have P2 := Lib.hid (P2.out.below hb)
  clear hb X6 LB6
  go_wp2_with fail
  with_reducible refine Calls.mono (alive10_any _) ?_
  rintro e w8 ⟨rfl, hb⟩
  have LB8 := Lib.hid (LB7.out.trans (hb.mono LB7.out.size))
  clear hb
  go_wp2
  go_ret
  exact ⟨rfl, LB8.out⟩
set_option maxHeartbeats 1600000 in
theorem ex_y2 (W H : Int) (A : Option Addr) (n c : Nat) (D : Option Addr) (m d : Nat) (E : Option Addr) (k e : Nat) (w : World) (hm : ¬ 200 < m) (hk : ¬ 200 < k) (HV : ∀ u, Calls Try.prog 56 #[.agg #[.int .i64 W, .int .i64 H, .slice A n c]] u fun e w' => e = .returned (.bool true) ∧ Below u.heap.size u w') (La Lw : Nat) (ap wl : List Nat) (bw : Bool)
    (H40 : ∀ u, Below w.heap.size w u → Calls Try.prog 40 #[.agg #[.int .i64 W, .int .i64 H, .slice A n c]] u (BRet u true 0))
    (H42 : ∀ u, Below w.heap.size w u → Calls Try.prog 42 #[.agg #[.int .i64 W, .int .i64 H, .slice A n c]] u (PN u 0 ap 0))
    (H46 : ∀ u, Below w.heap.size w u → Calls Try.prog 46 #[.agg #[.int .i64 W, .int .i64 H, .slice A n c]] u (PN u Lw wl 0))
    (H43 : ∀ u, Below w.heap.size w u → Calls Try.prog 43 #[.agg #[.int .i64 W, .int .i64 H, .slice A n c], .slice D m d] u (BRet u false 2))
    (H47 : ∀ u, Below w.heap.size w u → Calls Try.prog 47 #[.agg #[.int .i64 W, .int .i64 H, .slice A n c], .slice E k e] u (BRet u bw 0))
    (H47w : ∀ u D9 d9, Below w.heap.size w u → Cp D9 Lw d9 → LL u D9 wl → Calls Try.prog 47 #[.agg #[.int .i64 W, .int .i64 H, .slice A n c], .slice D9 Lw d9] u (BRet u true 0)) :
    Calls Try.prog 13 #[.agg #[.int .i64 W, .int .i64 H, .slice A n c], .slice D m d, .slice E k e] w fun e w' => e = .returned (.bool true) ∧ Below w.heap.size w w' := by
  have HV := Lib.hid HV
  have H40 := Lib.hid H40
  have H42 := Lib.hid H42
  have H46 := Lib.hid H46
  have H43 := Lib.hid H43
  have H47 := Lib.hid H47
  have H47w := Lib.hid H47w
  have z1 : ¬ (200 : Int) < (m : Int) := by omega
  have z2 : ¬ (200 : Int) < (k : Int) := by omega
  have X0 := Lib.hid (Box.new w W H (.slice A n c))
  have LB0 := Lib.hid (show Below w.heap.size w (w.alloc (.cells #[.int .i64 W, .int .i64 H, (.slice A n c)] 24)) from (Below.refl _ _).alloc (Nat.le_refl _) _)
  go_enter Try.func13, Try.ntmps13
  go_wp2_with fail
  generalize w.alloc (.cells #[.int .i64 W, .int .i64 H, .slice A n c] 24) = w0 at *
  obtain ⟨q0, q1, q2, q3, q4, q5, q6⟩ := X0.out.all
  go_wp2_with fail
  clear q0 q1 q2 q3 q4 q5 q6
  with_reducible refine Calls.mono (HV.out _) ?_
  rintro e w1 ⟨rfl, hb⟩
  have X1 := Lib.hid (X0.out.below hb X0.out.lt)
  have LB1 := Lib.hid (LB0.out.trans (hb.mono LB0.out.size))
  clear hb X0 LB0
  obtain ⟨q0, q1, q2, q3, q4, q5, q6⟩ := X1.out.all
  go_wp2_with fail
  clear q0 q1 q2 q3 q4 q5 q6
  with_reducible refine Calls.mono (H40.out _ LB1.out) ?_
  rintro e w2 ⟨rfl, hb⟩
  have X2 := Lib.hid (X1.out.below hb X1.out.lt)
  have LB2 := Lib.hid (LB1.out.trans (hb.mono LB1.out.size))
  clear hb X1 LB1
  obtain ⟨q0, q1, q2, q3, q4, q5, q6⟩ := X2.out.all
  go_wp2_with fail
  clear q0 q1 q2 q3 q4 q5 q6
  with_reducible refine Calls.mono (H42.out _ LB2.out) ?_
  rintro e w3 ⟨D1, d1, rfl, hcl, hb⟩
  have X3 := Lib.hid (X2.out.below hb X2.out.lt)
  have LB3 := Lib.hid (LB2.out.trans (hb.mono LB2.out.size))
  have P1 := Lib.hid hcl.2
  clear hcl
  clear hb X2 LB2
  obtain ⟨q0, q1, q2, q3, q4, q5, q6⟩ := X3.out.all
  go_wp2_with fail
  clear q0 q1 q2 q3 q4 q5 q6
  with_reducible refine Calls.mono (H46.out _ LB3.out) ?_
  rintro e w4 ⟨D2, d2, rfl, hcl, hb⟩
  have X4 := Lib.hid (X3.out.below hb X3.out.lt)
  have LB4 := Lib.hid (LB3.out.trans (hb.mono LB3.out.size))
  have P2 := Lib.hid hcl.2
  have K2 := Lib.hid hcl.1
  clear hcl
  clear hb X3 LB3
  obtain ⟨q0, q1, q2, q3, q4, q5, q6⟩ := X4.out.all
  go_wp2_with fail
  clear q0 q1 q2 q3 q4 q5 q6
  with_reducible refine Calls.mono (H43.out _ LB4.out) ?_
  rintro e w5 ⟨rfl, hb⟩
  have X5 := Lib.hid (X4.out.below hb X4.out.lt)
  have LB5 := Lib.hid (LB4.out.trans (hb.mono LB4.out.size))
  have P2 := Lib.hid (P2.out.below hb)
  clear hb X4 LB4
  obtain ⟨q0, q1, q2, q3, q4, q5, q6⟩ := X5.out.all
  go_wp2_with fail
  clear q0 q1 q2 q3 q4 q5 q6
  with_reducible refine Calls.mono (H47.out _ LB5.out) ?_
  rintro e w6 ⟨rfl, hb⟩
  have X6 := Lib.hid (X5.out.below hb X5.out.lt)
  have LB6 := Lib.hid (LB5.out.trans (hb.mono LB5.out.size))
  have P2 := Lib.hid (P2.out.below hb)
  clear hb X5 LB5
  obtain ⟨q0, q1, q2, q3, q4, q5, q6⟩ := X6.out.all
  go_wp2_with fail
  clear q0 q1 q2 q3 q4 q5 q6
  with_reducible refine Calls.mono (H47w.out _ _ _ LB6.out K2.out P2.out) ?_
  rintro e w7 ⟨rfl, hb⟩
  have X7 := Lib.hid (X6.out.below hb X6.out.lt)
  have LB7 := Lib.hid (LB6.out.trans (hb.mono LB6.out.size))
  have P2 := Lib.hid (P2.out.below hb)
  clear hb X6 LB6
  go_wp2_with fail
  with_reducible refine Calls.mono (alive10_any _) ?_
  rintro e w8 ⟨rfl, hb⟩
  have LB8 := Lib.hid (LB7.out.trans (hb.mono LB7.out.size))
  clear hb
  go_wp2
  go_ret
  exact ⟨rfl, LB8.out⟩
set_option maxHeartbeats 1600000 in
theorem ex_n0 (W H : Int) (A : Option Addr) (n c : Nat) (D : Option Addr) (m d : Nat) (E : Option Addr) (k e : Nat) (w : World) (hm : ¬ 200 < m) (hk : ¬ 200 < k) (HV : ∀ u, Calls Try.prog 56 #[.agg #[.int .i64 W, .int .i64 H, .slice A n c]] u fun e w' => e = .returned (.bool true) ∧ Below u.heap.size u w') (La Lw : Nat) (ap wl : List Nat) (bw : Bool)
    (H40 : ∀ u, Below w.heap.size w u → Calls Try.prog 40 #[.agg #[.int .i64 W, .int .i64 H, .slice A n c]] u (BRet u false 0))
    (H42 : ∀ u, Below w.heap.size w u → Calls Try.prog 42 #[.agg #[.int .i64 W, .int .i64 H, .slice A n c]] u (PN u La ap 0))
    (H46 : ∀ u, Below w.heap.size w u → Calls Try.prog 46 #[.agg #[.int .i64 W, .int .i64 H, .slice A n c]] u (PN u 0 wl 20))
    (H43 : ∀ u, Below w.heap.size w u → Calls Try.prog 43 #[.agg #[.int .i64 W, .int .i64 H, .slice A n c], .slice D m d] u (BRet u false 0))
    (H47 : ∀ u, Below w.heap.size w u → Calls Try.prog 47 #[.agg #[.int .i64 W, .int .i64 H, .slice A n c], .slice E k e] u (BRet u false 0))
    (H43a : ∀ u D9 d9, Below w.heap.size w u → LL u D9 ap → Calls Try.prog 43 #[.agg #[.int .i64 W, .int .i64 H, .slice A n c], .slice D9 La d9] u (BRet u true 0)) :
    Calls Try.prog 13 #[.agg #[.int .i64 W, .int .i64 H, .slice A n c], .slice D m d, .slice E k e] w fun e w' => e = .returned (.bool true) ∧ Below w.heap.size w w' := by
  have HV := Lib.hid HV
  have H40 := Lib.hid H40
  have H42 := Lib.hid H42
  have H46 := Lib.hid H46
  have H43 := Lib.hid H43
  have H47 := Lib.hid H47
  have H43a := Lib.hid H43a
  have z1 : ¬ (200 : Int) < (m : Int) := by omega
  have z2 : ¬ (200 : Int) < (k : Int) := by omega
  have X0 := Lib.hid (Box.new w W H (.slice A n c))
  have LB0 := Lib.hid (show Below w.heap.size w (w.alloc (.cells #[.int .i64 W, .int .i64 H, (.slice A n c)] 24)) from (Below.refl _ _).alloc (Nat.le_refl _) _)
  go_enter Try.func13, Try.ntmps13
  go_wp2_with fail
  generalize w.alloc (.cells #[.int .i64 W, .int .i64 H, .slice A n c] 24) = w0 at *
  obtain ⟨q0, q1, q2, q3, q4, q5, q6⟩ := X0.out.all
  go_wp2_with fail
  clear q0 q1 q2 q3 q4 q5 q6
  with_reducible refine Calls.mono (HV.out _) ?_
  rintro e w1 ⟨rfl, hb⟩
  have X1 := Lib.hid (X0.out.below hb X0.out.lt)
  have LB1 := Lib.hid (LB0.out.trans (hb.mono LB0.out.size))
  clear hb X0 LB0
  obtain ⟨q0, q1, q2, q3, q4, q5, q6⟩ := X1.out.all
  go_wp2_with fail
  clear q0 q1 q2 q3 q4 q5 q6
  with_reducible refine Calls.mono (H40.out _ LB1.out) ?_
  rintro e w2 ⟨rfl, hb⟩
  have X2 := Lib.hid (X1.out.below hb X1.out.lt)
  have LB2 := Lib.hid (LB1.out.trans (hb.mono LB1.out.size))
  clear hb X1 LB1
  obtain ⟨q0, q1, q2, q3, q4, q5, q6⟩ := X2.out.all
  go_wp2_with fail
  clear q0 q1 q2 q3 q4 q5 q6
  with_reducible refine Calls.mono (H42.out _ LB2.out) ?_
  rintro e w3 ⟨D1, d1, rfl, hcl, hb⟩
  have X3 := Lib.hid (X2.out.below hb X2.out.lt)
  have LB3 := Lib.hid (LB2.out.trans (hb.mono LB2.out.size))
  have P1 := Lib.hid hcl.2
  clear hcl
  clear hb X2 LB2
  obtain ⟨q0, q1, q2, q3, q4, q5, q6⟩ := X3.out.all
  go_wp2_with fail
  clear q0 q1 q2 q3 q4 q5 q6
  with_reducible refine Calls.mono (H46.out _ LB3.out) ?_
  rintro e w4 ⟨D2, d2, rfl, hcl, hb⟩
  have X4 := Lib.hid (X3.out.below hb X3.out.lt)
  have LB4 := Lib.hid (LB3.out.trans (hb.mono LB3.out.size))
  have P1 := Lib.hid (P1.out.below hb)
  have P2 := Lib.hid hcl.2
  have K2 := Lib.hid hcl.1
  clear hcl
  clear hb X3 LB3
  obtain ⟨q0, q1, q2, q3, q4, q5, q6⟩ := X4.out.all
  go_wp2_with fail
  clear q0 q1 q2 q3 q4 q5 q6
  with_reducible refine Calls.mono (H43.out _ LB4.out) ?_
  rintro e w5 ⟨rfl, hb⟩
  have X5 := Lib.hid (X4.out.below hb X4.out.lt)
  have LB5 := Lib.hid (LB4.out.trans (hb.mono LB4.out.size))
  have P1 := Lib.hid (P1.out.below hb)
  clear hb X4 LB4
  obtain ⟨q0, q1, q2, q3, q4, q5, q6⟩ := X5.out.all
  go_wp2_with fail
  clear q0 q1 q2 q3 q4 q5 q6
  with_reducible refine Calls.mono (H47.out _ LB5.out) ?_
  rintro e w6 ⟨rfl, hb⟩
  have X6 := Lib.hid (X5.out.below hb X5.out.lt)
  have LB6 := Lib.hid (LB5.out.trans (hb.mono LB5.out.size))
  have P1 := Lib.hid (P1.out.below hb)
  clear hb X5 LB5
  obtain ⟨q0, q1, q2, q3, q4, q5, q6⟩ := X6.out.all
  go_wp2_with fail
  clear q0 q1 q2 q3 q4 q5 q6
  with_reducible refine Calls.mono (H43a.out _ _ _ LB6.out P1.out) ?_
  rintro e w7 ⟨rfl, hb⟩
  have X7 := Lib.hid (X6.out.below hb X6.out.lt)
  have LB7 := Lib.hid (LB6.out.trans (hb.mono LB6.out.size))
  have P1 := Lib.hid (P1.out.below hb)
  clear hb X6 LB6
  go_wp2_with fail
  with_reducible refine Calls.mono (alive10_any _) ?_
  rintro e w8 ⟨rfl, hb⟩
  have LB8 := Lib.hid (LB7.out.trans (hb.mono LB7.out.size))
  clear hb
  go_wp2
  go_ret
  exact ⟨rfl, LB8.out⟩
set_option maxHeartbeats 1600000 in
theorem ex_n2 (W H : Int) (A : Option Addr) (n c : Nat) (D : Option Addr) (m d : Nat) (E : Option Addr) (k e : Nat) (w : World) (hm : ¬ 200 < m) (hk : ¬ 200 < k) (HV : ∀ u, Calls Try.prog 56 #[.agg #[.int .i64 W, .int .i64 H, .slice A n c]] u fun e w' => e = .returned (.bool true) ∧ Below u.heap.size u w') (La Lw : Nat) (ap wl : List Nat) (bw : Bool)
    (H40 : ∀ u, Below w.heap.size w u → Calls Try.prog 40 #[.agg #[.int .i64 W, .int .i64 H, .slice A n c]] u (BRet u false 0))
    (H42 : ∀ u, Below w.heap.size w u → Calls Try.prog 42 #[.agg #[.int .i64 W, .int .i64 H, .slice A n c]] u (PN u La ap 0))
    (H46 : ∀ u, Below w.heap.size w u → Calls Try.prog 46 #[.agg #[.int .i64 W, .int .i64 H, .slice A n c]] u (PN u 0 wl 20))
    (H43 : ∀ u, Below w.heap.size w u → Calls Try.prog 43 #[.agg #[.int .i64 W, .int .i64 H, .slice A n c], .slice D m d] u (BRet u false 2))
    (H47 : ∀ u, Below w.heap.size w u → Calls Try.prog 47 #[.agg #[.int .i64 W, .int .i64 H, .slice A n c], .slice E k e] u (BRet u false 0))
    (H43a : ∀ u D9 d9, Below w.heap.size w u → LL u D9 ap → Calls Try.prog 43 #[.agg #[.int .i64 W, .int .i64 H, .slice A n c], .slice D9 La d9] u (BRet u true 0)) :
    Calls Try.prog 13 #[.agg #[.int .i64 W, .int .i64 H, .slice A n c], .slice D m d, .slice E k e] w fun e w' => e = .returned (.bool true) ∧ Below w.heap.size w w' := by
  have HV := Lib.hid HV
  have H40 := Lib.hid H40
  have H42 := Lib.hid H42
  have H46 := Lib.hid H46
  have H43 := Lib.hid H43
  have H47 := Lib.hid H47
  have H43a := Lib.hid H43a
  have z1 : ¬ (200 : Int) < (m : Int) := by omega
  have z2 : ¬ (200 : Int) < (k : Int) := by omega
  have X0 := Lib.hid (Box.new w W H (.slice A n c))
  have LB0 := Lib.hid (show Below w.heap.size w (w.alloc (.cells #[.int .i64 W, .int .i64 H, (.slice A n c)] 24)) from (Below.refl _ _).alloc (Nat.le_refl _) _)
  go_enter Try.func13, Try.ntmps13
  go_wp2_with fail
  generalize w.alloc (.cells #[.int .i64 W, .int .i64 H, .slice A n c] 24) = w0 at *
  obtain ⟨q0, q1, q2, q3, q4, q5, q6⟩ := X0.out.all
  go_wp2_with fail
  clear q0 q1 q2 q3 q4 q5 q6
  with_reducible refine Calls.mono (HV.out _) ?_
  rintro e w1 ⟨rfl, hb⟩
  have X1 := Lib.hid (X0.out.below hb X0.out.lt)
  have LB1 := Lib.hid (LB0.out.trans (hb.mono LB0.out.size))
  clear hb X0 LB0
  obtain ⟨q0, q1, q2, q3, q4, q5, q6⟩ := X1.out.all
  go_wp2_with fail
  clear q0 q1 q2 q3 q4 q5 q6
  with_reducible refine Calls.mono (H40.out _ LB1.out) ?_
  rintro e w2 ⟨rfl, hb⟩
  have X2 := Lib.hid (X1.out.below hb X1.out.lt)
  have LB2 := Lib.hid (LB1.out.trans (hb.mono LB1.out.size))
  clear hb X1 LB1
  obtain ⟨q0, q1, q2, q3, q4, q5, q6⟩ := X2.out.all
  go_wp2_with fail
  clear q0 q1 q2 q3 q4 q5 q6
  with_reducible refine Calls.mono (H42.out _ LB2.out) ?_
  rintro e w3 ⟨D1, d1, rfl, hcl, hb⟩
  have X3 := Lib.hid (X2.out.below hb X2.out.lt)
  have LB3 := Lib.hid (LB2.out.trans (hb.mono LB2.out.size))
  have P1 := Lib.hid hcl.2
  clear hcl
  clear hb X2 LB2
  obtain ⟨q0, q1, q2, q3, q4, q5, q6⟩ := X3.out.all
  go_wp2_with fail
  clear q0 q1 q2 q3 q4 q5 q6
  with_reducible refine Calls.mono (H46.out _ LB3.out) ?_
  rintro e w4 ⟨D2, d2, rfl, hcl, hb⟩
  have X4 := Lib.hid (X3.out.below hb X3.out.lt)
  have LB4 := Lib.hid (LB3.out.trans (hb.mono LB3.out.size))
  have P1 := Lib.hid (P1.out.below hb)
  have P2 := Lib.hid hcl.2
  have K2 := Lib.hid hcl.1
  clear hcl
  clear hb X3 LB3
  obtain ⟨q0, q1, q2, q3, q4, q5, q6⟩ := X4.out.all
  go_wp2_with fail
  clear q0 q1 q2 q3 q4 q5 q6
  with_reducible refine Calls.mono (H43.out _ LB4.out) ?_
  rintro e w5 ⟨rfl, hb⟩
  have X5 := Lib.hid (X4.out.below hb X4.out.lt)
  have LB5 := Lib.hid (LB4.out.trans (hb.mono LB4.out.size))
  have P1 := Lib.hid (P1.out.below hb)
  clear hb X4 LB4
  obtain ⟨q0, q1, q2, q3, q4, q5, q6⟩ := X5.out.all
  go_wp2_with fail
  clear q0 q1 q2 q3 q4 q5 q6
  with_reducible refine Calls.mono (H47.out _ LB5.out) ?_
  rintro e w6 ⟨rfl, hb⟩
  have X6 := Lib.hid (X5.out.below hb X5.out.lt)
  have LB6 := Lib.hid (LB5.out.trans (hb.mono LB5.out.size))
  have P1 := Lib.hid (P1.out.below hb)
  clear hb X5 LB5
  obtain ⟨q0, q1, q2, q3, q4, q5, q6⟩ := X6.out.all
  go_wp2_with fail
  clear q0 q1 q2 q3 q4 q5 q6
  with_reducible refine Calls.mono (H43a.out _ _ _ LB6.out P1.out) ?_
  rintro e w7 ⟨rfl, hb⟩
  have X7 := Lib.hid (X6.out.below hb X6.out.lt)
  have LB7 := Lib.hid (LB6.out.trans (hb.mono LB6.out.size))
  have P1 := Lib.hid (P1.out.below hb)
  clear hb X6 LB6
  go_wp2_with fail
  with_reducible refine Calls.mono (alive10_any _) ?_
  rintro e w8 ⟨rfl, hb⟩
  have LB8 := Lib.hid (LB7.out.trans (hb.mono LB7.out.size))
  clear hb
  go_wp2
  go_ret
  exact ⟨rfl, LB8.out⟩
set_option maxHeartbeats 1600000 in
theorem ex_nt (W H : Int) (A : Option Addr) (n c : Nat) (D : Option Addr) (m d : Nat) (E : Option Addr) (k e : Nat) (w : World) (hm : ¬ 200 < m) (hk : ¬ 200 < k) (HV : ∀ u, Calls Try.prog 56 #[.agg #[.int .i64 W, .int .i64 H, .slice A n c]] u fun e w' => e = .returned (.bool true) ∧ Below u.heap.size u w') (La Lw : Nat) (ap wl : List Nat) (bw : Bool)
    (H40 : ∀ u, Below w.heap.size w u → Calls Try.prog 40 #[.agg #[.int .i64 W, .int .i64 H, .slice A n c]] u (BRet u false 0))
    (H42 : ∀ u, Below w.heap.size w u → Calls Try.prog 42 #[.agg #[.int .i64 W, .int .i64 H, .slice A n c]] u (PN u La ap 0))
    (H46 : ∀ u, Below w.heap.size w u → Calls Try.prog 46 #[.agg #[.int .i64 W, .int .i64 H, .slice A n c]] u (PN u 0 wl 20))
    (H43 : ∀ u, Below w.heap.size w u → Calls Try.prog 43 #[.agg #[.int .i64 W, .int .i64 H, .slice A n c], .slice D m d] u (BRet u true 0))
    (H47 : ∀ u, Below w.heap.size w u → Calls Try.prog 47 #[.agg #[.int .i64 W, .int .i64 H, .slice A n c], .slice E k e] u (BRet u false 0))
    (H43a : ∀ u D9 d9, Below w.heap.size w u → LL u D9 ap → Calls Try.prog 43 #[.agg #[.int .i64 W, .int .i64 H, .slice A n c], .slice D9 La d9] u (BRet u true 0)) (hle : La ≤ m) :
    Calls Try.prog 13 #[.agg #[.int .i64 W, .int .i64 H, .slice A n c], .slice D m d, .slice E k e] w fun e w' => e = .returned (.bool true) ∧ Below w.heap.size w w' := by
  have HV := Lib.hid HV
  have H40 := Lib.hid H40
  have H42 := Lib.hid H42
  have H46 := Lib.hid H46
  have H43 := Lib.hid H43
  have H47 := Lib.hid H47
  have H43a := Lib.hid H43a
  have z1 : ¬ (200 : Int) < (m : Int) := by omega
  have z2 : ¬ (200 : Int) < (k : Int) := by omega
  have z3 : (La : Int) ≤ (m : Int) := by omega
  have X0 := Lib.hid (Box.new w W H (.slice A n c))
  have LB0 := Lib.hid (show Below w.heap.size w (w.alloc (.cells #[.int .i64 W, .int .i64 H, (.slice A n c)] 24)) from (Below.refl _ _).alloc (Nat.le_refl _) _)
  go_enter Try.func13, Try.ntmps13
  go_wp2_with fail
  generalize w.alloc (.cells #[.int .i64 W, .int .i64 H, .slice A n c] 24) = w0 at *
  obtain ⟨q0, q1, q2, q3, q4, q5, q6⟩ := X0.out.all
  go_wp2_with fail
  clear q0 q1 q2 q3 q4 q5 q6
  with_reducible refine Calls.mono (HV.out _) ?_
  rintro e w1 ⟨rfl, hb⟩
  have X1 := Lib.hid (X0.out.below hb X0.out.lt)
  have LB1 := Lib.hid (LB0.out.trans (hb.mono LB0.out.size))
  clear hb X0 LB0
  obtain ⟨q0, q1, q2, q3, q4, q5, q6⟩ := X1.out.all
  go_wp2_with fail
  clear q0 q1 q2 q3 q4 q5 q6
  with_reducible refine Calls.mono (H40.out _ LB1.out) ?_
  rintro e w2 ⟨rfl, hb⟩
  have X2 := Lib.hid (X1.out.below hb X1.out.lt)
  have LB2 := Lib.hid (LB1.out.trans (hb.mono LB1.out.size))
  clear hb X1 LB1
  obtain ⟨q0, q1, q2, q3, q4, q5, q6⟩ := X2.out.all
  go_wp2_with fail
  clear q0 q1 q2 q3 q4 q5 q6
  with_reducible refine Calls.mono (H42.out _ LB2.out) ?_
  rintro e w3 ⟨D1, d1, rfl, hcl, hb⟩
  have X3 := Lib.hid (X2.out.below hb X2.out.lt)
  have LB3 := Lib.hid (LB2.out.trans (hb.mono LB2.out.size))
  have P1 := Lib.hid hcl.2
  clear hcl
  clear hb X2 LB2
  obtain ⟨q0, q1, q2, q3, q4, q5, q6⟩ := X3.out.all
  go_wp2_with fail
  clear q0 q1 q2 q3 q4 q5 q6
  with_reducible refine Calls.mono (H46.out _ LB3.out) ?_
  rintro e w4 ⟨D2, d2, rfl, hcl, hb⟩
  have X4 := Lib.hid (X3.out.below hb X3.out.lt)
  have LB4 := Lib.hid (LB3.out.trans (hb.mono LB3.out.size))
  have P1 := Lib.hid (P1.out.below hb)
  have P2 := Lib.hid hcl.2
  have K2 := Lib.hid hcl.1
  clear hcl
  clear hb X3 LB3
  obtain ⟨q0, q1, q2, q3, q4, q5, q6⟩ := X4.out.all
  go_wp2_with fail
  clear q0 q1 q2 q3 q4 q5 q6
  with_reducible refine Calls.mono (H43.out _ LB4.out) ?_
  rintro e w5 ⟨rfl, hb⟩
  have X5 := Lib.hid (X4.out.below hb X4.out.lt)
  have LB5 := Lib.hid (LB4.out.trans (hb.mono LB4.out.size))
  have P1 := Lib.hid (P1.out.below hb)
  clear hb X4 LB4
  obtain ⟨q0, q1, q2, q3, q4, q5, q6⟩ := X5.out.all
  go_wp2_with fail
  clear q0 q1 q2 q3 q4 q5 q6
  with_reducible refine Calls.mono (H47.out _ LB5.out) ?_
  rintro e w6 ⟨rfl, hb⟩
  have X6 := Lib.hid (X5.out.below hb X5.out.lt)
  have LB6 := Lib.hid (LB5.out.trans (hb.mono LB5.out.size))
  have P1 := Lib.hid (P1.out.below hb)
  clear hb X5 LB5
  obtain ⟨q0, q1, q2, q3, q4, q5, q6⟩ := X6.out.all
  go_wp2_with fail
  clear q0 q1 q2 q3 q4 q5 q6
  with_reducible refine Calls.mono (H43a.out _ _ _ LB6.out P1.out) ?_
  rintro e w7 ⟨rfl, hb⟩
  have X7 := Lib.hid (X6.out.below hb X6.out.lt)
  have LB7 := Lib.hid (LB6.out.trans (hb.mono LB6.out.size))
  have P1 := Lib.hid (P1.out.below hb)
  clear hb X6 LB6
  go_wp2_with fail
  with_reducible refine Calls.mono (alive10_any _) ?_
  rintro e w8 ⟨rfl, hb⟩
  have LB8 := Lib.hid (LB7.out.trans (hb.mono LB7.out.size))
  clear hb
  go_wp2
  go_ret
  exact ⟨rfl, LB8.out⟩
theorem exactly10_any (W H : Int) (A : Option Addr) (n c : Nat) (f : Nat → Bool) (D : Option Addr) (m d : Nat) (s : Nat → Int) (E : Option Addr) (k e : Nat) (l : Nat → Int) (w : World) (hg : Holds w w.heap.size A n f) (hs : L2.Holds w w.heap.size D m s) (hl : L2.Holds w w.heap.size E k l) (hcl : k ≤ e) :
    Calls Try.prog 13 #[.agg #[.int .i64 W, .int .i64 H, .slice A n c], .slice D m d, .slice E k e] w fun e w' => e = .returned (.bool true) ∧ Below w.heap.size w w' := by
  by_cases hgr : grt W H n = true
  · exact ex_inv W H A n c D m d E k e w (valid_no (.inl hgr))
  have hgf : grt W H n = false := by simpa using hgr
  by_cases hz : chk W H n = 0
  · have HV := fun u => valid_yes (A := A) (c := c) hgf hz u
    by_cases hm : 200 < m
    · exact ex_long W H A n c D m d E k e w HV hm
    by_cases hk : 200 < k
    · exact ex_wide W H A n c D m d E k e w HV hm hk
    have h24 : W + H ≤ 24 := by
      unfold grt at hgf
      rw [hz] at hgf
      simp at hgf
      omega
    obtain ⟨x, y, rfl, rfl, rfl, h1, h2, h3, h4⟩ := chk_nat hz
    have hgu : ∀ u, Below w.heap.size w u → Holds u u.heap.size A (x * y) f := fun u hu => (hg.below hu).more hu.size
    have hsu : ∀ u, Below w.heap.size w u → L2.Holds u u.heap.size D m s := fun u hu => (hs.below hu).more hu.size
    have hlu : ∀ u, Below w.heap.size w u → L2.Holds u u.heap.size E k l := fun u hu => (hl.below hu).more hu.size
    have H47 := fun u (hu : Below w.heap.size w u) => paccept_ok x y (x + y) rfl A c f E k e l u (hgu u hu) h1 h2 h3 h4 (by omega) hcl (hlu u hu) (by omega)
    have h2N : 2 ≤ x + y := by omega
    by_cases hh : hgs (ov x f) (x + y) = true
    · have k1 := wlk_len (R := ov x f) (N := x + y) (by omega) (x + y) (Nat.le_refl _)
      have k2 : (x + y) * (x + y) ≤ 24 * 24 := Nat.mul_le_mul (by omega) (by omega)
      have H40 := fun u (hu : Below w.heap.size w u) => phangs_core x y (x + y) rfl A c f u (hgu u hu) h1 h2 h3 h4 true hh
      have H42 := fun u (hu : Below w.heap.size w u) => (papart_core x y (x + y) rfl A c f u (hgu u hu) h1 h2 h3 h4 true hh [] rfl).mono fun e w' z => PRet.pn z rfl
      have H46 := fun u (hu : Below w.heap.size w u) => (pwalk_ok x y (x + y) rfl A c f u (hgu u hu) h1 h2 h3 h4 hh).mono fun e w' z => PRet.pn z rfl
      have H47w := fun u D9 d9 (hu : Below w.heap.size w u) (hc : Cp D9 (wlk (ov x f) (x + y) (x + y)).length d9) (hL : LL u D9 (wlk (ov x f) (x + y) (x + y))) => (show Calls Try.prog 47 _ u (BRet u true 0) from by
        have h := paccept_ok x y (x + y) rfl A c f D9 _ d9 _ u (hgu u hu) h1 h2 h3 h4 (by omega) hc.2 hL (by omega)
        rwa [acc_walk h2N hh] at h)
      by_cases hS : setB (x + y) m s = true
      · exact ex_y0 _ _ A _ c D m d E k e w hm hk HV 0 _ [] _ _ H40 H42 H46 (fun u hu => by
          have h := poff_t x y A c f D m d s u (hgu u hu) h1 h2 h3 h4 (by omega) (hsu u hu) hS
          rwa [off_not hS hh] at h) H47 H47w
      · exact ex_y2 _ _ A _ c D m d E k e w hm hk HV 0 _ [] _ _ H40 H42 H46 (fun u hu => poff_f x y A c f D m d s u (hgu u hu) h1 h2 h3 h4 (by omega) (hsu u hu) (by simpa using hS)) H47 H47w
    · have hf : hgs (ov x f) (x + y) = false := by simpa using hh
      have H40 := fun u (hu : Below w.heap.size w u) => phangs_core x y (x + y) rfl A c f u (hgu u hu) h1 h2 h3 h4 false hf
      have H42 := fun u (hu : Below w.heap.size w u) => (papart_core x y (x + y) rfl A c f u (hgu u hu) h1 h2 h3 h4 false hf _ rfl).mono fun e w' z => PRet.pn z rfl
      have H46 := fun u (hu : Below w.heap.size w u) => (pwalk_no x y (x + y) rfl A c f u (hgu u hu) h1 h2 h3 h4 hf).mono fun e w' z => PRet.pn z rfl
      have H47f := fun u (hu : Below w.heap.size w u) => (show Calls Try.prog 47 _ u (BRet u false 0) from by have h := H47 u hu; rwa [acc_not (by omega) hf] at h)
      have hapl : (ofl (up (ov x f) (x + y) (t0 (ov x f) (x + y))) (x + y)).length ≤ 128 := Nat.le_trans (ofl_len _ _) (by omega)
      have H43a := fun u D9 d9 (hu : Below w.heap.size w u) (hL : LL u D9 (ofl (up (ov x f) (x + y) (t0 (ov x f) (x + y))) (x + y))) => (show Calls Try.prog 43 _ u (BRet u true 0) from by
        have h := poff_t x y A c f D9 _ d9 _ u (hgu u hu) h1 h2 h3 h4 (by omega) hL setB_ofl
        rwa [off_t0 (by omega) hf] at h)
      by_cases hS : setB (x + y) m s = true
      · have H43 := fun u (hu : Below w.heap.size w u) => poff_t x y A c f D m d s u (hgu u hu) h1 h2 h3 h4 (by omega) (hsu u hu) hS
        cases hO : offB (ov x f) (x + y) m s
        · rw [hO] at H43
          exact ex_n0 _ _ A _ c D m d E k e w hm hk HV _ 0 _ [] false H40 H42 H46 H43 H47f H43a
        · rw [hO] at H43
          exact ex_nt _ _ A _ c D m d E k e w hm hk HV _ 0 _ [] false H40 H42 H46 H43 H47f H43a (off_sz hS hO)
      · exact ex_n2 _ _ A _ c D m d E k e w hm hk HV _ 0 _ [] false H40 H42 H46 (fun u hu => poff_f x y A c f D m d s u (hgu u hu) h1 h2 h3 h4 (by omega) (hsu u hu) (by simpa using hS)) H47f H43a
  · exact ex_inv W H A n c D m d E k e w (valid_no (.inr hz))
end Go.Proofs.Ytnpgmgaajejhjaa
