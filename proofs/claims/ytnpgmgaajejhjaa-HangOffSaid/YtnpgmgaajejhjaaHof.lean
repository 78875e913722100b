/- The walk of HangOff. -/
import Derived.Test.YtnpgmgaajejhjaaHex
import Derived.Test.YtnpgmgaajejhjaaHom
import Derived.Deep.RegionHeld3
namespace Go.Proofs.Ytnpgmgaajejhjaa
open Go.RowKit
set_option maxRecDepth 100000
set_option linter.unusedVariables false
set_option linter.unusedSimpArgs false

theorem of_inv (W H : Int) (A : Option Addr) (n c : Nat) (D : Option Addr) (m d : Nat) (E : Option Addr) (k e : Nat) (w : World) (HV : ∀ u, Calls Try.prog 56 #[.agg #[.int .i64 W, .int .i64 H, .slice A n c]] u fun e w' => e = .returned (.bool false) ∧ Below u.heap.size u w')   :
    Calls Try.prog 15 #[.agg #[.int .i64 W, .int .i64 H, .slice A n c], .slice D m d, .slice E k e] w fun e w' => e = .returned (.bool true) ∧ Below w.heap.size w w' := by
  have HV := Lib.hid HV
  have X0 := Lib.hid (Box.new w W H (.slice A n c))
  have LB0 := Lib.hid (show Below w.heap.size w (w.alloc (.cells #[.int .i64 W, .int .i64 H, (.slice A n c)] 24)) from (Below.refl _ _).alloc (Nat.le_refl _) _)
  go_enter Try.func15, Try.ntmps15
  go_wp2_with fail
  generalize w.alloc (.cells #[.int .i64 W, .int .i64 H, .slice A n c] 24) = w0 at *
  obtain ⟨q0, q1, q2, q3, q4, q5, q6⟩ := X0.out.all
  go_wp2_with fail
  clear q0 q1 q2 q3 q4 q5 q6
  with_reducible refine Calls.mono (HV.out _) ?_
  rintro e w1 ⟨rfl, hb⟩
  have X1 := Lib.hid (X0.out.below hb X0.out.lt)
  have LB1 := Lib.hid (LB0.out.trans (hb.mono LB0.out.size))
  clear hb X0 LB0
  go_wp2_with fail
  with_reducible refine Calls.mono (alive10_any _) ?_
  rintro e w2 ⟨rfl, hb⟩
  have LB2 := Lib.hid (LB1.out.trans (hb.mono LB1.out.size))
  clear hb
  go_wp2
  go_ret
  exact ⟨rfl, LB2.out⟩
theorem of_long (W H : Int) (A : Option Addr) (n c : Nat) (D : Option Addr) (m d : Nat) (E : Option Addr) (k e : Nat) (w : World) (HV : ∀ u, Calls Try.prog 56 #[.agg #[.int .i64 W, .int .i64 H, .slice A n c]] u fun e w' => e = .returned (.bool true) ∧ Below u.heap.size u w') (hm : 40 < m)  :
    Calls Try.prog 15 #[.agg #[.int .i64 W, .int .i64 H, .slice A n c], .slice D m d, .slice E k e] w fun e w' => e = .returned (.bool true) ∧ Below w.heap.size w w' := by
  have HV := Lib.hid HV
  have X0 := Lib.hid (Box.new w W H (.slice A n c))
  have LB0 := Lib.hid (show Below w.heap.size w (w.alloc (.cells #[.int .i64 W, .int .i64 H, (.slice A n c)] 24)) from (Below.refl _ _).alloc (Nat.le_refl _) _)
  have z1 : (40 : Int) < (m : Int) := by omega
  go_enter Try.func15, Try.ntmps15
  go_wp2_with fail
  generalize w.alloc (.cells #[.int .i64 W, .int .i64 H, .slice A n c] 24) = w0 at *
  obtain ⟨q0, q1, q2, q3, q4, q5, q6⟩ := X0.out.all
  go_wp2_with fail
  clear q0 q1 q2 q3 q4 q5 q6
  with_reducible refine Calls.mono (HV.out _) ?_
  rintro e w1 ⟨rfl, hb⟩
  have X1 := Lib.hid (X0.out.below hb X0.out.lt)
  have LB1 := Lib.hid (LB0.out.trans (hb.mono LB0.out.size))
  clear hb X0 LB0
  go_wp2_with fail
  with_reducible refine Calls.mono (alive10_any _) ?_
  rintro e w2 ⟨rfl, hb⟩
  have LB2 := Lib.hid (LB1.out.trans (hb.mono LB1.out.size))
  clear hb
  go_wp2
  go_ret
  exact ⟨rfl, LB2.out⟩
theorem of_wide (W H : Int) (A : Option Addr) (n c : Nat) (D : Option Addr) (m d : Nat) (E : Option Addr) (k e : Nat) (w : World) (HV : ∀ u, Calls Try.prog 56 #[.agg #[.int .i64 W, .int .i64 H, .slice A n c]] u fun e w' => e = .returned (.bool true) ∧ Below u.heap.size u w') (hm : ¬ 40 < m) (hk : 40 < k)  :
    Calls Try.prog 15 #[.agg #[.int .i64 W, .int .i64 H, .slice A n c], .slice D m d, .slice E k e] w fun e w' => e = .returned (.bool true) ∧ Below w.heap.size w w' := by
  have HV := Lib.hid HV
  have X0 := Lib.hid (Box.new w W H (.slice A n c))
  have LB0 := Lib.hid (show Below w.heap.size w (w.alloc (.cells #[.int .i64 W, .int .i64 H, (.slice A n c)] 24)) from (Below.refl _ _).alloc (Nat.le_refl _) _)
  have z1 : ¬ (40 : Int) < (m : Int) := by omega
  have z2 : (40 : Int) < (k : Int) := by omega
  go_enter Try.func15, Try.ntmps15
  go_wp2_with fail
  generalize w.alloc (.cells #[.int .i64 W, .int .i64 H, .slice A n c] 24) = w0 at *
  obtain ⟨q0, q1, q2, q3, q4, q5, q6⟩ := X0.out.all
  go_wp2_with fail
  clear q0 q1 q2 q3 q4 q5 q6
  with_reducible refine Calls.mono (HV.out _) ?_
  rintro e w1 ⟨rfl, hb⟩
  have X1 := Lib.hid (X0.out.below hb X0.out.lt)
  have LB1 := Lib.hid (LB0.out.trans (hb.mono LB0.out.size))
  clear hb X0 LB0
  go_wp2_with fail
  with_reducible refine Calls.mono (alive10_any _) ?_
  rintro e w2 ⟨rfl, hb⟩
  have LB2 := Lib.hid (LB1.out.trans (hb.mono LB1.out.size))
  clear hb
  go_wp2
  go_ret
  exact ⟨rfl, LB2.out⟩
theorem of_sa (W H : Int) (A : Option Addr) (n c : Nat) (D : Option Addr) (m d : Nat) (E : Option Addr) (k e : Nat) (w : World) (HV : ∀ u, Calls Try.prog 56 #[.agg #[.int .i64 W, .int .i64 H, .slice A n c]] u fun e w' => e = .returned (.bool true) ∧ Below u.heap.size u w') (hm : ¬ 40 < m) (hk : ¬ 40 < k) (HA : ∀ u, Below w.heap.size w u → Calls Try.prog 58 #[.agg #[.int .i64 W, .int .i64 H, .slice A n c], .slice D m d] u fun e w' => e = .returned (.bool false) ∧ Below u.heap.size u w') :
    Calls Try.prog 15 #[.agg #[.int .i64 W, .int .i64 H, .slice A n c], .slice D m d, .slice E k e] w fun e w' => e = .returned (.bool true) ∧ Below w.heap.size w w' := by
  have HV := Lib.hid HV
  have HA := Lib.hid HA
  have X0 := Lib.hid (Box.new w W H (.slice A n c))
  have LB0 := Lib.hid (show Below w.heap.size w (w.alloc (.cells #[.int .i64 W, .int .i64 H, (.slice A n c)] 24)) from (Below.refl _ _).alloc (Nat.le_refl _) _)
  have z1 : ¬ (40 : Int) < (m : Int) := by omega
  have z2 : ¬ (40 : Int) < (k : Int) := by omega
  go_enter Try.func15, Try.ntmps15
  go_wp2_with fail
  generalize w.alloc (.cells #[.int .i64 W, .int .i64 H, .slice A n c] 24) = w0 at *
  obtain ⟨q0, q1, q2, q3, q4, q5, q6⟩ := X0.out.all
  go_wp2_with fail
  clear q0 q1 q2 q3 q4 q5 q6
  with_reducible refine Calls.mono (HV.out _) ?_
  rintro e w1 ⟨rfl, hb⟩
  have X1 := Lib.hid (X0.out.below hb X0.out.lt)
  have LB1 := Lib.hid (LB0.out.trans (hb.mono LB0.out.size))
  clear hb X0 LB0
  obtain ⟨q0, q1, q2, q3, q4, q5, q6⟩ := X1.out.all
  go_wp2_with fail
  clear q0 q1 q2 q3 q4 q5 q6
  with_reducible refine Calls.mono (HA.out _ LB1.out) ?_
  rintro e w2 ⟨rfl, hb⟩
  have X2 := Lib.hid (X1.out.below hb X1.out.lt)
  have LB2 := Lib.hid (LB1.out.trans (hb.mono LB1.out.size))
  clear hb X1 LB1
  go_wp2_with fail
  with_reducible refine Calls.mono (alive10_any _) ?_
  rintro e w3 ⟨rfl, hb⟩
  have LB3 := Lib.hid (LB2.out.trans (hb.mono LB2.out.size))
  clear hb
  go_wp2
  go_ret
  exact ⟨rfl, LB3.out⟩
theorem of_sb (W H : Int) (A : Option Addr) (n c : Nat) (D : Option Addr) (m d : Nat) (E : Option Addr) (k e : Nat) (w : World) (HV : ∀ u, Calls Try.prog 56 #[.agg #[.int .i64 W, .int .i64 H, .slice A n c]] u fun e w' => e = .returned (.bool true) ∧ Below u.heap.size u w') (hm : ¬ 40 < m) (hk : ¬ 40 < k) (HA : ∀ u, Below w.heap.size w u → Calls Try.prog 58 #[.agg #[.int .i64 W, .int .i64 H, .slice A n c], .slice D m d] u fun e w' => e = .returned (.bool true) ∧ Below u.heap.size u w') (HB : ∀ u, Below w.heap.size w u → Calls Try.prog 58 #[.agg #[.int .i64 W, .int .i64 H, .slice A n c], .slice E k e] u fun e w' => e = .returned (.bool false) ∧ Below u.heap.size u w') :
    Calls Try.prog 15 #[.agg #[.int .i64 W, .int .i64 H, .slice A n c], .slice D m d, .slice E k e] w fun e w' => e = .returned (.bool true) ∧ Below w.heap.size w w' := by
  have HV := Lib.hid HV
  have HA := Lib.hid HA
  have HB := Lib.hid HB
  have X0 := Lib.hid (Box.new w W H (.slice A n c))
  have LB0 := Lib.hid (show Below w.heap.size w (w.alloc (.cells #[.int .i64 W, .int .i64 H, (.slice A n c)] 24)) from (Below.refl _ _).alloc (Nat.le_refl _) _)
  have z1 : ¬ (40 : Int) < (m : Int) := by omega
  have z2 : ¬ (40 : Int) < (k : Int) := by omega
  go_enter Try.func15, Try.ntmps15
  go_wp2_with fail
  generalize w.alloc (.cells #[.int .i64 W, .int .i64 H, .slice A n c] 24) = w0 at *
  obtain ⟨q0, q1, q2, q3, q4, q5, q6⟩ := X0.out.all
  go_wp2_with fail
  clear q0 q1 q2 q3 q4 q5 q6
  with_reducible refine Calls.mono (HV.out _) ?_
  rintro e w1 ⟨rfl, hb⟩
  have X1 := Lib.hid (X0.out.below hb X0.out.lt)
  have LB1 := Lib.hid (LB0.out.trans (hb.mono LB0.out.size))
  clear hb X0 LB0
  obtain ⟨q0, q1, q2, q3, q4, q5, q6⟩ := X1.out.all
  go_wp2_with fail
  clear q0 q1 q2 q3 q4 q5 q6
  with_reducible refine Calls.mono (HA.out _ LB1.out) ?_
  rintro e w2 ⟨rfl, hb⟩
  have X2 := Lib.hid (X1.out.below hb X1.out.lt)
  have LB2 := Lib.hid (LB1.out.trans (hb.mono LB1.out.size))
  clear hb X1 LB1
  obtain ⟨q0, q1, q2, q3, q4, q5, q6⟩ := X2.out.all
  go_wp2_with fail
  clear q0 q1 q2 q3 q4 q5 q6
  with_reducible refine Calls.mono (HB.out _ LB2.out) ?_
  rintro e w3 ⟨rfl, hb⟩
  have X3 := Lib.hid (X2.out.below hb X2.out.lt)
  have LB3 := Lib.hid (LB2.out.trans (hb.mono LB2.out.size))
  clear hb X2 LB2
  go_wp2_with fail
  with_reducible refine Calls.mono (alive10_any _) ?_
  rintro e w4 ⟨rfl, hb⟩
  have LB4 := Lib.hid (LB3.out.trans (hb.mono LB3.out.size))
  clear hb
  go_wp2
  go_ret
  exact ⟨rfl, LB4.out⟩
set_option maxHeartbeats 3200000 in
theorem of_main (W H : Int) (A : Option Addr) (n c : Nat) (D : Option Addr) (m d : Nat) (E : Option Addr) (k e : Nat) (w : World) (HV : ∀ u, Calls Try.prog 56 #[.agg #[.int .i64 W, .int .i64 H, .slice A n c]] u fun e w' => e = .returned (.bool true) ∧ Below u.heap.size u w') (hm : ¬ 40 < m) (hk : ¬ 40 < k) (HA : ∀ u, Below w.heap.size w u → Calls Try.prog 58 #[.agg #[.int .i64 W, .int .i64 H, .slice A n c], .slice D m d] u fun e w' => e = .returned (.bool true) ∧ Below u.heap.size u w') (HB : ∀ u, Below w.heap.size w u → Calls Try.prog 58 #[.agg #[.int .i64 W, .int .i64 H, .slice A n c], .slice E k e] u fun e w' => e = .returned (.bool true) ∧ Below u.heap.size u w') (N : Nat) (hN : N ≤ 128) (P Q : Nat → Bool) (x y bu bi : Bool) (nf : Nat → Bool) (n1 n2 n3 : Nat) (hn1 : (ofl (fun a => P a && Q a) N).length = n1) (hn2 : (ofl (fun a => P a || Q a) N).length = n2) (hn3 : (ofl (fun a => !P a) N).length = n3)
    (HX : ∀ u, Below w.heap.size w u → Calls Try.prog 43 #[.agg #[.int .i64 W, .int .i64 H, .slice A n c], .slice D m d] u (BRet u x 0)) (HY : ∀ u, Below w.heap.size w u → Calls Try.prog 43 #[.agg #[.int .i64 W, .int .i64 H, .slice A n c], .slice E k e] u (BRet u y 0))
    (HMa : ∀ u, Below w.heap.size w u → Calls Try.prog 59 #[.agg #[.int .i64 W, .int .i64 H, .slice A n c], .slice D m d] u fun e w' => ∃ k, e = .returned (.slice (some ⟨k, 0, none⟩) N N) ∧ u.heap.size ≤ k ∧ Row w' k N P ∧ Below u.heap.size u w') (HMb : ∀ u, Below w.heap.size w u → Calls Try.prog 59 #[.agg #[.int .i64 W, .int .i64 H, .slice A n c], .slice E k e] u fun e w' => ∃ k, e = .returned (.slice (some ⟨k, 0, none⟩) N N) ∧ u.heap.size ≤ k ∧ Row w' k N Q ∧ Below u.heap.size u w')
    (HU : ∀ u D9 d9, Below w.heap.size w u → LL u D9 (ofl (fun a => P a || Q a) N) → Calls Try.prog 43 #[.agg #[.int .i64 W, .int .i64 H, .slice A n c], .slice D9 n2 d9] u (BRet u bu 0)) (HI : ∀ u D9 d9, Below w.heap.size w u → LL u D9 (ofl (fun a => P a && Q a) N) → Calls Try.prog 43 #[.agg #[.int .i64 W, .int .i64 H, .slice A n c], .slice D9 n1 d9] u (BRet u bi 0))
    (HN : ∀ u, Below w.heap.size w u → Calls Try.prog 35 #[.agg #[.int .i64 W, .int .i64 H, .slice A n c]] u fun e w' => ∃ k, e = .returned (.tuple #[.agg #[.int .i64 W, .int .i64 H, .slice (some ⟨k, 0, none⟩) n n], .int .i64 0]) ∧ u.heap.size ≤ k ∧ Row w' k n nf ∧ Below u.heap.size u w')
    (HC : ∀ u kn D9 d9, Below w.heap.size w u → Row u kn n nf → LL u D9 (ofl (fun a => !P a) N) → Calls Try.prog 43 #[.agg #[.int .i64 W, .int .i64 H, .slice (some ⟨kn, 0, none⟩) n n], .slice D9 n3 d9] u (BRet u x 0))
    (hxy : x = true → y = true → (bu = true ∨ ¬ n2 < N) ∧ (bi = true ∨ n1 = 0)) :
    Calls Try.prog 15 #[.agg #[.int .i64 W, .int .i64 H, .slice A n c], .slice D m d, .slice E k e] w fun e w' => e = .returned (.bool true) ∧ Below w.heap.size w w' := by
  have HV := Lib.hid HV
  have HA := Lib.hid HA
  have HB := Lib.hid HB
  have HX := Lib.hid HX
  have HY := Lib.hid HY
  have HMa := Lib.hid HMa
  have HMb := Lib.hid HMb
  have HU := Lib.hid HU
  have HI := Lib.hid HI
  have HN := Lib.hid HN
  have HC := Lib.hid HC
  have HXY := Lib.hid hxy
  clear hxy
  have X0 := Lib.hid (Box.new w W H (.slice A n c))
  have LB0 := Lib.hid (show Below w.heap.size w (w.alloc (.cells #[.int .i64 W, .int .i64 H, (.slice A n c)] 24)) from (Below.refl _ _).alloc (Nat.le_refl _) _)
  have z1 : ¬ (40 : Int) < (m : Int) := by omega
  have z2 : ¬ (40 : Int) < (k : Int) := by omega
  go_enter Try.func15, Try.ntmps15
  go_wp2_with fail
  generalize w.alloc (.cells #[.int .i64 W, .int .i64 H, .slice A n c] 24) = w0 at *
  obtain ⟨q0, q1, q2, q3, q4, q5, q6⟩ := X0.out.all
  go_wp2_with fail
  clear q0 q1 q2 q3 q4 q5 q6
  with_reducible refine Calls.mono (HV.out _) ?_
  rintro e w1 ⟨rfl, hb⟩
  have X1 := Lib.hid (X0.out.below hb X0.out.lt)
  have LB1 := Lib.hid (LB0.out.trans (hb.mono LB0.out.size))
  clear hb X0 LB0
  obtain ⟨q0, q1, q2, q3, q4, q5, q6⟩ := X1.out.all
  go_wp2_with fail
  clear q0 q1 q2 q3 q4 q5 q6
  with_reducible refine Calls.mono (HA.out _ LB1.out) ?_
  rintro e w2 ⟨rfl, hb⟩
  have X2 := Lib.hid (X1.out.below hb X1.out.lt)
  have LB2 := Lib.hid (LB1.out.trans (hb.mono LB1.out.size))
  clear hb X1 LB1
  obtain ⟨q0, q1, q2, q3, q4, q5, q6⟩ := X2.out.all
  go_wp2_with fail
  clear q0 q1 q2 q3 q4 q5 q6
  with_reducible refine Calls.mono (HB.out _ LB2.out) ?_
  rintro e w3 ⟨rfl, hb⟩
  have X3 := Lib.hid (X2.out.below hb X2.out.lt)
  have LB3 := Lib.hid (LB2.out.trans (hb.mono LB2.out.size))
  clear hb X2 LB2
  obtain ⟨q0, q1, q2, q3, q4, q5, q6⟩ := X3.out.all
  go_wp2_with fail
  clear q0 q1 q2 q3 q4 q5 q6
  with_reducible refine Calls.mono (HX.out _ LB3.out) ?_
  rintro e w4 ⟨rfl, hb⟩
  have X4 := Lib.hid (X3.out.below hb X3.out.lt)
  have LB4 := Lib.hid (LB3.out.trans (hb.mono LB3.out.size))
  clear hb X3 LB3
  obtain ⟨q0, q1, q2, q3, q4, q5, q6⟩ := X4.out.all
  go_wp2_with fail
  clear q0 q1 q2 q3 q4 q5 q6
  with_reducible refine Calls.mono (HY.out _ LB4.out) ?_
  rintro e w5 ⟨rfl, hb⟩
  have X5 := Lib.hid (X4.out.below hb X4.out.lt)
  have LB5 := Lib.hid (LB4.out.trans (hb.mono LB4.out.size))
  clear hb X4 LB4
  obtain ⟨q0, q1, q2, q3, q4, q5, q6⟩ := X5.out.all
  go_upto_region 7 with (fail)
  generalize w5 = v0 at *
  go_cut [11, 12] (fun p q wx => ∃ ka kb, p = .slice (some ⟨ka, 0, none⟩) N N ∧ q = .slice (some ⟨kb, 0, none⟩) N N ∧ Row wx ka N P ∧ Row wx kb N Q ∧ Below v0.heap.size v0 wx)
  case first =>
    have HS := Lib.hid (fun u (h : Below v0.heap.size v0 u) => (show u.cell? ⟨w.heap.size, 0, none⟩ = some (.int .i64 W) ∧ u.cell? ⟨w.heap.size, 1, none⟩ = some (.int .i64 H) ∧ u.cell? ⟨w.heap.size, 2, none⟩ = some (.slice A n c) from ⟨(X5.out.below h X5.out.lt).c0, (X5.out.below h X5.out.lt).c1, (X5.out.below h X5.out.lt).c2⟩))
    have HPa := Lib.hid (fun u (h : Below v0.heap.size v0 u) => HMa.out u (LB5.out.trans (h.mono LB5.out.size)))
    have HPb := Lib.hid (fun u (h : Below v0.heap.size v0 u) => HMb.out u (LB5.out.trans (h.mono LB5.out.size)))
    clear HV HA HB HX HY HU HI HN HC HXY HMa HMb
    go_region_held3 (fun u => u.cell? ⟨w.heap.size, 0, none⟩ = some (.int .i64 W) ∧ u.cell? ⟨w.heap.size, 1, none⟩ = some (.int .i64 H) ∧ u.cell? ⟨w.heap.size, 2, none⟩ = some (.slice A n c))
      (exact HS.out _ (by (repeat' (first | assumption | exact Below.refl _ _ | refine Below.drew ?_ | refine blA ?_ (Nat.le_refl _) _))))
      ((first
        | (go_at_call 59
           with_reducible refine Calls.mono (HPa.out _ (by (repeat' (first | assumption | exact Below.refl _ _ | refine Below.drew ?_ | refine blA ?_ (Nat.le_refl _) _)))) ?_
           rintro e ua ⟨ka, rfl, hka, hra1, hba⟩
           have hxa : Below v0.heap.size v0 ua := blT (by (repeat' (first | assumption | exact Below.refl _ _ | refine Below.drew ?_ | refine blA ?_ (Nat.le_refl _) _))) (Nat.le_refl _) hba
           have hra := Lib.hid hra1
           clear hra1)
        | (go_at_call 59
           with_reducible refine Calls.mono (HPb.out _ (by (repeat' (first | assumption | exact Below.refl _ _ | refine Below.drew ?_ | refine blA ?_ (Nat.le_refl _) _)))) ?_
           rintro e ub ⟨kb, rfl, hkb, hrb1, hbb⟩
           have hxb : Below v0.heap.size v0 ub := blT (by (repeat' (first | assumption | exact Below.refl _ _ | refine Below.drew ?_ | refine blA ?_ (Nat.le_refl _) _))) (Nat.le_refl _) hbb
           have hrb := Lib.hid hrb1
           clear hrb1)))
    all_goals
      go_wp2_with fail
      go_meet
      first
      | exact ⟨_, _, rfl, rfl, hra.out, hrb.out.below hba hrb.out.lt, hxa⟩
      | exact ⟨_, _, rfl, rfl, hra.out.below hbb hra.out.lt, hrb.out, hxb⟩
  case rest =>
  obtain ⟨ka, kb, rfl, rfl, hra, hrb, hb⟩ := hcut
  have Xc := Lib.hid (X5.out.below hb X5.out.lt)
  have LBc := Lib.hid (LB5.out.trans (hb.mono LB5.out.size))
  have Ra := Lib.hid hra
  have Rb := Lib.hid hrb
  clear hb hra hrb X5 LB5 q0 q1 q2 q3 q4 q5 q6 HV HA HB HX HY HMa HMb
  go_wp2
  go_loopw [13, 14, 15, 16] (fun s1 s2 s3 i wr => ∃ j : Nat, j ≤ N ∧ i = .int .i64 j ∧ Hid (L2.Own wr wc.heap.size s1 (ofl (fun a => P a && Q a) j).length (lf (ofl (fun a => P a && Q a) j))) ∧ Hid (L2.Own wr wc.heap.size s2 (ofl (fun a => P a || Q a) j).length (lf (ofl (fun a => P a || Q a) j))) ∧ Hid (L2.Own wr wc.heap.size s3 (ofl (fun a => !P a) j).length (lf (ofl (fun a => !P a) j))) ∧ Hid (Apt s1 s2 ∧ Apt s1 s3 ∧ Apt s2 s3) ∧ Hid (Below wc.heap.size wc wr)) (fun _ _ _ i _ => N - (intOf i).toNat)
  case atStart => exact ⟨0, Nat.zero_le _, rfl, Lib.hid (L2.Own.nil _ _ _), Lib.hid (L2.Own.nil _ _ _), Lib.hid (L2.Own.nil _ _ _), Lib.hid ⟨Apt.nil _, Apt.nil _, Apt.nil _⟩, Lib.hid (Below.refl _ _)⟩
  case round =>
    obtain ⟨j, hj, rfl, O1, O2, O3, AP, HBL⟩ := hrel
    by_cases hlt : j < N
    · have y1 : (j : Int) < (N : Int) := by omega
      have y0 : (0 : Int) ≤ (j : Int) := by omega
      have ca := (Ra.out.below HBL.out Ra.out.lt).cell hlt
      have cb := (Rb.out.below HBL.out Rb.out.lt).cell hlt
      have hla := Ra.out.lt
      have hlb := Rb.out.lt
      have hsz := HBL.out.size
      have g1 := ofl_len (fun a => P a && Q a) j
      have g2 := ofl_len (fun a => P a || Q a) j
      have g3 := ofl_len (fun a => !P a) j
      obtain ⟨p, hp⟩ : ∃ p, P j = p := ⟨_, rfl⟩
      obtain ⟨q, hq⟩ : ∃ q, Q j = q := ⟨_, rfl⟩
      rw [hp] at ca
      rw [hq] at cb
      have HPj := Lib.hid hp
      have HQj := Lib.hid hq
      have B1 := Lib.hid (O1.out.congr (g := lf (ofl (fun a => P a && Q a) j ++ [j])) fun i hi => lf_app hi)
      have B2 := Lib.hid (O2.out.congr (g := lf (ofl (fun a => P a || Q a) j ++ [j])) fun i hi => lf_app hi)
      have B3 := Lib.hid (O3.out.congr (g := lf (ofl (fun a => !P a) j ++ [j])) fun i hi => lf_app hi)
      have Y1 := Lib.hid (lf_last (ofl (fun a => P a && Q a) j) j)
      have Y2 := Lib.hid (lf_last (ofl (fun a => P a || Q a) j) j)
      have Y3 := Lib.hid (lf_last (ofl (fun a => !P a) j) j)
      clear hp hq
      cases p
      · cases q
        · -- FF
          have E1 := Lib.hid (ofl_no (T := (fun a => P a && Q a)) (k := j) (by simp [HPj.out, HQj.out]))
          have E2 := Lib.hid (ofl_no (T := (fun a => P a || Q a)) (k := j) (by simp [HPj.out, HQj.out]))
          have E3 := Lib.hid (ofl_yes (T := (fun a => !P a)) (k := j) (by simp [HPj.out, HQj.out]))
          have F3 := Lib.hid (show (ofl (fun a => !P a) j ++ [j]).length = (ofl (fun a => !P a) j).length + 1 by simp)
          go_wp2_with ((at_builtin; refine app1k _ rfl _ _ (by rfl) wc.heap.size (by rfl) B3.out (j : Int) (by rfl) Y3.out (by omega) hsz ?_; intro va wa hown hb1 hkp; have N3 := Lib.hid hown; have K1 := Lib.hid (hkp _ _ _ O1.out AP.out.2.1).1; have L1 := Lib.hid (hkp _ _ _ O1.out AP.out.2.1).2; have K2 := Lib.hid (hkp _ _ _ O2.out AP.out.2.2).1; have L2 := Lib.hid (hkp _ _ _ O2.out AP.out.2.2).2; have HBwa := Lib.hid (HBL.out.trans hb1); have hswa := HBwa.out.size; clear hown hkp; have cawa := (hb1.cell (p := ⟨ka, j, none⟩) (by first | exact hla | exact hlb)).trans ca; have cbwa := (hb1.cell (p := ⟨kb, j, none⟩) (by first | exact hla | exact hlb)).trans cb; clear hb1))
          go_roundw
          case rel => exact ⟨j + 1, by omega, by go_num, by rw [E1.out]; exact K1, by rw [E2.out]; exact K2, by rw [E3.out, F3.out]; exact N3, Lib.hid ⟨AP.out.1, L1.out, L2.out⟩, Lib.hid HBwa.out⟩
          case measure => simp [intOf]; omega
        · -- FT
          have E1 := Lib.hid (ofl_no (T := (fun a => P a && Q a)) (k := j) (by simp [HPj.out, HQj.out]))
          have E2 := Lib.hid (ofl_yes (T := (fun a => P a || Q a)) (k := j) (by simp [HPj.out, HQj.out]))
          have E3 := Lib.hid (ofl_yes (T := (fun a => !P a)) (k := j) (by simp [HPj.out, HQj.out]))
          have F2 := Lib.hid (show (ofl (fun a => P a || Q a) j ++ [j]).length = (ofl (fun a => P a || Q a) j).length + 1 by simp)
          have F3 := Lib.hid (show (ofl (fun a => !P a) j ++ [j]).length = (ofl (fun a => !P a) j).length + 1 by simp)
          go_wp2_with (first | (at_builtin; refine app1k _ rfl _ _ (by rfl) wc.heap.size (by rfl) B2.out (j : Int) (by rfl) Y2.out (by omega) hsz ?_; intro va wa hown hb1 hkp; have N2 := Lib.hid hown; have K1 := Lib.hid (hkp _ _ _ O1.out AP.out.1).1; have L1 := Lib.hid (hkp _ _ _ O1.out AP.out.1).2; have K3 := Lib.hid (hkp _ _ _ B3.out (Apt.symm AP.out.2.2)).1; have L3 := Lib.hid (hkp _ _ _ B3.out (Apt.symm AP.out.2.2)).2; have HBwa := Lib.hid (HBL.out.trans hb1); have hswa := HBwa.out.size; clear hown hkp; have cawa := (hb1.cell (p := ⟨ka, j, none⟩) (by first | exact hla | exact hlb)).trans ca; have cbwa := (hb1.cell (p := ⟨kb, j, none⟩) (by first | exact hla | exact hlb)).trans cb; clear hb1) | (at_builtin; refine app1k _ rfl _ _ (by rfl) wc.heap.size (by rfl) K3.out (j : Int) (by rfl) Y3.out (by omega) hswa ?_; intro vb wb hown hb1 hkp; have N3 := Lib.hid hown; have M1 := Lib.hid (hkp _ _ _ K1.out AP.out.2.1).1; have Q1 := Lib.hid (hkp _ _ _ K1.out AP.out.2.1).2; have M2 := Lib.hid (hkp _ _ _ N2.out (Apt.symm L3.out)).1; have Q2 := Lib.hid (hkp _ _ _ N2.out (Apt.symm L3.out)).2; have HBwb := Lib.hid (HBwa.out.trans hb1); have hswb := HBwb.out.size; clear hown hkp; clear hb1))
          go_roundw
          case rel => exact ⟨j + 1, by omega, by go_num, by rw [E1.out]; exact M1, by rw [E2.out, F2.out]; exact M2, by rw [E3.out, F3.out]; exact N3, Lib.hid ⟨L1.out, Q1.out, Q2.out⟩, Lib.hid HBwb.out⟩
          case measure => simp [intOf]; omega
      · cases q
        · -- TF
          have E1 := Lib.hid (ofl_no (T := (fun a => P a && Q a)) (k := j) (by simp [HPj.out, HQj.out]))
          have E2 := Lib.hid (ofl_yes (T := (fun a => P a || Q a)) (k := j) (by simp [HPj.out, HQj.out]))
          have E3 := Lib.hid (ofl_no (T := (fun a => !P a)) (k := j) (by simp [HPj.out, HQj.out]))
          have F2 := Lib.hid (show (ofl (fun a => P a || Q a) j ++ [j]).length = (ofl (fun a => P a || Q a) j).length + 1 by simp)
          go_wp2_with ((at_builtin; refine app1k _ rfl _ _ (by rfl) wc.heap.size (by rfl) B2.out (j : Int) (by rfl) Y2.out (by omega) hsz ?_; intro va wa hown hb1 hkp; have N2 := Lib.hid hown; have K1 := Lib.hid (hkp _ _ _ O1.out AP.out.1).1; have L1 := Lib.hid (hkp _ _ _ O1.out AP.out.1).2; have K3 := Lib.hid (hkp _ _ _ O3.out (Apt.symm AP.out.2.2)).1; have L3 := Lib.hid (hkp _ _ _ O3.out (Apt.symm AP.out.2.2)).2; have HBwa := Lib.hid (HBL.out.trans hb1); have hswa := HBwa.out.size; clear hown hkp; have cawa := (hb1.cell (p := ⟨ka, j, none⟩) (by first | exact hla | exact hlb)).trans ca; have cbwa := (hb1.cell (p := ⟨kb, j, none⟩) (by first | exact hla | exact hlb)).trans cb; clear hb1))
          go_roundw
          case rel => exact ⟨j + 1, by omega, by go_num, by rw [E1.out]; exact K1, by rw [E2.out, F2.out]; exact N2, by rw [E3.out]; exact K3, Lib.hid ⟨L1.out, AP.out.2.1, Apt.symm L3.out⟩, Lib.hid HBwa.out⟩
          case measure => simp [intOf]; omega
        · -- TT
          have E1 := Lib.hid (ofl_yes (T := (fun a => P a && Q a)) (k := j) (by simp [HPj.out, HQj.out]))
          have E2 := Lib.hid (ofl_yes (T := (fun a => P a || Q a)) (k := j) (by simp [HPj.out, HQj.out]))
          have E3 := Lib.hid (ofl_no (T := (fun a => !P a)) (k := j) (by simp [HPj.out, HQj.out]))
          have F1 := Lib.hid (show (ofl (fun a => P a && Q a) j ++ [j]).length = (ofl (fun a => P a && Q a) j).length + 1 by simp)
          have F2 := Lib.hid (show (ofl (fun a => P a || Q a) j ++ [j]).length = (ofl (fun a => P a || Q a) j).length + 1 by simp)
          go_wp2_with (first | (at_builtin; refine app1k _ rfl _ _ (by rfl) wc.heap.size (by rfl) B1.out (j : Int) (by rfl) Y1.out (by omega) hsz ?_; intro va wa hown hb1 hkp; have N1 := Lib.hid hown; have K2 := Lib.hid (hkp _ _ _ B2.out (Apt.symm AP.out.1)).1; have L2 := Lib.hid (hkp _ _ _ B2.out (Apt.symm AP.out.1)).2; have K3 := Lib.hid (hkp _ _ _ O3.out (Apt.symm AP.out.2.1)).1; have L3 := Lib.hid (hkp _ _ _ O3.out (Apt.symm AP.out.2.1)).2; have HBwa := Lib.hid (HBL.out.trans hb1); have hswa := HBwa.out.size; clear hown hkp; have cawa := (hb1.cell (p := ⟨ka, j, none⟩) (by first | exact hla | exact hlb)).trans ca; have cbwa := (hb1.cell (p := ⟨kb, j, none⟩) (by first | exact hla | exact hlb)).trans cb; clear hb1) | (at_builtin; refine app1k _ rfl _ _ (by rfl) wc.heap.size (by rfl) K2.out (j : Int) (by rfl) Y2.out (by omega) hswa ?_; intro vb wb hown hb1 hkp; have N2 := Lib.hid hown; have M1 := Lib.hid (hkp _ _ _ N1.out (Apt.symm L2.out)).1; have Q1 := Lib.hid (hkp _ _ _ N1.out (Apt.symm L2.out)).2; have M3 := Lib.hid (hkp _ _ _ K3.out (Apt.symm AP.out.2.2)).1; have Q3 := Lib.hid (hkp _ _ _ K3.out (Apt.symm AP.out.2.2)).2; have HBwb := Lib.hid (HBwa.out.trans hb1); have hswb := HBwb.out.size; clear hown hkp; have cawawb := (hb1.cell (p := ⟨ka, j, none⟩) (by first | exact hla | exact hlb)).trans cawa; clear hb1))
          go_roundw
          case rel => exact ⟨j + 1, by omega, by go_num, by rw [E1.out, F1.out]; exact M1, by rw [E2.out, F2.out]; exact N2, by rw [E3.out]; exact M3, Lib.hid ⟨Q1.out, Apt.symm L3.out, Apt.symm Q3.out⟩, Lib.hid HBwb.out⟩
          case measure => simp [intOf]; omega
    · have e : j = N := by omega
      have y1 : ¬ (j : Int) < (N : Int) := by omega
      subst e
      obtain ⟨A1, c1, e1, _, h1⟩ := O1.out.out
      obtain ⟨A2, c2, e2, _, h2⟩ := O2.out.out
      obtain ⟨A3, c3, e3, _, h3⟩ := O3.out.out
      have P1 := Lib.hid (LL.of h1)
      have P2 := Lib.hid (LL.of h2)
      have P3 := Lib.hid (LL.of h3)
      rw [hn1] at e1
      rw [hn2] at e2
      rw [hn3] at e3
      subst e1 e2 e3
      have X0 := Lib.hid (Xc.out.below HBL.out Xc.out.lt)
      have LB0 := Lib.hid (LBc.out.trans (HBL.out.mono LBc.out.size))
      clear O1 O2 O3 AP h1 h2 h3 Xc LBc Ra Rb HBL
      generalize wr = w0 at *
      cases x
      · clear HXY
        obtain ⟨q0, q1, q2, q3, q4, q5, q6⟩ := X0.out.all
        go_wp2_with fail
        clear q0 q1 q2 q3 q4 q5 q6
        with_reducible refine Calls.mono (HN.out _ LB0.out) ?_
        rintro e w1 ⟨kn, rfl, _, hrow, hb⟩
        have hba := (show Below _ _ (w1.alloc (.cells #[.int .i64 W, .int .i64 H, .slice (some ⟨kn, 0, none⟩) n n] 24)) from hb.trans (((Below.refl _ _).alloc (Nat.le_refl _) _).mono hb.size))
        have T := Lib.hid (Box.new w1 W H (.slice (some ⟨kn, 0, none⟩) n n))
        have R := Lib.hid (hrow.alloc (.cells #[.int .i64 W, .int .i64 H, .slice (some ⟨kn, 0, none⟩) n n] 24))
        have P3 := Lib.hid (P3.out.below hba)
        have LB1 := Lib.hid (LB0.out.trans (hba.mono LB0.out.size))
        clear hb hba hrow P1 P2 X0 LB0
        obtain ⟨r0, r1, r2, r3, r4, r5, r6⟩ := T.out.all
        go_wp2_with fail
        clear r0 r1 r2 r3 r4 r5 r6
        with_reducible refine Calls.mono (HC.out _ _ _ _ LB1.out R.out P3.out) ?_
        rintro e w2 ⟨rfl, hb⟩
        have LB2 := Lib.hid (LB1.out.trans (hb.mono LB1.out.size))
        clear hb LB1 T R P3
        go_wp2_with fail
        with_reducible refine Calls.mono (alive10_any _) ?_
        rintro e w3 ⟨rfl, hb⟩
        have LB3 := Lib.hid (LB2.out.trans (hb.mono LB2.out.size))
        clear hb
        go_wp2
        go_ret
        exact ⟨rfl, LB3.out⟩
      · cases y
        · clear HXY
          obtain ⟨q0, q1, q2, q3, q4, q5, q6⟩ := X0.out.all
          go_wp2_with fail
          clear q0 q1 q2 q3 q4 q5 q6
          with_reducible refine Calls.mono (HN.out _ LB0.out) ?_
          rintro e w1 ⟨kn, rfl, _, hrow, hb⟩
          have hba := (show Below _ _ (w1.alloc (.cells #[.int .i64 W, .int .i64 H, .slice (some ⟨kn, 0, none⟩) n n] 24)) from hb.trans (((Below.refl _ _).alloc (Nat.le_refl _) _).mono hb.size))
          have T := Lib.hid (Box.new w1 W H (.slice (some ⟨kn, 0, none⟩) n n))
          have R := Lib.hid (hrow.alloc (.cells #[.int .i64 W, .int .i64 H, .slice (some ⟨kn, 0, none⟩) n n] 24))
          have P3 := Lib.hid (P3.out.below hba)
          have LB1 := Lib.hid (LB0.out.trans (hba.mono LB0.out.size))
          clear hb hba hrow P1 P2 X0 LB0
          obtain ⟨r0, r1, r2, r3, r4, r5, r6⟩ := T.out.all
          go_wp2_with fail
          clear r0 r1 r2 r3 r4 r5 r6
          with_reducible refine Calls.mono (HC.out _ _ _ _ LB1.out R.out P3.out) ?_
          rintro e w2 ⟨rfl, hb⟩
          have LB2 := Lib.hid (LB1.out.trans (hb.mono LB1.out.size))
          clear hb LB1 T R P3
          go_wp2_with fail
          with_reducible refine Calls.mono (alive10_any _) ?_
          rintro e w3 ⟨rfl, hb⟩
          have LB3 := Lib.hid (LB2.out.trans (hb.mono LB2.out.size))
          clear hb
          go_wp2
          go_ret
          exact ⟨rfl, LB3.out⟩
        · obtain ⟨hbu, hbi⟩ := HXY.out rfl rfl
          clear HXY
          cases bu
          · cases bi
            · have z9 : ¬ (n2 : Int) < (j : Int) := by rcases hbu with h | h; cases h; omega
              obtain rfl : n1 = 0 := by rcases hbi with h | h; cases h; exact h
              obtain ⟨q0, q1, q2, q3, q4, q5, q6⟩ := X0.out.all
              go_wp2_with fail
              clear q0 q1 q2 q3 q4 q5 q6
              with_reducible refine Calls.mono (HU.out _ _ _ LB0.out P2.out) ?_
              rintro e w1 ⟨rfl, hb⟩
              have X1 := Lib.hid (X0.out.below hb X0.out.lt)
              have LB1 := Lib.hid (LB0.out.trans (hb.mono LB0.out.size))
              have P1 := Lib.hid (P1.out.below hb)
              have P2 := Lib.hid (P2.out.below hb)
              have P3 := Lib.hid (P3.out.below hb)
              clear hb X0 LB0
              obtain ⟨q0, q1, q2, q3, q4, q5, q6⟩ := X1.out.all
              go_wp2_with fail
              clear q0 q1 q2 q3 q4 q5 q6
              with_reducible refine Calls.mono (HI.out _ _ _ LB1.out P1.out) ?_
              rintro e w2 ⟨rfl, hb⟩
              have X2 := Lib.hid (X1.out.below hb X1.out.lt)
              have LB2 := Lib.hid (LB1.out.trans (hb.mono LB1.out.size))
              have P1 := Lib.hid (P1.out.below hb)
              have P2 := Lib.hid (P2.out.below hb)
              have P3 := Lib.hid (P3.out.below hb)
              clear hb X1 LB1
              obtain ⟨q0, q1, q2, q3, q4, q5, q6⟩ := X2.out.all
              go_wp2_with fail
              clear q0 q1 q2 q3 q4 q5 q6
              with_reducible refine Calls.mono (HN.out _ LB2.out) ?_
              rintro e w3 ⟨kn, rfl, _, hrow, hb⟩
              have hba := (show Below _ _ (w3.alloc (.cells #[.int .i64 W, .int .i64 H, .slice (some ⟨kn, 0, none⟩) n n] 24)) from hb.trans (((Below.refl _ _).alloc (Nat.le_refl _) _).mono hb.size))
              have T := Lib.hid (Box.new w3 W H (.slice (some ⟨kn, 0, none⟩) n n))
              have R := Lib.hid (hrow.alloc (.cells #[.int .i64 W, .int .i64 H, .slice (some ⟨kn, 0, none⟩) n n] 24))
              have P3 := Lib.hid (P3.out.below hba)
              have LB3 := Lib.hid (LB2.out.trans (hba.mono LB2.out.size))
              clear hb hba hrow P1 P2 X2 LB2
              obtain ⟨r0, r1, r2, r3, r4, r5, r6⟩ := T.out.all
              go_wp2_with fail
              clear r0 r1 r2 r3 r4 r5 r6
              with_reducible refine Calls.mono (HC.out _ _ _ _ LB3.out R.out P3.out) ?_
              rintro e w4 ⟨rfl, hb⟩
              have LB4 := Lib.hid (LB3.out.trans (hb.mono LB3.out.size))
              clear hb LB3 T R P3
              go_wp2_with fail
              with_reducible refine Calls.mono (alive10_any _) ?_
              rintro e w5 ⟨rfl, hb⟩
              have LB5 := Lib.hid (LB4.out.trans (hb.mono LB4.out.size))
              clear hb
              go_wp2
              go_ret
              exact ⟨rfl, LB5.out⟩
            · have z9 : ¬ (n2 : Int) < (j : Int) := by rcases hbu with h | h; cases h; omega
              obtain ⟨q0, q1, q2, q3, q4, q5, q6⟩ := X0.out.all
              go_wp2_with fail
              clear q0 q1 q2 q3 q4 q5 q6
              with_reducible refine Calls.mono (HU.out _ _ _ LB0.out P2.out) ?_
              rintro e w1 ⟨rfl, hb⟩
              have X1 := Lib.hid (X0.out.below hb X0.out.lt)
              have LB1 := Lib.hid (LB0.out.trans (hb.mono LB0.out.size))
              have P1 := Lib.hid (P1.out.below hb)
              have P2 := Lib.hid (P2.out.below hb)
              have P3 := Lib.hid (P3.out.below hb)
              clear hb X0 LB0
              obtain ⟨q0, q1, q2, q3, q4, q5, q6⟩ := X1.out.all
              go_wp2_with fail
              clear q0 q1 q2 q3 q4 q5 q6
              with_reducible refine Calls.mono (HI.out _ _ _ LB1.out P1.out) ?_
              rintro e w2 ⟨rfl, hb⟩
              have X2 := Lib.hid (X1.out.below hb X1.out.lt)
              have LB2 := Lib.hid (LB1.out.trans (hb.mono LB1.out.size))
              have P1 := Lib.hid (P1.out.below hb)
              have P2 := Lib.hid (P2.out.below hb)
              have P3 := Lib.hid (P3.out.below hb)
              clear hb X1 LB1
              obtain ⟨q0, q1, q2, q3, q4, q5, q6⟩ := X2.out.all
              go_wp2_with fail
              clear q0 q1 q2 q3 q4 q5 q6
              with_reducible refine Calls.mono (HN.out _ LB2.out) ?_
              rintro e w3 ⟨kn, rfl, _, hrow, hb⟩
              have hba := (show Below _ _ (w3.alloc (.cells #[.int .i64 W, .int .i64 H, .slice (some ⟨kn, 0, none⟩) n n] 24)) from hb.trans (((Below.refl _ _).alloc (Nat.le_refl _) _).mono hb.size))
              have T := Lib.hid (Box.new w3 W H (.slice (some ⟨kn, 0, none⟩) n n))
              have R := Lib.hid (hrow.alloc (.cells #[.int .i64 W, .int .i64 H, .slice (some ⟨kn, 0, none⟩) n n] 24))
              have P3 := Lib.hid (P3.out.below hba)
              have LB3 := Lib.hid (LB2.out.trans (hba.mono LB2.out.size))
              clear hb hba hrow P1 P2 X2 LB2
              obtain ⟨r0, r1, r2, r3, r4, r5, r6⟩ := T.out.all
              go_wp2_with fail
              clear r0 r1 r2 r3 r4 r5 r6
              with_reducible refine Calls.mono (HC.out _ _ _ _ LB3.out R.out P3.out) ?_
              rintro e w4 ⟨rfl, hb⟩
              have LB4 := Lib.hid (LB3.out.trans (hb.mono LB3.out.size))
              clear hb LB3 T R P3
              go_wp2_with fail
              with_reducible refine Calls.mono (alive10_any _) ?_
              rintro e w5 ⟨rfl, hb⟩
              have LB5 := Lib.hid (LB4.out.trans (hb.mono LB4.out.size))
              clear hb
              go_wp2
              go_ret
              exact ⟨rfl, LB5.out⟩
          · cases bi
            · obtain rfl : n1 = 0 := by rcases hbi with h | h; cases h; exact h
              obtain ⟨q0, q1, q2, q3, q4, q5, q6⟩ := X0.out.all
              go_wp2_with fail
              clear q0 q1 q2 q3 q4 q5 q6
              with_reducible refine Calls.mono (HU.out _ _ _ LB0.out P2.out) ?_
              rintro e w1 ⟨rfl, hb⟩
              have X1 := Lib.hid (X0.out.below hb X0.out.lt)
              have LB1 := Lib.hid (LB0.out.trans (hb.mono LB0.out.size))
              have P1 := Lib.hid (P1.out.below hb)
              have P2 := Lib.hid (P2.out.below hb)
              have P3 := Lib.hid (P3.out.below hb)
              clear hb X0 LB0
              obtain ⟨q0, q1, q2, q3, q4, q5, q6⟩ := X1.out.all
              go_wp2_with fail
              clear q0 q1 q2 q3 q4 q5 q6
              with_reducible refine Calls.mono (HI.out _ _ _ LB1.out P1.out) ?_
              rintro e w2 ⟨rfl, hb⟩
              have X2 := Lib.hid (X1.out.below hb X1.out.lt)
              have LB2 := Lib.hid (LB1.out.trans (hb.mono LB1.out.size))
              have P1 := Lib.hid (P1.out.below hb)
              have P2 := Lib.hid (P2.out.below hb)
              have P3 := Lib.hid (P3.out.below hb)
              clear hb X1 LB1
              obtain ⟨q0, q1, q2, q3, q4, q5, q6⟩ := X2.out.all
              go_wp2_with fail
              clear q0 q1 q2 q3 q4 q5 q6
              with_reducible refine Calls.mono (HN.out _ LB2.out) ?_
              rintro e w3 ⟨kn, rfl, _, hrow, hb⟩
              have hba := (show Below _ _ (w3.alloc (.cells #[.int .i64 W, .int .i64 H, .slice (some ⟨kn, 0, none⟩) n n] 24)) from hb.trans (((Below.refl _ _).alloc (Nat.le_refl _) _).mono hb.size))
              have T := Lib.hid (Box.new w3 W H (.slice (some ⟨kn, 0, none⟩) n n))
              have R := Lib.hid (hrow.alloc (.cells #[.int .i64 W, .int .i64 H, .slice (some ⟨kn, 0, none⟩) n n] 24))
              have P3 := Lib.hid (P3.out.below hba)
              have LB3 := Lib.hid (LB2.out.trans (hba.mono LB2.out.size))
              clear hb hba hrow P1 P2 X2 LB2
              obtain ⟨r0, r1, r2, r3, r4, r5, r6⟩ := T.out.all
              go_wp2_with fail
              clear r0 r1 r2 r3 r4 r5 r6
              with_reducible refine Calls.mono (HC.out _ _ _ _ LB3.out R.out P3.out) ?_
              rintro e w4 ⟨rfl, hb⟩
              have LB4 := Lib.hid (LB3.out.trans (hb.mono LB3.out.size))
              clear hb LB3 T R P3
              go_wp2_with fail
              with_reducible refine Calls.mono (alive10_any _) ?_
              rintro e w5 ⟨rfl, hb⟩
              have LB5 := Lib.hid (LB4.out.trans (hb.mono LB4.out.size))
              clear hb
              go_wp2
              go_ret
              exact ⟨rfl, LB5.out⟩
            · obtain ⟨q0, q1, q2, q3, q4, q5, q6⟩ := X0.out.all
              go_wp2_with fail
              clear q0 q1 q2 q3 q4 q5 q6
              with_reducible refine Calls.mono (HU.out _ _ _ LB0.out P2.out) ?_
              rintro e w1 ⟨rfl, hb⟩
              have X1 := Lib.hid (X0.out.below hb X0.out.lt)
              have LB1 := Lib.hid (LB0.out.trans (hb.mono LB0.out.size))
              have P1 := Lib.hid (P1.out.below hb)
              have P2 := Lib.hid (P2.out.below hb)
              have P3 := Lib.hid (P3.out.below hb)
              clear hb X0 LB0
              obtain ⟨q0, q1, q2, q3, q4, q5, q6⟩ := X1.out.all
              go_wp2_with fail
              clear q0 q1 q2 q3 q4 q5 q6
              with_reducible refine Calls.mono (HI.out _ _ _ LB1.out P1.out) ?_
              rintro e w2 ⟨rfl, hb⟩
              have X2 := Lib.hid (X1.out.below hb X1.out.lt)
              have LB2 := Lib.hid (LB1.out.trans (hb.mono LB1.out.size))
              have P1 := Lib.hid (P1.out.below hb)
              have P2 := Lib.hid (P2.out.below hb)
              have P3 := Lib.hid (P3.out.below hb)
              clear hb X1 LB1
              obtain ⟨q0, q1, q2, q3, q4, q5, q6⟩ := X2.out.all
              go_wp2_with fail
              clear q0 q1 q2 q3 q4 q5 q6
              with_reducible refine Calls.mono (HN.out _ LB2.out) ?_
              rintro e w3 ⟨kn, rfl, _, hrow, hb⟩
              have hba := (show Below _ _ (w3.alloc (.cells #[.int .i64 W, .int .i64 H, .slice (some ⟨kn, 0, none⟩) n n] 24)) from hb.trans (((Below.refl _ _).alloc (Nat.le_refl _) _).mono hb.size))
              have T := Lib.hid (Box.new w3 W H (.slice (some ⟨kn, 0, none⟩) n n))
              have R := Lib.hid (hrow.alloc (.cells #[.int .i64 W, .int .i64 H, .slice (some ⟨kn, 0, none⟩) n n] 24))
              have P3 := Lib.hid (P3.out.below hba)
              have LB3 := Lib.hid (LB2.out.trans (hba.mono LB2.out.size))
              clear hb hba hrow P1 P2 X2 LB2
              obtain ⟨r0, r1, r2, r3, r4, r5, r6⟩ := T.out.all
              go_wp2_with fail
              clear r0 r1 r2 r3 r4 r5 r6
              with_reducible refine Calls.mono (HC.out _ _ _ _ LB3.out R.out P3.out) ?_
              rintro e w4 ⟨rfl, hb⟩
              have LB4 := Lib.hid (LB3.out.trans (hb.mono LB3.out.size))
              clear hb LB3 T R P3
              go_wp2_with fail
              with_reducible refine Calls.mono (alive10_any _) ?_
              rintro e w5 ⟨rfl, hb⟩
              have LB5 := Lib.hid (LB4.out.trans (hb.mono LB4.out.size))
              clear hb
              go_wp2
              go_ret
              exact ⟨rfl, LB5.out⟩
end Go.Proofs.Ytnpgmgaajejhjaa
