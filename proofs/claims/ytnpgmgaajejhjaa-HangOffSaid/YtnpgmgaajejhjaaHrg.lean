/- The reference: Hangs, Apart, way, Walk. -/
import Derived.Test.YtnpgmgaajejhjaaHrf
namespace Go.Proofs.Ytnpgmgaajejhjaa
open Go.RowKit
set_option maxRecDepth 100000
set_option linter.unusedVariables false
set_option linter.unusedSimpArgs false

theorem hgs_int {R : Nat → Nat → Bool} {N L : Nat} (h : (ofl (up R N (t0 R N)) N).length = L) : ((L : Int) == (N : Int)) = hgs R N := by
  subst h
  unfold hgs sz
  rw [Bool.eq_iff_iff, beq_iff_eq, beq_iff_eq]
  omega
set_option maxHeartbeats 1600000 in
theorem rhangs_ok (W H N : Nat) (hNN : W + H = N) (A : Option Addr) (c : Nat) (g : Nat → Bool) (w : World) (hg : Holds w w.heap.size A (W * H) g) (hW0 : 1 ≤ W) (hW : W ≤ 64) (hH0 : 1 ≤ H) (hH : H ≤ 64) : Calls Try.prog 52 #[.agg #[.int .i64 (W : Nat), .int .i64 (H : Nat), .slice A (W * H) c]] w (BRet w (hgs (ov W g) N) 0) := by
  have HK := Lib.hid (fun u => rchk_valid A c u hW0 hW hH0 hH)
  have HT := Lib.hid (fun u => rthr_any W H A (W * H) c u hW hH)
  rw [hNN] at HT
  have HF := Lib.hid (fun u (h : Below w.heap.size w u) => rfirst_n W H N hNN A c g u ((hg.below h).more h.size) hW hH (by omega))
  have HE := Lib.hid (fun L (h : (ofl (up (ov W g) N (t0 (ov W g) N)) N).length = L) => hgs_int h)
  have X0 := Lib.hid (Box.new w (W : Nat) (H : Nat) (.slice A (W * H) c))
  have LB0 := Lib.hid (show Below w.heap.size w (w.alloc (.cells #[.int .i64 (W : Nat), .int .i64 (H : Nat), (.slice A (W * H) c)] 24)) from (Below.refl _ _).alloc (Nat.le_refl _) _)
  clear hg hNN
  generalize W * H = M at *
  generalize hgs (ov W g) N = q at *
  generalize ofl (up (ov W g) N (t0 (ov W g) N)) N = l at *
  go_enter Try.func52, Try.ntmps52
  go_wp2_with fail
  generalize w.alloc (.cells #[.int .i64 (W : Nat), .int .i64 (H : Nat), .slice A M c] 24) = w0 at *
  obtain ⟨q0, q1, q2, q3, q4, q5, q6⟩ := X0.out.all
  go_wp2_with fail
  clear q0 q1 q2 q3 q4 q5 q6
  with_reducible refine Calls.mono (HK.out _) ?_
  rintro e w1 ⟨rfl, hb⟩
  have X1 := Lib.hid (X0.out.below hb X0.out.lt)
  have LB1 := Lib.hid (LB0.out.trans (hb.mono LB0.out.size))
  clear hb X0 LB0
  obtain ⟨q0, q1, q2, q3, q4, q5, q6⟩ := X1.out.all
  have HKK := Lib.hid (HE.out l.length rfl)
  clear q0 q1 q2 q3 q4 q5 q6
  have HKw1 := Lib.hid (fun u (h : Below w1.heap.size w1 u) => (show u.cell? ⟨w.heap.size, 0, none⟩ = some (.int .i64 (W : Nat)) ∧ u.cell? ⟨w.heap.size, 1, none⟩ = some (.int .i64 (H : Nat)) ∧ u.cell? ⟨w.heap.size, 2, none⟩ = some (.slice A M c) from ⟨(X1.out.below h X1.out.lt).c0, (X1.out.below h X1.out.lt).c1, (X1.out.below h X1.out.lt).c2⟩))
  obtain ⟨q0, q1, q2, q3, q4, q5, q6⟩ := X1.out.all
  go_wp2
  go_region_held3 (fun w' => w'.cell? ⟨w.heap.size, 0, none⟩ = some (.int .i64 (W : Nat)) ∧ w'.cell? ⟨w.heap.size, 1, none⟩ = some (.int .i64 (H : Nat)) ∧ w'.cell? ⟨w.heap.size, 2, none⟩ = some (.slice A M c))
    (first
      | exact HKw1.out _ hb3
      | exact HKw1.out _ hb2
      | exact HKw1.out _ (Below.refl _ _).drew)
    (first
      | (go_at_call 91
         with_reducible refine Calls.mono (HF.out _ (LB1.out.trans ((Below.refl _ _).drew.mono LB1.out.size))) ?_
         rintro e w2 ⟨D, d, rfl, hd, hrow, hb⟩
         have hb2 : Below w1.heap.size w1 w2 := (Below.refl _ _).drew.trans hb
         clear hd hrow hb)
      | (go_at_call 89
         with_reducible refine Calls.mono (HT.out _) ?_
         rintro e w3 ⟨rfl, hb⟩
         have hb3 : Below w1.heap.size w1 w3 := hb2.trans (hb.mono hb2.size)
         clear hb))
  go_wp2
  go_ret2
  exact ⟨by rw [← HKK.out]; rfl, LB1.out.trans (hb3.mono LB1.out.size)⟩
theorem rhangs_err {W H : Int} {A : Option Addr} {N c : Nat} (z : Int) (hN : N ≤ 4200) (hz : chk W H N = z) (hne : (z != 0) = true) (w : World) :
    Calls Try.prog 52 #[.agg #[.int .i64 W, .int .i64 H, .slice A N c]] w (BRet w false z) := by
  have HK := Lib.hid (fun u => rchk_err (A := A) (c := c) hN hz u)
  have X0 := Lib.hid (Box.new w W H (.slice A N c))
  have LB0 := Lib.hid (show Below w.heap.size w (w.alloc (.cells #[.int .i64 W, .int .i64 H, (.slice A N c)] 24)) from (Below.refl _ _).alloc (Nat.le_refl _) _)
  clear hz
  go_enter Try.func52, Try.ntmps52
  go_wp2_with fail
  generalize w.alloc (.cells #[.int .i64 W, .int .i64 H, .slice A N c] 24) = w0 at *
  obtain ⟨q0, q1, q2, q3, q4, q5, q6⟩ := X0.out.all
  go_wp2_with fail
  clear q0 q1 q2 q3 q4 q5 q6
  with_reducible refine Calls.mono (HK.out _) ?_
  rintro e w1 ⟨rfl, hb⟩
  have X1 := Lib.hid (X0.out.below hb X0.out.lt)
  have LB1 := Lib.hid (LB0.out.trans (hb.mono LB0.out.size))
  clear hb X0 LB0
  obtain ⟨q0, q1, q2, q3, q4, q5, q6⟩ := X1.out.all
  go_wp2_with fail
  clear q0 q1 q2 q3 q4 q5 q6
  with_reducible refine Calls.mono (HK.out _) ?_
  rintro e w2 ⟨rfl, hb⟩
  have X2 := Lib.hid (X1.out.below hb X1.out.lt)
  have LB2 := Lib.hid (LB1.out.trans (hb.mono LB1.out.size))
  clear hb X1 LB1
  obtain ⟨q0, q1, q2, q3, q4, q5, q6⟩ := X2.out.all
  clear q0 q1 q2 q3 q4 q5 q6
  go_wp2
  go_ret2
  exact ⟨rfl, LB2.out⟩
/-- A list and an error came back. -/
def PRet (w : World) (l : List Nat) (z : Int) (e : Ending) (w' : World) : Prop :=
  ∃ D c, e = .returned (.tuple #[.slice D l.length c, .int .i64 z]) ∧ Cp D l.length c ∧ LL w' D l ∧ Below w.heap.size w w'
/-- The set that comes off first. -/
def apL (R : Nat → Nat → Bool) (N : Nat) : List Nat := if hgs R N then [] else ofl (up R N (t0 R N)) N
theorem ll_nil (w : World) (D : Option Addr) : LL w D [] := L2.Holds.none_
theorem rapart_err {W H : Int} {A : Option Addr} {N c : Nat} (z : Int) (hN : N ≤ 4200) (hz : chk W H N = z) (hne : (z != 0) = true) (w : World) :
    Calls Try.prog 53 #[.agg #[.int .i64 W, .int .i64 H, .slice A N c]] w (PRet w [] z) := by
  have HK := Lib.hid (fun u => rchk_err (A := A) (c := c) hN hz u)
  have X0 := Lib.hid (Box.new w W H (.slice A N c))
  have LB0 := Lib.hid (show Below w.heap.size w (w.alloc (.cells #[.int .i64 W, .int .i64 H, (.slice A N c)] 24)) from (Below.refl _ _).alloc (Nat.le_refl _) _)
  clear hz
  go_enter Try.func53, Try.ntmps53
  go_wp2_with fail
  generalize w.alloc (.cells #[.int .i64 W, .int .i64 H, .slice A N c] 24) = w0 at *
  obtain ⟨q0, q1, q2, q3, q4, q5, q6⟩ := X0.out.all
  go_wp2_with fail
  clear q0 q1 q2 q3 q4 q5 q6
  with_reducible refine Calls.mono (HK.out _) ?_
  rintro e w1 ⟨rfl, hb⟩
  have X1 := Lib.hid (X0.out.below hb X0.out.lt)
  have LB1 := Lib.hid (LB0.out.trans (hb.mono LB0.out.size))
  clear hb X0 LB0
  obtain ⟨q0, q1, q2, q3, q4, q5, q6⟩ := X1.out.all
  go_wp2_with fail
  clear q0 q1 q2 q3 q4 q5 q6
  with_reducible refine Calls.mono (HK.out _) ?_
  rintro e w2 ⟨rfl, hb⟩
  have X2 := Lib.hid (X1.out.below hb X1.out.lt)
  have LB2 := Lib.hid (LB1.out.trans (hb.mono LB1.out.size))
  clear hb X1 LB1
  obtain ⟨q0, q1, q2, q3, q4, q5, q6⟩ := X2.out.all
  clear q0 q1 q2 q3 q4 q5 q6
  go_wp2
  go_ret2
  exact ⟨none, 0, rfl, cp_nil, ll_nil _ _, LB2.out⟩
set_option maxHeartbeats 1600000 in
theorem rapart_ok (W H N : Nat) (hNN : W + H = N) (A : Option Addr) (c : Nat) (g : Nat → Bool) (w : World) (hg : Holds w w.heap.size A (W * H) g) (hW0 : 1 ≤ W) (hW : W ≤ 64) (hH0 : 1 ≤ H) (hH : H ≤ 64) : Calls Try.prog 53 #[.agg #[.int .i64 (W : Nat), .int .i64 (H : Nat), .slice A (W * H) c]] w (PRet w (apL (ov W g) N) 0) := by
  have HK := Lib.hid (fun u => rchk_valid A c u hW0 hW hH0 hH)
  have HT := Lib.hid (fun u => rthr_any W H A (W * H) c u hW hH)
  rw [hNN] at HT
  have HF := Lib.hid (fun u (h : Below w.heap.size w u) => rfirst_n W H N hNN A c g u ((hg.below h).more h.size) hW hH (by omega))
  have HE := hgs_int (R := ov W g) (N := N) rfl
  have X0 := Lib.hid (Box.new w (W : Nat) (H : Nat) (.slice A (W * H) c))
  have LB0 := Lib.hid (show Below w.heap.size w (w.alloc (.cells #[.int .i64 (W : Nat), .int .i64 (H : Nat), (.slice A (W * H) c)] 24)) from (Below.refl _ _).alloc (Nat.le_refl _) _)
  clear hg hNN
  generalize W * H = M at *
  unfold apL
  cases hq : hgs (ov W g) N
  · rw [hq] at HE
    show Calls _ _ _ _ (PRet w (ofl (up (ov W g) N (t0 (ov W g) N)) N) 0)
    clear hq
    generalize ofl (up (ov W g) N (t0 (ov W g) N)) N = l at *
    generalize hL : l.length = L at *
    have HL := Lib.hid hL
    clear hL
    go_enter Try.func53, Try.ntmps53
    go_wp2_with fail
    generalize w.alloc (.cells #[.int .i64 (W : Nat), .int .i64 (H : Nat), .slice A M c] 24) = w0 at *
    obtain ⟨q0, q1, q2, q3, q4, q5, q6⟩ := X0.out.all
    go_wp2_with fail
    clear q0 q1 q2 q3 q4 q5 q6
    with_reducible refine Calls.mono (HK.out _) ?_
    rintro e w1 ⟨rfl, hb⟩
    have X1 := Lib.hid (X0.out.below hb X0.out.lt)
    have LB1 := Lib.hid (LB0.out.trans (hb.mono LB0.out.size))
    clear hb X0 LB0
    obtain ⟨q0, q1, q2, q3, q4, q5, q6⟩ := X1.out.all
    go_wp2_with fail
    clear q0 q1 q2 q3 q4 q5 q6
    with_reducible refine Calls.mono (HF.out _ LB1.out) ?_
    rintro e w2 ⟨D, d, rfl, hd, hrow, hb⟩
    have X2 := Lib.hid (X1.out.below hb X1.out.lt)
    have LB2 := Lib.hid (LB1.out.trans (hb.mono LB1.out.size))
    have HD := Lib.hid hd
    have HR := Lib.hid hrow
    rw [HL.out]
    clear hb X1 LB1 hd hrow
    obtain ⟨q0, q1, q2, q3, q4, q5, q6⟩ := X2.out.all
    go_wp2_with fail
    clear q0 q1 q2 q3 q4 q5 q6
    with_reducible refine Calls.mono (HT.out _) ?_
    rintro e w3 ⟨rfl, hb⟩
    have hbl := Lib.hid hb
    have X3 := Lib.hid (X2.out.below hb X2.out.lt)
    have LB3 := Lib.hid (LB2.out.trans (hb.mono LB2.out.size))
    clear hb X2 LB2
    obtain ⟨q0, q1, q2, q3, q4, q5, q6⟩ := X3.out.all
    go_wp2
    go_ret2
    exact ⟨D, d, by rw [HL.out]; rfl, HD.out, HR.out.below hbl.out, LB3.out⟩
  · rw [hq] at HE
    show Calls _ _ _ _ (PRet w [] 0)
    clear hq
    generalize ofl (up (ov W g) N (t0 (ov W g) N)) N = l at *
    generalize hL : l.length = L at *
    have HL := Lib.hid hL
    clear hL
    go_enter Try.func53, Try.ntmps53
    go_wp2_with fail
    generalize w.alloc (.cells #[.int .i64 (W : Nat), .int .i64 (H : Nat), .slice A M c] 24) = w0 at *
    obtain ⟨q0, q1, q2, q3, q4, q5, q6⟩ := X0.out.all
    go_wp2_with fail
    clear q0 q1 q2 q3 q4 q5 q6
    with_reducible refine Calls.mono (HK.out _) ?_
    rintro e w1 ⟨rfl, hb⟩
    have X1 := Lib.hid (X0.out.below hb X0.out.lt)
    have LB1 := Lib.hid (LB0.out.trans (hb.mono LB0.out.size))
    clear hb X0 LB0
    obtain ⟨q0, q1, q2, q3, q4, q5, q6⟩ := X1.out.all
    go_wp2_with fail
    clear q0 q1 q2 q3 q4 q5 q6
    with_reducible refine Calls.mono (HF.out _ LB1.out) ?_
    rintro e w2 ⟨D, d, rfl, hd, hrow, hb⟩
    have X2 := Lib.hid (X1.out.below hb X1.out.lt)
    have LB2 := Lib.hid (LB1.out.trans (hb.mono LB1.out.size))
    have HD := Lib.hid hd
    have HR := Lib.hid hrow
    rw [HL.out]
    clear hb X1 LB1 hd hrow
    obtain ⟨q0, q1, q2, q3, q4, q5, q6⟩ := X2.out.all
    go_wp2_with fail
    clear q0 q1 q2 q3 q4 q5 q6
    with_reducible refine Calls.mono (HT.out _) ?_
    rintro e w3 ⟨rfl, hb⟩
    have hbl := Lib.hid hb
    have X3 := Lib.hid (X2.out.below hb X2.out.lt)
    have LB3 := Lib.hid (LB2.out.trans (hb.mono LB2.out.size))
    clear hb X2 LB2
    obtain ⟨q0, q1, q2, q3, q4, q5, q6⟩ := X3.out.all
    go_wp2
    go_ret2
    exact ⟨none, 0, rfl, cp_nil, ll_nil _ _, LB3.out⟩
end Go.Proofs.Ytnpgmgaajejhjaa
