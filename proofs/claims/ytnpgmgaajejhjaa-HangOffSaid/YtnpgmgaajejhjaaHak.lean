/- The walk of HangAsks. -/
import Derived.Test.YtnpgmgaajejhjaaHpz
import Derived.Test.YtnpgmgaajejhjaaOpl
namespace Go.Proofs.Ytnpgmgaajejhjaa
open Go.RowKit
set_option maxRecDepth 100000
set_option linter.unusedVariables false
set_option linter.unusedSimpArgs false

theorem grt_no {W H : Int} {n : Nat} (h : grt W H n = false) : n ≤ 200 := by
  unfold grt at h
  rw [Bool.or_eq_false_iff, decide_eq_false_iff_not] at h
  omega
theorem same_ll {v : World} {D E : Option Addr} {l : List Nat} (hn : l.length ≤ 5000) (h : LL v D l) (k : LL v E l) (c d : Nat) : Calls Try.prog 45 #[.slice D l.length c, .slice E l.length d] v fun e w' => e = .returned (.bool true) ∧ Below v.heap.size v w' :=
  lv_same hn ⟨h⟩ ⟨k⟩ c d (fun _ _ => rfl)
set_option maxHeartbeats 1600000 in
theorem asks10_any (W H : Int) (A : Option Addr) (n c : Nat) (f : Nat → Bool) (a b : Int) (D : Option Addr) (m d : Nat) (s : Nat → Int) (w : World) (hg : Holds w w.heap.size A n f) (hs : L2.Holds w w.heap.size D m s) :
    Calls Try.prog 11 #[.agg #[.int .i64 W, .int .i64 H, .slice A n c], .int .i64 a, .int .i64 b, .slice D m d] w fun e w' => e = .returned (.bool true) ∧ Below w.heap.size w w' := by
  have HGR := Lib.hid (fun u => great_any W H A n c u)
  have X0 := Lib.hid (Box.new w W H (.slice A n c))
  have LB0 := Lib.hid (show Below w.heap.size w (w.alloc (.cells #[.int .i64 W, .int .i64 H, (.slice A n c)] 24)) from (Below.refl _ _).alloc (Nat.le_refl _) _)
  by_cases hgr : grt W H n = true
  · rw [hgr] at HGR
    clear hgr
    go_enter Try.func11, Try.ntmps11
    go_wp2_with fail
    generalize w.alloc (.cells #[.int .i64 W, .int .i64 H, .slice A n c] 24) = w0 at *
    obtain ⟨q0, q1, q2, q3, q4, q5, q6⟩ := X0.out.all
    go_wp2_with fail
    clear q0 q1 q2 q3 q4 q5 q6
    with_reducible refine Calls.mono (HGR.out _) ?_
    rintro e w1 ⟨rfl, hb⟩
    have X1 := Lib.hid (X0.out.below hb X0.out.lt)
    have LB1 := Lib.hid (LB0.out.trans (hb.mono LB0.out.size))
    clear hb X0 LB0
    go_wp2
    go_ret
    exact ⟨rfl, LB1.out⟩
  have hgf : grt W H n = false := by simpa using hgr
  have hn := grt_no hgf
  rw [hgf] at HGR
  clear hgf hgr
  by_cases hm : 40 < m
  · have z1 : (40 : Int) < (m : Int) := by omega
    go_enter Try.func11, Try.ntmps11
    go_wp2_with fail
    generalize w.alloc (.cells #[.int .i64 W, .int .i64 H, .slice A n c] 24) = w0 at *
    obtain ⟨q0, q1, q2, q3, q4, q5, q6⟩ := X0.out.all
    go_wp2_with fail
    clear q0 q1 q2 q3 q4 q5 q6
    with_reducible refine Calls.mono (HGR.out _) ?_
    rintro e w1 ⟨rfl, hb⟩
    have X1 := Lib.hid (X0.out.below hb X0.out.lt)
    have LB1 := Lib.hid (LB0.out.trans (hb.mono LB0.out.size))
    clear hb X0 LB0
    go_wp2
    go_ret
    exact ⟨rfl, LB1.out⟩
  have z1 : ¬ (40 : Int) < (m : Int) := by omega
  obtain ⟨o1, e1, H1⟩ := over_two W H A n c f a b w hg (by omega)
  obtain ⟨o2, e2, _, H2⟩ := off_two W H A n c f D m d s w hg (by omega) (by omega) hs
  obtain ⟨o3, e3, H3⟩ := hangs_two W H A n c f w hg (by omega)
  obtain ⟨l4, e4, h4, H4⟩ := apart_two W H A n c f w hg (by omega)
  have H1 := Lib.hid H1
  have H2 := Lib.hid H2
  have H3 := Lib.hid H3
  have H4 := Lib.hid H4
  clear hg hs
  go_enter Try.func11, Try.ntmps11
  go_wp2_with fail
  generalize w.alloc (.cells #[.int .i64 W, .int .i64 H, .slice A n c] 24) = w0 at *
  obtain ⟨q0, q1, q2, q3, q4, q5, q6⟩ := X0.out.all
  go_wp2_with fail
  clear q0 q1 q2 q3 q4 q5 q6
  with_reducible refine Calls.mono (HGR.out _) ?_
  rintro e w1 ⟨rfl, hb⟩
  have X1 := Lib.hid (X0.out.below hb X0.out.lt)
  have LB1 := Lib.hid (LB0.out.trans (hb.mono LB0.out.size))
  clear hb X0 LB0
  obtain ⟨q0, q1, q2, q3, q4, q5, q6⟩ := X1.out.all
  go_wp2_with fail
  clear q0 q1 q2 q3 q4 q5 q6
  with_reducible refine Calls.mono ((H1.out _ LB1.out).1) ?_
  rintro e w2 ⟨rfl, hb⟩
  have X2 := Lib.hid (X1.out.below hb X1.out.lt)
  have LB2 := Lib.hid (LB1.out.trans (hb.mono LB1.out.size))
  clear hb X1 LB1
  obtain ⟨q0, q1, q2, q3, q4, q5, q6⟩ := X2.out.all
  go_wp2_with fail
  clear q0 q1 q2 q3 q4 q5 q6
  with_reducible refine Calls.mono ((H1.out _ LB2.out).2) ?_
  rintro e w3 ⟨rfl, hb⟩
  have X3 := Lib.hid (X2.out.below hb X2.out.lt)
  have LB3 := Lib.hid (LB2.out.trans (hb.mono LB2.out.size))
  clear hb X2 LB2
  obtain ⟨q0, q1, q2, q3, q4, q5, q6⟩ := X3.out.all
  go_wp2_with fail
  clear q0 q1 q2 q3 q4 q5 q6
  with_reducible refine Calls.mono ((H2.out _ LB3.out).1) ?_
  rintro e w4 ⟨rfl, hb⟩
  have X4 := Lib.hid (X3.out.below hb X3.out.lt)
  have LB4 := Lib.hid (LB3.out.trans (hb.mono LB3.out.size))
  clear hb X3 LB3
  obtain ⟨q0, q1, q2, q3, q4, q5, q6⟩ := X4.out.all
  go_wp2_with fail
  clear q0 q1 q2 q3 q4 q5 q6
  with_reducible refine Calls.mono ((H2.out _ LB4.out).2) ?_
  rintro e w5 ⟨rfl, hb⟩
  have X5 := Lib.hid (X4.out.below hb X4.out.lt)
  have LB5 := Lib.hid (LB4.out.trans (hb.mono LB4.out.size))
  clear hb X4 LB4
  obtain ⟨q0, q1, q2, q3, q4, q5, q6⟩ := X5.out.all
  go_wp2_with fail
  clear q0 q1 q2 q3 q4 q5 q6
  with_reducible refine Calls.mono ((H3.out _ LB5.out).1) ?_
  rintro e w6 ⟨rfl, hb⟩
  have X6 := Lib.hid (X5.out.below hb X5.out.lt)
  have LB6 := Lib.hid (LB5.out.trans (hb.mono LB5.out.size))
  clear hb X5 LB5
  obtain ⟨q0, q1, q2, q3, q4, q5, q6⟩ := X6.out.all
  go_wp2_with fail
  clear q0 q1 q2 q3 q4 q5 q6
  with_reducible refine Calls.mono ((H3.out _ LB6.out).2) ?_
  rintro e w7 ⟨rfl, hb⟩
  have X7 := Lib.hid (X6.out.below hb X6.out.lt)
  have LB7 := Lib.hid (LB6.out.trans (hb.mono LB6.out.size))
  clear hb X6 LB6
  obtain ⟨q0, q1, q2, q3, q4, q5, q6⟩ := X7.out.all
  go_wp2_with fail
  clear q0 q1 q2 q3 q4 q5 q6
  with_reducible refine Calls.mono ((H4.out _ LB7.out).1) ?_
  rintro e w8 ⟨D1, d1, rfl, _, hl, hb⟩
  have X8 := Lib.hid (X7.out.below hb X7.out.lt)
  have LB8 := Lib.hid (LB7.out.trans (hb.mono LB7.out.size))
  have P1 := Lib.hid hl
  clear hl
  clear hb X7 LB7
  obtain ⟨q0, q1, q2, q3, q4, q5, q6⟩ := X8.out.all
  go_wp2_with fail
  clear q0 q1 q2 q3 q4 q5 q6
  with_reducible refine Calls.mono ((H4.out _ LB8.out).2) ?_
  rintro e w9 ⟨D2, d2, rfl, _, hl, hb⟩
  have X9 := Lib.hid (X8.out.below hb X8.out.lt)
  have LB9 := Lib.hid (LB8.out.trans (hb.mono LB8.out.size))
  have P1 := Lib.hid (P1.out.below hb)
  have P2 := Lib.hid hl
  clear hl
  clear hb X8 LB8
  have HSM := Lib.hid (same_ll (by omega) P1.out P2.out d1 d2)
  obtain ⟨ln, hln⟩ : ∃ x, l4.length = x := ⟨_, rfl⟩
  rw [hln] at HSM ⊢
  clear hln
  go_wp2_with fail
  with_reducible refine Calls.mono HSM.out ?_
  rintro e w10 ⟨rfl, hb⟩
  have LB10 := Lib.hid (LB9.out.trans (hb.mono LB9.out.size))
  clear hb
  go_wp2
  go_ret
  exact ⟨rfl, LB10.out⟩
end Go.Proofs.Ytnpgmgaajejhjaa
