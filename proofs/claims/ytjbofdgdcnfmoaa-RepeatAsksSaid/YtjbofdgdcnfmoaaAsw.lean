/- The statement RepeatAsks: the walk. -/
import Derived.Test.YtjbofdgdcnfmoaaPb
import Derived.Test.YtjbofdgdcnfmoaaGa
namespace Go.Proofs.Ytjbofdgdcnfmoaa
open Go.RowKit
set_option maxRecDepth 100000
set_option linter.unusedVariables false
set_option linter.unusedSimpArgs false

set_option maxHeartbeats 400000 in
theorem asks_great (W H : Int) (A : Option Addr) (n c : Nat) (la lb lc dx dy : Int) (w : World) (hn : 100 < n) :
    Calls Try.prog 4 #[.agg #[.int .i64 W, .int .i64 H, .slice A n c], .agg #[.int .i64 la, .int .i64 lb, .int .i64 lc], .int .i64 dx, .int .i64 dy] w fun e w' => e = .returned (.bool true) ∧ Below w.heap.size w w' := by
  have HG := Lib.hid (fun v => (show Calls Try.prog 28 #[.agg #[.int .i64 W, .int .i64 H, .slice A n c]] v fun e w' => e = .returned (.bool true) ∧ Below v.heap.size v w' by have h := g6_any W H A n c v; rwa [decide_eq_true hn] at h))
  have X0 := Lib.hid ((Box.new w W H (.slice A n c)).alloc (.cells #[.int .i64 la, .int .i64 lb, .int .i64 lc] 27))
  have L0 := Lib.hid (show Tri ((w.alloc (.cells #[.int .i64 W, .int .i64 H, .slice A n c] 24)).alloc (.cells #[.int .i64 la, .int .i64 lb, .int .i64 lc] 27)) (w.heap.size + 1) la lb lc from by have h := Tri.new (w.alloc (.cells #[.int .i64 W, .int .i64 H, .slice A n c] 24)) la lb lc; rwa [World.size_alloc] at h)
  have LB0 := Lib.hid (show Below w.heap.size w ((w.alloc (.cells #[.int .i64 W, .int .i64 H, .slice A n c] 24)).alloc (.cells #[.int .i64 la, .int .i64 lb, .int .i64 lc] 27)) from ((Below.refl _ _).alloc (Nat.le_refl _) _).alloc (by simp) _)
  go_enter Try.func4, Try.ntmps4
  obtain ⟨q0, q1, q2, q3, q4, q5, q6⟩ := X0.out.all
  go_wp2_with fail
  clear q0 q1 q2 q3 q4 q5 q6
  refine (HG.out _).mono ?_
  rintro e w1 ⟨rfl, hb⟩
  have X1 := Lib.hid (X0.out.below hb X0.out.lt)
  have LB1 := Lib.hid (LB0.out.trans (hb.mono LB0.out.size))
  clear hb X0 LB0
  go_wp2
  go_ret
  exact ⟨rfl, LB1.out⟩
set_option maxHeartbeats 3200000 in
theorem asks_main (W H : Int) (A : Option Addr) (n c : Nat) (f : Nat → Bool) (la lb lc dx dy : Int) (w : World) (hr : Holds w w.heap.size A n f) (hn : n ≤ 100) (hc : n ≤ c) (hx0 : -9223372036854775808 ≤ dx) (hx1 : dx ≤ 9223372036854775807) (hy0 : -9223372036854775808 ≤ dy) (hy1 : dy ≤ 9223372036854775807) :
    Calls Try.prog 4 #[.agg #[.int .i64 W, .int .i64 H, .slice A n c], .agg #[.int .i64 la, .int .i64 lb, .int .i64 lc], .int .i64 dx, .int .i64 dy] w fun e w' => e = .returned (.bool true) ∧ Below w.heap.size w w' := by
  obtain ⟨t1, z1, h1⟩ := is_two W H A n c f dx dy w hr (by omega) hc hx0 hx1 hy0 hy1
  obtain ⟨oa, ob, od, z2, h2⟩ := of_two W H A n c f w hr (by omega) hc
  obtain ⟨t3, z3, h3⟩ := in_two la lb lc dx dy hx0 hx1 hy0 hy1
  obtain ⟨z4, h4⟩ : ∃ z4 : Int, ∀ v, (Calls Try.prog 26 #[.agg #[.int .i64 la, .int .i64 lb, .int .i64 lc]] v fun e w' => e = .returned (.int .i64 z4) ∧ Below v.heap.size v w') ∧ (Calls Try.prog 32 #[.agg #[.int .i64 la, .int .i64 lb, .int .i64 lc]] v fun e w' => e = .returned (.int .i64 z4) ∧ Below v.heap.size v w') := ⟨_, fun v => ⟨lchk_any la lb lc v, rlchk_any la lb lc v⟩⟩
  have HG := Lib.hid (fun v => (show Calls Try.prog 28 #[.agg #[.int .i64 W, .int .i64 H, .slice A n c]] v fun e w' => e = .returned (.bool false) ∧ Below v.heap.size v w' by have h := g6_any W H A n c v; rwa [decide_eq_false (by omega)] at h))
  have H1 := Lib.hid h1
  have H2 := Lib.hid h2
  have H3 := Lib.hid h3
  have H4 := Lib.hid h4
  have X0 := Lib.hid ((Box.new w W H (.slice A n c)).alloc (.cells #[.int .i64 la, .int .i64 lb, .int .i64 lc] 27))
  have L0 := Lib.hid (show Tri ((w.alloc (.cells #[.int .i64 W, .int .i64 H, .slice A n c] 24)).alloc (.cells #[.int .i64 la, .int .i64 lb, .int .i64 lc] 27)) (w.heap.size + 1) la lb lc from by have h := Tri.new (w.alloc (.cells #[.int .i64 W, .int .i64 H, .slice A n c] 24)) la lb lc; rwa [World.size_alloc] at h)
  have LB0 := Lib.hid (show Below w.heap.size w ((w.alloc (.cells #[.int .i64 W, .int .i64 H, .slice A n c] 24)).alloc (.cells #[.int .i64 la, .int .i64 lb, .int .i64 lc] 27)) from ((Below.refl _ _).alloc (Nat.le_refl _) _).alloc (by simp) _)
  clear h1 h2 h3 h4 hr
  go_enter Try.func4, Try.ntmps4
  obtain ⟨q0, q1, q2, q3, q4, q5, q6⟩ := X0.out.all
  go_wp2_with fail
  clear q0 q1 q2 q3 q4 q5 q6
  refine (HG.out _).mono ?_
  rintro e w1 ⟨rfl, hb⟩
  have X1 := Lib.hid (X0.out.below hb X0.out.lt)
  have L1 := Lib.hid (L0.out.below hb L0.out.lt)
  have LB1 := Lib.hid (LB0.out.trans (hb.mono LB0.out.size))
  clear hb X0 L0 LB0
  obtain ⟨q0, q1, q2, q3, q4, q5, q6⟩ := X1.out.all
  go_wp2_with fail
  clear q0 q1 q2 q3 q4 q5 q6
  refine ((H1.out _ LB1.out).1).mono ?_
  rintro e w2 ⟨rfl, hb⟩
  have X2 := Lib.hid (X1.out.below hb X1.out.lt)
  have L2 := Lib.hid (L1.out.below hb L1.out.lt)
  have LB2 := Lib.hid (LB1.out.trans (hb.mono LB1.out.size))
  clear hb X1 L1 LB1
  obtain ⟨q0, q1, q2, q3, q4, q5, q6⟩ := X2.out.all
  go_wp2_with fail
  clear q0 q1 q2 q3 q4 q5 q6
  refine ((H1.out _ LB2.out).2).mono ?_
  rintro e w3 ⟨rfl, hb⟩
  have X3 := Lib.hid (X2.out.below hb X2.out.lt)
  have L3 := Lib.hid (L2.out.below hb L2.out.lt)
  have LB3 := Lib.hid (LB2.out.trans (hb.mono LB2.out.size))
  clear hb X2 L2 LB2
  obtain ⟨q0, q1, q2, q3, q4, q5, q6⟩ := X3.out.all
  go_wp2_with fail
  clear q0 q1 q2 q3 q4 q5 q6
  refine ((H2.out _ LB3.out).1).mono ?_
  rintro e w4 ⟨rfl, hb⟩
  have hba := (show Below _ _ (w4.alloc (.cells #[.int .i64 oa, .int .i64 ob, .int .i64 od] 27)) from hb.trans (((Below.refl _ _).alloc (Nat.le_refl _) _).mono hb.size))
  have P4 := Lib.hid (Tri.new w4 oa ob od)
  clear hb
  have X4 := Lib.hid (X3.out.below hba X3.out.lt)
  have L4 := Lib.hid (L3.out.below hba L3.out.lt)
  have LB4 := Lib.hid (LB3.out.trans (hba.mono LB3.out.size))
  clear hba X3 L3 LB3
  obtain ⟨q0, q1, q2, q3, q4, q5, q6⟩ := X4.out.all
  go_wp2_with fail
  clear q0 q1 q2 q3 q4 q5 q6
  refine ((H2.out _ LB4.out).2).mono ?_
  rintro e w5 ⟨rfl, hb⟩
  have hba := (show Below _ _ (w5.alloc (.cells #[.int .i64 oa, .int .i64 ob, .int .i64 od] 27)) from hb.trans (((Below.refl _ _).alloc (Nat.le_refl _) _).mono hb.size))
  have Q5 := Lib.hid (Tri.new w5 oa ob od)
  clear hb
  have X5 := Lib.hid (X4.out.below hba X4.out.lt)
  have L5 := Lib.hid (L4.out.below hba L4.out.lt)
  have LB5 := Lib.hid (LB4.out.trans (hba.mono LB4.out.size))
  have P5 := Lib.hid (P4.out.below hba P4.out.lt)
  clear hba X4 L4 LB4 P4
  obtain ⟨q0, q1, q2, q3, q4, q5⟩ := L5.out.all
  go_wp2_with fail
  clear q0 q1 q2 q3 q4 q5
  refine ((H3.out _).1).mono ?_
  rintro e w6 ⟨rfl, hb⟩
  have X6 := Lib.hid (X5.out.below hb X5.out.lt)
  have L6 := Lib.hid (L5.out.below hb L5.out.lt)
  have LB6 := Lib.hid (LB5.out.trans (hb.mono LB5.out.size))
  have P6 := Lib.hid (P5.out.below hb P5.out.lt)
  have Q6 := Lib.hid (Q5.out.below hb Q5.out.lt)
  clear hb X5 L5 LB5 P5 Q5
  obtain ⟨q0, q1, q2, q3, q4, q5⟩ := L6.out.all
  go_wp2_with fail
  clear q0 q1 q2 q3 q4 q5
  refine ((H3.out _).2).mono ?_
  rintro e w7 ⟨rfl, hb⟩
  have X7 := Lib.hid (X6.out.below hb X6.out.lt)
  have L7 := Lib.hid (L6.out.below hb L6.out.lt)
  have LB7 := Lib.hid (LB6.out.trans (hb.mono LB6.out.size))
  have P7 := Lib.hid (P6.out.below hb P6.out.lt)
  have Q7 := Lib.hid (Q6.out.below hb Q6.out.lt)
  clear hb X6 L6 LB6 P6 Q6
  go_wp2
  obtain ⟨I, Wf, i0, h0, hbf, hcl⟩ := family w7
  have hcl := Lib.hid hcl
  have LL := fun n => (L7.out.below (hbf n) L7.out.lt).all
  have PP := fun n => (P7.out.below (hbf n) P7.out.lt).all
  have QQ := fun n => (Q7.out.below (hbf n) Q7.out.lt).all
  have c00 := fun n => (LL n).1
  have c01 := fun n => (LL n).2.1
  have c02 := fun n => (LL n).2.2.1
  have c10 := fun n => (PP n).1
  have c11 := fun n => (PP n).2.1
  have c12 := fun n => (PP n).2.2.1
  have c20 := fun n => (QQ n).1
  have c21 := fun n => (QQ n).2.1
  have c22 := fun n => (QQ n).2.2.1
  clear LL PP QQ
  have BF := Lib.hid (fun n => LB7.out.trans ((hbf n).mono LB7.out.size))
  have K1 := Lib.hid (fun n => (H4.out (Wf n)).1.mono fun e w2 h => (⟨h.1, hcl.out n _ h.2⟩ : _ ∧ ∃ m, w2 = Wf m))
  have K2 := Lib.hid (fun n => (H4.out (Wf n)).2.mono fun e w2 h => (⟨h.1, hcl.out n _ h.2⟩ : _ ∧ ∃ m, w2 = Wf m))
  clear hbf
  refine wp_region_fam Wf i0 h0 (by kernel_rfl) (by kernel_rfl) ?_
  clear h0
  have hne : Nonempty I := ⟨i0⟩
  repeat (go_big_quiet_step (first | exact rfl | (go_at_call 26; with_reducible exact K1.out _) | (go_at_call 32; with_reducible exact K2.out _)))
  refine wpQuiet_nil ?_
  rintro _ ⟨nq, rfl⟩
  go_wp2
  refine bodyPost_ret (v := .bool true) (by simp [results, Try.results4, go_sem]) rfl ⟨rfl, BF.out nq⟩
theorem asks_any (W H : Int) (A : Option Addr) (n c : Nat) (f : Nat → Bool) (la lb lc dx dy : Int) (w : World) (hr : Holds w w.heap.size A n f) (hc : n ≤ c) (hx0 : -9223372036854775808 ≤ dx) (hx1 : dx ≤ 9223372036854775807) (hy0 : -9223372036854775808 ≤ dy) (hy1 : dy ≤ 9223372036854775807) :
    Calls Try.prog 4 #[.agg #[.int .i64 W, .int .i64 H, .slice A n c], .agg #[.int .i64 la, .int .i64 lb, .int .i64 lc], .int .i64 dx, .int .i64 dy] w fun e w' => e = .returned (.bool true) ∧ Below w.heap.size w w' := by
  by_cases h : 100 < n
  · exact asks_great W H A n c la lb lc dx dy w h
  · exact asks_main W H A n c f la lb lc dx dy w hr (by omega) hc hx0 hx1 hy0 hy1
end Go.Proofs.Ytjbofdgdcnfmoaa
