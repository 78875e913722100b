/- The walk of NetworkDraws. -/
import Derived.Test.YthipdfkgeghooaaNco
namespace Go.Proofs.Ythipdfkgeghooaa
open Go.RowKit
set_option maxRecDepth 100000
set_option linter.unusedVariables false
set_option linter.unusedSimpArgs false

theorem grt_no {n m : Nat} (h : grt n m = false) : n ≤ 100 ∧ m ≤ 100 := by
  unfold grt at h
  simp at h
  exact ⟨by omega, by omega⟩
set_option maxHeartbeats 3200000 in
theorem draws_any (S N : Int) (A D : Option Addr) (n c m d : Nat) (f l : Nat → Int) (w : World) (hA : L2.Holds w w.heap.size A n f) (hD : L2.Holds w w.heap.size D m l) (hd : D = none → d = 0) :
    Calls Try.prog 3 #[.agg #[.int .i64 S, .int .i64 N, .slice A n c], .slice D m d] w fun e w' => e = .returned (.bool true) ∧ Below w.heap.size w w' := by
  have HG := Lib.hid (fun u => great_any S N A D n c m d u)
  cases hg : grt n m with
  | true =>
    rw [hg] at HG
    clear hA hD
    have LB0 := Lib.hid (Below.refl w.heap.size w)
    have X1 := IBox.new w S N (.slice A n c)
    have X1 := Lib.hid X1
    have LB0 := Lib.hid (LB0.out.alloc LB0.out.size (.cells #[.int .i64 S, .int .i64 N, .slice A n c] 24))
    go_enter Try.func3, Try.ntmps3
    go_upto_region 1 with (fail)
    generalize w.alloc (.cells #[.int .i64 S, .int .i64 N, .slice A n c] 24) = w0 at *
    obtain ⟨q0, q1, q2, q3, q4, q5, q6⟩ := X1.out.all
    go_wp2_with fail
    clear q0 q1 q2 q3 q4 q5 q6
    with_reducible refine Calls.mono (HG.out _) ?_
    rintro e w1 ⟨rfl, hb⟩
    have LB1 := Lib.hid (LB0.out.trans (hb.mono LB0.out.size))
    clear hb
    go_wp2
    go_ret
    exact ⟨rfl, LB1.out⟩
  | false =>
    rw [hg] at HG
    obtain ⟨hn, hm⟩ := grt_no hg
    obtain ⟨L1, F1, Z1, hL1, d1, d2⟩ := dr_two S N n f m l hn hm
    obtain ⟨b2, Z2, o1, o2⟩ := on_two S N n f m l hn (by omega)
    obtain ⟨b3, Z3, p1, p2⟩ := pl_two S N n f hn
    have K1 := Lib.hid d1
    have K2 := Lib.hid d2
    have K3 := Lib.hid o1
    have K4 := Lib.hid o2
    have K5 := Lib.hid p1
    have K6 := Lib.hid p2
    have HA := Lib.hid hA
    have HD := Lib.hid hD
    clear d1 d2 o1 o2 p1 p2 hA hD hg
    have LB0 := Lib.hid (Below.refl w.heap.size w)
    have X1 := IBox.new w S N (.slice A n c)
    have X1 := Lib.hid X1
    have LB0 := Lib.hid (LB0.out.alloc LB0.out.size (.cells #[.int .i64 S, .int .i64 N, .slice A n c] 24))
    have hb := bel_alloc w (.cells #[.int .i64 S, .int .i64 N, .slice A n c] 24)
    have HA := Lib.hid ((HA.out.below hb).more hb.size)
    have HD := Lib.hid ((HD.out.below hb).more hb.size)
    clear hb
    go_enter Try.func3, Try.ntmps3
    go_upto_region 1 with (fail)
    generalize w.alloc (.cells #[.int .i64 S, .int .i64 N, .slice A n c] 24) = w0 at *
    obtain ⟨q0, q1, q2, q3, q4, q5, q6⟩ := X1.out.all
    go_wp2_with fail
    clear q0 q1 q2 q3 q4 q5 q6
    with_reducible refine Calls.mono (HG.out _) ?_
    rintro e w1 ⟨rfl, hb⟩
    have LB1 := Lib.hid (LB0.out.trans (hb.mono LB0.out.size))
    replace X1 := Lib.hid (X1.out.below hb X1.out.lt)
    replace HA := Lib.hid ((HA.out.below hb).more hb.size)
    replace HD := Lib.hid ((HD.out.below hb).more hb.size)
    clear hb
    have HTW := Lib.hid (itwin_all (W := S) (H := N) (c := c) w1 (show n ≤ 4200 by omega) HA.out)
    obtain ⟨q0, q1, q2, q3, q4, q5, q6⟩ := X1.out.all
    go_wp2_with fail
    clear q0 q1 q2 q3 q4 q5 q6
    with_reducible refine Calls.mono HTW.out ?_
    rintro e w2 ⟨A1, c1, rfl, hA1, hb⟩
    have HA1 := Lib.hid hA1
    have LB2 := Lib.hid (LB1.out.trans (hb.mono LB1.out.size))
    replace X1 := Lib.hid (X1.out.below hb X1.out.lt)
    replace HA := Lib.hid ((HA.out.below hb).more hb.size)
    replace HD := Lib.hid ((HD.out.below hb).more hb.size)
    clear hb hA1
    have HO0 := Lib.hid (L2.Own.empty w2 (Nat.le_refl _) (fun _ => 0))
    have hb0 := bel_alloc w2 (.cells #[] 3)
    have HLD := Lib.hid (HD.out.below hb0)
    have hsz : (w2.alloc (.cells #[] 3)).heap.size = w2.heap.size + 1 := by simp
    have HB0 := Lib.hid hb0
    clear hb0
    go_wp2_with (at_builtin; refine L2.appN _ rfl _ _ rfl w2.heap.size rfl HO0.out rfl hd HLD.out (by omega) (by omega) (by rw [hsz]; omega) ?_; intro v' w3 O5 B5; clear HO0)
    have hob : L2.Own w3 w2.heap.size v' m l := by
      have h := O5
      rw [Nat.zero_add] at h
      exact h.congr fun i hi => by simp [L2.both]
    obtain ⟨A2, c2, rfl, -, -⟩ := hob.out
    have HL := Lib.hid (L2.Own.holds hob)
    have hb := HB0.out.trans B5
    clear O5 hob HLD hsz HB0 B5
    have LB3 := Lib.hid (LB2.out.trans (hb.mono LB2.out.size))
    replace X1 := Lib.hid (X1.out.below hb X1.out.lt)
    replace HA := Lib.hid ((HA.out.below hb).more hb.size)
    replace HD := Lib.hid ((HD.out.below hb).more hb.size)
    replace HA1 := Lib.hid ((HA1.out.below hb).more hb.size)
    clear hb
    have X2 := Lib.hid (IBox.new w3 S N (.slice A1 n c1))
    have hb := bel_alloc w3 (.cells #[.int .i64 S, .int .i64 N, .slice A1 n c1] 24)
    have LB4 := Lib.hid (LB3.out.trans (hb.mono LB3.out.size))
    replace X1 := Lib.hid (X1.out.below hb X1.out.lt)
    replace HA := Lib.hid ((HA.out.below hb).more hb.size)
    replace HD := Lib.hid ((HD.out.below hb).more hb.size)
    replace HA1 := Lib.hid ((HA1.out.below hb).more hb.size)
    replace HL := Lib.hid ((HL.out.below hb).more hb.size)
    clear hb
    generalize w3.alloc (.cells #[.int .i64 S, .int .i64 N, .slice A1 n c1] 24) = w4 at *
    generalize w3.heap.size = tb at *
    with_reducible refine Calls.mono (K1.out _ _ _ _ _ HA1.out HL.out) ?_
    rintro e w5 ⟨A3, c3, rfl, hr, hb⟩
    have LB5 := Lib.hid (LB4.out.trans (hb.mono LB4.out.size))
    replace X1 := Lib.hid (X1.out.below hb X1.out.lt)
    replace X2 := Lib.hid (X2.out.below hb X2.out.lt)
    replace HA := Lib.hid ((HA.out.below hb).more hb.size)
    replace HD := Lib.hid ((HD.out.below hb).more hb.size)
    replace HA1 := Lib.hid ((HA1.out.below hb).more hb.size)
    replace HL := Lib.hid ((HL.out.below hb).more hb.size)
    clear hb
    have R1 := Lib.hid hr
    clear hr
    obtain ⟨q0, q1, q2, q3, q4, q5, q6⟩ := X1.out.all
    obtain ⟨q7, q8, q9, q10, q11, q12, q13⟩ := X2.out.all
    go_wp2_with fail
    clear q0 q1 q2 q3 q4 q5 q6 q7 q8 q9 q10 q11 q12 q13
    with_reducible refine Calls.mono (K2.out _ _ _ _ _ HA.out HD.out) ?_
    rintro e w6 ⟨A4, c4, rfl, hr, hb⟩
    have LB6 := Lib.hid (LB5.out.trans (hb.mono LB5.out.size))
    replace X1 := Lib.hid (X1.out.below hb X1.out.lt)
    replace X2 := Lib.hid (X2.out.below hb X2.out.lt)
    replace HA := Lib.hid ((HA.out.below hb).more hb.size)
    replace HD := Lib.hid ((HD.out.below hb).more hb.size)
    replace HA1 := Lib.hid ((HA1.out.below hb).more hb.size)
    replace HL := Lib.hid ((HL.out.below hb).more hb.size)
    replace R1 := Lib.hid ((R1.out.below hb).more hb.size)
    clear hb
    have R2 := Lib.hid hr
    clear hr
    obtain ⟨q0, q1, q2, q3, q4, q5, q6⟩ := X1.out.all
    obtain ⟨q7, q8, q9, q10, q11, q12, q13⟩ := X2.out.all
    go_wp2_with fail
    clear q0 q1 q2 q3 q4 q5 q6 q7 q8 q9 q10 q11 q12 q13
    with_reducible refine Calls.mono (K3.out _ _ _ _ _ HA1.out HL.out) ?_
    rintro e w7 ⟨rfl, hb⟩
    have LB7 := Lib.hid (LB6.out.trans (hb.mono LB6.out.size))
    replace X1 := Lib.hid (X1.out.below hb X1.out.lt)
    replace X2 := Lib.hid (X2.out.below hb X2.out.lt)
    replace HA := Lib.hid ((HA.out.below hb).more hb.size)
    replace HD := Lib.hid ((HD.out.below hb).more hb.size)
    replace HA1 := Lib.hid ((HA1.out.below hb).more hb.size)
    replace HL := Lib.hid ((HL.out.below hb).more hb.size)
    replace R1 := Lib.hid ((R1.out.below hb).more hb.size)
    replace R2 := Lib.hid ((R2.out.below hb).more hb.size)
    clear hb
    obtain ⟨q0, q1, q2, q3, q4, q5, q6⟩ := X1.out.all
    obtain ⟨q7, q8, q9, q10, q11, q12, q13⟩ := X2.out.all
    go_wp2_with fail
    clear q0 q1 q2 q3 q4 q5 q6 q7 q8 q9 q10 q11 q12 q13
    with_reducible refine Calls.mono (K4.out _ _ _ _ _ HA.out HD.out) ?_
    rintro e w8 ⟨rfl, hb⟩
    have LB8 := Lib.hid (LB7.out.trans (hb.mono LB7.out.size))
    replace X1 := Lib.hid (X1.out.below hb X1.out.lt)
    replace X2 := Lib.hid (X2.out.below hb X2.out.lt)
    replace HA := Lib.hid ((HA.out.below hb).more hb.size)
    replace HD := Lib.hid ((HD.out.below hb).more hb.size)
    replace HA1 := Lib.hid ((HA1.out.below hb).more hb.size)
    replace HL := Lib.hid ((HL.out.below hb).more hb.size)
    replace R1 := Lib.hid ((R1.out.below hb).more hb.size)
    replace R2 := Lib.hid ((R2.out.below hb).more hb.size)
    clear hb
    obtain ⟨q0, q1, q2, q3, q4, q5, q6⟩ := X1.out.all
    obtain ⟨q7, q8, q9, q10, q11, q12, q13⟩ := X2.out.all
    go_wp2_with fail
    clear q0 q1 q2 q3 q4 q5 q6 q7 q8 q9 q10 q11 q12 q13
    with_reducible refine Calls.mono (K5.out _ _ _ HA1.out) ?_
    rintro e w9 ⟨rfl, hb⟩
    have LB9 := Lib.hid (LB8.out.trans (hb.mono LB8.out.size))
    replace X1 := Lib.hid (X1.out.below hb X1.out.lt)
    replace X2 := Lib.hid (X2.out.below hb X2.out.lt)
    replace HA := Lib.hid ((HA.out.below hb).more hb.size)
    replace HD := Lib.hid ((HD.out.below hb).more hb.size)
    replace HA1 := Lib.hid ((HA1.out.below hb).more hb.size)
    replace HL := Lib.hid ((HL.out.below hb).more hb.size)
    replace R1 := Lib.hid ((R1.out.below hb).more hb.size)
    replace R2 := Lib.hid ((R2.out.below hb).more hb.size)
    clear hb
    obtain ⟨q0, q1, q2, q3, q4, q5, q6⟩ := X1.out.all
    obtain ⟨q7, q8, q9, q10, q11, q12, q13⟩ := X2.out.all
    go_wp2_with fail
    clear q0 q1 q2 q3 q4 q5 q6 q7 q8 q9 q10 q11 q12 q13
    with_reducible refine Calls.mono (K6.out _ _ _ HA.out) ?_
    rintro e w10 ⟨rfl, hb⟩
    have LB10 := Lib.hid (LB9.out.trans (hb.mono LB9.out.size))
    replace X1 := Lib.hid (X1.out.below hb X1.out.lt)
    replace X2 := Lib.hid (X2.out.below hb X2.out.lt)
    replace HA := Lib.hid ((HA.out.below hb).more hb.size)
    replace HD := Lib.hid ((HD.out.below hb).more hb.size)
    replace HA1 := Lib.hid ((HA1.out.below hb).more hb.size)
    replace HL := Lib.hid ((HL.out.below hb).more hb.size)
    replace R1 := Lib.hid ((R1.out.below hb).more hb.size)
    replace R2 := Lib.hid ((R2.out.below hb).more hb.size)
    clear hb
    obtain ⟨I, Wf, i0, h0f, hbf, hcf⟩ := family w10
    have C1 := Lib.hid (fun n' => (nck_any S N A1 n c1 f (Wf n') (by omega) ((HA1.out.below (hbf n')).more (hbf n').size)).mono fun e w2 h => (⟨h.1, hcf n' _ h.2⟩ : _ ∧ ∃ m, w2 = Wf m))
    have C2 := Lib.hid (fun n' => (rnck_any S N A n c f (Wf n') (by omega) ((HA.out.below (hbf n')).more (hbf n').size)).mono fun e w2 h => (⟨h.1, hcf n' _ h.2⟩ : _ ∧ ∃ m, w2 = Wf m))
    have C3 := Lib.hid (fun n' => (lv_same (by omega) ⟨(R1.out.below (hbf n')).more (hbf n').size⟩ ⟨(R2.out.below (hbf n')).more (hbf n').size⟩ c3 c4 (fun _ _ => rfl)).mono fun e w2 h => (⟨h.1, hcf n' _ h.2⟩ : _ ∧ ∃ m, w2 = Wf m))
    have C4 := Lib.hid (fun n' => (lv_same (by omega) ⟨(HA1.out.below (hbf n')).more (hbf n').size⟩ ⟨(HA.out.below (hbf n')).more (hbf n').size⟩ c1 c (fun _ _ => rfl)).mono fun e w2 h => (⟨h.1, hcf n' _ h.2⟩ : _ ∧ ∃ m, w2 = Wf m))
    have C5 := Lib.hid (fun n' => (lv_same (by omega) ⟨(HL.out.below (hbf n')).more (hbf n').size⟩ ⟨(HD.out.below (hbf n')).more (hbf n').size⟩ c2 d (fun _ _ => rfl)).mono fun e w2 h => (⟨h.1, hcf n' _ h.2⟩ : _ ∧ ∃ m, w2 = Wf m))
    have x0 := fun n' => ((X1.out.below (hbf n') X1.out.lt)).c0
    have x1 := fun n' => ((X1.out.below (hbf n') X1.out.lt)).c1
    have x2 := fun n' => ((X1.out.below (hbf n') X1.out.lt)).c2
    have x3 := fun n' => ((X2.out.below (hbf n') X2.out.lt)).c0
    have x4 := fun n' => ((X2.out.below (hbf n') X2.out.lt)).c1
    have x5 := fun n' => ((X2.out.below (hbf n') X2.out.lt)).c2
    have BF := Lib.hid hbf
    clear hbf hcf
    have zz : ∀ z : Int, (z == z) = true := fun z => by simp
    have zb2 : (b2 == b2) = true := by simp
    have zb3 : (b3 == b3) = true := by simp
    have LBW := Lib.hid (LB10.out)
    go_wp2
    refine wp_region_fam Wf i0 h0f (by kernel_rfl) (by kernel_rfl) ?_
    clear h0f
    try dsimp only [List.append]
    repeat (go_big_quiet_step (first | exact rfl | (go_at_call 18; with_reducible exact C1.out _) | (go_at_call 19; with_reducible exact C2.out _) | (go_at_call 20; first | with_reducible exact C3.out _ | with_reducible exact C4.out _ | with_reducible exact C5.out _)))
    refine wpQuiet_nil ?_
    rintro _ ⟨nq, rfl⟩
    have HBp := Lib.hid (BF.out nq)
    clear x0 x1 x2 x3 x4 x5 C1 C2 C3 C4 C5 BF
    go_wp2
    go_ret
    exact ⟨rfl, LBW.out.trans (HBp.out.mono LBW.out.size)⟩
end Go.Proofs.Ythipdfkgeghooaa
