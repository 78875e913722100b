/- The statement RepeatCells: the walk. -/
import Derived.Test.YtjbofdgdcnfmoaaCet
namespace Go.Proofs.Ytjbofdgdcnfmoaa
open Go.RowKit
set_option maxRecDepth 100000
set_option linter.unusedVariables false
set_option linter.unusedSimpArgs false

set_option maxHeartbeats 400000 in
theorem cells_g1 (W H X Y : Int) (A D : Option Addr) (n c m d : Nat) (by_ u v : Int) (w : World) (hn : 100 < n) : Calls Try.prog 5 #[.agg #[.int .i64 W, .int .i64 H, .slice A n c], .agg #[.int .i64 X, .int .i64 Y, .slice D m d], .int .i64 by_, .int .i64 u, .int .i64 v] w fun e w' => e = .returned (.bool true) ∧ Below w.heap.size w w' := by
  have HG := Lib.hid (fun v => (show Calls Try.prog 28 #[.agg #[.int .i64 W, .int .i64 H, .slice A n c]] v fun e w' => e = .returned (.bool true) ∧ Below v.heap.size v w' by have h := g6_any W H A n c v; rwa [decide_eq_true hn] at h))
  have X0 := Lib.hid ((Box.new w W H (.slice A n c)).alloc (.cells #[.int .i64 X, .int .i64 Y, .slice D m d] 24))
  have Y0 := Lib.hid (show Box ((w.alloc (.cells #[.int .i64 W, .int .i64 H, .slice A n c] 24)).alloc (.cells #[.int .i64 X, .int .i64 Y, .slice D m d] 24)) (w.heap.size + 1) X Y (.slice D m d) from by have h := Box.new (w.alloc (.cells #[.int .i64 W, .int .i64 H, .slice A n c] 24)) X Y (.slice D m d); rwa [World.size_alloc] at h)
  have LB0 := Lib.hid (show Below w.heap.size w ((w.alloc (.cells #[.int .i64 W, .int .i64 H, .slice A n c] 24)).alloc (.cells #[.int .i64 X, .int .i64 Y, .slice D m d] 24)) from ((Below.refl _ _).alloc (Nat.le_refl _) _).alloc (by simp) _)
  go_enter Try.func5, Try.ntmps5
  obtain ⟨q0, q1, q2, q3, q4, q5, q6⟩ := X0.out.all
  go_wp2_with fail
  clear q0 q1 q2 q3 q4 q5 q6
  refine (HG.out _).mono ?_
  rintro e w1 ⟨rfl, hb⟩
  have X1 := Lib.hid (X0.out.below hb X0.out.lt)
  have LB1 := Lib.hid (LB0.out.trans (hb.mono LB0.out.size))
  clear hb X0 LB0
  go_wp2
  go_ret
  exact ⟨rfl, LB1.out⟩
set_option maxHeartbeats 400000 in
theorem cells_g2 (W H X Y : Int) (A D : Option Addr) (n c m d : Nat) (by_ u v : Int) (w : World) (hn : n ≤ 100) (hm : 100 < m) : Calls Try.prog 5 #[.agg #[.int .i64 W, .int .i64 H, .slice A n c], .agg #[.int .i64 X, .int .i64 Y, .slice D m d], .int .i64 by_, .int .i64 u, .int .i64 v] w fun e w' => e = .returned (.bool true) ∧ Below w.heap.size w w' := by
  have HG := Lib.hid (fun v => (show Calls Try.prog 28 #[.agg #[.int .i64 W, .int .i64 H, .slice A n c]] v fun e w' => e = .returned (.bool false) ∧ Below v.heap.size v w' by have h := g6_any W H A n c v; rwa [decide_eq_false (by omega)] at h))
  have HH := Lib.hid (fun v => (show Calls Try.prog 28 #[.agg #[.int .i64 X, .int .i64 Y, .slice D m d]] v fun e w' => e = .returned (.bool true) ∧ Below v.heap.size v w' by have h := g6_any X Y D m d v; rwa [decide_eq_true hm] at h))
  have X0 := Lib.hid ((Box.new w W H (.slice A n c)).alloc (.cells #[.int .i64 X, .int .i64 Y, .slice D m d] 24))
  have Y0 := Lib.hid (show Box ((w.alloc (.cells #[.int .i64 W, .int .i64 H, .slice A n c] 24)).alloc (.cells #[.int .i64 X, .int .i64 Y, .slice D m d] 24)) (w.heap.size + 1) X Y (.slice D m d) from by have h := Box.new (w.alloc (.cells #[.int .i64 W, .int .i64 H, .slice A n c] 24)) X Y (.slice D m d); rwa [World.size_alloc] at h)
  have LB0 := Lib.hid (show Below w.heap.size w ((w.alloc (.cells #[.int .i64 W, .int .i64 H, .slice A n c] 24)).alloc (.cells #[.int .i64 X, .int .i64 Y, .slice D m d] 24)) from ((Below.refl _ _).alloc (Nat.le_refl _) _).alloc (by simp) _)
  go_enter Try.func5, Try.ntmps5
  obtain ⟨q0, q1, q2, q3, q4, q5, q6⟩ := X0.out.all
  go_wp2_with fail
  clear q0 q1 q2 q3 q4 q5 q6
  refine (HG.out _).mono ?_
  rintro e w1 ⟨rfl, hb⟩
  have X1 := Lib.hid (X0.out.below hb X0.out.lt)
  have Y1 := Lib.hid (Y0.out.below hb Y0.out.lt)
  have LB1 := Lib.hid (LB0.out.trans (hb.mono LB0.out.size))
  clear hb X0 Y0 LB0
  obtain ⟨q0, q1, q2, q3, q4, q5, q6⟩ := Y1.out.all
  go_wp2_with fail
  clear q0 q1 q2 q3 q4 q5 q6
  refine (HH.out _).mono ?_
  rintro e w2 ⟨rfl, hb⟩
  have X2 := Lib.hid (X1.out.below hb X1.out.lt)
  have Y2 := Lib.hid (Y1.out.below hb Y1.out.lt)
  have LB2 := Lib.hid (LB1.out.trans (hb.mono LB1.out.size))
  clear hb X1 Y1 LB1
  go_wp2
  go_ret
  exact ⟨rfl, LB2.out⟩
set_option maxHeartbeats 6400000 in
theorem cells_main (W H X Y : Int) (A D : Option Addr) (n c m d : Nat) (by_ u v : Int) (w : World) (f g : Nat → Bool) (hr : Holds w w.heap.size A n f) (hs : Holds w w.heap.size D m g) (hn : n ≤ 100) (hm : m ≤ 100) (hc : n ≤ c) (hd : m ≤ d) : Calls Try.prog 5 #[.agg #[.int .i64 W, .int .i64 H, .slice A n c], .agg #[.int .i64 X, .int .i64 Y, .slice D m d], .int .i64 by_, .int .i64 u, .int .i64 v] w fun e w' => e = .returned (.bool true) ∧ Below w.heap.size w w' := by
  obtain ⟨U, V, N, F, z1, hN, h1⟩ := cell_two W H A n c f w hr (by omega) hc
  obtain ⟨U2, V2, N2, F2, z2, hN2, h2⟩ := spread_two W H A n c f by_ u v w hr (by omega)
  obtain ⟨ra, rb, z3, h3⟩ := rect_two W H A n c f w hr (by omega) hc
  obtain ⟨oa, ob, z4, h4⟩ := off_two W H X Y A D n c m d f g w hr hs (by omega) (by omega) hc hd
  have HR := Lib.hid (fun v (h : Below w.heap.size w v) => (hr.below h).more h.size)
  have H1 := Lib.hid h1
  have H2 := Lib.hid h2
  have H3 := Lib.hid h3
  have H4 := Lib.hid h4
  have HG := Lib.hid (fun v => (show Calls Try.prog 28 #[.agg #[.int .i64 W, .int .i64 H, .slice A n c]] v fun e w' => e = .returned (.bool false) ∧ Below v.heap.size v w' by have h := g6_any W H A n c v; rwa [decide_eq_false (by omega)] at h))
  have HH := Lib.hid (fun v => (show Calls Try.prog 28 #[.agg #[.int .i64 X, .int .i64 Y, .slice D m d]] v fun e w' => e = .returned (.bool false) ∧ Below v.heap.size v w' by have h := g6_any X Y D m d v; rwa [decide_eq_false (by omega)] at h))
  have X0 := Lib.hid ((Box.new w W H (.slice A n c)).alloc (.cells #[.int .i64 X, .int .i64 Y, .slice D m d] 24))
  have Y0 := Lib.hid (show Box ((w.alloc (.cells #[.int .i64 W, .int .i64 H, .slice A n c] 24)).alloc (.cells #[.int .i64 X, .int .i64 Y, .slice D m d] 24)) (w.heap.size + 1) X Y (.slice D m d) from by have h := Box.new (w.alloc (.cells #[.int .i64 W, .int .i64 H, .slice A n c] 24)) X Y (.slice D m d); rwa [World.size_alloc] at h)
  have LB0 := Lib.hid (show Below w.heap.size w ((w.alloc (.cells #[.int .i64 W, .int .i64 H, .slice A n c] 24)).alloc (.cells #[.int .i64 X, .int .i64 Y, .slice D m d] 24)) from ((Below.refl _ _).alloc (Nat.le_refl _) _).alloc (by simp) _)
  clear h1 h2 h3 h4 hr hs
  go_enter Try.func5, Try.ntmps5
  obtain ⟨q0, q1, q2, q3, q4, q5, q6⟩ := X0.out.all
  go_wp2_with fail
  clear q0 q1 q2 q3 q4 q5 q6
  refine (HG.out _).mono ?_
  rintro e w1 ⟨rfl, hb⟩
  have X1 := Lib.hid (X0.out.below hb X0.out.lt)
  have Y1 := Lib.hid (Y0.out.below hb Y0.out.lt)
  have LB1 := Lib.hid (LB0.out.trans (hb.mono LB0.out.size))
  clear hb X0 Y0 LB0
  obtain ⟨q0, q1, q2, q3, q4, q5, q6⟩ := Y1.out.all
  go_wp2_with fail
  clear q0 q1 q2 q3 q4 q5 q6
  refine (HH.out _).mono ?_
  rintro e w2 ⟨rfl, hb⟩
  have X2 := Lib.hid (X1.out.below hb X1.out.lt)
  have Y2 := Lib.hid (Y1.out.below hb Y1.out.lt)
  have LB2 := Lib.hid (LB1.out.trans (hb.mono LB1.out.size))
  clear hb X1 Y1 LB1
  obtain ⟨q0, q1, q2, q3, q4, q5, q6⟩ := X2.out.all
  go_wp2_with fail
  clear q0 q1 q2 q3 q4 q5 q6
  refine (twin_ws W H A n c f _ (by omega) (HR.out _ LB2.out)).mono ?_
  rintro e w3 ⟨E, e1, rfl, hwr, hb⟩
  have HB0 := Lib.hid (show w.heap.size ≤ w3.heap.size from Nat.le_trans LB2.out.size hb.size)
  have hba := (show Below _ _ (w3.alloc (.cells #[.int .i64 W, .int .i64 H, .slice E n e1] 24)) from hb.trans (((Below.refl _ _).alloc (Nat.le_refl _) _).mono hb.size))
  have T3 := Lib.hid (Box.new w3 W H (.slice E n e1))
  have Q3 := Lib.hid (hwr.next ((Below.refl _ _).alloc (Nat.le_refl _) (.cells #[.int .i64 W, .int .i64 H, .slice E n e1] 24)))
  clear hb hwr
  have X3 := Lib.hid (X2.out.below hba X2.out.lt)
  have Y3 := Lib.hid (Y2.out.below hba Y2.out.lt)
  have LB3 := Lib.hid (LB2.out.trans (hba.mono LB2.out.size))
  clear hba X2 Y2 LB2
  have HQ := Lib.hid (fun q (hq : E = some ⟨q, 0, none⟩) (h0 : 0 < n) => (show q < (w3.alloc (.cells #[.int .i64 W, .int .i64 H, .slice E n e1] 24)).heap.size by obtain ⟨q', e, _, r⟩ := Q3.out.h h0; rw [hq] at e; cases e; exact r.lt))
  have hT := T3.out.lt
  have hX := X3.out.lt
  obtain ⟨q0, q1, q2, q3, q4, q5, q6⟩ := X3.out.all
  go_wp2_with fail
  clear q0 q1 q2 q3 q4 q5 q6
  refine ((H1.out _ LB3.out).1).mono ?_
  rintro e w4 ⟨I, Id, rfl, hwr, hb⟩
  have HKI := Lib.hid (fun q (hq : I = some ⟨q, 0, none⟩) (h0 : 0 < N) => (show q < w4.heap.size by obtain ⟨q', e, _, r⟩ := hwr.h h0; rw [hq] at e; cases e; exact r.lt))
  have hba := (show Below _ _ (w4.alloc (.cells #[.int .i64 U, .int .i64 V, .slice I N Id] 24)) from hb.trans (((Below.refl _ _).alloc (Nat.le_refl _) _).mono hb.size))
  have Vc_4 := Lib.hid (Box.new w4 U V (.slice I N Id))
  have Rc_4 := Lib.hid (hwr.next ((Below.refl _ _).alloc (Nat.le_refl _) (.cells #[.int .i64 U, .int .i64 V, .slice I N Id] 24)))
  clear hb hwr
  have X4 := Lib.hid (X3.out.below hba X3.out.lt)
  have Y4 := Lib.hid (Y3.out.below hba Y3.out.lt)
  have LB4 := Lib.hid (LB3.out.trans (hba.mono LB3.out.size))
  have T4 := Lib.hid (T3.out.below hba T3.out.lt)
  have Q4 := Lib.hid (Q3.out.next hba)
  clear hba X3 Y3 LB3 T3 Q3
  obtain ⟨q0, q1, q2, q3, q4, q5, q6⟩ := X4.out.all
  go_wp2_with fail
  clear q0 q1 q2 q3 q4 q5 q6
  refine ((H1.out _ LB4.out).2).mono ?_
  rintro e w5 ⟨J, Jd, rfl, hwr, hb⟩
  have HKJ := Lib.hid (fun q (hq : J = some ⟨q, 0, none⟩) (h0 : 0 < N) => (show q < w5.heap.size by obtain ⟨q', e, _, r⟩ := hwr.h h0; rw [hq] at e; cases e; exact r.lt))
  have hba := (show Below _ _ (w5.alloc (.cells #[.int .i64 U, .int .i64 V, .slice J N Jd] 24)) from hb.trans (((Below.refl _ _).alloc (Nat.le_refl _) _).mono hb.size))
  have Vd_5 := Lib.hid (Box.new w5 U V (.slice J N Jd))
  have Rd_5 := Lib.hid (hwr.next ((Below.refl _ _).alloc (Nat.le_refl _) (.cells #[.int .i64 U, .int .i64 V, .slice J N Jd] 24)))
  clear hb hwr
  have X5 := Lib.hid (X4.out.below hba X4.out.lt)
  have Y5 := Lib.hid (Y4.out.below hba Y4.out.lt)
  have LB5 := Lib.hid (LB4.out.trans (hba.mono LB4.out.size))
  have T5 := Lib.hid (T4.out.below hba T4.out.lt)
  have Q5 := Lib.hid (Q4.out.next hba)
  have Vc_5 := Lib.hid (Vc_4.out.below hba Vc_4.out.lt)
  have Rc_5 := Lib.hid (Rc_4.out.next hba)
  clear hba X4 Y4 LB4 T4 Q4 Vc_4 Rc_4
  obtain ⟨q0, q1, q2, q3, q4, q5, q6⟩ := X5.out.all
  go_wp2_with fail
  clear q0 q1 q2 q3 q4 q5 q6
  refine ((H2.out _ LB5.out).1).mono ?_
  rintro e w6 ⟨K, Kd, rfl, hwr, hb⟩
  have HKK := Lib.hid (fun q (hq : K = some ⟨q, 0, none⟩) (h0 : 0 < N2) => (show q < w6.heap.size by obtain ⟨q', e, _, r⟩ := hwr.h h0; rw [hq] at e; cases e; exact r.lt))
  have hba := (show Below _ _ (w6.alloc (.cells #[.int .i64 U2, .int .i64 V2, .slice K N2 Kd] 24)) from hb.trans (((Below.refl _ _).alloc (Nat.le_refl _) _).mono hb.size))
  have Vg_6 := Lib.hid (Box.new w6 U2 V2 (.slice K N2 Kd))
  have Rg_6 := Lib.hid (hwr.next ((Below.refl _ _).alloc (Nat.le_refl _) (.cells #[.int .i64 U2, .int .i64 V2, .slice K N2 Kd] 24)))
  clear hb hwr
  have X6 := Lib.hid (X5.out.below hba X5.out.lt)
  have Y6 := Lib.hid (Y5.out.below hba Y5.out.lt)
  have LB6 := Lib.hid (LB5.out.trans (hba.mono LB5.out.size))
  have T6 := Lib.hid (T5.out.below hba T5.out.lt)
  have Q6 := Lib.hid (Q5.out.next hba)
  have Vc_6 := Lib.hid (Vc_5.out.below hba Vc_5.out.lt)
  have Rc_6 := Lib.hid (Rc_5.out.next hba)
  have Vd_6 := Lib.hid (Vd_5.out.below hba Vd_5.out.lt)
  have Rd_6 := Lib.hid (Rd_5.out.next hba)
  clear hba X5 Y5 LB5 T5 Q5 Vc_5 Rc_5 Vd_5 Rd_5
  obtain ⟨q0, q1, q2, q3, q4, q5, q6⟩ := X6.out.all
  go_wp2_with fail
  clear q0 q1 q2 q3 q4 q5 q6
  refine ((H2.out _ LB6.out).2).mono ?_
  rintro e w7 ⟨L, Ld, rfl, hwr, hb⟩
  have HKL := Lib.hid (fun q (hq : L = some ⟨q, 0, none⟩) (h0 : 0 < N2) => (show q < w7.heap.size by obtain ⟨q', e, _, r⟩ := hwr.h h0; rw [hq] at e; cases e; exact r.lt))
  have hba := (show Below _ _ (w7.alloc (.cells #[.int .i64 U2, .int .i64 V2, .slice L N2 Ld] 24)) from hb.trans (((Below.refl _ _).alloc (Nat.le_refl _) _).mono hb.size))
  have Vj_7 := Lib.hid (Box.new w7 U2 V2 (.slice L N2 Ld))
  have Rj_7 := Lib.hid (hwr.next ((Below.refl _ _).alloc (Nat.le_refl _) (.cells #[.int .i64 U2, .int .i64 V2, .slice L N2 Ld] 24)))
  clear hb hwr
  have X7 := Lib.hid (X6.out.below hba X6.out.lt)
  have Y7 := Lib.hid (Y6.out.below hba Y6.out.lt)
  have LB7 := Lib.hid (LB6.out.trans (hba.mono LB6.out.size))
  have T7 := Lib.hid (T6.out.below hba T6.out.lt)
  have Q7 := Lib.hid (Q6.out.next hba)
  have Vc_7 := Lib.hid (Vc_6.out.below hba Vc_6.out.lt)
  have Rc_7 := Lib.hid (Rc_6.out.next hba)
  have Vd_7 := Lib.hid (Vd_6.out.below hba Vd_6.out.lt)
  have Rd_7 := Lib.hid (Rd_6.out.next hba)
  have Vg_7 := Lib.hid (Vg_6.out.below hba Vg_6.out.lt)
  have Rg_7 := Lib.hid (Rg_6.out.next hba)
  clear hba X6 Y6 LB6 T6 Q6 Vc_6 Rc_6 Vd_6 Rd_6 Vg_6 Rg_6
  obtain ⟨q0, q1, q2, q3, q4, q5, q6⟩ := X7.out.all
  go_wp2_with fail
  clear q0 q1 q2 q3 q4 q5 q6
  refine ((H3.out _ LB7.out).1).mono ?_
  rintro e w8 ⟨rfl, hb⟩
  have X8 := Lib.hid (X7.out.below hb X7.out.lt)
  have Y8 := Lib.hid (Y7.out.below hb Y7.out.lt)
  have LB8 := Lib.hid (LB7.out.trans (hb.mono LB7.out.size))
  have T8 := Lib.hid (T7.out.below hb T7.out.lt)
  have Q8 := Lib.hid (Q7.out.next hb)
  have Vc_8 := Lib.hid (Vc_7.out.below hb Vc_7.out.lt)
  have Rc_8 := Lib.hid (Rc_7.out.next hb)
  have Vd_8 := Lib.hid (Vd_7.out.below hb Vd_7.out.lt)
  have Rd_8 := Lib.hid (Rd_7.out.next hb)
  have Vg_8 := Lib.hid (Vg_7.out.below hb Vg_7.out.lt)
  have Rg_8 := Lib.hid (Rg_7.out.next hb)
  have Vj_8 := Lib.hid (Vj_7.out.below hb Vj_7.out.lt)
  have Rj_8 := Lib.hid (Rj_7.out.next hb)
  clear hb X7 Y7 LB7 T7 Q7 Vc_7 Rc_7 Vd_7 Rd_7 Vg_7 Rg_7 Vj_7 Rj_7
  obtain ⟨q0, q1, q2, q3, q4, q5, q6⟩ := X8.out.all
  go_wp2_with fail
  clear q0 q1 q2 q3 q4 q5 q6
  refine ((H3.out _ LB8.out).2).mono ?_
  rintro e w9 ⟨rfl, hb⟩
  have X9 := Lib.hid (X8.out.below hb X8.out.lt)
  have Y9 := Lib.hid (Y8.out.below hb Y8.out.lt)
  have LB9 := Lib.hid (LB8.out.trans (hb.mono LB8.out.size))
  have T9 := Lib.hid (T8.out.below hb T8.out.lt)
  have Q9 := Lib.hid (Q8.out.next hb)
  have Vc_9 := Lib.hid (Vc_8.out.below hb Vc_8.out.lt)
  have Rc_9 := Lib.hid (Rc_8.out.next hb)
  have Vd_9 := Lib.hid (Vd_8.out.below hb Vd_8.out.lt)
  have Rd_9 := Lib.hid (Rd_8.out.next hb)
  have Vg_9 := Lib.hid (Vg_8.out.below hb Vg_8.out.lt)
  have Rg_9 := Lib.hid (Rg_8.out.next hb)
  have Vj_9 := Lib.hid (Vj_8.out.below hb Vj_8.out.lt)
  have Rj_9 := Lib.hid (Rj_8.out.next hb)
  clear hb X8 Y8 LB8 T8 Q8 Vc_8 Rc_8 Vd_8 Rd_8 Vg_8 Rg_8 Vj_8 Rj_8
  obtain ⟨q0, q1, q2, q3, q4, q5, q6⟩ := X9.out.all
  obtain ⟨r0, r1, r2, r3, r4, r5, r6⟩ := Y9.out.all
  go_wp2_with fail
  clear q0 q1 q2 q3 q4 q5 q6 r0 r1 r2 r3 r4 r5 r6
  refine ((H4.out _ LB9.out).1).mono ?_
  rintro e w10 ⟨rfl, hb⟩
  have hba := (show Below _ _ (w10.alloc (.cells #[.int .i64 oa, .int .i64 ob] 40)) from hb.trans (((Below.refl _ _).alloc (Nat.le_refl _) _).mono hb.size))
  have Pa10 := Lib.hid (Pt.new w10 oa ob)
  clear hb
  have X10 := Lib.hid (X9.out.below hba X9.out.lt)
  have Y10 := Lib.hid (Y9.out.below hba Y9.out.lt)
  have LB10 := Lib.hid (LB9.out.trans (hba.mono LB9.out.size))
  have T10 := Lib.hid (T9.out.below hba T9.out.lt)
  have Q10 := Lib.hid (Q9.out.next hba)
  have Vc_10 := Lib.hid (Vc_9.out.below hba Vc_9.out.lt)
  have Rc_10 := Lib.hid (Rc_9.out.next hba)
  have Vd_10 := Lib.hid (Vd_9.out.below hba Vd_9.out.lt)
  have Rd_10 := Lib.hid (Rd_9.out.next hba)
  have Vg_10 := Lib.hid (Vg_9.out.below hba Vg_9.out.lt)
  have Rg_10 := Lib.hid (Rg_9.out.next hba)
  have Vj_10 := Lib.hid (Vj_9.out.below hba Vj_9.out.lt)
  have Rj_10 := Lib.hid (Rj_9.out.next hba)
  clear hba X9 Y9 LB9 T9 Q9 Vc_9 Rc_9 Vd_9 Rd_9 Vg_9 Rg_9 Vj_9 Rj_9
  obtain ⟨q0, q1, q2, q3, q4, q5, q6⟩ := X10.out.all
  obtain ⟨r0, r1, r2, r3, r4, r5, r6⟩ := Y10.out.all
  go_wp2_with fail
  clear q0 q1 q2 q3 q4 q5 q6 r0 r1 r2 r3 r4 r5 r6
  refine ((H4.out _ LB10.out).2).mono ?_
  rintro e w11 ⟨rfl, hb⟩
  have hba := (show Below _ _ (w11.alloc (.cells #[.int .i64 oa, .int .i64 ob] 40)) from hb.trans (((Below.refl _ _).alloc (Nat.le_refl _) _).mono hb.size))
  have Pb11 := Lib.hid (Pt.new w11 oa ob)
  clear hb
  have X11 := Lib.hid (X10.out.below hba X10.out.lt)
  have Y11 := Lib.hid (Y10.out.below hba Y10.out.lt)
  have LB11 := Lib.hid (LB10.out.trans (hba.mono LB10.out.size))
  have T11 := Lib.hid (T10.out.below hba T10.out.lt)
  have Q11 := Lib.hid (Q10.out.next hba)
  have Vc_11 := Lib.hid (Vc_10.out.below hba Vc_10.out.lt)
  have Rc_11 := Lib.hid (Rc_10.out.next hba)
  have Vd_11 := Lib.hid (Vd_10.out.below hba Vd_10.out.lt)
  have Rd_11 := Lib.hid (Rd_10.out.next hba)
  have Vg_11 := Lib.hid (Vg_10.out.below hba Vg_10.out.lt)
  have Rg_11 := Lib.hid (Rg_10.out.next hba)
  have Vj_11 := Lib.hid (Vj_10.out.below hba Vj_10.out.lt)
  have Rj_11 := Lib.hid (Rj_10.out.next hba)
  have Pa11 := Lib.hid (Pa10.out.below hba Pa10.out.lt)
  clear hba X10 Y10 LB10 T10 Q10 Vc_10 Rc_10 Vd_10 Rd_10 Vg_10 Rg_10 Vj_10 Rj_10 Pa10
  obtain ⟨q0, q1, q2, q3, q4, q5, q6⟩ := Vc_11.out.all
  obtain ⟨r0, r1, r2, r3, r4, r5, r6⟩ := Vd_11.out.all
  go_wp2_with fail
  clear q0 q1 q2 q3 q4 q5 q6 r0 r1 r2 r3 r4 r5 r6
  refine (rsame_se U V I J N Id Jd F _ (by omega) Rc_11.out.holds Rd_11.out.holds).mono ?_
  rintro e w12 ⟨rfl, hb⟩
  have X12 := Lib.hid (X11.out.below hb X11.out.lt)
  have Y12 := Lib.hid (Y11.out.below hb Y11.out.lt)
  have LB12 := Lib.hid (LB11.out.trans (hb.mono LB11.out.size))
  have T12 := Lib.hid (T11.out.below hb T11.out.lt)
  have Q12 := Lib.hid (Q11.out.next hb)
  have Vc_12 := Lib.hid (Vc_11.out.below hb Vc_11.out.lt)
  have Rc_12 := Lib.hid (Rc_11.out.next hb)
  have Vd_12 := Lib.hid (Vd_11.out.below hb Vd_11.out.lt)
  have Rd_12 := Lib.hid (Rd_11.out.next hb)
  have Vg_12 := Lib.hid (Vg_11.out.below hb Vg_11.out.lt)
  have Rg_12 := Lib.hid (Rg_11.out.next hb)
  have Vj_12 := Lib.hid (Vj_11.out.below hb Vj_11.out.lt)
  have Rj_12 := Lib.hid (Rj_11.out.next hb)
  have Pa12 := Lib.hid (Pa11.out.below hb Pa11.out.lt)
  have Pb12 := Lib.hid (Pb11.out.below hb Pb11.out.lt)
  clear hb X11 Y11 LB11 T11 Q11 Vc_11 Rc_11 Vd_11 Rd_11 Vg_11 Rg_11 Vj_11 Rj_11 Pa11 Pb11
  clear Vd_12
  clear Rd_12
  have s1 : (z1 != z1) = false := by simp
  have s2 : (z2 != z2) = false := by simp
  have s3 : (z3 != z3) = false := by simp
  have s4 : (z4 != z4) = false := by simp
  have s5 : (ra != ra) = false := by simp
  have s6 : (rb != rb) = false := by simp
  obtain ⟨q0, q1, q2, q3, q4, q5, q6⟩ := Vg_12.out.all
  obtain ⟨r0, r1, r2, r3, r4, r5, r6⟩ := Vj_12.out.all
  go_wp2_with fail
  clear q0 q1 q2 q3 q4 q5 q6 r0 r1 r2 r3 r4 r5 r6
  refine (rsame_se U2 V2 K L N2 Kd Ld F2 _ (by omega) Rg_12.out.holds Rj_12.out.holds).mono ?_
  rintro e w13 ⟨rfl, hb⟩
  have X13 := Lib.hid (X12.out.below hb X12.out.lt)
  have Y13 := Lib.hid (Y12.out.below hb Y12.out.lt)
  have LB13 := Lib.hid (LB12.out.trans (hb.mono LB12.out.size))
  have T13 := Lib.hid (T12.out.below hb T12.out.lt)
  have Q13 := Lib.hid (Q12.out.next hb)
  have Vc_13 := Lib.hid (Vc_12.out.below hb Vc_12.out.lt)
  have Rc_13 := Lib.hid (Rc_12.out.next hb)
  have Vg_13 := Lib.hid (Vg_12.out.below hb Vg_12.out.lt)
  have Rg_13 := Lib.hid (Rg_12.out.next hb)
  have Vj_13 := Lib.hid (Vj_12.out.below hb Vj_12.out.lt)
  have Rj_13 := Lib.hid (Rj_12.out.next hb)
  have Pa13 := Lib.hid (Pa12.out.below hb Pa12.out.lt)
  have Pb13 := Lib.hid (Pb12.out.below hb Pb12.out.lt)
  clear hb X12 Y12 LB12 T12 Q12 Vc_12 Rc_12 Vg_12 Rg_12 Vj_12 Rj_12 Pa12 Pb12
  clear Vg_13
  clear Rg_13
  clear Vj_13
  clear Rj_13
  clear Y13
  rcases Nat.eq_zero_or_pos N with h0 | h0
  · skip
    have HN0 := Lib.hid h0
    subst h0
    obtain ⟨q0, q1, q2, q3, q4, q5, q6⟩ := Vc_13.out.all
    obtain ⟨r0, r1, r2, r3⟩ := Pa13.out.all
    obtain ⟨s0, s1, s2, s3⟩ := Pb13.out.all
    go_wp2
    clear q0 q1 q2 q3 q4 q5 q6 r0 r1 r2 r3 s0 s1 s2 s3
    refine wp_loop_rounds 1 ?_
    rw [rounds_succ]
    obtain ⟨q0, q1, q2, q3, q4, q5, q6⟩ := Vc_13.out.all
    obtain ⟨r0, r1, r2, r3, r4, r5, r6⟩ := X13.out.all
    obtain ⟨s0, s1, s2, s3, s4, s5, s6⟩ := T13.out.all
    go_wp2_with fail
    clear q0 q1 q2 q3 q4 q5 q6 r0 r1 r2 r3 r4 r5 r6 s0 s1 s2 s3 s4 s5 s6
    refine (rsame_se W H A E n c e1 f _ (by omega) (HR.out _ LB13.out) Q13.out.holds).mono ?_
    rintro e w14 ⟨rfl, hb⟩
    have X14 := Lib.hid (X13.out.below hb X13.out.lt)
    have LB14 := Lib.hid (LB13.out.trans (hb.mono LB13.out.size))
    have T14 := Lib.hid (T13.out.below hb T13.out.lt)
    have Q14 := Lib.hid (Q13.out.next hb)
    have Vc_14 := Lib.hid (Vc_13.out.below hb Vc_13.out.lt)
    have Rc_14 := Lib.hid (Rc_13.out.next hb)
    have Pa14 := Lib.hid (Pa13.out.below hb Pa13.out.lt)
    have Pb14 := Lib.hid (Pb13.out.below hb Pb13.out.lt)
    clear hb X13 LB13 T13 Q13 Vc_13 Rc_13 Pa13 Pb13
    go_wp2
    go_ret
    exact ⟨rfl, LB14.out⟩
  · skip
    obtain ⟨kk, rfl, hkk, hrow⟩ := Rc_13.out.h h0
    have hkk2 : w3.heap.size + 1 ≤ kk := by simpa using hkk
    have hk8 := HKI.out kk rfl h0
    have hb0 := HB0.out
    have F0 := Lib.hid (show FS w w13 w.heap.size w3.heap.size w4.heap.size W H A n c E e1 f U V N kk Id F from
      ⟨X13.out, T13.out, Vc_13.out, hrow, fun hn => by
        obtain ⟨q, e, _, r⟩ := Q13.out.h hn
        exact ⟨q, e, by have h5 := HQ.out q e hn; simp at h5; omega, r⟩, LB13.out, by omega, by omega, by omega, by omega⟩)
    obtain ⟨q0, q1, q2, q3⟩ := Pa13.out.all
    obtain ⟨r0, r1, r2, r3⟩ := Pb13.out.all
    go_wp2_with fail
    clear q0 q1 q2 q3 r0 r1 r2 r3
    go_loopw [30] (fun i wr => ∃ x : Nat, x ≤ N ∧ i = .int .i64 x ∧ Hid (∃ F', FS w wr w.heap.size w3.heap.size w4.heap.size W H A n c E e1 f U V N kk Id F')) (fun i _ => N - (intOf i).toNat)
    case atStart => exact ⟨0, Nat.zero_le _, rfl, Lib.hid ⟨F, F0.out⟩⟩
    case round =>
      obtain ⟨x, hx, rfl, hS⟩ := hrel
      obtain ⟨F', hS⟩ := hS.out
      have HS := Lib.hid hS
      clear hS
      obtain ⟨q0, q1, q2, q3, q4, q5, q6⟩ := HS.out.cx.all
      by_cases hlx : x < N
      · have x1 : decide ((x : Int) < (N : Int)) = true := by simp; omega
        have r1 := HS.out.row.cell hlx
        have r2 := HS.out.row.free x
        have r3 := HS.out.row.lt
        have b1 : (x : Int) < (N : Int) := by omega
        generalize hb : F' x = bx at *
        clear hb
        go_wp2
        go_still_tail 10, (by kernel_rfl)
        change wpList _ _ _ _ _ wr.drew
        go_wp2
        exact ⟨⟨x + 1, by omega, by go_num, Lib.hid ⟨_, HS.out.put x (!bx)⟩⟩, by simp [intOf]; omega⟩
      · have e : x = N := by omega
        have x1 : decide ((x : Int) < (N : Int)) = false := by simp; omega
        obtain ⟨p0, p1, p2, p3, p4, p5, p6⟩ := HS.out.gx.all
        obtain ⟨s0, s1_, s2_, s3_, s4_, s5_, s6⟩ := HS.out.wx.all
        go_wp2_with fail
        refine (rsame_se W H A E n c e1 f _ (by omega) (HR.out _ HS.out.bel) HS.out.holds).mono ?_
        rintro e2 w99 ⟨rfl, hb⟩
        have HL := Lib.hid (HS.out.bel.trans (hb.mono HS.out.bel.size))
        clear hb
        go_wp2
        go_ret
        exact ⟨rfl, HL.out⟩
theorem cells_any (W H X Y : Int) (A D : Option Addr) (n c m d : Nat) (by_ u v : Int) (w : World) (f g : Nat → Bool) (hr : Holds w w.heap.size A n f) (hs : Holds w w.heap.size D m g) (hc : n ≤ c) (hd : m ≤ d) : Calls Try.prog 5 #[.agg #[.int .i64 W, .int .i64 H, .slice A n c], .agg #[.int .i64 X, .int .i64 Y, .slice D m d], .int .i64 by_, .int .i64 u, .int .i64 v] w fun e w' => e = .returned (.bool true) ∧ Below w.heap.size w w' := by
  by_cases h : 100 < n
  · exact cells_g1 W H X Y A D n c m d by_ u v w h
  by_cases h2 : 100 < m
  · exact cells_g2 W H X Y A D n c m d by_ u v w (by omega) h2
  · exact cells_main W H X Y A D n c m d by_ u v w f g hr hs (by omega) (by omega) hc hd
end Go.Proofs.Ytjbofdgdcnfmoaa
