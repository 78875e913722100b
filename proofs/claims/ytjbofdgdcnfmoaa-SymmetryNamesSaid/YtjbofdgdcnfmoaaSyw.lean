/- The statement SymmetryApplies: the walk. -/
import Derived.Test.YtjbofdgdcnfmoaaSyg
namespace Go.Proofs.Ytjbofdgdcnfmoaa
open Go.RowKit
set_option maxRecDepth 100000
set_option linter.unusedVariables false
set_option linter.unusedSimpArgs false

/-- A slice that a call has made, or of no elements. -/
structure WR (v : World) (lo : Nat) (D : Option Addr) (n : Nat) (f : Nat → Bool) : Prop where
  h : 0 < n → ∃ k, D = some ⟨k, 0, none⟩ ∧ lo ≤ k ∧ Row v k n f
theorem WR.next {v v' : World} {lo : Nat} {D : Option Addr} {n : Nat} {f : Nat → Bool} (h : WR v lo D n f) (hb : Below v.heap.size v v') : WR v' lo D n f := ⟨fun hn => (h.h hn).imp fun _ ⟨a, b, c⟩ => ⟨a, b, c.below hb c.lt⟩⟩
theorem WR.holds {v : World} {lo : Nat} {D : Option Addr} {n : Nat} {f : Nat → Bool} (h : WR v lo D n f) : Holds v v.heap.size D n f := fun hn => by
  obtain ⟨k, rfl, _, hr⟩ := h.h hn
  exact hr.holds hr.lt hn
theorem twin_wr (W H : Int) (A : Option Addr) (n c : Nat) (f : Nat → Bool) (w : World) (hn : n ≤ 4200) (hr : Holds w w.heap.size A n f) :
    Calls Try.prog 33 #[.agg #[.int .i64 W, .int .i64 H, .slice A n c]] w fun e w' => ∃ D d, e = .returned (.agg #[.int .i64 W, .int .i64 H, .slice D n d]) ∧ WR w' w.heap.size D n f ∧ Below w.heap.size w w' := by
  rcases Nat.eq_zero_or_pos n with rfl | h0
  · exact (twin_none W H A c w).mono fun e w' ⟨k, he, hb⟩ => ⟨_, _, he, ⟨fun h => absurd h (by omega)⟩, hb⟩
  · exact (twin_some W H A n c f w hn h0 hr).mono fun e w' ⟨k, d, he, hk, hrow, hb⟩ => ⟨_, _, he, ⟨fun _ => ⟨k, rfl, hk, hrow⟩⟩, hb⟩
theorem rsame_self (W H : Int) (A D : Option Addr) (n c d : Nat) (f : Nat → Bool) (w : World) (hn : n ≤ 5000) (h1 : Holds w w.heap.size A n f) (h2 : Holds w w.heap.size D n f) :
    Calls Try.prog 39 #[.agg #[.int .i64 W, .int .i64 H, .slice A n c], .agg #[.int .i64 W, .int .i64 H, .slice D n d]] w fun e w' => e = .returned (.bool true) ∧ Below w.heap.size w w' :=
  (rsame_loop W H W H A D n c d f f w hn rfl rfl h1 h2).mono fun e w' ⟨a, b⟩ => ⟨by rw [a]; exact ret_bool (by simp), b⟩
/-- What lies while the result's cells are turned over. -/
structure FR (w wr : World) (g3 g7 g8 : Nat) (W H : Int) (A : Option Addr) (n c : Nat) (D : Option Addr) (d : Nat) (f : Nat → Bool) (U V N k dd : Nat) (F : Nat → Bool) : Prop where
  gx : Box wr g3 W H (.slice A n c)
  wx : Box wr g7 W H (.slice D n d)
  cx : Box wr g8 U V (.slice (some ⟨k, 0, none⟩) N dd)
  row : Row wr k N F
  was : 0 < n → ∃ q, D = some ⟨q, 0, none⟩ ∧ q ≠ k ∧ Row wr q n f
  bel : Below w.heap.size w wr
  k0 : w.heap.size ≤ k
  n3 : g3 ≠ k
  n7 : g7 ≠ k
  n8 : g8 ≠ k
theorem FR.put {w wr : World} {g3 g7 g8 : Nat} {W H : Int} {A : Option Addr} {n c : Nat} {D : Option Addr} {d : Nat} {f : Nat → Bool} {U V N k dd : Nat} {F : Nat → Bool} (h : FR w wr g3 g7 g8 W H A n c D d f U V N k dd F) (x : Nat) (b : Bool) :
    FR w (wr.setCell ⟨k, x, none⟩ (.bool b)).drew g3 g7 g8 W H A n c D d f U V N k dd (fun j => if j = x then b else F j) :=
  ⟨(h.gx.far h.n3 _).drew, (h.wx.far h.n7 _).drew, (h.cx.far h.n8 _).drew, (h.row.set_ x b).drew, fun hn => (h.was hn).imp fun _ ⟨p, q, r⟩ => ⟨p, q, (r.far q _).drew⟩, (h.bel.setCell h.k0 _).drew, h.k0, h.n3, h.n7, h.n8⟩
theorem FR.holds {w wr : World} {g3 g7 g8 : Nat} {W H : Int} {A : Option Addr} {n c : Nat} {D : Option Addr} {d : Nat} {f : Nat → Bool} {U V N k dd : Nat} {F : Nat → Bool} (h : FR w wr g3 g7 g8 W H A n c D d f U V N k dd F) : Holds wr wr.heap.size D n f := fun hn => by
  obtain ⟨q, rfl, _, hr⟩ := h.was hn
  exact hr.holds hr.lt hn
set_option maxHeartbeats 400000 in
theorem sa_great (W H : Int) (A : Option Addr) (n c : Nat) (a b : Int) (w : World) (hg : ∀ w, Calls Try.prog 57 #[.agg #[.int .i64 W, .int .i64 H, .slice A n c]] w fun e w' => e = .returned (.bool true) ∧ Below w.heap.size w w') :
    Calls Try.prog 11 #[.agg #[.int .i64 W, .int .i64 H, .slice A n c], .int .i64 a, .int .i64 b] w fun e w' => e = .returned (.bool true) ∧ Below w.heap.size w w' := by
  have HG := Lib.hid hg
  have X0 := Lib.hid (Box.new w W H (.slice A n c))
  have LB0 := Lib.hid (show Below w.heap.size w (w.alloc (.cells #[.int .i64 W, .int .i64 H, .slice A n c] 24)) from (Below.refl _ _).alloc (Nat.le_refl _) _)
  clear hg
  go_enter Try.func11, Try.ntmps11
  obtain ⟨q0, q1, q2, q3, q4, q5, q6⟩ := X0.out.all
  go_wp2_with fail
  clear q0 q1 q2 q3 q4 q5 q6
  refine (HG.out _).mono ?_
  rintro e w1 ⟨rfl, hb⟩
  have X1 := Lib.hid (X0.out.below hb X0.out.lt)
  have LB1 := Lib.hid (LB0.out.trans (hb.mono LB0.out.size))
  clear hb X0 LB0
  go_wp2
  go_ret
  exact ⟨rfl, LB1.out⟩
set_option maxHeartbeats 3200000 in
theorem sa_main (W H : Int) (A : Option Addr) (n c : Nat) (f : Nat → Bool) (a b : Int) (w : World) (hr : Holds w w.heap.size A n f) (hn : n ≤ 500) (hg : ∀ w, Calls Try.prog 57 #[.agg #[.int .i64 W, .int .i64 H, .slice A n c]] w fun e w' => e = .returned (.bool false) ∧ Below w.heap.size w w') :
    Calls Try.prog 11 #[.agg #[.int .i64 W, .int .i64 H, .slice A n c], .int .i64 a, .int .i64 b] w fun e w' => e = .returned (.bool true) ∧ Below w.heap.size w w' := by
  obtain ⟨G, z, hG, hap⟩ := ap_two W H A n c f a w hr (by omega)
  obtain ⟨x1, y1, hc⟩ := comp_two a b
  obtain ⟨x2, y2, hi⟩ := inv_two a
  have HG := Lib.hid hg
  have HR := Lib.hid (fun v (h : Below w.heap.size w v) => (hr.below h).more h.size)
  have HA := Lib.hid hap
  have HC := Lib.hid hc
  have HI := Lib.hid hi
  obtain ⟨U, hU⟩ : ∃ U, G.W = U := ⟨_, rfl⟩
  obtain ⟨V, hV⟩ : ∃ V, G.H = V := ⟨_, rfl⟩
  obtain ⟨N, hN⟩ : ∃ N, G.W * G.H = N := ⟨_, rfl⟩
  obtain ⟨F, hF⟩ : ∃ F, G.f = F := ⟨_, rfl⟩
  have HA := Lib.hid (fun v (h : Below w.heap.size w v) => (show (Calls Try.prog 47 #[.agg #[.int .i64 W, .int .i64 H, .slice A n c], .int .i64 a] v fun e w' => ∃ B d, e = .returned (.tuple #[.agg #[.int .i64 (U : Nat), .int .i64 (V : Nat), .slice B N d], .int .i64 z]) ∧ WR w' v.heap.size B N F ∧ Below v.heap.size v w') ∧ (Calls Try.prog 58 #[.agg #[.int .i64 W, .int .i64 H, .slice A n c], .int .i64 a] v fun e w' => ∃ B d, e = .returned (.tuple #[.agg #[.int .i64 (U : Nat), .int .i64 (V : Nat), .slice B N d], .int .i64 z]) ∧ WR w' v.heap.size B N F ∧ Below v.heap.size v w') by
    have h2 := HA.out v (HR.out v h)
    subst hU hV hN hF
    exact ⟨h2.1.mono fun e w' ⟨B, d, e1, e2, e3⟩ => ⟨B, d, e1, ⟨e2⟩, e3⟩, h2.2.mono fun e w' ⟨B, d, e1, e2, e3⟩ => ⟨B, d, e1, ⟨e2⟩, e3⟩⟩))
  have hN4 : N ≤ 4200 := by rw [← hN]; exact hG
  have X0 := Lib.hid (Box.new w W H (.slice A n c))
  have LB0 := Lib.hid (show Below w.heap.size w (w.alloc (.cells #[.int .i64 W, .int .i64 H, .slice A n c] 24)) from (Below.refl _ _).alloc (Nat.le_refl _) _)
  clear hg hr hap hc hi hU hV hN hF hG
  go_enter Try.func11, Try.ntmps11
  obtain ⟨q0, q1, q2, q3, q4, q5, q6⟩ := X0.out.all
  go_wp2_with fail
  clear q0 q1 q2 q3 q4 q5 q6
  refine (HG.out _).mono ?_
  rintro e w1 ⟨rfl, hb⟩
  have X1 := Lib.hid (X0.out.below hb X0.out.lt)
  have LB1 := Lib.hid (LB0.out.trans (hb.mono LB0.out.size))
  clear hb X0 LB0
  obtain ⟨q0, q1, q2, q3, q4, q5, q6⟩ := X1.out.all
  go_wp2_with fail
  clear q0 q1 q2 q3 q4 q5 q6
  refine (twin_wr W H A n c f _ (by omega) (HR.out _ LB1.out)).mono ?_
  rintro e w2 ⟨D, d, rfl, hwr, hb⟩
  have HB0 := Lib.hid (show w.heap.size ≤ w2.heap.size from Nat.le_trans LB1.out.size hb.size)
  have hba := (show Below _ _ (w2.alloc (.cells #[.int .i64 W, .int .i64 H, .slice D n d] 24)) from hb.trans (((Below.refl _ _).alloc (Nat.le_refl _) _).mono hb.size))
  have T2 := Lib.hid (Box.new w2 W H (.slice D n d))
  have Q2 := Lib.hid (hwr.next ((Below.refl _ _).alloc (Nat.le_refl _) (.cells #[.int .i64 W, .int .i64 H, .slice D n d] 24)))
  clear hb hwr
  have X2 := Lib.hid (X1.out.below hba X1.out.lt)
  have LB2 := Lib.hid (LB1.out.trans (hba.mono LB1.out.size))
  clear hba X1 LB1
  have HQ := Lib.hid (fun q (hq : D = some ⟨q, 0, none⟩) (h0 : 0 < n) => (show q < (w2.alloc (.cells #[.int .i64 W, .int .i64 H, .slice D n d] 24)).heap.size by obtain ⟨q', e, _, r⟩ := Q2.out.h h0; rw [hq] at e; cases e; exact r.lt))
  have hT := T2.out.lt
  have hX := X2.out.lt
  obtain ⟨q0, q1, q2, q3, q4, q5, q6⟩ := X2.out.all
  go_wp2_with fail
  clear q0 q1 q2 q3 q4 q5 q6
  refine ((HA.out _ LB2.out).1).mono ?_
  rintro e w3 ⟨B, Bd, rfl, hwr, hb⟩
  have HKB := Lib.hid (fun q (hq : B = some ⟨q, 0, none⟩) (h0 : 0 < N) => (show q < w3.heap.size by obtain ⟨q', e, _, r⟩ := hwr.h h0; rw [hq] at e; cases e; exact r.lt))
  have hba := (show Below _ _ (w3.alloc (.cells #[.int .i64 (U : Nat), .int .i64 (V : Nat), .slice B N Bd] 24)) from hb.trans (((Below.refl _ _).alloc (Nat.le_refl _) _).mono hb.size))
  have Vc_3 := Lib.hid (Box.new w3 U V (.slice B N Bd))
  have Rc_3 := Lib.hid (hwr.next ((Below.refl _ _).alloc (Nat.le_refl _) (.cells #[.int .i64 (U : Nat), .int .i64 (V : Nat), .slice B N Bd] 24)))
  clear hb hwr
  have X3 := Lib.hid (X2.out.below hba X2.out.lt)
  have LB3 := Lib.hid (LB2.out.trans (hba.mono LB2.out.size))
  have T3 := Lib.hid (T2.out.below hba T2.out.lt)
  have Q3 := Lib.hid (Q2.out.next hba)
  clear hba X2 LB2 T2 Q2
  obtain ⟨q0, q1, q2, q3, q4, q5, q6⟩ := X3.out.all
  go_wp2_with fail
  clear q0 q1 q2 q3 q4 q5 q6
  refine ((HA.out _ LB3.out).2).mono ?_
  rintro e w4 ⟨E, Ed, rfl, hwr, hb⟩
  have HKE := Lib.hid (fun q (hq : E = some ⟨q, 0, none⟩) (h0 : 0 < N) => (show q < w4.heap.size by obtain ⟨q', e, _, r⟩ := hwr.h h0; rw [hq] at e; cases e; exact r.lt))
  have hba := (show Below _ _ (w4.alloc (.cells #[.int .i64 (U : Nat), .int .i64 (V : Nat), .slice E N Ed] 24)) from hb.trans (((Below.refl _ _).alloc (Nat.le_refl _) _).mono hb.size))
  have Vd_4 := Lib.hid (Box.new w4 U V (.slice E N Ed))
  have Rd_4 := Lib.hid (hwr.next ((Below.refl _ _).alloc (Nat.le_refl _) (.cells #[.int .i64 (U : Nat), .int .i64 (V : Nat), .slice E N Ed] 24)))
  clear hb hwr
  have X4 := Lib.hid (X3.out.below hba X3.out.lt)
  have LB4 := Lib.hid (LB3.out.trans (hba.mono LB3.out.size))
  have T4 := Lib.hid (T3.out.below hba T3.out.lt)
  have Q4 := Lib.hid (Q3.out.next hba)
  have Vc_4 := Lib.hid (Vc_3.out.below hba Vc_3.out.lt)
  have Rc_4 := Lib.hid (Rc_3.out.next hba)
  clear hba X3 LB3 T3 Q3 Vc_3 Rc_3
  go_wp2_with fail
  refine ((HC.out _).1).mono ?_
  rintro e w5 ⟨rfl, hb⟩
  have X5 := Lib.hid (X4.out.below hb X4.out.lt)
  have LB5 := Lib.hid (LB4.out.trans (hb.mono LB4.out.size))
  have T5 := Lib.hid (T4.out.below hb T4.out.lt)
  have Q5 := Lib.hid (Q4.out.next hb)
  have Vc_5 := Lib.hid (Vc_4.out.below hb Vc_4.out.lt)
  have Rc_5 := Lib.hid (Rc_4.out.next hb)
  have Vd_5 := Lib.hid (Vd_4.out.below hb Vd_4.out.lt)
  have Rd_5 := Lib.hid (Rd_4.out.next hb)
  clear hb X4 LB4 T4 Q4 Vc_4 Rc_4 Vd_4 Rd_4
  go_wp2_with fail
  refine ((HC.out _).2).mono ?_
  rintro e w6 ⟨rfl, hb⟩
  have X6 := Lib.hid (X5.out.below hb X5.out.lt)
  have LB6 := Lib.hid (LB5.out.trans (hb.mono LB5.out.size))
  have T6 := Lib.hid (T5.out.below hb T5.out.lt)
  have Q6 := Lib.hid (Q5.out.next hb)
  have Vc_6 := Lib.hid (Vc_5.out.below hb Vc_5.out.lt)
  have Rc_6 := Lib.hid (Rc_5.out.next hb)
  have Vd_6 := Lib.hid (Vd_5.out.below hb Vd_5.out.lt)
  have Rd_6 := Lib.hid (Rd_5.out.next hb)
  clear hb X5 LB5 T5 Q5 Vc_5 Rc_5 Vd_5 Rd_5
  go_wp2_with fail
  refine ((HI.out _).1).mono ?_
  rintro e w7 ⟨rfl, hb⟩
  have X7 := Lib.hid (X6.out.below hb X6.out.lt)
  have LB7 := Lib.hid (LB6.out.trans (hb.mono LB6.out.size))
  have T7 := Lib.hid (T6.out.below hb T6.out.lt)
  have Q7 := Lib.hid (Q6.out.next hb)
  have Vc_7 := Lib.hid (Vc_6.out.below hb Vc_6.out.lt)
  have Rc_7 := Lib.hid (Rc_6.out.next hb)
  have Vd_7 := Lib.hid (Vd_6.out.below hb Vd_6.out.lt)
  have Rd_7 := Lib.hid (Rd_6.out.next hb)
  clear hb X6 LB6 T6 Q6 Vc_6 Rc_6 Vd_6 Rd_6
  go_wp2_with fail
  refine ((HI.out _).2).mono ?_
  rintro e w8 ⟨rfl, hb⟩
  have X8 := Lib.hid (X7.out.below hb X7.out.lt)
  have LB8 := Lib.hid (LB7.out.trans (hb.mono LB7.out.size))
  have T8 := Lib.hid (T7.out.below hb T7.out.lt)
  have Q8 := Lib.hid (Q7.out.next hb)
  have Vc_8 := Lib.hid (Vc_7.out.below hb Vc_7.out.lt)
  have Rc_8 := Lib.hid (Rc_7.out.next hb)
  have Vd_8 := Lib.hid (Vd_7.out.below hb Vd_7.out.lt)
  have Rd_8 := Lib.hid (Rd_7.out.next hb)
  clear hb X7 LB7 T7 Q7 Vc_7 Rc_7 Vd_7 Rd_7
  obtain ⟨q0, q1, q2, q3, q4, q5, q6⟩ := Vc_8.out.all
  obtain ⟨r0, r1, r2, r3, r4, r5, r6⟩ := Vd_8.out.all
  go_wp2_with fail
  clear q0 q1 q2 q3 q4 q5 q6 r0 r1 r2 r3 r4 r5 r6
  refine (rsame_self U V B E N Bd Ed F _ (by omega) Rc_8.out.holds Rd_8.out.holds).mono ?_
  rintro e w9 ⟨rfl, hb⟩
  have X9 := Lib.hid (X8.out.below hb X8.out.lt)
  have LB9 := Lib.hid (LB8.out.trans (hb.mono LB8.out.size))
  have T9 := Lib.hid (T8.out.below hb T8.out.lt)
  have Q9 := Lib.hid (Q8.out.next hb)
  have Vc_9 := Lib.hid (Vc_8.out.below hb Vc_8.out.lt)
  have Rc_9 := Lib.hid (Rc_8.out.next hb)
  have Vd_9 := Lib.hid (Vd_8.out.below hb Vd_8.out.lt)
  have Rd_9 := Lib.hid (Rd_8.out.next hb)
  clear hb X8 LB8 T8 Q8 Vc_8 Rc_8 Vd_8 Rd_8
  clear Vd_9
  clear Rd_9
  have s1 : (z != z) = false := by simp
  have s2 : (x1 != x1) = false := by simp
  have s3 : (y1 != y1) = false := by simp
  have s4 : (x2 != x2) = false := by simp
  have s5 : (y2 != y2) = false := by simp
  rcases Nat.eq_zero_or_pos N with h0 | h0
  · skip
    have HN0 := Lib.hid h0
    subst h0
    obtain ⟨q0, q1, q2, q3, q4, q5, q6⟩ := Vc_9.out.all
    go_wp2
    clear q0 q1 q2 q3 q4 q5 q6
    refine wp_loop_rounds 1 ?_
    rw [rounds_succ]
    obtain ⟨q0, q1, q2, q3, q4, q5, q6⟩ := Vc_9.out.all
    obtain ⟨r0, r1, r2, r3, r4, r5, r6⟩ := X9.out.all
    obtain ⟨s0, s1, s2, s3, s4, s5, s6⟩ := T9.out.all
    go_wp2_with fail
    clear q0 q1 q2 q3 q4 q5 q6 r0 r1 r2 r3 r4 r5 r6 s0 s1 s2 s3 s4 s5 s6
    refine (rsame_self W H A D n c d f _ (by omega) (HR.out _ LB9.out) Q9.out.holds).mono ?_
    rintro e w10 ⟨rfl, hb⟩
    have X10 := Lib.hid (X9.out.below hb X9.out.lt)
    have LB10 := Lib.hid (LB9.out.trans (hb.mono LB9.out.size))
    have T10 := Lib.hid (T9.out.below hb T9.out.lt)
    have Q10 := Lib.hid (Q9.out.next hb)
    have Vc_10 := Lib.hid (Vc_9.out.below hb Vc_9.out.lt)
    have Rc_10 := Lib.hid (Rc_9.out.next hb)
    clear hb X9 LB9 T9 Q9 Vc_9 Rc_9
    go_wp2
    go_ret
    exact ⟨rfl, LB10.out⟩
  · skip
    obtain ⟨kk, rfl, hkk, hrow⟩ := Rc_9.out.h h0
    have hkk2 : w2.heap.size + 1 ≤ kk := by simpa using hkk
    have hk8 := HKB.out kk rfl h0
    have hb0 := HB0.out
    have F0 := Lib.hid (show FR w w9 w.heap.size w2.heap.size w3.heap.size W H A n c D d f U V N kk Bd F from
      ⟨X9.out, T9.out, Vc_9.out, hrow, fun hn => by
        obtain ⟨q, e, _, r⟩ := Q9.out.h hn
        exact ⟨q, e, by have h5 := HQ.out q e hn; simp at h5; omega, r⟩, LB9.out, by omega, by omega, by omega, by omega⟩)
    obtain ⟨q0, q1, q2, q3, q4, q5, q6⟩ := Vc_9.out.all
    go_wp2_with fail
    clear q0 q1 q2 q3 q4 q5 q6
    go_loopw [20] (fun i wr => ∃ x : Nat, x ≤ N ∧ i = .int .i64 x ∧ Hid (∃ F', FR w wr w.heap.size w2.heap.size w3.heap.size W H A n c D d f U V N kk Bd F')) (fun i _ => N - (intOf i).toNat)
    case atStart => exact ⟨0, Nat.zero_le _, rfl, Lib.hid ⟨F, F0.out⟩⟩
    case round =>
      obtain ⟨x, hx, rfl, hS⟩ := hrel
      obtain ⟨F', hS⟩ := hS.out
      have HS := Lib.hid hS
      clear hS
      obtain ⟨q0, q1, q2, q3, q4, q5, q6⟩ := HS.out.cx.all
      by_cases hlx : x < N
      · have x1 : decide ((x : Int) < (N : Int)) = true := by simp; omega
        have r1 := HS.out.row.cell hlx
        have r2 := HS.out.row.free x
        have r3 := HS.out.row.lt
        have b1 : (x : Int) < (N : Int) := by omega
        generalize hb : F' x = bx at *
        clear hb
        go_wp2
        go_still_tail 10, (by kernel_rfl)
        change wpList _ _ _ _ _ wr.drew
        go_wp2
        exact ⟨⟨x + 1, by omega, by go_num, Lib.hid ⟨_, HS.out.put x (!bx)⟩⟩, by simp [intOf]; omega⟩
      · have e : x = N := by omega
        have x1 : decide ((x : Int) < (N : Int)) = false := by simp; omega
        obtain ⟨p0, p1, p2, p3, p4, p5, p6⟩ := HS.out.gx.all
        obtain ⟨s0, s1_, s2_, s3_, s4_, s5_, s6⟩ := HS.out.wx.all
        go_wp2_with fail
        refine (rsame_self W H A D n c d f _ (by omega) (HR.out _ HS.out.bel) HS.out.holds).mono ?_
        rintro e2 w99 ⟨rfl, hb⟩
        have HL := Lib.hid (HS.out.bel.trans (hb.mono HS.out.bel.size))
        clear hb
        go_wp2
        go_ret
        exact ⟨rfl, HL.out⟩
theorem sa_any (W H : Int) (A : Option Addr) (n c : Nat) (f : Nat → Bool) (a b : Int) (w : World) (hr : Holds w w.heap.size A n f) :
    Calls Try.prog 11 #[.agg #[.int .i64 W, .int .i64 H, .slice A n c], .int .i64 a, .int .i64 b] w fun e w' => e = .returned (.bool true) ∧ Below w.heap.size w w' := by
  rcases great7_case W H A n c with h | ⟨hn, h⟩
  · exact sa_great W H A n c a b w h
  · exact sa_main W H A n c f a b w hr hn h
end Go.Proofs.Ytjbofdgdcnfmoaa
