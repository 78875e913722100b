/- The walk of LayersParts. -/
import Derived.Test.YtchbbphokpmacaaLqn
import Derived.Test.YtchbbphokpmacaaLba
import Derived.Test.YtchbbphokpmacaaHvv
namespace Go.Proofs.Ytchbbphokpmacaa
open Go.RowKit
set_option maxRecDepth 100000
set_option linter.unusedVariables false
set_option linter.unusedSimpArgs false

/-- Cells that lie. -/
structure LVd (v : World) (D : Option Addr) (n : Nat) (f : Nat → Bool) : Prop where
  h : Holds v v.heap.size D n f
theorem LVd.below {v v' : World} {D : Option Addr} {n : Nat} {f : Nat → Bool} (h : LVd v D n f) (hb : Below v.heap.size v v') : LVd v' D n f := ⟨(h.h.below hb).more hb.size⟩
theorem twin_lv (W H : Int) (A : Option Addr) (n c : Nat) (f : Nat → Bool) (w : World) (hn : n ≤ 4200) (hr : Holds w w.heap.size A n f) :
    Calls Try.prog 54 #[.agg #[.int .i64 W, .int .i64 H, .slice A n c]] w fun e w' => ∃ D d, e = .returned (.agg #[.int .i64 W, .int .i64 H, .slice D n d]) ∧ LVd w' D n f ∧ Below w.heap.size w w' := by
  rcases Nat.eq_zero_or_pos n with rfl | h0
  · exact (twin_none W H A c w).mono fun e w' ⟨k, he, hb⟩ => ⟨_, _, he, ⟨fun h => absurd h (by omega)⟩, hb⟩
  · exact (twin_some W H A n c f w hn h0 hr).mono fun e w' ⟨k, d, he, hk, hrow, hb⟩ => ⟨_, _, he, ⟨hrow.holds hrow.lt⟩, hb⟩
set_option maxHeartbeats 1600000 in
theorem pts_great {W H : Int} {A : Option Addr} {n c : Nat} (a b m : Int) (h : grt W H n = true) (w : World) :
    Calls Try.prog 11 #[.agg #[.int .i64 W, .int .i64 H, .slice A n c], .int .i64 a, .int .i64 b, .int .i64 m] w fun e w' => e = .returned (.bool true) ∧ Below w.heap.size w w' := by
  have HV := Lib.hid (fun u => (show Calls Try.prog 53 #[.agg #[.int .i64 W, .int .i64 H, .slice A n c]] u fun e w' => e = .returned (.bool true) ∧ Below u.heap.size u w' from by rw [← h]; exact great_any W H A n c u))
  clear h
  have X0 := Lib.hid (Box.new w W H (.slice A n c))
  have LB0 := Lib.hid (show Below w.heap.size w (w.alloc (.cells #[.int .i64 W, .int .i64 H, (.slice A n c)] 24)) from (Below.refl _ _).alloc (Nat.le_refl _) _)
  go_enter Try.func11, Try.ntmps11
  go_wp2_with fail
  generalize w.alloc (.cells #[.int .i64 W, .int .i64 H, .slice A n c] 24) = w0 at *
  obtain ⟨q0, q1, q2, q3, q4, q5, q6⟩ := X0.out.all
  go_wp2_with fail
  clear q0 q1 q2 q3 q4 q5 q6
  with_reducible refine Calls.mono (HV.out _) ?_
  rintro e w1 ⟨rfl, hb⟩
  have X1 := Lib.hid (X0.out.below hb X0.out.lt)
  have LB1 := Lib.hid (LB0.out.trans (hb.mono LB0.out.size))
  clear hb X0 LB0 
  go_wp2
  go_ret
  exact ⟨rfl, LB1.out⟩
set_option maxHeartbeats 6400000 in
theorem pts_all {W H : Int} {A : Option Addr} {n c : Nat} {f : Nat → Bool} (a b m : Int) (h : grt W H n = false) (hn : n ≤ 200) (w : World) (hg : Holds w w.heap.size A n f)
    (L : Nat → List Nat) (pn : Nat) (z : Int) (hpn : pn ≤ 5000) (hL : ∀ i, i < pn → (L i).length ≤ 5000) (hb : Bool) (zh : Int) (E P : Nat → List Nat) (ln : Nat) (hln : ln ≤ 5000) (hE : ∀ i, i < ln → (E i).length ≤ 5000) (hP : ∀ i, i < ln → (P i).length ≤ 5000) (l1 l2 : List Nat) (zs : Int) (h1 : l1.length ≤ 5000) (h2 : l2.length ≤ 5000)
    (c1 : ∀ u, Below w.heap.size w u → Calls Try.prog 42 #[.agg #[.int .i64 W, .int .i64 H, .slice A n c]] u (PaR u L pn z)) (c2 : ∀ u, Below w.heap.size w u → Calls Try.prog 55 #[.agg #[.int .i64 W, .int .i64 H, .slice A n c]] u (PaR u L pn z))
    (c3 : ∀ u, Below w.heap.size w u → Calls Try.prog 48 #[.agg #[.int .i64 W, .int .i64 H, .slice A n c], .int .i64 a, .int .i64 b] u (BRet u hb zh)) (c4 : ∀ u, Below w.heap.size w u → Calls Try.prog 56 #[.agg #[.int .i64 W, .int .i64 H, .slice A n c], .int .i64 a, .int .i64 b] u (BRet u hb zh))
    (c5 : ∀ u, Below w.heap.size w u → Calls Try.prog 51 #[.agg #[.int .i64 W, .int .i64 H, .slice A n c]] u (LsR u E P ln z)) (c6 : ∀ u, Below w.heap.size w u → Calls Try.prog 57 #[.agg #[.int .i64 W, .int .i64 H, .slice A n c]] u (LsR u E P ln z))
    (c7 : ∀ u, Below w.heap.size w u → Calls Try.prog 47 #[.agg #[.int .i64 W, .int .i64 H, .slice A n c], .int .i64 m] u (SpE u l1 l2 zs)) (c8 : ∀ u, Below w.heap.size w u → Calls Try.prog 58 #[.agg #[.int .i64 W, .int .i64 H, .slice A n c], .int .i64 m] u (SpE u l1 l2 zs)) :
    Calls Try.prog 11 #[.agg #[.int .i64 W, .int .i64 H, .slice A n c], .int .i64 a, .int .i64 b, .int .i64 m] w fun e w' => e = .returned (.bool true) ∧ Below w.heap.size w w' := by
  have C1 := Lib.hid c1
  have C2 := Lib.hid c2
  have C3 := Lib.hid c3
  have C4 := Lib.hid c4
  have C5 := Lib.hid c5
  have C6 := Lib.hid c6
  have C7 := Lib.hid c7
  have C8 := Lib.hid c8
  have HV := Lib.hid (fun u => (show Calls Try.prog 53 #[.agg #[.int .i64 W, .int .i64 H, .slice A n c]] u fun e w' => e = .returned (.bool false) ∧ Below u.heap.size u w' from by rw [← h]; exact great_any W H A n c u))
  have HTW := Lib.hid (fun u (h : Below w.heap.size w u) => twin_lv W H A n c f u (by omega) ((hg.below h).more h.size))
  have HG := Lib.hid hg
  have zz : ((z : Int) == z) = true := by simp
  have zz2 : ((zh : Int) == zh) = true := by simp
  have zz3 : ((zs : Int) == zs) = true := by simp
  have zb : (hb == hb) = true := by simp
  have HL := Lib.hid hL
  have HE := Lib.hid hE
  have HP := Lib.hid hP
  clear c1 c2 c3 c4 c5 c6 c7 c8 h hg hL hE hP
  obtain ⟨n1, hn1⟩ : ∃ x, l1.length = x := ⟨_, rfl⟩
  obtain ⟨n2, hn2⟩ : ∃ x, l2.length = x := ⟨_, rfl⟩
  have HN1 := Lib.hid hn1
  have HN2 := Lib.hid hn2
  unfold SpE at C7 C8
  rw [hn1, hn2] at C7 C8
  rw [hn1] at h1
  rw [hn2] at h2
  clear hn1 hn2
  have X0 := Lib.hid (Box.new w W H (.slice A n c))
  have LB0 := Lib.hid (show Below w.heap.size w (w.alloc (.cells #[.int .i64 W, .int .i64 H, (.slice A n c)] 24)) from (Below.refl _ _).alloc (Nat.le_refl _) _)
  go_enter Try.func11, Try.ntmps11
  go_wp2_with fail
  generalize w.alloc (.cells #[.int .i64 W, .int .i64 H, .slice A n c] 24) = w0 at *
  obtain ⟨q0, q1, q2, q3, q4, q5, q6⟩ := X0.out.all
  go_wp2_with fail
  clear q0 q1 q2 q3 q4 q5 q6
  with_reducible refine Calls.mono (HV.out _) ?_
  rintro e w1 ⟨rfl, hb⟩
  have X1 := Lib.hid (X0.out.below hb X0.out.lt)
  have LB1 := Lib.hid (LB0.out.trans (hb.mono LB0.out.size))
  clear hb X0 LB0 
  obtain ⟨q0, q1, q2, q3, q4, q5, q6⟩ := X1.out.all
  go_wp2_with fail
  clear q0 q1 q2 q3 q4 q5 q6
  with_reducible refine Calls.mono (HTW.out _ LB1.out) ?_
  rintro e w2 ⟨DT, dT, rfl, hlv, hb⟩
  have X2 := Lib.hid (X1.out.below hb X1.out.lt)
  have LB2 := Lib.hid (LB1.out.trans (hb.mono LB1.out.size))
  have TV := Lib.hid hlv
  clear hb X1 LB1 hlv
  have hb := bel_alloc w2 (.cells #[.int .i64 W, .int .i64 H, .slice DT n dT] 24)
  have X3 := Lib.hid (X2.out.below hb X2.out.lt)
  have LB3 := Lib.hid (LB2.out.trans (hb.mono LB2.out.size))
  have TV := Lib.hid (TV.out.below hb)
  have TB := Lib.hid (Box.new w2 W H (.slice DT n dT))
  clear hb X2 LB2
  go_upto_region 4 with (fail)
  generalize w2.heap.size = tb at *
  generalize w2.alloc (.cells #[.int .i64 W, .int .i64 H, .slice DT n dT] 24) = w3 at *
  obtain ⟨q0, q1, q2, q3, q4, q5, q6⟩ := X3.out.all
  go_wp2_with fail
  clear q0 q1 q2 q3 q4 q5 q6
  with_reducible refine Calls.mono (C1.out _ LB3.out) ?_
  rintro e w4 ⟨D1, d1, rfl, _, hls, hb⟩
  have X4 := Lib.hid (X3.out.below hb X3.out.lt)
  have LB4 := Lib.hid (LB3.out.trans (hb.mono LB3.out.size))
  have TV := Lib.hid (TV.out.below hb)
  have TB := Lib.hid (TB.out.below hb TB.out.lt)
  have P1 := Lib.hid hls
  clear hb X3 LB3 hls
  obtain ⟨q0, q1, q2, q3, q4, q5, q6⟩ := X4.out.all
  go_wp2_with fail
  clear q0 q1 q2 q3 q4 q5 q6
  with_reducible refine Calls.mono (C2.out _ LB4.out) ?_
  rintro e w5 ⟨D2, d2, rfl, _, hls, hb⟩
  have X5 := Lib.hid (X4.out.below hb X4.out.lt)
  have LB5 := Lib.hid (LB4.out.trans (hb.mono LB4.out.size))
  have TV := Lib.hid (TV.out.below hb)
  have TB := Lib.hid (TB.out.below hb TB.out.lt)
  have P1 := Lib.hid (P1.out.below hb)
  have P2 := Lib.hid hls
  clear hb X4 LB4 hls
  obtain ⟨q0, q1, q2, q3, q4, q5, q6⟩ := X5.out.all
  go_wp2_with fail
  clear q0 q1 q2 q3 q4 q5 q6
  with_reducible refine Calls.mono (C3.out _ LB5.out) ?_
  rintro e w6 ⟨rfl, hb⟩
  have X6 := Lib.hid (X5.out.below hb X5.out.lt)
  have LB6 := Lib.hid (LB5.out.trans (hb.mono LB5.out.size))
  have TV := Lib.hid (TV.out.below hb)
  have TB := Lib.hid (TB.out.below hb TB.out.lt)
  have P1 := Lib.hid (P1.out.below hb)
  have P2 := Lib.hid (P2.out.below hb)
  clear hb X5 LB5 
  obtain ⟨q0, q1, q2, q3, q4, q5, q6⟩ := X6.out.all
  go_wp2_with fail
  clear q0 q1 q2 q3 q4 q5 q6
  with_reducible refine Calls.mono (C4.out _ LB6.out) ?_
  rintro e w7 ⟨rfl, hb⟩
  have X7 := Lib.hid (X6.out.below hb X6.out.lt)
  have LB7 := Lib.hid (LB6.out.trans (hb.mono LB6.out.size))
  have TV := Lib.hid (TV.out.below hb)
  have TB := Lib.hid (TB.out.below hb TB.out.lt)
  have P1 := Lib.hid (P1.out.below hb)
  have P2 := Lib.hid (P2.out.below hb)
  clear hb X6 LB6 
  obtain ⟨q0, q1, q2, q3, q4, q5, q6⟩ := X7.out.all
  go_wp2_with fail
  clear q0 q1 q2 q3 q4 q5 q6
  with_reducible refine Calls.mono (C5.out _ LB7.out) ?_
  rintro e w8 ⟨D3, d3, rfl, hls, hb⟩
  have X8 := Lib.hid (X7.out.below hb X7.out.lt)
  have LB8 := Lib.hid (LB7.out.trans (hb.mono LB7.out.size))
  have TV := Lib.hid (TV.out.below hb)
  have TB := Lib.hid (TB.out.below hb TB.out.lt)
  have P1 := Lib.hid (P1.out.below hb)
  have P2 := Lib.hid (P2.out.below hb)
  have Y1 := Lib.hid hls
  clear hb X7 LB7 hls
  obtain ⟨q0, q1, q2, q3, q4, q5, q6⟩ := X8.out.all
  go_wp2_with fail
  clear q0 q1 q2 q3 q4 q5 q6
  with_reducible refine Calls.mono (C6.out _ LB8.out) ?_
  rintro e w9 ⟨D4, d4, rfl, hls, hb⟩
  have X9 := Lib.hid (X8.out.below hb X8.out.lt)
  have LB9 := Lib.hid (LB8.out.trans (hb.mono LB8.out.size))
  have TV := Lib.hid (TV.out.below hb)
  have TB := Lib.hid (TB.out.below hb TB.out.lt)
  have P1 := Lib.hid (P1.out.below hb)
  have P2 := Lib.hid (P2.out.below hb)
  have Y1 := Lib.hid (Y1.out.below hb)
  have Y2 := Lib.hid hls
  clear hb X8 LB8 hls
  obtain ⟨q0, q1, q2, q3, q4, q5, q6⟩ := X9.out.all
  go_wp2_with fail
  clear q0 q1 q2 q3 q4 q5 q6
  with_reducible refine Calls.mono (C7.out _ LB9.out) ?_
  rintro e w10 ⟨S1, s1, S2, s2, rfl, ⟨_, hll1⟩, hll2, hb⟩
  have X10 := Lib.hid (X9.out.below hb X9.out.lt)
  have LB10 := Lib.hid (LB9.out.trans (hb.mono LB9.out.size))
  have TV := Lib.hid (TV.out.below hb)
  have TB := Lib.hid (TB.out.below hb TB.out.lt)
  have P1 := Lib.hid (P1.out.below hb)
  have P2 := Lib.hid (P2.out.below hb)
  have Y1 := Lib.hid (Y1.out.below hb)
  have Y2 := Lib.hid (Y2.out.below hb)
  have A1 := Lib.hid hll1
  have A2 := Lib.hid hll2
  clear hb X9 LB9 hll1 hll2
  obtain ⟨q0, q1, q2, q3, q4, q5, q6⟩ := X10.out.all
  go_wp2_with fail
  clear q0 q1 q2 q3 q4 q5 q6
  with_reducible refine Calls.mono (C8.out _ LB10.out) ?_
  rintro e w11 ⟨U1, u1, U2, u2, rfl, ⟨_, hll1⟩, hll2, hb⟩
  have X11 := Lib.hid (X10.out.below hb X10.out.lt)
  have LB11 := Lib.hid (LB10.out.trans (hb.mono LB10.out.size))
  have TV := Lib.hid (TV.out.below hb)
  have TB := Lib.hid (TB.out.below hb TB.out.lt)
  have P1 := Lib.hid (P1.out.below hb)
  have P2 := Lib.hid (P2.out.below hb)
  have Y1 := Lib.hid (Y1.out.below hb)
  have Y2 := Lib.hid (Y2.out.below hb)
  have A1 := Lib.hid (A1.out.below hb)
  have A2 := Lib.hid (A2.out.below hb)
  have B1 := Lib.hid hll1
  have B2 := Lib.hid hll2
  clear hb X10 LB10 hll1 hll2
  clear HV HTW C1 C2 C3 C4 C5 C6 C7 C8
  go_wp2_with fail
  with_reducible refine Calls.mono (sameparts_t pn D1 D2 d1 d2 L L _ hpn HL.out (fun _ _ => rfl) P1.out P2.out) ?_
  rintro e w12 ⟨rfl, hb⟩
  have X12 := Lib.hid (X11.out.below hb X11.out.lt)
  have LB12 := Lib.hid (LB11.out.trans (hb.mono LB11.out.size))
  have TV := Lib.hid (TV.out.below hb)
  have TB := Lib.hid (TB.out.below hb TB.out.lt)
  have P1 := Lib.hid (P1.out.below hb)
  have P2 := Lib.hid (P2.out.below hb)
  have Y1 := Lib.hid (Y1.out.below hb)
  have Y2 := Lib.hid (Y2.out.below hb)
  have A1 := Lib.hid (A1.out.below hb)
  have A2 := Lib.hid (A2.out.below hb)
  have B1 := Lib.hid (B1.out.below hb)
  have B2 := Lib.hid (B2.out.below hb)
  clear hb X11 LB11 
  clear P1 P2
  go_wp2_with fail
  with_reducible refine Calls.mono (samelayers_t ln D3 D4 d3 d4 E P E P _ hln HE.out HP.out (fun _ _ => rfl) (fun _ _ => rfl) Y1.out Y2.out) ?_
  rintro e w13 ⟨rfl, hb⟩
  have X13 := Lib.hid (X12.out.below hb X12.out.lt)
  have LB13 := Lib.hid (LB12.out.trans (hb.mono LB12.out.size))
  have TV := Lib.hid (TV.out.below hb)
  have TB := Lib.hid (TB.out.below hb TB.out.lt)
  have Y1 := Lib.hid (Y1.out.below hb)
  have Y2 := Lib.hid (Y2.out.below hb)
  have A1 := Lib.hid (A1.out.below hb)
  have A2 := Lib.hid (A2.out.below hb)
  have B1 := Lib.hid (B1.out.below hb)
  have B2 := Lib.hid (B2.out.below hb)
  clear hb X12 LB12 
  clear Y1 Y2
  have hC := (show Calls Try.prog 50 #[.slice S1 n1 s1, .slice U1 n1 u1] w13 fun e w' => e = .returned (.bool true) ∧ Below w13.heap.size w13 w' from by
    have h9 := same_two s1 u1 w13 (by rw [HN1.out]; omega) A1.out B1.out
    rw [HN1.out, beq_self_eq_true] at h9
    exact h9)
  go_wp2_with fail
  with_reducible refine Calls.mono (hC) ?_
  rintro e w14 ⟨rfl, hb⟩
  have X14 := Lib.hid (X13.out.below hb X13.out.lt)
  have LB14 := Lib.hid (LB13.out.trans (hb.mono LB13.out.size))
  have TV := Lib.hid (TV.out.below hb)
  have TB := Lib.hid (TB.out.below hb TB.out.lt)
  have A1 := Lib.hid (A1.out.below hb)
  have A2 := Lib.hid (A2.out.below hb)
  have B1 := Lib.hid (B1.out.below hb)
  have B2 := Lib.hid (B2.out.below hb)
  clear hb X13 LB13 
  clear hC A1 B1
  have hC := (show Calls Try.prog 50 #[.slice S2 n2 s2, .slice U2 n2 u2] w14 fun e w' => e = .returned (.bool true) ∧ Below w14.heap.size w14 w' from by
    have h9 := same_two s2 u2 w14 (by rw [HN2.out]; omega) A2.out B2.out
    rw [HN2.out, beq_self_eq_true] at h9
    exact h9)
  go_wp2_with fail
  with_reducible refine Calls.mono (hC) ?_
  rintro e w15 ⟨rfl, hb⟩
  have X15 := Lib.hid (X14.out.below hb X14.out.lt)
  have LB15 := Lib.hid (LB14.out.trans (hb.mono LB14.out.size))
  have TV := Lib.hid (TV.out.below hb)
  have TB := Lib.hid (TB.out.below hb TB.out.lt)
  have A2 := Lib.hid (A2.out.below hb)
  have B2 := Lib.hid (B2.out.below hb)
  clear hb X14 LB14 
  clear hC A2 B2
  have hC := (show Calls Try.prog 60 #[.agg #[.int .i64 W, .int .i64 H, .slice A n c], .agg #[.int .i64 W, .int .i64 H, .slice DT n dT]] w15 fun e w' => e = .returned (.bool true) ∧ Below w15.heap.size w15 w' from by
    have h9 := rsame_loop W H W H A DT n c dT f f w15 (by omega) rfl rfl ((HG.out.below LB15.out).more LB15.out.size) TV.out.h
    rw [decide_eq_true (fun i _ => rfl)] at h9
    exact h9)
  clear TV
  obtain ⟨q0, q1, q2, q3, q4, q5, q6⟩ := X15.out.all
  obtain ⟨q7, q8, q9, q10, q11, q12, q13⟩ := TB.out.all
  go_wp2_with fail
  clear q0 q1 q2 q3 q4 q5 q6 q7 q8 q9 q10 q11 q12 q13
  with_reducible refine Calls.mono (hC) ?_
  rintro e w16 ⟨rfl, hb⟩
  have X16 := Lib.hid (X15.out.below hb X15.out.lt)
  have LB16 := Lib.hid (LB15.out.trans (hb.mono LB15.out.size))
  have TB := Lib.hid (TB.out.below hb TB.out.lt)
  clear hb X15 LB15 
  go_wp2
  go_ret
  exact ⟨rfl, LB16.out⟩
theorem parts11_any (W H : Int) (A : Option Addr) (n c : Nat) (f : Nat → Bool) (a b m : Int) (w : World) (hg : Holds w w.heap.size A n f) :
    Calls Try.prog 11 #[.agg #[.int .i64 W, .int .i64 H, .slice A n c], .int .i64 a, .int .i64 b, .int .i64 m] w fun e w' => e = .returned (.bool true) ∧ Below w.heap.size w w' := by
  by_cases hgr : grt W H n = true
  · exact pts_great a b m hgr w
  have hgf : grt W H n = false := by simpa using hgr
  have hn200 : n ≤ 200 := by
    unfold grt at hgf
    simp at hgf
    omega
  by_cases hz : chk W H n = 0
  · obtain ⟨x, y, rfl, rfl, rfl, h1, h2, h3, h4⟩ := chk_nat hz
    have hpN := (pno_all (ov x f) (x + y)).1
    have hlN : (lix (ov x f) (x + y)).length ≤ x + y := Nat.le_trans (ofl_len _ _) hpN
    have hPL : ∀ i, i < pno (ov x f) (x + y) → (prt (ov x f) (x + y) i).length ≤ 5000 := fun i _ => Nat.le_trans (prt_len _ _ _) (by omega)
    have hEL : ∀ i, i < (lix (ov x f) (x + y)).length → (lyE (ov x f) x (x + y) i).length ≤ 5000 := fun i _ => Nat.le_trans (lEn_len _ _) (Nat.le_trans (prt_len _ _ _) (by omega))
    have hPi : ∀ i, i < (lix (ov x f) (x + y)).length → (lyP (ov x f) x (x + y) i).length ≤ 5000 := fun i _ => Nat.le_trans (lPi_len _ _) (Nat.le_trans (prt_len _ _ _) (by omega))
    have c1 := fun u (h : Below w.heap.size w u) => parts_n x y (x + y) rfl A c f u ((hg.below h).more h.size) h1 h2 h3 h4
    have c2 := fun u (h : Below w.heap.size w u) => rparts_n x y (x + y) rfl A c f u ((hg.below h).more h.size) h1 h2 h3 h4
    have c5 := fun u (h : Below w.heap.size w u) => players_n x y (x + y) rfl A c f u ((hg.below h).more h.size) h1 h2 h3 h4
    have c6 := fun u (h : Below w.heap.size w u) => rlayers_n x y (x + y) rfl A c f u ((hg.below h).more h.size) h1 h2 h3 h4
    obtain ⟨hb, zh, c3, c4⟩ : ∃ hb zh, (∀ u, Below w.heap.size w u → Calls Try.prog 48 #[.agg #[.int .i64 (x : Nat), .int .i64 (y : Nat), .slice A (x * y) c], .int .i64 a, .int .i64 b] u (BRet u hb zh)) ∧ (∀ u, Below w.heap.size w u → Calls Try.prog 56 #[.agg #[.int .i64 (x : Nat), .int .i64 (y : Nat), .slice A (x * y) c], .int .i64 a, .int .i64 b] u (BRet u hb zh)) := by
      by_cases ha : 0 ≤ a ∧ a < ((x + y : Nat) : Int)
      · by_cases hb : 0 ≤ b ∧ b < ((x + y : Nat) : Int)
        · obtain ⟨a', rfl⟩ : ∃ a' : Nat, a = (a' : Nat) := ⟨a.toNat, (Int.toNat_of_nonneg ha.1).symm⟩
          obtain ⟨b', rfl⟩ : ∃ b' : Nat, b = (b' : Nat) := ⟨b.toNat, (Int.toNat_of_nonneg hb.1).symm⟩
          exact ⟨_, _, fun u h => pheld_n x y (x + y) rfl A c f a' b' u ((hg.below h).more h.size) h1 h2 h3 h4 (by omega) (by omega), fun u h => rheld_n x y (x + y) rfl A c f a' b' u ((hg.below h).more h.size) h1 h2 h3 h4 (by omega) (by omega)⟩
        · exact ⟨_, _, fun u h => pheld_no x y A c f a b u ((hg.below h).more h.size) h1 h2 h3 h4 (decide_eq_false fun k => hb k.2), fun u h => rheld_b x y A c a b u h1 h2 h3 h4 ha hb⟩
      · exact ⟨_, _, fun u h => pheld_no x y A c f a b u ((hg.below h).more h.size) h1 h2 h3 h4 (decide_eq_false fun k => ha k.1), fun u h => rheld_a x y A c a b u h1 h2 h3 h4 ha⟩
    by_cases hm : m < 0 ∨ ((pno (ov x f) (x + y) : Nat) : Int) < m
    · exact pts_all a b m hgf hn200 w hg _ _ 0 (by omega) hPL hb zh _ _ _ (by omega) hEL hPi [] [] 2 (by simp) (by simp) c1 c2 c3 c4 c5 c6 (fun u h => psplit_no x y A c f m u ((hg.below h).more h.size) h1 h2 h3 h4 hm) (fun u h => rsplit_no x y A c f m u ((hg.below h).more h.size) h1 h2 h3 h4 hm)
    · obtain ⟨m', rfl⟩ : ∃ m' : Nat, m = (m' : Nat) := ⟨m.toNat, (Int.toNat_of_nonneg (by omega)).symm⟩
      exact pts_all a b m' hgf hn200 w hg _ _ 0 (by omega) hPL hb zh _ _ _ (by omega) hEL hPi _ _ 0 (Nat.le_trans (ofl_len _ _) (by omega)) (Nat.le_trans (ofl_len _ _) (by omega)) c1 c2 c3 c4 c5 c6 (fun u h => psplit_n x y (x + y) rfl A c f m' u ((hg.below h).more h.size) h1 h2 h3 h4 (by omega)) (fun u h => rsplit_n x y (x + y) rfl A c f m' u ((hg.below h).more h.size) h1 h2 h3 h4 (by omega))
  · have hne : (chk W H n != 0) = true := by simpa using hz
    exact pts_all a b m hgf hn200 w hg (fun _ => []) 0 (chk W H n) (by omega) (fun i hi => absurd hi (by omega)) false (chk W H n) (fun _ => []) (fun _ => []) 0 (by omega) (fun i hi => absurd hi (by omega)) (fun i hi => absurd hi (by omega)) [] [] (chk W H n) (by simp) (by simp)
      (fun u _ => parts_err _ (by omega) rfl hne u) (fun u _ => rparts_err _ (by omega) rfl hne u) (fun u _ => pheld_err a b _ (by omega) rfl hne u) (fun u _ => rheld_err a b _ (by omega) rfl hne u)
      (fun u _ => players_err _ (by omega) rfl hne u) (fun u _ => rlayers_err _ (by omega) rfl hne u) (fun u _ => psplit_err m _ (by omega) rfl hne u) (fun u _ => rsplit_err m _ (by omega) rfl hne u)
end Go.Proofs.Ytchbbphokpmacaa
