/- The statement RepeatSpread: the walk. -/
import Derived.Test.YtjbofdgdcnfmoaaExa
import Derived.Test.YtjbofdgdcnfmoaaMsp
import Derived.Deep.DeepCutAuto
namespace Go.Proofs.Ytjbofdgdcnfmoaa
open Go.RowKit
set_option maxRecDepth 100000
set_option linter.unusedVariables false
set_option linter.unusedSimpArgs false

theorem Box.put3 {u : World} {g : Nat} {a b : Int} {s : Value} (h : Box u g a b s) (x y : Int) (z : Value) : Box (((u.setCell ⟨g, 0, none⟩ (.int .i64 x)).setCell ⟨g, 1, none⟩ (.int .i64 y)).setCell ⟨g, 2, none⟩ z) g x y z := by
  have st : ∀ (u : World) (cs : Array Value) (i : Nat) (v : Value), u.heap[g]? = some (.cells cs 24 (0, 0)) → (u.setCell ⟨g, i, none⟩ v).heap[g]? = some (.cells (cs.setIfInBounds i v) 24 (0, 0)) := by
    intro u cs i v h
    obtain ⟨hlt, hk⟩ := Array.getElem?_eq_some_iff.1 h
    show (u.heap.modify g _)[g]? = _
    rw [Array.getElem?_eq_getElem (by rw [Array.size_modify]; exact hlt), Array.getElem_modify_self, hk]
    rfl
  exact st _ _ 2 z (st _ _ 1 _ (st _ _ 0 _ h))
set_option maxHeartbeats 400000 in
theorem spread_bad (W H : Int) (A : Option Addr) (n c : Nat) (w : World) (hv : ∀ w, Calls Try.prog 40 #[.agg #[.int .i64 W, .int .i64 H, .slice A n c]] w fun e w' => e = .returned (.bool false) ∧ Below w.heap.size w w') : Calls Try.prog 8 #[.agg #[.int .i64 W, .int .i64 H, .slice A n c]] w fun e w' => e = .returned (.bool true) ∧ Below w.heap.size w w' := by
  have HV := Lib.hid hv
  have L0 := Lib.hid (show Below w.heap.size w (w.alloc (.cells #[.int .i64 W, .int .i64 H, .slice A n c] 24)) from (Below.refl _ _).alloc (Nat.le_refl _) _)
  clear hv
  go_enter Try.func8, Try.ntmps8
  go_wp2_with fail
  refine (HV.out _).mono ?_
  rintro e w1 ⟨rfl, hb⟩
  have L1 := Lib.hid (L0.out.trans (hb.mono L0.out.size))
  clear hb
  go_wp2_with fail
  refine (alive6_any _).mono ?_
  rintro e w2 ⟨rfl, hb⟩
  have L2 := Lib.hid (L1.out.trans (hb.mono L1.out.size))
  clear hb
  go_wp2
  go_ret
  exact ⟨rfl, L2.out⟩
/-- A grid of the call's own, in a variable. -/
structure TB (w0 wx : World) (g j : Nat) (W H N : Nat) (F : Nat → Bool) : Prop where
  b : Box wx g (W : Nat) (H : Nat) (.slice (some ⟨j, 0, none⟩) N N)
  r : Row wx j N F
  l : Below w0.heap.size w0 wx
set_option maxHeartbeats 6400000 in
theorem spread_main (W H N ba oa c : Nat) (f : Nat → Bool) (w : World) (la : ba < w.heap.size) (hN : N = W * H) (hcp : N ≤ c) (hcs : ∀ i, i < N → w.cell? ⟨ba, oa + i, none⟩ = some (.bool (f i))) (hW0 : 1 ≤ W) (hW : W ≤ 64) (hH0 : 1 ≤ H) (hH : H ≤ 64) (hn : N ≤ 100) :
    Calls Try.prog 8 #[.agg #[.int .i64 (W : Nat), .int .i64 (H : Nat), .slice (some ⟨ba, oa, none⟩) N c]] w fun e w' => e = .returned (.bool true) ∧ Below w.heap.size w w' := by
  obtain ⟨A, B, C, hL⟩ := IsL.ex W H f hW0 hH0
  have HCS := Lib.hid (fun v (h : Below w.heap.size w v) => (show Holds v v.heap.size (some ⟨ba, oa, none⟩) N f from fun _ => ⟨ba, oa, rfl, Nat.lt_of_lt_of_le la h.size, fun i hi => (h.cell (p := ⟨ba, oa + i, none⟩) la).trans (hcs i hi)⟩))
  have HV := Lib.hid (fun v => (valid6_y W H (some ⟨ba, oa, none⟩) N c v hn (by rw [hN]; exact chk_zero hW0 hW hH0 hH)))
  have HO := Lib.hid (fun v (h : Below w.heap.size w v) => (show Calls Try.prog 19 #[.agg #[.int .i64 (W : Nat), .int .i64 (H : Nat), .slice (some ⟨ba, oa, none⟩) N c]] v fun e w' => e = .returned (.tuple #[.agg #[.int .i64 (A : Nat), .int .i64 (B : Nat), .int .i64 (C : Nat)], .int .i64 0]) ∧ Below v.heap.size v w' by
    subst hN; exact pof_at hL _ c v (HCS.out v h) hcp hW hH0 hH))
  have HC := Lib.hid (fun v (h : Below w.heap.size w v) => (show Calls Try.prog 34 #[.agg #[.int .i64 (W : Nat), .int .i64 (H : Nat), .slice (some ⟨ba, oa, none⟩) N c]] v (OkGrid v A C fun i => pc W H f (i % A) (i / A)) by
    subst hN; exact pcell_at hL _ c v (HCS.out v h) hcp hW hH0 hH))
  have HR := Lib.hid (fun v (h : Below w.heap.size w v) => (show Calls Try.prog 20 #[.agg #[.int .i64 (W : Nat), .int .i64 (H : Nat), .slice (some ⟨ba, oa, none⟩) N c]] v fun e w' => e = .returned (.tuple #[.int .i64 (A : Nat), .int .i64 (rh A B C : Nat), .int .i64 0]) ∧ Below v.heap.size v w' by
    subst hN; exact prect_at hL _ c v (HCS.out v h) hcp hW hH0 hH))
  have HSp := Lib.hid (fun v k (hr : Row v k (A * C) (fun i => pc W H f (i % A) (i / A))) => (show Calls Try.prog 21 #[.agg #[.int .i64 (A : Nat), .int .i64 (C : Nat), .slice (some ⟨k, 0, none⟩) (A * C) (A * C)], .int .i64 (B : Nat), .int .i64 (W : Nat), .int .i64 (H : Nat)] v fun e w' => ∃ j d, e = .returned (.tuple #[.agg #[.int .i64 (W : Nat), .int .i64 (H : Nat), .slice (some ⟨j, 0, none⟩) N d], .int .i64 0]) ∧ v.heap.size ≤ j ∧ Row w' j N f ∧ Below v.heap.size v w' by
    subst hN
    exact (psp_ok A C k 0 (A * C) (fun i => pc W H f (i % A) (i / A)) B W H v hr.lt (fun i hi => by rw [Nat.zero_add]; exact hr.cell hi) hL.a0 (Nat.le_trans hL.aw hW) hL.c0 (Nat.le_trans hL.ch hH) hL.ba hW0 hW hH0 hH).mono fun e w' ⟨j, d, h1, h2, h3, h4⟩ => ⟨j, d, h1, h2, h3.congr fun i hi => by
      rw [spf_at hL hH0 (i % W) (i / W) (Nat.mod_lt _ hW0) (div_bd hi), nat_div_mod], h4⟩))
  have HP := Lib.hid (fun v (h : Below w.heap.size w v) (a b : Nat) (ha : 1 ≤ a) (hb : 1 ≤ b) (ha2 : a ≤ W) (hb2 : b ≤ H) => (show Calls Try.prog 41 #[.agg #[.int .i64 (W : Nat), .int .i64 (H : Nat), .slice (some ⟨ba, oa, none⟩) N c], .int .i64 0, .int .i64 0, .int .i64 (a : Nat), .int .i64 (b : Nat)] v (OkGrid v a b fun i => f ((0 + i / a) * W + (0 + i % a))) by
    subst hN; exact part_ok W H _ c 0 0 a b v hW0 hW hH0 hH f (HCS.out v h) ha (by omega) hb (by omega)))
  have HT := Lib.hid (fun v k (a b : Nat) (ha : 1 ≤ a) (hb : 1 ≤ b) (ha2 : a ≤ W) (hb2 : b ≤ H) (hda : W % a = 0) (hdb : H % b = 0) (hr : Row v k (a * b) (fun i => f ((0 + i / a) * W + (0 + i % a)))) => (show Calls Try.prog 42 #[.agg #[.int .i64 (a : Nat), .int .i64 (b : Nat), .slice (some ⟨k, 0, none⟩) (a * b) (a * b)], .int .i64 (W / a : Nat), .int .i64 (H / b : Nat)] v fun e w' => ∃ j, e = .returned (.tuple #[.agg #[.int .i64 (W : Nat), .int .i64 (H : Nat), .slice (some ⟨j, 0, none⟩) N N], .int .i64 0]) ∧ v.heap.size ≤ j ∧ Row w' j N (fun i => f (i / W % b * W + i % W % a)) ∧ Below v.heap.size v w' by
    have ea : W / a * a = W := Nat.div_mul_cancel (Nat.dvd_of_mod_eq_zero hda)
    have eb : H / b * b = H := Nat.div_mul_cancel (Nat.dvd_of_mod_eq_zero hdb)
    have k1 := tile_ok a b (some ⟨k, 0, none⟩) (a * b) (W / a) (H / b) v ha (by omega) hb (by omega) _ (hr.holds hr.lt) (Nat.div_pos ha2 ha) (Nat.div_pos hb2 hb) (by rw [ea]; exact hW) (by rw [eb]; exact hH)
    rw [ea, eb] at k1
    subst hN
    exact k1.mono fun e w' ⟨j, h1, h2, h3, h4⟩ => ⟨j, h1, h2, h3.congr fun i hi => by
      have m1 := Nat.mod_lt (i % W) ha
      show f ((0 + (i / W % b * a + i % W % a) / a) * W + (0 + (i / W % b * a + i % W % a) % a)) = _
      rw [Nat.zero_add, Nat.zero_add, show (i / W % b * a + i % W % a) / a = i / W % b by rw [Nat.mul_comm, Nat.mul_add_div (by omega), Nat.div_eq_of_lt m1, Nat.add_zero], show (i / W % b * a + i % W % a) % a = i % W % a by rw [Nat.mul_comm, Nat.mul_add_mod, Nat.mod_eq_of_lt m1]], h4⟩))
  have HQ := Lib.hid (fun v (h : Below w.heap.size w v) (a b : Nat) (ha : 1 ≤ a) (hb : 1 ≤ b) (hda : W % a = 0) (hdb : H % b = 0) (j : Nat) (hr : Row v j N (fun i => f (i / W % b * W + i % W % a))) (tt : Bool) (ht : tt = true ↔ (a % A = 0 ∧ b % rh A B C = 0)) => (show Calls Try.prog 39 #[.agg #[.int .i64 (W : Nat), .int .i64 (H : Nat), .slice (some ⟨j, 0, none⟩) N N], .agg #[.int .i64 (W : Nat), .int .i64 (H : Nat), .slice (some ⟨ba, oa, none⟩) N c]] v fun e w' => e = .returned (.bool tt) ∧ Below v.heap.size v w' by
    have k1 := rsame_loop W H W H (some ⟨j, 0, none⟩) (some ⟨ba, oa, none⟩) N N c _ f v (by omega) rfl rfl (hr.holds hr.lt) (HCS.out v h)
    rw [deq (t := tt) (q := (a % A = 0 ∧ b % rh A B C = 0)) (by rw [hN]; exact tile_iff hL hH0 a b ha hb hda hdb) ht] at k1
    exact k1))
  have HS0 := Lib.hid (fun v (h : Below w.heap.size w v) (j d : Nat) (hr : Row v j N f) => rsame_se (W : Nat) (H : Nat) (some ⟨j, 0, none⟩) (some ⟨ba, oa, none⟩) N d c f v (by omega) (hr.holds hr.lt) (HCS.out v h))
  obtain ⟨d1, d2, _⟩ := hL.divs hH0
  have d3 := rh_div hL hH0
  have r0 := rh_pos (B := B) hL.a0 hL.c0
  have hA0 := hL.a0
  have hAW := hL.aw
  have hC0 := hL.c0
  have hCH := hL.ch
  have r1 : rh A B C ≤ H := Nat.le_of_dvd hH0 (Nat.dvd_of_mod_eq_zero d3)
  clear hL hcs
  generalize rh A B C = R at *
  have m1 : (W : Int).tmod (A : Int) = 0 := by rw [Int.tmod_eq_emod_of_nonneg (by omega)]; omega
  have m2 : (H : Int).tmod (R : Int) = 0 := by rw [Int.tmod_eq_emod_of_nonneg (by omega)]; omega
  have i1 : ¬ A = 0 := by omega
  have i2 : ¬ R = 0 := by omega
  have i3 : ¬ (A : Int) < 1 := by omega
  have i4 : ¬ (R : Int) < 1 := by omega
  have s1 : ((A : Int) != (A : Int)) = false := by simp
  have s2 : ((C : Int) != (C : Int)) = false := by simp
  have X0 := Lib.hid (Box.new w (W : Nat) (H : Nat) (.slice (some ⟨ba, oa, none⟩) N c))
  have LB0 := Lib.hid (show Below w.heap.size w (w.alloc (.cells #[.int .i64 (W : Nat), .int .i64 (H : Nat), .slice (some ⟨ba, oa, none⟩) N c] 24)) from (Below.refl _ _).alloc (Nat.le_refl _) _)
  clear d1 d2 d3 hN
  go_enter Try.func8, Try.ntmps8
  obtain ⟨q0, q1, q2, q3, q4, q5, q6⟩ := X0.out.all
  go_wp2_with fail
  clear q0 q1 q2 q3 q4 q5 q6
  refine (HV.out _).mono ?_
  rintro e w1 ⟨rfl, hb⟩
  have X1 := Lib.hid (X0.out.below hb X0.out.lt)
  have LB1 := Lib.hid (LB0.out.trans (hb.mono LB0.out.size))
  clear hb X0 LB0
  obtain ⟨q0, q1, q2, q3, q4, q5, q6⟩ := X1.out.all
  go_wp2_with fail
  clear q0 q1 q2 q3 q4 q5 q6
  refine (HO.out _ LB1.out).mono ?_
  rintro e w2 ⟨rfl, hb⟩
  have hba := (show Below _ _ (w2.alloc (.cells #[.int .i64 (A : Nat), .int .i64 (B : Nat), .int .i64 (C : Nat)] 27)) from hb.trans (((Below.refl _ _).alloc (Nat.le_refl _) _).mono hb.size))
  have Ta2 := Lib.hid (Tri.new w2 (A : Nat) (B : Nat) (C : Nat))
  clear hb
  have X2 := Lib.hid (X1.out.below hba X1.out.lt)
  have LB2 := Lib.hid (LB1.out.trans (hba.mono LB1.out.size))
  clear hba X1 LB1
  obtain ⟨q0, q1, q2, q3, q4, q5, q6⟩ := X2.out.all
  go_wp2_with fail
  clear q0 q1 q2 q3 q4 q5 q6
  refine (HC.out _ LB2.out).mono ?_
  rintro e w3 ⟨kc, rfl, hk, hrow, hb⟩
  have hba := (show Below _ _ (w3.alloc (.cells #[.int .i64 (A : Nat), .int .i64 (C : Nat), .slice (some ⟨kc, 0, none⟩) (A * C) (A * C)] 24)) from hb.trans (((Below.refl _ _).alloc (Nat.le_refl _) _).mono hb.size))
  have Vc3 := Lib.hid (Box.new w3 (A : Nat) (C : Nat) (.slice (some ⟨kc, 0, none⟩) (A * C) (A * C)))
  have Rc3 := Lib.hid (hrow.alloc (.cells #[.int .i64 (A : Nat), .int .i64 (C : Nat), .slice (some ⟨kc, 0, none⟩) (A * C) (A * C)] 24))
  clear hb hrow hk
  have X3 := Lib.hid (X2.out.below hba X2.out.lt)
  have LB3 := Lib.hid (LB2.out.trans (hba.mono LB2.out.size))
  have Ta3 := Lib.hid (Ta2.out.below hba Ta2.out.lt)
  clear hba X2 LB2 Ta2
  obtain ⟨q0, q1, q2, q3, q4, q5, q6⟩ := X3.out.all
  obtain ⟨r0, r1, r2, r3, r4, r5⟩ := Ta3.out.all
  obtain ⟨s0, s1, s2, s3, s4, s5, s6⟩ := Vc3.out.all
  go_wp2_with fail
  clear q0 q1 q2 q3 q4 q5 q6 r0 r1 r2 r3 r4 r5 s0 s1 s2 s3 s4 s5 s6
  refine (HSp.out _ kc Rc3.out).mono ?_
  rintro e w4 ⟨js, ds, rfl, hk, hrow, hb⟩
  have hba := (show Below _ _ (w4.alloc (.cells #[.int .i64 (W : Nat), .int .i64 (H : Nat), .slice (some ⟨js, 0, none⟩) N ds] 24)) from hb.trans (((Below.refl _ _).alloc (Nat.le_refl _) _).mono hb.size))
  have Vs4 := Lib.hid (Box.new w4 (W : Nat) (H : Nat) (.slice (some ⟨js, 0, none⟩) N ds))
  have Rs4 := Lib.hid (hrow.alloc (.cells #[.int .i64 (W : Nat), .int .i64 (H : Nat), .slice (some ⟨js, 0, none⟩) N ds] 24))
  clear hb hrow hk
  have X4 := Lib.hid (X3.out.below hba X3.out.lt)
  have LB4 := Lib.hid (LB3.out.trans (hba.mono LB3.out.size))
  have Ta4 := Lib.hid (Ta3.out.below hba Ta3.out.lt)
  have Vc4 := Lib.hid (Vc3.out.below hba Vc3.out.lt)
  have Rc4 := Lib.hid (Rc3.out.below hba Rc3.out.lt)
  clear hba X3 LB3 Ta3 Vc3 Rc3
  clear Rc4
  obtain ⟨q0, q1, q2, q3, q4, q5, q6⟩ := X4.out.all
  go_wp2_with fail
  clear q0 q1 q2 q3 q4 q5 q6
  refine (HR.out _ LB4.out).mono ?_
  rintro e w5 ⟨rfl, hb⟩
  have X5 := Lib.hid (X4.out.below hb X4.out.lt)
  have LB5 := Lib.hid (LB4.out.trans (hb.mono LB4.out.size))
  have Ta5 := Lib.hid (Ta4.out.below hb Ta4.out.lt)
  have Vc5 := Lib.hid (Vc4.out.below hb Vc4.out.lt)
  have Vs5 := Lib.hid (Vs4.out.below hb Vs4.out.lt)
  have Rs5 := Lib.hid (Rs4.out.below hb Rs4.out.lt)
  clear hb X4 LB4 Ta4 Vc4 Vs4 Rs4
  obtain ⟨q0, q1, q2, q3, q4, q5, q6⟩ := X5.out.all
  obtain ⟨r0, r1, r2, r3, r4, r5⟩ := Ta5.out.all
  obtain ⟨s0, s1, s2, s3, s4, s5, s6⟩ := Vc5.out.all
  obtain ⟨t0, t1, t2, t3, t4, t5, t6⟩ := Vs5.out.all
  go_wp2_with fail
  clear q0 q1 q2 q3 q4 q5 q6 r0 r1 r2 r3 r4 r5 s0 s1 s2 s3 s4 s5 s6 t0 t1 t2 t3 t4 t5 t6
  refine (HS0.out _ LB5.out js ds Rs5.out).mono ?_
  rintro e w6 ⟨rfl, hb⟩
  have X6 := Lib.hid (X5.out.below hb X5.out.lt)
  have LB6 := Lib.hid (LB5.out.trans (hb.mono LB5.out.size))
  have Ta6 := Lib.hid (Ta5.out.below hb Ta5.out.lt)
  have Vc6 := Lib.hid (Vc5.out.below hb Vc5.out.lt)
  have Vs6 := Lib.hid (Vs5.out.below hb Vs5.out.lt)
  have Rs6 := Lib.hid (Rs5.out.below hb Rs5.out.lt)
  clear hb X5 LB5 Ta5 Vc5 Vs5 Rs5
  clear Rs6
  clear Vs6
  clear Ta6
  clear Vc6
  obtain ⟨q0, q1, q2, q3, q4, q5, q6⟩ := X6.out.all
  go_wp2_with fail
  clear q0 q1 q2 q3 q4 q5 q6
  clear m1 m2 i3 i4 s1 s2
  go_loopw [12] (fun i wr => ∃ a : Nat, 1 ≤ a ∧ a ≤ W + 1 ∧ i = .int .i64 a ∧ Hid (Box wr w.heap.size (W : Nat) (H : Nat) (.slice (some ⟨ba, oa, none⟩) N c)) ∧ Hid (Below w.heap.size w wr)) (fun i _ => W + 1 - (intOf i).toNat)
  case atStart => exact ⟨1, Nat.le_refl _, by omega, rfl, X6, LB6⟩
  case round =>
    obtain ⟨a, ha0, ha, rfl, X, LB⟩ := hrel
    obtain ⟨q0, q1, q2, q3, q4, q5, q6⟩ := X.out.all
    by_cases hla : a ≤ W
    · go_wp2
      clear q0 q1 q2 q3 q4 q5 q6
      go_loopw [13] (fun i wr => ∃ b : Nat, 1 ≤ b ∧ b ≤ H + 1 ∧ i = .int .i64 b ∧ Hid (Box wr w.heap.size (W : Nat) (H : Nat) (.slice (some ⟨ba, oa, none⟩) N c)) ∧ Hid (Below w.heap.size w wr)) (fun i _ => H + 1 - (intOf i).toNat)
      case atStart => exact ⟨1, Nat.le_refl _, by omega, rfl, X, LB⟩
      case round =>
        obtain ⟨b, hb0, hb, rfl, X, LB⟩ := hrel
        obtain ⟨q0, q1, q2, q3, q4, q5, q6⟩ := X.out.all
        by_cases hlb : b ≤ H
        · have f1 : (W : Int).tmod (a : Int) = ((W % a : Nat) : Int) := by rw [Int.tmod_eq_emod_of_nonneg (by omega)]; omega
          have f2 : (H : Int).tmod (b : Int) = ((H % b : Nat) : Int) := by rw [Int.tmod_eq_emod_of_nonneg (by omega)]; omega
          have f3 : ¬ a = 0 := by omega
          have f4 : ¬ b = 0 := by omega
          by_cases hda : W % a = 0
          · by_cases hdb : H % b = 0
            · have HDA := Lib.hid hda
              have HDB := Lib.hid hdb
              rw [hda] at f1
              rw [hdb] at f2
              clear hda hdb
              go_wp2_with fail
              clear q0 q1 q2 q3 q4 q5 q6 f1 f2
              refine (HP.out _ LB.out a b ha0 hb0 hla hlb).mono ?_
              rintro e u1 ⟨kp, rfl, hk, hrow, hbu⟩
              have RP := Lib.hid (hrow.alloc (.cells #[.int .i64 (a : Nat), .int .i64 (b : Nat), .slice (some ⟨kp, 0, none⟩) (a * b) (a * b)] 24))
              have BP := Lib.hid (Box.new u1 (a : Nat) (b : Nat) (.slice (some ⟨kp, 0, none⟩) (a * b) (a * b)))
              have X1 := Lib.hid ((X.out.below hbu X.out.lt).alloc (.cells #[.int .i64 (a : Nat), .int .i64 (b : Nat), .slice (some ⟨kp, 0, none⟩) (a * b) (a * b)] 24))
              have L1 := Lib.hid ((LB.out.trans (hbu.mono LB.out.size)).alloc (Nat.le_trans LB.out.size hbu.size) (.cells #[.int .i64 (a : Nat), .int .i64 (b : Nat), .slice (some ⟨kp, 0, none⟩) (a * b) (a * b)] 24))
              clear hk hrow hbu X LB
              go_upto_region 17 with fail
              generalize hu2 : u1.alloc (.cells #[.int .i64 (a : Nat), .int .i64 (b : Nat), .slice (some ⟨kp, 0, none⟩) (a * b) (a * b)] 24) = u2 at *
              clear hu2
              go_cut [16, 17] (fun p q wx => ∃ g j, p = .pointer (some ⟨g, 0, none⟩) ∧ q = .int .i64 0 ∧ TB u2 wx g j W H N (fun i => f (i / W % b * W + i % W % a)))
              case first =>
                have HS2 := Lib.hid (fun v (h : Below u2.heap.size u2 v) => (show v.cell? ⟨u1.heap.size, 0, none⟩ = some (.int .i64 (a : Nat)) ∧ v.cell? ⟨u1.heap.size, 1, none⟩ = some (.int .i64 (b : Nat)) ∧ v.cell? ⟨u1.heap.size, 2, none⟩ = some (.slice (some ⟨kp, 0, none⟩) (a * b) (a * b)) ∧ v.cell? ⟨w.heap.size, 0, none⟩ = some (.int .i64 (W : Nat)) ∧ v.cell? ⟨w.heap.size, 1, none⟩ = some (.int .i64 (H : Nat)) from ⟨(BP.out.below h BP.out.lt).c0, (BP.out.below h BP.out.lt).c1, (BP.out.below h BP.out.lt).c2, (X1.out.below h X1.out.lt).c0, (X1.out.below h X1.out.lt).c1⟩))
                have g1 : (W : Int).tdiv (a : Int) = ((W / a : Nat) : Int) := by rw [Int.tdiv_eq_ediv_of_nonneg (by omega), Int.natCast_ediv]
                have g2 : (H : Int).tdiv (b : Int) = ((H / b : Nat) : Int) := by rw [Int.tdiv_eq_ediv_of_nonneg (by omega), Int.natCast_ediv]
                have g5 : W / a ≤ W := Nat.div_le_self _ _
                have g6 : H / b ≤ H := Nat.div_le_self _ _
                have HTA := Lib.hid (HT.out u2.drew kp a b ha0 hb0 hla hlb HDA.out HDB.out RP.out.drew)
                have HTB := Lib.hid (HT.out (u2.alloc (.cells #[.int .i64 0, .int .i64 0, .slice none 0 0] 24)).drew kp a b ha0 hb0 hla hlb HDA.out HDB.out (RP.out.alloc _).drew)
                have sB : Hid ((u2.alloc (.cells #[.int .i64 0, .int .i64 0, .slice none 0 0] 24)).drew.heap.size = u2.heap.size + 1) := Lib.hid (by simp)
                have jB : Hid (Box (u2.alloc (.cells #[.int .i64 0, .int .i64 0, .slice none 0 0] 24)).drew u2.heap.size 0 0 (.slice none 0 0)) := Lib.hid (Box.new u2 0 0 (.slice none 0 0)).drew
                have LA := Lib.hid ((Below.refl u2.heap.size u2).drew)
                have LB2 := Lib.hid ((Below.refl u2.heap.size u2).alloc (Nat.le_refl _) (.cells #[.int .i64 0, .int .i64 0, .slice none 0 0] 24)).drew
                generalize W / a = qa at *
                generalize H / b = qb at *
                have g3 : IntKind.i64.wrap (qa : Int) = (qa : Int) := IntWalk.i64_in _ (by omega)
                have g4 : IntKind.i64.wrap (qb : Int) = (qb : Int) := IntWalk.i64_in _ (by omega)
                obtain ⟨q0, q1, q2, q3, q4, q5, q6⟩ := X1.out.all
                obtain ⟨p0, p1, p2, p3, p4, p5, p6⟩ := BP.out.all
                go_region_held3 (fun w' => w'.cell? ⟨u1.heap.size, 0, none⟩ = some (.int .i64 (a : Nat)) ∧ w'.cell? ⟨u1.heap.size, 1, none⟩ = some (.int .i64 (b : Nat)) ∧ w'.cell? ⟨u1.heap.size, 2, none⟩ = some (.slice (some ⟨kp, 0, none⟩) (a * b) (a * b)) ∧ w'.cell? ⟨w.heap.size, 0, none⟩ = some (.int .i64 (W : Nat)) ∧ w'.cell? ⟨w.heap.size, 1, none⟩ = some (.int .i64 (H : Nat)))
                  (first
                    | with_reducible exact hSu
                    | with_reducible exact HS2.out _ LA.out
                    | with_reducible exact HS2.out _ LB2.out
                    | with_reducible exact hSv _
                    | with_reducible exact hSw _ _ _)
                  (first
                    | (go_at_call 42
                       first
                         | (with_reducible refine Calls.mono HTA.out ?_
                            rintro e u3 ⟨j, rfl, hk, hrow, hbu⟩
                            have hL3 := Lib.hid (LA.out.trans (hbu.mono LA.out.size))
                            have hlt := Lib.hid hrow.lt)
                         | (with_reducible refine Calls.mono HTB.out ?_
                            rintro e u3 ⟨j, rfl, hk, hrow, hbu⟩
                            have hL3 := Lib.hid (LB2.out.trans (hbu.mono LB2.out.size))
                            have hJ := Lib.hid (jB.out.below hbu (by rw [sB.out]; omega))
                            have hne : j ≠ u2.heap.size := (by have := sB.out; omega)
                            obtain ⟨z0, z1, z2, z3, z4, z5, z6⟩ := hJ.out.all)
                       have hSu := HS2.out _ hL3.out
                       have hSv := fun o => HS2.out (u3.alloc o) (hL3.out.alloc hL3.out.size o)
                       have hSw := fun a b c => HS2.out (((u3.setCell ⟨u2.heap.size, 0, none⟩ a).setCell ⟨u2.heap.size, 1, none⟩ b).setCell ⟨u2.heap.size, 2, none⟩ c) (((hL3.out.setCell (Nat.le_refl _) a).setCell (Nat.le_refl _) b).setCell (Nat.le_refl _) c)
                       have hRow := Lib.hid hrow
                       clear hbu hrow))
                all_goals
                  go_wp2_with fail
                  go_meet
                  first
                    | exact ⟨u2.heap.size, j, rfl, rfl, hJ.out.put3 _ _ _, ((hRow.out.far hne _).far hne _).far hne _, ((hL3.out.setCell (Nat.le_refl _) _).setCell (Nat.le_refl _) _).setCell (Nat.le_refl _) _⟩
                    | exact ⟨u3.heap.size, j, rfl, rfl, Box.new _ _ _ _, hRow.out.alloc _, hL3.out.alloc hL3.out.size _⟩
              case rest =>
                obtain ⟨g, j, rfl, rfl, hTB⟩ := hcut
                have HTB := Lib.hid hTB
                clear hTB BP RP HP HT HV HO HC HR HSp HS0
                go_wp2_with fail
                have LW := Lib.hid (L1.out.trans (HTB.out.l.mono L1.out.size))
                have XW := Lib.hid (X1.out.below HTB.out.l X1.out.lt)
                clear X1 L1
                obtain ⟨I, Wf, ii, h0, hbf, hcl⟩ := family wc
                have HCL := Lib.hid hcl
                have HBF := Lib.hid hbf
                have BF := Lib.hid (fun n => LW.out.trans ((hbf n).mono LW.out.size))
                clear hbf hcl
                have p0 := fun n => ((XW.out.below (HBF.out n) XW.out.lt).all).1
                have p1 := fun n => ((XW.out.below (HBF.out n) XW.out.lt).all).2.1
                have p2 := fun n => ((XW.out.below (HBF.out n) XW.out.lt).all).2.2.1
                have o0 := fun n => ((HTB.out.b.below (HBF.out n) HTB.out.b.lt).all).1
                have o1 := fun n => ((HTB.out.b.below (HBF.out n) HTB.out.b.lt).all).2.1
                have o2 := fun n => ((HTB.out.b.below (HBF.out n) HTB.out.b.lt).all).2.2.1
                have hne : Nonempty I := ⟨ii⟩
                have k5 : (a : Int).tmod (A : Int) = ((a % A : Nat) : Int) := by rw [Int.tmod_eq_emod_of_nonneg (by omega)]; omega
                have k6 : (b : Int).tmod (R : Int) = ((b % R : Nat) : Int) := by rw [Int.tmod_eq_emod_of_nonneg (by omega)]; omega
                have HQ2 := Lib.hid (fun n (tt : Bool) (ht : tt = true ↔ (a % A = 0 ∧ b % R = 0)) => (HQ.out (Wf n) (BF.out n) a b ha0 hb0 HDA.out HDB.out j (HTB.out.r.below (HBF.out n) HTB.out.r.lt) tt ht).mono fun e w2 h => (⟨h.1, HCL.out n _ h.2⟩ : _ ∧ ∃ m, w2 = Wf m))
                by_cases ha1 : a % A = 0
                · by_cases hb1 : b % R = 0
                  · have C1 := Lib.hid (fun n => HQ2.out n true ⟨fun _ => ⟨ha1, hb1⟩, fun _ => rfl⟩)
                    rw [ha1] at k5
                    rw [hb1] at k6
                    clear ha1 hb1
                    clear HQ2
                    refine wp_region_fam Wf ii h0 (by kernel_rfl) (by kernel_rfl) ?_
                    clear h0
                    repeat (go_big_quiet_step (first | exact rfl | (go_at_call 39; with_reducible exact C1.out _)))
                    refine wpQuiet_nil ?_
                    rintro _ ⟨nq, rfl⟩
                    go_wp2
                    exact ⟨⟨b + 1, by omega, by omega, by go_num, Lib.hid (XW.out.below (HBF.out nq) XW.out.lt), Lib.hid (BF.out nq)⟩, by simp [intOf]; omega⟩
                  · have C1 := Lib.hid (fun n => HQ2.out n false ⟨fun h => (by cases h), fun h => absurd h.2 hb1⟩)
                    rw [ha1] at k5
                    generalize b % R = r2 at *
                    clear ha1
                    clear HQ2
                    refine wp_region_fam Wf ii h0 (by kernel_rfl) (by kernel_rfl) ?_
                    clear h0
                    repeat (go_big_quiet_step (first | exact rfl | (go_at_call 39; with_reducible exact C1.out _)))
                    refine wpQuiet_nil ?_
                    rintro _ ⟨nq, rfl⟩
                    go_wp2
                    exact ⟨⟨b + 1, by omega, by omega, by go_num, Lib.hid (XW.out.below (HBF.out nq) XW.out.lt), Lib.hid (BF.out nq)⟩, by simp [intOf]; omega⟩
                · have C1 := Lib.hid (fun n => HQ2.out n false ⟨fun h => (by cases h), fun h => absurd h.1 ha1⟩)
                  generalize a % A = r1 at *
                  generalize b % R = r2 at *
                  have zf0 : ((r1 : Int) == (0 : Int)) = false := by simp; omega
                  clear HQ2
                  refine wp_region_fam Wf ii h0 (by kernel_rfl) (by kernel_rfl) ?_
                  clear h0
                  repeat (go_big_quiet_step (first | exact rfl | (go_at_call 39; with_reducible exact C1.out _)))
                  refine wpQuiet_nil ?_
                  rintro _ ⟨nq, rfl⟩
                  go_wp2
                  exact ⟨⟨b + 1, by omega, by omega, by go_num, Lib.hid (XW.out.below (HBF.out nq) XW.out.lt), Lib.hid (BF.out nq)⟩, by simp [intOf]; omega⟩
            · rw [hda] at f1
              go_wp2
              exact ⟨⟨b + 1, by omega, by omega, by go_num, X, LB⟩, by simp [intOf]; omega⟩
          · go_wp2
            exact ⟨⟨b + 1, by omega, by omega, by go_num, X, LB⟩, by simp [intOf]; omega⟩
        · have e : b = H + 1 := by omega
          subst e
          go_wp2
          exact ⟨⟨a + 1, by omega, by omega, by go_num, X, LB⟩, by simp [intOf]; omega⟩
    · have e : a = W + 1 := by omega
      subst e
      go_wp2_with fail
      refine (alive6_any _).mono ?_
      rintro e w19 ⟨rfl, hb⟩
      have L9 := Lib.hid (LB.out.trans (hb.mono LB.out.size))
      clear hb
      go_wp2
      go_ret
      exact ⟨rfl, L9.out⟩

theorem spread_any (W H : Int) (A : Option Addr) (n c : Nat) (f : Nat → Bool) (w : World) (hr : Holds w w.heap.size A n f) (hc : n ≤ c) :
    Calls Try.prog 8 #[.agg #[.int .i64 W, .int .i64 H, .slice A n c]] w fun e w' => e = .returned (.bool true) ∧ Below w.heap.size w w' := by
  by_cases hv : n ≤ 100 ∧ chk W H n = 0
  · obtain ⟨W', H', rfl, rfl, k1, k2, k3, k4, k5⟩ := chk_nat hv.2
    obtain ⟨ba, oa, rfl, hb, hcs⟩ := hr.some_ (by rw [k5]; exact mul_ge k1 k3)
    exact spread_main W' H' n ba oa c f w hb k5 hc hcs k1 k2 k3 k4 hv.1
  · exact spread_bad W H A n c w (fun w => valid6_n W H A n c w hv)
end Go.Proofs.Ytjbofdgdcnfmoaa
