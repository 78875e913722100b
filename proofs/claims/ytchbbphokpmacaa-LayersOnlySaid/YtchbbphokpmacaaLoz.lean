/- The walk of LayersOnly. -/
import Derived.Test.YtchbbphokpmacaaLoc
import Derived.Test.YtchbbphokpmacaaLbb
import Derived.Test.YtchbbphokpmacaaHvv
namespace Go.Proofs.Ytchbbphokpmacaa
open Go.RowKit
set_option maxRecDepth 100000
set_option linter.unusedVariables false
set_option linter.unusedSimpArgs false

set_option maxHeartbeats 1600000 in
theorem onl_great {W H : Int} {A : Option Addr} {n c : Nat} (E : Option Addr) (m d : Nat) (h : grt W H n = true) (w : World) :
    Calls Try.prog 12 #[.agg #[.int .i64 W, .int .i64 H, .slice A n c], .slice E m d] w fun e w' => e = .returned (.bool true) ∧ Below w.heap.size w w' := by
  have HV := Lib.hid (fun u => (show Calls Try.prog 53 #[.agg #[.int .i64 W, .int .i64 H, .slice A n c]] u fun e w' => e = .returned (.bool true) ∧ Below u.heap.size u w' from by rw [← h]; exact great_any W H A n c u))
  clear h
  have X0 := Lib.hid (Box.new w W H (.slice A n c))
  have LB0 := Lib.hid (show Below w.heap.size w (w.alloc (.cells #[.int .i64 W, .int .i64 H, (.slice A n c)] 24)) from (Below.refl _ _).alloc (Nat.le_refl _) _)
  go_enter Try.func12, Try.ntmps12
  go_wp2_with fail
  generalize w.alloc (.cells #[.int .i64 W, .int .i64 H, .slice A n c] 24) = w0 at *
  obtain ⟨q0, q1, q2, q3, q4, q5, q6⟩ := X0.out.all
  go_wp2_with fail
  clear q0 q1 q2 q3 q4 q5 q6
  with_reducible refine Calls.mono (HV.out _) ?_
  rintro e w1 ⟨rfl, hb⟩
  have X1 := Lib.hid (X0.out.below hb X0.out.lt)
  have LB1 := Lib.hid (LB0.out.trans (hb.mono LB0.out.size))
  clear hb X0 LB0 
  go_wp2
  go_ret
  exact ⟨rfl, LB1.out⟩
set_option maxHeartbeats 1600000 in
theorem onl_long {W H : Int} {A : Option Addr} {n c : Nat} (E : Option Addr) (m d : Nat) (h : grt W H n = false) (hm : 40 < m) (w : World) :
    Calls Try.prog 12 #[.agg #[.int .i64 W, .int .i64 H, .slice A n c], .slice E m d] w fun e w' => e = .returned (.bool true) ∧ Below w.heap.size w w' := by
  have y1 : (40 : Int) < (m : Int) := by omega
  have y2 : (m : Int) > 40 := by omega
  have HV := Lib.hid (fun u => (show Calls Try.prog 53 #[.agg #[.int .i64 W, .int .i64 H, .slice A n c]] u fun e w' => e = .returned (.bool false) ∧ Below u.heap.size u w' from by rw [← h]; exact great_any W H A n c u))
  clear h
  have X0 := Lib.hid (Box.new w W H (.slice A n c))
  have LB0 := Lib.hid (show Below w.heap.size w (w.alloc (.cells #[.int .i64 W, .int .i64 H, (.slice A n c)] 24)) from (Below.refl _ _).alloc (Nat.le_refl _) _)
  go_enter Try.func12, Try.ntmps12
  go_wp2_with fail
  generalize w.alloc (.cells #[.int .i64 W, .int .i64 H, .slice A n c] 24) = w0 at *
  obtain ⟨q0, q1, q2, q3, q4, q5, q6⟩ := X0.out.all
  go_wp2_with fail
  clear q0 q1 q2 q3 q4 q5 q6
  with_reducible refine Calls.mono (HV.out _) ?_
  rintro e w1 ⟨rfl, hb⟩
  have X1 := Lib.hid (X0.out.below hb X0.out.lt)
  have LB1 := Lib.hid (LB0.out.trans (hb.mono LB0.out.size))
  clear hb X0 LB0 
  go_wp2
  go_ret
  exact ⟨rfl, LB1.out⟩
set_option maxHeartbeats 1600000 in
theorem onl_err {W H : Int} {A : Option Addr} {n c : Nat} (E : Option Addr) (m d : Nat) (h : grt W H n = false) (hm : m ≤ 40) (z : Int) (w : World)
    (ha : ∀ u, Below w.heap.size w u → Calls Try.prog 44 #[.agg #[.int .i64 W, .int .i64 H, .slice A n c], .slice E m d] u (ErrGrid u z))
    (hb : ∀ u, Below w.heap.size w u → Calls Try.prog 61 #[.agg #[.int .i64 W, .int .i64 H, .slice A n c], .slice E m d] u (ErrGrid u z)) :
    Calls Try.prog 12 #[.agg #[.int .i64 W, .int .i64 H, .slice A n c], .slice E m d] w fun e w' => e = .returned (.bool true) ∧ Below w.heap.size w w' := by
  have HA := Lib.hid ha
  have HB := Lib.hid hb
  have y1 : ¬ (40 : Int) < (m : Int) := by omega
  have y2 : ¬ (m : Int) > 40 := by omega
  have zz : ((z : Int) == z) = true := by simp
  clear ha hb
  have HV := Lib.hid (fun u => (show Calls Try.prog 53 #[.agg #[.int .i64 W, .int .i64 H, .slice A n c]] u fun e w' => e = .returned (.bool false) ∧ Below u.heap.size u w' from by rw [← h]; exact great_any W H A n c u))
  clear h
  have X0 := Lib.hid (Box.new w W H (.slice A n c))
  have LB0 := Lib.hid (show Below w.heap.size w (w.alloc (.cells #[.int .i64 W, .int .i64 H, (.slice A n c)] 24)) from (Below.refl _ _).alloc (Nat.le_refl _) _)
  go_enter Try.func12, Try.ntmps12
  go_wp2_with fail
  generalize w.alloc (.cells #[.int .i64 W, .int .i64 H, .slice A n c] 24) = w0 at *
  obtain ⟨q0, q1, q2, q3, q4, q5, q6⟩ := X0.out.all
  go_wp2_with fail
  clear q0 q1 q2 q3 q4 q5 q6
  with_reducible refine Calls.mono (HV.out _) ?_
  rintro e w1 ⟨rfl, hb⟩
  have X1 := Lib.hid (X0.out.below hb X0.out.lt)
  have LB1 := Lib.hid (LB0.out.trans (hb.mono LB0.out.size))
  clear hb X0 LB0 
  obtain ⟨q0, q1, q2, q3, q4, q5, q6⟩ := X1.out.all
  go_wp2_with fail
  clear q0 q1 q2 q3 q4 q5 q6
  with_reducible refine Calls.mono (HA.out _ LB1.out) ?_
  rintro e w2 ⟨rfl, hb⟩
  have X2 := Lib.hid (X1.out.below hb X1.out.lt)
  have LB2 := Lib.hid (LB1.out.trans (hb.mono LB1.out.size))
  clear hb X1 LB1 
  have hb := bel_alloc w2 (.cells #[.int .i64 0, .int .i64 0, .slice none 0 0] 24)
  have X3 := Lib.hid (X2.out.below hb X2.out.lt)
  have LB3 := Lib.hid (LB2.out.trans (hb.mono LB2.out.size))
  have ZA := Lib.hid (Box.new w2 0 0 (.slice none 0 0))
  clear hb X2 LB2
  go_upto_region 4 with (fail)
  generalize w2.heap.size = za at *
  generalize w2.alloc (.cells #[.int .i64 0, .int .i64 0, .slice none 0 0] 24) = w3 at *
  obtain ⟨q0, q1, q2, q3, q4, q5, q6⟩ := X3.out.all
  go_wp2_with fail
  clear q0 q1 q2 q3 q4 q5 q6
  with_reducible refine Calls.mono (HB.out _ LB3.out) ?_
  rintro e w4 ⟨rfl, hb⟩
  have X4 := Lib.hid (X3.out.below hb X3.out.lt)
  have LB4 := Lib.hid (LB3.out.trans (hb.mono LB3.out.size))
  have ZA := Lib.hid (ZA.out.below hb ZA.out.lt)
  clear hb X3 LB3 
  have hb := bel_alloc w4 (.cells #[.int .i64 0, .int .i64 0, .slice none 0 0] 24)
  have X5 := Lib.hid (X4.out.below hb X4.out.lt)
  have LB5 := Lib.hid (LB4.out.trans (hb.mono LB4.out.size))
  have ZA := Lib.hid (ZA.out.below hb ZA.out.lt)
  have ZC := Lib.hid (Box.new w4 0 0 (.slice none 0 0))
  clear hb X4 LB4
  go_upto_region 5 with (fail)
  generalize w4.heap.size = zc at *
  generalize w4.alloc (.cells #[.int .i64 0, .int .i64 0, .slice none 0 0] 24) = w5 at *
  have HSM := Lib.hid (rsame_loop 0 0 0 0 none none 0 0 0 (fun _ => false) (fun _ => false) w5 (by omega) rfl rfl (fun h => absurd h (by omega)) (fun h => absurd h (by omega)))
  rw [decide_eq_true (fun i _ => rfl)] at HSM
  obtain ⟨q0, q1, q2, q3, q4, q5, q6⟩ := ZA.out.all
  obtain ⟨q7, q8, q9, q10, q11, q12, q13⟩ := ZC.out.all
  go_wp2_with fail
  clear q0 q1 q2 q3 q4 q5 q6 q7 q8 q9 q10 q11 q12 q13
  with_reducible refine Calls.mono (HSM.out) ?_
  rintro e w6 ⟨rfl, hb⟩
  have X6 := Lib.hid (X5.out.below hb X5.out.lt)
  have LB6 := Lib.hid (LB5.out.trans (hb.mono LB5.out.size))
  have ZA := Lib.hid (ZA.out.below hb ZA.out.lt)
  have ZC := Lib.hid (ZC.out.below hb ZC.out.lt)
  clear hb X5 LB5 
  go_wp2
  go_ret
  exact ⟨rfl, LB6.out⟩
set_option maxHeartbeats 1600000 in
theorem onl_ok {W H : Int} {A : Option Addr} {n c : Nat} (E : Option Addr) (m d : Nat) (h : grt W H n = false) (hm : m ≤ 40) (n1 n2 : Nat) (F : Nat → Bool) (h5 : n1 * n2 ≤ 5000) (w : World)
    (ha : ∀ u, Below w.heap.size w u → Calls Try.prog 44 #[.agg #[.int .i64 W, .int .i64 H, .slice A n c], .slice E m d] u (OkG u n1 n2 F))
    (hb : ∀ u, Below w.heap.size w u → Calls Try.prog 61 #[.agg #[.int .i64 W, .int .i64 H, .slice A n c], .slice E m d] u (OkG u n1 n2 F)) :
    Calls Try.prog 12 #[.agg #[.int .i64 W, .int .i64 H, .slice A n c], .slice E m d] w fun e w' => e = .returned (.bool true) ∧ Below w.heap.size w w' := by
  have HA := Lib.hid ha
  have HB := Lib.hid hb
  have y1 : ¬ (40 : Int) < (m : Int) := by omega
  have y2 : ¬ (m : Int) > 40 := by omega
  clear ha hb
  have HV := Lib.hid (fun u => (show Calls Try.prog 53 #[.agg #[.int .i64 W, .int .i64 H, .slice A n c]] u fun e w' => e = .returned (.bool false) ∧ Below u.heap.size u w' from by rw [← h]; exact great_any W H A n c u))
  clear h
  have X0 := Lib.hid (Box.new w W H (.slice A n c))
  have LB0 := Lib.hid (show Below w.heap.size w (w.alloc (.cells #[.int .i64 W, .int .i64 H, (.slice A n c)] 24)) from (Below.refl _ _).alloc (Nat.le_refl _) _)
  unfold OkG at HA HB
  generalize n1 * n2 = n12 at *
  go_enter Try.func12, Try.ntmps12
  go_wp2_with fail
  generalize w.alloc (.cells #[.int .i64 W, .int .i64 H, .slice A n c] 24) = w0 at *
  obtain ⟨q0, q1, q2, q3, q4, q5, q6⟩ := X0.out.all
  go_wp2_with fail
  clear q0 q1 q2 q3 q4 q5 q6
  with_reducible refine Calls.mono (HV.out _) ?_
  rintro e w1 ⟨rfl, hb⟩
  have X1 := Lib.hid (X0.out.below hb X0.out.lt)
  have LB1 := Lib.hid (LB0.out.trans (hb.mono LB0.out.size))
  clear hb X0 LB0 
  obtain ⟨q0, q1, q2, q3, q4, q5, q6⟩ := X1.out.all
  go_wp2_with fail
  clear q0 q1 q2 q3 q4 q5 q6
  with_reducible refine Calls.mono (HA.out _ LB1.out) ?_
  rintro e w2 ⟨Ao, co, rfl, _, hho, hb⟩
  have X2 := Lib.hid (X1.out.below hb X1.out.lt)
  have LB2 := Lib.hid (LB1.out.trans (hb.mono LB1.out.size))
  clear hb X1 LB1 
  have HO := Lib.hid (show LVb w2 Ao n12 F from ⟨hho⟩)
  clear hho
  have hb := bel_alloc w2 (.cells #[.int .i64 (n1 : Nat), .int .i64 (n2 : Nat), .slice Ao n12 co] 24)
  have X3 := Lib.hid (X2.out.below hb X2.out.lt)
  have LB3 := Lib.hid (LB2.out.trans (hb.mono LB2.out.size))
  have HO := Lib.hid (HO.out.below hb)
  have ZA := Lib.hid (Box.new w2 (n1 : Nat) (n2 : Nat) (.slice Ao n12 co))
  clear hb X2 LB2
  go_upto_region 4 with (fail)
  generalize w2.heap.size = za at *
  generalize w2.alloc (.cells #[.int .i64 (n1 : Nat), .int .i64 (n2 : Nat), .slice Ao n12 co] 24) = w3 at *
  obtain ⟨q0, q1, q2, q3, q4, q5, q6⟩ := X3.out.all
  go_wp2_with fail
  clear q0 q1 q2 q3 q4 q5 q6
  with_reducible refine Calls.mono (HB.out _ LB3.out) ?_
  rintro e w4 ⟨Aq, cq, rfl, _, hho, hb⟩
  have X4 := Lib.hid (X3.out.below hb X3.out.lt)
  have LB4 := Lib.hid (LB3.out.trans (hb.mono LB3.out.size))
  have HO := Lib.hid (HO.out.below hb)
  have ZA := Lib.hid (ZA.out.below hb ZA.out.lt)
  clear hb X3 LB3 
  have HQ := Lib.hid (show LVb w4 Aq n12 F from ⟨hho⟩)
  clear hho
  have hb := bel_alloc w4 (.cells #[.int .i64 (n1 : Nat), .int .i64 (n2 : Nat), .slice Aq n12 cq] 24)
  have X5 := Lib.hid (X4.out.below hb X4.out.lt)
  have LB5 := Lib.hid (LB4.out.trans (hb.mono LB4.out.size))
  have HO := Lib.hid (HO.out.below hb)
  have ZA := Lib.hid (ZA.out.below hb ZA.out.lt)
  have HQ := Lib.hid (HQ.out.below hb)
  have ZC := Lib.hid (Box.new w4 (n1 : Nat) (n2 : Nat) (.slice Aq n12 cq))
  clear hb X4 LB4
  go_upto_region 5 with (fail)
  generalize w4.heap.size = zc at *
  generalize w4.alloc (.cells #[.int .i64 (n1 : Nat), .int .i64 (n2 : Nat), .slice Aq n12 cq] 24) = w5 at *
  have HSM := Lib.hid (rsame_loop (n1 : Nat) (n2 : Nat) (n1 : Nat) (n2 : Nat) Ao Aq n12 co cq F F w5 h5 rfl rfl HO.out.h HQ.out.h)
  rw [decide_eq_true (fun i _ => rfl)] at HSM
  clear HO HQ
  obtain ⟨q0, q1, q2, q3, q4, q5, q6⟩ := ZA.out.all
  obtain ⟨q7, q8, q9, q10, q11, q12, q13⟩ := ZC.out.all
  go_wp2_with fail
  clear q0 q1 q2 q3 q4 q5 q6 q7 q8 q9 q10 q11 q12 q13
  with_reducible refine Calls.mono (HSM.out) ?_
  rintro e w6 ⟨rfl, hb⟩
  have X6 := Lib.hid (X5.out.below hb X5.out.lt)
  have LB6 := Lib.hid (LB5.out.trans (hb.mono LB5.out.size))
  have ZA := Lib.hid (ZA.out.below hb ZA.out.lt)
  have ZC := Lib.hid (ZC.out.below hb ZC.out.lt)
  clear hb X5 LB5 
  go_wp2
  go_ret
  exact ⟨rfl, LB6.out⟩
theorem ronly_short2 (W H : Nat) (A : Option Addr) (c : Nat) (g : Nat → Bool) (E : Option Addr) (m d : Nat) (s : Nat → Int) (w : World) (hg : Holds w w.heap.size A (W * H) g) (hW0 : 1 ≤ W) (hW : W ≤ 64) (hH0 : 1 ≤ H) (hH : H ≤ 64) (hr : L2.Holds w w.heap.size E m s) (hs : setB (W + H) m s = true)
    (h0 : (lEn W (setL m s)).length = 0 ∨ (lPi W (setL m s)).length = 0) :
    Calls Try.prog 61 #[.agg #[.int .i64 (W : Nat), .int .i64 (H : Nat), .slice A (W * H) c], .slice E m d] w (ErrGrid w 22) := by
  have hm := setB_len hs
  have h9 := ronly_short W H A c g (setL m s) E d w hg hW0 hW hH0 hH (by rw [setL_len]; omega) (setL_ll hs hr) (fun b hb => by have := setL_lt hs b hb; omega) (setL_set hs) h0
  rwa [setL_len] at h9
theorem ronly_ok (W H : Nat) (A : Option Addr) (c : Nat) (g : Nat → Bool) (E : Option Addr) (m d : Nat) (s : Nat → Int) (w : World) (hg : Holds w w.heap.size A (W * H) g) (hW0 : 1 ≤ W) (hW : W ≤ 64) (hH0 : 1 ≤ H) (hH : H ≤ 64) (hr : L2.Holds w w.heap.size E m s) (hs : setB (W + H) m s = true) (hm40 : m ≤ 40)
    (h1 : 0 < (lEn W (setL m s)).length) (h2 : 0 < (lPi W (setL m s)).length) :
    Calls Try.prog 61 #[.agg #[.int .i64 (W : Nat), .int .i64 (H : Nat), .slice A (W * H) c], .slice E m d] w (OkG w (lEn W (setL m s)).length (lPi W (setL m s)).length (onF W g (lEn W (setL m s)) (lPi W (setL m s)))) := by
  have hm := setB_len hs
  have h9 := ronly_n W H A c g (setL m s) E d w hg hW0 hW hH0 hH (by rw [setL_len]; omega) (setL_ll hs hr) (fun b hb => by have := setL_lt hs b hb; omega) (setL_lt hs) (setL_set hs) h1 h2 (by rw [setL_len]; omega)
  rwa [setL_len] at h9
theorem only11_any (W H : Int) (A : Option Addr) (n c : Nat) (f : Nat → Bool) (E : Option Addr) (m d : Nat) (s : Nat → Int) (w : World) (hg : Holds w w.heap.size A n f) (hs : L2.Holds w w.heap.size E m s) :
    Calls Try.prog 12 #[.agg #[.int .i64 W, .int .i64 H, .slice A n c], .slice E m d] w fun e w' => e = .returned (.bool true) ∧ Below w.heap.size w w' := by
  by_cases hgr : grt W H n = true
  · exact onl_great E m d hgr w
  have hgf : grt W H n = false := by simpa using hgr
  by_cases hm : 40 < m
  · exact onl_long E m d hgf hm w
  have hn200 : n ≤ 200 := by
    unfold grt at hgf
    simp at hgf
    omega
  by_cases hz : chk W H n = 0
  · obtain ⟨x, y, rfl, rfl, rfl, h1, h2, h3, h4⟩ := chk_nat hz
    by_cases hS : setB (x + y) m s = true
    · by_cases h0 : (lEn x (setL m s)).length = 0 ∨ (lPi x (setL m s)).length = 0
      · exact onl_err E m d hgf (by omega) 22 w (fun u h => only_short x y A c f E m d s u ((hg.below h).more h.size) h1 h2 h3 h4 ((hs.below h).more h.size) hS h0) (fun u h => ronly_short2 x y A c f E m d s u ((hg.below h).more h.size) h1 h2 h3 h4 ((hs.below h).more h.size) hS h0)
      · have hl := lens x (setL m s)
        rw [setL_len] at hl
        exact onl_ok E m d hgf (by omega) _ _ _ (by have := Nat.mul_le_mul (show (lEn x (setL m s)).length ≤ 40 by omega) (show (lPi x (setL m s)).length ≤ 40 by omega); omega) w (fun u h => only_ok x y A c f E m d s u ((hg.below h).more h.size) h1 h2 h3 h4 ((hs.below h).more h.size) hS (by omega) (by omega)) (fun u h => ronly_ok x y A c f E m d s u ((hg.below h).more h.size) h1 h2 h3 h4 ((hs.below h).more h.size) hS (by omega) (by omega) (by omega))
    · have hS' : setB (x + y) m s = false := by simpa using hS
      exact onl_err E m d hgf (by omega) 2 w (fun u h => ponly_no x y A c f E m d s u ((hg.below h).more h.size) h1 h2 h3 h4 (by omega) ((hs.below h).more h.size) hS') (fun u h => ronly_no x y A c E m d s u h1 h2 h3 h4 (by omega) ((hs.below h).more h.size) hS')
  · exact onl_err E m d hgf (by omega) _ w (fun u _ => ponly_err E m d _ (by omega) rfl (by simpa using hz) u) (fun u _ => ronly_err E m d _ (by omega) rfl (by simpa using hz) u)
end Go.Proofs.Ytchbbphokpmacaa
