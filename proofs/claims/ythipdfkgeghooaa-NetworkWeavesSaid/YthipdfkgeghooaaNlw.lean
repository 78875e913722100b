/- A drawn list of points; the walk of NetworkLines. -/
import Derived.Test.YthipdfkgeghooaaNco
import Derived.Deep.SlicePairs
import Derived.OpenShut
import Derived.ProofKit
namespace Go.Proofs.Ythipdfkgeghooaa
open Go.RowKit Go.ChangeShapes Go.WideShapes Go.ChangeAt Go.Deep Go.Joins
set_option maxRecDepth 100000
set_option linter.unusedVariables false
set_option linter.unusedSimpArgs false

set_option maxRecDepth 100000 in
theorem cells52 : Try.prog.cellsOf 52 = 2 := by kernel_rfl
theorem open_points {H : Type} {enc : TypeId × Value → H} {w : World} {held : Bool} {r : Reach} {b0 : Nat} {v : Value} {d : DataW H} {p : List MemPlace}
    (hv : Value.okWide Try.prog w r b0 41 v) (h : DataW.Trod enc Try.prog w 0 (fun _ => true) held 41 v d p) :
    ∃ (A : Option Addr) (n c : Nat) (X Y : Nat → Int), v = .slice A n c ∧ PH w w.heap.size A n X Y ∧ n ≤ c := by
  obtain ⟨a0, len, cap, rfl⟩ := okWide_slice Try.underlying41 hv
  obtain ⟨fuel, hf⟩ := h
  rcases open_slice_pairs Try.underlying41 Try.underlying52 cells52 rfl rfl cells3' cells3' hf with ⟨hcs, hx⟩ | ⟨a, len', cap', m, n, V0, V1, D0, D1, P0, P1, hcs, hb, hl, hm, hmm, hx, he⟩
  · simp [Value.cells] at hcs
    obtain ⟨rfl, rfl, rfl⟩ := hcs
    exact ⟨none, 0, 0, fun _ => 0, fun _ => 0, rfl, fun h => absurd h (Nat.lt_irrefl 0), Nat.le_refl _⟩
  · simp [Value.cells] at hcs
    obtain ⟨rfl, rfl, rfl⟩ := hcs
    simp only [if_true] at hmm
    subst hmm
    obtain ⟨b, off, spot⟩ := a
    have each : ∀ i, i < len → ∃ q : Int × Int, w.cell? (Addr.add ⟨b, off, spot⟩ (i * 2)) = some (.int .i64 q.1) ∧ w.cell? (Addr.add ⟨b, off, spot⟩ (i * 2 + 1)) = some (.int .i64 q.2) := by
      intro i hi
      obtain ⟨h1, h2, h3, h4⟩ := he i (by omega)
      obtain ⟨x, e0, _, _⟩ := DataW.trod_int Try.underlying3 h3
      obtain ⟨y, e1, _, _⟩ := DataW.trod_int Try.underlying3 h4
      simp at e0 e1
      exact ⟨(x, y), by rw [h1, e0], by rw [h2, e1]⟩
    obtain ⟨G, hG⟩ := choose_lt each
    have ea : ∀ i, Addr.add ⟨b, off, none⟩ i = ⟨b, off + i, none⟩ := fun i => by unfold Addr.add; by_cases h : i = 0 <;> simp [h]
    refine ⟨_, _, _, fun i => (G i).1, fun i => (G i).2, rfl, fun h0 => ?_, hl⟩
    have hs : spot = none := by simpa [Addr.add] using World.cell?_spot (hG 0 h0).1
    subst hs
    have hl0 := (hG 0 h0).1
    rw [ea] at hl0
    refine ⟨b, off, rfl, ?_, fun i hi => ?_⟩
    · rcases Nat.lt_or_ge b w.heap.size with hb | hb
      · exact hb
      · simp [World.cell?, Array.getElem?_eq_none hb] at hl0
    · obtain ⟨h1, h2⟩ := hG i hi
      rw [ea] at h1 h2
      exact ⟨h1, h2⟩
theorem grt_no {n m : Nat} (h : grt n m = false) : n ≤ 100 ∧ m ≤ 100 := by
  unfold grt at h
  simp at h
  exact ⟨by omega, by omega⟩
set_option maxHeartbeats 3200000 in
theorem lines_any (S N : Int) (A B D : Option Addr) (n c p q m d : Nat) (f l X Y : Nat → Int) (x k : Int) (w : World) (hA : L2.Holds w w.heap.size A n f) (hB : PH w w.heap.size B p X Y) (hpq : p ≤ q) (hD : L2.Holds w w.heap.size D m l) (hd : D = none → d = 0) :
    Calls Try.prog 4 #[.agg #[.int .i64 S, .int .i64 N, .slice A n c], .int .i64 x, .slice B p q, .slice D m d, .int .i64 k] w fun e w' => e = .returned (.bool true) ∧ Below w.heap.size w w' := by
  have HG := Lib.hid (fun u => great_any S N A none n c 0 0 u)
  cases hg : grt n 0 with
  | true =>
    rw [hg] at HG
    clear hA hB hD
    have LB0 := Lib.hid (Below.refl w.heap.size w)
    have X1 := IBox.new w S N (.slice A n c)
    have X1 := Lib.hid X1
    have LB0 := Lib.hid (LB0.out.alloc LB0.out.size (.cells #[.int .i64 S, .int .i64 N, .slice A n c] 24))
    go_enter Try.func4, Try.ntmps4
    go_upto_region 1 with (fail)
    generalize w.alloc (.cells #[.int .i64 S, .int .i64 N, .slice A n c] 24) = w0 at *
    obtain ⟨q0, q1, q2, q3, q4, q5, q6⟩ := X1.out.all
    go_wp2_with fail
    clear q0 q1 q2 q3 q4 q5 q6
    with_reducible refine Calls.mono (HG.out _) ?_
    rintro e w1 ⟨rfl, hb⟩
    have LB1 := Lib.hid (LB0.out.trans (hb.mono LB0.out.size))
    clear hb
    go_wp2
    go_ret
    exact ⟨rfl, LB1.out⟩
  | false =>
    rw [hg] at HG
    have hn := (grt_no hg).1
    by_cases g1 : 100 < p
    · have u1 : decide ((100 : Int) < (p : Int)) = true := by simp; omega
      clear hA hB hD
      have LB0 := Lib.hid (Below.refl w.heap.size w)
      have X1 := IBox.new w S N (.slice A n c)
      have X1 := Lib.hid X1
      have LB0 := Lib.hid (LB0.out.alloc LB0.out.size (.cells #[.int .i64 S, .int .i64 N, .slice A n c] 24))
      go_enter Try.func4, Try.ntmps4
      go_upto_region 1 with (fail)
      generalize w.alloc (.cells #[.int .i64 S, .int .i64 N, .slice A n c] 24) = w0 at *
      obtain ⟨q0, q1, q2, q3, q4, q5, q6⟩ := X1.out.all
      go_wp2_with fail
      clear q0 q1 q2 q3 q4 q5 q6
      with_reducible refine Calls.mono (HG.out _) ?_
      rintro e w1 ⟨rfl, hb⟩
      have LB1 := Lib.hid (LB0.out.trans (hb.mono LB0.out.size))
      clear hb
      go_wp2
      go_ret
      exact ⟨rfl, LB1.out⟩
    have u1 : decide ((100 : Int) < (p : Int)) = false := by simp; omega
    by_cases g2 : 100 < m ∧ m ≤ 400
    · have u2 : decide ((100 : Int) < (m : Int)) = true := by simp; omega
      have u3 : decide ((m : Int) ≤ 400) = true := by simp; omega
      have u4 : 100 < m := g2.1
      have u5 : m ≤ 400 := g2.2
      clear hA hB hD g2
      have LB0 := Lib.hid (Below.refl w.heap.size w)
      have X1 := IBox.new w S N (.slice A n c)
      have X1 := Lib.hid X1
      have LB0 := Lib.hid (LB0.out.alloc LB0.out.size (.cells #[.int .i64 S, .int .i64 N, .slice A n c] 24))
      go_enter Try.func4, Try.ntmps4
      go_upto_region 1 with (fail)
      generalize w.alloc (.cells #[.int .i64 S, .int .i64 N, .slice A n c] 24) = w0 at *
      obtain ⟨q0, q1, q2, q3, q4, q5, q6⟩ := X1.out.all
      go_wp2_with fail
      clear q0 q1 q2 q3 q4 q5 q6
      with_reducible refine Calls.mono (HG.out _) ?_
      rintro e w1 ⟨rfl, hb⟩
      have LB1 := Lib.hid (LB0.out.trans (hb.mono LB0.out.size))
      clear hb
      go_wp2
      go_ret
      exact ⟨rfl, LB1.out⟩
    by_cases g3 : 410 < m
    · have u2 : decide ((100 : Int) < (m : Int)) = true := by simp; omega
      have u3 : decide ((m : Int) ≤ 400) = false := by simp; omega
      have u4 : 100 < m := by omega
      have u5 : ¬ m ≤ 400 := by omega
      clear hA hB hD g2
      have LB0 := Lib.hid (Below.refl w.heap.size w)
      have X1 := IBox.new w S N (.slice A n c)
      have X1 := Lib.hid X1
      have LB0 := Lib.hid (LB0.out.alloc LB0.out.size (.cells #[.int .i64 S, .int .i64 N, .slice A n c] 24))
      go_enter Try.func4, Try.ntmps4
      go_upto_region 1 with (fail)
      generalize w.alloc (.cells #[.int .i64 S, .int .i64 N, .slice A n c] 24) = w0 at *
      obtain ⟨q0, q1, q2, q3, q4, q5, q6⟩ := X1.out.all
      go_wp2_with fail
      clear q0 q1 q2 q3 q4 q5 q6
      with_reducible refine Calls.mono (HG.out _) ?_
      rintro e w1 ⟨rfl, hb⟩
      have LB1 := Lib.hid (LB0.out.trans (hb.mono LB0.out.size))
      clear hb
      go_wp2
      go_ret
      exact ⟨rfl, LB1.out⟩
    have u6 : ¬ 410 < m := g3
    obtain ⟨L1, F1, Z1, hL1, d1, d2⟩ := al_two S N n f x hn
    obtain ⟨L2', F2, Z2, hL2, o1, o2⟩ := ln_two p X Y (by omega)
    obtain ⟨L3, F3, Z3, hL3, p1, p2⟩ := tl_two m l k (by omega)
    have K1 := Lib.hid d1
    have K2 := Lib.hid d2
    have K3 := Lib.hid (fun w A c hc h => o1 w A c hc h)
    have K4 := Lib.hid o2
    have K5 := Lib.hid p1
    have K6 := Lib.hid p2
    have HA := Lib.hid hA
    have HB := Lib.hid hB
    have HD := Lib.hid hD
    have HQ := Lib.hid hpq
    clear d1 d2 o1 o2 p1 p2 hA hB hD hg hpq
    by_cases g4 : 100 < m
    · have u2 : decide ((100 : Int) < (m : Int)) = true := by simp; omega
      have u3 : decide ((m : Int) ≤ 400) = false := by simp; omega
      have u5 : ¬ m ≤ 400 := by omega
      clear g2 g3
      have LB0 := Lib.hid (Below.refl w.heap.size w)
      have X1 := IBox.new w S N (.slice A n c)
      have X1 := Lib.hid X1
      have LB0 := Lib.hid (LB0.out.alloc LB0.out.size (.cells #[.int .i64 S, .int .i64 N, .slice A n c] 24))
      have hb := bel_alloc w (.cells #[.int .i64 S, .int .i64 N, .slice A n c] 24)
      replace HA := Lib.hid ((HA.out.below hb).more hb.size)
      replace HB := Lib.hid ((HB.out.below hb).more hb.size)
      replace HD := Lib.hid ((HD.out.below hb).more hb.size)
      clear hb
      go_enter Try.func4, Try.ntmps4
      go_upto_region 1 with (fail)
      generalize w.alloc (.cells #[.int .i64 S, .int .i64 N, .slice A n c] 24) = w0 at *
      obtain ⟨q0, q1, q2, q3, q4, q5, q6⟩ := X1.out.all
      go_wp2_with fail
      clear q0 q1 q2 q3 q4 q5 q6
      with_reducible refine Calls.mono (HG.out _) ?_
      rintro e w1 ⟨rfl, hb⟩
      have LB1 := Lib.hid (LB0.out.trans (hb.mono LB0.out.size))
      replace X1 := Lib.hid (X1.out.below hb X1.out.lt)
      replace HA := Lib.hid ((HA.out.below hb).more hb.size)
      replace HB := Lib.hid ((HB.out.below hb).more hb.size)
      replace HD := Lib.hid ((HD.out.below hb).more hb.size)
      clear hb
      obtain ⟨q0, q1, q2, q3, q4, q5, q6⟩ := X1.out.all
      go_wp2_with fail
      clear q0 q1 q2 q3 q4 q5 q6
      with_reducible refine Calls.mono (K1.out _ _ _ HA.out) ?_
      rintro e w2 ⟨A1, c1, rfl, hr, hb⟩
      have LB2 := Lib.hid (LB1.out.trans (hb.mono LB1.out.size))
      replace X1 := Lib.hid (X1.out.below hb X1.out.lt)
      replace HA := Lib.hid ((HA.out.below hb).more hb.size)
      replace HB := Lib.hid ((HB.out.below hb).more hb.size)
      replace HD := Lib.hid ((HD.out.below hb).more hb.size)
      clear hb
      have R1 := Lib.hid hr
      clear hr
      obtain ⟨q0, q1, q2, q3, q4, q5, q6⟩ := X1.out.all
      go_wp2_with fail
      clear q0 q1 q2 q3 q4 q5 q6
      with_reducible refine Calls.mono (K2.out _ _ _ HA.out) ?_
      rintro e w3 ⟨A2, c2, rfl, hr, hb⟩
      have LB3 := Lib.hid (LB2.out.trans (hb.mono LB2.out.size))
      replace X1 := Lib.hid (X1.out.below hb X1.out.lt)
      replace HA := Lib.hid ((HA.out.below hb).more hb.size)
      replace HB := Lib.hid ((HB.out.below hb).more hb.size)
      replace HD := Lib.hid ((HD.out.below hb).more hb.size)
      replace R1 := Lib.hid ((R1.out.below hb).more hb.size)
      clear hb
      have R2 := Lib.hid hr
      clear hr
      obtain ⟨q0, q1, q2, q3, q4, q5, q6⟩ := X1.out.all
      go_wp2_with fail
      clear q0 q1 q2 q3 q4 q5 q6
      with_reducible refine Calls.mono (K3.out _ _ _ HQ.out HB.out) ?_
      rintro e w4 ⟨A3, c3, rfl, hr, hb⟩
      have LB4 := Lib.hid (LB3.out.trans (hb.mono LB3.out.size))
      replace X1 := Lib.hid (X1.out.below hb X1.out.lt)
      replace HA := Lib.hid ((HA.out.below hb).more hb.size)
      replace HB := Lib.hid ((HB.out.below hb).more hb.size)
      replace HD := Lib.hid ((HD.out.below hb).more hb.size)
      replace R1 := Lib.hid ((R1.out.below hb).more hb.size)
      replace R2 := Lib.hid ((R2.out.below hb).more hb.size)
      clear hb
      have R3 := Lib.hid hr
      clear hr
      obtain ⟨q0, q1, q2, q3, q4, q5, q6⟩ := X1.out.all
      go_wp2_with fail
      clear q0 q1 q2 q3 q4 q5 q6
      with_reducible refine Calls.mono (K4.out _ _ _ HB.out) ?_
      rintro e w5 ⟨A4, c4, rfl, hr, hb⟩
      have LB5 := Lib.hid (LB4.out.trans (hb.mono LB4.out.size))
      replace X1 := Lib.hid (X1.out.below hb X1.out.lt)
      replace HA := Lib.hid ((HA.out.below hb).more hb.size)
      replace HB := Lib.hid ((HB.out.below hb).more hb.size)
      replace HD := Lib.hid ((HD.out.below hb).more hb.size)
      replace R1 := Lib.hid ((R1.out.below hb).more hb.size)
      replace R2 := Lib.hid ((R2.out.below hb).more hb.size)
      replace R3 := Lib.hid ((R3.out.below hb).more hb.size)
      clear hb
      have R4 := Lib.hid hr
      clear hr
      obtain ⟨q0, q1, q2, q3, q4, q5, q6⟩ := X1.out.all
      go_wp2_with fail
      clear q0 q1 q2 q3 q4 q5 q6
      with_reducible refine Calls.mono (K5.out _ _ _ hd HD.out) ?_
      rintro e w6 ⟨A5, c5, rfl, hr, hb⟩
      have LB6 := Lib.hid (LB5.out.trans (hb.mono LB5.out.size))
      replace X1 := Lib.hid (X1.out.below hb X1.out.lt)
      replace HA := Lib.hid ((HA.out.below hb).more hb.size)
      replace HB := Lib.hid ((HB.out.below hb).more hb.size)
      replace HD := Lib.hid ((HD.out.below hb).more hb.size)
      replace R1 := Lib.hid ((R1.out.below hb).more hb.size)
      replace R2 := Lib.hid ((R2.out.below hb).more hb.size)
      replace R3 := Lib.hid ((R3.out.below hb).more hb.size)
      replace R4 := Lib.hid ((R4.out.below hb).more hb.size)
      clear hb
      have R5 := Lib.hid hr
      clear hr
      obtain ⟨q0, q1, q2, q3, q4, q5, q6⟩ := X1.out.all
      go_wp2_with fail
      clear q0 q1 q2 q3 q4 q5 q6
      with_reducible refine Calls.mono (K6.out _ _ _ hd HD.out) ?_
      rintro e w7 ⟨A6, c6, rfl, hr, hb⟩
      have LB7 := Lib.hid (LB6.out.trans (hb.mono LB6.out.size))
      replace X1 := Lib.hid (X1.out.below hb X1.out.lt)
      replace HA := Lib.hid ((HA.out.below hb).more hb.size)
      replace HB := Lib.hid ((HB.out.below hb).more hb.size)
      replace HD := Lib.hid ((HD.out.below hb).more hb.size)
      replace R1 := Lib.hid ((R1.out.below hb).more hb.size)
      replace R2 := Lib.hid ((R2.out.below hb).more hb.size)
      replace R3 := Lib.hid ((R3.out.below hb).more hb.size)
      replace R4 := Lib.hid ((R4.out.below hb).more hb.size)
      replace R5 := Lib.hid ((R5.out.below hb).more hb.size)
      clear hb
      have R6 := Lib.hid hr
      clear hr
      have zz : ∀ z : Int, (z == z) = true := fun z => by simp
      have y1 := zz Z1
      have y2 := zz Z2
      have y3 := zz Z3
      clear zz

      obtain ⟨q0, q1, q2, q3, q4, q5, q6⟩ := X1.out.all
      go_wp2_with fail
      clear q0 q1 q2 q3 q4 q5 q6
      with_reducible refine Calls.mono (lv_same (by omega) ⟨R1.out⟩ ⟨R2.out⟩ c1 c2 (fun _ _ => rfl)) ?_
      rintro e w8 ⟨rfl, hb⟩
      have LB8 := Lib.hid (LB7.out.trans (hb.mono LB7.out.size))
      replace X1 := Lib.hid (X1.out.below hb X1.out.lt)
      replace HA := Lib.hid ((HA.out.below hb).more hb.size)
      replace HB := Lib.hid ((HB.out.below hb).more hb.size)
      replace HD := Lib.hid ((HD.out.below hb).more hb.size)
      replace R1 := Lib.hid ((R1.out.below hb).more hb.size)
      replace R2 := Lib.hid ((R2.out.below hb).more hb.size)
      replace R3 := Lib.hid ((R3.out.below hb).more hb.size)
      replace R4 := Lib.hid ((R4.out.below hb).more hb.size)
      replace R5 := Lib.hid ((R5.out.below hb).more hb.size)
      replace R6 := Lib.hid ((R6.out.below hb).more hb.size)
      clear hb
      obtain ⟨q0, q1, q2, q3, q4, q5, q6⟩ := X1.out.all
      go_wp2_with fail
      clear q0 q1 q2 q3 q4 q5 q6
      with_reducible refine Calls.mono (lv_same (by omega) ⟨R3.out⟩ ⟨R4.out⟩ c3 c4 (fun _ _ => rfl)) ?_
      rintro e w9 ⟨rfl, hb⟩
      have LB9 := Lib.hid (LB8.out.trans (hb.mono LB8.out.size))
      replace X1 := Lib.hid (X1.out.below hb X1.out.lt)
      replace HA := Lib.hid ((HA.out.below hb).more hb.size)
      replace HB := Lib.hid ((HB.out.below hb).more hb.size)
      replace HD := Lib.hid ((HD.out.below hb).more hb.size)
      replace R1 := Lib.hid ((R1.out.below hb).more hb.size)
      replace R2 := Lib.hid ((R2.out.below hb).more hb.size)
      replace R3 := Lib.hid ((R3.out.below hb).more hb.size)
      replace R4 := Lib.hid ((R4.out.below hb).more hb.size)
      replace R5 := Lib.hid ((R5.out.below hb).more hb.size)
      replace R6 := Lib.hid ((R6.out.below hb).more hb.size)
      clear hb
      obtain ⟨q0, q1, q2, q3, q4, q5, q6⟩ := X1.out.all
      go_wp2_with fail
      clear q0 q1 q2 q3 q4 q5 q6
      with_reducible refine Calls.mono (lv_same (by omega) ⟨R5.out⟩ ⟨R6.out⟩ c5 c6 (fun _ _ => rfl)) ?_
      rintro e w10 ⟨rfl, hb⟩
      have LB10 := Lib.hid (LB9.out.trans (hb.mono LB9.out.size))
      replace X1 := Lib.hid (X1.out.below hb X1.out.lt)
      replace HA := Lib.hid ((HA.out.below hb).more hb.size)
      replace HB := Lib.hid ((HB.out.below hb).more hb.size)
      replace HD := Lib.hid ((HD.out.below hb).more hb.size)
      replace R1 := Lib.hid ((R1.out.below hb).more hb.size)
      replace R2 := Lib.hid ((R2.out.below hb).more hb.size)
      replace R3 := Lib.hid ((R3.out.below hb).more hb.size)
      replace R4 := Lib.hid ((R4.out.below hb).more hb.size)
      replace R5 := Lib.hid ((R5.out.below hb).more hb.size)
      replace R6 := Lib.hid ((R6.out.below hb).more hb.size)
      clear hb
      go_wp2
      go_ret
      exact ⟨rfl, LB10.out⟩
    · have u2 : decide ((100 : Int) < (m : Int)) = false := by simp; omega
      clear g2 g3
      have LB0 := Lib.hid (Below.refl w.heap.size w)
      have X1 := IBox.new w S N (.slice A n c)
      have X1 := Lib.hid X1
      have LB0 := Lib.hid (LB0.out.alloc LB0.out.size (.cells #[.int .i64 S, .int .i64 N, .slice A n c] 24))
      have hb := bel_alloc w (.cells #[.int .i64 S, .int .i64 N, .slice A n c] 24)
      replace HA := Lib.hid ((HA.out.below hb).more hb.size)
      replace HB := Lib.hid ((HB.out.below hb).more hb.size)
      replace HD := Lib.hid ((HD.out.below hb).more hb.size)
      clear hb
      go_enter Try.func4, Try.ntmps4
      go_upto_region 1 with (fail)
      generalize w.alloc (.cells #[.int .i64 S, .int .i64 N, .slice A n c] 24) = w0 at *
      obtain ⟨q0, q1, q2, q3, q4, q5, q6⟩ := X1.out.all
      go_wp2_with fail
      clear q0 q1 q2 q3 q4 q5 q6
      with_reducible refine Calls.mono (HG.out _) ?_
      rintro e w1 ⟨rfl, hb⟩
      have LB1 := Lib.hid (LB0.out.trans (hb.mono LB0.out.size))
      replace X1 := Lib.hid (X1.out.below hb X1.out.lt)
      replace HA := Lib.hid ((HA.out.below hb).more hb.size)
      replace HB := Lib.hid ((HB.out.below hb).more hb.size)
      replace HD := Lib.hid ((HD.out.below hb).more hb.size)
      clear hb
      obtain ⟨q0, q1, q2, q3, q4, q5, q6⟩ := X1.out.all
      go_wp2_with fail
      clear q0 q1 q2 q3 q4 q5 q6
      with_reducible refine Calls.mono (K1.out _ _ _ HA.out) ?_
      rintro e w2 ⟨A1, c1, rfl, hr, hb⟩
      have LB2 := Lib.hid (LB1.out.trans (hb.mono LB1.out.size))
      replace X1 := Lib.hid (X1.out.below hb X1.out.lt)
      replace HA := Lib.hid ((HA.out.below hb).more hb.size)
      replace HB := Lib.hid ((HB.out.below hb).more hb.size)
      replace HD := Lib.hid ((HD.out.below hb).more hb.size)
      clear hb
      have R1 := Lib.hid hr
      clear hr
      obtain ⟨q0, q1, q2, q3, q4, q5, q6⟩ := X1.out.all
      go_wp2_with fail
      clear q0 q1 q2 q3 q4 q5 q6
      with_reducible refine Calls.mono (K2.out _ _ _ HA.out) ?_
      rintro e w3 ⟨A2, c2, rfl, hr, hb⟩
      have LB3 := Lib.hid (LB2.out.trans (hb.mono LB2.out.size))
      replace X1 := Lib.hid (X1.out.below hb X1.out.lt)
      replace HA := Lib.hid ((HA.out.below hb).more hb.size)
      replace HB := Lib.hid ((HB.out.below hb).more hb.size)
      replace HD := Lib.hid ((HD.out.below hb).more hb.size)
      replace R1 := Lib.hid ((R1.out.below hb).more hb.size)
      clear hb
      have R2 := Lib.hid hr
      clear hr
      obtain ⟨q0, q1, q2, q3, q4, q5, q6⟩ := X1.out.all
      go_wp2_with fail
      clear q0 q1 q2 q3 q4 q5 q6
      with_reducible refine Calls.mono (K3.out _ _ _ HQ.out HB.out) ?_
      rintro e w4 ⟨A3, c3, rfl, hr, hb⟩
      have LB4 := Lib.hid (LB3.out.trans (hb.mono LB3.out.size))
      replace X1 := Lib.hid (X1.out.below hb X1.out.lt)
      replace HA := Lib.hid ((HA.out.below hb).more hb.size)
      replace HB := Lib.hid ((HB.out.below hb).more hb.size)
      replace HD := Lib.hid ((HD.out.below hb).more hb.size)
      replace R1 := Lib.hid ((R1.out.below hb).more hb.size)
      replace R2 := Lib.hid ((R2.out.below hb).more hb.size)
      clear hb
      have R3 := Lib.hid hr
      clear hr
      obtain ⟨q0, q1, q2, q3, q4, q5, q6⟩ := X1.out.all
      go_wp2_with fail
      clear q0 q1 q2 q3 q4 q5 q6
      with_reducible refine Calls.mono (K4.out _ _ _ HB.out) ?_
      rintro e w5 ⟨A4, c4, rfl, hr, hb⟩
      have LB5 := Lib.hid (LB4.out.trans (hb.mono LB4.out.size))
      replace X1 := Lib.hid (X1.out.below hb X1.out.lt)
      replace HA := Lib.hid ((HA.out.below hb).more hb.size)
      replace HB := Lib.hid ((HB.out.below hb).more hb.size)
      replace HD := Lib.hid ((HD.out.below hb).more hb.size)
      replace R1 := Lib.hid ((R1.out.below hb).more hb.size)
      replace R2 := Lib.hid ((R2.out.below hb).more hb.size)
      replace R3 := Lib.hid ((R3.out.below hb).more hb.size)
      clear hb
      have R4 := Lib.hid hr
      clear hr
      obtain ⟨q0, q1, q2, q3, q4, q5, q6⟩ := X1.out.all
      go_wp2_with fail
      clear q0 q1 q2 q3 q4 q5 q6
      with_reducible refine Calls.mono (K5.out _ _ _ hd HD.out) ?_
      rintro e w6 ⟨A5, c5, rfl, hr, hb⟩
      have LB6 := Lib.hid (LB5.out.trans (hb.mono LB5.out.size))
      replace X1 := Lib.hid (X1.out.below hb X1.out.lt)
      replace HA := Lib.hid ((HA.out.below hb).more hb.size)
      replace HB := Lib.hid ((HB.out.below hb).more hb.size)
      replace HD := Lib.hid ((HD.out.below hb).more hb.size)
      replace R1 := Lib.hid ((R1.out.below hb).more hb.size)
      replace R2 := Lib.hid ((R2.out.below hb).more hb.size)
      replace R3 := Lib.hid ((R3.out.below hb).more hb.size)
      replace R4 := Lib.hid ((R4.out.below hb).more hb.size)
      clear hb
      have R5 := Lib.hid hr
      clear hr
      obtain ⟨q0, q1, q2, q3, q4, q5, q6⟩ := X1.out.all
      go_wp2_with fail
      clear q0 q1 q2 q3 q4 q5 q6
      with_reducible refine Calls.mono (K6.out _ _ _ hd HD.out) ?_
      rintro e w7 ⟨A6, c6, rfl, hr, hb⟩
      have LB7 := Lib.hid (LB6.out.trans (hb.mono LB6.out.size))
      replace X1 := Lib.hid (X1.out.below hb X1.out.lt)
      replace HA := Lib.hid ((HA.out.below hb).more hb.size)
      replace HB := Lib.hid ((HB.out.below hb).more hb.size)
      replace HD := Lib.hid ((HD.out.below hb).more hb.size)
      replace R1 := Lib.hid ((R1.out.below hb).more hb.size)
      replace R2 := Lib.hid ((R2.out.below hb).more hb.size)
      replace R3 := Lib.hid ((R3.out.below hb).more hb.size)
      replace R4 := Lib.hid ((R4.out.below hb).more hb.size)
      replace R5 := Lib.hid ((R5.out.below hb).more hb.size)
      clear hb
      have R6 := Lib.hid hr
      clear hr
      have zz : ∀ z : Int, (z == z) = true := fun z => by simp
      have y1 := zz Z1
      have y2 := zz Z2
      have y3 := zz Z3
      clear zz

      obtain ⟨q0, q1, q2, q3, q4, q5, q6⟩ := X1.out.all
      go_wp2_with fail
      clear q0 q1 q2 q3 q4 q5 q6
      with_reducible refine Calls.mono (lv_same (by omega) ⟨R1.out⟩ ⟨R2.out⟩ c1 c2 (fun _ _ => rfl)) ?_
      rintro e w8 ⟨rfl, hb⟩
      have LB8 := Lib.hid (LB7.out.trans (hb.mono LB7.out.size))
      replace X1 := Lib.hid (X1.out.below hb X1.out.lt)
      replace HA := Lib.hid ((HA.out.below hb).more hb.size)
      replace HB := Lib.hid ((HB.out.below hb).more hb.size)
      replace HD := Lib.hid ((HD.out.below hb).more hb.size)
      replace R1 := Lib.hid ((R1.out.below hb).more hb.size)
      replace R2 := Lib.hid ((R2.out.below hb).more hb.size)
      replace R3 := Lib.hid ((R3.out.below hb).more hb.size)
      replace R4 := Lib.hid ((R4.out.below hb).more hb.size)
      replace R5 := Lib.hid ((R5.out.below hb).more hb.size)
      replace R6 := Lib.hid ((R6.out.below hb).more hb.size)
      clear hb
      obtain ⟨q0, q1, q2, q3, q4, q5, q6⟩ := X1.out.all
      go_wp2_with fail
      clear q0 q1 q2 q3 q4 q5 q6
      with_reducible refine Calls.mono (lv_same (by omega) ⟨R3.out⟩ ⟨R4.out⟩ c3 c4 (fun _ _ => rfl)) ?_
      rintro e w9 ⟨rfl, hb⟩
      have LB9 := Lib.hid (LB8.out.trans (hb.mono LB8.out.size))
      replace X1 := Lib.hid (X1.out.below hb X1.out.lt)
      replace HA := Lib.hid ((HA.out.below hb).more hb.size)
      replace HB := Lib.hid ((HB.out.below hb).more hb.size)
      replace HD := Lib.hid ((HD.out.below hb).more hb.size)
      replace R1 := Lib.hid ((R1.out.below hb).more hb.size)
      replace R2 := Lib.hid ((R2.out.below hb).more hb.size)
      replace R3 := Lib.hid ((R3.out.below hb).more hb.size)
      replace R4 := Lib.hid ((R4.out.below hb).more hb.size)
      replace R5 := Lib.hid ((R5.out.below hb).more hb.size)
      replace R6 := Lib.hid ((R6.out.below hb).more hb.size)
      clear hb
      obtain ⟨q0, q1, q2, q3, q4, q5, q6⟩ := X1.out.all
      go_wp2_with fail
      clear q0 q1 q2 q3 q4 q5 q6
      with_reducible refine Calls.mono (lv_same (by omega) ⟨R5.out⟩ ⟨R6.out⟩ c5 c6 (fun _ _ => rfl)) ?_
      rintro e w10 ⟨rfl, hb⟩
      have LB10 := Lib.hid (LB9.out.trans (hb.mono LB9.out.size))
      replace X1 := Lib.hid (X1.out.below hb X1.out.lt)
      replace HA := Lib.hid ((HA.out.below hb).more hb.size)
      replace HB := Lib.hid ((HB.out.below hb).more hb.size)
      replace HD := Lib.hid ((HD.out.below hb).more hb.size)
      replace R1 := Lib.hid ((R1.out.below hb).more hb.size)
      replace R2 := Lib.hid ((R2.out.below hb).more hb.size)
      replace R3 := Lib.hid ((R3.out.below hb).more hb.size)
      replace R4 := Lib.hid ((R4.out.below hb).more hb.size)
      replace R5 := Lib.hid ((R5.out.below hb).more hb.size)
      replace R6 := Lib.hid ((R6.out.below hb).more hb.size)
      clear hb
      go_wp2
      go_ret
      exact ⟨rfl, LB10.out⟩
end Go.Proofs.Ythipdfkgeghooaa
