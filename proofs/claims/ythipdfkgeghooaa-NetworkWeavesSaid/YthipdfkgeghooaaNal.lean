/- Allowed and Telescope of the program. -/
import Derived.Test.YthipdfkgeghooaaNdr
namespace Go.Proofs.Ythipdfkgeghooaa
open Go.RowKit
set_option maxRecDepth 100000
set_option linter.unusedVariables false
set_option linter.unusedSimpArgs false

set_option maxHeartbeats 800000 in
theorem al_bad (S N : Int) (A : Option Addr) (n c : Nat) (f : Nat → Int) (x : Int) (w : World) (hn : n ≤ 100000) (hf : L2.Holds w w.heap.size A n f) (hz : nck S N n f = 8) :
    Calls Try.prog 21 #[.agg #[.int .i64 S, .int .i64 N, .slice A n c], .int .i64 x] w fun e w' => e = .returned (.tuple #[.slice none 0 0, .int .i64 8]) ∧ Below w.heap.size w w' := by
  have HC := Lib.hid (fun u (hu : Below w.heap.size w u) => nck_any S N A n c f u hn ((hf.below hu).more hu.size))
  rw [hz] at HC
  clear hf hz
  have z8 : ((8 : Int) != 0) = true := rfl
  have LB0 := Lib.hid (Below.refl w.heap.size w)
  have X1 := IBox.new w S N (.slice A n c)
  have X1 := Lib.hid X1
  have LB0 := Lib.hid (LB0.out.alloc LB0.out.size (.cells #[.int .i64 S, .int .i64 N, .slice A n c] 24))
  go_enter Try.func21, Try.ntmps21
  go_upto_region 1 with (fail)
  generalize w.alloc (.cells #[.int .i64 S, .int .i64 N, .slice A n c] 24) = w0 at *
  obtain ⟨q0, q1, q2, q3, q4, q5, q6⟩ := X1.out.all
  go_wp2_with fail
  clear q0 q1 q2 q3 q4 q5 q6
  with_reducible refine Calls.mono (HC.out _ LB0.out) ?_
  rintro e w1 ⟨rfl, hb⟩
  have LB1 := Lib.hid (LB0.out.trans (hb.mono LB0.out.size))
  have X1 := Lib.hid (X1.out.below hb X1.out.lt)
  clear hb LB0
  go_wp2
  refine bodyPost_ret (v := .tuple #[.slice none 0 0, .int .i64 8]) (by simp [results, Try.results21, go_sem]) rfl ?_
  exact ⟨rfl, LB1.out⟩
set_option maxHeartbeats 800000 in
theorem al_arg (S N : Int) (A : Option Addr) (n c : Nat) (f : Nat → Int) (x : Int) (w : World) (hn : n ≤ 100000) (hf : L2.Holds w w.heap.size A n f) (hz : nck S N n f = 0) (hx : x < 0 ∨ 64 ≤ x) :
    Calls Try.prog 21 #[.agg #[.int .i64 S, .int .i64 N, .slice A n c], .int .i64 x] w fun e w' => e = .returned (.tuple #[.slice none 0 0, .int .i64 2]) ∧ Below w.heap.size w w' := by
  have HC := Lib.hid (fun u (hu : Below w.heap.size w u) => nck_any S N A n c f u hn ((hf.below hu).more hu.size))
  rw [hz] at HC
  clear hf hz
  have z0 : ((0 : Int) != 0) = false := rfl
  by_cases h1 : x < 0
  · have v1 : decide (x < 0) = true := decide_eq_true h1
    clear hx
    have LB0 := Lib.hid (Below.refl w.heap.size w)
    have X1 := IBox.new w S N (.slice A n c)
    have X1 := Lib.hid X1
    have LB0 := Lib.hid (LB0.out.alloc LB0.out.size (.cells #[.int .i64 S, .int .i64 N, .slice A n c] 24))
    go_enter Try.func21, Try.ntmps21
    go_upto_region 1 with (fail)
    generalize w.alloc (.cells #[.int .i64 S, .int .i64 N, .slice A n c] 24) = w0 at *
    obtain ⟨q0, q1, q2, q3, q4, q5, q6⟩ := X1.out.all
    go_wp2_with fail
    clear q0 q1 q2 q3 q4 q5 q6
    with_reducible refine Calls.mono (HC.out _ LB0.out) ?_
    rintro e w1 ⟨rfl, hb⟩
    have LB1 := Lib.hid (LB0.out.trans (hb.mono LB0.out.size))
    have X1 := Lib.hid (X1.out.below hb X1.out.lt)
    clear hb LB0
    go_wp2
    refine bodyPost_ret (v := .tuple #[.slice none 0 0, .int .i64 2]) (by simp [results, Try.results21, go_sem]) rfl ?_
    exact ⟨rfl, LB1.out⟩
  · have v1 : decide (x < 0) = false := decide_eq_false h1
    have v2 : decide (64 ≤ x) = true := decide_eq_true (by omega)
    clear hx
    have LB0 := Lib.hid (Below.refl w.heap.size w)
    have X1 := IBox.new w S N (.slice A n c)
    have X1 := Lib.hid X1
    have LB0 := Lib.hid (LB0.out.alloc LB0.out.size (.cells #[.int .i64 S, .int .i64 N, .slice A n c] 24))
    go_enter Try.func21, Try.ntmps21
    go_upto_region 1 with (fail)
    generalize w.alloc (.cells #[.int .i64 S, .int .i64 N, .slice A n c] 24) = w0 at *
    obtain ⟨q0, q1, q2, q3, q4, q5, q6⟩ := X1.out.all
    go_wp2_with fail
    clear q0 q1 q2 q3 q4 q5 q6
    with_reducible refine Calls.mono (HC.out _ LB0.out) ?_
    rintro e w1 ⟨rfl, hb⟩
    have LB1 := Lib.hid (LB0.out.trans (hb.mono LB0.out.size))
    have X1 := Lib.hid (X1.out.below hb X1.out.lt)
    clear hb LB0
    go_wp2
    refine bodyPost_ret (v := .tuple #[.slice none 0 0, .int .i64 2]) (by simp [results, Try.results21, go_sem]) rfl ?_
    exact ⟨rfl, LB1.out⟩
set_option maxHeartbeats 1600000 in
theorem al_ok (S N n : Nat) (A : Option Addr) (c : Nat) (b : Nat → Nat) (x : Nat) (hO : NOk S N n b) (hx : x < 64) (w : World) (hb : NH w A n b) :
    Calls Try.prog 21 #[.agg #[.int .i64 (S : Nat), .int .i64 (N : Nat), .slice A n c], .int .i64 (x : Nat)] w fun e w' => ∃ D k, e = .returned (.tuple #[.slice D (S / N) k, .int .i64 0]) ∧ L2.Holds w' w'.heap.size D (S / N) (cls N (b (x % n))) ∧ Below w.heap.size w w' := by
  have HC := Lib.hid (fun u (hu : Below w.heap.size w u) => nck_any (S : Nat) (N : Nat) A n c (fun i => ((b i : Nat) : Int)) u (by have := hO.l1; omega) ((hb.below hu).more hu.size))
  rw [nck_zero hO (fun _ _ => rfl)] at HC
  have HR := Lib.hid (fun u (hu : Below w.heap.size w u) => rest_any S N n A c b x u hO.l0 hO.l1 ((hb.below hu).more hu.size))
  have hrr : b (x % n) < N := hO.b _ (Nat.mod_lt _ (by have := hO.l0; omega))
  have HSF := Lib.hid (fun u => sof_any S N n A c (b (x % n)) u hO.n0 (by have := hO.ns; have := hO.s1; omega) hO.s1 hO.dv hrr)
  clear hO hb hrr
  generalize b (x % n) = r at *
  have z0 : ((0 : Int) != 0) = false := rfl
  have v1 : decide ((x : Int) < 0) = false := by simp
  have v2 : decide ((64 : Int) ≤ (x : Int)) = false := by simp; omega
  have LB0 := Lib.hid (Below.refl w.heap.size w)
  have X1 := IBox.new w (S : Nat) (N : Nat) (.slice A n c)
  have X1 := Lib.hid X1
  have LB0 := Lib.hid (LB0.out.alloc LB0.out.size (.cells #[.int .i64 (S : Nat), .int .i64 (N : Nat), .slice A n c] 24))
  go_enter Try.func21, Try.ntmps21
  go_upto_region 1 with (fail)
  generalize w.alloc (.cells #[.int .i64 (S : Nat), .int .i64 (N : Nat), .slice A n c] 24) = w0 at *
  obtain ⟨q0, q1, q2, q3, q4, q5, q6⟩ := X1.out.all
  go_wp2_with fail
  clear q0 q1 q2 q3 q4 q5 q6
  with_reducible refine Calls.mono (HC.out _ LB0.out) ?_
  rintro e w1 ⟨rfl, hb⟩
  have LB1 := Lib.hid (LB0.out.trans (hb.mono LB0.out.size))
  have X1 := Lib.hid (X1.out.below hb X1.out.lt)
  clear hb LB0
  have HS := Lib.hid (fun (u : World) (hb : Below w1.heap.size w1 u) => (X1.out.below hb X1.out.lt).all)
  have D0 := Lib.hid ((Below.refl w1.heap.size w1).drew)
  have HRR := Lib.hid (fun u (hu : Below w1.heap.size w1 u) => HR.out u (LB1.out.trans (hu.mono LB1.out.size)))
  go_wp2
  go_region_held3 (fun u => u.cell? ⟨w.heap.size, 0, none⟩ = some (.int .i64 (S : Nat)) ∧ u.cell? ⟨w.heap.size, 1, none⟩ = some (.int .i64 (N : Nat)) ∧ u.cell? ⟨w.heap.size, 2, none⟩ = some (.slice A n c) ∧ u.frozen? ⟨w.heap.size, 0, none⟩ = false ∧ u.frozen? ⟨w.heap.size, 1, none⟩ = false ∧ u.frozen? ⟨w.heap.size, 2, none⟩ = false ∧ w.heap.size < u.heap.size)
    (first | with_reducible exact HS.out _ D0.out | with_reducible exact HS.out _ HBp.out | with_reducible exact HS.out _ HBq.out)
    (first
      | (go_at_call 46
         with_reducible refine Calls.mono (HRR.out _ D0.out) ?_
         rintro e up ⟨rfl, hbp⟩
         have HBp := Lib.hid (D0.out.trans (hbp.mono D0.out.size)))
      | (go_at_call 40
         with_reducible refine Calls.mono (HSF.out _) ?_
         rintro e uq ⟨Dq, kq, rfl, hq0, hq1, hbq⟩
         have HBq := Lib.hid (HBp.out.trans (hbq.mono HBp.out.size))
         have HQ1 := Lib.hid hq1))
  all_goals
    have LBq := Lib.hid (LB1.out.trans (HBq.out.mono LB1.out.size))
    go_wp2
    refine bodyPost_ret (v := .tuple #[.slice Dq (S / N) kq, .int .i64 0]) (by simp [results, Try.results21, go_sem]) rfl ?_
    exact ⟨Dq, kq, rfl, HQ1.out, LBq.out⟩
end Go.Proofs.Ythipdfkgeghooaa
