/- The shafts of an end: the program and the reference. -/
import Derived.Test.YthipdfkgeghooaaNrf
import Derived.BigRegion
namespace Go.Proofs.Ythipdfkgeghooaa
open Go.RowKit
set_option maxRecDepth 100000
set_option linter.unusedVariables false
set_option linter.unusedSimpArgs false

/-- The base lies in memory. -/
def NH (w : World) (A : Option Addr) (n : Nat) (b : Nat → Nat) : Prop := L2.Holds w w.heap.size A n (fun i => ((b i : Nat) : Int))
theorem NH.next {w w' : World} {A : Option Addr} {n : Nat} {b : Nat → Nat} (h : NH w A n b) (hb : Below w.heap.size w w') : NH w' A n b := (h.below hb).more hb.size
theorem tmod_nat (x n : Nat) : ((x : Nat) : Int).tmod ((n : Nat) : Int) = ((x % n : Nat) : Int) := rfl
set_option maxHeartbeats 400000 in
theorem rest_any (S N n : Nat) (A : Option Addr) (c : Nat) (b : Nat → Nat) (x : Nat) (w : World) (hn : 1 ≤ n) (hn2 : n ≤ 64) (hb : NH w A n b) :
    Calls Try.prog 46 #[.agg #[.int .i64 (S : Nat), .int .i64 (N : Nat), .slice A n c], .int .i64 (x : Nat)] w fun e w' => e = .returned (.int .i64 ((b (x % n) : Nat) : Int)) ∧ Below w.heap.size w w' := by
  have m1 : x % n < n := Nat.mod_lt _ (by omega)
  have z3 := tmod_nat x n
  obtain ⟨bb, o, rfl, hl, hc⟩ := hb (by omega)
  have a0 : w.cell? ⟨bb, o + x % n, none⟩ = some (.int .i64 ((b (x % n) : Nat) : Int)) := hc (x % n) m1
  clear hc hb
  generalize b (x % n) = v at *
  generalize x % n = m at *
  have z1 : ¬ n = 0 := by omega
  have z4 : (m : Int) < (n : Int) := by omega
  have z5 : (0 : Int) ≤ (m : Int) := by omega
  have LB0 := Lib.hid (Below.refl w.heap.size w)
  have X1 := IBox.new w (S : Nat) (N : Nat) (.slice (some ⟨bb, o, none⟩) n c)
  have X1 := Lib.hid X1
  have LB0 := Lib.hid (LB0.out.alloc LB0.out.size (.cells #[.int .i64 (S : Nat), .int .i64 (N : Nat), .slice (some ⟨bb, o, none⟩) n c] 24))
  go_enter Try.func46, Try.ntmps46
  go_upto_region 1 with (fail)
  generalize w.alloc (.cells #[.int .i64 (S : Nat), .int .i64 (N : Nat), .slice (some ⟨bb, o, none⟩) n c] 24) = w0 at *
  have a1 : w0.cell? ⟨bb, o + m, none⟩ = some (.int .i64 (v : Nat)) := (LB0.out.cell (p := ⟨bb, o + m, none⟩) hl).trans a0
  clear a0
  obtain ⟨q0, q1, q2, q3, q4, q5, q6⟩ := X1.out.all
  go_wp2
  go_quiet (fail)
  go_wp2
  go_ret
  exact ⟨rfl, Go.Proofs.below_drewN' LB0.out _⟩
/-- Whether an end is allowed on a shaft. -/
def isB (S N r s : Nat) : Bool := decide (s < S ∧ s % N = r)
set_option maxHeartbeats 400000 in
theorem is_any (S N n : Nat) (A : Option Addr) (c : Nat) (b : Nat → Nat) (x s : Nat) (w : World) (hN : 1 ≤ N) (hn : 1 ≤ n) (hn2 : n ≤ 64) (hb : NH w A n b) :
    Calls Try.prog 43 #[.agg #[.int .i64 (S : Nat), .int .i64 (N : Nat), .slice A n c], .int .i64 (x : Nat), .int .i64 (s : Nat)] w fun e w' => e = .returned (.bool (isB S N (b (x % n)) s)) ∧ Below w.heap.size w w' := by
  have m1 : x % n < n := Nat.mod_lt _ (by omega)
  have z3 := tmod_nat x n
  have z6 := tmod_nat s N
  obtain ⟨bb, o, rfl, hl, hc⟩ := hb (by omega)
  have a0 : w.cell? ⟨bb, o + x % n, none⟩ = some (.int .i64 ((b (x % n) : Nat) : Int)) := hc (x % n) m1
  clear hc hb
  generalize b (x % n) = v at *
  generalize x % n = m at *
  have z1 : ¬ n = 0 := by omega
  have z2 : ¬ N = 0 := by omega
  have z4 : (m : Int) < (n : Int) := by omega
  have z5 : (0 : Int) ≤ (m : Int) := by omega
  by_cases h1 : s < S
  · have y1 : decide ((s : Int) < (S : Int)) = true := by simp; exact h1
    by_cases h2 : s % N = v
    · have y2 : (((s % N : Nat) : Int) == (v : Int)) = true := by rw [h2]; simp
      generalize hsm : s % N = sm at *
      have HSM := Lib.hid hsm
      have Hr := Lib.hid (show isB S N v s = true from by unfold isB; rw [HSM.out]; exact decide_eq_true ⟨h1, h2⟩)
      have LB0 := Lib.hid (Below.refl w.heap.size w)
      have X1 := IBox.new w (S : Nat) (N : Nat) (.slice (some ⟨bb, o, none⟩) n c)
      have X1 := Lib.hid X1
      have LB0 := Lib.hid (LB0.out.alloc LB0.out.size (.cells #[.int .i64 (S : Nat), .int .i64 (N : Nat), .slice (some ⟨bb, o, none⟩) n c] 24))
      go_enter Try.func43, Try.ntmps43
      go_upto_region 1 with (fail)
      generalize w.alloc (.cells #[.int .i64 (S : Nat), .int .i64 (N : Nat), .slice (some ⟨bb, o, none⟩) n c] 24) = w0 at *
      have a1 : w0.cell? ⟨bb, o + m, none⟩ = some (.int .i64 (v : Nat)) := (LB0.out.cell (p := ⟨bb, o + m, none⟩) hl).trans a0
      clear a0 hsm h2
      obtain ⟨q0, q1, q2, q3, q4, q5, q6⟩ := X1.out.all
      go_wp2
      go_quiet (fail)
      go_wp2
      go_ret
      exact ⟨by rw [Hr.out]; first | rfl | (simp; omega), Go.Proofs.below_drewN' LB0.out _⟩
    · have y2 : (((s % N : Nat) : Int) == (v : Int)) = false := by simp; omega
      generalize hsm : s % N = sm at *
      have HSM := Lib.hid hsm
      have Hr := Lib.hid (show isB S N v s = false from by unfold isB; rw [HSM.out]; exact decide_eq_false fun h => h2 h.2)
      have LB0 := Lib.hid (Below.refl w.heap.size w)
      have X1 := IBox.new w (S : Nat) (N : Nat) (.slice (some ⟨bb, o, none⟩) n c)
      have X1 := Lib.hid X1
      have LB0 := Lib.hid (LB0.out.alloc LB0.out.size (.cells #[.int .i64 (S : Nat), .int .i64 (N : Nat), .slice (some ⟨bb, o, none⟩) n c] 24))
      go_enter Try.func43, Try.ntmps43
      go_upto_region 1 with (fail)
      generalize w.alloc (.cells #[.int .i64 (S : Nat), .int .i64 (N : Nat), .slice (some ⟨bb, o, none⟩) n c] 24) = w0 at *
      have a1 : w0.cell? ⟨bb, o + m, none⟩ = some (.int .i64 (v : Nat)) := (LB0.out.cell (p := ⟨bb, o + m, none⟩) hl).trans a0
      clear a0 hsm h2
      obtain ⟨q0, q1, q2, q3, q4, q5, q6⟩ := X1.out.all
      go_wp2
      go_quiet (fail)
      go_wp2
      go_ret
      exact ⟨by rw [Hr.out]; first | rfl | (simp; omega), Go.Proofs.below_drewN' LB0.out _⟩
  · have y1 : decide ((s : Int) < (S : Int)) = false := by simp; omega
    have Hr := Lib.hid (show isB S N v s = false from decide_eq_false fun h => h1 h.1)
    have LB0 := Lib.hid (Below.refl w.heap.size w)
    have X1 := IBox.new w (S : Nat) (N : Nat) (.slice (some ⟨bb, o, none⟩) n c)
    have X1 := Lib.hid X1
    have LB0 := Lib.hid (LB0.out.alloc LB0.out.size (.cells #[.int .i64 (S : Nat), .int .i64 (N : Nat), .slice (some ⟨bb, o, none⟩) n c] 24))
    go_enter Try.func43, Try.ntmps43
    go_upto_region 1 with (fail)
    generalize w.alloc (.cells #[.int .i64 (S : Nat), .int .i64 (N : Nat), .slice (some ⟨bb, o, none⟩) n c] 24) = w0 at *
    have a1 : w0.cell? ⟨bb, o + m, none⟩ = some (.int .i64 (v : Nat)) := (LB0.out.cell (p := ⟨bb, o + m, none⟩) hl).trans a0
    clear a0
    obtain ⟨q0, q1, q2, q3, q4, q5, q6⟩ := X1.out.all
    go_wp2
    go_quiet (fail)
    go_wp2
    go_ret
    exact ⟨by rw [Hr.out]; first | rfl | (simp; omega), Go.Proofs.below_drewN' LB0.out _⟩
/-- The shafts of a class. -/
def cls (N r : Nat) (j : Nat) : Int := ((r + N * j : Nat) : Int)
set_option maxHeartbeats 800000 in
theorem sof_any (S N n : Nat) (A : Option Addr) (c r : Nat) (w : World) (hN : 1 ≤ N) (hN2 : N ≤ 40) (hS : S ≤ 40) (hd : S % N = 0) (hr : r < N) :
    Calls Try.prog 40 #[.agg #[.int .i64 (S : Nat), .int .i64 (N : Nat), .slice A n c], .int .i64 (r : Nat)] w fun e w' => ∃ D k, e = .returned (.slice D (S / N) k) ∧ (D = none → k = 0) ∧ L2.Holds w' w'.heap.size D (S / N) (cls N r) ∧ Below w.heap.size w w' := by
  have HD := Lib.hid (And.intro hd hr)
  clear hd hr
  have LB0 := Lib.hid (Below.refl w.heap.size w)
  have X1 := IBox.new w (S : Nat) (N : Nat) (.slice A n c)
  have X1 := Lib.hid X1
  have LB0 := Lib.hid (LB0.out.alloc LB0.out.size (.cells #[.int .i64 (S : Nat), .int .i64 (N : Nat), .slice A n c] 24))
  go_enter Try.func40, Try.ntmps40
  go_upto_region 1 with (fail)
  generalize w.alloc (.cells #[.int .i64 (S : Nat), .int .i64 (N : Nat), .slice A n c] 24) = w0 at *
  obtain ⟨q0, q1, q2, q3, q4, q5, q6⟩ := X1.out.all
  go_wp2
  clear q0 q1 q2 q3 q4 q5 q6
  go_loopw [5, 6] (fun v i wr => ∃ j : Nat, j ≤ S / N ∧ i = .int .i64 ((r + N * j : Nat) : Int) ∧ Hid (L2.Own wr (w.heap.size + 1) v j (cls N r)) ∧ Hid (IBox wr w.heap.size (S : Nat) (N : Nat) (.slice A n c)) ∧ Hid (Below w.heap.size w wr)) (fun _ i _ => 100 - (intOf i).toNat)
  case atStart => exact ⟨0, Nat.zero_le _, rfl, Lib.hid (L2.Own.nil _ _ _), X1, LB0⟩
  case round =>
    obtain ⟨j, hj, rfl, HO, HB, HL⟩ := hrel
    obtain ⟨q0, q1, q2, q3, q4, q5, q6⟩ := HB.out.all
    by_cases hlt : j < S / N
    · have h1 := cls_lt HD.out.1 HD.out.2 hlt
      have hj40 : j ≤ 40 := by have := Nat.div_le_self S N; omega
      have HS := Lib.hid (show r + N * j + N = r + N * (j + 1) by rw [Nat.mul_add, Nat.mul_one]; omega)
      have HC := Lib.hid (show cls N r j = ((r + N * j : Nat) : Int) from rfl)
      generalize r + N * j = s at *
      have y1 : decide ((s : Int) < (S : Int)) = true := by simp; exact h1
      have y2 : IntKind.i64.wrap ((s : Int) + (N : Int)) = ((s + N : Nat) : Int) := by rw [IntWalk.i64_in _ (by omega)]; simp
      go_wp2_with (at_builtin; refine L2.app1 _ rfl _ _ rfl (w.heap.size + 1) rfl HO.out _ rfl HC.out (by omega) (by have := HB.out.lt; omega) ?_; intro v' w5 O5 B5; have HB5 := Lib.hid (HB.out.below B5 (by omega)); obtain ⟨p0, p1, p2, p3, p4, p5, p6⟩ := HB5.out.all)
      try go_wp2
      have HL5 := Lib.hid (HL.out.trans (B5.mono (by omega)))
      have HO5 := Lib.hid O5
      clear O5 B5
      go_roundw
      case rel => exact ⟨j + 1, by omega, by rw [← HS.out]; simp, HO5, HB5, HL5⟩
      case measure => simp [intOf]; omega
    · have h1 := cls_ge (r := r) HD.out.1 (Nat.le_of_not_lt hlt)
      obtain rfl : j = S / N := by omega
      generalize r + N * (S / N) = s at *
      have y1 : decide ((s : Int) < (S : Int)) = false := by simp; omega
      obtain ⟨D, k', rfl, e1, e2⟩ := HO.out.out
      have HH := Lib.hid (L2.Own.holds HO.out)
      go_wp2
      go_ret
      exact ⟨D, k', rfl, e1, HH.out, HL.out⟩
end Go.Proofs.Ythipdfkgeghooaa
