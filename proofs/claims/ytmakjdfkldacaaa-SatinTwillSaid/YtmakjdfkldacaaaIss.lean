/- Is of the program. -/
import Derived.Test.YtmakjdfkldacaaaIsm
import Derived.Test.YtmakjdfkldacaaaRun
import Derived.Test.YtmakjdfkldacaaaSta
import Derived.Test.YtmakjdfkldacaaaGa
namespace Go.Proofs.Ytmakjdfkldacaaa
open Go.RowKit
set_option maxRecDepth 100000
set_option linter.unusedVariables false
set_option linter.unusedSimpArgs false

theorem tri_al {w : World} {g : Nat} {a b c : Int} (h : Tri w g a b c) (o : Obj) : Tri (w.alloc o) g a b c := (Below.heap_alloc w o g h.lt).trans h
/-- What Is answers for the lattice A, B, C with k cells up. -/
def isr (A B C k : Nat) : Ending := if C = 1 ∧ mv (A : Nat) (B : Nat) = true ∧ (k = 1 ∨ k + 1 = A) then .returned (.tuple #[.int .i64 (A : Nat), .int .i64 (B : Nat), .bool (k == 1), .int .i64 0]) else .returned (.tuple #[.int .i64 0, .int .i64 0, .bool false, .int .i64 6])
def isb (A B C k : Nat) : Bool := decide (C = 1) && mv (A : Nat) (B : Nat) && (decide (k = 1) || decide (k + 1 = A))
theorem isr_no {A B C k : Nat} (h : ¬ (C = 1 ∧ mv (A : Nat) (B : Nat) = true ∧ (k = 1 ∨ k + 1 = A))) : isr A B C k = .returned (.tuple #[.int .i64 0, .int .i64 0, .bool false, .int .i64 6]) := if_neg h
theorem isr_yes {A B C k : Nat} (h : C = 1 ∧ mv (A : Nat) (B : Nat) = true ∧ (k = 1 ∨ k + 1 = A)) : isr A B C k = .returned (.tuple #[.int .i64 (A : Nat), .int .i64 (B : Nat), .bool (k == 1), .int .i64 0]) := if_pos h
theorem part9 (W H : Nat) (D : Option Addr) (c : Nat) (f : Nat → Bool) (A : Nat) (w : World) (hr : Holds w w.heap.size D (W * H) f) (hW0 : 1 ≤ W) (hW : W ≤ 64) (hH0 : 1 ≤ H) (hH : H ≤ 64) (hA0 : 1 ≤ A) (hA : A ≤ W) :
    Calls Try.prog 54 #[.agg #[.int .i64 (W : Nat), .int .i64 (H : Nat), .slice D (W * H) c], .int .i64 0, .int .i64 0, .int .i64 (A : Nat), .int .i64 1] w fun e w' => ∃ k, e = .returned (.tuple #[.agg #[.int .i64 (A : Nat), .int .i64 1, .slice (some ⟨k, 0, none⟩) A A], .int .i64 0]) ∧ w.heap.size ≤ k ∧ Row w' k A (fun x => pc W H f x 0) ∧ Below w.heap.size w w' := by
  have h := part_ok W H D c 0 0 A 1 w hW0 hW hH0 hH f hr hA0 (by omega) (Nat.le_refl _) (by omega)
  refine h.mono fun e w' ⟨k, h1, h2, h3, h4⟩ => ?_
  rw [Nat.mul_one] at h1 h3
  refine ⟨k, h1, h2, h3.congr fun i hi => ?_, h4⟩
  unfold pc
  rw [Nat.div_eq_of_lt hi, Nat.mod_eq_of_lt hi, Nat.zero_mod, Nat.mod_eq_of_lt (by omega)]
  simp
theorem count9 (A k : Nat) (F : Nat → Bool) (w : World) (hr : Row w k A F) (hA0 : 1 ≤ A) (hA : A ≤ 64) :
    Calls Try.prog 55 #[.agg #[.int .i64 (A : Nat), .int .i64 1, .slice (some ⟨k, 0, none⟩) A A]] w fun e w' => e = .returned (.tuple #[.int .i64 (cnt F A : Nat), .int .i64 0]) ∧ Below w.heap.size w w' := by
  have h := count_ok A 1 (some ⟨k, 0, none⟩) A F w (by rw [Nat.mul_one]; exact hr.holds hr.lt) hA0 hA (Nat.le_refl _) (by omega)
  rw [Nat.mul_one] at h
  exact h
/-- Is, where the grid has an error. -/
theorem pis9_err (W H : Int) (D : Option Addr) (n c : Nat) (z : Int) (w : World) (hz : (z != 0) = true) (HO : ∀ v, Below w.heap.size w v → Calls Try.prog 40 #[.agg #[.int .i64 W, .int .i64 H, .slice D n c]] v fun e w' => e = .returned (.tuple #[.agg #[.int .i64 0, .int .i64 0, .int .i64 0], .int .i64 z]) ∧ Below v.heap.size v w') : Calls Try.prog 15 #[.agg #[.int .i64 W, .int .i64 H, .slice D n c]] w fun e w' => e = .returned (.tuple #[.int .i64 0, .int .i64 0, .bool false, .int .i64 z]) ∧ Below w.heap.size w w' := by
  have X0 := Lib.hid (Box.new w W H (.slice D n c))
  have LB0 := Lib.hid (show Below w.heap.size w (w.alloc (.cells #[.int .i64 W, .int .i64 H, .slice D n c] 24)) from (Below.refl _ _).alloc (Nat.le_refl _) _)
  have HO := Lib.hid HO
  go_enter Try.func15, Try.ntmps15
  obtain ⟨q0, q1, q2, q3, q4, q5, q6⟩ := X0.out.all
  go_wp2_with fail
  clear q0 q1 q2 q3 q4 q5 q6
  refine (HO.out _ LB0.out).mono ?_
  rintro e w1 ⟨rfl, hb⟩
  have LB1 := Lib.hid (LB0.out.trans (hb.mono LB0.out.size))
  have LB2 := Lib.hid (LB1.out.alloc LB1.out.size (.cells #[.int .i64 0, .int .i64 0, .int .i64 0] 68))
  clear hb LB0 X0
  go_wp2
  refine bodyPost_ret (v := .tuple #[.int .i64 0, .int .i64 0, .bool false, .int .i64 z]) (by simp [results, Try.results15, go_sem]) rfl ?_
  exact ⟨rfl, LB2.out⟩
theorem ris9_err (W H : Int) (D : Option Addr) (n c : Nat) (z : Int) (w : World) (hz : (z != 0) = true) (HO : ∀ v, Below w.heap.size w v → Calls Try.prog 63 #[.agg #[.int .i64 W, .int .i64 H, .slice D n c]] v fun e w' => e = .returned (.tuple #[.agg #[.int .i64 0, .int .i64 0, .int .i64 0], .int .i64 z]) ∧ Below v.heap.size v w') : Calls Try.prog 29 #[.agg #[.int .i64 W, .int .i64 H, .slice D n c]] w fun e w' => e = .returned (.tuple #[.int .i64 0, .int .i64 0, .bool false, .int .i64 z]) ∧ Below w.heap.size w w' := by
  have X0 := Lib.hid (Box.new w W H (.slice D n c))
  have LB0 := Lib.hid (show Below w.heap.size w (w.alloc (.cells #[.int .i64 W, .int .i64 H, .slice D n c] 24)) from (Below.refl _ _).alloc (Nat.le_refl _) _)
  have HO := Lib.hid HO
  go_enter Try.func29, Try.ntmps29
  obtain ⟨q0, q1, q2, q3, q4, q5, q6⟩ := X0.out.all
  go_wp2_with fail
  clear q0 q1 q2 q3 q4 q5 q6
  refine (HO.out _ LB0.out).mono ?_
  rintro e w1 ⟨rfl, hb⟩
  have LB1 := Lib.hid (LB0.out.trans (hb.mono LB0.out.size))
  have LB2 := Lib.hid (LB1.out.alloc LB1.out.size (.cells #[.int .i64 0, .int .i64 0, .int .i64 0] 68))
  clear hb LB0 X0
  go_wp2
  refine bodyPost_ret (v := .tuple #[.int .i64 0, .int .i64 0, .bool false, .int .i64 z]) (by simp [results, Try.results29, go_sem]) rfl ?_
  exact ⟨rfl, LB2.out⟩
set_option maxHeartbeats 1600000 in
theorem pis9_ok (W H : Nat) (D : Option Addr) (c : Nat) (f : Nat → Bool) (A B C : Nat) (hL : IsL W H f A B C) (w : World) (hr : Holds w w.heap.size D (W * H) f) (hcp : W * H ≤ c) (hW : W ≤ 64) (hH0 : 1 ≤ H) (hH : H ≤ 64) : Calls Try.prog 15 #[.agg #[.int .i64 (W : Nat), .int .i64 (H : Nat), .slice D (W * H) c]] w fun e w' => e = isr A B C (ups W H f A) ∧ Below w.heap.size w w' := by
  have hW0 : 1 ≤ W := Nat.le_trans hL.a0 hL.aw
  have a0 := hL.a0
  have aw := hL.aw
  have c0 := hL.c0
  have ch := hL.ch
  have ba := hL.ba
  have HO := Lib.hid (fun u (h : Below w.heap.size w u) => pof_at hL D c u ((hr.below h).more h.size) hcp hW hH0 hH)
  have HP := Lib.hid (fun u (h : Below w.heap.size w u) => part9 W H D c f A u ((hr.below h).more h.size) hW0 hW hH0 hH a0 aw)
  have HC := Lib.hid (fun u k (hk : Row u k A (fun x => pc W H f x 0)) => (show Calls Try.prog 55 #[.agg #[.int .i64 (A : Nat), .int .i64 1, .slice (some ⟨k, 0, none⟩) A A]] u fun e w' => e = .returned (.tuple #[.int .i64 (ups W H f A : Nat), .int .i64 0]) ∧ Below u.heap.size u w' from count9 A k _ u hk a0 (by omega)))
  have hk64 : ups W H f A ≤ A := cnt_le _ _
  have HM := Lib.hid (fun u => pmv_b (A : Nat) (B : Nat) u)
  have X0 := Lib.hid (Box.new w (W : Nat) (H : Nat) (.slice D (W * H) c))
  have LB0 := Lib.hid (show Below w.heap.size w (w.alloc (.cells #[.int .i64 (W : Nat), .int .i64 (H : Nat), .slice D (W * H) c] 24)) from (Below.refl _ _).alloc (Nat.le_refl _) _)
  have HY := Lib.hid (fun h => isr_yes (A := A) (B := B) (C := C) (k := ups W H f A) h)
  have HN := Lib.hid (fun h => isr_no (A := A) (B := B) (C := C) (k := ups W H f A) h)
  clear hr hL
  generalize ups W H f A = k at *
  generalize isr A B C k = R at *
  generalize hmv : mv (A : Nat) (B : Nat) = mb at *
  clear hmv
  go_enter Try.func15, Try.ntmps15
  obtain ⟨q0, q1, q2, q3, q4, q5, q6⟩ := X0.out.all
  go_wp2_with fail
  clear q0 q1 q2 q3 q4 q5 q6
  refine (HO.out _ LB0.out).mono ?_
  rintro e w1 ⟨rfl, hb⟩
  have X1 := Lib.hid ((X0.out.below hb X0.out.lt).alloc (.cells #[.int .i64 (A : Nat), .int .i64 (B : Nat), .int .i64 (C : Nat)] 68))
  have hb1 := LB0.out.trans (hb.mono LB0.out.size)
  have T1 := Lib.hid (Tri.new w1 (A : Nat) (B : Nat) (C : Nat))
  have LB1 := Lib.hid (hb1.alloc hb1.size (.cells #[.int .i64 (A : Nat), .int .i64 (B : Nat), .int .i64 (C : Nat)] 68))
  clear hb hb1 LB0 X0 HO
  obtain ⟨t0, t1, t2, t3, t4, t5⟩ := T1.out.all
  obtain ⟨q0, q1, q2, q3, q4, q5, q6⟩ := X1.out.all
  go_wp2_with fail
  clear q0 q1 q2 q3 q4 q5 q6 t0 t1 t2 t3 t4 t5
  refine (HP.out _ LB1.out).mono ?_
  rintro e w2 ⟨j, rfl, hj, hrow, hb⟩
  have T2 := Lib.hid (tri_al (T1.out.below hb T1.out.lt) (.cells #[.int .i64 (A : Nat), .int .i64 1, .slice (some ⟨j, 0, none⟩) A A] 24))
  have hb2 := LB1.out.trans (hb.mono LB1.out.size)
  have LB2 := Lib.hid (hb2.alloc hb2.size (.cells #[.int .i64 (A : Nat), .int .i64 1, .slice (some ⟨j, 0, none⟩) A A] 24))
  have Y2 := Lib.hid (Box.new w2 (A : Nat) 1 (.slice (some ⟨j, 0, none⟩) A A))
  have R2 := Lib.hid (hrow.alloc (.cells #[.int .i64 (A : Nat), .int .i64 1, .slice (some ⟨j, 0, none⟩) A A] 24))
  clear hb hb2 LB1 X1 T1 HP hrow
  obtain ⟨q0, q1, q2, q3, q4, q5, q6⟩ := Y2.out.all
  go_wp2_with fail
  clear q0 q1 q2 q3 q4 q5 q6
  refine (HC.out _ j R2.out).mono ?_
  rintro e w3 ⟨rfl, hb⟩
  have T3 := Lib.hid (T2.out.below hb T2.out.lt)
  have LB3 := Lib.hid (LB2.out.trans (hb.mono LB2.out.size))
  clear hb LB2 T2 Y2 R2 HC
  obtain ⟨t0, t1, t2, t3, t4, t5⟩ := T3.out.all
  by_cases hc1 : C = 1
  case neg =>
    have x1 : (1 : Int) < (C : Int) := by omega
    have HR := Lib.hid (HN.out fun h => hc1 h.1)
    clear HY HN
    go_wp2
    refine bodyPost_ret (v := .tuple #[.int .i64 0, .int .i64 0, .bool false, .int .i64 6]) (by simp [results, Try.results15, go_sem]) rfl ?_
    exact ⟨HR.out.symm, LB3.out⟩
  have x1 : ¬ (1 : Int) < (C : Int) := by omega
  have w_ : IntKind.i64.wrap ((A : Int) - 1) = (A : Int) - 1 := IntWalk.i64_in _ (by omega)
  cases mb with
  | false =>
    have HR := Lib.hid (HN.out fun h => by cases h.2.1)
    clear HY HN
    go_wp2_with fail
    refine (HM.out _).mono ?_
    rintro e w4 ⟨rfl, hb⟩
    have LB4 := Lib.hid (LB3.out.trans (hb.mono LB3.out.size))
    have T4 := T3.out.below hb T3.out.lt
    obtain ⟨u0, u1, u2, u3, u4, u5⟩ := T4.all
    go_wp2
    refine bodyPost_ret (v := .tuple #[.int .i64 0, .int .i64 0, .bool false, .int .i64 6]) (by simp [results, Try.results15, go_sem]) rfl ?_
    exact ⟨HR.out.symm, LB4.out⟩
  | true =>
    by_cases hk1 : k = 1
    · have x2 : ((k : Int) != 1) = false := by simp; omega
      have x3 : ((k : Int) == 1) = true := by simp; omega
      have HR := Lib.hid (HY.out ⟨hc1, rfl, .inl hk1⟩)
      have HB := Lib.hid (show (k == 1) = true by simp [hk1])
      clear HY HN hk1
      go_wp2_with fail
      refine (HM.out _).mono ?_
      rintro e w4 ⟨rfl, hb⟩
      have LB4 := Lib.hid (LB3.out.trans (hb.mono LB3.out.size))
      have T4 := T3.out.below hb T3.out.lt
      obtain ⟨u0, u1, u2, u3, u4, u5⟩ := T4.all
      go_wp2
      go_quiet (fail)
      go_wp2
      refine bodyPost_ret (v := .tuple #[.int .i64 (A : Nat), .int .i64 (B : Nat), .bool true, .int .i64 0]) (by simp [results, Try.results15, go_sem]) rfl ?_
      exact ⟨by rw [HR.out, HB.out], bdn9 LB4.out _⟩
    · have x2 : ((k : Int) != 1) = true := by simp; omega
      by_cases hk2 : k + 1 = A
      · have x4 : ((k : Int) != (A : Int) - 1) = false := by simp; omega
        have x3 : ((k : Int) == 1) = false := by simp; omega
        have HR := Lib.hid (HY.out ⟨hc1, rfl, .inr hk2⟩)
        have HB := Lib.hid (show (k == 1) = false by simp [hk1])
        clear HY HN hk1 hk2
        go_wp2_with fail
        refine (HM.out _).mono ?_
        rintro e w4 ⟨rfl, hb⟩
        have LB4 := Lib.hid (LB3.out.trans (hb.mono LB3.out.size))
        have T4 := T3.out.below hb T3.out.lt
        obtain ⟨u0, u1, u2, u3, u4, u5⟩ := T4.all
        go_wp2
        go_quiet (fail)
        go_wp2
        refine bodyPost_ret (v := .tuple #[.int .i64 (A : Nat), .int .i64 (B : Nat), .bool false, .int .i64 0]) (by simp [results, Try.results15, go_sem]) rfl ?_
        exact ⟨by rw [HR.out, HB.out], bdn9 LB4.out _⟩
      · have x4 : ((k : Int) != (A : Int) - 1) = true := by simp; omega
        have HR := Lib.hid (HN.out fun h => by rcases h.2.2 with h | h; exact hk1 h; exact hk2 h)
        clear HY HN hk1 hk2
        go_wp2_with fail
        refine (HM.out _).mono ?_
        rintro e w4 ⟨rfl, hb⟩
        have LB4 := Lib.hid (LB3.out.trans (hb.mono LB3.out.size))
        have T4 := T3.out.below hb T3.out.lt
        obtain ⟨u0, u1, u2, u3, u4, u5⟩ := T4.all
        go_wp2
        refine bodyPost_ret (v := .tuple #[.int .i64 0, .int .i64 0, .bool false, .int .i64 6]) (by simp [results, Try.results15, go_sem]) rfl ?_
        exact ⟨HR.out.symm, LB4.out⟩
end Go.Proofs.Ytmakjdfkldacaaa
