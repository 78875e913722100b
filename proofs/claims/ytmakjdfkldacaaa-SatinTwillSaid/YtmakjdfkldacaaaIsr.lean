/- Is of the reference. -/
import Derived.Test.YtmakjdfkldacaaaIss
namespace Go.Proofs.Ytmakjdfkldacaaa
open Go.RowKit
set_option maxRecDepth 100000
set_option linter.unusedVariables false
set_option linter.unusedSimpArgs false

set_option maxHeartbeats 1600000 in
theorem ris9_ok (W H : Nat) (D : Option Addr) (c : Nat) (f : Nat → Bool) (A B C : Nat) (hL : IsL W H f A B C) (w : World) (hr : Holds w w.heap.size D (W * H) f) (hcp : W * H ≤ c) (hW : W ≤ 64) (hH0 : 1 ≤ H) (hH : H ≤ 64) : Calls Try.prog 29 #[.agg #[.int .i64 (W : Nat), .int .i64 (H : Nat), .slice D (W * H) c]] w fun e w' => e = isr A B C (ups W H f A) ∧ Below w.heap.size w w' := by
  have hW0 : 1 ≤ W := Nat.le_trans hL.a0 hL.aw
  have a0 := hL.a0
  have aw := hL.aw
  have c0 := hL.c0
  have HO := Lib.hid (fun u (h : Below w.heap.size w u) => rof_at hL D c u ((hr.below h).more h.size) hW hH0 hH)
  have hWH : W * H ≤ 4096 := Nat.mul_le_mul hW hH
  have hWp : W ≤ W * H := Nat.le_mul_of_pos_right W hH0
  have HA := Lib.hid (fun u (h : Below w.heap.size w u) x (hx : x < A) => (show Calls Try.prog 64 #[.agg #[.int .i64 (W : Nat), .int .i64 (H : Nat), .slice D (W * H) c], .int .i64 (x : Nat), .int .i64 0] u fun e w' => e = .returned (.bool (pc W H f x 0)) ∧ Below u.heap.size u w' from by
    have k := at_any (W : Nat) (H : Nat) D (W * H) c (x : Nat) 0 f u.heap.size u ((hr.below h).more h.size) (Nat.le_refl _) (by omega) (by omega) (by omega) (by omega) (by omega) (by omega) (by omega) (by simp; omega)
    have e : f (0 * (W : Int) + (x : Nat)).toNat = pc W H f x 0 := by
      unfold pc
      rw [Nat.zero_mod, Nat.mod_eq_of_lt (show x < W by omega)]
      simp
    rwa [e] at k))
  have HU := Lib.hid (fun x => show cnt (fun x => pc W H f x 0) (x + 1) = cnt (fun x => pc W H f x 0) x + if pc W H f x 0 = true then 1 else 0 from rfl)
  have HUA := Lib.hid (show cnt (fun x => pc W H f x 0) A = ups W H f A from rfl)
  have HL := Lib.hid (fun x => cnt_le (fun x => pc W H f x 0) x)
  have HM := Lib.hid (fun u => rmv_b (A : Nat) (B : Nat) u)
  have X0 := Lib.hid (Box.new w (W : Nat) (H : Nat) (.slice D (W * H) c))
  have LB0 := Lib.hid (show Below w.heap.size w (w.alloc (.cells #[.int .i64 (W : Nat), .int .i64 (H : Nat), .slice D (W * H) c] 24)) from (Below.refl _ _).alloc (Nat.le_refl _) _)
  have HY := Lib.hid (fun h => isr_yes (A := A) (B := B) (C := C) (k := ups W H f A) h)
  have HN := Lib.hid (fun h => isr_no (A := A) (B := B) (C := C) (k := ups W H f A) h)
  have hk64 : ups W H f A ≤ A := cnt_le _ _
  clear hr hL
  generalize ups W H f A = k at *
  generalize isr A B C k = R at *
  generalize hmv : mv (A : Nat) (B : Nat) = mb at *
  clear hmv
  go_enter Try.func29, Try.ntmps29
  obtain ⟨q0, q1, q2, q3, q4, q5, q6⟩ := X0.out.all
  go_wp2_with fail
  clear q0 q1 q2 q3 q4 q5 q6
  refine (HO.out _ LB0.out).mono ?_
  rintro e w1 ⟨rfl, hb⟩
  have X1 := Lib.hid ((X0.out.below hb X0.out.lt).alloc (.cells #[.int .i64 (A : Nat), .int .i64 (B : Nat), .int .i64 (C : Nat)] 68))
  have hb1 := LB0.out.trans (hb.mono LB0.out.size)
  have T1 := Lib.hid (Tri.new w1 (A : Nat) (B : Nat) (C : Nat))
  have LB1 := Lib.hid (hb1.alloc hb1.size (.cells #[.int .i64 (A : Nat), .int .i64 (B : Nat), .int .i64 (C : Nat)] 68))
  clear hb hb1 LB0 X0 HO
  obtain ⟨t0, t1, t2, t3, t4, t5⟩ := T1.out.all
  by_cases hc1 : C = 1
  case neg =>
    have x1 : ((C : Int) != 1) = true := by simp; omega
    have HR := Lib.hid (HN.out fun h => hc1 h.1)
    clear HY HN
    go_wp2
    refine bodyPost_ret (v := .tuple #[.int .i64 0, .int .i64 0, .bool false, .int .i64 6]) (by simp [results, Try.results29, go_sem]) rfl ?_
    exact ⟨HR.out.symm, LB1.out⟩
  have x1 : ((C : Int) != 1) = false := by simp; omega
  have HC1 := Lib.hid hc1
  clear hc1
  have w_ : IntKind.i64.wrap ((A : Int) - 1) = (A : Int) - 1 := IntWalk.i64_in _ (by omega)
  cases mb with
  | false =>
    have HR := Lib.hid (HN.out fun h => by cases h.2.1)
    clear HY HN
    go_wp2_with fail
    refine (HM.out _).mono ?_
    rintro e w4 ⟨rfl, hb⟩
    have LB4 := Lib.hid (LB1.out.trans (hb.mono LB1.out.size))
    go_wp2
    refine bodyPost_ret (v := .tuple #[.int .i64 0, .int .i64 0, .bool false, .int .i64 6]) (by simp [results, Try.results29, go_sem]) rfl ?_
    exact ⟨HR.out.symm, LB4.out⟩
  | true =>
    go_wp2_with fail
    refine (HM.out _).mono ?_
    rintro e w4 ⟨rfl, hb⟩
    have LB4 := Lib.hid (LB1.out.trans (hb.mono LB1.out.size))
    have T4 := Lib.hid (T1.out.below hb T1.out.lt)
    have X4 := Lib.hid (X1.out.below hb X1.out.lt)
    clear hb LB1 T1 X1 t0 t1 t2 t3 t4 t5
    go_wp2
    go_loopw [8, 9] (fun l i wr => ∃ x : Nat, x ≤ A ∧ i = .int .i64 x ∧ l = .int .i64 (cnt (fun x => pc W H f x 0) x : Nat) ∧ Hid (Below w.heap.size w wr) ∧ Hid (Tri wr w1.heap.size (A : Nat) (B : Nat) (C : Nat)) ∧ Hid (Box wr w.heap.size (W : Nat) (H : Nat) (.slice D (W * H) c))) (fun _ i _ => A - (intOf i).toNat)
    case atStart => exact ⟨0, by omega, rfl, rfl, LB4, T4, X4⟩
    case round =>
      obtain ⟨x, hx, rfl, rfl, HB, HT, HX⟩ := hrel
      obtain ⟨t0, t1, t2, t3, t4, t5⟩ := HT.out.all
      by_cases hlx : x < A
      · have y1 : (x : Int) < (A : Int) := by omega
        have hl := HL.out x
        have hU := HU.out x
        have hA := fun u h => HA.out u h x hlx
        generalize cnt (fun x => pc W H f x 0) x = m at *
        generalize pc W H f x 0 = b at *
        have HAA := Lib.hid hA
        have HUU := Lib.hid hU
        clear hA hU
        obtain ⟨q0, q1, q2, q3, q4, q5, q6⟩ := HX.out.all
        go_wp2_with fail
        clear q0 q1 q2 q3 q4 q5 q6 t0 t1 t2 t3 t4 t5
        refine (HAA.out _ HB.out).mono ?_
        rintro e w5 ⟨rfl, hb⟩
        have HB5 := Lib.hid (HB.out.trans (hb.mono HB.out.size))
        have HT5 := Lib.hid (HT.out.below hb HT.out.lt)
        have HX5 := Lib.hid (HX.out.below hb HX.out.lt)
        clear hb HB HT HX
        have e1 : IntKind.i64.wrap ((m : Int) + 1) = (m : Int) + 1 := IntWalk.i64_in _ (by omega)
        cases b
        all_goals
          go_wp2
          exact ⟨⟨x + 1, by omega, by go_num, congrArg (Value.int .i64) (by rw [HUU.out]; simp), HB5, HT5, HX5⟩, by simp [intOf]; omega⟩
      · have e : x = A := by omega
        subst e
        have y1 : ¬ (x : Int) < (x : Int) := by omega
        have hk0 := HUA.out
        clear HA HU HL
        rw [hk0]
        clear hk0 HUA
        by_cases hk1 : k = 1
        · have x2 : ((k : Int) != 1) = false := by simp; omega
          have x3 : ((k : Int) == 1) = true := by simp; omega
          have HR := Lib.hid (HY.out ⟨HC1.out, (by first | rfl | trivial), .inl hk1⟩)
          have HK := Lib.hid (show (k == 1) = true by simp [hk1])
          clear HY HN hk1
          go_wp2
          go_quiet (fail)
          go_wp2
          refine bodyPost_ret (v := .tuple #[.int .i64 (x : Nat), .int .i64 (B : Nat), .bool true, .int .i64 0]) (by simp [results, Try.results29, go_sem]) rfl ?_
          exact ⟨by rw [HR.out, HK.out], bdn9 HB.out _⟩
        · have x2 : ((k : Int) != 1) = true := by simp; omega
          by_cases hk2 : k + 1 = x
          · have x4 : ((k : Int) != (x : Int) - 1) = false := by simp; omega
            have x3 : ((k : Int) == 1) = false := by simp; omega
            have HR := Lib.hid (HY.out ⟨HC1.out, (by first | rfl | trivial), .inr hk2⟩)
            have HK := Lib.hid (show (k == 1) = false by simp [hk1])
            clear HY HN hk1 hk2
            go_wp2
            go_quiet (fail)
            go_wp2
            refine bodyPost_ret (v := .tuple #[.int .i64 (x : Nat), .int .i64 (B : Nat), .bool false, .int .i64 0]) (by simp [results, Try.results29, go_sem]) rfl ?_
            exact ⟨by rw [HR.out, HK.out], bdn9 HB.out _⟩
          · have x4 : ((k : Int) != (x : Int) - 1) = true := by simp; omega
            have HR := Lib.hid (HN.out fun h => by rcases h.2.2 with h | h; exact hk1 h; exact hk2 h)
            clear HY HN hk1 hk2
            go_wp2
            refine bodyPost_ret (v := .tuple #[.int .i64 0, .int .i64 0, .bool false, .int .i64 6]) (by simp [results, Try.results29, go_sem]) rfl ?_
            exact ⟨HR.out.symm, HB.out⟩
/-- Is of both sides. -/
theorem is_two9 (W H : Int) (D : Option Addr) (n c : Nat) (f : Nat → Bool) (w : World) (hr : Holds w w.heap.size D n f) (hn : n ≤ 4200) (hc : n ≤ c) : ∃ (a b : Int) (u : Bool) (z : Int), ∀ v, Below w.heap.size w v →
    (Calls Try.prog 15 #[.agg #[.int .i64 W, .int .i64 H, .slice D n c]] v fun e w' => e = .returned (.tuple #[.int .i64 a, .int .i64 b, .bool u, .int .i64 z]) ∧ Below v.heap.size v w') ∧ (Calls Try.prog 29 #[.agg #[.int .i64 W, .int .i64 H, .slice D n c]] v fun e w' => e = .returned (.tuple #[.int .i64 a, .int .i64 b, .bool u, .int .i64 z]) ∧ Below v.heap.size v w') := by
  by_cases hx : chk W H n = 0
  · obtain ⟨W', H', rfl, rfl, h1, h2, h3, h4, rfl⟩ := chk_nat hx
    obtain ⟨A, B, C, hL⟩ := IsL.ex W' H' f h1 h3
    have ho := fun v (hv : Below w.heap.size w v) => pis9_ok W' H' D c f A B C hL v ((hr.below hv).more hv.size) hc h2 h3 h4
    have hq := fun v (hv : Below w.heap.size w v) => ris9_ok W' H' D c f A B C hL v ((hr.below hv).more hv.size) hc h2 h3 h4
    by_cases e : C = 1 ∧ mv (A : Nat) (B : Nat) = true ∧ (ups W' H' f A = 1 ∨ ups W' H' f A + 1 = A)
    · rw [isr_yes e] at ho hq
      exact ⟨_, _, _, _, fun v hv => ⟨ho v hv, hq v hv⟩⟩
    · rw [isr_no e] at ho hq
      exact ⟨_, _, _, _, fun v hv => ⟨ho v hv, hq v hv⟩⟩
  · exact ⟨0, 0, false, chk W H n, fun v hv => ⟨pis9_err W H D n c _ v (by simpa using hx) (fun u hu => pof_err W H D n c u hn _ rfl (by simpa using hx)), ris9_err W H D n c _ v (by simpa using hx) (fun u hu => rof_err W H D n c u hn _ rfl (by simpa using hx))⟩⟩
end Go.Proofs.Ytmakjdfkldacaaa
