/- alive: the examples of the chapter. -/
import Derived.Test.YtmakjdfkldacaaaTwl
import Derived.Test.YtmakjdfkldacaaaRun
import Derived.Test.YtmakjdfkldacaaaOpl
import Derived.Test.YtmakjdfkldacaaaCet
import Derived.Test.YtmakjdfkldacaaaAb
namespace Go.Proofs.Ytmakjdfkldacaaa
open Go.RowKit
set_option maxRecDepth 100000
set_option linter.unusedVariables false
set_option linter.unusedSimpArgs false

theorem cou_5 (w : World) : Calls Try.prog 12 #[.int .i64 5] w (LOut w 2 (fun i => [2, 3].getD i 0) 0) := by
  have h := pcou_ok (n := 5) (by omega) (by omega) w
  rw [show ofl (mT 5) 5 = [2, 3] from by decide +kernel] at h
  exact h.mono fun e w' ⟨D, c, h1, h2, h3⟩ => ⟨D, c, h1, fun hn => (h2 hn).imp fun k ⟨a, b, r⟩ => ⟨a, b, r.congr fun i hi => by rcases i with _ | _ | i <;> first | rfl | (simp at hi; omega)⟩, h3⟩
theorem cou_8 (w : World) : Calls Try.prog 12 #[.int .i64 8] w (LOut w 2 (fun i => [3, 5].getD i 0) 0) := by
  have h := pcou_ok (n := 8) (by omega) (by omega) w
  rw [show ofl (mT 8) 8 = [3, 5] from by decide +kernel] at h
  exact h.mono fun e w' ⟨D, c, h1, h2, h3⟩ => ⟨D, c, h1, fun hn => (h2 hn).imp fun k ⟨a, b, r⟩ => ⟨a, b, r.congr fun i hi => by rcases i with _ | _ | i <;> first | rfl | (simp at hi; omega)⟩, h3⟩
theorem cou_6 (w : World) : Calls Try.prog 12 #[.int .i64 6] w (LOut w 0 (fun _ => 0) 0) := by
  have h := pcou_ok (n := 6) (by omega) (by omega) w
  rw [show ofl (mT 6) 6 = [] from by decide +kernel] at h
  exact h.mono fun e w' ⟨D, c, h1, h2, h3⟩ => ⟨D, c, h1, fun hn => absurd hn (by omega), h3⟩
/-- A grid of letters came back, with room. -/
def SpN (w : World) (W H : Int) (N : Nat) (F : Nat → Bool) (e : Ending) (w' : World) : Prop :=
  ∃ k c, e = .returned (.tuple #[.agg #[.int .i64 W, .int .i64 H, .slice (some ⟨k, 0, none⟩) N c], .int .i64 0]) ∧ w.heap.size ≤ k ∧ Row w' k N F ∧ Below w.heap.size w w'
theorem sat_52 (w : World) : Calls Try.prog 13 #[.int .i64 5, .int .i64 2] w (SpN w 5 5 25 (stf 5 2)) := pst_ok (n := 5) (m := 2) (by decide +kernel) w
theorem twl_22 (w : World) (s : Nat) (hs : s = w.heap.size) : Calls Try.prog 11 #[.slice (some ⟨s, 0, none⟩) 2 2, .int .i64 1] (w.alloc (.cells #[.int .i64 2, .int .i64 2] 3)) (SpN (w.alloc (.cells #[.int .i64 2, .int .i64 2] 3)) 4 4 16 (twf 4 1 (rowf (fun _ => 2) 2))) := by
  subst hs
  have hr := (lv_lit w [2, 2] #[.int .i64 2, .int .i64 2] rfl).h
  have h := ptw_ok (f := fun i => [2, 2].getD i 0) (n := 2) (vr_iff.1 (by decide +kernel)) (some ⟨w.heap.size, 0, none⟩) 2 1 1 (by decide +kernel) (by omega) (by omega) _ hr
  rw [show sm (fun i => [2, 2].getD i 0) 2 = 4 from by decide +kernel, show Nat.gcd 4 1 = 1 from by decide +kernel] at h
  exact h.mono fun e w' ⟨k, c, h1, h2, h3, h4⟩ => ⟨k, c, h1, h2, h3.congr (by decide +kernel), h4⟩
def r6 (i : Nat) : Bool := [true, true, false, true, false, false].getD i false
theorem run_6 (w : World) (s : Nat) (hs : s = w.heap.size) : Calls Try.prog 20 #[.slice (some ⟨s, 0, none⟩) 6 6] (w.alloc (.cells #[.bool true, .bool true, .bool false, .bool true, .bool false, .bool false] 4)) (LOut (w.alloc (.cells #[.bool true, .bool true, .bool false, .bool true, .bool false, .bool false] 4)) 4 (fun i => [2, 1, 1, 2].getD i 0) 0) := by
  subst hs
  have h := prun_ok w.heap.size 0 6 6 r6 (w.alloc (.cells #[.bool true, .bool true, .bool false, .bool true, .bool false, .bool false] 4)) (by simp) (by omega) (by omega) (fun i hi => by
    rw [Lib.cell_of_heap (World.alloc_heap_new w _)]
    rcases i with _ | _ | _ | _ | _ | _ | i <;> first | rfl | omega) rfl rfl
  rw [show cn r6 6 = 4 from by decide +kernel] at h
  exact h.mono fun e w' ⟨D, c, h1, h2, h3⟩ => ⟨D, c, h1, fun hn => (h2 hn).imp fun k ⟨a, b, r⟩ => ⟨a, b, r.congr (by decide +kernel)⟩, h3⟩
theorem read_52 (v : World) (k c : Nat) (hr : Row v k 25 (stf 5 2)) : Calls Try.prog 18 #[.agg #[.int .i64 5, .int .i64 5, .slice (some ⟨k, 0, none⟩) 25 c], .int .i64 0, .string ⟨#[46, 46, 46, 120, 46, 10, 46, 120, 46, 46, 46, 10, 46, 46, 46, 46, 120, 10, 46, 46, 120, 46, 46, 10, 120, 46, 46, 46, 46, 10]⟩] v fun e w' => e = .returned (.bool true) ∧ Below v.heap.size v w' :=
  reads6_any 5 5 (some ⟨k, 0, none⟩) c (stf 5 2) _ true v (hr.holds hr.lt) (by omega) (by omega) (by omega) (by omega) (by decide +kernel)
theorem read_22 (v : World) (k c : Nat) (hr : Row v k 16 (twf 4 1 (rowf (fun _ => 2) 2))) : Calls Try.prog 18 #[.agg #[.int .i64 4, .int .i64 4, .slice (some ⟨k, 0, none⟩) 16 c], .int .i64 0, .string ⟨#[120, 46, 46, 120, 10, 46, 46, 120, 120, 10, 46, 120, 120, 46, 10, 120, 120, 46, 46, 10]⟩] v fun e w' => e = .returned (.bool true) ∧ Below v.heap.size v w' :=
  reads6_any 4 4 (some ⟨k, 0, none⟩) c (twf 4 1 (rowf (fun _ => 2) 2)) _ true v (hr.holds hr.lt) (by omega) (by omega) (by omega) (by omega) (by decide +kernel)
set_option maxHeartbeats 800000 in
theorem alive9_any (w0 : World) : Calls Try.prog 21 #[] w0 fun e w' => e = .returned (.bool true) ∧ Below w0.heap.size w0 w' := by
  have LB0 := Lib.hid (Below.refl w0.heap.size w0)
  go_enter Try.func21, Try.ntmps21
  go_wp2_with fail
  with_reducible refine Calls.mono (cou_5 _) ?_
  rintro e w1 ⟨DP, dP, rfl, hl, hb⟩
  have P1 := Lib.hid (LV.of hl)
  have LB1 := Lib.hid (LB0.out.trans (hb.mono LB0.out.size))
  clear hb LB0
  clear hl
  go_wp2_with fail
  with_reducible refine Calls.mono (cou_8 _) ?_
  rintro e w2 ⟨DQ, dQ, rfl, hl, hb⟩
  have Q2 := Lib.hid (LV.of hl)
  have LB2 := Lib.hid (LB1.out.trans (hb.mono LB1.out.size))
  have P2 := Lib.hid (P1.out.next hb)
  clear hb LB1 P1
  clear hl
  go_wp2_with fail
  with_reducible refine Calls.mono (cou_6 _) ?_
  rintro e w3 ⟨DS, dS, rfl, hl, hb⟩
  have S3 := Lib.hid (LV.of hl)
  have LB3 := Lib.hid (LB2.out.trans (hb.mono LB2.out.size))
  have P3 := Lib.hid (P2.out.next hb)
  have Q3 := Lib.hid (Q2.out.next hb)
  clear hb LB2 P2 Q2
  clear hl
  go_wp2_with fail
  with_reducible refine Calls.mono (sat_52 _) ?_
  rintro e w4 ⟨ka, ca, rfl, hka, hrow, hb⟩
  have hba := hb.trans ((((Below.refl _ w4).alloc (Nat.le_refl _) (.cells #[.int .i64 5, .int .i64 5, .slice (some ⟨ka, 0, none⟩) 25 ca] 24))).mono hb.size)
  have Ba4 := Lib.hid (Box.new w4 5 5 (.slice (some ⟨ka, 0, none⟩) 25 ca))
  have Ra4 := Lib.hid (hrow.alloc (.cells #[.int .i64 5, .int .i64 5, .slice (some ⟨ka, 0, none⟩) 25 ca] 24))
  clear hb hrow hka
  have LB4 := Lib.hid (LB3.out.trans (hba.mono LB3.out.size))
  have P4 := Lib.hid (P3.out.next hba)
  have Q4 := Lib.hid (Q3.out.next hba)
  have S4 := Lib.hid (S3.out.next hba)
  clear hba LB3 P3 Q3 S3
  go_wp2_with fail
  with_reducible refine Calls.mono (twl_22 _ _ (by simp)) ?_
  rintro e w5 ⟨kb, cb, rfl, hkb, hrow, hb⟩
  have hb := (show Below (w4.alloc (.cells #[.int .i64 5, .int .i64 5, .slice (some ⟨ka, 0, none⟩) 25 ca] 24)).heap.size (w4.alloc (.cells #[.int .i64 5, .int .i64 5, .slice (some ⟨ka, 0, none⟩) 25 ca] 24)) w5 from ((Below.refl _ _).alloc (Nat.le_refl _) _).trans (hb.mono (by simp)))
  have hba := hb.trans ((((Below.refl _ w5).alloc (Nat.le_refl _) (.cells #[.int .i64 4, .int .i64 4, .slice (some ⟨kb, 0, none⟩) 16 cb] 24))).mono hb.size)
  have Bb5 := Lib.hid (Box.new w5 4 4 (.slice (some ⟨kb, 0, none⟩) 16 cb))
  have Rb5 := Lib.hid (hrow.alloc (.cells #[.int .i64 4, .int .i64 4, .slice (some ⟨kb, 0, none⟩) 16 cb] 24))
  clear hb hrow hkb
  have LB5 := Lib.hid (LB4.out.trans (hba.mono LB4.out.size))
  have P5 := Lib.hid (P4.out.next hba)
  have Q5 := Lib.hid (Q4.out.next hba)
  have S5 := Lib.hid (S4.out.next hba)
  have Ba5 := Lib.hid (Ba4.out.below hba Ba4.out.lt)
  have Ra5 := Lib.hid (Ra4.out.below hba Ra4.out.lt)
  clear hba LB4 P4 Q4 S4 Ba4 Ra4
  go_wp2_with fail
  with_reducible refine Calls.mono (run_6 _ _ (by simp)) ?_
  rintro e w6 ⟨DV, dV, rfl, hl, hb⟩
  have hb := (show Below (w5.alloc (.cells #[.int .i64 4, .int .i64 4, .slice (some ⟨kb, 0, none⟩) 16 cb] 24)).heap.size (w5.alloc (.cells #[.int .i64 4, .int .i64 4, .slice (some ⟨kb, 0, none⟩) 16 cb] 24)) w6 from ((Below.refl _ _).alloc (Nat.le_refl _) _).trans (hb.mono (by simp)))
  have V6 := Lib.hid (LV.of hl)
  have LB6 := Lib.hid (LB5.out.trans (hb.mono LB5.out.size))
  have P6 := Lib.hid (P5.out.next hb)
  have Q6 := Lib.hid (Q5.out.next hb)
  have S6 := Lib.hid (S5.out.next hb)
  have Ba6 := Lib.hid (Ba5.out.below hb Ba5.out.lt)
  have Ra6 := Lib.hid (Ra5.out.below hb Ra5.out.lt)
  have Bb6 := Lib.hid (Bb5.out.below hb Bb5.out.lt)
  have Rb6 := Lib.hid (Rb5.out.below hb Rb5.out.lt)
  clear hb LB5 P5 Q5 S5 Ba5 Ra5 Bb5 Rb5
  clear hl
  go_wp2_with fail
  with_reducible refine Calls.mono (lv_same (n := 2) (by omega) (P6.out.next ((Below.refl _ _).alloc (Nat.le_refl _) (.cells #[.int .i64 2, .int .i64 3] 3))) (lv_lit (w6) [2, 3] #[.int .i64 2, .int .i64 3] rfl) dP 2 (fun _ _ => rfl)) ?_
  rintro e w7 ⟨rfl, hb⟩
  have hb := (show Below (w6).heap.size (w6) w7 from ((Below.refl _ _).alloc (Nat.le_refl _) _).trans (hb.mono (by simp)))
  have LB7 := Lib.hid (LB6.out.trans (hb.mono LB6.out.size))
  have P7 := Lib.hid (P6.out.next hb)
  have Q7 := Lib.hid (Q6.out.next hb)
  have S7 := Lib.hid (S6.out.next hb)
  have Ba7 := Lib.hid (Ba6.out.below hb Ba6.out.lt)
  have Ra7 := Lib.hid (Ra6.out.below hb Ra6.out.lt)
  have Bb7 := Lib.hid (Bb6.out.below hb Bb6.out.lt)
  have Rb7 := Lib.hid (Rb6.out.below hb Rb6.out.lt)
  have V7 := Lib.hid (V6.out.next hb)
  clear hb LB6 P6 Q6 S6 Ba6 Ra6 Bb6 Rb6 V6
  go_wp2_with fail
  with_reducible refine Calls.mono (lv_same (n := 2) (by omega) (Q7.out.next ((Below.refl _ _).alloc (Nat.le_refl _) (.cells #[.int .i64 3, .int .i64 5] 3))) (lv_lit (w7) [3, 5] #[.int .i64 3, .int .i64 5] rfl) dQ 2 (fun _ _ => rfl)) ?_
  rintro e w8 ⟨rfl, hb⟩
  have hb := (show Below (w7).heap.size (w7) w8 from ((Below.refl _ _).alloc (Nat.le_refl _) _).trans (hb.mono (by simp)))
  have LB8 := Lib.hid (LB7.out.trans (hb.mono LB7.out.size))
  have P8 := Lib.hid (P7.out.next hb)
  have Q8 := Lib.hid (Q7.out.next hb)
  have S8 := Lib.hid (S7.out.next hb)
  have Ba8 := Lib.hid (Ba7.out.below hb Ba7.out.lt)
  have Ra8 := Lib.hid (Ra7.out.below hb Ra7.out.lt)
  have Bb8 := Lib.hid (Bb7.out.below hb Bb7.out.lt)
  have Rb8 := Lib.hid (Rb7.out.below hb Rb7.out.lt)
  have V8 := Lib.hid (V7.out.next hb)
  clear hb LB7 P7 Q7 S7 Ba7 Ra7 Bb7 Rb7 V7
  obtain ⟨q0, q1, q2, q3, q4, q5, q6⟩ := Ba8.out.all
  go_wp2_with fail
  clear q0 q1 q2 q3 q4 q5 q6
  with_reducible refine Calls.mono (read_52 _ ka ca Ra8.out) ?_
  rintro e w9 ⟨rfl, hb⟩
  have LB9 := Lib.hid (LB8.out.trans (hb.mono LB8.out.size))
  have P9 := Lib.hid (P8.out.next hb)
  have Q9 := Lib.hid (Q8.out.next hb)
  have S9 := Lib.hid (S8.out.next hb)
  have Ba9 := Lib.hid (Ba8.out.below hb Ba8.out.lt)
  have Ra9 := Lib.hid (Ra8.out.below hb Ra8.out.lt)
  have Bb9 := Lib.hid (Bb8.out.below hb Bb8.out.lt)
  have Rb9 := Lib.hid (Rb8.out.below hb Rb8.out.lt)
  have V9 := Lib.hid (V8.out.next hb)
  clear hb LB8 P8 Q8 S8 Ba8 Ra8 Bb8 Rb8 V8
  obtain ⟨q0, q1, q2, q3, q4, q5, q6⟩ := Bb9.out.all
  go_wp2_with fail
  clear q0 q1 q2 q3 q4 q5 q6
  with_reducible refine Calls.mono (read_22 _ kb cb Rb9.out) ?_
  rintro e w10 ⟨rfl, hb⟩
  have LB10 := Lib.hid (LB9.out.trans (hb.mono LB9.out.size))
  have P10 := Lib.hid (P9.out.next hb)
  have Q10 := Lib.hid (Q9.out.next hb)
  have S10 := Lib.hid (S9.out.next hb)
  have Ba10 := Lib.hid (Ba9.out.below hb Ba9.out.lt)
  have Ra10 := Lib.hid (Ra9.out.below hb Ra9.out.lt)
  have Bb10 := Lib.hid (Bb9.out.below hb Bb9.out.lt)
  have Rb10 := Lib.hid (Rb9.out.below hb Rb9.out.lt)
  have V10 := Lib.hid (V9.out.next hb)
  clear hb LB9 P9 Q9 S9 Ba9 Ra9 Bb9 Rb9 V9
  go_wp2_with fail
  with_reducible refine Calls.mono (lv_same (n := 4) (by omega) (V10.out.next ((Below.refl _ _).alloc (Nat.le_refl _) (.cells #[.int .i64 2, .int .i64 1, .int .i64 1, .int .i64 2] 3))) (lv_lit (w10) [2, 1, 1, 2] #[.int .i64 2, .int .i64 1, .int .i64 1, .int .i64 2] rfl) dV 4 (fun _ _ => rfl)) ?_
  rintro e w11 ⟨rfl, hb⟩
  have hb := (show Below (w10).heap.size (w10) w11 from ((Below.refl _ _).alloc (Nat.le_refl _) _).trans (hb.mono (by simp)))
  have LB11 := Lib.hid (LB10.out.trans (hb.mono LB10.out.size))
  have P11 := Lib.hid (P10.out.next hb)
  have Q11 := Lib.hid (Q10.out.next hb)
  have S11 := Lib.hid (S10.out.next hb)
  have Ba11 := Lib.hid (Ba10.out.below hb Ba10.out.lt)
  have Ra11 := Lib.hid (Ra10.out.below hb Ra10.out.lt)
  have Bb11 := Lib.hid (Bb10.out.below hb Bb10.out.lt)
  have Rb11 := Lib.hid (Rb10.out.below hb Rb10.out.lt)
  have V11 := Lib.hid (V10.out.next hb)
  clear hb LB10 P10 Q10 S10 Ba10 Ra10 Bb10 Rb10 V10
  go_wp2
  go_ret
  exact ⟨rfl, LB11.out⟩
end Go.Proofs.Ytmakjdfkldacaaa
