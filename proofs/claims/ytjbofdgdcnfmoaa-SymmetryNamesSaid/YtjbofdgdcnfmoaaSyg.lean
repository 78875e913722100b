/- Compose and Inverse of the reference. -/
import Derived.Test.YtjbofdgdcnfmoaaSyf
namespace Go.Proofs.Ytjbofdgdcnfmoaa
open Go.RowKit
set_option maxRecDepth 100000
set_option linter.unusedVariables false
set_option linter.unusedSimpArgs false

set_option maxHeartbeats 3200000 in
theorem rcomp_ok (m n : Nat) (hm : m < 16) (hn : n < 16) (w : World) : Calls Try.prog 59 #[.int .i64 (m : Nat), .int .i64 (n : Nat)] w (NOut (cmp m n : Nat) 0 w) := by
  have HI := Lib.hid (fun (x : Nat) (hx : x < 16) u => (show Calls Try.prog 67 #[.int .i64 (x : Nat)] u fun e w' => e = .returned (.bool true) ∧ w' = u by have := ris_any (x : Nat) u; rw [decide_eq_true (by omega)] at this; exact this))
  have HK0 := Lib.hid (cmp_key m hm n hn)
  have hc := cmp_lt m hm n hn
  have ok1 := Lib.hid (ap_ok gt_ok m)
  have ok2 := Lib.hid (ap_ok (ap_ok gt_ok m) n)
  go_enter Try.func59, Try.ntmps59
  go_wp2_with fail
  refine (HI.out m hm _).mono ?_
  rintro e w1 ⟨rfl, hw⟩
  subst w1
  go_wp2_with fail
  refine (HI.out n hn _).mono ?_
  rintro e w1 ⟨rfl, hw⟩
  subst w1
  go_wp2_with fail
  refine (test_any _).mono ?_
  rintro e w1 ⟨k1, d1, rfl, hk1, hr1, hb1⟩
  go_wp2_with fail
  refine (rapd gt gt_ok k1 0 d1 m hm _ (hr1.holds hr1.lt)).mono ?_
  rintro e w2 ⟨k2, d2, rfl, hk2, hr2, hb2⟩
  go_wp2_with fail
  refine (rapd (gt.ap m) ok1.out k2 0 d2 n hn _ (hr2.holds hr2.lt)).mono ?_
  rintro e w3 ⟨k3, d3, rfl, hk3, hr3, hb3⟩
  have LB := Lib.hid ((hb1.trans (hb2.mono hb1.size)).trans (hb3.mono (Nat.le_trans hb1.size hb2.size)))
  have R3 := Lib.hid hr3
  clear hb1 hb2 hb3 hr1 hr2 hr3 hk1 hk2 hk3 ok1
  generalize (gt.ap m).ap n = Gw at *
  have WO := Lib.hid (show Gw.W * Gw.H ≤ 4096 from Nat.mul_le_mul ok2.out.w1 ok2.out.h1)
  have HL := Lib.hid (show Below w.heap.size w (w3.alloc (.cells #[.int .i64 (Gw.W : Nat), .int .i64 (Gw.H : Nat), .slice (some ⟨k3, 0, none⟩) (Gw.W * Gw.H) d3] 24)) from LB.out.alloc LB.out.size _)
  have HX := Lib.hid (fun v (h : Below (w3.alloc (.cells #[.int .i64 (Gw.W : Nat), .int .i64 (Gw.H : Nat), .slice (some ⟨k3, 0, none⟩) (Gw.W * Gw.H) d3] 24)).heap.size (w3.alloc (.cells #[.int .i64 (Gw.W : Nat), .int .i64 (Gw.H : Nat), .slice (some ⟨k3, 0, none⟩) (Gw.W * Gw.H) d3] 24)) v) => (Box.new w3 (Gw.W : Nat) (Gw.H : Nat) (.slice (some ⟨k3, 0, none⟩) (Gw.W * Gw.H) d3)).below h (by simp))
  have HR := Lib.hid (fun v (h : Below (w3.alloc (.cells #[.int .i64 (Gw.W : Nat), .int .i64 (Gw.H : Nat), .slice (some ⟨k3, 0, none⟩) (Gw.W * Gw.H) d3] 24)).heap.size (w3.alloc (.cells #[.int .i64 (Gw.W : Nat), .int .i64 (Gw.H : Nat), .slice (some ⟨k3, 0, none⟩) (Gw.W * Gw.H) d3] 24)) v) => (R3.out.alloc (.cells #[.int .i64 (Gw.W : Nat), .int .i64 (Gw.H : Nat), .slice (some ⟨k3, 0, none⟩) (Gw.W * Gw.H) d3] 24)).below h (R3.out.alloc _).lt)
  clear LB R3 ok2
  go_wp2_with fail
  generalize w3.alloc (.cells #[.int .i64 (Gw.W : Nat), .int .i64 (Gw.H : Nat), .slice (some ⟨k3, 0, none⟩) (Gw.W * Gw.H) d3] 24) = v0 at *
  go_loopw [7] (fun i wr => ∃ x : Nat, x ≤ cmp m n ∧ i = .int .i64 x ∧ Hid (Below v0.heap.size v0 wr)) (fun i _ => cmp m n - (intOf i).toNat)
  case atStart => exact ⟨0, Nat.zero_le _, rfl, Lib.hid (Below.refl _ _)⟩
  case round =>
    obtain ⟨x, hx, rfl, hB⟩ := hrel
    have hx16 : x < 16 := by omega
    obtain ⟨bq, hbq⟩ : ∃ b, sm (gt.ap x) Gw = b := ⟨_, rfl⟩
    have HBQ := Lib.hid (show bq = decide (x = cmp m n) by rw [← hbq]; exact HK0.out x hx16 hx)
    have HS := Lib.hid (fun u (h : Below wr.heap.size wr u) => (HX.out u (hB.out.trans (h.mono hB.out.size))).all)
    have HSM := Lib.hid (fun u k2 d2 (h : Below wr.heap.size wr u) (hr : Row u k2 ((gt.ap x).W * (gt.ap x).H) (gt.ap x).f) => (show Calls Try.prog 39 #[.agg #[.int .i64 ((gt.ap x).W : Nat), .int .i64 ((gt.ap x).H : Nat), .slice (some ⟨k2, 0, none⟩) ((gt.ap x).W * (gt.ap x).H) d2], .agg #[.int .i64 (Gw.W : Nat), .int .i64 (Gw.H : Nat), .slice (some ⟨k3, 0, none⟩) (Gw.W * Gw.H) d3]] u fun e w' => e = .returned (.bool bq) ∧ Below u.heap.size u w' by
      have := same_gd (gt.ap x) Gw k2 d2 k3 d3 u (Nat.le_trans (Nat.mul_le_mul (ap_ok gt_ok x).w1 (ap_ok gt_ok x).h1) (by omega)) hr (HR.out u (hB.out.trans (h.mono hB.out.size)))
      rw [hbq] at this; exact this))
    clear hbq
    obtain ⟨q0, q1, q2, q3, q4, q5, q6⟩ := HS.out _ (Below.refl _ _)
    have hS0 := HS.out _ (Below.refl wr.heap.size wr).drew
    go_wp2_with fail
    go_region_held3 (fun w' => w'.cell? ⟨w3.heap.size, 0, none⟩ = some (.int .i64 (Gw.W : Nat)) ∧ w'.cell? ⟨w3.heap.size, 1, none⟩ = some (.int .i64 (Gw.H : Nat)) ∧ w'.cell? ⟨w3.heap.size, 2, none⟩ = some (.slice (some ⟨k3, 0, none⟩) (Gw.W * Gw.H) d3))
      (first
        | exact ⟨hS3.1, hS3.2.1, hS3.2.2.1⟩
        | exact ⟨hS2.1, hS2.2.1, hS2.2.2.1⟩
        | exact ⟨hS1.1, hS1.2.1, hS1.2.2.1⟩
        | exact ⟨hS0.1, hS0.2.1, hS0.2.2.1⟩)
      (first
        | (go_at_call 105
           refine (test_any _).mono ?_
           rintro e u1 ⟨k1, d1, rfl, hk1, hr1, hb1⟩
           have hx1 : Below wr.heap.size wr u1 := (Below.refl _ _).drew.trans hb1
           have hS1 := HS.out _ hx1)
        | (go_at_call 104
           refine (rapd gt gt_ok k1 0 d1 x hx16 _ (hr1.holds hr1.lt)).mono ?_
           rintro e u2 ⟨k2, d2, rfl, hk2, hr2, hb2⟩
           have hx2 : Below wr.heap.size wr u2 := hx1.trans (hb2.mono hx1.size)
           have hS2 := HS.out _ hx2)
        | (go_at_call 39
           with_reducible refine (HSM.out _ k2 d2 hx2 hr2).mono ?_
           rintro e u3 ⟨rfl, hb3⟩
           have hx3 : Below wr.heap.size wr u3 := hx2.trans (hb3.mono hx2.size)
           have hS3 := HS.out _ hx3))
    all_goals
      have HB3 := Lib.hid (hB.out.trans (hx3.mono hB.out.size))
      clear hS0 hS1 hS2 hS3 hx1 hx2 hx3 q0 q1 q2 q3 q4 q5 q6 HS HSM
      cases bq
      · have hne : ¬ x = cmp m n := of_decide_eq_false HBQ.out.symm
        go_wp2
        exact ⟨⟨x + 1, by omega, by go_num, HB3⟩, by simp [intOf]; omega⟩
      · have he : x = cmp m n := of_decide_eq_true HBQ.out.symm
        go_wp2
        go_ret2
        exact ⟨by first | rfl | (rw [he]; rfl), HL.out.trans (HB3.out.mono HL.out.size)⟩
set_option maxHeartbeats 800000 in
theorem rinv_ok (m : Nat) (hm : m < 16) (w : World) : Calls Try.prog 60 #[.int .i64 (m : Nat)] w (NOut (inv m : Nat) 0 w) := by
  have HI := Lib.hid (fun (x : Nat) (hx : x < 16) u => (show Calls Try.prog 67 #[.int .i64 (x : Nat)] u fun e w' => e = .returned (.bool true) ∧ w' = u by have := ris_any (x : Nat) u; rw [decide_eq_true (by omega)] at this; exact this))
  have HK := Lib.hid (cmp_inv m hm)
  have hc := inv_lt m hm
  go_enter Try.func60, Try.ntmps60
  go_wp2_with fail
  refine (HI.out m hm _).mono ?_
  rintro e w1 ⟨rfl, hw⟩
  subst w1
  go_wp2_with fail
  go_loopw [4] (fun i wr => ∃ x : Nat, x ≤ inv m ∧ i = .int .i64 x ∧ Hid (Below w.heap.size w wr)) (fun i _ => inv m - (intOf i).toNat)
  case atStart => exact ⟨0, Nat.zero_le _, rfl, Lib.hid (Below.refl _ _)⟩
  case round =>
    obtain ⟨x, hx, rfl, hB⟩ := hrel
    have hx16 : x < 16 := by omega
    go_wp2_with fail
    refine (rcomp_ok m x hm hx16 _).mono ?_
    rintro e w2 ⟨rfl, hb⟩
    have HB3 := Lib.hid (hB.out.trans (hb.mono hB.out.size))
    clear hb
    by_cases he : x = inv m
    · have y1 := HK.out x hx16 hx
      rw [decide_eq_true he] at y1
      have HE := Lib.hid he
      clear he
      go_wp2
      go_ret2
      exact ⟨by rw [HE.out]; rfl, HB3.out⟩
    · have y1 := HK.out x hx16 hx
      rw [decide_eq_false he] at y1
      go_wp2
      exact ⟨⟨x + 1, by omega, by go_num, HB3⟩, by simp [intOf]; omega⟩
/-- Both Composes hand back the same. -/
theorem comp_two (a b : Int) : ∃ x y : Int, ∀ w, Calls Try.prog 54 #[.int .i64 a, .int .i64 b] w (NOut x y w) ∧ Calls Try.prog 59 #[.int .i64 a, .int .i64 b] w (NOut x y w) := by
  by_cases h : (0 ≤ a ∧ a < 16) ∧ (0 ≤ b ∧ b < 16)
  · obtain ⟨m, rfl⟩ : ∃ m : Nat, a = m := ⟨a.toNat, (Int.toNat_of_nonneg h.1.1).symm⟩
    obtain ⟨n, rfl⟩ : ∃ n : Nat, b = n := ⟨b.toNat, (Int.toNat_of_nonneg h.2.1).symm⟩
    exact ⟨_, _, fun w => ⟨pcomp_ok m n (by omega) (by omega) w, rcomp_ok m n (by omega) (by omega) w⟩⟩
  · exact ⟨0, 2, fun w => ⟨pcomp_arg a b w h, rcomp_arg a b w h⟩⟩
theorem inv_two (a : Int) : ∃ x y : Int, ∀ w, Calls Try.prog 55 #[.int .i64 a] w (NOut x y w) ∧ Calls Try.prog 60 #[.int .i64 a] w (NOut x y w) := by
  by_cases h : 0 ≤ a ∧ a < 16
  · obtain ⟨m, rfl⟩ : ∃ m : Nat, a = m := ⟨a.toNat, (Int.toNat_of_nonneg h.1).symm⟩
    exact ⟨_, _, fun w => ⟨pinv_ok m (by omega) w, rinv_ok m (by omega) w⟩⟩
  · exact ⟨0, 2, fun w => ⟨pinv_arg a w h, rinv_arg a w h⟩⟩
end Go.Proofs.Ytjbofdgdcnfmoaa
