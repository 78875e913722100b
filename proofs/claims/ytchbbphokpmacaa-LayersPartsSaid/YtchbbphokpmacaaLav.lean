/- alive of layer 11. -/
import Derived.Test.YtchbbphokpmacaaLal
namespace Go.Proofs.Ytchbbphokpmacaa
open Go.RowKit
set_option maxRecDepth 100000
set_option linter.unusedVariables false
set_option linter.unusedSimpArgs false

set_option maxHeartbeats 1600000 in
theorem alive11_any (w0 : World) : Calls Try.prog 52 #[] w0 fun e w' => e = .returned (.bool true) ∧ Below w0.heap.size w0 w' := by
  have LB0 := Lib.hid (Below.refl w0.heap.size w0)
  go_enter Try.func52, Try.ntmps52
  go_wp2_with fail
  with_reducible refine Calls.mono (two_any _) ?_
  rintro e w1 ⟨kRa, rfl, _, hrow, hb⟩
  have LB1 := Lib.hid (LB0.out.trans (hb.mono LB0.out.size))
  have Ra := Lib.hid hrow
  clear hb LB0 hrow
  go_wp2_with fail
  with_reducible refine Calls.mono (pt_tf _ _ _ Ra.out) ?_
  rintro e w2 ⟨DP, dP, rfl, hl, hb⟩
  have LB2 := Lib.hid (LB1.out.trans (hb.mono LB1.out.size))
  have Ra := Lib.hid (Ra.out.below hb Ra.out.lt)
  have P1 := Lib.hid hl
  clear hb LB1 hl
  clear Ra
  go_wp2_with fail
  with_reducible refine Calls.mono (two_any _) ?_
  rintro e w3 ⟨kRb, rfl, _, hrow, hb⟩
  have LB3 := Lib.hid (LB2.out.trans (hb.mono LB2.out.size))
  have P1 := Lib.hid (P1.out.below hb)
  have Rb := Lib.hid hrow
  clear hb LB2 hrow
  go_wp2_with fail
  with_reducible refine Calls.mono (lt_tf _ _ _ Rb.out) ?_
  rintro e w4 ⟨DY, dY, rfl, hl, hb⟩
  have LB4 := Lib.hid (LB3.out.trans (hb.mono LB3.out.size))
  have P1 := Lib.hid (P1.out.below hb)
  have Rb := Lib.hid (Rb.out.below hb Rb.out.lt)
  have Y1 := Lib.hid hl
  clear hb LB3 hl
  clear Rb
  go_wp2_with fail
  with_reducible refine Calls.mono (cl_xd _) ?_
  rintro e w5 ⟨kRc, rfl, _, hrow, hb⟩
  have LB5 := Lib.hid (LB4.out.trans (hb.mono LB4.out.size))
  have P1 := Lib.hid (P1.out.below hb)
  have Y1 := Lib.hid (Y1.out.below hb)
  have Rc := Lib.hid hrow
  clear hb LB4 hrow
  go_wp2_with fail
  with_reducible refine Calls.mono (pt_xd _ _ _ Rc.out) ?_
  rintro e w6 ⟨DP2, dP2, rfl, hl, hb⟩
  have LB6 := Lib.hid (LB5.out.trans (hb.mono LB5.out.size))
  have P1 := Lib.hid (P1.out.below hb)
  have Y1 := Lib.hid (Y1.out.below hb)
  have Rc := Lib.hid (Rc.out.below hb Rc.out.lt)
  have P2 := Lib.hid hl
  clear hb LB5 hl
  clear Rc
  go_wp2_with fail
  with_reducible refine Calls.mono (cl_xd _) ?_
  rintro e w7 ⟨kRd, rfl, _, hrow, hb⟩
  have LB7 := Lib.hid (LB6.out.trans (hb.mono LB6.out.size))
  have P1 := Lib.hid (P1.out.below hb)
  have Y1 := Lib.hid (Y1.out.below hb)
  have P2 := Lib.hid (P2.out.below hb)
  have Rd := Lib.hid hrow
  clear hb LB6 hrow
  go_wp2_with fail
  with_reducible refine Calls.mono (lt_xd _ _ _ Rd.out) ?_
  rintro e w8 ⟨DY2, dY2, rfl, hl, hb⟩
  have LB8 := Lib.hid (LB7.out.trans (hb.mono LB7.out.size))
  have P1 := Lib.hid (P1.out.below hb)
  have Y1 := Lib.hid (Y1.out.below hb)
  have P2 := Lib.hid (P2.out.below hb)
  have Rd := Lib.hid (Rd.out.below hb Rd.out.lt)
  have Y2 := Lib.hid hl
  clear hb LB7 hl
  clear Rd
  have hA1 := Lib.hid (((bel_alloc w8 (.cells #[.int .i64 0, .int .i64 1, .int .i64 4, .int .i64 5] 3)).trans ((bel_alloc _ (.cells #[.int .i64 2, .int .i64 3, .int .i64 6, .int .i64 7] 3)).mono (by simp))).trans ((bel_alloc _ (.cells #[.slice (some ⟨w8.heap.size, 0, none⟩) 4 4, .slice (some ⟨w8.heap.size + 1, 0, none⟩) 4 4] 45)).mono (by simp; omega)))
  have hC1 := sameparts_t 2 DP (some ⟨w8.heap.size + 2, 0, none⟩) dP 2 _ _ _ (by omega) (by decide) (fun _ _ => rfl) (P1.out.below hA1.out) (lls_lit2 w8 [0, 1, 4, 5] [2, 3, 6, 7] #[.int .i64 0, .int .i64 1, .int .i64 4, .int .i64 5] #[.int .i64 2, .int .i64 3, .int .i64 6, .int .i64 7] rfl rfl)
  go_wp2_with fail
  with_reducible refine Calls.mono (hC1) ?_
  rintro e w9 ⟨rfl, hb⟩
  have hb := hA1.out.trans (hb.mono hA1.out.size)
  have LB9 := Lib.hid (LB8.out.trans (hb.mono LB8.out.size))
  have P1 := Lib.hid (P1.out.below hb)
  have Y1 := Lib.hid (Y1.out.below hb)
  have P2 := Lib.hid (P2.out.below hb)
  have Y2 := Lib.hid (Y2.out.below hb)
  clear hb LB8 
  clear hC1
  have hA2 := Lib.hid (((((bel_alloc w9 (.cells #[.int .i64 0, .int .i64 1] 3)).trans ((bel_alloc _ (.cells #[.int .i64 0, .int .i64 1] 3)).mono (by simp; try omega))).trans ((bel_alloc _ (.cells #[.int .i64 2, .int .i64 3] 3)).mono (by simp; try omega))).trans ((bel_alloc _ (.cells #[.int .i64 2, .int .i64 3] 3)).mono (by simp; try omega))).trans ((bel_alloc _ (.cells #[.slice (some ⟨w9.heap.size, 0, none⟩) 2 2, .slice (some ⟨w9.heap.size + 1, 0, none⟩) 2 2, .slice (some ⟨w9.heap.size + 2, 0, none⟩) 2 2, .slice (some ⟨w9.heap.size + 3, 0, none⟩) 2 2] 92)).mono (by simp; try omega)))
  have hC2 := samelayers_t 2 DY (some ⟨w9.heap.size + 4, 0, none⟩) dY 2 _ _ _ _ _ (by omega) (by decide) (by decide) (fun _ _ => rfl) (fun _ _ => rfl) (Y1.out.below hA2.out) (lys_lit2 w9 [0, 1] [0, 1] [2, 3] [2, 3] #[.int .i64 0, .int .i64 1] #[.int .i64 0, .int .i64 1] #[.int .i64 2, .int .i64 3] #[.int .i64 2, .int .i64 3] rfl rfl rfl rfl)
  go_wp2_with fail
  with_reducible refine Calls.mono (hC2) ?_
  rintro e w10 ⟨rfl, hb⟩
  have hb := hA2.out.trans (hb.mono hA2.out.size)
  have LB10 := Lib.hid (LB9.out.trans (hb.mono LB9.out.size))
  have P1 := Lib.hid (P1.out.below hb)
  have Y1 := Lib.hid (Y1.out.below hb)
  have P2 := Lib.hid (P2.out.below hb)
  have Y2 := Lib.hid (Y2.out.below hb)
  clear hb LB9 
  clear hC2
  have hA3 := Lib.hid ((((bel_alloc w10 (.cells #[.int .i64 0] 3)).trans ((bel_alloc _ (.cells #[.int .i64 2] 3)).mono (by simp; try omega))).trans ((bel_alloc _ (.cells #[.int .i64 1] 3)).mono (by simp; try omega))).trans ((bel_alloc _ (.cells #[.slice (some ⟨w10.heap.size, 0, none⟩) 1 1, .slice (some ⟨w10.heap.size + 1, 0, none⟩) 1 1, .slice (some ⟨w10.heap.size + 2, 0, none⟩) 1 1] 45)).mono (by simp; try omega)))
  have hC3 := sameparts_t 3 DP2 (some ⟨w10.heap.size + 3, 0, none⟩) dP2 3 _ _ _ (by omega) (by decide) (fun _ _ => rfl) (P2.out.below hA3.out) (lls_lit3 w10 [0] [2] [1] #[.int .i64 0] #[.int .i64 2] #[.int .i64 1] rfl rfl rfl)
  go_wp2_with fail
  with_reducible refine Calls.mono (hC3) ?_
  rintro e w11 ⟨rfl, hb⟩
  have hb := hA3.out.trans (hb.mono hA3.out.size)
  have LB11 := Lib.hid (LB10.out.trans (hb.mono LB10.out.size))
  have P1 := Lib.hid (P1.out.below hb)
  have Y1 := Lib.hid (Y1.out.below hb)
  have P2 := Lib.hid (P2.out.below hb)
  have Y2 := Lib.hid (Y2.out.below hb)
  clear hb LB10 
  go_wp2
  go_ret
  exact ⟨rfl, LB11.out⟩
theorem valid_no {W H : Int} {A : Option Addr} {n c : Nat} (h : grt W H n = true ∨ chk W H n ≠ 0) (w : World) :
    Calls Try.prog 62 #[.agg #[.int .i64 W, .int .i64 H, .slice A n c]] w fun e w' => e = .returned (.bool false) ∧ Below w.heap.size w w' := by
  have X0 := Lib.hid (Box.new w W H (.slice A n c))
  have LB0 := Lib.hid (show Below w.heap.size w (w.alloc (.cells #[.int .i64 W, .int .i64 H, (.slice A n c)] 24)) from (Below.refl _ _).alloc (Nat.le_refl _) _)
  by_cases hgr : grt W H n = true
  · have HGR := Lib.hid (fun u => great_any W H A n c u)
    rw [hgr] at HGR
    clear hgr h
    go_enter Try.func62, Try.ntmps62
    go_wp2_with fail
    generalize w.alloc (.cells #[.int .i64 W, .int .i64 H, .slice A n c] 24) = w0 at *
    obtain ⟨q0, q1, q2, q3, q4, q5, q6⟩ := X0.out.all
    go_wp2_with fail
    clear q0 q1 q2 q3 q4 q5 q6
    with_reducible refine Calls.mono (HGR.out _) ?_
    rintro e w1 ⟨rfl, hb⟩
    have X1 := Lib.hid (X0.out.below hb X0.out.lt)
    have LB1 := Lib.hid (LB0.out.trans (hb.mono LB0.out.size))
    clear hb X0 LB0
    go_wp2
    go_ret
    exact ⟨rfl, LB1.out⟩
  · have hgf : grt W H n = false := by simpa using hgr
    have hn := grt_no hgf
    have hz : chk W H n ≠ 0 := by rcases h with h | h; exact absurd h hgr; exact h
    have HGR := Lib.hid (fun u => great_any W H A n c u)
    rw [hgf] at HGR
    have HK := Lib.hid (fun u => rchk_err (A := A) (c := c) (err := chk W H n) (show n ≤ 4200 by omega) rfl u)
    obtain ⟨z, hzz⟩ : ∃ z, chk W H n = z := ⟨_, rfl⟩
    rw [hzz] at hz HK
    have hz1 : (z == 0) = false := by simpa using hz
    clear hgf hgr h hzz
    go_enter Try.func62, Try.ntmps62
    go_wp2_with fail
    generalize w.alloc (.cells #[.int .i64 W, .int .i64 H, .slice A n c] 24) = w0 at *
    obtain ⟨q0, q1, q2, q3, q4, q5, q6⟩ := X0.out.all
    go_wp2_with fail
    clear q0 q1 q2 q3 q4 q5 q6
    with_reducible refine Calls.mono (HGR.out _) ?_
    rintro e w1 ⟨rfl, hb⟩
    have X1 := Lib.hid (X0.out.below hb X0.out.lt)
    have LB1 := Lib.hid (LB0.out.trans (hb.mono LB0.out.size))
    clear hb X0 LB0
    obtain ⟨q0, q1, q2, q3, q4, q5, q6⟩ := X1.out.all
    go_wp2_with fail
    clear q0 q1 q2 q3 q4 q5 q6
    with_reducible refine Calls.mono (HK.out _) ?_
    rintro e w2 ⟨rfl, hb⟩
    have X2 := Lib.hid (X1.out.below hb X1.out.lt)
    have LB2 := Lib.hid (LB1.out.trans (hb.mono LB1.out.size))
    clear hb X1 LB1
    go_wp2
    go_ret
    exact ⟨rfl, LB2.out⟩
theorem valid_yes {W H : Int} {A : Option Addr} {n c : Nat} (hgf : grt W H n = false) (hz : chk W H n = 0) (w : World) :
    Calls Try.prog 62 #[.agg #[.int .i64 W, .int .i64 H, .slice A n c]] w fun e w' => e = .returned (.bool true) ∧ Below w.heap.size w w' := by
  have X0 := Lib.hid (Box.new w W H (.slice A n c))
  have LB0 := Lib.hid (show Below w.heap.size w (w.alloc (.cells #[.int .i64 W, .int .i64 H, (.slice A n c)] 24)) from (Below.refl _ _).alloc (Nat.le_refl _) _)
  have hn := grt_no hgf
  have HGR := Lib.hid (fun u => great_any W H A n c u)
  rw [hgf] at HGR
  have HK := Lib.hid (fun u => rchk_err (A := A) (c := c) (show n ≤ 4200 by omega) hz u)
  clear hgf hz
  go_enter Try.func62, Try.ntmps62
  go_wp2_with fail
  generalize w.alloc (.cells #[.int .i64 W, .int .i64 H, .slice A n c] 24) = w0 at *
  obtain ⟨q0, q1, q2, q3, q4, q5, q6⟩ := X0.out.all
  go_wp2_with fail
  clear q0 q1 q2 q3 q4 q5 q6
  with_reducible refine Calls.mono (HGR.out _) ?_
  rintro e w1 ⟨rfl, hb⟩
  have X1 := Lib.hid (X0.out.below hb X0.out.lt)
  have LB1 := Lib.hid (LB0.out.trans (hb.mono LB0.out.size))
  clear hb X0 LB0
  obtain ⟨q0, q1, q2, q3, q4, q5, q6⟩ := X1.out.all
  go_wp2_with fail
  clear q0 q1 q2 q3 q4 q5 q6
  with_reducible refine Calls.mono (HK.out _) ?_
  rintro e w2 ⟨rfl, hb⟩
  have X2 := Lib.hid (X1.out.below hb X1.out.lt)
  have LB2 := Lib.hid (LB1.out.trans (hb.mono LB1.out.size))
  clear hb X1 LB1
  go_wp2
  go_ret
  exact ⟨rfl, LB2.out⟩
end Go.Proofs.Ytchbbphokpmacaa
