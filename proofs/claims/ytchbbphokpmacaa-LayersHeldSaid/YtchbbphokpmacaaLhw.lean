/- The walk of LayersHeld, where all are threads. -/
import Derived.Test.YtchbbphokpmacaaLhi
import Derived.Deep.DeepCutAuto
namespace Go.Proofs.Ytchbbphokpmacaa
open Go.RowKit
set_option maxRecDepth 100000
set_option linter.unusedVariables false
set_option linter.unusedSimpArgs false

/-- The part of a thread, if it is one of the first n. -/
def pfn (R : Nat → Nat → Bool) (N a n : Nat) : Int := if pix R N a < n then (pix R N a : Nat) else -1
/-- .. and of the next part the first o threads have been looked at. -/
def pfo (R : Nat → Nat → Bool) (N a n o : Nat) : Int := if hasL ((prt R N n).take o) a then (n : Nat) else pfn R N a n
theorem pfo_zero (R : Nat → Nat → Bool) (N a n : Nat) : pfo R N a n 0 = pfn R N a n := rfl
theorem pfo_succ {R : Nat → Nat → Bool} {N a n o : Nat} (ho : o < (prt R N n).length) : pfo R N a n (o + 1) = if (prt R N n).getD o 0 = a then ((n : Nat) : Int) else pfo R N a n o := by
  unfold pfo hasL
  have e : (prt R N n).take (o + 1) = (prt R N n).take o ++ [(prt R N n).getD o 0] := by
    rw [List.take_succ_eq_append_getElem ho, List.getD_eq_getElem?_getD, List.getElem?_eq_getElem ho]; rfl
  rw [e]
  by_cases h : (prt R N n).getD o 0 = a
  · rw [if_pos h, if_pos (by rw [List.contains_iff_mem, List.mem_append]; right; rw [h]; simp)]
  · rw [if_neg h]
    congr 1
    rw [eq_iff_iff, List.contains_iff_mem, List.contains_iff_mem, List.mem_append]
    constructor
    · rintro (k | k)
      · exact k
      · rw [List.mem_singleton] at k; exact absurd k.symm h
    · exact .inl
theorem pfo_all {R : Nat → Nat → Bool} {N a n : Nat} (ha : a < N) (hn : n < pno R N) : pfo R N a n (prt R N n).length = pfn R N a (n + 1) := by
  unfold pfo hasL pfn
  rw [List.take_length]
  have h1 : ((prt R N n).contains a = true) ↔ pix R N a = n := by
    rw [List.contains_iff_mem, mem_prt hn]
    constructor
    · rintro ⟨_, h⟩; exact pix_is ha hn h
    · intro h; have := (pix_all (R := R) ha).2; rw [h] at this; exact ⟨ha, this⟩
  by_cases h : pix R N a = n
  · rw [if_pos (h1.2 h), if_pos (by omega), h]
  · rw [if_neg (fun k => h (h1.1 k))]
    by_cases k : pix R N a < n
    · rw [if_pos k, if_pos (by omega)]
    · rw [if_neg k, if_neg (by omega)]
theorem pfn_all {R : Nat → Nat → Bool} {N a : Nat} (ha : a < N) : pfn R N a (pno R N) = (pix R N a : Nat) := if_pos (pix_all ha).1
set_option maxHeartbeats 6400000 in
theorem held_main (W H N : Nat) (hNN : W + H = N) (A : Option Addr) (c : Nat) (g : Nat → Bool) (a b d : Nat) (w : World) (hg : Holds w w.heap.size A (W * H) g) (hW0 : 1 ≤ W) (hW : W ≤ 64) (hH0 : 1 ≤ H) (hH : H ≤ 64) (hv : grt (W : Nat) (H : Nat) (W * H) = false) (haN : a < N) (hbN : b < N) (hdN : d < N) :
    Calls Try.prog 14 #[.agg #[.int .i64 (W : Nat), .int .i64 (H : Nat), .slice A (W * H) c], .int .i64 (a : Nat), .int .i64 (b : Nat), .int .i64 (d : Nat)] w fun e w' => e = .returned (.bool true) ∧ Below w.heap.size w w' := by
  have HV := Lib.hid (fun u => valid_yes (A := A) (c := c) hv (chk_zero hW0 hW hH0 hH) u)
  have HT := Lib.hid (fun u (x : Nat) (hx : x < N) => (show Calls Try.prog 41 #[.agg #[.int .i64 (W : Nat), .int .i64 (H : Nat), .slice A (W * H) c], .int .i64 (x : Nat)] u fun e w' => e = .returned (.bool true) ∧ Below u.heap.size u w' from by have z := ris_any W H A (W * H) c (x : Nat) u hW hH; rwa [decide_eq_true (by omega)] at z))
  have HH := Lib.hid (fun u (h : Below w.heap.size w u) x y (hx : x < N) (hy : y < N) => pheld_n W H N hNN A c g x y u ((hg.below h).more h.size) hW0 hW hH0 hH hx hy)
  have HOV := Lib.hid (fun u (h : Below w.heap.size w u) x y (hx : x < N) (hy : y < N) => over_nn W H A c g x y u ((hg.below h).more h.size) hW0 hW hH0 hH (by omega) (by omega))
  have HPA := Lib.hid (fun u (h : Below w.heap.size w u) => parts_n W H N hNN A c g u ((hg.below h).more h.size) hW0 hW hH0 hH)
  have hN : N ≤ 128 := by omega
  generalize hR : ov W g = R at *
  clear hR
  have HLT := Lib.hid (fun k => prt_len R N k)
  have hm0 := (pno_all R N).1
  have HPF := Lib.hid (fun n o (h : o < (prt R N n).length) => (⟨pfo_succ (a := a) h, pfo_succ (a := b) h⟩ : _ ∧ _))
  have HPE := Lib.hid (fun n (h : n < pno R N) => (⟨pfo_all (R := R) haN h, pfo_all (R := R) hbN h⟩ : _ ∧ _))
  have HPZ := Lib.hid (show _ ∧ _ from ⟨pfn_all (R := R) haN, pfn_all (R := R) hbN⟩)
  have hself := up_self (R := R) haN
  have htr : up R N a b = true → up R N b d = true → up R N a d = true := fun h1 h2 => up_trans haN h1 h2
  have hov : R b a = true → up R N a b = true := fun h => up_closed haN (up_self haN) hbN h
  have hcl := pix_same (R := R) haN hbN
  have hle : up R N a b = true → pix R N b ≤ pix R N a := fun h => pix_le haN h
  unfold cls at hcl
  have HCL := Lib.hid hcl
  have HLE := Lib.hid hle
  have HTR := Lib.hid htr
  have HOA := Lib.hid hov
  clear hcl hle htr hov
  have X0 := Lib.hid (Box.new w (W : Nat) (H : Nat) (.slice A (W * H) c))
  have LB0 := Lib.hid (show Below w.heap.size w (w.alloc (.cells #[.int .i64 (W : Nat), .int .i64 (H : Nat), (.slice A (W * H) c)] 24)) from (Below.refl _ _).alloc (Nat.le_refl _) _)
  clear hg hNN hv
  generalize W * H = M at *
  go_enter Try.func14, Try.ntmps14
  go_wp2_with fail
  generalize w.alloc (.cells #[.int .i64 (W : Nat), .int .i64 (H : Nat), .slice A M c] 24) = w0 at *
  obtain ⟨q0, q1, q2, q3, q4, q5, q6⟩ := X0.out.all
  go_wp2_with fail
  clear q0 q1 q2 q3 q4 q5 q6
  with_reducible refine Calls.mono (HV.out _) ?_
  rintro e w1 ⟨rfl, hb⟩
  have X1 := Lib.hid (X0.out.below hb X0.out.lt)
  have LB1 := Lib.hid (LB0.out.trans (hb.mono LB0.out.size))
  clear hb X0 LB0 
  obtain ⟨q0, q1, q2, q3, q4, q5, q6⟩ := X1.out.all
  go_wp2_with fail
  clear q0 q1 q2 q3 q4 q5 q6
  with_reducible refine Calls.mono (HT.out _ a haN) ?_
  rintro e w2 ⟨rfl, hb⟩
  have X2 := Lib.hid (X1.out.below hb X1.out.lt)
  have LB2 := Lib.hid (LB1.out.trans (hb.mono LB1.out.size))
  clear hb X1 LB1 
  obtain ⟨q0, q1, q2, q3, q4, q5, q6⟩ := X2.out.all
  go_wp2_with fail
  clear q0 q1 q2 q3 q4 q5 q6
  with_reducible refine Calls.mono (HT.out _ b hbN) ?_
  rintro e w3 ⟨rfl, hb⟩
  have X3 := Lib.hid (X2.out.below hb X2.out.lt)
  have LB3 := Lib.hid (LB2.out.trans (hb.mono LB2.out.size))
  clear hb X2 LB2 
  obtain ⟨q0, q1, q2, q3, q4, q5, q6⟩ := X3.out.all
  go_wp2_with fail
  clear q0 q1 q2 q3 q4 q5 q6
  with_reducible refine Calls.mono (HT.out _ d hdN) ?_
  rintro e w4 ⟨rfl, hb⟩
  have X4 := Lib.hid (X3.out.below hb X3.out.lt)
  have LB4 := Lib.hid (LB3.out.trans (hb.mono LB3.out.size))
  clear hb X3 LB3 
  obtain ⟨q0, q1, q2, q3, q4, q5, q6⟩ := X4.out.all
  go_wp2_with fail
  clear q0 q1 q2 q3 q4 q5 q6
  with_reducible refine Calls.mono (HH.out _ LB4.out a a haN haN) ?_
  rintro e w5 ⟨rfl, hb⟩
  have X5 := Lib.hid (X4.out.below hb X4.out.lt)
  have LB5 := Lib.hid (LB4.out.trans (hb.mono LB4.out.size))
  clear hb X4 LB4 
  obtain ⟨q0, q1, q2, q3, q4, q5, q6⟩ := X5.out.all
  go_wp2_with fail
  clear q0 q1 q2 q3 q4 q5 q6
  with_reducible refine Calls.mono (HH.out _ LB5.out a b haN hbN) ?_
  rintro e w6 ⟨rfl, hb⟩
  have X6 := Lib.hid (X5.out.below hb X5.out.lt)
  have LB6 := Lib.hid (LB5.out.trans (hb.mono LB5.out.size))
  clear hb X5 LB5 
  obtain ⟨q0, q1, q2, q3, q4, q5, q6⟩ := X6.out.all
  go_wp2_with fail
  clear q0 q1 q2 q3 q4 q5 q6
  with_reducible refine Calls.mono (HH.out _ LB6.out b a hbN haN) ?_
  rintro e w7 ⟨rfl, hb⟩
  have X7 := Lib.hid (X6.out.below hb X6.out.lt)
  have LB7 := Lib.hid (LB6.out.trans (hb.mono LB6.out.size))
  clear hb X6 LB6 
  obtain ⟨q0, q1, q2, q3, q4, q5, q6⟩ := X7.out.all
  go_wp2_with fail
  clear q0 q1 q2 q3 q4 q5 q6
  with_reducible refine Calls.mono (HH.out _ LB7.out b d hbN hdN) ?_
  rintro e w8 ⟨rfl, hb⟩
  have X8 := Lib.hid (X7.out.below hb X7.out.lt)
  have LB8 := Lib.hid (LB7.out.trans (hb.mono LB7.out.size))
  clear hb X7 LB7 
  obtain ⟨q0, q1, q2, q3, q4, q5, q6⟩ := X8.out.all
  go_wp2_with fail
  clear q0 q1 q2 q3 q4 q5 q6
  with_reducible refine Calls.mono (HH.out _ LB8.out a d haN hdN) ?_
  rintro e w9 ⟨rfl, hb⟩
  have X9 := Lib.hid (X8.out.below hb X8.out.lt)
  have LB9 := Lib.hid (LB8.out.trans (hb.mono LB8.out.size))
  clear hb X8 LB8 
  obtain ⟨q0, q1, q2, q3, q4, q5, q6⟩ := X9.out.all
  go_wp2_with fail
  clear q0 q1 q2 q3 q4 q5 q6
  with_reducible refine Calls.mono (HOV.out _ LB9.out b a hbN haN) ?_
  rintro e w10 ⟨rfl, hb⟩
  have X10 := Lib.hid (X9.out.below hb X9.out.lt)
  have LB10 := Lib.hid (LB9.out.trans (hb.mono LB9.out.size))
  clear hb X9 LB9 
  obtain ⟨q0, q1, q2, q3, q4, q5, q6⟩ := X10.out.all
  go_wp2_with fail
  clear q0 q1 q2 q3 q4 q5 q6
  with_reducible refine Calls.mono (HPA.out _ LB10.out) ?_
  rintro e w11 ⟨DP, dP, rfl, _, hls, hb⟩
  have X11 := Lib.hid (X10.out.below hb X10.out.lt)
  have LB11 := Lib.hid (LB10.out.trans (hb.mono LB10.out.size))
  have P := Lib.hid hls
  clear hb X10 LB10 hls
  obtain ⟨ab, hab⟩ : ∃ x, up R N a b = x := ⟨_, rfl⟩
  obtain ⟨ba, hba⟩ : ∃ x, up R N b a = x := ⟨_, rfl⟩
  obtain ⟨bc, hbc⟩ : ∃ x, up R N b d = x := ⟨_, rfl⟩
  obtain ⟨ac, hac⟩ : ∃ x, up R N a d = x := ⟨_, rfl⟩
  obtain ⟨oo, hoo⟩ : ∃ x, R b a = x := ⟨_, rfl⟩
  have F1 := Lib.hid (show ab = true → bc = true → ac = true from fun h1 h2 => by have := HTR.out (by rw [hab, h1]) (by rw [hbc, h2]); rw [← hac]; exact this)
  have F2 := Lib.hid (show oo = true → ab = true from fun h1 => by have := HOA.out (by rw [hoo, h1]); rw [← hab]; exact this)
  have F3 := Lib.hid (show (ab && ba) = decide (pix R N a = pix R N b) from by rw [← hab, ← hba]; exact HCL.out)
  have F4 := Lib.hid (show ab = true → pix R N b ≤ pix R N a from fun h1 => HLE.out (by rw [hab, h1]))
  rw [hab, hba, hbc, hac, hoo]
  clear hab hba hbc hac hoo HTR HOA HCL HLE hself HV HT HH HOV HPA
  go_upto_region 10 with (fail)
  go_cut [142] (fun s wx => s = .bool false ∧ wx = w11)
  case first =>
    have f1 := F1.out
    have f2 := F2.out
    clear F1 F2 F3 F4 HPF HPE HPZ HLT P X11 LB11
    cases ab
    · cases oo
      · go_wp2
        go_meet
        exact ⟨rfl, rfl⟩
      · exact absurd (f2 rfl) (by decide)
    · cases bc
      · cases oo <;> (go_wp2; go_meet; exact ⟨rfl, rfl⟩)
      · obtain rfl : ac = true := f1 rfl rfl
        cases oo <;> (go_wp2; go_meet; exact ⟨rfl, rfl⟩)
  case rest =>
    obtain ⟨rfl, rfl⟩ := hcut
    obtain ⟨m, hm⟩ : ∃ m, pno R N = m := ⟨_, rfl⟩
    rw [hm] at HPE HPZ P hm0
    rw [hm]
    clear hm F1 F2
    go_wp2
    go_loop [23, 24, 25] (fun p q i => ∃ n : Nat, n ≤ m ∧ i = .int .i64 n ∧ p = .int .i64 (pfn R N a n) ∧ q = .int .i64 (pfn R N b n)) (fun _ _ i => m - (intOf i).toNat)
    case atStart => exact ⟨0, Nat.zero_le _, rfl, rfl, rfl⟩
    case round =>
      obtain ⟨n, hn, rfl, rfl, rfl⟩ := hrel
      by_cases hlt : n < m
      · have y1 : (n : Int) < (m : Int) := by omega
        have y2 : (0 : Int) ≤ (n : Int) := by omega
        obtain ⟨b1, o1, rfl, hb1, hc1⟩ := P.out (by omega)
        obtain ⟨E1, d1, a1, _, l1⟩ := hc1 n hlt
        have HE1 := Lib.hid l1
        have hpl := HLT.out n
        have HEn := Lib.hid (HPE.out n hlt)
        have HFn := Lib.hid (fun o h => HPF.out n o h)
        have hz1 := pfo_zero R N a n
        have hz2 := pfo_zero R N b n
        have HZ1 := Lib.hid hz1
        have HZ2 := Lib.hid hz2
        obtain ⟨ln, hln⟩ : ∃ x, (prt R N n).length = x := ⟨_, rfl⟩
        have HLN := Lib.hid hln
        rw [hln] at a1 hpl HEn HFn
        clear hc1 l1 hb1 hln hz1 hz2
        go_wp2
        go_loop [23, 24, 26] (fun p q i => ∃ o : Nat, o ≤ ln ∧ i = .int .i64 o ∧ p = .int .i64 (pfo R N a n o) ∧ q = .int .i64 (pfo R N b n o)) (fun _ _ i => ln - (intOf i).toNat)
        case atStart => exact ⟨0, Nat.zero_le _, rfl, by rw [HZ1.out], by rw [HZ2.out]⟩
        case round =>
          obtain ⟨o, ho, rfl, rfl, rfl⟩ := hrel
          by_cases hlo : o < ln
          · have y3 : (o : Int) < (ln : Int) := by omega
            have y4 : (0 : Int) ≤ (o : Int) := by omega
            obtain ⟨b2, o2, rfl, hb2, hc2⟩ := HE1.out (by rw [HLN.out]; omega)
            have a2 := hc2 o (by rw [HLN.out]; exact hlo)
            rw [show lf (prt R N n) o = (((prt R N n).getD o 0 : Nat) : Int) from rfl] at a2
            obtain ⟨s1, s2⟩ := HFn.out o hlo
            obtain ⟨x, hx⟩ : ∃ x, (prt R N n).getD o 0 = x := ⟨_, rfl⟩
            rw [hx] at a2 s1 s2
            have S1 := Lib.hid s1
            have S2 := Lib.hid s2
            clear hc2 hb2 hx s1 s2
            by_cases e1 : x = a
            · by_cases e2 : x = b
              · have z1 : ((x : Int) == (a : Int)) = true := by rw [e1]; simp
                have z2 : ((x : Int) == (b : Int)) = true := by rw [e2]; simp
                have T1 := Lib.hid (show pfo R N a n (o + 1) = (n : Nat) by rw [S1.out, if_pos e1])
                have T2 := Lib.hid (show pfo R N b n (o + 1) = (n : Nat) by rw [S2.out, if_pos e2])
                clear e1 e2
                go_wp2
                go_round
                case rel => exact ⟨o + 1, by omega, by go_num, by rw [T1.out], by rw [T2.out]⟩
                case measure => simp [intOf]; omega
              · have z1 : ((x : Int) == (a : Int)) = true := by rw [e1]; simp
                have z2 : ((x : Int) == (b : Int)) = false := by rw [beq_eq_false_iff_ne]; omega
                have T1 := Lib.hid (show pfo R N a n (o + 1) = (n : Nat) by rw [S1.out, if_pos e1])
                have T2 := Lib.hid (show pfo R N b n (o + 1) = pfo R N b n o by rw [S2.out, if_neg e2])
                clear e1 e2
                go_wp2
                go_round
                case rel => exact ⟨o + 1, by omega, by go_num, by rw [T1.out], by rw [T2.out]⟩
                case measure => simp [intOf]; omega
            · by_cases e2 : x = b
              · have z1 : ((x : Int) == (a : Int)) = false := by rw [beq_eq_false_iff_ne]; omega
                have z2 : ((x : Int) == (b : Int)) = true := by rw [e2]; simp
                have T1 := Lib.hid (show pfo R N a n (o + 1) = pfo R N a n o by rw [S1.out, if_neg e1])
                have T2 := Lib.hid (show pfo R N b n (o + 1) = (n : Nat) by rw [S2.out, if_pos e2])
                clear e1 e2
                go_wp2
                go_round
                case rel => exact ⟨o + 1, by omega, by go_num, by rw [T1.out], by rw [T2.out]⟩
                case measure => simp [intOf]; omega
              · have z1 : ((x : Int) == (a : Int)) = false := by rw [beq_eq_false_iff_ne]; omega
                have z2 : ((x : Int) == (b : Int)) = false := by rw [beq_eq_false_iff_ne]; omega
                have T1 := Lib.hid (show pfo R N a n (o + 1) = pfo R N a n o by rw [S1.out, if_neg e1])
                have T2 := Lib.hid (show pfo R N b n (o + 1) = pfo R N b n o by rw [S2.out, if_neg e2])
                clear e1 e2
                go_wp2
                go_round
                case rel => exact ⟨o + 1, by omega, by go_num, by rw [T1.out], by rw [T2.out]⟩
                case measure => simp [intOf]; omega
          · have e : o = ln := by omega
            have y3 : ¬ (o : Int) < (ln : Int) := by omega
            have T1 := Lib.hid (show pfo R N a n o = pfn R N a (n + 1) by rw [e]; exact HEn.out.1)
            have T2 := Lib.hid (show pfo R N b n o = pfn R N b (n + 1) by rw [e]; exact HEn.out.2)
            clear e
            go_wp2
            go_round
            case rel => exact ⟨n + 1, by omega, by go_num, by rw [T1.out], by rw [T2.out]⟩
            case measure => simp [intOf]; omega
      · have e : n = m := by omega
        have y1 : ¬ (n : Int) < (m : Int) := by omega
        rw [e, HPZ.out.1, HPZ.out.2]
        have y1 : ¬ (m : Int) < (m : Int) := by omega
        have f3 := F3.out
        have f4 := F4.out
        obtain ⟨pa, hpa⟩ : ∃ x, pix R N a = x := ⟨_, rfl⟩
        obtain ⟨pb, hpb⟩ : ∃ x, pix R N b = x := ⟨_, rfl⟩
        rw [hpa, hpb] at f3 f4 
        rw [hpa, hpb]
        clear hpa hpb e F3 F4 HPZ HPE HPF HLT P
        have u1 : (pa : Int) ≥ 0 := by omega
        have u2 : (pb : Int) ≥ 0 := by omega
        cases ab
        · have w1 : ((pa : Int) == (pb : Int)) = false := by
            rw [beq_eq_false_iff_ne]
            intro h
            rw [decide_eq_true (by omega)] at f3
            cases f3
          clear f3 f4
          go_wp2_with fail
          with_reducible refine Calls.mono (alive11_any _) ?_
          rintro e wz ⟨rfl, hb⟩
          have LBZ := Lib.hid (LB11.out.trans (hb.mono LB11.out.size))
          clear hb
          go_wp2
          go_ret
          exact ⟨rfl, LBZ.out⟩
        · have w2 := f4 rfl
          have w3 : (pb : Int) ≤ (pa : Int) := by omega
          cases ba
          · have w1 : ((pa : Int) == (pb : Int)) = false := by
              rw [beq_eq_false_iff_ne]
              intro h
              rw [decide_eq_true (by omega)] at f3
              cases f3
            clear f3 f4 w2
            go_wp2_with fail
            with_reducible refine Calls.mono (alive11_any _) ?_
            rintro e wz ⟨rfl, hb⟩
            have LBZ := Lib.hid (LB11.out.trans (hb.mono LB11.out.size))
            clear hb
            go_wp2
            go_ret
            exact ⟨rfl, LBZ.out⟩
          · have w1 : ((pa : Int) == (pb : Int)) = true := by
              have := of_decide_eq_true f3.symm
              rw [this]; simp
            clear f3 f4 w2
            go_wp2_with fail
            with_reducible refine Calls.mono (alive11_any _) ?_
            rintro e wz ⟨rfl, hb⟩
            have LBZ := Lib.hid (LB11.out.trans (hb.mono LB11.out.size))
            clear hb
            go_wp2
            go_ret
            exact ⟨rfl, LBZ.out⟩
end Go.Proofs.Ytchbbphokpmacaa
