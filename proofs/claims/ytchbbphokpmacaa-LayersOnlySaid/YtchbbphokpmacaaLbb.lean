/- The walk of LayersBack. -/
import Derived.Test.YtchbbphokpmacaaLbo
import Derived.Deep.DeepCutAuto
namespace Go.Proofs.Ytchbbphokpmacaa
open Go.RowKit
set_option maxRecDepth 100000
set_option linter.unusedVariables false
set_option linter.unusedSimpArgs false

/-- Cells that lie. -/
structure LVb (v : World) (D : Option Addr) (n : Nat) (f : Nat → Bool) : Prop where
  h : Holds v v.heap.size D n f
theorem LVb.below {v v' : World} {D : Option Addr} {n : Nat} {f : Nat → Bool} (h : LVb v D n f) (hb : Below v.heap.size v v') : LVb v' D n f := ⟨(h.h.below hb).more hb.size⟩
set_option maxHeartbeats 6400000 in
theorem bck_main (W H N : Nat) (hNN : W + H = N) (h24 : N ≤ 24) (A : Option Addr) (c : Nat) (g : Nat → Bool) (E : Option Addr) (m d : Nat) (s : Nat → Int) (dx dy : Int) (w : World) (hg : Holds w w.heap.size A (W * H) g) (hs : L2.Holds w w.heap.size E m s) (hW0 : 1 ≤ W) (hW : W ≤ 64) (hH0 : 1 ≤ H) (hH : H ≤ 64) (hv : grt (W : Nat) (H : Nat) (W * H) = false) (hm40 : m ≤ 40)
    (x0 : -9223372036854775808 ≤ dx) (x1 : dx ≤ 9223372036854775807) (y0 : -9223372036854775808 ≤ dy) (y1 : dy ≤ 9223372036854775807) :
    Calls Try.prog 16 #[.agg #[.int .i64 (W : Nat), .int .i64 (H : Nat), .slice A (W * H) c], .slice E m d, .int .i64 dx, .int .i64 dy] w fun e w' => e = .returned (.bool true) ∧ Below w.heap.size w w' := by
  have HV := Lib.hid (fun u => valid_yes (A := A) (c := c) hv (chk_zero hW0 hW hH0 hH) u)
  have HPA := Lib.hid (fun u (h : Below w.heap.size w u) => parts_n W H N hNN A c g u ((hg.below h).more h.size) hW0 hW hH0 hH)
  have HNO := Lib.hid (fun u (h : Below w.heap.size w u) => not_ok W H A c g u ((hg.below h).more h.size) hW0 hW hH0 hH)
  have HSH := Lib.hid (fun u (h : Below w.heap.size w u) => shift_ok W H A c g dx dy u ((hg.below h).more h.size) hW0 hW hH0 hH x0 x1 y0 y1)
  have HPN := Lib.hid (fun u k (h : Row u k (W * H) fun i => !g i) => (show Calls Try.prog 42 #[.agg #[.int .i64 (W : Nat), .int .i64 (H : Nat), .slice (some ⟨k, 0, none⟩) (W * H) (W * H)]] u (PaR u (prt (ov W fun i => !g i) N) (pno (ov W g) N) 0) from by
    have h9 := parts_n W H N hNN (some ⟨k, 0, none⟩) (W * H) (fun i => !g i) u (h.holds h.lt) hW0 hW hH0 hH
    rwa [back_no (R := ov W g) fun a b _ _ => ov_not W g a b] at h9))
  have HPS := Lib.hid (fun u k (h : Row u k (W * H) fun i => g (ay W H (dy % H) i * W + ax W (dx % W) i)) => (show Calls Try.prog 42 #[.agg #[.int .i64 (W : Nat), .int .i64 (H : Nat), .slice (some ⟨k, 0, none⟩) (W * H) (W * H)]] u (PaR u (prt (ov W fun i => g (ay W H (dy % H) i * W + ax W (dx % W) i)) N) (pno (ov W g) N) 0) from by
    have h9 := parts_n W H N hNN (some ⟨k, 0, none⟩) (W * H) _ u (h.holds h.lt) hW0 hW hH0 hH
    have h8 := shift_no (W := W) (H := H) (dx := dx) (dy := dy) (g := g) hW0 hH0
    rw [hNN] at h8
    rwa [h8] at h9))
  have HFB := Lib.hid (fun i (hi : i < pno (ov W g) N) => fnd_back (R := ov W g) (R2 := ov W fun i => !g i) (fun a b _ _ => ov_not W g a b) hi)
  have HFS := Lib.hid (fun i k => fnd_succ (ov W g) (ov W fun i => !g i) N i k)
  have HL1 := Lib.hid (fun k => prt_len (ov W g) N k)
  have HON := Lib.hid (fun u (h : Below w.heap.size w u) (hS : setB (W + H) m s = false) => ponly_no W H A c g E m d s u ((hg.below h).more h.size) hW0 hW hH0 hH (by omega) ((hs.below h).more h.size) hS)
  have HONn := Lib.hid (fun u (h : Below w.heap.size w u) k (hr : Row u k (W * H) fun i => !g i) (hS : setB (W + H) m s = false) => ponly_no W H (some ⟨k, 0, none⟩) (W * H) (fun i => !g i) E m d s u (hr.holds hr.lt) hW0 hW hH0 hH (by omega) ((hs.below h).more h.size) hS)
  have HOS := Lib.hid (fun u (h : Below w.heap.size w u) (hS : setB (W + H) m s = true) h0 => only_short W H A c g E m d s u ((hg.below h).more h.size) hW0 hW hH0 hH ((hs.below h).more h.size) hS h0)
  have HOSn := Lib.hid (fun u (h : Below w.heap.size w u) k (hr : Row u k (W * H) fun i => !g i) (hS : setB (W + H) m s = true) h0 => only_short W H (some ⟨k, 0, none⟩) (W * H) (fun i => !g i) E m d s u (hr.holds hr.lt) hW0 hW hH0 hH ((hs.below h).more h.size) hS h0)
  have HOK := Lib.hid (fun u (h : Below w.heap.size w u) (hS : setB (W + H) m s = true) h1 h2 => only_ok W H A c g E m d s u ((hg.below h).more h.size) hW0 hW hH0 hH ((hs.below h).more h.size) hS h1 h2)
  have HOKn := Lib.hid (fun u (h : Below w.heap.size w u) k (hr : Row u k (W * H) fun i => !g i) (hS : setB (W + H) m s = true) h1 h2 => only_ok W H (some ⟨k, 0, none⟩) (W * H) (fun i => !g i) E m d s u (hr.holds hr.lt) hW0 hW hH0 hH ((hs.below h).more h.size) hS h1 h2)
  have hml := lens W (setL m s)
  rw [setL_len] at hml
  have hmN : setB (W + H) m s = true → m ≤ W + H := fun h => setB_len h
  have hm0 := (pno_all (ov W g) N).1
  have X0 := Lib.hid (Box.new w (W : Nat) (H : Nat) (.slice A (W * H) c))
  have LB0 := Lib.hid (show Below w.heap.size w (w.alloc (.cells #[.int .i64 (W : Nat), .int .i64 (H : Nat), (.slice A (W * H) c)] 24)) from (Below.refl _ _).alloc (Nat.le_refl _) _)
  have y40 : ¬ (40 : Int) < (m : Int) := by omega
  have y41 : ¬ (m : Int) > 40 := by omega
  have HMN := Lib.hid hmN
  have HML := Lib.hid hml
  clear hg hs hv hmN hml x0 x1 y0 y1
  unfold OkGrid at HNO HSH
  generalize W * H = M at *
  obtain ⟨pn, hpn⟩ : ∃ x, pno (ov W g) N = x := ⟨_, rfl⟩
  rw [hpn] at HPA HPN HPS HFB hm0
  clear hpn
  generalize hR : ov W g = R at *
  generalize hR2 : (ov W fun i => !g i) = R2 at *
  generalize (ov W fun i => g (ay W H (dy % H) i * W + ax W (dx % W) i)) = R3 at *
  clear hR hR2
  go_enter Try.func16, Try.ntmps16
  go_wp2_with fail
  generalize w.alloc (.cells #[.int .i64 (W : Nat), .int .i64 (H : Nat), .slice A M c] 24) = w0 at *
  obtain ⟨q0, q1, q2, q3, q4, q5, q6⟩ := X0.out.all
  go_wp2_with fail
  clear q0 q1 q2 q3 q4 q5 q6
  with_reducible refine Calls.mono (HV.out _) ?_
  rintro e w1 ⟨rfl, hb⟩
  have X1 := Lib.hid (X0.out.below hb X0.out.lt)
  have LB1 := Lib.hid (LB0.out.trans (hb.mono LB0.out.size))
  clear hb X0 LB0 
  obtain ⟨q0, q1, q2, q3, q4, q5, q6⟩ := X1.out.all
  go_wp2_with fail
  clear q0 q1 q2 q3 q4 q5 q6
  with_reducible refine Calls.mono (HPA.out _ LB1.out) ?_
  rintro e w2 ⟨DP, dP, rfl, _, hls, hb⟩
  have X2 := Lib.hid (X1.out.below hb X1.out.lt)
  have LB2 := Lib.hid (LB1.out.trans (hb.mono LB1.out.size))
  have P := Lib.hid hls
  clear hb X1 LB1 hls
  obtain ⟨q0, q1, q2, q3, q4, q5, q6⟩ := X2.out.all
  go_wp2_with fail
  clear q0 q1 q2 q3 q4 q5 q6
  with_reducible refine Calls.mono (HNO.out _ LB2.out) ?_
  rintro e w3 ⟨kn, rfl, _, hrow, hb⟩
  have X3 := Lib.hid (X2.out.below hb X2.out.lt)
  have LB3 := Lib.hid (LB2.out.trans (hb.mono LB2.out.size))
  have P := Lib.hid (P.out.below hb)
  have RN := Lib.hid hrow
  clear hb X2 LB2 hrow
  have hb := bel_alloc w3 (.cells #[.int .i64 (W : Nat), .int .i64 (H : Nat), .slice (some ⟨kn, 0, none⟩) M M] 24)
  have X4 := Lib.hid (X3.out.below hb X3.out.lt)
  have LB4 := Lib.hid (LB3.out.trans (hb.mono LB3.out.size))
  have P := Lib.hid (P.out.below hb)
  have RN := Lib.hid (RN.out.below hb RN.out.lt)
  have NB := Lib.hid (Box.new w3 (W : Nat) (H : Nat) (.slice (some ⟨kn, 0, none⟩) M M))
  clear hb X3 LB3
  go_upto_region 5 with (fail)
  generalize w3.heap.size = nb at *
  generalize w3.alloc (.cells #[.int .i64 (W : Nat), .int .i64 (H : Nat), .slice (some ⟨kn, 0, none⟩) M M] 24) = w4 at *
  obtain ⟨q0, q1, q2, q3, q4, q5, q6⟩ := NB.out.all
  go_wp2_with fail
  clear q0 q1 q2 q3 q4 q5 q6
  with_reducible refine Calls.mono (HPN.out _ kn RN.out) ?_
  rintro e w5 ⟨DP2, dP2, rfl, _, hls, hb⟩
  have X5 := Lib.hid (X4.out.below hb X4.out.lt)
  have LB5 := Lib.hid (LB4.out.trans (hb.mono LB4.out.size))
  have P := Lib.hid (P.out.below hb)
  have RN := Lib.hid (RN.out.below hb RN.out.lt)
  have NB := Lib.hid (NB.out.below hb NB.out.lt)
  have P2 := Lib.hid hls
  clear hb X4 LB4 hls
  obtain ⟨q0, q1, q2, q3, q4, q5, q6⟩ := X5.out.all
  go_wp2_with fail
  clear q0 q1 q2 q3 q4 q5 q6
  with_reducible refine Calls.mono (HSH.out _ LB5.out) ?_
  rintro e w6 ⟨ks, rfl, _, hrow, hb⟩
  have X6 := Lib.hid (X5.out.below hb X5.out.lt)
  have LB6 := Lib.hid (LB5.out.trans (hb.mono LB5.out.size))
  have P := Lib.hid (P.out.below hb)
  have RN := Lib.hid (RN.out.below hb RN.out.lt)
  have NB := Lib.hid (NB.out.below hb NB.out.lt)
  have P2 := Lib.hid (P2.out.below hb)
  have RS := Lib.hid hrow
  clear hb X5 LB5 hrow
  have hb := bel_alloc w6 (.cells #[.int .i64 (W : Nat), .int .i64 (H : Nat), .slice (some ⟨ks, 0, none⟩) M M] 24)
  have X7 := Lib.hid (X6.out.below hb X6.out.lt)
  have LB7 := Lib.hid (LB6.out.trans (hb.mono LB6.out.size))
  have P := Lib.hid (P.out.below hb)
  have RN := Lib.hid (RN.out.below hb RN.out.lt)
  have NB := Lib.hid (NB.out.below hb NB.out.lt)
  have P2 := Lib.hid (P2.out.below hb)
  have RS := Lib.hid (RS.out.below hb RS.out.lt)
  have SB := Lib.hid (Box.new w6 (W : Nat) (H : Nat) (.slice (some ⟨ks, 0, none⟩) M M))
  clear hb X6 LB6
  go_upto_region 7 with (fail)
  generalize w6.heap.size = sb at *
  generalize w6.alloc (.cells #[.int .i64 (W : Nat), .int .i64 (H : Nat), .slice (some ⟨ks, 0, none⟩) M M] 24) = w7 at *
  obtain ⟨q0, q1, q2, q3, q4, q5, q6⟩ := SB.out.all
  go_wp2_with fail
  clear q0 q1 q2 q3 q4 q5 q6
  with_reducible refine Calls.mono (HPS.out _ ks RS.out) ?_
  rintro e w8 ⟨DP3, dP3, rfl, _, _, hb⟩
  have X8 := Lib.hid (X7.out.below hb X7.out.lt)
  have LB8 := Lib.hid (LB7.out.trans (hb.mono LB7.out.size))
  have P := Lib.hid (P.out.below hb)
  have RN := Lib.hid (RN.out.below hb RN.out.lt)
  have NB := Lib.hid (NB.out.below hb NB.out.lt)
  have P2 := Lib.hid (P2.out.below hb)
  have RS := Lib.hid (RS.out.below hb RS.out.lt)
  have SB := Lib.hid (SB.out.below hb SB.out.lt)
  clear hb X7 LB7 
  clear RS
  clear SB
  clear HPA HPN HPS HSH HNO HV
  have zpn : ((pn : Int) != (pn : Int)) = false := by simp
  go_wp2
  go_loopw [19] (fun i wr => ∃ a : Nat, a ≤ pn ∧ i = .int .i64 a ∧ Hid (Below w8.heap.size w8 wr)) (fun i _ => pn - (intOf i).toNat)
  case atStart => exact ⟨0, Nat.zero_le _, rfl, Lib.hid (Below.refl _ _)⟩
  case round =>
    obtain ⟨a, ha, rfl, HB⟩ := hrel
    by_cases hlt : a < pn
    · have z1 : (a : Int) < (pn : Int) := by omega
      have z2 : (0 : Int) ≤ (a : Int) := by omega
      have hfall := HFB.out a hlt
      have HFALL := Lib.hid hfall
      clear hfall
      go_wp2
      go_loopw [20, 21] (fun f i wr => ∃ b : Nat, b ≤ pn ∧ i = .int .i64 b ∧ f = .bool (fndB R R2 N a b) ∧ Hid (Below w8.heap.size w8 wr)) (fun _ i _ => pn - (intOf i).toNat)
      case atStart => exact ⟨0, Nat.zero_le _, rfl, rfl, HB⟩
      case round =>
        obtain ⟨b, hb, rfl, rfl, HB2⟩ := hrel
        clear HB
        by_cases hlb : b < pn
        · have z3 : (b : Int) < (pn : Int) := by omega
          have z4 : (0 : Int) ≤ (b : Int) := by omega
          have E := Lib.hid (HFS.out a b)
          obtain ⟨b1, o1, rfl, hb1, hc1⟩ := (P.out.below HB2.out) (by omega)
          obtain ⟨b2, o2, rfl, hb2, hc2⟩ := (P2.out.below HB2.out) (by omega)
          obtain ⟨E1, d1, a1, _, l1⟩ := hc1 a hlt
          obtain ⟨E2, d2, a2, _, l2⟩ := hc2 b hlb
          obtain ⟨fo, hfo⟩ : ∃ x, fndB R R2 N a b = x := ⟨_, rfl⟩
          rw [hfo] at E
          rw [hfo]
          clear hfo hc1 hc2
          cases fo
          · obtain ⟨I, Wf, i0, h0, hbf, hcf⟩ := family wr
            have hne : Nonempty I := ⟨i0⟩
            have hpl := HL1.out a
            have C1 := Lib.hid (fun n' => (same_two d1 d2 (Wf n') (by omega) (l1.below (hbf n')) (l2.below (hbf n'))).mono fun e w2 h => (⟨h.1, hcf n' _ h.2⟩ : _ ∧ ∃ m, w2 = Wf m))
            have x1 := fun n' => ((hbf n').cell (p := ⟨b1, o1 + a, none⟩) hb1).trans a1
            have x2 := fun n' => ((hbf n').cell (p := ⟨b2, o2 + b, none⟩) hb2).trans a2
            have BF := Lib.hid hbf
            obtain ⟨eq, heq⟩ : ∃ x, (prt R N a == prt R2 N b) = x := ⟨_, rfl⟩
            rw [heq] at C1 E
            have E2' := Lib.hid (show fndB R R2 N a (b + 1) = eq by rw [E.out]; rfl)
            clear hcf hbf hb1 hb2 l1 l2 a1 a2 heq E
            generalize (prt R N a).length = n1 at *
            generalize (prt R2 N b).length = n2 at *
            go_wp2
            refine wp_region_fam Wf i0 h0 (by kernel_rfl) (by kernel_rfl) ?_
            clear h0
            repeat (go_big_quiet_step (first | exact rfl | (go_at_call 50; with_reducible exact C1.out _)))
            refine wpQuiet_nil ?_
            rintro _ ⟨nq, rfl⟩
            have HB3 := Lib.hid (HB2.out.trans ((BF.out nq).mono HB2.out.size))
            clear x1 x2 C1 hne
            generalize Wf nq = w50 at *
            go_wp2
            go_roundw
            case rel => exact ⟨b + 1, by omega, by go_num, by rw [E2'.out], HB3⟩
            case measure => simp [intOf]; omega
          · have E2' := Lib.hid (show fndB R R2 N a (b + 1) = true by rw [E.out]; rfl)
            obtain ⟨I, Wf, i0, h0, hbf, hcf⟩ := family wr
            have hne : Nonempty I := ⟨i0⟩
            have BF := Lib.hid hbf
            clear hcf hbf hb1 hb2 l1 l2 a1 a2 E
            go_wp2
            refine wp_region_fam Wf i0 h0 (by kernel_rfl) (by kernel_rfl) ?_
            clear h0
            repeat (go_big_quiet_step (first | exact rfl))
            refine wpQuiet_nil ?_
            rintro _ ⟨nq, rfl⟩
            have HB3 := Lib.hid (HB2.out.trans ((BF.out nq).mono HB2.out.size))
            clear hne
            generalize Wf nq = w50 at *
            go_wp2
            go_roundw
            case rel => exact ⟨b + 1, by omega, by go_num, by rw [E2'.out], HB3⟩
            case measure => simp [intOf]; omega
        · have e : b = pn := by omega
          have z3 : ¬ (b : Int) < (pn : Int) := by omega
          have E := HFALL.out
          rw [← e] at E
          rw [E]
          clear e E
          go_wp2
          go_roundw
          case rel => exact ⟨a + 1, by omega, by go_num, HB2⟩
          case measure => simp [intOf]; omega
    · have e : a = pn := by omega
      have z1 : ¬ (a : Int) < (pn : Int) := by omega
      have X30 := Lib.hid (X8.out.below HB.out X8.out.lt)
      have LB30 := Lib.hid (LB8.out.trans (HB.out.mono LB8.out.size))
      have RN := Lib.hid (RN.out.below HB.out RN.out.lt)
      have NB := Lib.hid (NB.out.below HB.out NB.out.lt)
      clear e HFB HFS HL1 P P2 HB
      generalize wr = w30 at *
      by_cases hS : setB (W + H) m s = true
      · by_cases h0 : (lEn W (setL m s)).length = 0 ∨ (lPi W (setL m s)).length = 0
        · have HA := Lib.hid (fun u (h : Below w.heap.size w u) => HOS.out u h hS h0)
          have HAn := Lib.hid (fun u (h : Below w.heap.size w u) k hr => HOSn.out u h k hr hS h0)
          clear HON HONn HOS HOSn HOK HOKn HML
          obtain ⟨q0, q1, q2, q3, q4, q5, q6⟩ := X30.out.all
          go_wp2_with fail
          clear q0 q1 q2 q3 q4 q5 q6
          with_reducible refine Calls.mono (HA.out _ LB30.out) ?_
          rintro e w31 ⟨rfl, hb⟩
          have X31 := Lib.hid (X30.out.below hb X30.out.lt)
          have LB31 := Lib.hid (LB30.out.trans (hb.mono LB30.out.size))
          have RN := Lib.hid (RN.out.below hb RN.out.lt)
          have NB := Lib.hid (NB.out.below hb NB.out.lt)
          clear hb X30 LB30 
          have hb := bel_alloc w31 (.cells #[.int .i64 0, .int .i64 0, .slice none 0 0] 24)
          have X32 := Lib.hid (X31.out.below hb X31.out.lt)
          have LB32 := Lib.hid (LB31.out.trans (hb.mono LB31.out.size))
          have RN := Lib.hid (RN.out.below hb RN.out.lt)
          have NB := Lib.hid (NB.out.below hb NB.out.lt)
          clear hb X31 LB31
          go_upto_region 21 with (fail)
          generalize w31.alloc (.cells #[.int .i64 0, .int .i64 0, .slice none 0 0] 24) = w32 at *
          obtain ⟨q0, q1, q2, q3, q4, q5, q6⟩ := NB.out.all
          go_wp2_with fail
          clear q0 q1 q2 q3 q4 q5 q6
          with_reducible refine Calls.mono (HAn.out _ LB32.out kn RN.out) ?_
          rintro e w33 ⟨rfl, hb⟩
          have X33 := Lib.hid (X32.out.below hb X32.out.lt)
          have LB33 := Lib.hid (LB32.out.trans (hb.mono LB32.out.size))
          have RN := Lib.hid (RN.out.below hb RN.out.lt)
          have NB := Lib.hid (NB.out.below hb NB.out.lt)
          clear hb X32 LB32 
          have hb := bel_alloc w33 (.cells #[.int .i64 0, .int .i64 0, .slice none 0 0] 24)
          have X34 := Lib.hid (X33.out.below hb X33.out.lt)
          have LB34 := Lib.hid (LB33.out.trans (hb.mono LB33.out.size))
          have RN := Lib.hid (RN.out.below hb RN.out.lt)
          have NB := Lib.hid (NB.out.below hb NB.out.lt)
          clear hb X33 LB33
          go_upto_region 22 with (fail)
          generalize w33.alloc (.cells #[.int .i64 0, .int .i64 0, .slice none 0 0] 24) = w34 at *
          have zz : (((22 : Int)) == 22) = true := rfl
          go_wp2_with fail
          with_reducible refine Calls.mono (alive11_any _) ?_
          rintro e w60 ⟨rfl, hb⟩
          have LBZ := Lib.hid (LB34.out.trans (hb.mono LB34.out.size))
          clear hb
          go_wp2
          go_ret
          exact ⟨rfl, LBZ.out⟩
        · have h1 : 0 < (lEn W (setL m s)).length := by omega
          have h2 : 0 < (lPi W (setL m s)).length := by omega
          have HA := Lib.hid (fun u (h : Below w.heap.size w u) => HOK.out u h hS h1 h2)
          have HAn := Lib.hid (fun u (h : Below w.heap.size w u) k hr => HOKn.out u h k hr hS h1 h2)
          have hmn := HMN.out hS
          have hml := HML.out
          clear HON HONn HOS HOSn HOK HOKn h0
          obtain ⟨n1, hn1⟩ : ∃ x, (lEn W (setL m s)).length = x := ⟨_, rfl⟩
          obtain ⟨n2, hn2⟩ : ∃ x, (lPi W (setL m s)).length = x := ⟨_, rfl⟩
          rw [hn1, hn2] at hml HA HAn
          rw [hn1] at h1
          rw [hn2] at h2
          have hb12 : n1 * n2 ≤ 24 * 24 := Nat.mul_le_mul (by omega) (by omega)
          clear hn1 hn2 HML
          generalize lEn W (setL m s) = l1 at *
          generalize lPi W (setL m s) = l2 at *
          obtain ⟨q0, q1, q2, q3, q4, q5, q6⟩ := X30.out.all
          go_wp2_with fail
          clear q0 q1 q2 q3 q4 q5 q6
          with_reducible refine Calls.mono (HA.out _ LB30.out) ?_
          rintro e w31 ⟨Ao, co, rfl, _, hho, hb⟩
          have X31 := Lib.hid (X30.out.below hb X30.out.lt)
          have LB31 := Lib.hid (LB30.out.trans (hb.mono LB30.out.size))
          have RN := Lib.hid (RN.out.below hb RN.out.lt)
          have NB := Lib.hid (NB.out.below hb NB.out.lt)
          clear hb X30 LB30 
          have HO := Lib.hid (show LVb w31 Ao (n1 * n2) (onF W g l1 l2) from ⟨hho⟩)
          clear hho
          have hb := bel_alloc w31 (.cells #[.int .i64 (n1 : Nat), .int .i64 (n2 : Nat), .slice Ao (n1 * n2) co] 24)
          have X32 := Lib.hid (X31.out.below hb X31.out.lt)
          have LB32 := Lib.hid (LB31.out.trans (hb.mono LB31.out.size))
          have RN := Lib.hid (RN.out.below hb RN.out.lt)
          have NB := Lib.hid (NB.out.below hb NB.out.lt)
          have HO := Lib.hid (HO.out.below hb)
          have OB := Lib.hid (Box.new w31 (n1 : Nat) (n2 : Nat) (.slice Ao (n1 * n2) co))
          clear hb X31 LB31
          go_upto_region 21 with (fail)
          generalize w31.heap.size = ob at *
          generalize w31.alloc (.cells #[.int .i64 (n1 : Nat), .int .i64 (n2 : Nat), .slice Ao (n1 * n2) co] 24) = w32 at *
          obtain ⟨q0, q1, q2, q3, q4, q5, q6⟩ := NB.out.all
          go_wp2_with fail
          clear q0 q1 q2 q3 q4 q5 q6
          with_reducible refine Calls.mono (HAn.out _ LB32.out kn RN.out) ?_
          rintro e w33 ⟨Aq, cq, rfl, _, hho, hb⟩
          have X33 := Lib.hid (X32.out.below hb X32.out.lt)
          have LB33 := Lib.hid (LB32.out.trans (hb.mono LB32.out.size))
          have RN := Lib.hid (RN.out.below hb RN.out.lt)
          have NB := Lib.hid (NB.out.below hb NB.out.lt)
          have HO := Lib.hid (HO.out.below hb)
          have OB := Lib.hid (OB.out.below hb OB.out.lt)
          clear hb X32 LB32 
          have HQ := Lib.hid (show LVb w33 Aq (n1 * n2) (onF W (fun i => !g i) l1 l2) from ⟨hho⟩)
          clear hho
          have hb := bel_alloc w33 (.cells #[.int .i64 (n1 : Nat), .int .i64 (n2 : Nat), .slice Aq (n1 * n2) cq] 24)
          have X34 := Lib.hid (X33.out.below hb X33.out.lt)
          have LB34 := Lib.hid (LB33.out.trans (hb.mono LB33.out.size))
          have RN := Lib.hid (RN.out.below hb RN.out.lt)
          have NB := Lib.hid (NB.out.below hb NB.out.lt)
          have HO := Lib.hid (HO.out.below hb)
          have OB := Lib.hid (OB.out.below hb OB.out.lt)
          have HQ := Lib.hid (HQ.out.below hb)
          have QB := Lib.hid (Box.new w33 (n1 : Nat) (n2 : Nat) (.slice Aq (n1 * n2) cq))
          clear hb X33 LB33
          go_upto_region 22 with (fail)
          generalize w33.heap.size = qb at *
          generalize w33.alloc (.cells #[.int .i64 (n1 : Nat), .int .i64 (n2 : Nat), .slice Aq (n1 * n2) cq] 24) = w34 at *
          obtain ⟨q0, q1, q2, q3, q4, q5, q6⟩ := OB.out.all
          go_wp2_with fail
          clear q0 q1 q2 q3 q4 q5 q6
          with_reducible refine Calls.mono (not_ok n1 n2 Ao co (onF W g l1 l2) _ HO.out.h (by omega) (by omega) (by omega) (by omega)) ?_
          rintro e w35 ⟨kt, rfl, _, hrow, hb⟩
          have X35 := Lib.hid (X34.out.below hb X34.out.lt)
          have LB35 := Lib.hid (LB34.out.trans (hb.mono LB34.out.size))
          have RN := Lib.hid (RN.out.below hb RN.out.lt)
          have NB := Lib.hid (NB.out.below hb NB.out.lt)
          have HO := Lib.hid (HO.out.below hb)
          have OB := Lib.hid (OB.out.below hb OB.out.lt)
          have HQ := Lib.hid (HQ.out.below hb)
          have QB := Lib.hid (QB.out.below hb QB.out.lt)
          have RT := Lib.hid hrow
          clear hb X34 LB34 hrow
          have hb := bel_alloc w35 (.cells #[.int .i64 (n1 : Nat), .int .i64 (n2 : Nat), .slice (some ⟨kt, 0, none⟩) (n1 * n2) (n1 * n2)] 24)
          have X36 := Lib.hid (X35.out.below hb X35.out.lt)
          have LB36 := Lib.hid (LB35.out.trans (hb.mono LB35.out.size))
          have RN := Lib.hid (RN.out.below hb RN.out.lt)
          have NB := Lib.hid (NB.out.below hb NB.out.lt)
          have HO := Lib.hid (HO.out.below hb)
          have OB := Lib.hid (OB.out.below hb OB.out.lt)
          have HQ := Lib.hid (HQ.out.below hb)
          have QB := Lib.hid (QB.out.below hb QB.out.lt)
          have RT := Lib.hid (RT.out.below hb RT.out.lt)
          have TB := Lib.hid (Box.new w35 (n1 : Nat) (n2 : Nat) (.slice (some ⟨kt, 0, none⟩) (n1 * n2) (n1 * n2)))
          clear hb X35 LB35
          go_upto_region 25 with (fail)
          generalize w35.heap.size = tb at *
          generalize w35.alloc (.cells #[.int .i64 (n1 : Nat), .int .i64 (n2 : Nat), .slice (some ⟨kt, 0, none⟩) (n1 * n2) (n1 * n2)] 24) = w36 at *
          have HSM := Lib.hid (rsame_loop (n1 : Nat) (n2 : Nat) (n1 : Nat) (n2 : Nat) (some ⟨kt, 0, none⟩) Aq (n1 * n2) (n1 * n2) cq _ _ w36 (by omega) rfl rfl (RT.out.holds RT.out.lt) HQ.out.h)
          rw [decide_eq_true (fun i _ => (onF_not W g l1 l2 i).symm)] at HSM
          have zs : IntKind.i64.wrap ((n1 : Int) + (n2 : Int)) = (m : Int) := by rw [IntWalk.i64_in _ (by omega)]; omega
          have zt : ((m : Int) == (m : Int)) = true := by simp
          have zu : ((n1 : Int) + (n2 : Int) == (m : Int)) = true := by rw [show (n1 : Int) + (n2 : Int) = (m : Int) by omega]; simp
          generalize n1 * n2 = n12 at *
          clear HO HQ RT
          obtain ⟨q0, q1, q2, q3, q4, q5, q6⟩ := TB.out.all
          obtain ⟨q7, q8, q9, q10, q11, q12, q13⟩ := QB.out.all
          go_wp2_with fail
          clear q0 q1 q2 q3 q4 q5 q6 q7 q8 q9 q10 q11 q12 q13
          with_reducible refine Calls.mono (HSM.out) ?_
          rintro e w37 ⟨rfl, hb⟩
          have X37 := Lib.hid (X36.out.below hb X36.out.lt)
          have LB37 := Lib.hid (LB36.out.trans (hb.mono LB36.out.size))
          have RN := Lib.hid (RN.out.below hb RN.out.lt)
          have NB := Lib.hid (NB.out.below hb NB.out.lt)
          have OB := Lib.hid (OB.out.below hb OB.out.lt)
          have QB := Lib.hid (QB.out.below hb QB.out.lt)
          have TB := Lib.hid (TB.out.below hb TB.out.lt)
          clear hb X36 LB36 
          obtain ⟨q0, q1, q2, q3, q4, q5, q6⟩ := OB.out.all
          go_wp2_with fail
          clear q0 q1 q2 q3 q4 q5 q6
          with_reducible refine Calls.mono (alive11_any _) ?_
          rintro e w60 ⟨rfl, hb⟩
          have LBZ := Lib.hid (LB37.out.trans (hb.mono LB37.out.size))
          clear hb
          go_wp2
          go_ret
          exact ⟨rfl, LBZ.out⟩
      · have hS' : setB (W + H) m s = false := by simpa using hS
        have HA := Lib.hid (fun u (h : Below w.heap.size w u) => HON.out u h hS')
        have HAn := Lib.hid (fun u (h : Below w.heap.size w u) k hr => HONn.out u h k hr hS')
        clear HON HONn HOS HOSn HOK HOKn HML
        obtain ⟨q0, q1, q2, q3, q4, q5, q6⟩ := X30.out.all
        go_wp2_with fail
        clear q0 q1 q2 q3 q4 q5 q6
        with_reducible refine Calls.mono (HA.out _ LB30.out) ?_
        rintro e w31 ⟨rfl, hb⟩
        have X31 := Lib.hid (X30.out.below hb X30.out.lt)
        have LB31 := Lib.hid (LB30.out.trans (hb.mono LB30.out.size))
        have RN := Lib.hid (RN.out.below hb RN.out.lt)
        have NB := Lib.hid (NB.out.below hb NB.out.lt)
        clear hb X30 LB30 
        have hb := bel_alloc w31 (.cells #[.int .i64 0, .int .i64 0, .slice none 0 0] 24)
        have X32 := Lib.hid (X31.out.below hb X31.out.lt)
        have LB32 := Lib.hid (LB31.out.trans (hb.mono LB31.out.size))
        have RN := Lib.hid (RN.out.below hb RN.out.lt)
        have NB := Lib.hid (NB.out.below hb NB.out.lt)
        clear hb X31 LB31
        go_upto_region 21 with (fail)
        generalize w31.alloc (.cells #[.int .i64 0, .int .i64 0, .slice none 0 0] 24) = w32 at *
        obtain ⟨q0, q1, q2, q3, q4, q5, q6⟩ := NB.out.all
        go_wp2_with fail
        clear q0 q1 q2 q3 q4 q5 q6
        with_reducible refine Calls.mono (HAn.out _ LB32.out kn RN.out) ?_
        rintro e w33 ⟨rfl, hb⟩
        have X33 := Lib.hid (X32.out.below hb X32.out.lt)
        have LB33 := Lib.hid (LB32.out.trans (hb.mono LB32.out.size))
        have RN := Lib.hid (RN.out.below hb RN.out.lt)
        have NB := Lib.hid (NB.out.below hb NB.out.lt)
        clear hb X32 LB32 
        have hb := bel_alloc w33 (.cells #[.int .i64 0, .int .i64 0, .slice none 0 0] 24)
        have X34 := Lib.hid (X33.out.below hb X33.out.lt)
        have LB34 := Lib.hid (LB33.out.trans (hb.mono LB33.out.size))
        have RN := Lib.hid (RN.out.below hb RN.out.lt)
        have NB := Lib.hid (NB.out.below hb NB.out.lt)
        clear hb X33 LB33
        go_upto_region 22 with (fail)
        generalize w33.alloc (.cells #[.int .i64 0, .int .i64 0, .slice none 0 0] 24) = w34 at *
        have zz : (((2 : Int)) == 2) = true := rfl
        go_wp2_with fail
        with_reducible refine Calls.mono (alive11_any _) ?_
        rintro e w60 ⟨rfl, hb⟩
        have LBZ := Lib.hid (LB34.out.trans (hb.mono LB34.out.size))
        clear hb
        go_wp2
        go_ret
        exact ⟨rfl, LBZ.out⟩
end Go.Proofs.Ytchbbphokpmacaa
