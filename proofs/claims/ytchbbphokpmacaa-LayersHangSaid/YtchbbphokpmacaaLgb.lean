/- The walk of LayersHang. -/
import Derived.Test.YtchbbphokpmacaaLga
import Derived.Test.YtchbbphokpmacaaLbb
import Derived.Deep.DeepCutAuto
import Derived.Deep.RegionLawGrows
namespace Go.Proofs.Ytchbbphokpmacaa
open Go.RowKit
set_option maxRecDepth 100000
set_option linter.unusedVariables false
set_option linter.unusedSimpArgs false

/-- 'append(s, y)' at a step of a region that draws its order. -/
theorem step_appi {ops : Array Oper} {o : Oper} {a : Act} {w : World} {K : Act → World → Prop} {Q : Exit → Act → World → Prop} {E : Prop} (hgd : o.guard = none) (s x : Operand)
    (ho : o.op = .call { callee := .builtin .append, args := #[s, x], argTypes := #[45, 45] }) (base : Nat) {v : Value} {n : Nat} {f : Nat → Int} (hs : a.eval s = v) (hown : L2.Own w base v n f)
    (y : Int) (g : Nat) (hx : a.eval x = .slice (some ⟨g, 0, none⟩) 1 1) (hc : w.cell? ⟨g, 0, none⟩ = some (.int .i64 y)) (hy : f n = y) (hn : n ≤ 100000) (hb : base ≤ w.heap.size)
    (h : ∀ v' w', L2.Own w' base v' (n + 1) f → Below base w w' → K (a.put o.dst v') w') : if Region.wanted o (yielded ops a.tmps) = true then Oper.wp Try.prog o a w K Q else E := by
  have hw : Region.wanted o (yielded ops a.tmps) = true := by simp [Region.wanted, hgd]
  rw [if_pos hw]
  obtain ⟨i0, hi, hz0, hz1, hz2⟩ := info_parts L2.TryI.info3
  obtain ⟨v', w', hrun, h1, h2, _, hat⟩ := run_append_own_at (P := Try.prog) w base 45 o.type 3 i0 (.int .i64 0) 1 8 Try.underlying45 hi hz0 hz1 hz2 rfl (by decide) v n _ hown ⟨g, 0, none⟩ 1 1 [.int .i64 y] rfl
    (by intro j u hj; match j, hj with | 0, hj => (simp at hj; subst hj; simpa [Addr.add] using hc)) (ints_oneCell .i64 [y]) (by unfold maxLen; omega) (by omega) hb
  unfold Oper.wp
  simp [execOp, ho, resolve, invoke, builtin, hs, hx, hrun, Result.andThen]
  refine h v' w' ?_ ?_
  · unfold L2.Own
    rw [L2.news_succ, hy]
    exact h1
  · exact Below.grown (Below.refl _ _) h2 hb fun k hk => (hown.block hk).1
theorem ly_at {R : Nat → Nat → Bool} {W N i : Nat} (hi : i < pno R N) (hb : 1 < (prt R N i).length) : lyE R W N (ofl (bigP R N) i).length = lEn W (prt R N i) ∧ lyP R W N (ofl (bigP R N) i).length = lPi W (prt R N i) ∧ (ofl (bigP R N) i).length < (lix R N).length := by
  obtain ⟨h1, h2⟩ := lix_at hi hb
  unfold lyE lyP
  rw [h1]
  exact ⟨rfl, rfl, h2⟩
theorem own_ll {w : World} {base : Nat} {D : Option Addr} {d : Nat} {l : List Nat} (h : L2.Own w base (.slice D l.length d) l.length (lf l)) : LL w D l := by
  obtain ⟨A, c, e, _, hr⟩ := h.out
  cases e
  exact LL.of hr
set_option maxHeartbeats 1600000 in
theorem hng_inv {W H : Int} {A : Option Addr} {n c : Nat} (h : grt W H n = true ∨ chk W H n ≠ 0) (w : World) :
    Calls Try.prog 15 #[.agg #[.int .i64 W, .int .i64 H, .slice A n c]] w fun e w' => e = .returned (.bool true) ∧ Below w.heap.size w w' := by
  have HV := Lib.hid (fun u => valid_no (A := A) (c := c) h u)
  clear h
  have X0 := Lib.hid (Box.new w W H (.slice A n c))
  have LB0 := Lib.hid (show Below w.heap.size w (w.alloc (.cells #[.int .i64 W, .int .i64 H, (.slice A n c)] 24)) from (Below.refl _ _).alloc (Nat.le_refl _) _)
  go_enter Try.func15, Try.ntmps15
  go_wp2_with fail
  generalize w.alloc (.cells #[.int .i64 W, .int .i64 H, .slice A n c] 24) = w0 at *
  obtain ⟨q0, q1, q2, q3, q4, q5, q6⟩ := X0.out.all
  go_wp2_with fail
  clear q0 q1 q2 q3 q4 q5 q6
  with_reducible refine Calls.mono (HV.out _) ?_
  rintro e w1 ⟨rfl, hb⟩
  have X1 := Lib.hid (X0.out.below hb X0.out.lt)
  have LB1 := Lib.hid (LB0.out.trans (hb.mono LB0.out.size))
  clear hb X0 LB0 
  obtain ⟨q0, q1, q2, q3, q4, q5, q6⟩ := X1.out.all
  go_wp2_with fail
  clear q0 q1 q2 q3 q4 q5 q6
  with_reducible refine Calls.mono (alive11_any _) ?_
  rintro e w2 ⟨rfl, hb⟩
  have X2 := Lib.hid (X1.out.below hb X1.out.lt)
  have LB2 := Lib.hid (LB1.out.trans (hb.mono LB1.out.size))
  clear hb X1 LB1 
  go_wp2
  go_ret
  exact ⟨rfl, LB2.out⟩
set_option maxHeartbeats 6400000 in
theorem hng_main (W H N : Nat) (hNN : W + H = N) (h24 : N ≤ 24) (A : Option Addr) (c : Nat) (g : Nat → Bool) (w : World) (hg : Holds w w.heap.size A (W * H) g) (hW0 : 1 ≤ W) (hW : W ≤ 64) (hH0 : 1 ≤ H) (hH : H ≤ 64) (hv : grt (W : Nat) (H : Nat) (W * H) = false) :
    Calls Try.prog 15 #[.agg #[.int .i64 (W : Nat), .int .i64 (H : Nat), .slice A (W * H) c]] w fun e w' => e = .returned (.bool true) ∧ Below w.heap.size w w' := by
  have HV := Lib.hid (fun u => valid_yes (A := A) (c := c) hv (chk_zero hW0 hW hH0 hH) u)
  have HLY := Lib.hid (fun u (h : Below w.heap.size w u) => players_n W H N hNN A c g u ((hg.below h).more h.size) hW0 hW hH0 hH)
  have HPA := Lib.hid (fun u (h : Below w.heap.size w u) => parts_n W H N hNN A c g u ((hg.below h).more h.size) hW0 hW hH0 hH)
  have HAP := Lib.hid (fun u (h : Below w.heap.size w u) => papart_core W H N hNN A c g u ((hg.below h).more h.size) hW0 hW hH0 hH (hgs (ov W g) N) rfl (apL (ov W g) N) rfl)
  have HON := Lib.hid (fun u (h : Below w.heap.size w u) i (hi : i < pno (ov W g) N) (hb : 1 < (prt (ov W g) N i).length) D d (hl : LL u D (prt (ov W g) N i)) => ponly_n W H A c g (prt (ov W g) N i) D d u ((hg.below h).more h.size) hW0 hW hH0 hH (by have := prt_len (ov W g) N i; omega) hl (fun b hb => by have := prt_mem hb; omega) (fun b hb => by rw [hNN]; exact prt_mem hb) (by rw [hNN, prt_eq (pno_ne hi)]; exact setB_ofl) (big_both hi hb).1 (big_both hi hb).2)
  have HHA := Lib.hid (fun u i (hi : i < pno (ov W g) N) (hb : 1 < (prt (ov W g) N i).length) Ao co (ho : Holds u u.heap.size Ao _ (onF W g (lEn W (prt (ov W g) N i)) (lPi W (prt (ov W g) N i)))) => phangs_core _ _ _ rfl Ao co _ u ho (big_both hi hb).1 (by have := prt_len (ov W g) N i; have := lens W (prt (ov W g) N i); omega) (big_both hi hb).2 (by have := prt_len (ov W g) N i; have := lens W (prt (ov W g) N i); omega) true (big_hangs hi hb))
  have HBO := Lib.hid (fun i (hi : i < pno (ov W g) N) (hb : 1 < (prt (ov W g) N i).length) => big_both hi hb)
  have hm0 := (pno_all (ov W g) N).1
  have hfe := fd_end (R := ov W g) (N := N) (by omega)
  generalize hF : onF W g = F at *
  clear hF
  generalize hR : ov W g = R at *
  clear hR
  have HFS := Lib.hid (fun i => fd_succ R N i)
  have z0 := fd_zero R N
  have HL1 := Lib.hid (fun i => prt_len R N i)
  have HLX := Lib.hid (fun i (hi : i < pno R N) (hb : 1 < (prt R N i).length) => ly_at (W := W) hi hb)
  have HE := Lib.hid (fun i (hi : i < pno R N) k (hk : k < (lEn W (prt R N i)).length) => (⟨spl_e (prt_mon hi) hk, by rw [← spl_e (prt_mon hi) hk]; exact (prt_get hi (by have := lens W (prt R N i); omega)).1⟩ : (prt R N i).getD k 0 = (lEn W (prt R N i)).getD k 0 ∧ (lEn W (prt R N i)).getD k 0 < N))
  have HP := Lib.hid (fun i (hi : i < pno R N) k (hk : k < (lPi W (prt R N i)).length) => (⟨spl_p (prt_mon hi) hk, by rw [← spl_p (prt_mon hi) hk]; exact (prt_get hi (by have := lens W (prt R N i); omega)).1⟩ : (prt R N i).getD ((lEn W (prt R N i)).length + k) 0 = (lPi W (prt R N i)).getD k 0 + W ∧ (lPi W (prt R N i)).getD k 0 + W < N))
  have HLN := Lib.hid (fun i => lens W (prt R N i))
  have HBG := Lib.hid (fun i (hb : 1 < (prt R N i).length) => ofl_big (R := R) (N := N) hb)
  have HSM := Lib.hid (fun i (hb : ¬ 1 < (prt R N i).length) => ofl_small (R := R) (N := N) hb)
  have HJL := Lib.hid (fun i => ofl_len (bigP R N) i)
  have hlx : (ofl (bigP R N) (pno R N)).length = (lix R N).length := rfl
  have X0 := Lib.hid (Box.new w (W : Nat) (H : Nat) (.slice A (W * H) c))
  have LB0 := Lib.hid (show Below w.heap.size w (w.alloc (.cells #[.int .i64 (W : Nat), .int .i64 (H : Nat), (.slice A (W * H) c)] 24)) from (Below.refl _ _).alloc (Nat.le_refl _) _)
  clear hg hv
  generalize W * H = M at *
  obtain ⟨pn, hpn⟩ : ∃ x, pno R N = x := ⟨_, rfl⟩
  rw [hpn] at HPA HON HHA HBO HLX HE HP hfe hm0 hlx
  clear hpn
  obtain ⟨ln, hln⟩ : ∃ x, (lix R N).length = x := ⟨_, rfl⟩
  rw [hln] at HLY HLX hlx
  clear hln
  have HLE := Lib.hid hfe
  have HLL := Lib.hid hlx
  have Z0 := Lib.hid z0
  clear hfe hlx z0
  go_enter Try.func15, Try.ntmps15
  go_wp2_with fail
  generalize w.alloc (.cells #[.int .i64 (W : Nat), .int .i64 (H : Nat), .slice A M c] 24) = w0 at *
  obtain ⟨q0, q1, q2, q3, q4, q5, q6⟩ := X0.out.all
  go_wp2_with fail
  clear q0 q1 q2 q3 q4 q5 q6
  with_reducible refine Calls.mono (HV.out _) ?_
  rintro e w1 ⟨rfl, hb⟩
  have X1 := Lib.hid (X0.out.below hb X0.out.lt)
  have LB1 := Lib.hid (LB0.out.trans (hb.mono LB0.out.size))
  clear hb X0 LB0 
  obtain ⟨q0, q1, q2, q3, q4, q5, q6⟩ := X1.out.all
  go_wp2_with fail
  clear q0 q1 q2 q3 q4 q5 q6
  with_reducible refine Calls.mono (HLY.out _ LB1.out) ?_
  rintro e w2 ⟨DL, dL, rfl, hly, hb⟩
  have X2 := Lib.hid (X1.out.below hb X1.out.lt)
  have LB2 := Lib.hid (LB1.out.trans (hb.mono LB1.out.size))
  have Y := Lib.hid hly
  clear hb X1 LB1 hly
  obtain ⟨q0, q1, q2, q3, q4, q5, q6⟩ := X2.out.all
  go_wp2_with fail
  clear q0 q1 q2 q3 q4 q5 q6
  with_reducible refine Calls.mono (HPA.out _ LB2.out) ?_
  rintro e w3 ⟨DP, dP, rfl, _, hls, hb⟩
  have X3 := Lib.hid (X2.out.below hb X2.out.lt)
  have LB3 := Lib.hid (LB2.out.trans (hb.mono LB2.out.size))
  have Y := Lib.hid (Y.out.below hb)
  have P := Lib.hid hls
  clear hb X2 LB2 hls
  obtain ⟨q0, q1, q2, q3, q4, q5, q6⟩ := X3.out.all
  go_wp2_with fail
  clear q0 q1 q2 q3 q4 q5 q6
  with_reducible refine Calls.mono (HAP.out _ LB3.out) ?_
  rintro e w4 ⟨DF, dF, rfl, _, hll, hb⟩
  have X4 := Lib.hid (X3.out.below hb X3.out.lt)
  have LB4 := Lib.hid (LB3.out.trans (hb.mono LB3.out.size))
  have Y := Lib.hid (Y.out.below hb)
  have P := Lib.hid (P.out.below hb)
  have FL := Lib.hid hll
  clear hb X3 LB3 hll
  clear HV HLY HPA HAP
  go_wp2
  go_loopw [9, 10, 11] (fun n f i wr => ∃ a : Nat, a ≤ pn ∧ i = .int .i64 a ∧ n = .int .i64 (((ofl (bigP R N) a).length : Nat) : Int) ∧ f = .bool (fdB R N a) ∧ Hid (Below w4.heap.size w4 wr)) (fun _ _ i _ => pn - (intOf i).toNat)
  case atStart => exact ⟨0, Nat.zero_le _, rfl, rfl, by rw [← Z0.out], Lib.hid (Below.refl _ _)⟩
  case round =>
    obtain ⟨a, ha, rfl, rfl, rfl, HB⟩ := hrel
    by_cases hlt : a < pn
    · have z1 : (a : Int) < (pn : Int) := by omega
      have z2 : (0 : Int) ≤ (a : Int) := by omega
      have hpl := HL1.out a
      have hjl := HJL.out a
      go_upto_region 13 with (fail)
      go_cut [10] from 51 to 174 (fun s wx => s = .bool (fdB R N (a + 1)) ∧ Hid (Below w4.heap.size w4 wx))
      case first =>
        have E := Lib.hid (HFS.out a)
        obtain ⟨b1, o1, rfl, hb1, hc1⟩ := (P.out.below HB.out) (by omega)
        obtain ⟨E1, d1, a1, _, l1⟩ := hc1 a hlt
        have FL2 := FL.out.below HB.out
        obtain ⟨fo, hfo⟩ : ∃ x, fdB R N a = x := ⟨_, rfl⟩
        rw [hfo] at E
        rw [hfo]
        clear hfo hc1
        cases fo
        · have C1 := Lib.hid (same_two d1 dF wr (by omega) l1 FL2)
          obtain ⟨eq, heq⟩ : ∃ x, (prt R N a == apL R N) = x := ⟨_, rfl⟩
          rw [heq] at C1 E
          have E2' := Lib.hid (show fdB R N (a + 1) = eq by rw [E.out]; rfl)
          clear hb1 l1 heq E FL2
          generalize (prt R N a).length = n1 at *
          generalize (apL R N).length = n2 at *
          go_wp2_with fail
          with_reducible refine Calls.mono C1.out ?_
          rintro e w50 ⟨rfl, hb⟩
          have HB3 := Lib.hid (HB.out.trans (hb.mono HB.out.size))
          clear a1 C1 hb
          go_wp2
          go_meet
          exact ⟨by rw [E2'.out], HB3⟩
        · have E2' := Lib.hid (show fdB R N (a + 1) = true by rw [E.out]; rfl)
          clear hb1 l1 a1 E FL2
          go_wp2
          go_meet
          exact ⟨by rw [E2'.out], HB⟩
      case rest =>
        obtain ⟨rfl, HB1⟩ := hcut
        clear HB
        have P1 := Lib.hid (P.out.below HB1.out)
        have Y1 := Lib.hid (Y.out.below HB1.out)
        obtain ⟨b1, o1, rfl, hb1, hc1⟩ := P1.out (by omega)
        obtain ⟨E1, d1, a1, _, l1⟩ := hc1 a hlt
        clear hc1
        by_cases hbig : 1 < (prt R N a).length
        · obtain ⟨hy1, hy2, hy3⟩ := HLX.out a hlt hbig
          have HON1 := Lib.hid (fun u (h : Below w.heap.size w u) D d hl => HON.out u h a hlt hbig D d hl)
          have HHA1 := Lib.hid (fun u Ao co ho => HHA.out u a hlt hbig Ao co ho)
          obtain ⟨hbo1, hbo2⟩ := HBO.out a hlt hbig
          have HE1 := Lib.hid (HE.out a hlt)
          have HP1 := Lib.hid (HP.out a hlt)
          have hln1 := HLN.out a
          have HBG1 := Lib.hid (HBG.out a hbig)
          obtain ⟨b2, o2, rfl, hb2, hc2⟩ := Y1.out (by omega)
          obtain ⟨D1, c1, D2, c2, a2, a3, l2, l3⟩ := hc2 _ hy3
          rw [hy1] at a2 l2
          rw [hy2] at a3 l3
          obtain ⟨b3, o3, rfl, hb3, hc3⟩ := l2 hbo1
          obtain ⟨b4, o4, rfl, hb4, hc4⟩ := l3 hbo2
          have HC3 := Lib.hid hc3
          have HC4 := Lib.hid hc4
          have L1 := Lib.hid l1
          clear hy1 hy2 hc2 HON HHA HBO HE HP HBG HSM HLX hc3 hc4 l1 HFS HL1 HJL HLN Z0 P1 Y1
          obtain ⟨j, hj⟩ : ∃ x, (ofl (bigP R N) a).length = x := ⟨_, rfl⟩
          rw [hj] at hy3 a2 a3 HBG1 hjl ⊢
          clear hj
          generalize prt R N a = l at *
          generalize lEn W l = m1 at *
          generalize lPi W l = m2 at *
          obtain ⟨n0, hn0⟩ : ∃ x, l.length = x := ⟨_, rfl⟩
          obtain ⟨n1, hn1⟩ : ∃ x, m1.length = x := ⟨_, rfl⟩
          obtain ⟨n2, hn2⟩ : ∃ x, m2.length = x := ⟨_, rfl⟩
          have HN0 := Lib.hid hn0
          rw [hn0] at a1 hbig hln1 hpl HON1
          rw [hn1] at a2 hbo1 HON1 HHA1 HE1 HP1 hln1 HC3
          rw [hn2] at a3 hbo2 HON1 HHA1 HP1 hln1 HC4
          clear hn0 hn1 hn2
          have z3 : ¬ (n0 : Int) < 2 := by omega
          have z4 : ¬ (j : Int) ≥ (ln : Int) := by omega
          have z5 : ¬ (ln : Int) ≤ (j : Int) := by omega
          have z5' : (j : Int) < (ln : Int) := by omega
          have z6 : (0 : Int) ≤ (j : Int) := by omega
          have X10 := Lib.hid (X4.out.below HB1.out X4.out.lt)
          have LB10 := Lib.hid (LB4.out.trans (HB1.out.mono LB4.out.size))
          have HBp := Lib.hid HB1.out.size
          clear X4 LB4
          go_wp2
          generalize wc = w10 at *
          go_loopw [12, 13] (fun v k wr => ∃ b : Nat, b ≤ n1 ∧ k = .int .i64 b ∧ Hid (L2.Own wr w10.heap.size v b (lf l)) ∧ Hid (Below w10.heap.size w10 wr)) (fun _ k _ => n1 - (intOf k).toNat)
          case atStart => exact ⟨0, Nat.zero_le _, rfl, Lib.hid (L2.Own.nil _ _ _), Lib.hid (Below.refl _ _)⟩
          case round =>
            obtain ⟨b, hb, rfl, HO, HB2⟩ := hrel
            by_cases hlb : b < n1
            · have y1 : (b : Int) < (n1 : Int) := by omega
              have y2 : (0 : Int) ≤ (b : Int) := by omega
              obtain ⟨he1, he2⟩ := HE1.out b hlb
              have x2 := (HB2.out.cell (p := ⟨b2, o2 + j * 2, none⟩) hb2).trans a2
              have x3 := (HB2.out.cell (p := ⟨b3, o3 + b, none⟩) hb3).trans (HC3.out b hlb)
              rw [show lf m1 b = ((m1.getD b 0 : Nat) : Int) from rfl] at x3
              obtain ⟨x, hx⟩ : ∃ x, m1.getD b 0 = x := ⟨_, rfl⟩
              rw [hx] at x3 he1 he2
              have HY := Lib.hid (show lf l b = (x : Int) by show ((l.getD b 0 : Nat) : Int) = _; rw [he1])
              have hsz := HB2.out.size
              clear hx he1 a2 a3 a1
              go_wp2_with (at_builtin; refine L2.app1 _ rfl _ _ (by rfl) w10.heap.size (by rfl) HO.out (x : Int) (by rfl) HY.out (by omega) hsz ?_; intro v' w6 hown6 hb6; have HO6 := Lib.hid hown6; have HB6 := Lib.hid hb6; clear hown6 hb6)
              first
              | exact ⟨⟨b + 1, by omega, by go_num, HO6, Lib.hid (HB2.out.trans HB6.out)⟩, by simp [intOf]; omega⟩
              | (go_roundw
                 case rel => exact ⟨b + 1, by omega, by go_num, HO6, Lib.hid (HB2.out.trans HB6.out)⟩
                 case measure => simp [intOf]; omega)
            · have e : b = n1 := by omega
              have y1 : ¬ (b : Int) < (n1 : Int) := by omega
              have x2 := (HB2.out.cell (p := ⟨b2, o2 + j * 2, none⟩) hb2).trans a2
              rw [e] at HO
              clear HC3 HE1
              go_wp2
              clear x2 y1 e
              go_loopw [12, 14] (fun v k wr => ∃ b : Nat, b ≤ n2 ∧ k = .int .i64 b ∧ Hid (L2.Own wr w10.heap.size v (n1 + b) (lf l)) ∧ Hid (Below w10.heap.size w10 wr)) (fun _ k _ => n2 - (intOf k).toNat)
              case atStart => exact ⟨0, Nat.zero_le _, rfl, HO, HB2⟩
              case round =>
                obtain ⟨b', hb', rfl, HO2, HB3⟩ := hrel
                clear HO HB2 hb
                by_cases hlb2 : b' < n2
                · have y1 : (b' : Int) < (n2 : Int) := by omega
                  have y2 : (0 : Int) ≤ (b' : Int) := by omega
                  obtain ⟨he1, he2⟩ := HP1.out b' hlb2
                  have x2 := (HB3.out.cell (p := ⟨b2, o2 + j * 2 + 1, none⟩) hb2).trans a3
                  have x3 := (HB3.out.cell (p := ⟨b4, o4 + b', none⟩) hb4).trans (HC4.out b' hlb2)
                  rw [show lf m2 b' = ((m2.getD b' 0 : Nat) : Int) from rfl] at x3
                  obtain ⟨x, hx⟩ : ∃ x, m2.getD b' 0 = x := ⟨_, rfl⟩
                  rw [hx] at x3 he1 he2
                  obtain ⟨xx, hxx⟩ : ∃ xx, x + W = xx := ⟨_, rfl⟩
                  have w1e : IntKind.i64.wrap ((x : Int) + (W : Int)) = (xx : Int) := by rw [IntWalk.i64_in _ (by omega)]; omega
                  have HY := Lib.hid (show lf l (n1 + b') = (xx : Int) by show ((l.getD (n1 + b') 0 : Nat) : Int) = _; rw [he1, hxx])
                  have hsz := HB3.out.size
                  have X11 := Lib.hid (X10.out.below HB3.out X10.out.lt)
                  obtain ⟨q0, q1, q2, q3, q4, q5, q6⟩ := X11.out.all
                  obtain ⟨A2, d2, rfl⟩ := orow_shape HO2.out
                  have HO3 := Lib.hid ((HO2.out.alloc (.cells #[.int .i64 (xx : Int)] 3)).drew)
                  have HC1 : Hid (((wr.alloc (.cells #[.int .i64 (xx : Int)] 3)).drew).cell? ⟨wr.heap.size, 0, none⟩ = some (.int .i64 (xx : Int))) := Lib.hid (by simp)
                  have hbase2 : w10.heap.size ≤ ((wr.alloc (.cells #[.int .i64 (xx : Int)] 3)).drew).heap.size := by simp; omega
                  have HBN0 := Lib.hid (((Below.refl w10.heap.size wr).alloc hsz (.cells #[.int .i64 (xx : Int)] 3)).drew)
                  have s1 : b4 < wr.heap.size := by omega
                  have s2 : b2 < wr.heap.size := by omega
                  have s3 : w.heap.size < wr.heap.size := q6
                  obtain ⟨nn, hnn⟩ : ∃ nn, n1 + b' = nn := ⟨_, rfl⟩
                  have HNN := Lib.hid hnn
                  have hnb : nn ≤ 100 := by omega
                  rw [hnn] at HO3 HY HO2 ⊢
                  clear hnn hx he1 hxx
                  go_wp2
                  go_region_law (first
                    | (refine step_appi rfl (.tmp 107) (.tmp 119) rfl w10.heap.size rfl HO3.out (xx : Int) wr.heap.size rfl HC1.out HY.out (by omega) hbase2 ?_
                       intro v' wn hown' hbn'
                       obtain ⟨A'', c'', rfl⟩ := orow_shape hown'
                       have HON2 := Lib.hid hown'
                       have HBN := Lib.hid (HBN0.out.trans hbn')
                       clear hown' hbn'))
                  all_goals
                    have B6 := Lib.hid (HB3.out.trans HBN.out)
                    clear q0 q1 q2 q3 q4 q5 q6 x2 x3 s1 s2 s3 w1e hbase2 HBN0 HC1 HO3 HO2 HBN X11 HY
                    go_wp2
                    go_roundw
                    case rel => exact ⟨b' + 1, by omega, by go_num, by rw [← Nat.add_assoc, HNN.out]; exact HON2, B6⟩
                    case measure => simp [intOf]; omega
                · have e : b' = n2 := by omega
                  have y1 : ¬ (b' : Int) < (n2 : Int) := by omega
                  have x2 := (HB3.out.cell (p := ⟨b2, o2 + j * 2 + 1, none⟩) hb2).trans a3
                  rw [e, hln1] at HO2
                  obtain ⟨SA, sc, rfl⟩ := orow_shape HO2.out
                  have SL := Lib.hid (own_ll (l := l) (by rw [HN0.out]; exact HO2.out))
                  have X11 := Lib.hid (X10.out.below HB3.out X10.out.lt)
                  have LB11 := Lib.hid (LB10.out.trans (HB3.out.mono LB10.out.size))
                  have hsz := HB3.out.size
                  clear HC4 HP1 e HO2
                  obtain ⟨q0, q1, q2, q3, q4, q5, q6⟩ := X11.out.all
                  go_wp2_with fail
                  clear q0 q1 q2 q3 q4 q5 q6
                  with_reducible refine Calls.mono (HON1.out _ LB11.out SA sc SL.out) ?_
                  rintro e w12 ⟨Ao, co, rfl, _, hho, hb⟩
                  have X12 := Lib.hid (X11.out.below hb X11.out.lt)
                  have HBC := Lib.hid (HB3.out.trans (hb.mono HB3.out.size))
                  have LB12 := Lib.hid (LB11.out.trans (hb.mono LB11.out.size))
                  have SL := Lib.hid (SL.out.below hb)
                  clear hb X11 LB11 
                  have HO := Lib.hid (show LVb w12 Ao (n1 * n2) (F m1 m2) from ⟨hho⟩)
                  clear hho
                  have hb := bel_alloc w12 (.cells #[.int .i64 (n1 : Nat), .int .i64 (n2 : Nat), .slice Ao (n1 * n2) co] 24)
                  have X13 := Lib.hid (X12.out.below hb X12.out.lt)
                  have HBC := Lib.hid (HBC.out.trans (hb.mono HBC.out.size))
                  have LB13 := Lib.hid (LB12.out.trans (hb.mono LB12.out.size))
                  have SL := Lib.hid (SL.out.below hb)
                  have HO := Lib.hid (HO.out.below hb)
                  have OB := Lib.hid (Box.new w12 (n1 : Nat) (n2 : Nat) (.slice Ao (n1 * n2) co))
                  clear hb X12 LB12
                  go_upto_region 27 with (fail)
                  generalize w12.heap.size = ob at *
                  generalize w12.alloc (.cells #[.int .i64 (n1 : Nat), .int .i64 (n2 : Nat), .slice Ao (n1 * n2) co] 24) = w13 at *
                  obtain ⟨q0, q1, q2, q3, q4, q5, q6⟩ := OB.out.all
                  go_wp2_with fail
                  clear q0 q1 q2 q3 q4 q5 q6
                  with_reducible refine Calls.mono (HHA1.out _ Ao co HO.out.h) ?_
                  rintro e w14 ⟨rfl, hb⟩
                  have X14 := Lib.hid (X13.out.below hb X13.out.lt)
                  have HBC := Lib.hid (HBC.out.trans (hb.mono HBC.out.size))
                  have LB14 := Lib.hid (LB13.out.trans (hb.mono LB13.out.size))
                  have SL := Lib.hid (SL.out.below hb)
                  have HO := Lib.hid (HO.out.below hb)
                  have OB := Lib.hid (OB.out.below hb OB.out.lt)
                  clear hb X13 LB13 
                  obtain ⟨I, Wf, i0, h0, hbf, hcf⟩ := family w14
                  have hne : Nonempty I := ⟨i0⟩
                  have hsz2 := HBC.out.size
                  have C1 := Lib.hid (fun n' => (show Calls Try.prog 50 #[.slice SA n0 sc, .slice E1 n0 d1] (Wf n') fun e w' => e = .returned (.bool true) ∧ Below (Wf n').heap.size (Wf n') w' from by
                    have h9 := same_two sc d1 (Wf n') (by rw [HN0.out]; omega) (SL.out.below (hbf n')) ((L1.out.below HBC.out).below (hbf n'))
                    rw [HN0.out, beq_self_eq_true] at h9
                    exact h9).mono fun e w2 h => (⟨h.1, hcf n' _ h.2⟩ : _ ∧ ∃ m, w2 = Wf m))
                  obtain ⟨q0, q1, q2, q3, q4, q5, q6⟩ := OB.out.all
                  have x1 := fun n' => ((hbf n').cell (p := ⟨b1, o1 + a, none⟩) (by show b1 < _; omega)).trans ((HBC.out.cell (p := ⟨b1, o1 + a, none⟩) hb1).trans a1)
                  have x3 := fun n' => ((hbf n').cell (p := ⟨b2, o2 + j * 2, none⟩) (by show b2 < _; omega)).trans ((HBC.out.cell (p := ⟨b2, o2 + j * 2, none⟩) hb2).trans a2)
                  have x4 := fun n' => ((hbf n').cell (p := ⟨b2, o2 + j * 2 + 1, none⟩) (by show b2 < _; omega)).trans ((HBC.out.cell (p := ⟨b2, o2 + j * 2 + 1, none⟩) hb2).trans a3)
                  have x5 := fun n' => ((hbf n').cell (p := ⟨ob, 0, none⟩) q6).trans q0
                  have x6 := fun n' => ((hbf n').cell (p := ⟨ob, 1, none⟩) q6).trans q1
                  have f1 : ((n1 : Int) != (n1 : Int)) = false := by simp
                  have f2 : ((n2 : Int) != (n2 : Int)) = false := by simp
                  have BF := Lib.hid hbf
                  clear hcf hbf q0 q1 q2 q3 q4 q5 q6 a1 a2 a3 hb1 hb2 hb3 hb4 L1 SL x2 X14 OB HO HON1 HHA1
                  go_wp2
                  refine wp_region_fam Wf i0 h0 (by kernel_rfl) (by kernel_rfl) ?_
                  clear h0
                  repeat (go_big_quiet_step (first | exact rfl | (go_at_call 50; with_reducible exact C1.out _)))
                  refine wpQuiet_nil ?_
                  rintro _ ⟨nq, rfl⟩
                  have HB9 := Lib.hid (HB1.out.trans ((HBC.out.trans ((BF.out nq).mono HBC.out.size)).mono HBp.out))
                  clear x1 x3 x4 x5 x6 C1 hne BF
                  generalize Wf nq = w50 at *
                  go_wp2
                  go_roundw
                  case rel => exact ⟨a + 1, by omega, by go_num, by rw [HBG1.out]; go_num, rfl, HB9⟩
                  case measure => simp [intOf]; omega
        · have z3 : ((prt R N a).length : Int) < 2 := by omega
          have HSM1 := Lib.hid (HSM.out a hbig)
          clear HON HHA HBO HE HP HBG HSM HLX HFS HL1 HJL HLN Z0 P1 Y1 l1
          obtain ⟨j, hj⟩ : ∃ x, (ofl (bigP R N) a).length = x := ⟨_, rfl⟩
          rw [hj] at HSM1 hjl ⊢
          clear hj
          generalize (prt R N a).length = n0 at *
          go_wp2
          go_roundw
          case rel => exact ⟨a + 1, by omega, by go_num, by rw [HSM1.out], rfl, HB1⟩
          case measure => simp [intOf]; omega
    · have e : a = pn := by omega
      have z1 : ¬ (a : Int) < (pn : Int) := by omega
      subst e
      rw [HLL.out, HLE.out]
      have z2 : ((ln : Int) == (ln : Int)) = true := by simp
      have LB9 := Lib.hid (LB4.out.trans (HB.out.mono LB4.out.size))
      clear HON HHA HBO HE HP HBG HSM HLX HFS HL1 HJL HLN Z0
      go_wp2_with fail
      with_reducible refine Calls.mono (alive11_any _) ?_
      rintro e w60 ⟨rfl, hb⟩
      have LBZ := Lib.hid (LB9.out.trans (hb.mono LB9.out.size))
      clear hb
      go_wp2
      go_ret
      exact ⟨rfl, LBZ.out⟩
end Go.Proofs.Ytchbbphokpmacaa
