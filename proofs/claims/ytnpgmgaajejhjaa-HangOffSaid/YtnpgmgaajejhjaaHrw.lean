/- The reference: way, Walk. -/
import Derived.Test.YtnpgmgaajejhjaaHrg
namespace Go.Proofs.Ytnpgmgaajejhjaa
open Go.RowKit
set_option maxRecDepth 100000
set_option linter.unusedVariables false
set_option linter.unusedSimpArgs false

theorem lf_both {l r : List Nat} {i : Nat} : L2.both l.length (lf l) (lf r) i = lf (l ++ r) i := by
  unfold L2.both
  by_cases h : i < l.length
  · rw [if_pos h]; exact lf_app h
  · rw [if_neg h]
    unfold lf
    rw [List.getD_eq_getElem?_getD, List.getD_eq_getElem?_getD, List.getElem?_append_right (by omega)]
theorem own_both {w : World} {base : Nat} {v : Value} {l r : List Nat} (h : L2.Own w base v (l.length + r.length) (L2.both l.length (lf l) (lf r))) : L2.Own w base v (l ++ r).length (lf (l ++ r)) := by
  rw [List.length_append]
  exact h.congr fun i _ => lf_both
/-- The length of a slice value. -/
def lst0 (v : Value) : Nat := match v with | .slice _ n _ => n | _ => 0
set_option maxHeartbeats 3200000 in
theorem rway_n (W H N : Nat) (hNN : W + H = N) (A : Option Addr) (c : Nat) (g : Nat → Bool) (a tt : Nat) (w : World) (hg : Holds w w.heap.size A (W * H) g) (hW : W ≤ 64) (hH : H ≤ 64) (ha : a < N) (hto : tt < N) (hd : 0 ≤ far (ov W g) N tt a) :
    Calls Try.prog 92 #[.agg #[.int .i64 (W : Nat), .int .i64 (H : Nat), .slice A (W * H) c], .int .i64 (a : Nat), .int .i64 (tt : Nat)] w (LR w (wal (ov W g) N tt a (far (ov W g) N tt a).toNat)) := by
  have HS := Lib.hid (fun u (h : Below w.heap.size w u) => rsteps_n W H N hNN A c g tt u ((hg.below h).more h.size) hW hH hto)
  have HA := Lib.hid (fun u (h : Below w.heap.size w u) a b ha hb => above_any W H A c g a b u ((hg.below h).more h.size) hW hH ha hb)
  rw [hNN] at HA
  have hN : N ≤ 128 := by omega
  obtain ⟨dd, hdd⟩ : ∃ dd, (far (ov W g) N tt a).toNat = dd := ⟨_, rfl⟩
  have HBD := Lib.hid (fun x => (far_all (R := ov W g) hto).1 x)
  have hdN := HBD.out a
  have HWA := Lib.hid (fun k (h : k ≤ dd) => wat_all (R := ov W g) hto ha hd k (by omega))
  have HNX := Lib.hid (fun x (h : 0 < far (ov W g) N tt x) => nxt_all (R := ov W g) hto h)
  have HWE := Lib.hid (by have z := wat_end (R := ov W g) hto ha hd; rwa [hdd] at z)
  have HFT := Lib.hid ((far_all (R := ov W g) hto).2.2.2.2.1)
  have hdd2 : dd ≤ N := by omega
  have HFA := Lib.hid (show far (ov W g) N tt a = (dd : Int) by omega)
  have X0 := Lib.hid (Box.new w (W : Nat) (H : Nat) (.slice A (W * H) c))
  have LB0 := Lib.hid (show Below w.heap.size w (w.alloc (.cells #[.int .i64 (W : Nat), .int .i64 (H : Nat), (.slice A (W * H) c)] 24)) from (Below.refl _ _).alloc (Nat.le_refl _) _)
  rw [hdd]
  clear hg hd hdd hdN hNN
  generalize W * H = M at *
  go_enter Try.func92, Try.ntmps92
  go_wp2_with fail
  generalize w.alloc (.cells #[.int .i64 (W : Nat), .int .i64 (H : Nat), .slice A M c] 24) = w0 at *
  obtain ⟨q0, q1, q2, q3, q4, q5, q6⟩ := X0.out.all
  go_wp2_with fail
  clear q0 q1 q2 q3 q4 q5 q6
  with_reducible refine Calls.mono (HS.out _ LB0.out) ?_
  rintro e w1 ⟨fr, rfl, hfr, hrow, hb⟩
  have X1 := Lib.hid (X0.out.below hb X0.out.lt)
  have LB1 := Lib.hid (LB0.out.trans (hb.mono LB0.out.size))
  have RW := Lib.hid hrow
  have hs1 := LB1.out.size
  clear hb X0 LB0 HS hrow
  go_wp2
  go_loopw [1, 8] (fun i q wr => ∃ k : Nat, k ≤ dd ∧ i = .int .i64 (wat (ov W g) N tt a k : Nat) ∧ Hid (L2.Own wr w1.heap.size q (wal (ov W g) N tt a k).length (lf (wal (ov W g) N tt a k))) ∧ Hid (Below w1.heap.size w1 wr) ∧ Hid (lst0 q = k)) (fun _ q _ => dd - lst0 q)
  case atStart => exact ⟨0, Nat.zero_le _, rfl, Lib.hid (L2.Own.nil _ _ _), Lib.hid (Below.refl _ _), Lib.hid rfl⟩
  case round =>
    obtain ⟨k, hk, rfl, HO, HB, HQ⟩ := hrel
    obtain ⟨hf1, hf2⟩ := HWA.out k hk
    obtain ⟨x, hx⟩ : ∃ x, wat (ov W g) N tt a k = x := ⟨_, rfl⟩
    have HX := Lib.hid hx
    rw [hx] at hf1 hf2 ⊢
    clear hx
    have HF1 := Lib.hid (show far (ov W g) N tt x = (dd : Int) - k by rw [hf1, HFA.out])
    clear hf1
    have hwl := wal_len (ov W g) N tt a k
    by_cases hlt : k < dd
    · have y1 : ((x : Int) != (tt : Int)) = true := by
        simp only [bne_iff_ne, ne_eq]
        intro e
        have e' : x = tt := by omega
        have h1 := HF1.out
        rw [e', HFT.out] at h1
        omega
      obtain ⟨n1, n2, n3, n4⟩ := HNX.out x (by rw [HF1.out]; omega)
      have hws : wat (ov W g) N tt a (k + 1) = nxt (ov W g) N tt x := by show nxt (ov W g) N tt (wat (ov W g) N tt a k) = _; rw [HX.out]
      obtain ⟨y, hy⟩ : ∃ y, nxt (ov W g) N tt x = y := ⟨_, rfl⟩
      rw [hy] at n1 n2 n3 n4 hws
      have N2 := Lib.hid n2
      have N3 := Lib.hid n3
      have N4 := Lib.hid n4
      have HWS := Lib.hid hws
      have HWL := Lib.hid hwl
      clear hy n2 n3 n4 hws hwl
      obtain ⟨fx, hfx⟩ : ∃ fx, far (ov W g) N tt x = fx := ⟨_, rfl⟩
      have HFX := Lib.hid hfx
      have hfb := HBD.out x
      rw [hfx] at hfb
      have y2 : IntKind.i64.wrap (fx - 1) = fx - 1 := IntWalk.i64_in _ (by omega)
      clear hfx
      have y3 : (0 : Int) ≤ (x : Int) := by omega
      have y4 : (x : Int) < (N : Int) := by omega
      go_wp2
      obtain ⟨wo, rfl⟩ : ∃ wo : World, wo = wr := ⟨_, rfl⟩
      have HBO := HB
      go_loopw [9] (fun i wr => ∃ b : Nat, b ≤ y ∧ i = .int .i64 b ∧ Hid (Below w1.heap.size w1 wr) ∧ Hid (Below wo.heap.size wo wr)) (fun i _ => y - (intOf i).toNat)
      case atStart => exact ⟨0, Nat.zero_le _, rfl, HBO, Lib.hid (Below.refl _ _)⟩
      case round =>
        obtain ⟨b, hb, rfl, HB, HB2⟩ := hrel
        have hbN : b < N := by omega
        have y5 : (0 : Int) ≤ (b : Int) := by omega
        have y6 : (b : Int) < (N : Int) := by omega
        obtain ⟨fb, hfb2⟩ : ∃ fb, far (ov W g) N tt b = fb := ⟨_, rfl⟩
        have HFB := Lib.hid hfb2
        clear hfb2
        obtain ⟨I, Wf, i0, h0, hbf, hcl⟩ := family wr
        have HCL := Lib.hid hcl
        have BF := Lib.hid hbf
        clear hbf hcl
        have hne : Nonempty I := ⟨i0⟩
        have RWb := Lib.hid (RW.out.below HB.out RW.out.lt)
        have HX1 := Lib.hid (X1.out.below HB.out X1.out.lt)
        have HLB := Lib.hid (LB1.out.trans (HB.out.mono hs1))
        have x0 := fun n => (HX1.out.below (BF.out n) HX1.out.lt).c0
        have x1 := fun n => (HX1.out.below (BF.out n) HX1.out.lt).c1
        have x2 := fun n => (HX1.out.below (BF.out n) HX1.out.lt).c2
        have x3 := fun n => (RWb.out.below (BF.out n) RWb.out.lt).cell hbN
        have x4 := fun n => (RWb.out.below (BF.out n) RWb.out.lt).cell hf2
        simp only [HFB.out] at x3
        simp only [HFX.out] at x4
        by_cases hne : fb = fx - 1
        · have d1 : (fb != fx - 1) = false := by simp [hne]
          obtain ⟨bo, hbo⟩ : ∃ o, ov W g x b = o := ⟨_, rfl⟩
          have C1 := Lib.hid (fun n => (HA.out (Wf n) (HLB.out.trans ((BF.out n).mono HLB.out.size)) x b hf2 hbN).mono fun e w2 h => (⟨h.1, HCL.out n _ h.2⟩ : _ ∧ ∃ m, w2 = Wf m))
          rw [hbo] at C1
          have HOO := Lib.hid hbo
          have HNE := Lib.hid hne
          clear hbo hne
          go_wp2
          cases bo
          · have hlty : b < y := by
              rcases Nat.lt_or_ge b y with c | c
              · exact c
              · have e : b = y := by omega
                have h1 := N3.out
                rw [← e, HOO.out] at h1
                cases h1
            refine wp_region_fam Wf i0 h0 (by kernel_rfl) (by kernel_rfl) ?_
            clear h0
            repeat (go_big_quiet_step (first | exact rfl | (go_at_call 90; with_reducible exact C1.out _)))
            refine wpQuiet_nil ?_
            rintro _ ⟨nq, rfl⟩
            have HB3 := Lib.hid (HB.out.trans ((BF.out nq).mono HB.out.size))
            have HB4 := Lib.hid (HB2.out.trans ((BF.out nq).mono HB2.out.size))
            clear x0 x1 x2 x3 x4
            generalize Wf nq = w5 at *
            go_wp2
            go_roundw
            case rel => exact ⟨b + 1, by omega, by go_num, HB3, HB4⟩
            case measure => simp [intOf]; omega
          · have e : b = y := by
              rcases Nat.lt_or_ge b y with c | c
              · exact absurd ⟨by rw [HFB.out, HFX.out]; exact HNE.out, HOO.out⟩ (N4.out b c)
              · omega
            have HE := Lib.hid e
            clear e
            refine wp_region_fam Wf i0 h0 (by kernel_rfl) (by kernel_rfl) ?_
            clear h0
            repeat (go_big_quiet_step (first | exact rfl | (go_at_call 90; with_reducible exact C1.out _)))
            refine wpQuiet_nil ?_
            rintro _ ⟨nq, rfl⟩
            have HB3 := Lib.hid (HB.out.trans ((BF.out nq).mono HB.out.size))
            have HB4 := Lib.hid (HB2.out.trans ((BF.out nq).mono HB2.out.size))
            clear x0 x1 x2 x3 x4
            generalize Wf nq = w5 at *
            have HO3 := Lib.hid (HO.out.below HB4.out)
            have E := Lib.hid (wal_succ (ov W g) N tt a k)
            rw [HWS.out] at E
            have HO5 := Lib.hid (HO3.out.congr (g := lf (wal (ov W g) N tt a k ++ [y])) fun i hi => lf_app hi)
            have HY := Lib.hid (show lf (wal (ov W g) N tt a k ++ [y]) (wal (ov W g) N tt a k).length = (y : Int) from lf_last _ _)
            rw [HWL.out] at HO5 HY
            have hsz := HB3.out.size
            clear HO HO3
            rw [HE.out]
            go_wp2_with (at_builtin; refine L2.app1 _ rfl _ _ (by rfl) w1.heap.size (by rfl) HO5.out (y : Int) (by rfl) HY.out (by omega) hsz ?_; intro v' w6 hown6 hb6; have HO6 := Lib.hid hown6; have HB6 := Lib.hid hb6; clear hown6 hb6)
            obtain ⟨A', c', rfl, _, _⟩ := HO6.out.out
            go_roundw
            case rel => exact ⟨k + 1, by omega, by rw [HWS.out], by rw [wal_len, E.out]; exact HO6, Lib.hid (HB3.out.trans HB6.out), Lib.hid rfl⟩
            case measure =>
              have hq := HQ.out
              simp [lst0] at hq ⊢
              omega
        · have d1 : (fb != fx - 1) = true := by simp [hne]
          have hlty : b < y := by
            rcases Nat.lt_or_ge b y with c | c
            · exact c
            · have e : b = y := by omega
              have h1 := N2.out
              rw [← e, HFB.out, HFX.out] at h1
              exact absurd h1 hne
          clear hne
          go_wp2
          refine wp_region_fam Wf i0 h0 (by kernel_rfl) (by kernel_rfl) ?_
          clear h0
          repeat (go_big_quiet_step (first | exact rfl))
          refine wpQuiet_nil ?_
          rintro _ ⟨nq, rfl⟩
          have HB3 := Lib.hid (HB.out.trans ((BF.out nq).mono HB.out.size))
          have HB4 := Lib.hid (HB2.out.trans ((BF.out nq).mono HB2.out.size))
          clear x0 x1 x2 x3 x4
          generalize Wf nq = w5 at *
          go_wp2
          go_roundw
          case rel => exact ⟨b + 1, by omega, by go_num, HB3, HB4⟩
          case measure => simp [intOf]; omega
    · have e : k = dd := by omega
      have ex : x = tt := by rw [← HX.out, e]; exact HWE.out
      have y1 : ((x : Int) != (tt : Int)) = false := by rw [ex]; simp
      have HF := Lib.hid (lr_end HO.out hs1 (LB1.out.trans (HB.out.mono hs1)))
      rw [e] at HF
      clear e ex
      go_wp2
      go_ret
      exact HF.out
end Go.Proofs.Ytnpgmgaajejhjaa
