/- The walk of the statement ThreadCanonical. -/
import Derived.Test.YtcmpoblbjjoaiaaDoorCanm
import Derived.Test.YtcmpoblbjjoaiaaDoorTurw
namespace Go.Proofs.YtcmpoblbjjoaiaaDoor
open Go.RowKit
set_option linter.unusedVariables false
set_option linter.unusedSimpArgs false
set_option maxRecDepth 100000

theorem ren_lchk {f : Nat → Int} {n : Nat} (h : n ≤ 400) : lchk n (ren f) = 0 := lchk_of h fun i hi => by have := ren_bd f i; omega
/-- Match, at two lists that match, or are empty. -/
theorem match_c (A : Option Addr) (n c : Nat) (a : Nat → Int) (D : Option Addr) (d : Nat) (b : Nat → Int) (N : Nat) (w : World) (hr : Holds w w.heap.size A n a) (hs : Holds w w.heap.size D n b)
    (hx : lchk n a = 0) (hy : lchk n b = 0) (hN : mxs a n + 1 = (N : Int)) (hc : Cons a b n) : Calls Tryd.prog 14 #[.slice A n c, .slice D n d] w (LOut w N (fun x : Nat => mt a b n x) 0) := by
  rcases Nat.eq_zero_or_pos n with h0 | h0
  · subst h0
    obtain rfl : N = 0 := by simp [mxs] at hN; omega
    exact match_nil A c a D d b _ w
  · exact match_yes A n c a D d b N w hr hs h0 hx hy hN hc

set_option maxHeartbeats 800000 in
theorem canon_skip (A : Option Addr) (n c : Nat) (f : Nat → Int) (D : Option Addr) (m d : Nat) (g : Nat → Int) (w : World) (hr : Holds w w.heap.size A n f) (hs : Holds w w.heap.size D m g) (he : Env w)
    (h : vl n f = false ∨ (vl n f = true ∧ vl m g = false)) :
    Calls Tryd.prog 6 #[.slice A n c, .slice D m d] w fun e w' => e = .returned (.bool true) ∧ Below w.heap.size w w' := by
  have HE := Lib.hid he
  have HS := Lib.hid hs
  rcases h with h | ⟨h, h2⟩
  · have HV := Lib.hid (valid_is c h w hr)
    clear h hr hs he
    go_enter Tryd.func6, Tryd.ntmps6
    go_wp2_with fail
    refine HV.out.mono ?_
    rintro e u0 ⟨rfl, hb⟩
    have L0 := Lib.hid hb
    clear hb
    go_wp2_with fail
    refine (alive_any _ (HE.out.next L0.out)).mono ?_
    rintro e u2 ⟨rfl, hb⟩
    have L2 := Lib.hid (L0.out.trans (hb.mono L0.out.size))
    clear hb
    go_wp2
    go_ret
    exact ⟨rfl, L2.out⟩
  · have HV := Lib.hid (valid_is c h w hr)
    have HW := Lib.hid (fun (w' : World) (hb : Below w.heap.size w w') => valid_is d h2 w' ((hs.below hb).more hb.size))
    clear h hr hs he h2
    go_enter Tryd.func6, Tryd.ntmps6
    go_wp2_with fail
    refine HV.out.mono ?_
    rintro e u0 ⟨rfl, hb⟩
    have L0 := Lib.hid hb
    clear hb
    go_wp2_with fail
    refine (HW.out _ L0.out).mono ?_
    rintro e u1 ⟨rfl, hb⟩
    have L1 := Lib.hid (L0.out.trans (hb.mono L0.out.size))
    clear hb
    go_wp2_with fail
    refine (alive_any _ (HE.out.next L1.out)).mono ?_
    rintro e u2 ⟨rfl, hb⟩
    have L2 := Lib.hid (L1.out.trans (hb.mono L1.out.size))
    clear hb
    go_wp2
    go_ret
    exact ⟨rfl, L2.out⟩

set_option maxHeartbeats 6400000 in
theorem canon_main (A : Option Addr) (n c : Nat) (f : Nat → Int) (D : Option Addr) (m d : Nat) (g : Nat → Int) (w : World) (hr : Holds w w.heap.size A n f) (hs : Holds w w.heap.size D m g) (he : Env w)
    (h1 : vl n f = true) (h2 : vl m g = true) :
    Calls Tryd.prog 6 #[.slice A n c, .slice D m d] w fun e w' => e = .returned (.bool true) ∧ Below w.heap.size w w' := by
  obtain ⟨hn, hx⟩ := vl_yes h1
  obtain ⟨hm, hy⟩ := vl_yes h2
  have hf := lchk_zero hx
  have hg := lchk_zero hy
  have hrl : lchk n (ren f) = 0 := ren_lchk (by omega)
  have hZ := nd_le f n
  have HE := Lib.hid he
  have HF := Lib.hid hf
  have HG := Lib.hid hg
  have HX := Lib.hid hx
  have HY := Lib.hid hy
  have HR := Lib.hid hr
  have HS := Lib.hid hs
  have HV := Lib.hid (valid_is c h1 w hr)
  have HW := Lib.hid (fun (w' : World) (hb : Below w.heap.size w w') => valid_is d h2 w' (later hs hb))
  have HC1 := Lib.hid (fun (w' : World) (hb : Below w.heap.size w w') => renumber_ok A n c f w' (later hr hb) hx)
  have HC2 := Lib.hid (fun (w' : World) (hb : Below w.heap.size w w') => renumber_ok D m d g w' (later hs hb) hy)
  have HC3 := Lib.hid (fun (w' : World) (B : Option Addr) (k : Nat) (h : Holds w' w'.heap.size B n (ren f)) => renumber_ok B n k (ren f) w' h hrl)
  have HU := Lib.hid (fun (w' : World) (hb : Below w.heap.size w w') => used_ok A n c f w' (later hr hb) hx)
  have HS1 := Lib.hid (fun (w' : World) (B C : Option Addr) (k l : Nat) (h : Holds w' w'.heap.size B n (ren f)) (h' : Holds w' w'.heap.size C n (ren (ren f))) => rsame_is (c := k) (d := l) (w := w') (by omega) h h' (fun i _ => ren_ren f i))
  obtain ⟨Z, hZe⟩ : ∃ Z, nd f n = Z := ⟨_, rfl⟩
  rw [hZe] at HU hZ
  have HZ := Lib.hid hZe
  have z0 : ((n : Int) != (n : Int)) = false := by simp
  clear h1 h2 hx hy hf hg hr hs he hrl hZe
  go_enter Tryd.func6, Tryd.ntmps6
  go_wp2_with fail
  refine HV.out.mono ?_
  rintro e v0 ⟨rfl, hb⟩
  have L0 := Lib.hid hb
  clear hb
  go_wp2_with fail
  refine (HW.out _ L0.out).mono ?_
  rintro e u0 ⟨rfl, hb⟩
  have L00 := Lib.hid (L0.out.trans (hb.mono L0.out.size))
  clear hb L0 HV HW
  go_wp2_with fail
  refine (HC1.out _ L00.out).mono ?_
  rintro e u1 ⟨Ar, cr, rfl, hnil, hrow, hb⟩
  have hv := LV.of hrow
  have L1 := Lib.hid (L00.out.trans (hb.mono L00.out.size))
  clear hb L00
  have Vr1 := Lib.hid hv
  have Zr := Lib.hid hnil
  clear hv hrow hnil
  go_wp2_with fail
  refine (HC2.out _ L1.out).mono ?_
  rintro e u2 ⟨As, cs, rfl, hnil, hrow, hb⟩
  have hv := LV.of hrow
  have L2 := Lib.hid (L1.out.trans (hb.mono L1.out.size))
  have Vr2 := Lib.hid (Vr1.out.next hb)
  clear hb L1 Vr1
  have Vs2 := Lib.hid hv
  have Zs := Lib.hid hnil
  clear hv hrow hnil
  go_wp2_with fail
  refine (HC3.out _ _ _ Vr2.out.holds).mono ?_
  rintro e u3 ⟨At, ct, rfl, hnil, hrow, hb⟩
  have hv := LV.of hrow
  have L3 := Lib.hid (L2.out.trans (hb.mono L2.out.size))
  have Vr3 := Lib.hid (Vr2.out.next hb)
  have Vs3 := Lib.hid (Vs2.out.next hb)
  clear hb L2 Vr2 Vs2
  have Vt3 := Lib.hid hv
  have Zt := Lib.hid hnil
  clear hv hrow hnil
  go_wp2_with fail
  refine (HU.out _ L3.out).mono ?_
  rintro e u4 ⟨rfl, hb⟩
  have L4 := Lib.hid (L3.out.trans (hb.mono L3.out.size))
  have Vr4 := Lib.hid (Vr3.out.next hb)
  have Vs4 := Lib.hid (Vs3.out.next hb)
  have Vt4 := Lib.hid (Vt3.out.next hb)
  clear hb L3 Vr3 Vs3 Vt3
  go_wp2_with fail
  refine (HS1.out _ _ _ _ _ Vr4.out.holds Vt4.out.holds).mono ?_
  rintro e u5 ⟨rfl, hb⟩
  have L5 := Lib.hid (L4.out.trans (hb.mono L4.out.size))
  have Vr5 := Lib.hid (Vr4.out.next hb)
  have Vs5 := Lib.hid (Vs4.out.next hb)
  clear hb L4 Vt4 Vr4 Vs4
  have K0 := Lib.hid (⟨L5.out, later Vr5.out.holds (Below.refl _ _), later Vs5.out.holds (Below.refl _ _)⟩ : Below w.heap.size w u5 ∧ Holds u5 u5.heap.size Ar n (ren f) ∧ Holds u5 u5.heap.size As m (ren g))
  clear HC1 HC2 HC3 HS1 HU Zr Zs Zt L5 Vr5 Vs5
  go_wp2
  go_loopw [13, 14] (fun v i wr => ∃ (k : Nat) (x : Int), k ≤ n ∧ i = .int .i64 k ∧ v = .int .i64 x ∧ -1 ≤ x ∧ x ≤ 60 ∧ Hid (x = (nd f k : Int) - 1) ∧ Hid (Below w.heap.size w wr ∧ Holds wr wr.heap.size Ar n (ren f) ∧ Holds wr wr.heap.size As m (ren g))) (fun _ i _ => n - (intOf i).toNat)
  case atStart => exact ⟨0, -1, Nat.zero_le _, rfl, rfl, by omega, by omega, Lib.hid (by simp [nd]), K0⟩
  case round =>
    obtain ⟨k, x, hk, rfl, rfl, hx1, hx2, hxe, hK⟩ := hrel
    by_cases hlt : k < n
    · obtain ⟨b0, o0, rfl, hbl, hc⟩ := hK.out.2.1 (by omega)
      have c1 := hc k hlt
      have y1 : (k : Int) < (n : Int) := by omega
      have hd := ren_bd f k
      have hmx := ren_max f k
      have hnl := nd_le f (k + 1)
      rw [← hxe.out] at hmx
      obtain ⟨u, hu⟩ : ∃ u, ren f k = u := ⟨_, rfl⟩
      rw [hu] at c1 hd hmx
      have hu0 : 0 ≤ u := hd.1
      have hu1 : u ≤ x + 1 := by have := hxe.out; omega
      have y2 : decide (u < 0) = false := by simp; omega
      have y3 : decide (x + 1 < u) = false := by simp; omega
      have hp1 : -1 ≤ max x u := by omega
      have hp2 : max x u ≤ 60 := by omega
      have HM := Lib.hid hmx
      have P1 := Lib.hid hp1
      have P2 := Lib.hid hp2
      have HK := hK
      clear hc hu hd hmx hnl hxe hK K0 hp1 hp2
      go_wp2
      exact ⟨⟨k + 1, max x u, by omega, by go_num, rfl, P1.out, P2.out, HM, HK⟩, by simp [intOf]; omega⟩
    · have e : k = n := by omega
      subst e
      have hxz : x + 1 = (Z : Int) := by have := hxe.out; have := HZ.out; omega
      have y3 : ((Z : Int) != (Z : Int)) = false := by simp
      obtain ⟨hB0, hR0, hS0⟩ := hK.out
      have KB := Lib.hid hB0
      have KR := Lib.hid hR0
      have KS := Lib.hid hS0
      clear hB0 hR0 hS0 hK K0 hxe
      by_cases hkm : k = m
      · subst hkm
        have z1 : ((k : Int) == (k : Int)) = true := by simp
        obtain ⟨N, hN⟩ : ∃ N : Nat, mxs f k + 1 = (N : Int) := ⟨(mxs f k + 1).toNat, by have := mxs_ge f k; omega⟩
        have hN4 : N ≤ 400 := by have := mxs_lt (a := f) (k := k) fun i hi => (HF.out i hi).2; omega
        by_cases hc : Cons f g k
        · have HQ := Lib.hid (match_c A k c f D d g N wr (later HR.out KB.out) (later HS.out KB.out) HX.out HY.out hN hc)
          have HSm := Lib.hid (fun (w' : World) (B C : Option Addr) (q l : Nat) (h : Holds w' w'.heap.size B k (ren f)) (h' : Holds w' w'.heap.size C k (ren g)) => rsame_is (c := q) (d := l) (w := w') (by omega) h h' (cons_iff.1 hc))
          have HMT := Lib.hid (fun i (hi : i < k) => (⟨HF.out i hi, by have := mxs_le f k i hi; omega, mt_at (fun i hi => (HG.out i hi).1) hc hi⟩ : (0 ≤ f i ∧ f i < 400) ∧ f i < (N : Int) ∧ mt f g k (f i) = g i))
          clear hc hN
          go_wp2_with fail
          refine HQ.out.mono ?_
          rintro e w2 ⟨Am, cm, rfl, -, hrow, hb⟩
          have hv := LV.of hrow
          have LB := Lib.hid (KB.out.trans (hb.mono KB.out.size))
          have LR := Lib.hid (later KR.out hb)
          have LS := Lib.hid (later KS.out hb)
          have LM := Lib.hid hv
          clear hv hrow hb HQ
          go_wp2_with fail
          refine (HSm.out _ _ _ _ _ LR.out LS.out).mono ?_
          rintro e w3 ⟨rfl, hb⟩
          have MB := Lib.hid (LB.out.trans (hb.mono LB.out.size))
          have MM := Lib.hid (LM.out.next hb)
          clear hb LR LS LM LB HSm
          have J0 := Lib.hid (⟨MB.out, _, _, MM.out⟩ : Below w.heap.size w w3 ∧ ∃ lo hi, LV w3 lo hi Am N (fun x : Nat => mt f g k x))
          clear MB MM
          go_wp2
          go_loopw [17] (fun i wr => ∃ j : Nat, j ≤ k ∧ i = .int .i64 j ∧ Hid (Below w.heap.size w wr ∧ ∃ lo hi, LV wr lo hi Am N (fun x : Nat => mt f g k x))) (fun i _ => k - (intOf i).toNat)
          case atStart => exact ⟨0, Nat.zero_le _, rfl, J0⟩
          case round =>
            obtain ⟨j, hj, rfl, hJ⟩ := hrel
            by_cases hlj : j < k
            · obtain ⟨hJB, lo, hi, hJM⟩ := hJ.out
              obtain ⟨ba, oa, rfl, hla, hca⟩ := (HR.out.below hJB) (by omega)
              obtain ⟨bb, ob, rfl, hlb, hcb⟩ := (HS.out.below hJB) (by omega)
              have c1 := hca j hlj
              have c2 := hcb j hlj
              obtain ⟨⟨q1, q2⟩, q3, q4⟩ := HMT.out j hlj
              obtain ⟨U, hU⟩ : ∃ U : Nat, f j = U := ⟨(f j).toNat, by omega⟩
              obtain ⟨t, ht⟩ : ∃ t, g j = t := ⟨_, rfl⟩
              rw [hU, ht] at q4
              rw [hU] at c1 q3
              rw [ht] at c2
              have hUN : U < N := by omega
              obtain ⟨bm, rfl, _, _, hrowm⟩ := hJM (by omega)
              have c3 := hrowm.cell hUN
              rw [q4] at c3
              have y5 : decide ((N : Int) ≤ (U : Int)) = false := by simp; omega
              have y6 : (j : Int) < (k : Int) := by omega
              have y7 : (U : Int) < (N : Int) := by omega
              have y8 : (t != t) = false := by simp
              have HJB := Lib.hid hJB
              have HJM := Lib.hid hJM
              clear hca hcb hU ht q1 q2 q3 q4 hJ hJB hJM hrowm J0
              go_wp2
              go_quiet (fail)
              go_wp2
              exact ⟨⟨j + 1, by omega, by go_num, Lib.hid ⟨Go.Proofs.below_drewN' HJB.out _, _, _, HJM.out.drewN _⟩⟩, by simp [intOf]; omega⟩
            · have e : j = k := by omega
              subst e
              have HB5 := Lib.hid hJ.out.1
              clear hJ J0
              go_wp2_with fail
              refine (alive_any _ (HE.out.next HB5.out)).mono ?_
              rintro e w5 ⟨rfl, hb⟩
              have HB6 := Lib.hid (HB5.out.trans (hb.mono HB5.out.size))
              clear hb
              go_wp2
              go_ret
              exact ⟨rfl, HB6.out⟩
        · have h0 : 0 < k := by
            rcases Nat.eq_zero_or_pos k with h | h
            · exact absurd (fun i j hi hj => absurd hi (by omega)) hc
            · exact h
          have HQ := Lib.hid (match_no A k c f D d g N wr (later HR.out KB.out) (later HS.out KB.out) h0 HX.out HY.out hN hc)
          have HSm := Lib.hid (fun (w' : World) (B C : Option Addr) (q l : Nat) (h : Holds w' w'.heap.size B k (ren f)) (h' : Holds w' w'.heap.size C k (ren g)) =>
            (show Calls Tryd.prog 27 #[.slice B k q, .slice C k l] w' fun e w'' => e = .returned (.bool false) ∧ Below w'.heap.size w' w'' from by
              have hx := rsame_any B C k q l _ _ w' (by omega) h h'
              have e : decide (∀ i, i < k → ren f i = ren g i) = false := decide_eq_false fun hh => hc (cons_iff.2 hh)
              rw [e] at hx
              exact hx))
          clear hc hN
          go_wp2_with fail
          refine HQ.out.mono ?_
          rintro e w2 ⟨Am, cm, rfl, -, hrow, hb⟩
          have LB := Lib.hid (KB.out.trans (hb.mono KB.out.size))
          have LR := Lib.hid (later KR.out hb)
          have LS := Lib.hid (later KS.out hb)
          clear hrow hb HQ
          go_wp2_with fail
          refine (HSm.out _ _ _ _ _ LR.out LS.out).mono ?_
          rintro e w3 ⟨rfl, hb⟩
          have MB := Lib.hid (LB.out.trans (hb.mono LB.out.size))
          clear hb LR LS LB HSm
          go_wp2_with fail
          refine (alive_any _ (HE.out.next MB.out)).mono ?_
          rintro e w5 ⟨rfl, hb⟩
          have HB6 := Lib.hid (MB.out.trans (hb.mono MB.out.size))
          clear hb
          go_wp2
          go_ret
          exact ⟨rfl, HB6.out⟩
      · have z1 : ((k : Int) == (m : Int)) = false := by simp; omega
        have HQ := Lib.hid (match_err A k c f D m d g (fun _ => 0) wr 2 (later HR.out KB.out) (later HS.out KB.out) (by omega) (by omega) (by unfold mchk; rw [bchk_of HX.out HY.out, if_neg (by simp), if_pos hkm]) (by decide))
        clear hkm
        go_wp2_with fail
        refine HQ.out.mono ?_
        rintro e w2 ⟨Am, cm, rfl, -, hrow, hb⟩
        have MB := Lib.hid (KB.out.trans (hb.mono KB.out.size))
        clear hrow hb HQ KR KS
        go_wp2_with fail
        refine (alive_any _ (HE.out.next MB.out)).mono ?_
        rintro e w5 ⟨rfl, hb⟩
        have HB6 := Lib.hid (MB.out.trans (hb.mono MB.out.size))
        clear hb
        go_wp2
        go_ret
        exact ⟨rfl, HB6.out⟩

theorem canon_any (A : Option Addr) (n c : Nat) (f : Nat → Int) (D : Option Addr) (m d : Nat) (g : Nat → Int) (w : World) (hr : Holds w w.heap.size A n f) (hs : Holds w w.heap.size D m g) (he : Env w) :
    Calls Tryd.prog 6 #[.slice A n c, .slice D m d] w fun e w' => e = .returned (.bool true) ∧ Below w.heap.size w w' := by
  cases h1 : vl n f
  · exact canon_skip A n c f D m d g w hr hs he (.inl h1)
  · cases h2 : vl m g
    · exact canon_skip A n c f D m d g w hr hs he (.inr ⟨h1, h2⟩)
    · exact canon_main A n c f D m d g w hr hs he h1 h2
end Go.Proofs.YtcmpoblbjjoaiaaDoor
