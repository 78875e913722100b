/- The reference: Walk, Accept. -/
import Derived.Test.YtnpgmgaajejhjaaHrw
import Derived.Deep.RegionLawGrows
namespace Go.Proofs.Ytnpgmgaajejhjaa
open Go.RowKit
set_option maxRecDepth 100000
set_option linter.unusedVariables false
set_option linter.unusedSimpArgs false

/-- append of a list, as a step of a drawn region. -/
theorem stepN {ops : Array Oper} {o : Oper} {a : Act} {w : World} {K : Act → World → Prop} {Q : Exit → Act → World → Prop} {E : Prop} (hgd : o.guard = none) (s x : Operand)
    (ho : o.op = .call { callee := .builtin .append, args := #[s, x], argTypes := #[51, 51] }) (base : Nat) {v : Value} {n : Nat} {f : Nat → Int} (hs : a.eval s = v) (hown : L2.Own w base v n f)
    {B : Nat} {A : Option Addr} {m c : Nat} {g : Nat → Int} (hx : a.eval x = .slice A m c) (hA : A = none → c = 0) (hr : L2.Holds w B A m g) (hn : n ≤ 100000) (hm : m ≤ 100000) (hb : base ≤ w.heap.size)
    (h : ∀ v' w', L2.Own w' base v' (n + m) (L2.both n f g) → Below base w w' → K (a.put o.dst v') w') : if Region.wanted o (yielded ops a.tmps) = true then Oper.wp Try.prog o a w K Q else E := by
  have hw : Region.wanted o (yielded ops a.tmps) = true := by simp [Region.wanted, hgd]
  rw [if_pos hw]
  obtain ⟨i0, hi, hz0, hz1, hz2⟩ := info_parts L2.TryI.info3
  have key : ∀ ad, A = some ad → (∀ j u, (L2.news m g)[j]? = some u → w.cell? (ad.add j) = some u) → Oper.wp Try.prog o a w K Q := by
    rintro ad rfl hc
    obtain ⟨v', w', hrun, h1, h2, _⟩ := run_append_own (P := Try.prog) w base 51 o.type 3 i0 (.int .i64 0) 1 8 Try.underlying51 hi hz0 hz1 hz2 rfl (by decide) v n _ hown ad m c (L2.news m g) (by rw [L2.news_length]; omega) hc L2.news_one
      (by unfold maxLen; omega) (by omega) hb
    unfold Oper.wp
    simp [execOp, ho, resolve, invoke, builtin, hs, hx, hrun, Result.andThen]
    refine h v' w' ?_ (Below.grown (Below.refl _ _) h2 hb fun k hk => (hown.block hk).1)
    unfold L2.Own
    rw [← L2.news_both]
    exact h1
  cases A with
  | none =>
    obtain rfl := hA rfl
    rcases Nat.eq_zero_or_pos m with h0 | h0
    · subst h0
      have hrun := run_append_owned_none (P := Try.prog) (w := w) base 51 o.type 3 i0 1 Try.underlying51 hi v n _ hown
      unfold Oper.wp
      simp [execOp, ho, resolve, invoke, builtin, hs, hx, hrun, Result.andThen]
      exact h v w (hown.congr fun i hi => by simp [L2.both, hi]) (Below.refl _ _)
    · obtain ⟨b, off, e, _⟩ := hr h0
      cases e
  | some ad =>
    refine key ad rfl fun j u hj => ?_
    obtain ⟨hj', rfl⟩ := L2.news_get hj
    obtain ⟨b, off, e, _, hc⟩ := hr (by omega)
    cases e
    have e : Addr.add ⟨b, off, none⟩ j = ⟨b, off + j, none⟩ := by unfold Addr.add; by_cases h : j = 0 <;> simp [h]
    rw [e]
    exact hc j hj'
theorem mod_step {k N : Nat} (hN : 0 < N) : ((k : Int) + 1).tmod (N : Int) = (((k + 1) % N : Nat) : Int) := by
  rw [Int.tmod_eq_emod_of_nonneg (by omega), Int.natCast_emod, Int.natCast_add]; rfl
theorem rwalk_err {W H : Int} {A : Option Addr} {N c : Nat} (z : Int) (hN : N ≤ 4200) (hz : chk W H N = z) (hne : (z != 0) = true) (w : World) :
    Calls Try.prog 54 #[.agg #[.int .i64 W, .int .i64 H, .slice A N c]] w (PRet w [] z) := by
  have HK := Lib.hid (fun u => rhangs_err (A := A) (c := c) z hN hz hne u)
  have LB0 := Lib.hid (show Below w.heap.size w (w.alloc (.cells #[.int .i64 W, .int .i64 H, (.slice A N c)] 24)) from (Below.refl _ _).alloc (Nat.le_refl _) _)
  clear hz
  go_enter Try.func54, Try.ntmps54
  go_wp2_with fail
  with_reducible refine Calls.mono (HK.out _) ?_
  rintro e w1 ⟨rfl, hb⟩
  have LB1 := Lib.hid (LB0.out.trans (hb.mono LB0.out.size))
  clear hb LB0
  go_wp2
  go_ret2
  exact ⟨none, 0, rfl, cp_nil, ll_nil _ _, LB1.out⟩
theorem rwalk_no (W H N : Nat) (hNN : W + H = N) (A : Option Addr) (c : Nat) (g : Nat → Bool) (w : World) (hg : Holds w w.heap.size A (W * H) g) (hW0 : 1 ≤ W) (hW : W ≤ 64) (hH0 : 1 ≤ H) (hH : H ≤ 64) (hh : hgs (ov W g) N = false) : Calls Try.prog 54 #[.agg #[.int .i64 (W : Nat), .int .i64 (H : Nat), .slice A (W * H) c]] w (PRet w [] 20) := by
  have HK := Lib.hid (fun u (h : Below w.heap.size w u) => rhangs_ok W H N hNN A c g u ((hg.below h).more h.size) hW0 hW hH0 hH)
  rw [hh] at HK
  have X0 := Lib.hid (Box.new w (W : Nat) (H : Nat) (.slice A (W * H) c))
  have LB0 := Lib.hid (show Below w.heap.size w (w.alloc (.cells #[.int .i64 (W : Nat), .int .i64 (H : Nat), (.slice A (W * H) c)] 24)) from (Below.refl _ _).alloc (Nat.le_refl _) _)
  clear hg hh
  generalize W * H = M at *
  go_enter Try.func54, Try.ntmps54
  go_wp2_with fail
  generalize w.alloc (.cells #[.int .i64 (W : Nat), .int .i64 (H : Nat), .slice A M c] 24) = w0 at *
  obtain ⟨q0, q1, q2, q3, q4, q5, q6⟩ := X0.out.all
  go_wp2_with fail
  clear q0 q1 q2 q3 q4 q5 q6
  with_reducible refine Calls.mono (HK.out _ LB0.out) ?_
  rintro e w1 ⟨rfl, hb⟩
  have X1 := Lib.hid (X0.out.below hb X0.out.lt)
  have LB1 := Lib.hid (LB0.out.trans (hb.mono LB0.out.size))
  clear hb X0 LB0
  obtain ⟨q0, q1, q2, q3, q4, q5, q6⟩ := X1.out.all
  clear q0 q1 q2 q3 q4 q5 q6
  go_wp2
  go_ret2
  exact ⟨none, 0, rfl, cp_nil, ll_nil _ _, LB1.out⟩
set_option maxHeartbeats 1600000 in
theorem rwalk_ok (W H N : Nat) (hNN : W + H = N) (A : Option Addr) (c : Nat) (g : Nat → Bool) (w : World) (hg : Holds w w.heap.size A (W * H) g) (hW0 : 1 ≤ W) (hW : W ≤ 64) (hH0 : 1 ≤ H) (hH : H ≤ 64) (hh : hgs (ov W g) N = true) : Calls Try.prog 54 #[.agg #[.int .i64 (W : Nat), .int .i64 (H : Nat), .slice A (W * H) c]] w (PRet w (wlk (ov W g) N N) 0) := by
  have HK := Lib.hid (fun u (h : Below w.heap.size w u) => rhangs_ok W H N hNN A c g u ((hg.below h).more h.size) hW0 hW hH0 hH)
  have HT := Lib.hid (fun u => rthr_any W H A (W * H) c u hW hH)
  have hN0 : 0 < N := by omega
  have hN : N ≤ 128 := by omega
  have HWY := Lib.hid (fun u (h : Below w.heap.size w u) a (ha : a < N) => rway_n W H N hNN A c g a ((a + 1) % N) u ((hg.below h).more h.size) hW hH ha (Nat.mod_lt _ hN0) (up_iff.1 ((hgs_iff hN0).1 hh _ _ (Nat.mod_lt _ hN0) ha)))
  have HLN := Lib.hid (fun k (h : k ≤ N) => wlk_len (R := ov W g) hN0 k h)
  have HWL := Lib.hid (fun k => (show wlk (ov W g) N (k + 1) = wlk (ov W g) N k ++ wal (ov W g) N ((k + 1) % N) k (far (ov W g) N ((k + 1) % N) k).toNat from rfl))
  rw [hh] at HK
  rw [hNN] at HT
  have X0 := Lib.hid (Box.new w (W : Nat) (H : Nat) (.slice A (W * H) c))
  have LB0 := Lib.hid (show Below w.heap.size w (w.alloc (.cells #[.int .i64 (W : Nat), .int .i64 (H : Nat), (.slice A (W * H) c)] 24)) from (Below.refl _ _).alloc (Nat.le_refl _) _)
  clear hg hh hNN
  generalize W * H = M at *
  go_enter Try.func54, Try.ntmps54
  go_wp2_with fail
  generalize w.alloc (.cells #[.int .i64 (W : Nat), .int .i64 (H : Nat), .slice A M c] 24) = w0 at *
  obtain ⟨q0, q1, q2, q3, q4, q5, q6⟩ := X0.out.all
  go_wp2_with fail
  clear q0 q1 q2 q3 q4 q5 q6
  with_reducible refine Calls.mono (HK.out _ LB0.out) ?_
  rintro e w1 ⟨rfl, hb⟩
  have X1 := Lib.hid (X0.out.below hb X0.out.lt)
  have LB1 := Lib.hid (LB0.out.trans (hb.mono LB0.out.size))
  clear hb X0 LB0
  obtain ⟨q0, q1, q2, q3, q4, q5, q6⟩ := X1.out.all
  go_upto_region 7 with (fail)
  clear q0 q1 q2 q3 q4 q5 q6
  have HO0 := Lib.hid (own_one w1 (Nat.le_refl _) 0)
  have X2 := Lib.hid (X1.out.alloc (.cells #[.int .i64 ((0 : Nat) : Int)] 3))
  have LB2 := Lib.hid (LB1.out.alloc LB1.out.size (.cells #[.int .i64 ((0 : Nat) : Int)] 3))
  have hs1 := X1.out.lt
  have hs2 : w1.heap.size ≤ (w1.alloc (.cells #[.int .i64 ((0 : Nat) : Int)] 3)).heap.size := by simp
  clear X1 LB1
  rw [show ((0 : Nat) : Int) = 0 from rfl] at HO0 X2 LB2 hs2
  generalize w1.alloc (.cells #[.int .i64 0] 3) = w2 at *
  have HO1 := Lib.hid (show L2.Own w2 w1.heap.size (.slice (some ⟨w1.heap.size, 0, none⟩) 1 1) (wlk (ov W g) N 0).length (lf (wlk (ov W g) N 0)) from HO0.out)
  clear HO0
  obtain ⟨bb, hbb⟩ : ∃ b, w1.heap.size = b := ⟨_, rfl⟩
  rw [hbb] at HO1 hs1 hs2 ⊢
  clear hbb
  obtain ⟨q0, q1, q2, q3, q4, q5, q6⟩ := X2.out.all
  go_wp2_with fail
  clear q0 q1 q2 q3 q4 q5 q6
  with_reducible refine Calls.mono (HT.out _) ?_
  rintro e w3 ⟨rfl, hb⟩
  have X3 := Lib.hid (X2.out.below hb X2.out.lt)
  have LB3 := Lib.hid (LB2.out.trans (hb.mono LB2.out.size))
  have HO2 := Lib.hid (HO1.out.below hb)
  have hs3 := Nat.le_trans hs2 hb.size
  have hgb : w.heap.size < bb := hs1
  clear hb X2 LB2 HO1 hs2
  have hX := X3.out.lt
  go_wp2
  go_loopw [6, 8] (fun q i wr => ∃ k : Nat, k ≤ N ∧ i = .int .i64 k ∧ Hid (L2.Own wr bb q (wlk (ov W g) N k).length (lf (wlk (ov W g) N k))) ∧ Hid (Box wr w.heap.size (W : Nat) (H : Nat) (.slice A M c)) ∧ Hid (Below w.heap.size w wr) ∧ bb ≤ wr.heap.size) (fun _ i _ => N - (intOf i).toNat)
  case atStart => exact ⟨0, Nat.zero_le _, rfl, HO2, X3, LB3, hs3⟩
  case round =>
    obtain ⟨k, hk, rfl, HO, HX, HL, hs4⟩ := hrel
    clear HO2 X3 LB3 hs3
    by_cases hlt : k < N
    · have y1 : (k : Int) < (N : Int) := by omega
      have e1 : IntKind.i64.wrap ((k : Int) + 1) = (k : Int) + 1 := IntWalk.i64_in _ (by omega)
      have e2 := mod_step (k := k) hN0
      have e3 : ¬ N = 0 := by omega
      have hw := HWY.out wr.drew (HL.out.trans ((Below.refl _ _).drew.mono HL.out.size)) k hlt
      have HW1 := Lib.hid hw
      have hln := HLN.out k hk
      have hln2 : k * N ≤ 128 * 128 := Nat.mul_le_mul (by omega) hN
      have HE := Lib.hid (HWL.out k)
      have hl3 : (wal (ov W g) N ((k + 1) % N) k (far (ov W g) N ((k + 1) % N) k).toNat).length ≤ 100000 := by
        rw [wal_len]
        have := (far_all (R := ov W g) (Nat.mod_lt (k + 1) hN0)).1 k
        omega
      generalize wal (ov W g) N ((k + 1) % N) k (far (ov W g) N ((k + 1) % N) k).toNat = wy at *
      obtain ⟨tm, htm⟩ : ∃ tm, (k + 1) % N = tm := ⟨_, rfl⟩
      rw [htm] at e2 HW1
      clear htm hw
      have HK8 := Lib.hid (fun u (h : Below wr.heap.size wr u) => (show u.cell? ⟨w.heap.size, 0, none⟩ = some (.int .i64 (W : Nat)) ∧ u.cell? ⟨w.heap.size, 1, none⟩ = some (.int .i64 (H : Nat)) ∧ u.cell? ⟨w.heap.size, 2, none⟩ = some (.slice A M c) from ⟨(HX.out.below h HX.out.lt).c0, (HX.out.below h HX.out.lt).c1, (HX.out.below h HX.out.lt).c2⟩))
      have HK9 := Lib.hid (fun u (h : Below bb wr u) => (show u.cell? ⟨w.heap.size, 0, none⟩ = some (.int .i64 (W : Nat)) ∧ u.cell? ⟨w.heap.size, 1, none⟩ = some (.int .i64 (H : Nat)) ∧ u.cell? ⟨w.heap.size, 2, none⟩ = some (.slice A M c) from ⟨(HX.out.below h hgb).c0, (HX.out.below h hgb).c1, (HX.out.below h hgb).c2⟩))
      obtain ⟨q0, q1, q2, q3, q4, q5, q6⟩ := HX.out.all
      go_wp2
      go_region_held3 (fun w' => w'.cell? ⟨w.heap.size, 0, none⟩ = some (.int .i64 (W : Nat)) ∧ w'.cell? ⟨w.heap.size, 1, none⟩ = some (.int .i64 (H : Nat)) ∧ w'.cell? ⟨w.heap.size, 2, none⟩ = some (.slice A M c))
        (first
          | exact HK9.out _ hb9
          | exact HK8.out _ hb8
          | exact HK8.out _ (Below.refl _ _).drew)
        (first
          | (go_at_call 92
             with_reducible refine Calls.mono HW1.out ?_
             rintro e w5 ⟨D, d, rfl, hd, hll, hb⟩
             have hb8 : Below wr.heap.size wr w5 := (Below.refl _ _).drew.trans hb)
          | (refine stepN rfl (.tmp 27) (.tmp 34) rfl bb (by rfl) (L2.Own.below HO.out hb8) (by rfl) hd.1 hll (by omega) hl3 (Nat.le_trans hs4 hb8.size) ?_
             intro v' w6 hown6 hb6
             have hb9 : Below bb wr w6 := (hb8.mono hs4).trans hb6))
      have HO6 := Lib.hid (own_both hown6)
      have HB6 := Lib.hid hb9
      clear hb hb8 hb9 hb6 hown6 hd hll HK8 HK9 q0 q1 q2 q3 q4 q5 q6 e1 e2
      go_wp2
      go_roundw
      case rel => exact ⟨k + 1, by omega, by go_num, by rw [HE.out]; exact HO6, Lib.hid (HX.out.below HB6.out hgb), Lib.hid (HL.out.trans (HB6.out.mono (Nat.le_of_lt hgb))), Nat.le_trans hs4 HB6.out.size⟩
      case measure => simp [intOf]; omega
    · have e : k = N := by omega
      have HF := Lib.hid (lr_end HO.out (Nat.le_of_lt hgb) HL.out)
      rw [e] at HF
      clear e
      obtain ⟨A', c', he, h1, h2, h3⟩ := HF.out
      cases he
      go_wp2
      go_ret2
      exact ⟨A', c', rfl, h1, h2, h3⟩
end Go.Proofs.Ytnpgmgaajejhjaa
