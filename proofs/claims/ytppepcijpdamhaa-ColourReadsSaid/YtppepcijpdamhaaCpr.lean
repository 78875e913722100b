/- Layer 14: the reference's Parse. -/
import Derived.Test.YtppepcijpdamhaaCps
import Derived.Test.YtppepcijpdamhaaRfr
namespace Go.Proofs.Ytppepcijpdamhaa
open Go.RowKit
set_option maxRecDepth 100000
set_option linter.unusedVariables false
set_option linter.unusedSimpArgs false

set_option maxHeartbeats 1600000 in
theorem rparse_bad (s : ByteArray) (e0 : Nat) (FF : Nat → Int) (W : World) (hs : s.size ≤ 5000) (hF : First s e0)
    (h : e0 = 0 ∨ (¬ e0 = 0 ∧ 64 < e0) ∨ (¬ e0 = 0 ∧ ¬ 64 < e0 ∧ ¬ s.size % (e0 + 1) = 0) ∨ (¬ e0 = 0 ∧ ¬ 64 < e0 ∧ s.size % (e0 + 1) = 0 ∧ 64 < s.size / (e0 + 1))) :
    Calls Try.prog 34 #[.string s] W (RI W 0 0 0 FF 12) := by
  have hle := hF.le
  have HF := Lib.hid hF
  have HH := Lib.hid h
  clear hF h
  have B0 := Lib.hid ((Below.refl W.heap.size W).alloc (Nat.le_refl _) (.cells #[.int .i64 0, .int .i64 0, .slice none 0 0] 29))
  have X0 := Lib.hid (IBox.new W 0 0 (.slice none 0 0))
  go_enter Try.func34, Try.ntmps34
  go_wp2
  go_loop [4] (fun i => ∃ k : Nat, k ≤ e0 ∧ i = .int .i64 k) (fun i => e0 - (intOf i).toNat)
  case atStart => exact ⟨0, Nat.zero_le _, rfl⟩
  case round =>
    obtain ⟨k, hk, rfl⟩ := hrel
    by_cases hlt : k < e0
    · have hks : k < s.size := by omega
      have hn := HF.out.no k hks hlt
      have h1 : (((s[k]'hks).toNat : Int) != 10) = true := by simp; omega
      clear hn
      go_wp2
      exact ⟨⟨k + 1, by omega, by go_num⟩, by simp [intOf]; omega⟩
    · have e : e0 = k := by omega
      subst e
      have hend : s.size ≤ e0 ∨ ∃ h : e0 < s.size, (((s[e0]'h).toNat : Int) != 10) = false := by
        rcases Nat.eq_or_lt_of_le hle with h | h
        · exact .inl (by omega)
        · exact .inr ⟨h, by simp [HF.out.yes h]⟩
      have ez : ¬ e0 + 1 = 0 := by omega
      obtain ⟨m, hm⟩ : ∃ m, s.size % (e0 + 1) = m := ⟨_, rfl⟩
      obtain ⟨q, hq⟩ : ∃ q, s.size / (e0 + 1) = q := ⟨_, rfl⟩
      have hqb : q ≤ 5000 := by rw [← hq]; exact Nat.le_trans (Nat.div_le_self _ _) hs
      have em : (s.size : Int) % ((e0 : Int) + 1) = (m : Int) := by rw [← hm]; simp
      have eqw : wrap64 (q : Int) = (q : Int) := IntWalk.wrap64_in _ (by omega)
      have eq' : (s.size : Int) / ((e0 : Int) + 1) = (q : Int) := by rw [← hq]; simp
      have eq : (s.size : Int).tdiv ((e0 : Int) + 1) = (q : Int) := by rw [Int.tdiv_eq_ediv_of_nonneg (by omega)]; exact eq'
      obtain ⟨p0, p1, p2, p3, p4, p5, p6⟩ := X0.out.all
      have H' := HH.out
      rw [hm, hq] at H'
      clear hm hq HH HF hlt hk
      rcases H' with rfl | ⟨h1, h⟩ | ⟨h1, h2, h⟩ | ⟨h1, h2, h3, h⟩
      all_goals
        rcases hend with he | ⟨hel, he⟩
        all_goals
          first
            | have hd : ((m : Int) != 0) = true := by simp; omega
            | have hd : ((m : Int) != 0) = false := by simp; omega
            | skip
          first
            | have dz : decide ((64 : Int) < (q : Int)) = true := by simp; omega
            | have dz : decide ((64 : Int) < (q : Int)) = false := by simp; omega
            | skip
          first
            | have a1 : ((e0 : Int) == 0) = false := by simp; omega
            | have a1 : ((0 : Int) == 0) = true := rfl
            | have a1 : ((e0 : Int) == 0) = false := by simp; omega
          go_wp2
          refine bodyPost_ret (v := .tuple #[.agg #[.int .i64 0, .int .i64 0, .slice none 0 0], .int .i64 12]) (by simp [results, Try.results34, go_sem, p0, p1, p2]) rfl ?_
          exact ⟨none, 0, rfl, L2.Holds.none_, B0.out⟩

theorem fin_ir {w w2 : World} {X Y z : Int} {N r k c : Nat} {F : Nat → Int} (hrow : L2.Row w2 k N F) (hb : Below w.heap.size w w2) :
    RI w X Y N F z (.returned (.tuple #[.agg #[.int .i64 X, .int .i64 Y, .slice (some ⟨k, 0, none⟩) N c], .int .i64 z])) w2 := ⟨_, _, rfl, hrow.holds hrow.lt, hb⟩
set_option maxHeartbeats 6400000 in
theorem rparse_good (s : ByteArray) (e0 q : Nat) (FF : Nat → Int) (W : World) (hs : s.size ≤ 5000) (hF : First s e0) (h1 : 1 ≤ e0) (h2 : e0 ≤ 64) (h3 : 1 ≤ q) (h4 : q ≤ 64) (hn : q * (e0 + 1) = s.size) :
    Calls Try.prog 34 #[.string s] W fun x w' =>
      (GoodC s e0 q ∧ RI W (e0 : Nat) (q : Nat) (e0 * q) (pxF s e0 q) 0 x w') ∨ (¬ GoodC s e0 q ∧ RI W 0 0 0 FF 12 x w') := by
  have hle := hF.le
  have HF := Lib.hid hF
  have HN := Lib.hid hn
  have hs0 : 1 ≤ s.size := by rw [← hn]; exact Nat.mul_pos h3 (by omega)
  have he0 : e0 < s.size := by rw [← hn]; have := Nat.mul_le_mul_right (e0 + 1) h3; omega
  have em : (s.size : Int) % ((e0 : Int) + 1) = 0 := by
    have : s.size % (e0 + 1) = 0 := by rw [← hn]; simp
    have := congrArg (fun n : Nat => (n : Int)) this; simpa using this
  have hd : ((s.size : Int) % ((e0 : Int) + 1) != 0) = false := by simp [em]
  have e1 : (s.size : Int) = (q : Int) * ((e0 : Int) + 1) := by rw [← hn, Int.natCast_mul]; simp
  have eq : (s.size : Int).tdiv ((e0 : Int) + 1) = (q : Int) := by rw [e1, Int.mul_tdiv_cancel _ (by omega)]
  have eq' : (s.size : Int) / ((e0 : Int) + 1) = (q : Int) := by rw [e1, Int.mul_ediv_cancel _ (by omega)]
  have eqw : wrap64 (q : Int) = (q : Int) := IntWalk.wrap64_in _ (by omega)
  have dz : decide ((64 : Int) < (q : Int)) = false := by simp; omega
  have ez : ¬ e0 + 1 = 0 := by omega
  have ez0 : ((e0 : Int) == 0) = false := by simp; omega
  have ez1 : ¬ (64 : Int) < (e0 : Int) := by omega
  have HEQ := Lib.hid (Nat.mul_comm q e0)
  have HZ0 := Lib.hid (Nat.mul_pos h3 h1)
  have HGD := Lib.hid (show GoodC s e0 q ↔ ∀ i, i < s.size → okC s e0 i from ⟨fun h => h.2, fun h => ⟨hn, h⟩⟩)
  have HPX := Lib.hid (fun d r (hr : r < e0) (hd : d < q) => pxF_at (s := s) hr hd)
  have HPB := Lib.hid (fun d r (hr : r < e0 + 1) (hd : d < q) => show d * (e0 + 1) + r < s.size by
    have := Nat.mul_le_mul_right (e0 + 1) (show d + 1 ≤ q by omega)
    rw [Nat.add_mul, Nat.one_mul] at this
    omega)
  have HCO := Lib.hid (fun d r (hr : r < e0 + 1) => co (W := e0 + 1) (x := r) d hr)
  have HDQ := Lib.hid (fun i (hi : i < s.size) => show i / (e0 + 1) < q from Nat.div_lt_of_lt_mul (by rw [Nat.mul_comm]; omega))
  clear hF hn e1 em
  have B0 := Lib.hid ((Below.refl W.heap.size W).alloc (Nat.le_refl _) (.cells #[.int .i64 0, .int .i64 0, .slice none 0 0] 29))
  have X0 := Lib.hid (IBox.new W 0 0 (.slice none 0 0))
  go_enter Try.func34, Try.ntmps34
  go_wp2
  go_loop [4] (fun i => ∃ k : Nat, k ≤ e0 ∧ i = .int .i64 k) (fun i => e0 - (intOf i).toNat)
  case atStart => exact ⟨0, Nat.zero_le _, rfl⟩
  case round =>
    obtain ⟨k, hk, rfl⟩ := hrel
    by_cases hlt : k < e0
    · have hks : k < s.size := by omega
      have hn := HF.out.no k hks hlt
      have h1 : (((s[k]'hks).toNat : Int) != 10) = true := by simp; omega
      clear hn
      go_wp2
      exact ⟨⟨k + 1, by omega, by go_num⟩, by simp [intOf]; omega⟩
    · have e : e0 = k := by omega
      subst e
      have hend : (((s[e0]'he0).toNat : Int) != 10) = false := by simp [HF.out.yes he0]
      obtain ⟨w0, hw0⟩ : ∃ z, W.alloc (.cells #[.int .i64 0, .int .i64 0, .slice none 0 0] 29) = z := ⟨_, rfl⟩
      rw [hw0] at X0 B0 ⊢
      clear hw0
      have HRO : Hid (W.heap.size < w0.heap.size) := Lib.hid X0.out.lt
      have X0 := Lib.hid (X0.out.alloc (.cells #[.int .i64 (e0 : Nat), .int .i64 (q : Nat), .slice none 0 0] 29))
      have B1 := Lib.hid (B0.out.alloc B0.out.size (.cells #[.int .i64 (e0 : Nat), .int .i64 (q : Nat), .slice none 0 0] 29))
      have XO := Lib.hid (IBox.new w0 (e0 : Nat) (q : Nat) (.slice none 0 0))
      clear hlt hk B0
      go_upto_region 7 with (fail)
      obtain ⟨ob, hob⟩ : ∃ z, w0.heap.size = z := ⟨_, rfl⟩
      rw [hob] at XO HRO
      try rw [hob]
      have hro : W.heap.size < ob := HRO.out
      generalize w0.alloc (.cells #[.int .i64 (e0 : Nat), .int .i64 (q : Nat), .slice none 0 0] 29) = w1 at *
      clear hob HRO hend
      have V0 := Lib.hid (L2.Own.nil w1 (ob + 1) (pxF s e0 q))
      have HX0 := Lib.hid (fun z (h : Below ob w1 z) => (show IBox z W.heap.size 0 0 (.slice none 0 0) from X0.out.below h hro))
      have HLB := Lib.hid (fun z (h : Below ob w1 z) => (show Below W.heap.size W z from B1.out.trans (h.mono (by omega))))
      obtain ⟨p0, p1, p2, p3, p4, p5, p6⟩ := XO.out.all
      go_wp2
      clear p0 p1 p2 p3 p4 p5 p6
      go_loopw [6] (fun i wr => ∃ k : Nat, k ≤ q ∧ i = .int .i64 ((q : Int) - 1 - (k : Int)) ∧ ∃ D d, Hid (L2.Own wr (ob + 1) (.slice D (k * e0) d) (k * e0) (pxF s e0 q)) ∧ Hid (IBox wr ob (e0 : Nat) (q : Nat) (.slice D (k * e0) d)) ∧ Hid (Below ob w1 wr) ∧ Hid (∀ i, i < s.size → q - k ≤ i / (e0 + 1) → okC s e0 i)) (fun i _ => (intOf i + 1).toNat)
      case atStart => exact ⟨0, Nat.zero_le _, by simp, none, 0, by rw [Nat.zero_mul]; exact V0, by rw [Nat.zero_mul]; exact XO, Lib.hid (Below.refl _ _), Lib.hid (fun i hi h => by have := HDQ.out i hi; omega)⟩
      case round =>
        obtain ⟨k, hk, rfl, D, d, HO, HX, HB, HOK⟩ := hrel
        clear V0 XO X0 B1
        obtain ⟨yi, hyi⟩ : ∃ z : Int, (q : Int) - 1 - (k : Int) = z := ⟨_, rfl⟩
        rw [hyi]
        by_cases hlk : k < q
        · have y0 : 0 ≤ yi := by omega
          have y1 : yi ≤ 64 := by omega
          go_wp2
          go_loopw [7] (fun i wr => ∃ x : Nat, x ≤ e0 + 1 ∧ i = .int .i64 x ∧ ∃ D d m, m = k * e0 + min x e0 ∧ Hid (L2.Own wr (ob + 1) (.slice D m d) m (pxF s e0 q)) ∧ Hid (IBox wr ob (e0 : Nat) (q : Nat) (.slice D m d)) ∧ Hid (Below ob w1 wr) ∧ Hid (∀ i, i < s.size → (q - k ≤ i / (e0 + 1) ∨ (i / (e0 + 1) = q - 1 - k ∧ i % (e0 + 1) < x)) → okC s e0 i)) (fun i _ => e0 + 1 - (intOf i).toNat)
          case atStart => exact ⟨0, Nat.zero_le _, rfl, D, d, k * e0, by simp, HO, HX, HB, Lib.hid (fun i hi h => HOK.out i hi (by omega))⟩
          case round =>
            obtain ⟨x, hx, rfl, D, d, m, hm, HO2, HX2, HB2, HOK2⟩ := hrel
            clear HO HX HB HOK
            have hkm : k * e0 ≤ 64 * 64 := Nat.mul_le_mul (by omega) (by omega)
            by_cases hlx : x ≤ e0
            · have y3 : (x : Int) ≤ (e0 : Int) := by omega
              have y4 : (0 : Int) ≤ (x : Int) := by omega
              have hp := HPB.out (q - 1 - k) x (by omega) (by omega)
              obtain ⟨hc1, hc2⟩ := HCO.out (q - 1 - k) x (by omega)
              have hyn : yi = ((q - 1 - k : Nat) : Int) := by omega
              have hmb : (q - 1 - k) * (e0 + 1) ≤ 64 * 65 := Nat.mul_le_mul (by omega) (by omega)
              have e3 : IntKind.i64.wrap (yi * ((e0 : Int) + 1)) = (((q - 1 - k) * (e0 + 1) : Nat) : Int) := by
                have h : yi * ((e0 : Int) + 1) = (((q - 1 - k) * (e0 + 1) : Nat) : Int) := by rw [Int.natCast_mul, hyn]; simp
                rw [h]; exact IntWalk.i64_in _ (by omega)
              have e0' : IntKind.i64.wrap ((e0 : Int) + 1) = (e0 : Int) + 1 := IntWalk.i64_in _ (by omega)
              have HPF := Lib.hid (fun (hr : x < e0) => HPX.out (q - 1 - k) x hr (by omega))
              obtain ⟨pm, hpm⟩ : ∃ z, (q - 1 - k) * (e0 + 1) = z := ⟨_, rfl⟩
              simp only [hpm] at e3 hp hmb hc1 hc2 HPF
              have e4 : IntKind.i64.wrap ((pm : Int) + (x : Int)) = ((pm + x : Nat) : Int) := by rw [IntWalk.i64_in _ (by omega)]; omega
              obtain ⟨p, hpp⟩ : ∃ z, pm + x = z := ⟨_, rfl⟩
              simp only [hpp] at e4 hp hc1 hc2 HPF
              have hbt2 := (byt_at hp).symm
              obtain ⟨b0, b1⟩ := byt_bd s p
              have HOC := Lib.hid (show okC s e0 p ↔ if x = e0 then byt s p = 10 else 97 ≤ byt s p ∧ byt s p ≤ 112 by unfold okC; rw [hc2])
              obtain ⟨cv, hcv⟩ : ∃ z, byt s p = z := ⟨_, rfl⟩
              rw [hcv] at hbt2 b0 b1 HOC
              simp only [hcv] at HPF
              have HP := Lib.hid hp
              have HNX := Lib.hid (fun (ho : okC s e0 p) i (hi : i < s.size) (h : q - k ≤ i / (e0 + 1) ∨ (i / (e0 + 1) = q - 1 - k ∧ i % (e0 + 1) < x + 1)) => show okC s e0 i by
                by_cases hip : i = p
                · rw [hip]; exact ho
                · refine HOK2.out i hi ?_
                  rcases h with h | ⟨h, h'⟩
                  · exact .inl h
                  · refine .inr ⟨h, ?_⟩
                    rcases Nat.lt_or_ge (i % (e0 + 1)) x with h5 | h5
                    · exact h5
                    · exfalso
                      apply hip
                      have h6 := Nat.div_add_mod i (e0 + 1)
                      have h7 := Nat.div_add_mod p (e0 + 1)
                      rw [h, show i % (e0 + 1) = x by omega] at h6
                      rw [hc1, hc2] at h7
                      exact h6.symm.trans h7)
              clear hcv hpm hpp hyn hmb HOK2 hyi hc1 hc2
              obtain ⟨p0, p1, p2, p3, p4, p5, p6⟩ := HX2.out.all
              obtain ⟨r0, r1, r2, r3, r4, r5, r6⟩ := (HX0.out _ HB2.out).all
              by_cases hxe : x = e0
              · have a1 : ((x : Int) == (e0 : Int)) = true := by simp [hxe]
                have a2 : ¬ (x : Int) < (e0 : Int) := by omega
                rw [if_pos hxe] at HOC
                by_cases hc : cv = 10
                · have a3 : (cv != 10) = false := by simp [hc]
                  have HO5 := Lib.hid (HNX.out (HOC.out.2 hc))
                  have HM := Lib.hid (show m = k * e0 + min (x + 1) e0 by rw [hm, hxe]; simp)
                  clear hc hxe hm HNX HOC HPF
                  go_wp2
                  go_roundw
                  case rel => exact ⟨x + 1, by omega, by go_num, D, d, m, HM.out, HO2, HX2, HB2, HO5⟩
                  case measure => simp [intOf]; omega
                · have a3 : (cv != 10) = true := by simp [hc]
                  have HBAD := Lib.hid (show ¬ GoodC s e0 q from fun hg => hc (HOC.out.1 (HGD.out.1 hg p HP.out)))
                  clear hc hxe hm HNX HOC HPF
                  go_wp2
                  refine bodyPost_ret (v := .tuple #[.agg #[.int .i64 0, .int .i64 0, .slice none 0 0], .int .i64 12]) (by simp [results, Try.results34, go_sem, r0, r1, r2, r3, r4, r5]) rfl (.inr ⟨HBAD.out, fin_ie _ (Nat.le_refl _) (HLB.out _ HB2.out)⟩)
              · have a1 : ((x : Int) == (e0 : Int)) = false := by simp; omega
                have a2 : (x : Int) < (e0 : Int) := by omega
                rw [if_neg hxe] at HOC
                by_cases hc : cv < 97
                · have HBAD := Lib.hid (show ¬ GoodC s e0 q from fun hg => by have := HOC.out.1 (HGD.out.1 hg p HP.out); omega)
                  clear hxe hm HNX HOC HPF
                  go_wp2
                  refine bodyPost_ret (v := .tuple #[.agg #[.int .i64 0, .int .i64 0, .slice none 0 0], .int .i64 12]) (by simp [results, Try.results34, go_sem, r0, r1, r2, r3, r4, r5]) rfl (.inr ⟨HBAD.out, fin_ie _ (Nat.le_refl _) (HLB.out _ HB2.out)⟩)
                · by_cases hc2 : 112 < cv
                  · have HBAD := Lib.hid (show ¬ GoodC s e0 q from fun hg => by have := HOC.out.1 (HGD.out.1 hg p HP.out); omega)
                    clear hxe hm HNX HOC HPF
                    go_wp2
                    refine bodyPost_ret (v := .tuple #[.agg #[.int .i64 0, .int .i64 0, .slice none 0 0], .int .i64 12]) (by simp [results, Try.results34, go_sem, r0, r1, r2, r3, r4, r5]) rfl (.inr ⟨HBAD.out, fin_ie _ (Nat.le_refl _) (HLB.out _ HB2.out)⟩)
                  · have a5 : IntKind.u8.wrap (cv - 97) = cv - 97 := IntWalk.u8_in _ (by omega)
                    have a6 : IntKind.i64.wrap (cv - 97) = cv - 97 := IntWalk.i64_in _ (by omega)
                    have HO5 := Lib.hid (HNX.out (HOC.out.2 (by omega)))
                    have HM := Lib.hid (show m + 1 = k * e0 + min (x + 1) e0 by rw [hm]; omega)
                    have HFV := Lib.hid (show pxF s e0 q m = cv - 97 by rw [hm, show min x e0 = x by omega, ← HPF.out (by omega), show q - 1 - (q - 1 - k) = k by omega])
                    have hmm : m ≤ 100000 := by omega
                    have hsz : ob + 1 ≤ wr.heap.size := HX2.out.lt
                    clear hxe hm HNX HOC HPF
                    go_wp2_with (at_builtin; refine L2.app1 _ rfl _ _ (by rfl) (ob + 1) (by rfl) HO2.out (cv - 97) (by rfl) HFV.out hmm hsz ?_; intro v' w5 hown5 hb5; obtain ⟨D', d', rfl⟩ := orow_shape hown5; have HO6 := Lib.hid (own_put hown5 (.slice D' (m + 1) d')); have HX5 := Lib.hid (HX2.out.below hb5 (Nat.lt_succ_self _)); have HB5 := Lib.hid (HB2.out.trans (hb5.mono (Nat.le_succ _))); clear hown5 hb5 p0 p1 p2 p3 p4 p5 p6; obtain ⟨p0, p1, p2, p3, p4, p5, p6⟩ := HX5.out.all)
                    have HX6 := Lib.hid (HX5.out.put2 (.slice D' (m + 1) d'))
                    have HB6 := Lib.hid (HB5.out.setCell (p := ⟨ob, 2, none⟩) (Nat.le_refl _) (.slice D' (m + 1) d'))
                    go_roundw
                    case rel => exact ⟨x + 1, by omega, by go_num, D', d', m + 1, HM.out, HO6, HX6, HB6, HO5⟩
                    case measure => simp [intOf]; omega
            · have e : x = e0 + 1 := by omega
              have y3 : ¬ (x : Int) ≤ (e0 : Int) := by omega
              have HM := Lib.hid (show m = (k + 1) * e0 by rw [hm, e, Nat.add_mul]; omega)
              rw [HM.out] at HO2 HX2
              have HO5 := Lib.hid (fun i (hi : i < s.size) (h : q - (k + 1) ≤ i / (e0 + 1)) => HOK2.out i hi (by
                have h9 := Nat.mod_lt i (show 0 < e0 + 1 by omega)
                rcases Nat.lt_or_ge (i / (e0 + 1)) (q - k) with h5 | h5
                · exact .inr ⟨by omega, by omega⟩
                · exact .inl h5))
              have hyn : IntKind.i64.wrap (yi - 1) = yi - 1 := IntWalk.i64_in _ (by omega)
              have HYE := Lib.hid (show yi - 1 = (q : Int) - 1 - ((k + 1 : Nat) : Int) by omega)
              clear e hm hyi HOK2
              go_wp2
              go_roundw
              case rel => exact ⟨k + 1, by omega, by rw [HYE.out], D, d, HO2, HX2, HB2, HO5⟩
              case measure => simp [intOf]; omega
        · have e : k = q := by omega
          have y0 : ¬ 0 ≤ yi := by omega
          rw [e] at HO HX HOK
          have HGOOD := Lib.hid (HGD.out.2 fun i hi => HOK.out i hi (by rw [Nat.sub_self]; exact Nat.zero_le _))
          obtain ⟨k2, c2, hv, hk2, hrow⟩ := HO.out.row HZ0.out
          have hv1 : D = some ⟨k2, 0, none⟩ := by cases hv; rfl
          have hv2 : d = c2 := by cases hv; rfl
          subst hv1 hv2
          rw [HEQ.out] at hrow HX
          have HR := Lib.hid hrow
          have HLr := Lib.hid (HLB.out _ HB.out)
          have R0 := Lib.hid (HX0.out _ HB.out)
          have hkr : W.heap.size < k2 := by omega
          clear hv hrow HO e hyi HOK
          obtain ⟨p0, p1, p2, p3, p4, p5, p6⟩ := HX.out.all
          obtain ⟨r0, r1, r2, r3, r4, r5, r6⟩ := R0.out.all
          go_wp2
          refine bodyPost_ret (v := .tuple #[.agg #[.int .i64 (e0 : Nat), .int .i64 (q : Nat), .slice (some ⟨k2, 0, none⟩) (e0 * q) d], .int .i64 0]) (by simp [results, Try.results34, go_sem, r0, r1, r2, r3, r4, r5]) rfl (.inl ⟨HGOOD.out, fin_im (Nat.le_refl _) hkr HR.out HLr.out⟩)
end Go.Proofs.Ytppepcijpdamhaa
