/- The reference: Threads, Fits. -/
import Derived.Test.YtmcdfnhpaneanaaPck
import Derived.Test.YtmcdfnhpaneanaaPsp
import Derived.Test.YtmcdfnhpaneanaaRfr
import Derived.Deep.RegionHeld3
namespace Go.Proofs.Ytmcdfnhpaneanaa
open Go.RowKit
set_option maxRecDepth 100000
set_option linter.unusedVariables false
set_option linter.unusedSimpArgs false

set_option maxHeartbeats 1600000 in
theorem rpc_any (W H : Int) (A B C : Option Addr) (n c m d k e : Nat) (f a b : Nat → Int) (w : World) (hf : L2.Holds w w.heap.size A n f) (ha : L2.Holds w w.heap.size B m a) (hb1 : L2.Holds w w.heap.size C k b) : Calls Try.prog 34 #[.agg #[.int .i64 W, .int .i64 H, .slice A n c], .slice B m d, .slice C k e] w fun e w' => e = .returned (.int .i64 (pcE W H n m k f a b)) ∧ Below w.heap.size w w' := by
  have HC := Lib.hid (fun u (hb : Below w.heap.size w u) => rick_any W H A n c f u ((hf.below hb).more hb.size))
  have z0 : ((0 : Int) != 0) = false := rfl
  have z8 : ((8 : Int) != 0) = true := rfl
  rcases ick_or W H n f with h1 | h1
  · rw [h1] at HC
    by_cases h2 : (m : Int) = W
    · have y1 : ((m : Int) != W) = false := by simp [h2]
      by_cases h3 : (k : Int) = H
      · have y2 : ((k : Int) != H) = false := by simp [h3]
        obtain ⟨P, Q, e1, e2, e3, W0, W1, H0, H1, e4⟩ := ick_nat h1
        obtain rfl : m = P := by omega
        obtain rfl : k = Q := by omega
        rw [pcE_fin h1 ⟨h2, h3⟩]
        have HFA := Lib.hid (fun u (hb : Below w.heap.size w u) => rfine_any B m d a u (by omega) ((ha.below hb).more hb.size))
        have HFB := Lib.hid (fun u (hb : Below w.heap.size w u) => rfine_any C k e b u (by omega) ((hb1.below hb).more hb.size))
        clear hf ha hb1 h1 h2 h3 e1 e2 e3 e4
        cases h5 : fine m a
        · rw [h5] at HFA
          rw [if_neg (by simp)]
          clear h5
          have LB0 := Lib.hid (Below.refl w.heap.size w)
          have X1 := IBox.new w W H (.slice A n c)
          have X1 := Lib.hid X1
          have LB0 := Lib.hid (LB0.out.alloc LB0.out.size (.cells #[.int .i64 W, .int .i64 H, .slice A n c] 24))
          go_enter Try.func34, Try.ntmps34
          go_upto_region 1 with (fail)
          generalize w.alloc (.cells #[.int .i64 W, .int .i64 H, .slice A n c] 24) = w0 at *
          obtain ⟨q0, q1, q2, q3, q4, q5, q6⟩ := X1.out.all
          go_wp2_with fail
          clear q0 q1 q2 q3 q4 q5 q6
          with_reducible refine Calls.mono (HC.out _ LB0.out) ?_
          rintro e w1 ⟨rfl, hb⟩
          have LB1 := Lib.hid (LB0.out.trans (hb.mono LB0.out.size))
          have X1 := Lib.hid (X1.out.below hb X1.out.lt)
          clear hb LB0 
          obtain ⟨q0, q1, q2, q3, q4, q5, q6⟩ := X1.out.all
          go_wp2_with fail
          clear q0 q1 q2 q3 q4 q5 q6
          with_reducible refine Calls.mono (HFA.out _ LB1.out) ?_
          rintro e w2 ⟨rfl, hb⟩
          have LB2 := Lib.hid (LB1.out.trans (hb.mono LB1.out.size))
          have X1 := Lib.hid (X1.out.below hb X1.out.lt)
          clear hb LB1 
          obtain ⟨q0, q1, q2, q3, q4, q5, q6⟩ := X1.out.all
          go_wp2
          go_ret
          exact ⟨rfl, LB2.out⟩
        · rw [h5] at HFA
          clear h5
          cases h6 : fine k b
          · rw [h6] at HFB
            rw [if_neg (by simp)]
            clear h6
            have LB0 := Lib.hid (Below.refl w.heap.size w)
            have X1 := IBox.new w W H (.slice A n c)
            have X1 := Lib.hid X1
            have LB0 := Lib.hid (LB0.out.alloc LB0.out.size (.cells #[.int .i64 W, .int .i64 H, .slice A n c] 24))
            go_enter Try.func34, Try.ntmps34
            go_upto_region 1 with (fail)
            generalize w.alloc (.cells #[.int .i64 W, .int .i64 H, .slice A n c] 24) = w0 at *
            obtain ⟨q0, q1, q2, q3, q4, q5, q6⟩ := X1.out.all
            go_wp2_with fail
            clear q0 q1 q2 q3 q4 q5 q6
            with_reducible refine Calls.mono (HC.out _ LB0.out) ?_
            rintro e w1 ⟨rfl, hb⟩
            have LB1 := Lib.hid (LB0.out.trans (hb.mono LB0.out.size))
            have X1 := Lib.hid (X1.out.below hb X1.out.lt)
            clear hb LB0 
            obtain ⟨q0, q1, q2, q3, q4, q5, q6⟩ := X1.out.all
            go_wp2_with fail
            clear q0 q1 q2 q3 q4 q5 q6
            with_reducible refine Calls.mono (HFA.out _ LB1.out) ?_
            rintro e w2 ⟨rfl, hb⟩
            have LB2 := Lib.hid (LB1.out.trans (hb.mono LB1.out.size))
            have X1 := Lib.hid (X1.out.below hb X1.out.lt)
            clear hb LB1 
            obtain ⟨q0, q1, q2, q3, q4, q5, q6⟩ := X1.out.all
            go_wp2_with fail
            clear q0 q1 q2 q3 q4 q5 q6
            with_reducible refine Calls.mono (HFB.out _ LB2.out) ?_
            rintro e w3 ⟨rfl, hb⟩
            have LB3 := Lib.hid (LB2.out.trans (hb.mono LB2.out.size))
            have X1 := Lib.hid (X1.out.below hb X1.out.lt)
            clear hb LB2 
            obtain ⟨q0, q1, q2, q3, q4, q5, q6⟩ := X1.out.all
            go_wp2
            go_ret
            exact ⟨rfl, LB3.out⟩
          · rw [h6] at HFB
            rw [if_pos ⟨rfl, rfl⟩]
            clear h6
            have LB0 := Lib.hid (Below.refl w.heap.size w)
            have X1 := IBox.new w W H (.slice A n c)
            have X1 := Lib.hid X1
            have LB0 := Lib.hid (LB0.out.alloc LB0.out.size (.cells #[.int .i64 W, .int .i64 H, .slice A n c] 24))
            go_enter Try.func34, Try.ntmps34
            go_upto_region 1 with (fail)
            generalize w.alloc (.cells #[.int .i64 W, .int .i64 H, .slice A n c] 24) = w0 at *
            obtain ⟨q0, q1, q2, q3, q4, q5, q6⟩ := X1.out.all
            go_wp2_with fail
            clear q0 q1 q2 q3 q4 q5 q6
            with_reducible refine Calls.mono (HC.out _ LB0.out) ?_
            rintro e w1 ⟨rfl, hb⟩
            have LB1 := Lib.hid (LB0.out.trans (hb.mono LB0.out.size))
            have X1 := Lib.hid (X1.out.below hb X1.out.lt)
            clear hb LB0 
            obtain ⟨q0, q1, q2, q3, q4, q5, q6⟩ := X1.out.all
            go_wp2_with fail
            clear q0 q1 q2 q3 q4 q5 q6
            with_reducible refine Calls.mono (HFA.out _ LB1.out) ?_
            rintro e w2 ⟨rfl, hb⟩
            have LB2 := Lib.hid (LB1.out.trans (hb.mono LB1.out.size))
            have X1 := Lib.hid (X1.out.below hb X1.out.lt)
            clear hb LB1 
            obtain ⟨q0, q1, q2, q3, q4, q5, q6⟩ := X1.out.all
            go_wp2_with fail
            clear q0 q1 q2 q3 q4 q5 q6
            with_reducible refine Calls.mono (HFB.out _ LB2.out) ?_
            rintro e w3 ⟨rfl, hb⟩
            have LB3 := Lib.hid (LB2.out.trans (hb.mono LB2.out.size))
            have X1 := Lib.hid (X1.out.below hb X1.out.lt)
            clear hb LB2 
            obtain ⟨q0, q1, q2, q3, q4, q5, q6⟩ := X1.out.all
            go_wp2
            go_ret
            exact ⟨rfl, LB3.out⟩
      · have y2 : ((k : Int) != H) = true := by simp [h3]
        rw [pcE_cnt h1 (fun h => h3 h.2)]
        clear hf ha hb1 h1 h2 h3
        have LB0 := Lib.hid (Below.refl w.heap.size w)
        have X1 := IBox.new w W H (.slice A n c)
        have X1 := Lib.hid X1
        have LB0 := Lib.hid (LB0.out.alloc LB0.out.size (.cells #[.int .i64 W, .int .i64 H, .slice A n c] 24))
        go_enter Try.func34, Try.ntmps34
        go_upto_region 1 with (fail)
        generalize w.alloc (.cells #[.int .i64 W, .int .i64 H, .slice A n c] 24) = w0 at *
        obtain ⟨q0, q1, q2, q3, q4, q5, q6⟩ := X1.out.all
        go_wp2_with fail
        clear q0 q1 q2 q3 q4 q5 q6
        with_reducible refine Calls.mono (HC.out _ LB0.out) ?_
        rintro e w1 ⟨rfl, hb⟩
        have LB1 := Lib.hid (LB0.out.trans (hb.mono LB0.out.size))
        have X1 := Lib.hid (X1.out.below hb X1.out.lt)
        clear hb LB0 
        obtain ⟨q0, q1, q2, q3, q4, q5, q6⟩ := X1.out.all
        go_wp2
        go_ret
        exact ⟨rfl, LB1.out⟩
    · have y1 : ((m : Int) != W) = true := by simp [h2]
      rw [pcE_cnt h1 (fun h => h2 h.1)]
      clear hf ha hb1 h1 h2
      have LB0 := Lib.hid (Below.refl w.heap.size w)
      have X1 := IBox.new w W H (.slice A n c)
      have X1 := Lib.hid X1
      have LB0 := Lib.hid (LB0.out.alloc LB0.out.size (.cells #[.int .i64 W, .int .i64 H, .slice A n c] 24))
      go_enter Try.func34, Try.ntmps34
      go_upto_region 1 with (fail)
      generalize w.alloc (.cells #[.int .i64 W, .int .i64 H, .slice A n c] 24) = w0 at *
      obtain ⟨q0, q1, q2, q3, q4, q5, q6⟩ := X1.out.all
      go_wp2_with fail
      clear q0 q1 q2 q3 q4 q5 q6
      with_reducible refine Calls.mono (HC.out _ LB0.out) ?_
      rintro e w1 ⟨rfl, hb⟩
      have LB1 := Lib.hid (LB0.out.trans (hb.mono LB0.out.size))
      have X1 := Lib.hid (X1.out.below hb X1.out.lt)
      clear hb LB0 
      obtain ⟨q0, q1, q2, q3, q4, q5, q6⟩ := X1.out.all
      go_wp2
      go_ret
      exact ⟨rfl, LB1.out⟩
  · rw [h1] at HC
    rw [pcE_bad h1]
    clear hf ha hb1 h1
    have LB0 := Lib.hid (Below.refl w.heap.size w)
    have X1 := IBox.new w W H (.slice A n c)
    have X1 := Lib.hid X1
    have LB0 := Lib.hid (LB0.out.alloc LB0.out.size (.cells #[.int .i64 W, .int .i64 H, .slice A n c] 24))
    go_enter Try.func34, Try.ntmps34
    go_upto_region 1 with (fail)
    generalize w.alloc (.cells #[.int .i64 W, .int .i64 H, .slice A n c] 24) = w0 at *
    obtain ⟨q0, q1, q2, q3, q4, q5, q6⟩ := X1.out.all
    go_wp2_with fail
    clear q0 q1 q2 q3 q4 q5 q6
    with_reducible refine Calls.mono (HC.out _ LB0.out) ?_
    rintro e w1 ⟨rfl, hb⟩
    have LB1 := Lib.hid (LB0.out.trans (hb.mono LB0.out.size))
    have X1 := Lib.hid (X1.out.below hb X1.out.lt)
    clear hb LB0 
    obtain ⟨q0, q1, q2, q3, q4, q5, q6⟩ := X1.out.all
    go_wp2_with fail
    clear q0 q1 q2 q3 q4 q5 q6
    with_reducible refine Calls.mono (HC.out _ LB1.out) ?_
    rintro e w2 ⟨rfl, hb⟩
    have LB2 := Lib.hid (LB1.out.trans (hb.mono LB1.out.size))
    have X1 := Lib.hid (X1.out.below hb X1.out.lt)
    clear hb LB1 
    obtain ⟨q0, q1, q2, q3, q4, q5, q6⟩ := X1.out.all
    go_wp2
    go_ret
    exact ⟨rfl, LB2.out⟩
theorem allF_xy {W H : Nat} {f a b : Nat → Int} (h : ∀ x, x < W → ∀ y, y < H → (f (y * W + x) = a x ∨ f (y * W + x) = b y)) : AllF W (W * H) f a b := fun i hi => by
  by_cases hW : W = 0
  · subst hW; simp at hi
  have h1 := h (i % W) (Nat.mod_lt _ (by omega)) (i / W) (div_bd hi)
  rw [nat_div_mod] at h1
  unfold hE hP
  rcases h1 with h1 | h1 <;> simp [h1]
theorem allF_no {W H x y : Nat} {f a b : Nat → Int} (hx : x < W) (hy : y < H) (h1 : f (y * W + x) ≠ a x) (h2 : f (y * W + x) ≠ b y) : ¬ AllF W (W * H) f a b := fun h => by
  have h3 := h _ (in_grid hx hy)
  unfold hE hP at h3
  rw [(co y hx).1, (co y hx).2] at h3
  simp at h3
  rcases h3 with h3 | h3
  · exact h1 h3.symm
  · exact h2 h3.symm
noncomputable def allB (W M : Nat) (f a b : Nat → Int) : Bool := @decide (AllF W M f a b) (Classical.propDecidable _)
theorem allB_yes {W M : Nat} {f a b : Nat → Int} (h : AllF W M f a b) : allB W M f a b = true := by unfold allB; exact @decide_eq_true _ (Classical.propDecidable _) h
theorem allB_no {W M : Nat} {f a b : Nat → Int} (h : ¬ AllF W M f a b) : allB W M f a b = false := by unfold allB; exact @decide_eq_false _ (Classical.propDecidable _) h
set_option maxHeartbeats 3200000 in
theorem rfits_any (W H : Nat) (A B C : Option Addr) (c d e : Nat) (f a b : Nat → Int) (w : World) (hf : L2.Holds w w.heap.size A (W * H) f) (ha : L2.Holds w w.heap.size B W a) (hb1 : L2.Holds w w.heap.size C H b) (W0 : 1 ≤ W) (W1 : W ≤ 64) (H0 : 1 ≤ H) (H1 : H ≤ 64) :
    Calls Try.prog 39 #[.agg #[.int .i64 (W : Nat), .int .i64 (H : Nat), .slice A (W * H) c], .slice B W d, .slice C H e] w fun e w' => e = .returned (.bool (allB W (W * H) f a b)) ∧ Below w.heap.size w w' := by
  have HAT := Lib.hid (fun u (x y : Nat) (hx : x < W) (hy : y < H) (hb : Below w.heap.size w u) => rat_nat W H A c (x : Nat) (y : Nat) f u ((hf.below hb).more hb.size) W1 H1 x y rfl rfl hx hy)
  have HWA := Lib.hid (fun u (hb : Below w.heap.size w u) => (ha.below hb))
  have HWB := Lib.hid (fun u (hb : Below w.heap.size w u) => (hb1.below hb))
  have HYES := Lib.hid (fun (h : ∀ x, x < W → ∀ y, y < H → (f (y * W + x) = a x ∨ f (y * W + x) = b y)) => allB_yes (allF_xy h))
  have HNO := Lib.hid (fun x y (hx : x < W) (hy : y < H) h1 h2 => allB_no (allF_no (f := f) (a := a) (b := b) hx hy h1 h2))
  clear hf ha hb1
  obtain ⟨bz, hbz⟩ : ∃ z, allB W (W * H) f a b = z := ⟨_, rfl⟩
  rw [hbz] at HYES ⊢
  have HNO : Hid (∀ x y, x < W → y < H → f (y * W + x) ≠ a x → f (y * W + x) ≠ b y → bz = false) := Lib.hid (fun x y hx hy h1 h2 => by rw [← hbz]; exact HNO.out x y hx hy h1 h2)
  clear hbz
  obtain ⟨M, hMe⟩ : ∃ M, W * H = M := ⟨_, rfl⟩
  rw [hMe] at HAT ⊢
  clear hMe
  have LB0 := Lib.hid (Below.refl w.heap.size w)
  have X1 := IBox.new w (W : Nat) (H : Nat) (.slice A M c)
  have X1 := Lib.hid X1
  have LB0 := Lib.hid (LB0.out.alloc LB0.out.size (.cells #[.int .i64 (W : Nat), .int .i64 (H : Nat), .slice A M c] 24))
  go_enter Try.func39, Try.ntmps39
  go_upto_region 1 with (fail)
  generalize w.alloc (.cells #[.int .i64 (W : Nat), .int .i64 (H : Nat), .slice A M c] 24) = w0 at *
  go_wp2
  go_loopw [7] (fun i wr => ∃ x : Nat, x ≤ W ∧ i = .int .i64 (x : Nat) ∧ Hid (∀ x', x' < x → ∀ y, y < H → (f (y * W + x') = a x' ∨ f (y * W + x') = b y)) ∧ Hid (IBox wr w.heap.size (W : Nat) (H : Nat) (.slice A M c)) ∧ Hid (Below w.heap.size w wr)) (fun i _ => W - (intOf i).toNat)
  case atStart => exact ⟨0, Nat.zero_le _, rfl, Lib.hid (fun x h => absurd h (by omega)), X1, LB0⟩
  case round =>
    obtain ⟨x, hx, rfl, HF, HX, HB⟩ := hrel
    clear X1 LB0
    obtain ⟨q0, q1, q2, q3, q4, q5, q6⟩ := HX.out.all
    by_cases hlx : x < W
    · have y1 : (x : Int) < (W : Int) := by omega
      go_wp2
      clear q0 q1 q2 q3 q4 q5 q6
      go_loopw [8] (fun i wr => ∃ y : Nat, y ≤ H ∧ i = .int .i64 (y : Nat) ∧ Hid (∀ y', y' < y → (f (y' * W + x) = a x ∨ f (y' * W + x) = b y')) ∧ Hid (IBox wr w.heap.size (W : Nat) (H : Nat) (.slice A M c)) ∧ Hid (Below w.heap.size w wr)) (fun i _ => H - (intOf i).toNat)
      case atStart => exact ⟨0, Nat.zero_le _, rfl, Lib.hid (fun x h => absurd h (by omega)), HX, HB⟩
      case round =>
        obtain ⟨y, hy, rfl, HF2, HX2, HB2⟩ := hrel
        clear HX HB
        obtain ⟨q0, q1, q2, q3, q4, q5, q6⟩ := HX2.out.all
        by_cases hly : y < H
        · have y2 : (y : Int) < (H : Int) := by omega
          have y3 : (0 : Int) ≤ (x : Int) := by omega
          have y4 : (0 : Int) ≤ (y : Int) := by omega
          have HC := Lib.hid (fun u (hb : Below wr.heap.size wr u) => HAT.out u x y hlx hly (HB2.out.trans (hb.mono HB2.out.size)))
          obtain ⟨ba, oa, ea, la, ca⟩ := HWA.out _ HB2.out (by omega)
          obtain ⟨bb, ob, eb, lb, cb⟩ := HWB.out _ HB2.out (by omega)
          have c1 := ca _ hlx
          have c2 := cb _ hly
          clear ca cb
          have HNN := Lib.hid (HNO.out x y hlx hly)
          have HSTEP := Lib.hid (fun (h : f (y * W + x) = a x ∨ f (y * W + x) = b y) => (show ∀ y', y' < y + 1 → (f (y' * W + x) = a x ∨ f (y' * W + x) = b y') from fun y' hy' => if e : y' = y then by rw [e]; exact h else HF2.out y' (by omega)))
          obtain ⟨fv, hfv⟩ : ∃ z, f (y * W + x) = z := ⟨_, rfl⟩
          obtain ⟨av, hav⟩ : ∃ z, a x = z := ⟨_, rfl⟩
          obtain ⟨bv, hbv⟩ : ∃ z, b y = z := ⟨_, rfl⟩
          rw [hfv, hav, hbv] at HNN
          simp only [hfv, hav, hbv] at HSTEP
          simp only [hfv] at HC
          rw [hav] at c1
          rw [hbv] at c2
          have HV := Lib.hid (And.intro hav hbv)
          clear hfv hav hbv
          subst ea eb
          have D0 := Lib.hid (Below.refl wr.heap.size wr).drew
          have HS := Lib.hid (fun u (h : Below wr.heap.size wr u) => (show u.cell? ⟨w.heap.size, 0, none⟩ = some (.int .i64 (W : Nat)) ∧ u.cell? ⟨w.heap.size, 1, none⟩ = some (.int .i64 (H : Nat)) ∧ u.cell? ⟨w.heap.size, 2, none⟩ = some (.slice A M c) ∧ u.cell? ⟨ba, oa + x, none⟩ = some (.int .i64 av) ∧ u.cell? ⟨bb, ob + y, none⟩ = some (.int .i64 bv) from ⟨(HX2.out.below h HX2.out.lt).c0, (HX2.out.below h HX2.out.lt).c1, (HX2.out.below h HX2.out.lt).c2, (h.cell (p := ⟨ba, oa + x, none⟩) (by show ba < wr.heap.size; have := HB2.out.size; omega)).trans c1, (h.cell (p := ⟨bb, ob + y, none⟩) (by show bb < wr.heap.size; have := HB2.out.size; omega)).trans c2⟩))
          have s1 : ba < wr.heap.size := by have := HB2.out.size; omega
          have s2 : bb < wr.heap.size := by have := HB2.out.size; omega
          by_cases h1 : fv = av
          · have y5 : (fv != av) = false := by simp [h1]
            have HG := Lib.hid (HSTEP.out (.inl h1))
            clear h1
            go_wp2
            obtain ⟨I, Wf, i0, h0f, hbf, hcf⟩ := family wr
            have hne : Nonempty I := ⟨i0⟩
            have C1 := Lib.hid (fun n' => (HC.out (Wf n') (hbf n')).mono fun e w2 h => (⟨h.1, hcf n' _ h.2⟩ : _ ∧ ∃ m, w2 = Wf m))
            have x1 := fun n' => (HS.out (Wf n') (hbf n')).1
            have x2 := fun n' => (HS.out (Wf n') (hbf n')).2.1
            have x3 := fun n' => (HS.out (Wf n') (hbf n')).2.2.1
            have x4 := fun n' => (HS.out (Wf n') (hbf n')).2.2.2.1
            have x5 := fun n' => (HS.out (Wf n') (hbf n')).2.2.2.2
            have BF := Lib.hid hbf
            clear hbf hcf c1 c2 q0 q1 q2 q3 q4 q5 q6
            refine wp_region_fam Wf i0 h0f (by kernel_rfl) (by kernel_rfl) ?_
            clear h0f
            try dsimp only [List.append]
            repeat (go_big_quiet_step (first | exact rfl | (go_at_call 45; with_reducible exact C1.out _)))
            refine wpQuiet_nil ?_
            rintro _ ⟨nq, rfl⟩
            have HBp := Lib.hid (BF.out nq)
            clear x1 x2 x3 x4 x5 C1 BF
            go_wp2
            go_roundw
            case rel => exact ⟨y + 1, by omega, by go_num, Lib.hid (by have h := HG.out; rw [← HV.out.1] at h; exact h), Lib.hid (HX2.out.below HBp.out HX2.out.lt), Lib.hid (HB2.out.trans (HBp.out.mono HB2.out.size))⟩
            case measure => simp [intOf]; omega
          · have y5 : (fv != av) = true := by simp [h1]
            by_cases h2 : fv = bv
            · have y6 : (fv != bv) = false := by simp [h2]
              have HG := Lib.hid (HSTEP.out (.inr h2))
              clear h1 h2
              go_wp2
              go_region_held3 (fun u => u.cell? ⟨w.heap.size, 0, none⟩ = some (.int .i64 (W : Nat)) ∧ u.cell? ⟨w.heap.size, 1, none⟩ = some (.int .i64 (H : Nat)) ∧ u.cell? ⟨w.heap.size, 2, none⟩ = some (.slice A M c) ∧ u.cell? ⟨ba, oa + x, none⟩ = some (.int .i64 av) ∧ u.cell? ⟨bb, ob + y, none⟩ = some (.int .i64 bv))
                (first | with_reducible exact HS.out _ D0.out | with_reducible exact HS.out _ (D0.out.trans (hbp.mono D0.out.size)) | with_reducible exact HS.out _ HBp.out | with_reducible exact HS.out _ HBq.out)
                (first
                  | (go_at_call 45
                     with_reducible refine Calls.mono (HC.out _ D0.out) ?_
                     rintro e up ⟨rfl, hbp⟩
                     have HBp := Lib.hid (D0.out.trans (hbp.mono D0.out.size)))
                  | (go_at_call 45
                     with_reducible refine Calls.mono (HC.out _ HBp.out) ?_
                     rintro e uq ⟨rfl, hbq⟩
                     have HBq := Lib.hid (HBp.out.trans (hbq.mono HBp.out.size))))
              go_wp2
              go_roundw
              case rel => exact ⟨y + 1, by omega, by go_num, Lib.hid (by have h := HG.out; rw [← HV.out.1] at h; exact h), Lib.hid (HX2.out.below HBq.out HX2.out.lt), Lib.hid (HB2.out.trans (HBq.out.mono HB2.out.size))⟩
              case measure => simp [intOf]; omega
            · have y6 : (fv != bv) = true := by simp [h2]
              have HG := Lib.hid (HNN.out h1 h2)
              clear h1 h2
              go_wp2
              go_region_held3 (fun u => u.cell? ⟨w.heap.size, 0, none⟩ = some (.int .i64 (W : Nat)) ∧ u.cell? ⟨w.heap.size, 1, none⟩ = some (.int .i64 (H : Nat)) ∧ u.cell? ⟨w.heap.size, 2, none⟩ = some (.slice A M c) ∧ u.cell? ⟨ba, oa + x, none⟩ = some (.int .i64 av) ∧ u.cell? ⟨bb, ob + y, none⟩ = some (.int .i64 bv))
                (first | with_reducible exact HS.out _ D0.out | with_reducible exact HS.out _ (D0.out.trans (hbp.mono D0.out.size)) | with_reducible exact HS.out _ HBp.out | with_reducible exact HS.out _ HBq.out)
                (first
                  | (go_at_call 45
                     with_reducible refine Calls.mono (HC.out _ D0.out) ?_
                     rintro e up ⟨rfl, hbp⟩
                     have HBp := Lib.hid (D0.out.trans (hbp.mono D0.out.size)))
                  | (go_at_call 45
                     with_reducible refine Calls.mono (HC.out _ HBp.out) ?_
                     rintro e uq ⟨rfl, hbq⟩
                     have HBq := Lib.hid (HBp.out.trans (hbq.mono HBp.out.size))))
              go_wp2
              go_ret
              obtain rfl := HG.out
              exact ⟨rfl, HB2.out.trans (HBq.out.mono HB2.out.size)⟩
        · have e : y = H := by omega
          have HG := Lib.hid (show ∀ x', x' < x + 1 → ∀ y, y < H → (f (y * W + x') = a x' ∨ f (y * W + x') = b y) from fun x' hx' y' hy' => if e2 : x' = x then by rw [e2]; exact HF2.out y' (by omega) else HF.out x' (by omega) y' hy')
          have y2 : ¬ (y : Int) < (H : Int) := by omega
          clear e
          go_wp2
          go_roundw
          case rel => exact ⟨x + 1, by omega, by go_num, HG, HX2, HB2⟩
          case measure => simp [intOf]; omega
    · have e : x = W := by omega
      have HG := Lib.hid (HYES.out (fun x' hx' => HF.out x' (by omega)))
      have y1 : ¬ (x : Int) < (W : Int) := by omega
      clear e
      go_wp2
      go_ret
      obtain rfl := HG.out
      exact ⟨rfl, HB.out⟩
end Go.Proofs.Ytmcdfnhpaneanaa
