/- Off of both sides. -/
import Derived.Test.YtnpgmgaajejhjaaHsr
namespace Go.Proofs.Ytnpgmgaajejhjaa
open Go.RowKit
set_option maxRecDepth 100000
set_option linter.unusedVariables false
set_option linter.unusedSimpArgs false

set_option maxHeartbeats 800000 in
theorem poff_f (W H : Nat) (A : Option Addr) (c : Nat) (g : Nat → Bool) (D : Option Addr) (n d : Nat) (f : Nat → Int) (w : World) (hg : Holds w w.heap.size A (W * H) g) (hW0 : 1 ≤ W) (hW : W ≤ 64) (hH0 : 1 ≤ H) (hH : H ≤ 64) (hn : n ≤ 30000) (hr : L2.Holds w w.heap.size D n f) (hs : setB (W + H) n f = false) :
    Calls Try.prog 43 #[.agg #[.int .i64 (W : Nat), .int .i64 (H : Nat), .slice A (W * H) c], .slice D n d] w (BRet w false 2) := by
  have HK := Lib.hid (fun u => chk_valid A c u hW0 hW hH0 hH)
  have HS := Lib.hid (fun u (h : Below w.heap.size w u) => (show Calls Try.prog 82 #[.agg #[.int .i64 (W : Nat), .int .i64 (H : Nat), .slice A (W * H) c], .slice D n d] u fun e w' => e = .returned (.bool false) ∧ Below u.heap.size u w' from by have z := isset_any W H A (W * H) c D n d f u hW hH hn ((hr.below h).more h.size); rwa [hs] at z))
  have X0 := Lib.hid (Box.new w (W : Nat) (H : Nat) (.slice A (W * H) c))
  have LB0 := Lib.hid (show Below w.heap.size w (w.alloc (.cells #[.int .i64 (W : Nat), .int .i64 (H : Nat), (.slice A (W * H) c)] 24)) from (Below.refl _ _).alloc (Nat.le_refl _) _)
  clear hr hg hs
  generalize W * H = M at *
  go_enter Try.func43, Try.ntmps43
  go_wp2_with fail
  generalize w.alloc (.cells #[.int .i64 (W : Nat), .int .i64 (H : Nat), .slice A M c] 24) = w0 at *
  obtain ⟨q0, q1, q2, q3, q4, q5, q6⟩ := X0.out.all
  go_wp2_with fail
  clear q0 q1 q2 q3 q4 q5 q6
  with_reducible refine Calls.mono (HK.out _) ?_
  rintro e w1 ⟨rfl, hb⟩
  have X1 := Lib.hid (X0.out.below hb X0.out.lt)
  have LB1 := Lib.hid (LB0.out.trans (hb.mono LB0.out.size))
  clear hb X0 LB0
  obtain ⟨q0, q1, q2, q3, q4, q5, q6⟩ := X1.out.all
  go_wp2_with fail
  clear q0 q1 q2 q3 q4 q5 q6
  with_reducible refine Calls.mono (HS.out _ LB1.out) ?_
  rintro e w2 ⟨rfl, hb⟩
  have X2 := Lib.hid (X1.out.below hb X1.out.lt)
  have LB2 := Lib.hid (LB1.out.trans (hb.mono LB1.out.size))
  clear hb X1 LB1
  obtain ⟨q0, q1, q2, q3, q4, q5, q6⟩ := X2.out.all
  go_wp2
  go_ret2
  exact ⟨rfl, LB2.out⟩
set_option maxHeartbeats 800000 in
theorem poff_t (W H : Nat) (A : Option Addr) (c : Nat) (g : Nat → Bool) (D : Option Addr) (n d : Nat) (f : Nat → Int) (w : World) (hg : Holds w w.heap.size A (W * H) g) (hW0 : 1 ≤ W) (hW : W ≤ 64) (hH0 : 1 ≤ H) (hH : H ≤ 64) (hn : n ≤ 30000) (hr : L2.Holds w w.heap.size D n f) (hs : setB (W + H) n f = true) :
    Calls Try.prog 43 #[.agg #[.int .i64 (W : Nat), .int .i64 (H : Nat), .slice A (W * H) c], .slice D n d] w (BRet w (offB (ov W g) (W + H) n f) 0) := by
  have HK := Lib.hid (fun u => chk_valid A c u hW0 hW hH0 hH)
  have HS := Lib.hid (fun u (h : Below w.heap.size w u) => (show Calls Try.prog 82 #[.agg #[.int .i64 (W : Nat), .int .i64 (H : Nat), .slice A (W * H) c], .slice D n d] u fun e w' => e = .returned (.bool true) ∧ Below u.heap.size u w' from by have z := isset_any W H A (W * H) c D n d f u hW hH hn ((hr.below h).more h.size); rwa [hs] at z))
  have HC := Lib.hid (fun u (h : Below w.heap.size w u) => comes_any W H A c g D n d f u ((hg.below h).more h.size) hW0 hW hH0 hH hn ((hr.below h).more h.size) hs)
  have X0 := Lib.hid (Box.new w (W : Nat) (H : Nat) (.slice A (W * H) c))
  have LB0 := Lib.hid (show Below w.heap.size w (w.alloc (.cells #[.int .i64 (W : Nat), .int .i64 (H : Nat), (.slice A (W * H) c)] 24)) from (Below.refl _ _).alloc (Nat.le_refl _) _)
  clear hr hg hs
  generalize W * H = M at *
  go_enter Try.func43, Try.ntmps43
  go_wp2_with fail
  generalize w.alloc (.cells #[.int .i64 (W : Nat), .int .i64 (H : Nat), .slice A M c] 24) = w0 at *
  obtain ⟨q0, q1, q2, q3, q4, q5, q6⟩ := X0.out.all
  go_wp2_with fail
  clear q0 q1 q2 q3 q4 q5 q6
  with_reducible refine Calls.mono (HK.out _) ?_
  rintro e w1 ⟨rfl, hb⟩
  have X1 := Lib.hid (X0.out.below hb X0.out.lt)
  have LB1 := Lib.hid (LB0.out.trans (hb.mono LB0.out.size))
  clear hb X0 LB0
  obtain ⟨q0, q1, q2, q3, q4, q5, q6⟩ := X1.out.all
  go_wp2_with fail
  clear q0 q1 q2 q3 q4 q5 q6
  with_reducible refine Calls.mono (HS.out _ LB1.out) ?_
  rintro e w2 ⟨rfl, hb⟩
  have X2 := Lib.hid (X1.out.below hb X1.out.lt)
  have LB2 := Lib.hid (LB1.out.trans (hb.mono LB1.out.size))
  clear hb X1 LB1
  obtain ⟨q0, q1, q2, q3, q4, q5, q6⟩ := X2.out.all
  go_wp2_with fail
  clear q0 q1 q2 q3 q4 q5 q6
  with_reducible refine Calls.mono (HC.out _ LB2.out) ?_
  rintro e w3 ⟨rfl, hb⟩
  have X3 := Lib.hid (X2.out.below hb X2.out.lt)
  have LB3 := Lib.hid (LB2.out.trans (hb.mono LB2.out.size))
  clear hb X2 LB2
  obtain ⟨q0, q1, q2, q3, q4, q5, q6⟩ := X3.out.all
  go_wp2
  go_ret2
  exact ⟨rfl, LB3.out⟩
theorem poff_err {W H : Int} {A : Option Addr} {N c : Nat} (D : Option Addr) (n d : Nat) (z : Int) (hN : N ≤ 4200) (hz : chk W H N = z) (hne : (z != 0) = true) (w : World) :
    Calls Try.prog 43 #[.agg #[.int .i64 W, .int .i64 H, .slice A N c], .slice D n d] w (BRet w false z) := by
  have HK := Lib.hid (fun u => (show Calls Try.prog 64 #[.agg #[.int .i64 W, .int .i64 H, .slice A N c]] u fun e w' => e = .returned (.int .i64 z) ∧ Below u.heap.size u w' from by have h := chk_any W H A N c u hN; rwa [hz] at h))
  have LB0 := Lib.hid (show Below w.heap.size w (w.alloc (.cells #[.int .i64 W, .int .i64 H, (.slice A N c)] 24)) from (Below.refl _ _).alloc (Nat.le_refl _) _)
  clear hz
  go_enter Try.func43, Try.ntmps43
  go_wp2_with fail
  with_reducible refine Calls.mono (HK.out _) ?_
  rintro e w1 ⟨rfl, hb⟩
  have LB1 := Lib.hid (LB0.out.trans (hb.mono LB0.out.size))
  clear hb LB0
  go_wp2
  go_ret2
  exact ⟨rfl, LB1.out⟩
theorem roff_err {W H : Int} {A : Option Addr} {N c : Nat} (D : Option Addr) (n d : Nat) (z : Int) (hN : N ≤ 4200) (hz : chk W H N = z) (hne : (z != 0) = true) (w : World) :
    Calls Try.prog 51 #[.agg #[.int .i64 W, .int .i64 H, .slice A N c], .slice D n d] w (BRet w false z) := by
  have HK := Lib.hid (fun u => rchk_err (A := A) (c := c) hN hz u)
  have X0 := Lib.hid (Box.new w W H (.slice A N c))
  have LB0 := Lib.hid (show Below w.heap.size w (w.alloc (.cells #[.int .i64 W, .int .i64 H, (.slice A N c)] 24)) from (Below.refl _ _).alloc (Nat.le_refl _) _)
  clear hz
  go_enter Try.func51, Try.ntmps51
  go_wp2_with fail
  generalize w.alloc (.cells #[.int .i64 W, .int .i64 H, .slice A N c] 24) = w0 at *
  obtain ⟨q0, q1, q2, q3, q4, q5, q6⟩ := X0.out.all
  go_wp2_with fail
  clear q0 q1 q2 q3 q4 q5 q6
  with_reducible refine Calls.mono (HK.out _) ?_
  rintro e w1 ⟨rfl, hb⟩
  have X1 := Lib.hid (X0.out.below hb X0.out.lt)
  have LB1 := Lib.hid (LB0.out.trans (hb.mono LB0.out.size))
  clear hb X0 LB0
  obtain ⟨q0, q1, q2, q3, q4, q5, q6⟩ := X1.out.all
  go_wp2_with fail
  clear q0 q1 q2 q3 q4 q5 q6
  with_reducible refine Calls.mono (HK.out _) ?_
  rintro e w2 ⟨rfl, hb⟩
  have X2 := Lib.hid (X1.out.below hb X1.out.lt)
  have LB2 := Lib.hid (LB1.out.trans (hb.mono LB1.out.size))
  clear hb X1 LB1
  obtain ⟨q0, q1, q2, q3, q4, q5, q6⟩ := X2.out.all
  clear q0 q1 q2 q3 q4 q5 q6
  go_wp2
  go_ret2
  exact ⟨rfl, LB2.out⟩
/-- So far no thread outside lies over one inside. -/
def noO (R : Nat → Nat → Bool) (N n : Nat) (f : Nat → Int) (k j : Nat) : Prop := ∀ a b, (a < k ∨ a = k ∧ b < j) → b < N → mem n f a = false → mem n f b = true → R a b = false
theorem noO_step {R : Nat → Nat → Bool} {N n k j : Nat} {f : Nat → Int} (h : noO R N n f k j) (hj : mem n f k = false → mem n f j = true → R k j = false) : noO R N n f k (j + 1) := by
  intro a b hab hb h1 h2
  by_cases e : a = k ∧ b = j
  · obtain ⟨rfl, rfl⟩ := e
    exact hj h1 h2
  · exact h a b (by omega) hb h1 h2
theorem noO_next {R : Nat → Nat → Bool} {N n k : Nat} {f : Nat → Int} (h : noO R N n f k N) : noO R N n f (k + 1) 0 := fun a b hab hb h1 h2 => h a b (by omega) hb h1 h2
theorem noO_yes {R : Nat → Nat → Bool} {N n : Nat} {f : Nat → Int} (h0 : 0 < n) (h1 : n < N) (hs : setB N n f = true) (h : noO R N n f N 0) : offB R N n f = true := by
  refine offB_iff.2 ⟨h0, h1, fun a ha hm i hi => ?_⟩
  obtain ⟨b, hb, e⟩ := setB_at hs hi
  rw [e, Int.toNat_natCast]
  exact h a b (.inl ha) hb hm (mem_iff.2 ⟨i, hi, e⟩)
theorem noO_no {R : Nat → Nat → Bool} {N n a b : Nat} {f : Nat → Int} (ha : a < N) (h1 : mem n f a = false) (h2 : mem n f b = true) (h3 : R a b = true) : offB R N n f = false := by
  cases h : offB R N n f
  · rfl
  · obtain ⟨i, hi, e⟩ := mem_iff.1 h2
    have := (offB_iff.1 h).2.2 a ha h1 i hi
    rw [e, Int.toNat_natCast, h3] at this
    cases this
theorem off_few {R : Nat → Nat → Bool} {N n : Nat} {f : Nat → Int} (h : ¬ (0 < n ∧ n < N)) : offB R N n f = false := by
  cases ho : offB R N n f
  · rfl
  · obtain ⟨a, b, _⟩ := offB_iff.1 ho
    exact absurd ⟨a, b⟩ h
set_option maxHeartbeats 800000 in
theorem roff_f (W H : Nat) (A : Option Addr) (c : Nat) (g : Nat → Bool) (D : Option Addr) (n d : Nat) (f : Nat → Int) (w : World) (hg : Holds w w.heap.size A (W * H) g) (hW0 : 1 ≤ W) (hW : W ≤ 64) (hH0 : 1 ≤ H) (hH : H ≤ 64) (hn : n ≤ 30000) (hr : L2.Holds w w.heap.size D n f) (hs : setB (W + H) n f = false) :
    Calls Try.prog 51 #[.agg #[.int .i64 (W : Nat), .int .i64 (H : Nat), .slice A (W * H) c], .slice D n d] w (BRet w false 2) := by
  have HK := Lib.hid (fun u => rchk_valid A c u hW0 hW hH0 hH)
  have HS := Lib.hid (fun u (h : Below w.heap.size w u) => (show Calls Try.prog 58 #[.agg #[.int .i64 (W : Nat), .int .i64 (H : Nat), .slice A (W * H) c], .slice D n d] u fun e w' => e = .returned (.bool false) ∧ Below u.heap.size u w' from by have z := rset_any W H A (W * H) c D n d f u hW hH hn ((hr.below h).more h.size); rwa [hs] at z))
  have X0 := Lib.hid (Box.new w (W : Nat) (H : Nat) (.slice A (W * H) c))
  have LB0 := Lib.hid (show Below w.heap.size w (w.alloc (.cells #[.int .i64 (W : Nat), .int .i64 (H : Nat), (.slice A (W * H) c)] 24)) from (Below.refl _ _).alloc (Nat.le_refl _) _)
  clear hr hg hs
  generalize W * H = M at *
  go_enter Try.func51, Try.ntmps51
  go_wp2_with fail
  generalize w.alloc (.cells #[.int .i64 (W : Nat), .int .i64 (H : Nat), .slice A M c] 24) = w0 at *
  obtain ⟨q0, q1, q2, q3, q4, q5, q6⟩ := X0.out.all
  go_wp2_with fail
  clear q0 q1 q2 q3 q4 q5 q6
  with_reducible refine Calls.mono (HK.out _) ?_
  rintro e w1 ⟨rfl, hb⟩
  have X1 := Lib.hid (X0.out.below hb X0.out.lt)
  have LB1 := Lib.hid (LB0.out.trans (hb.mono LB0.out.size))
  clear hb X0 LB0
  obtain ⟨q0, q1, q2, q3, q4, q5, q6⟩ := X1.out.all
  go_wp2_with fail
  clear q0 q1 q2 q3 q4 q5 q6
  with_reducible refine Calls.mono (HS.out _ LB1.out) ?_
  rintro e w2 ⟨rfl, hb⟩
  have X2 := Lib.hid (X1.out.below hb X1.out.lt)
  have LB2 := Lib.hid (LB1.out.trans (hb.mono LB1.out.size))
  clear hb X1 LB1
  obtain ⟨q0, q1, q2, q3, q4, q5, q6⟩ := X2.out.all
  go_wp2
  go_ret2
  exact ⟨rfl, LB2.out⟩
set_option maxHeartbeats 1600000 in
theorem roff_t (W H : Nat) (A : Option Addr) (c : Nat) (g : Nat → Bool) (D : Option Addr) (n d : Nat) (f : Nat → Int) (w : World) (hg : Holds w w.heap.size A (W * H) g) (hW0 : 1 ≤ W) (hW : W ≤ 64) (hH0 : 1 ≤ H) (hH : H ≤ 64) (hn : n ≤ 30000) (hr : L2.Holds w w.heap.size D n f) (hs : setB (W + H) n f = true) :
    Calls Try.prog 51 #[.agg #[.int .i64 (W : Nat), .int .i64 (H : Nat), .slice A (W * H) c], .slice D n d] w (BRet w (offB (ov W g) (W + H) n f) 0) := by
  have HK := Lib.hid (fun u => rchk_valid A c u hW0 hW hH0 hH)
  have HT := Lib.hid (fun u => rthr_any W H A (W * H) c u hW hH)
  have HS := Lib.hid (fun u (h : Below w.heap.size w u) => (show Calls Try.prog 58 #[.agg #[.int .i64 (W : Nat), .int .i64 (H : Nat), .slice A (W * H) c], .slice D n d] u fun e w' => e = .returned (.bool true) ∧ Below u.heap.size u w' from by have z := rset_any W H A (W * H) c D n d f u hW hH hn ((hr.below h).more h.size); rwa [hs] at z))
  have HM := Lib.hid (fun u (h : Below w.heap.size w u) hs => marks_any W H A (W * H) c D n d f u hW hH hn ((hr.below h).more h.size) hs)
  have HA := Lib.hid (fun u (h : Below w.heap.size w u) a b ha hb => above_any W H A c g a b u ((hg.below h).more h.size) hW hH ha hb)
  have HS2 := Lib.hid hs
  have hle := setB_len hs
  have hsm : ∀ i, i < n → 0 ≤ f i ∧ f i < ((W + H : Nat) : Int) := by
    have hs2 := hs
    unfold setB at hs2
    rw [decide_eq_true_iff] at hs2
    exact fun i hi => (hs2 i hi).1
  have HSM := Lib.hid hsm
  clear hsm
  have X0 := Lib.hid (Box.new w (W : Nat) (H : Nat) (.slice A (W * H) c))
  have LB0 := Lib.hid (show Below w.heap.size w (w.alloc (.cells #[.int .i64 (W : Nat), .int .i64 (H : Nat), (.slice A (W * H) c)] 24)) from (Below.refl _ _).alloc (Nat.le_refl _) _)
  clear hr hg hs
  generalize W * H = M at *
  go_enter Try.func51, Try.ntmps51
  go_wp2_with fail
  generalize w.alloc (.cells #[.int .i64 (W : Nat), .int .i64 (H : Nat), .slice A M c] 24) = w0 at *
  obtain ⟨q0, q1, q2, q3, q4, q5, q6⟩ := X0.out.all
  go_wp2_with fail
  clear q0 q1 q2 q3 q4 q5 q6
  with_reducible refine Calls.mono (HK.out _) ?_
  rintro e w1 ⟨rfl, hb⟩
  have X1 := Lib.hid (X0.out.below hb X0.out.lt)
  have LB1 := Lib.hid (LB0.out.trans (hb.mono LB0.out.size))
  clear hb X0 LB0
  obtain ⟨q0, q1, q2, q3, q4, q5, q6⟩ := X1.out.all
  go_wp2_with fail
  clear q0 q1 q2 q3 q4 q5 q6
  with_reducible refine Calls.mono (HS.out _ LB1.out) ?_
  rintro e w2 ⟨rfl, hb⟩
  have X2 := Lib.hid (X1.out.below hb X1.out.lt)
  have LB2 := Lib.hid (LB1.out.trans (hb.mono LB1.out.size))
  clear hb X1 LB1
  obtain ⟨q0, q1, q2, q3, q4, q5, q6⟩ := X2.out.all
  by_cases h0 : n = 0
  · have E := Lib.hid (off_few (R := ov W g) (N := W + H) (f := f) (show ¬ (0 < n ∧ n < W + H) by omega))
    have z0 : ((n : Int) == 0) = true := by simp; omega
    clear h0
    go_wp2
    go_ret2
    exact ⟨by rw [E.out]; rfl, LB2.out⟩
  have z0 : ((n : Int) == 0) = false := by rw [beq_eq_false_iff_ne]; omega
  go_wp2_with fail
  clear q0 q1 q2 q3 q4 q5 q6
  with_reducible refine Calls.mono (HT.out _) ?_
  rintro e w3 ⟨rfl, hb⟩
  have X3 := Lib.hid (X2.out.below hb X2.out.lt)
  have LB3 := Lib.hid (LB2.out.trans (hb.mono LB2.out.size))
  clear hb X2 LB2
  obtain ⟨q0, q1, q2, q3, q4, q5, q6⟩ := X3.out.all
  by_cases h1 : n = W + H
  · have E := Lib.hid (off_few (R := ov W g) (N := W + H) (f := f) (show ¬ (0 < n ∧ n < W + H) by omega))
    have z1 : ((n : Int) == ((W + H : Nat) : Int)) = true := by rw [beq_iff_eq]; omega
    have z2 : ((n : Int) == (W : Int) + (H : Int)) = true := by rw [beq_iff_eq]; omega
    clear h1 h0
    go_wp2
    go_ret2
    exact ⟨by rw [E.out]; rfl, LB3.out⟩
  have z1 : ((n : Int) == ((W + H : Nat) : Int)) = false := by rw [beq_eq_false_iff_ne]; omega
  have z2 : ((n : Int) == (W : Int) + (H : Int)) = false := by rw [beq_eq_false_iff_ne]; omega
  have h0' : 0 < n := by omega
  have h1' : n < W + H := by omega
  have hN : W + H ≤ 128 := by omega
  clear h0 h1
  go_wp2_with fail
  clear q0 q1 q2 q3 q4 q5 q6
  with_reducible refine Calls.mono (HM.out _ LB3.out HSM.out) ?_
  rintro e w4 ⟨kr, rfl, hkr, hrow, hb⟩
  have X4 := Lib.hid (X3.out.below hb X3.out.lt)
  have LB4 := Lib.hid (LB3.out.trans (hb.mono LB3.out.size))
  have RW := Lib.hid hrow
  clear hb X3 LB3 hrow
  generalize hNN : W + H = N at *
  have HN := Lib.hid hNN
  clear hNN
  go_wp2
  go_loopw [7] (fun i wr => ∃ k : Nat, k ≤ N ∧ i = .int .i64 k ∧ Hid (noO (ov W g) N n f k 0) ∧ Hid (Row wr kr N (mem n f)) ∧ Hid (Box wr w.heap.size (W : Nat) (H : Nat) (.slice A M c)) ∧ Hid (Below w.heap.size w wr)) (fun i _ => N - (intOf i).toNat)
  case atStart => exact ⟨0, Nat.zero_le _, rfl, Lib.hid (fun a b hab _ _ _ => by omega), RW, X4, LB4⟩
  case round =>
    obtain ⟨k, hk, rfl, HO, HW, HX, HL⟩ := hrel
    clear RW X4 LB4
    obtain ⟨wo, rfl⟩ : ∃ wo : World, wo = wr := ⟨_, rfl⟩
    by_cases hlt : k < N
    · have y1 : (k : Int) < (N : Int) := by omega
      go_wp2
      go_loopw [8] (fun i wr => ∃ j : Nat, j ≤ N ∧ i = .int .i64 j ∧ Hid (noO (ov W g) N n f k j) ∧ Hid (Row wr kr N (mem n f)) ∧ Hid (Box wr w.heap.size (W : Nat) (H : Nat) (.slice A M c)) ∧ Hid (Below w.heap.size w wr)) (fun i _ => N - (intOf i).toNat)
      case atStart => exact ⟨0, Nat.zero_le _, rfl, HO, HW, HX, HL⟩
      case round =>
        obtain ⟨j, hj, rfl, HO2, HW2, HX2, HL2⟩ := hrel
        clear HO HW HX HL
        by_cases hltj : j < N
        · have y2 : (j : Int) < (N : Int) := by omega
          have y3 : (0 : Int) ≤ (j : Int) := by omega
          have y4 : (0 : Int) ≤ (k : Int) := by omega
          have c1 := HW2.out.cell hlt
          have c2 := HW2.out.cell hltj
          obtain ⟨bk, hbk⟩ : ∃ b, mem n f k = b := ⟨_, rfl⟩
          obtain ⟨bj, hbj⟩ : ∃ b, mem n f j = b := ⟨_, rfl⟩
          rw [hbk] at c1
          rw [hbj] at c2
          have HBK := Lib.hid hbk
          have HBJ := Lib.hid hbj
          clear hbk hbj
          cases bk
          · cases bj
            · have E := Lib.hid (noO_step HO2.out fun _ h => by rw [HBJ.out] at h; cases h)
              go_wp2
              go_roundw
              case rel => exact ⟨j + 1, by omega, by go_num, E, HW2, HX2, HL2⟩
              case measure => simp [intOf]; omega
            · have HAk := Lib.hid (HA.out wr HL2.out k j hlt hltj)
              obtain ⟨q0, q1, q2, q3, q4, q5, q6⟩ := HX2.out.all
              obtain ⟨bo, hbo⟩ : ∃ b, ov W g k j = b := ⟨_, rfl⟩
              rw [hbo] at HAk
              have HBO := Lib.hid hbo
              clear hbo
              go_wp2_with fail
              clear q0 q1 q2 q3 q4 q5 q6 c1 c2
              with_reducible refine Calls.mono HAk.out ?_
              rintro e w5 ⟨rfl, hb⟩
              have HW3 := Lib.hid (HW2.out.below hb HW2.out.lt)
              have HX3 := Lib.hid (HX2.out.below hb HX2.out.lt)
              have HL3 := Lib.hid (HL2.out.trans (hb.mono HL2.out.size))
              clear hb HW2 HX2 HL2 HAk
              cases bo
              · have E := Lib.hid (noO_step HO2.out fun _ _ => HBO.out)
                go_wp2
                go_roundw
                case rel => exact ⟨j + 1, by omega, by go_num, E, HW3, HX3, HL3⟩
                case measure => simp [intOf]; omega
              · have E := Lib.hid (noO_no (R := ov W g) hlt HBK.out HBJ.out HBO.out)
                go_wp2
                go_ret2
                exact ⟨by rw [E.out]; rfl, HL3.out⟩
          · have E := Lib.hid (noO_step HO2.out fun h _ => by rw [HBK.out] at h; cases h)
            go_wp2
            go_roundw
            case rel => exact ⟨j + 1, by omega, by go_num, E, HW2, HX2, HL2⟩
            case measure => simp [intOf]; omega
        · have e : j = N := by omega
          subst e
          have E := Lib.hid (noO_next HO2.out)
          go_wp2
          go_roundw
          case rel => exact ⟨k + 1, by omega, by go_num, E, HW2, HX2, HL2⟩
          case measure => simp [intOf]; omega
    · have e : k = N := by omega
      subst e
      have E := Lib.hid (noO_yes h0' h1' HS2.out HO.out)
      go_wp2
      go_ret2
      exact ⟨by rw [E.out]; rfl, HL.out⟩
/-- Off of both sides. -/
theorem off_two (W H : Int) (A : Option Addr) (N c : Nat) (g : Nat → Bool) (D : Option Addr) (n d : Nat) (f : Nat → Int) (w : World) (hg : Holds w w.heap.size A N g) (hN : N ≤ 4200) (hn : n ≤ 30000) (hr : L2.Holds w w.heap.size D n f) :
    ∃ (b : Bool) (z : Int), (z = 0 ∨ b = false) ∧ ∀ u, Below w.heap.size w u → Calls Try.prog 43 #[.agg #[.int .i64 W, .int .i64 H, .slice A N c], .slice D n d] u (BRet u b z) ∧ Calls Try.prog 51 #[.agg #[.int .i64 W, .int .i64 H, .slice A N c], .slice D n d] u (BRet u b z) := by
  by_cases hz : chk W H N = 0
  · obtain ⟨a1, a2, a3, a4, a5⟩ := chk_ok hz
    obtain ⟨x, rfl⟩ := Int.eq_ofNat_of_zero_le (show 0 ≤ W by omega)
    obtain ⟨y, rfl⟩ := Int.eq_ofNat_of_zero_le (show 0 ≤ H by omega)
    try simp only [Int.ofNat_eq_natCast] at *
    obtain rfl : N = x * y := by rw [← Int.natCast_mul] at a5; omega
    cases hs : setB (x + y) n f
    · exact ⟨false, 2, .inr rfl, fun u hu => ⟨poff_f x y A c g D n d f u ((hg.below hu).more hu.size) (by omega) (by omega) (by omega) (by omega) hn ((hr.below hu).more hu.size) hs, roff_f x y A c g D n d f u ((hg.below hu).more hu.size) (by omega) (by omega) (by omega) (by omega) hn ((hr.below hu).more hu.size) hs⟩⟩
    · exact ⟨_, 0, .inl rfl, fun u hu => ⟨poff_t x y A c g D n d f u ((hg.below hu).more hu.size) (by omega) (by omega) (by omega) (by omega) hn ((hr.below hu).more hu.size) hs, roff_t x y A c g D n d f u ((hg.below hu).more hu.size) (by omega) (by omega) (by omega) (by omega) hn ((hr.below hu).more hu.size) hs⟩⟩
  · have hne : (chk W H N != 0) = true := by simpa using hz
    exact ⟨false, chk W H N, .inr rfl, fun u _ => ⟨poff_err D n d _ hN rfl hne u, roff_err D n d _ hN rfl hne u⟩⟩
end Go.Proofs.Ytnpgmgaajejhjaa
