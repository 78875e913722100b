/- Merged: Hsr Hoo. -/
import Derived.Test.YtgmcbdnfgdmmaaaHso

/- Set, Marks and Off of the reference; Off of the program. -/
namespace Go.Proofs.Ytgmcbdnfgdmmaaa
open Go.RowKit
set_option maxRecDepth 100000
set_option linter.unusedVariables false
set_option linter.unusedSimpArgs false

theorem mkb_run (N : Nat) (hN : N ≤ 4096) (w : World) :
    (Instr.makeSlice 22 (.int .i64 (N : Nat)) (.int .i64 (N : Nat))).run Try.prog w = .ok (.slice (some ⟨w.heap.size, 0, none⟩) N N) (w.alloc (.cells (madeCells #[.bool false] N) 4)) :=
  run_make_row' (P := Try.prog) 22 4 (.bool false) 1 Try.underlying22 Try.info4 rfl .i64 .i64 N (by omega) (by omega) w
end Go.Proofs.Ytgmcbdnfgdmmaaa

/- Off of both sides. -/
namespace Go.Proofs.Ytgmcbdnfgdmmaaa
open Go.RowKit
set_option maxRecDepth 100000
set_option linter.unusedVariables false
set_option linter.unusedSimpArgs false

set_option maxHeartbeats 800000 in
theorem poff_f (W H : Nat) (A : Option Addr) (c : Nat) (g : Nat → Bool) (D : Option Addr) (n d : Nat) (f : Nat → Int) (w : World) (hg : Holds w w.heap.size A (W * H) g) (hW0 : 1 ≤ W) (hW : W ≤ 64) (hH0 : 1 ≤ H) (hH : H ≤ 64) (hn : n ≤ 30000) (hr : L2.Holds w w.heap.size D n f) (hs : setB (W + H) n f = false) :
    Calls Try.prog 40 #[.agg #[.int .i64 (W : Nat), .int .i64 (H : Nat), .slice A (W * H) c], .slice D n d] w (BRet w false 2) := by
  have HK := Lib.hid (fun u => chk_valid A c u hW0 hW hH0 hH)
  have HS := Lib.hid (fun u (h : Below w.heap.size w u) => (show Calls Try.prog 85 #[.agg #[.int .i64 (W : Nat), .int .i64 (H : Nat), .slice A (W * H) c], .slice D n d] u fun e w' => e = .returned (.bool false) ∧ Below u.heap.size u w' from by have z := isset_any W H A (W * H) c D n d f u hW hH hn ((hr.below h).more h.size); rwa [hs] at z))
  have X0 := Lib.hid (Box.new w (W : Nat) (H : Nat) (.slice A (W * H) c))
  have LB0 := Lib.hid (show Below w.heap.size w (w.alloc (.cells #[.int .i64 (W : Nat), .int .i64 (H : Nat), (.slice A (W * H) c)] 24)) from (Below.refl _ _).alloc (Nat.le_refl _) _)
  clear hr hg hs
  generalize W * H = M at *
  go_enter Try.func40, Try.ntmps40
  go_wp2_with fail
  generalize w.alloc (.cells #[.int .i64 (W : Nat), .int .i64 (H : Nat), .slice A M c] 24) = w0 at *
  obtain ⟨q0, q1, q2, q3, q4, q5, q6⟩ := X0.out.all
  go_wp2_with fail
  clear q0 q1 q2 q3 q4 q5 q6
  with_reducible refine Calls.mono (HK.out _) ?_
  rintro e w1 ⟨rfl, hb⟩
  have X1 := Lib.hid (X0.out.below hb X0.out.lt)
  have LB1 := Lib.hid (LB0.out.trans (hb.mono LB0.out.size))
  clear hb X0 LB0
  obtain ⟨q0, q1, q2, q3, q4, q5, q6⟩ := X1.out.all
  go_wp2_with fail
  clear q0 q1 q2 q3 q4 q5 q6
  with_reducible refine Calls.mono (HS.out _ LB1.out) ?_
  rintro e w2 ⟨rfl, hb⟩
  have X2 := Lib.hid (X1.out.below hb X1.out.lt)
  have LB2 := Lib.hid (LB1.out.trans (hb.mono LB1.out.size))
  clear hb X1 LB1
  obtain ⟨q0, q1, q2, q3, q4, q5, q6⟩ := X2.out.all
  go_wp2
  go_ret2
  exact ⟨rfl, LB2.out⟩
set_option maxHeartbeats 800000 in
theorem poff_t (W H : Nat) (A : Option Addr) (c : Nat) (g : Nat → Bool) (D : Option Addr) (n d : Nat) (f : Nat → Int) (w : World) (hg : Holds w w.heap.size A (W * H) g) (hW0 : 1 ≤ W) (hW : W ≤ 64) (hH0 : 1 ≤ H) (hH : H ≤ 64) (hn : n ≤ 30000) (hr : L2.Holds w w.heap.size D n f) (hs : setB (W + H) n f = true) :
    Calls Try.prog 40 #[.agg #[.int .i64 (W : Nat), .int .i64 (H : Nat), .slice A (W * H) c], .slice D n d] w (BRet w (offB (ov W g) (W + H) n f) 0) := by
  have HK := Lib.hid (fun u => chk_valid A c u hW0 hW hH0 hH)
  have HS := Lib.hid (fun u (h : Below w.heap.size w u) => (show Calls Try.prog 85 #[.agg #[.int .i64 (W : Nat), .int .i64 (H : Nat), .slice A (W * H) c], .slice D n d] u fun e w' => e = .returned (.bool true) ∧ Below u.heap.size u w' from by have z := isset_any W H A (W * H) c D n d f u hW hH hn ((hr.below h).more h.size); rwa [hs] at z))
  have HC := Lib.hid (fun u (h : Below w.heap.size w u) => comes_any W H A c g D n d f u ((hg.below h).more h.size) hW0 hW hH0 hH hn ((hr.below h).more h.size) hs)
  have X0 := Lib.hid (Box.new w (W : Nat) (H : Nat) (.slice A (W * H) c))
  have LB0 := Lib.hid (show Below w.heap.size w (w.alloc (.cells #[.int .i64 (W : Nat), .int .i64 (H : Nat), (.slice A (W * H) c)] 24)) from (Below.refl _ _).alloc (Nat.le_refl _) _)
  clear hr hg hs
  generalize W * H = M at *
  go_enter Try.func40, Try.ntmps40
  go_wp2_with fail
  generalize w.alloc (.cells #[.int .i64 (W : Nat), .int .i64 (H : Nat), .slice A M c] 24) = w0 at *
  obtain ⟨q0, q1, q2, q3, q4, q5, q6⟩ := X0.out.all
  go_wp2_with fail
  clear q0 q1 q2 q3 q4 q5 q6
  with_reducible refine Calls.mono (HK.out _) ?_
  rintro e w1 ⟨rfl, hb⟩
  have X1 := Lib.hid (X0.out.below hb X0.out.lt)
  have LB1 := Lib.hid (LB0.out.trans (hb.mono LB0.out.size))
  clear hb X0 LB0
  obtain ⟨q0, q1, q2, q3, q4, q5, q6⟩ := X1.out.all
  go_wp2_with fail
  clear q0 q1 q2 q3 q4 q5 q6
  with_reducible refine Calls.mono (HS.out _ LB1.out) ?_
  rintro e w2 ⟨rfl, hb⟩
  have X2 := Lib.hid (X1.out.below hb X1.out.lt)
  have LB2 := Lib.hid (LB1.out.trans (hb.mono LB1.out.size))
  clear hb X1 LB1
  obtain ⟨q0, q1, q2, q3, q4, q5, q6⟩ := X2.out.all
  go_wp2_with fail
  clear q0 q1 q2 q3 q4 q5 q6
  with_reducible refine Calls.mono (HC.out _ LB2.out) ?_
  rintro e w3 ⟨rfl, hb⟩
  have X3 := Lib.hid (X2.out.below hb X2.out.lt)
  have LB3 := Lib.hid (LB2.out.trans (hb.mono LB2.out.size))
  clear hb X2 LB2
  obtain ⟨q0, q1, q2, q3, q4, q5, q6⟩ := X3.out.all
  go_wp2
  go_ret2
  exact ⟨rfl, LB3.out⟩
theorem poff_err {W H : Int} {A : Option Addr} {N c : Nat} (D : Option Addr) (n d : Nat) (z : Int) (hN : N ≤ 4200) (hz : chk W H N = z) (hne : (z != 0) = true) (w : World) :
    Calls Try.prog 40 #[.agg #[.int .i64 W, .int .i64 H, .slice A N c], .slice D n d] w (BRet w false z) := by
  have HK := Lib.hid (fun u => (show Calls Try.prog 69 #[.agg #[.int .i64 W, .int .i64 H, .slice A N c]] u fun e w' => e = .returned (.int .i64 z) ∧ Below u.heap.size u w' from by have h := chk_any W H A N c u hN; rwa [hz] at h))
  have LB0 := Lib.hid (show Below w.heap.size w (w.alloc (.cells #[.int .i64 W, .int .i64 H, (.slice A N c)] 24)) from (Below.refl _ _).alloc (Nat.le_refl _) _)
  clear hz
  go_enter Try.func40, Try.ntmps40
  go_wp2_with fail
  with_reducible refine Calls.mono (HK.out _) ?_
  rintro e w1 ⟨rfl, hb⟩
  have LB1 := Lib.hid (LB0.out.trans (hb.mono LB0.out.size))
  clear hb LB0
  go_wp2
  go_ret2
  exact ⟨rfl, LB1.out⟩
/-- So far no thread outside lies over one inside. -/
def noO (R : Nat → Nat → Bool) (N n : Nat) (f : Nat → Int) (k j : Nat) : Prop := ∀ a b, (a < k ∨ a = k ∧ b < j) → b < N → mem n f a = false → mem n f b = true → R a b = false
theorem noO_step {R : Nat → Nat → Bool} {N n k j : Nat} {f : Nat → Int} (h : noO R N n f k j) (hj : mem n f k = false → mem n f j = true → R k j = false) : noO R N n f k (j + 1) := by
  intro a b hab hb h1 h2
  by_cases e : a = k ∧ b = j
  · obtain ⟨rfl, rfl⟩ := e
    exact hj h1 h2
  · exact h a b (by omega) hb h1 h2
theorem noO_next {R : Nat → Nat → Bool} {N n k : Nat} {f : Nat → Int} (h : noO R N n f k N) : noO R N n f (k + 1) 0 := fun a b hab hb h1 h2 => h a b (by omega) hb h1 h2
theorem noO_yes {R : Nat → Nat → Bool} {N n : Nat} {f : Nat → Int} (h0 : 0 < n) (h1 : n < N) (hs : setB N n f = true) (h : noO R N n f N 0) : offB R N n f = true := by
  refine offB_iff.2 ⟨h0, h1, fun a ha hm i hi => ?_⟩
  obtain ⟨b, hb, e⟩ := setB_at hs hi
  rw [e, Int.toNat_natCast]
  exact h a b (.inl ha) hb hm (mem_iff.2 ⟨i, hi, e⟩)
theorem noO_no {R : Nat → Nat → Bool} {N n a b : Nat} {f : Nat → Int} (ha : a < N) (h1 : mem n f a = false) (h2 : mem n f b = true) (h3 : R a b = true) : offB R N n f = false := by
  cases h : offB R N n f
  · rfl
  · obtain ⟨i, hi, e⟩ := mem_iff.1 h2
    have := (offB_iff.1 h).2.2 a ha h1 i hi
    rw [e, Int.toNat_natCast, h3] at this
    cases this
theorem off_few {R : Nat → Nat → Bool} {N n : Nat} {f : Nat → Int} (h : ¬ (0 < n ∧ n < N)) : offB R N n f = false := by
  cases ho : offB R N n f
  · rfl
  · obtain ⟨a, b, _⟩ := offB_iff.1 ho
    exact absurd ⟨a, b⟩ h
end Go.Proofs.Ytgmcbdnfgdmmaaa
