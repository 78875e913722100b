/- The program's FromLift where it refuses. -/
import Derived.Test.YtbafhdinalapoaaFa
namespace Go.Proofs.Ytbafhdinalapoaa
open Go.RowKit
set_option linter.unusedVariables false
set_option linter.unusedSimpArgs false
set_option maxRecDepth 100000

theorem set7_box {w2 : World} {r : Nat} {D : Dr} (h : DBox w2 r D) (a b c d e f g : Value) (o : Obj) :
    ((((((((w2.setCell ⟨r, 0, none⟩ a).setCell ⟨r, 1, none⟩ b).setCell ⟨r, 2, none⟩ c).setCell ⟨r, 3, none⟩ d).setCell ⟨r, 4, none⟩ e).setCell ⟨r, 5, none⟩ f).setCell ⟨r, 6, none⟩ g).alloc o).heap[r]? = some (.cells #[a, b, c, d, e, f, g] 30 (0, 0)) := by
  have hl := h.lt
  have h0 := Joins.block_setCell (i := 0) h a
  have h1 := Joins.block_setCell (i := 1) h0 b
  have h2 := Joins.block_setCell (i := 2) h1 c
  have h3 := Joins.block_setCell (i := 3) h2 d
  have h4 := Joins.block_setCell (i := 4) h3 e
  have h5 := Joins.block_setCell (i := 5) h4 f
  have h6 := Joins.block_setCell (i := 6) h5 g
  rw [Below.heap_alloc _ _ _ (by simpa [World.setCell] using hl), h6]
  rfl
theorem set7_read {w2 : World} {r : Nat} {D : Dr} (h : DBox w2 r D) (a b c d e f g : Value) (o : Obj) (X : World) (hX : X = ((((((((w2.setCell ⟨r, 0, none⟩ a).setCell ⟨r, 1, none⟩ b).setCell ⟨r, 2, none⟩ c).setCell ⟨r, 3, none⟩ d).setCell ⟨r, 4, none⟩ e).setCell ⟨r, 5, none⟩ f).setCell ⟨r, 6, none⟩ g).alloc o)) :
    X.cell? ⟨r, 0, none⟩ = some a ∧ X.cell? ⟨r, 1, none⟩ = some b ∧ X.cell? ⟨r, 2, none⟩ = some c ∧ X.cell? ⟨r, 3, none⟩ = some d ∧ X.cell? ⟨r, 4, none⟩ = some e ∧ X.cell? ⟨r, 5, none⟩ = some f ∧ X.cell? ⟨r, 6, none⟩ = some g := by
  have hb := set7_box h a b c d e f g o
  rw [← hX] at hb
  refine ⟨?_, ?_, ?_, ?_, ?_, ?_, ?_⟩ <;> simp [World.cell?, hb]
open L2 (fst nd ren nd_le)
set_option maxHeartbeats 1600000 in
theorem fromlift_g (A : Option Addr) (n c : Nat) (W H : Int) (C : Option Addr) (k cap : Nat) (err : Int) (w : World) (hk : k ≤ 4200) (hx : chk W H k = err) (hne : (err != 0) = true) :
    Calls Try.prog 13 #[.slice A n c, .agg #[.int .i64 W, .int .i64 H, .slice C k cap]] w (ErrDr w err) := by
  have HC := Lib.hid (gchk_err (A := C) (c := cap) hk hx)
  have Z0 := Lib.hid (DBox.new (w.alloc (.cells #[.int .i64 W, .int .i64 H, .slice C k cap] 24)) Dr.zero)
  have L0 := Lib.hid (show Below w.heap.size w ((w.alloc (.cells #[.int .i64 W, .int .i64 H, .slice C k cap] 24)).alloc (.cells #[.int .i64 0, .int .i64 0, .slice none 0 0, .slice none 0 0, .int .i64 0, .int .i64 0, .slice none 0 0] 30)) from ((Below.refl _ _).alloc (Nat.le_refl _) _).alloc (by simp) _)
  simp only [World.size_alloc] at Z0
  have Z0' : Hid (DBox ((w.alloc (.cells #[.int .i64 W, .int .i64 H, .slice C k cap] 24)).alloc (.cells #[.int .i64 0, .int .i64 0, .slice none 0 0, .slice none 0 0, .int .i64 0, .int .i64 0, .slice none 0 0] 30)) (w.heap.size + 1) Dr.zero) := Z0
  clear Z0 hx
  go_enter Try.func13, Try.ntmps13
  go_wp2_with fail
  refine (HC.out _).mono ?_
  rintro e w1 ⟨rfl, hb⟩
  have zz := (Z0'.out.next hb).all
  have zf := (Z0'.out.next hb).frees
  simp only [Dr.zero] at zz
  obtain ⟨t0, t1, t2, t3, t4, t5, t6, t7⟩ := zz
  obtain ⟨z0, z1, z2, z3, z4, z5, z6⟩ := zf
  have L1 := Lib.hid (L0.out.trans (hb.mono L0.out.size))
  clear hb
  go_wp2
  refine bodyPost_ret (v := .tuple #[.agg #[.int .i64 0, .int .i64 0, .slice none 0 0, .slice none 0 0, .int .i64 0, .int .i64 0, .slice none 0 0], .int .i64 err]) (by simp [results, Try.results13, go_sem, t0, t1, t2, t3, t4, t5, t6]) rfl ?_
  exact dfin_err (by omega) L1.out

set_option maxHeartbeats 3200000 in
theorem fromlift_K (A : Option Addr) (n c : Nat) (th : Nat → Int) (W H b o cap : Nat) (f : Nat → Bool) (w : World) (ht : L2.Holds w w.heap.size A n th) (hr : Holds w w.heap.size (some ⟨b, o, none⟩) (W * H) f) (hcap : W * H ≤ cap)
    (hW0 : 1 ≤ W) (hW : W ≤ 64) (hH0 : 1 ≤ H) (hH : H ≤ 64) (hn : n ≤ 5000) (h0 : ¬ 64 < n) (h1 : ¬ 40 < W) (h : 40 < nd (rc W f) H) :
    Calls Try.prog 13 #[.slice A n c, .agg #[.int .i64 W, .int .i64 H, .slice (some ⟨b, o, none⟩) (W * H) cap]] w (ErrDr w 4) := by
  have HT := Lib.hid ht
  have HR := Lib.hid hr
  have HCP := Lib.hid hcap
  obtain ⟨K, hKe⟩ : ∃ K, nd (rc W f) H = K := ⟨_, rfl⟩
  skip
  try rw [hKe] at h
  try rw [hKe] at h2
  have HKE := Lib.hid hKe
  have X0 := Lib.hid ((Box.new w W H (.slice (some ⟨b, o, none⟩) (W * H) cap)).alloc (.cells #[.int .i64 0, .int .i64 0, .slice none 0 0, .slice none 0 0, .int .i64 0, .int .i64 0, .slice none 0 0] 30))
  have Z0 := Lib.hid (DBox.new (w.alloc (.cells #[.int .i64 W, .int .i64 H, .slice (some ⟨b, o, none⟩) (W * H) cap] 24)) Dr.zero)
  have L0 := Lib.hid (show Below w.heap.size w ((w.alloc (.cells #[.int .i64 W, .int .i64 H, .slice (some ⟨b, o, none⟩) (W * H) cap] 24)).alloc (.cells #[.int .i64 0, .int .i64 0, .slice none 0 0, .slice none 0 0, .int .i64 0, .int .i64 0, .slice none 0 0] 30)) from ((Below.refl _ _).alloc (Nat.le_refl _) _).alloc (by simp) _)
  simp only [World.size_alloc] at Z0
  have Z0' : Hid (DBox ((w.alloc (.cells #[.int .i64 W, .int .i64 H, .slice (some ⟨b, o, none⟩) (W * H) cap] 24)).alloc (.cells #[.int .i64 0, .int .i64 0, .slice none 0 0, .slice none 0 0, .int .i64 0, .int .i64 0, .slice none 0 0] 30)) (w.heap.size + 1) Dr.zero) := Z0
  clear Z0 ht hr hcap hKe
  go_enter Try.func13, Try.ntmps13
  go_wp2_with fail
  generalize (w.alloc (.cells #[.int .i64 W, .int .i64 H, .slice (some ⟨b, o, none⟩) (W * H) cap] 24)).alloc (.cells #[.int .i64 0, .int .i64 0, .slice none 0 0, .slice none 0 0, .int .i64 0, .int .i64 0, .slice none 0 0] 30) = w0 at *
  have hN : W * H ≤ 4200 := by have := Nat.mul_le_mul hW hH; omega
  refine (gchk_err hN (chk_zero hW0 hW hH0 hH) w0).mono ?_
  rintro e w1 ⟨rfl, hb⟩
  have X1 := Lib.hid (X0.out.below hb X0.out.lt)
  have Z1 := Lib.hid (Z0'.out.next hb)
  have L1 := Lib.hid (L0.out.trans (hb.mono L0.out.size))
  clear hb X0 Z0' L0
  obtain ⟨q0, q1, q2, q3, q4, q5, q6⟩ := X1.out.all
  go_wp2_with fail
  clear q0 q1 q2 q3 q4 q5 q6
  refine (kinds_any W H b o cap f w.heap.size w1 (HR.out.below L1.out) L1.out.size HCP.out hW0 hW hH0 hH).mono ?_
  rintro e w2 ⟨kk, A', c', rfl, hkk, hrk, hfr, hb⟩
  rw [HKE.out]
  have Z2 := Lib.hid ((Z1.out.next hb).alloc (.cells #[.slice A' K c'] 28))
  have L2a := Lib.hid (L1.out.trans (hb.mono L1.out.size))
  have hbs := Lib.hid hb.size
  have ZB := Lib.hid (Z1.out.next hb)
  have L1s := Lib.hid L1.out.size
  have L2' := Lib.hid ((L1.out.trans (hb.mono L1.out.size)).alloc (Nat.le_trans L1.out.size hb.size) (.cells #[.slice A' K c'] 28))
  obtain ⟨q0, q1, q2, q3, q4, q5, q6⟩ := (X1.out.below hb X1.out.lt).all
  have zz := (Z1.out.next hb).all
  have zf := (Z1.out.next hb).frees
  simp only [Dr.zero] at zz
  obtain ⟨t0, t1, t2, t3, t4, t5, t6, t7⟩ := zz
  obtain ⟨z0, z1, z2, z3, z4, z5, z6⟩ := zf
  have d1 : decide (64 < (n : Int)) = false := by simp; omega
  have d2 : decide (40 < (W : Int)) = false := by simp; omega
  have d3 : decide (40 < (K : Int)) = true := by simp; omega
  clear hb hkk hrk hfr X1 Z1 L1
  go_wp2
  obtain ⟨s0, s1, s2, s3, s4, s5, s6⟩ := set7_read ZB.out (.int .i64 0) (.int .i64 0) (.slice none 0 0) (.slice none 0 0) (.int .i64 0) (.int .i64 0) (.slice none 0 0) (.cells #[.slice A' K c'] 28) _ rfl
  refine bodyPost_ret (v := .tuple #[.agg #[.int .i64 0, .int .i64 0, .slice none 0 0, .slice none 0 0, .int .i64 0, .int .i64 0, .slice none 0 0], .int .i64 4]) (by simp [results, Try.results13, go_sem, s0, s1, s2, s3, s4, s5, s6]) rfl ?_
  refine ⟨rfl, ?_⟩
  exact (set7_below (by omega) L2a.out).alloc (by simpa [World.setCell] using Nat.le_trans L1s.out hbs.out) _
end Go.Proofs.Ytbafhdinalapoaa
