/- The program's Count of valid grids; has and uses of drafts. -/
import Derived.Test.YtbafhdinalapoaaDoorFst
import Derived.Deep.QuietTactic
import Derived.BigQuiet
namespace Go.Proofs.YtbafhdinalapoaaDoor
open Go.RowKit
set_option linter.unusedVariables false
set_option linter.unusedSimpArgs false
set_option maxRecDepth 100000

open L2 (nd ren)
set_option maxHeartbeats 800000 in
theorem count_ok (W H : Nat) (b o cap : Nat) (f : Nat → Bool) (w : World) (hr : Holds w w.heap.size (some ⟨b, o, none⟩) (W * H) f) (hcap : W * H ≤ cap) (hW0 : 1 ≤ W) (hW : W ≤ 64) (hH0 : 1 ≤ H) (hH : H ≤ 64) :
    Calls Tryd.prog 15 #[.agg #[.int .i64 W, .int .i64 H, .slice (some ⟨b, o, none⟩) (W * H) cap]] w fun e w' => e = .returned (.tuple #[.int .i64 (nd (rc H (tnf W H f)) W : Nat), .int .i64 (nd (rc W f) H : Nat), .int .i64 0]) ∧ Below w.heap.size w w' := by
  have L0 := Lib.hid (show Below w.heap.size w (w.alloc (.cells #[.int .i64 W, .int .i64 H, .slice (some ⟨b, o, none⟩) (W * H) cap] 25)) from (Below.refl _ _).alloc (Nat.le_refl _) _)
  have HS := Lib.hid (sorted_ok W H b o cap f _ ((hr.below L0.out).more L0.out.size) hcap hW0 hW hH0 hH)
  clear hr hcap
  obtain ⟨m, hm⟩ : ∃ m, nd (rc H (tnf W H f)) W = m := ⟨_, rfl⟩
  obtain ⟨n, hn⟩ : ∃ n, nd (rc W f) H = n := ⟨_, rfl⟩
  have HM := Lib.hid hm
  have HN := Lib.hid hn
  rw [hm, hn]
  clear hm hn
  go_enter Tryd.func15, Tryd.ntmps15
  go_wp2_with fail
  refine HS.out.mono ?_
  rintro e w1 ⟨A1, c1, A2, c2, A3, c3, A4, c4, rfl, -, -, -, -, hb⟩
  have L1 := Lib.hid (L0.out.trans (hb.mono L0.out.size))
  have Z := Lib.hid (Q4.new w1 (.slice A1 W c1) (.slice A2 (nd (rc H (tnf W H f)) W) c2) (.slice A3 H c3) (.slice A4 (nd (rc W f) H) c4))
  have L2' := Lib.hid (L1.out.alloc L1.out.size (.cells #[.slice A1 W c1, .slice A2 (nd (rc H (tnf W H f)) W) c2, .slice A3 H c3, .slice A4 (nd (rc W f) H) c4] 65))
  clear hb
  rw [HM.out, HN.out] at Z L2' ⊢
  clear HS
  go_upto_region 2 with fail
  generalize w1.alloc (.cells #[.slice A1 W c1, .slice A2 m c2, .slice A3 H c3, .slice A4 n c4] 65) = w2 at *
  obtain ⟨z0, z1, z2, z3, z4, z5, z6, z7, z8⟩ := Z.out.all
  go_quiet (fail)
  clear z0 z1 z2 z3 z4 z5 z6 z7 z8
  have HF := Lib.hid (Go.Proofs.below_drewN' L2'.out nq)
  go_wp2
  exact bodyPost_ret (v := .tuple #[.int .i64 m, .int .i64 n, .int .i64 0]) (by simp [results, Tryd.results15, go_sem]) rfl ⟨rfl, HF.out⟩

theorem dbox_new_in {w : World} {D : Dr} (hd : D.In w w.heap.size) : D.In (w.alloc (.cells #[.int .i64 D.S, .int .i64 D.T, .slice D.A D.n D.c, .slice D.B D.m D.d, .int .i64 D.W, .int .i64 D.H, .slice D.C D.k D.e] 27)) (w.alloc (.cells #[.int .i64 D.S, .int .i64 D.T, .slice D.A D.n D.c, .slice D.B D.m D.d, .int .i64 D.W, .int .i64 D.H, .slice D.C D.k D.e] 27)).heap.size := hd.next ((Below.refl _ _).alloc (Nat.le_refl _) _)
set_option maxHeartbeats 800000 in
theorem has_any (D : Dr) (w : World) : Calls Tryd.prog 42 #[.agg #[.int .i64 D.S, .int .i64 D.T, .slice D.A D.n D.c, .slice D.B D.m D.d, .int .i64 D.W, .int .i64 D.H, .slice D.C D.k D.e]] w fun e w' => e = .returned (.agg #[.int .i64 D.S, .int .i64 D.T]) ∧ Below w.heap.size w w' := by
  have X0 := Lib.hid ((DBox.new w D).alloc (.cells #[.int .i64 0, .int .i64 0] 76))
  have L0 := Lib.hid (show Below w.heap.size w ((w.alloc (.cells #[.int .i64 D.S, .int .i64 D.T, .slice D.A D.n D.c, .slice D.B D.m D.d, .int .i64 D.W, .int .i64 D.H, .slice D.C D.k D.e] 27)).alloc (.cells #[.int .i64 0, .int .i64 0] 76)) from ((Below.refl _ _).alloc (Nat.le_refl _) _).alloc (by simp) _)
  go_enter Tryd.func42, Tryd.ntmps42
  obtain ⟨q0, q1, q2, q3, q4, q5, q6, q7⟩ := X0.out.all
  go_wp2
  exact bodyPost_ret (v := .agg #[.int .i64 D.S, .int .i64 D.T]) (by simp [results, Tryd.results42, go_sem]) rfl ⟨rfl, ((Below.refl _ _).alloc (Nat.le_refl _) _).alloc (by simp) _⟩

set_option maxHeartbeats 800000 in
/-- How many shafts and treadles a valid draft uses. -/
theorem uses_ok {D : Dr} (h1 : L2.lchk D.n D.f = 0) (h2 : L2.lchk D.m D.g = 0) (w : World) (hd : D.In w w.heap.size) :
    Calls Tryd.prog 41 #[.agg #[.int .i64 D.S, .int .i64 D.T, .slice D.A D.n D.c, .slice D.B D.m D.d, .int .i64 D.W, .int .i64 D.H, .slice D.C D.k D.e]] w fun e w' => e = .returned (.agg #[.int .i64 (nd D.f D.n : Nat), .int .i64 (nd D.g D.m : Nat)]) ∧ Below w.heap.size w w' := by
  have X0 := Lib.hid (show DBox ((w.alloc (.cells #[.int .i64 D.S, .int .i64 D.T, .slice D.A D.n D.c, .slice D.B D.m D.d, .int .i64 D.W, .int .i64 D.H, .slice D.C D.k D.e] 27)).alloc (.cells #[.int .i64 0, .int .i64 0] 76)) w.heap.size D from (DBox.new w D).alloc (.cells #[.int .i64 0, .int .i64 0] 76))
  have L0 := Lib.hid (show Below w.heap.size w ((w.alloc (.cells #[.int .i64 D.S, .int .i64 D.T, .slice D.A D.n D.c, .slice D.B D.m D.d, .int .i64 D.W, .int .i64 D.H, .slice D.C D.k D.e] 27)).alloc (.cells #[.int .i64 0, .int .i64 0] 76)) from ((Below.refl _ _).alloc (Nat.le_refl _) _).alloc (by simp) _)
  have C1 := Lib.hid (fun w' (h : Below w.heap.size w w') => L2.used_ok D.A D.n D.c D.f w' (hd.next h).th h1)
  have C2 := Lib.hid (fun w' (h : Below w.heap.size w w') => L2.used_ok D.B D.m D.d D.g w' (hd.next h).tr h2)
  have R0 : Hid (((w.alloc (.cells #[.int .i64 D.S, .int .i64 D.T, .slice D.A D.n D.c, .slice D.B D.m D.d, .int .i64 D.W, .int .i64 D.H, .slice D.C D.k D.e] 27)).alloc (.cells #[.int .i64 0, .int .i64 0] 76)).heap[w.heap.size + 1]? = some (.cells #[.int .i64 0, .int .i64 0] 76 (0, 0))) := Lib.hid (by
    have h := heap_alloc_new (w.alloc (.cells #[.int .i64 D.S, .int .i64 D.T, .slice D.A D.n D.c, .slice D.B D.m D.d, .int .i64 D.W, .int .i64 D.H, .slice D.C D.k D.e] 27)) (.cells #[.int .i64 0, .int .i64 0] 76)
    simp only [World.size_alloc] at h
    exact h)
  have hs0 : ((w.alloc (.cells #[.int .i64 D.S, .int .i64 D.T, .slice D.A D.n D.c, .slice D.B D.m D.d, .int .i64 D.W, .int .i64 D.H, .slice D.C D.k D.e] 27)).alloc (.cells #[.int .i64 0, .int .i64 0] 76)).heap.size = w.heap.size + 2 := by simp
  clear hd h1 h2
  obtain ⟨S, hS⟩ : ∃ S, nd D.f D.n = S := ⟨_, rfl⟩
  obtain ⟨T, hT⟩ : ∃ T, nd D.g D.m = T := ⟨_, rfl⟩
  rw [hS] at C1
  rw [hT] at C2
  rw [hS, hT]
  clear hS hT
  go_enter Tryd.func41, Tryd.ntmps41
  obtain ⟨q0, q1, q2, q3, q4, q5, q6, q7⟩ := X0.out.all
  go_wp2_with fail
  clear q0 q1 q2 q3 q4 q5 q6 q7
  generalize (w.alloc (.cells #[.int .i64 D.S, .int .i64 D.T, .slice D.A D.n D.c, .slice D.B D.m D.d, .int .i64 D.W, .int .i64 D.H, .slice D.C D.k D.e] 27)).alloc (.cells #[.int .i64 0, .int .i64 0] 76) = v0 at *
  refine (C1.out v0 L0.out).mono ?_
  rintro e w1 ⟨rfl, hb⟩
  have X1 := Lib.hid (X0.out.below hb X0.out.lt)
  have L1 := Lib.hid (L0.out.trans (hb.mono L0.out.size))
  have R1 := Lib.hid ((hb.block (w.heap.size + 1) (by omega)).trans R0.out)
  have HV0 := Lib.hid hb
  clear hb R0 X0 L0
  obtain ⟨q0, q1, q2, q3, q4, q5, q6, q7⟩ := X1.out.all
  go_wp2_with fail
  clear q0 q1 q2 q3 q4 q5 q6 q7
  refine (C2.out w1 L1.out).mono ?_
  rintro e w2 ⟨rfl, hb⟩
  have L2' := Lib.hid (L1.out.trans (hb.mono L1.out.size))
  have z := L2'.out.size
  have hR := (hb.block (w.heap.size + 1) (by have := L1.out.size; have := hs0; have := HV0.out.size; omega)).trans R1.out
  have r0 : w2.cell? ⟨w.heap.size + 1, 0, none⟩ = some (.int .i64 0) := by simp [World.cell?, hR]
  have r1 : w2.cell? ⟨w.heap.size + 1, 1, none⟩ = some (.int .i64 0) := by simp [World.cell?, hR]
  have r2 : w2.frozen? ⟨w.heap.size + 1, 0, none⟩ = false := by simp [World.frozen?, hR]
  have r3 : w2.frozen? ⟨w.heap.size + 1, 1, none⟩ = false := by simp [World.frozen?, hR]
  clear hb hR
  go_wp2
  exact bodyPost_ret (v := .agg #[.int .i64 S, .int .i64 T]) (by simp [results, Tryd.results41, go_sem, r0, r1, r2, r3]) rfl ⟨rfl, (L2'.out.setCell (by simp) _).setCell (by simp) _⟩
end Go.Proofs.YtbafhdinalapoaaDoor
