/- The reference's Check of a draft. -/
import Derived.Test.YtbafhdinalapoaaDhn
namespace Go.Proofs.Ytbafhdinalapoaa
open Go.RowKit
set_option linter.unusedVariables false
set_option linter.unusedSimpArgs false

theorem rgchk_err {W H : Int} {A : Option Addr} {n c : Nat} {err : Int} (hn : n ≤ 4200) (hx : chk W H n = err) (w : World) :
    Calls Try.prog 41 #[.agg #[.int .i64 W, .int .i64 H, .slice A n c]] w fun e w' => e = .returned (.int .i64 err) ∧ Below w.heap.size w w' := by
  have h := rchk_any W H A n c w hn
  rw [hx] at h
  exact h
set_option maxHeartbeats 1000000 in
theorem rck_S (D : Dr) (w : World) (hs : D.Small) (hd : D.In w w.heap.size) (h0 : 40 < D.S) :
    Calls Try.prog 29 #[.agg #[.int .i64 D.S, .int .i64 D.T, .slice D.A D.n D.c, .slice D.B D.m D.d, .int .i64 D.W, .int .i64 D.H, .slice D.C D.k D.e]] w fun e w' => e = .returned (.int .i64 4) ∧ Below w.heap.size w w' := by
  obtain ⟨S, T, A, n, c, B, m, d, W, H, C, k, e', f, g, b⟩ := D
  obtain ⟨s0, s1', s2⟩ := hs
  obtain ⟨hth, htr, hti⟩ := hd
  dsimp only at *
  have b0 : decide (40 < S) = true := by simp; omega
  have X0 := Lib.hid (DBox.new w ⟨S, T, A, n, c, B, m, d, W, H, C, k, e', f, g, b⟩)
  clear hth htr hti
  go_enter Try.func29, Try.ntmps29
  go_wp2
  go_ret
  exact ⟨rfl, (Below.refl _ _).alloc (Nat.le_refl _) _⟩

set_option maxHeartbeats 1000000 in
theorem rck_T (D : Dr) (w : World) (hs : D.Small) (hd : D.In w w.heap.size) (h0 : ¬ 40 < D.S) (h1 : 40 < D.T) :
    Calls Try.prog 29 #[.agg #[.int .i64 D.S, .int .i64 D.T, .slice D.A D.n D.c, .slice D.B D.m D.d, .int .i64 D.W, .int .i64 D.H, .slice D.C D.k D.e]] w fun e w' => e = .returned (.int .i64 4) ∧ Below w.heap.size w w' := by
  obtain ⟨S, T, A, n, c, B, m, d, W, H, C, k, e', f, g, b⟩ := D
  obtain ⟨s0, s1', s2⟩ := hs
  obtain ⟨hth, htr, hti⟩ := hd
  dsimp only at *
  have b0 : decide (40 < S) = false := by simp; omega
  have b1 : decide (40 < T) = true := by simp; omega
  have X0 := Lib.hid (DBox.new w ⟨S, T, A, n, c, B, m, d, W, H, C, k, e', f, g, b⟩)
  clear hth htr hti
  go_enter Try.func29, Try.ntmps29
  go_wp2
  go_ret
  exact ⟨rfl, (Below.refl _ _).alloc (Nat.le_refl _) _⟩

set_option maxHeartbeats 1000000 in
theorem rck_n (D : Dr) (w : World) (hs : D.Small) (hd : D.In w w.heap.size) (h0 : ¬ 40 < D.S) (h1 : ¬ 40 < D.T) (h2 : 64 < D.n) :
    Calls Try.prog 29 #[.agg #[.int .i64 D.S, .int .i64 D.T, .slice D.A D.n D.c, .slice D.B D.m D.d, .int .i64 D.W, .int .i64 D.H, .slice D.C D.k D.e]] w fun e w' => e = .returned (.int .i64 4) ∧ Below w.heap.size w w' := by
  obtain ⟨S, T, A, n, c, B, m, d, W, H, C, k, e', f, g, b⟩ := D
  obtain ⟨s0, s1', s2⟩ := hs
  obtain ⟨hth, htr, hti⟩ := hd
  dsimp only at *
  have b0 : decide (40 < S) = false := by simp; omega
  have b1 : decide (40 < T) = false := by simp; omega
  have b2 : decide (64 < (n : Int)) = true := by simp; omega
  have X0 := Lib.hid (DBox.new w ⟨S, T, A, n, c, B, m, d, W, H, C, k, e', f, g, b⟩)
  clear hth htr hti
  go_enter Try.func29, Try.ntmps29
  go_wp2
  go_ret
  exact ⟨rfl, (Below.refl _ _).alloc (Nat.le_refl _) _⟩

set_option maxHeartbeats 1000000 in
theorem rck_m (D : Dr) (w : World) (hs : D.Small) (hd : D.In w w.heap.size) (h0 : ¬ 40 < D.S) (h1 : ¬ 40 < D.T) (h2 : ¬ 64 < D.n) (h3 : 64 < D.m) :
    Calls Try.prog 29 #[.agg #[.int .i64 D.S, .int .i64 D.T, .slice D.A D.n D.c, .slice D.B D.m D.d, .int .i64 D.W, .int .i64 D.H, .slice D.C D.k D.e]] w fun e w' => e = .returned (.int .i64 4) ∧ Below w.heap.size w w' := by
  obtain ⟨S, T, A, n, c, B, m, d, W, H, C, k, e', f, g, b⟩ := D
  obtain ⟨s0, s1', s2⟩ := hs
  obtain ⟨hth, htr, hti⟩ := hd
  dsimp only at *
  have b0 : decide (40 < S) = false := by simp; omega
  have b1 : decide (40 < T) = false := by simp; omega
  have b2 : decide (64 < (n : Int)) = false := by simp; omega
  have b3 : decide (64 < (m : Int)) = true := by simp; omega
  have X0 := Lib.hid (DBox.new w ⟨S, T, A, n, c, B, m, d, W, H, C, k, e', f, g, b⟩)
  clear hth htr hti
  go_enter Try.func29, Try.ntmps29
  go_wp2
  go_ret
  exact ⟨rfl, (Below.refl _ _).alloc (Nat.le_refl _) _⟩

set_option maxHeartbeats 1000000 in
theorem rck_wna (D : Dr) (w : World) (hs : D.Small) (hd : D.In w w.heap.size) (h0 : ¬ 40 < D.S) (h1 : ¬ 40 < D.T) (h2 : ¬ 64 < D.n) (h3 : ¬ 64 < D.m) (h4 : wi D.n D.f D.S = false) (p : D.S < 1) :
    Calls Try.prog 29 #[.agg #[.int .i64 D.S, .int .i64 D.T, .slice D.A D.n D.c, .slice D.B D.m D.d, .int .i64 D.W, .int .i64 D.H, .slice D.C D.k D.e]] w fun e w' => e = .returned (.int .i64 8) ∧ Below w.heap.size w w' := by
  obtain ⟨S, T, A, n, c, B, m, d, W, H, C, k, e', f, g, b⟩ := D
  obtain ⟨s0, s1', s2⟩ := hs
  obtain ⟨hth, htr, hti⟩ := hd
  dsimp only at *
  have b0 : decide (40 < S) = false := by simp; omega
  have b1 : decide (40 < T) = false := by simp; omega
  have b2 : decide (64 < (n : Int)) = false := by simp; omega
  have b3 : decide (64 < (m : Int)) = false := by simp; omega
  have p0 : decide (S < 1) = true := by simp; omega
  have X0 := Lib.hid (DBox.new w ⟨S, T, A, n, c, B, m, d, W, H, C, k, e', f, g, b⟩)
  clear hth htr hti h4
  go_enter Try.func29, Try.ntmps29
  go_wp2
  go_ret
  exact ⟨rfl, (Below.refl _ _).alloc (Nat.le_refl _) _⟩

set_option maxHeartbeats 1000000 in
theorem rck_wnb (D : Dr) (w : World) (hs : D.Small) (hd : D.In w w.heap.size) (h0 : ¬ 40 < D.S) (h1 : ¬ 40 < D.T) (h2 : ¬ 64 < D.n) (h3 : ¬ 64 < D.m) (h4 : wi D.n D.f D.S = false) (p : ¬ D.S < 1) (q : D.T < 1) :
    Calls Try.prog 29 #[.agg #[.int .i64 D.S, .int .i64 D.T, .slice D.A D.n D.c, .slice D.B D.m D.d, .int .i64 D.W, .int .i64 D.H, .slice D.C D.k D.e]] w fun e w' => e = .returned (.int .i64 8) ∧ Below w.heap.size w w' := by
  obtain ⟨S, T, A, n, c, B, m, d, W, H, C, k, e', f, g, b⟩ := D
  obtain ⟨s0, s1', s2⟩ := hs
  obtain ⟨hth, htr, hti⟩ := hd
  dsimp only at *
  have b0 : decide (40 < S) = false := by simp; omega
  have b1 : decide (40 < T) = false := by simp; omega
  have b2 : decide (64 < (n : Int)) = false := by simp; omega
  have b3 : decide (64 < (m : Int)) = false := by simp; omega
  have p0 : decide (S < 1) = false := by simp; omega
  have p1 : decide (T < 1) = true := by simp; omega
  have X0 := Lib.hid (DBox.new w ⟨S, T, A, n, c, B, m, d, W, H, C, k, e', f, g, b⟩)
  clear hth htr hti h4
  go_enter Try.func29, Try.ntmps29
  go_wp2
  go_ret
  exact ⟨rfl, (Below.refl _ _).alloc (Nat.le_refl _) _⟩

set_option maxHeartbeats 1000000 in
theorem rck_wnc (D : Dr) (w : World) (hs : D.Small) (hd : D.In w w.heap.size) (h0 : ¬ 40 < D.S) (h1 : ¬ 40 < D.T) (h2 : ¬ 64 < D.n) (h3 : ¬ 64 < D.m) (h4 : wi D.n D.f D.S = false) (p : ¬ D.S < 1) (q : ¬ D.T < 1) :
    Calls Try.prog 29 #[.agg #[.int .i64 D.S, .int .i64 D.T, .slice D.A D.n D.c, .slice D.B D.m D.d, .int .i64 D.W, .int .i64 D.H, .slice D.C D.k D.e]] w fun e w' => e = .returned (.int .i64 8) ∧ Below w.heap.size w w' := by
  obtain ⟨S, T, A, n, c, B, m, d, W, H, C, k, e', f, g, b⟩ := D
  obtain ⟨s0, s1', s2⟩ := hs
  obtain ⟨hth, htr, hti⟩ := hd
  dsimp only at *
  have b0 : decide (40 < S) = false := by simp; omega
  have b1 : decide (40 < T) = false := by simp; omega
  have b2 : decide (64 < (n : Int)) = false := by simp; omega
  have b3 : decide (64 < (m : Int)) = false := by simp; omega
  have p0 : decide (S < 1) = false := by simp; omega
  have p1 : decide (T < 1) = false := by simp; omega
  have H1 := Lib.hid (fun v hb => (within_any A n c f S w.heap.size v (by omega) (hth.below (w' := v) hb)))
  rw [h4] at H1
  have X0 := Lib.hid (DBox.new w ⟨S, T, A, n, c, B, m, d, W, H, C, k, e', f, g, b⟩)
  clear hth htr hti h4
  go_enter Try.func29, Try.ntmps29
  go_wp2_with fail
  refine (H1.out _ ((Below.refl _ _).alloc (Nat.le_refl _) _)).mono ?_
  rintro e w1 ⟨rfl, rfl⟩
  go_wp2
  go_ret
  exact ⟨rfl, (Below.refl _ _).alloc (Nat.le_refl _) _⟩

set_option maxHeartbeats 1000000 in
theorem rck_wmb (D : Dr) (w : World) (hs : D.Small) (hd : D.In w w.heap.size) (h0 : ¬ 40 < D.S) (h1 : ¬ 40 < D.T) (h2 : ¬ 64 < D.n) (h3 : ¬ 64 < D.m) (h4 : wi D.n D.f D.S = true) (h5 : wi D.m D.g D.T = false) (p : ¬ D.S < 1) (q : D.T < 1) :
    Calls Try.prog 29 #[.agg #[.int .i64 D.S, .int .i64 D.T, .slice D.A D.n D.c, .slice D.B D.m D.d, .int .i64 D.W, .int .i64 D.H, .slice D.C D.k D.e]] w fun e w' => e = .returned (.int .i64 8) ∧ Below w.heap.size w w' := by
  obtain ⟨S, T, A, n, c, B, m, d, W, H, C, k, e', f, g, b⟩ := D
  obtain ⟨s0, s1', s2⟩ := hs
  obtain ⟨hth, htr, hti⟩ := hd
  dsimp only at *
  have b0 : decide (40 < S) = false := by simp; omega
  have b1 : decide (40 < T) = false := by simp; omega
  have b2 : decide (64 < (n : Int)) = false := by simp; omega
  have b3 : decide (64 < (m : Int)) = false := by simp; omega
  have p0 : decide (S < 1) = false := by simp; omega
  have p1 : decide (T < 1) = true := by simp; omega
  have X0 := Lib.hid (DBox.new w ⟨S, T, A, n, c, B, m, d, W, H, C, k, e', f, g, b⟩)
  clear hth htr hti h4 h5
  go_enter Try.func29, Try.ntmps29
  go_wp2
  go_ret
  exact ⟨rfl, (Below.refl _ _).alloc (Nat.le_refl _) _⟩

set_option maxHeartbeats 1000000 in
theorem rck_wmc (D : Dr) (w : World) (hs : D.Small) (hd : D.In w w.heap.size) (h0 : ¬ 40 < D.S) (h1 : ¬ 40 < D.T) (h2 : ¬ 64 < D.n) (h3 : ¬ 64 < D.m) (h4 : wi D.n D.f D.S = true) (h5 : wi D.m D.g D.T = false) (p : ¬ D.S < 1) (q : ¬ D.T < 1) :
    Calls Try.prog 29 #[.agg #[.int .i64 D.S, .int .i64 D.T, .slice D.A D.n D.c, .slice D.B D.m D.d, .int .i64 D.W, .int .i64 D.H, .slice D.C D.k D.e]] w fun e w' => e = .returned (.int .i64 8) ∧ Below w.heap.size w w' := by
  obtain ⟨S, T, A, n, c, B, m, d, W, H, C, k, e', f, g, b⟩ := D
  obtain ⟨s0, s1', s2⟩ := hs
  obtain ⟨hth, htr, hti⟩ := hd
  dsimp only at *
  have b0 : decide (40 < S) = false := by simp; omega
  have b1 : decide (40 < T) = false := by simp; omega
  have b2 : decide (64 < (n : Int)) = false := by simp; omega
  have b3 : decide (64 < (m : Int)) = false := by simp; omega
  have p0 : decide (S < 1) = false := by simp; omega
  have p1 : decide (T < 1) = false := by simp; omega
  have H1 := Lib.hid (fun v hb => (within_any A n c f S w.heap.size v (by omega) (hth.below (w' := v) hb)))
  have H2 := Lib.hid (fun v hb => (within_any B m d g T w.heap.size v (by omega) (htr.below (w' := v) hb)))
  rw [h4] at H1
  rw [h5] at H2
  have X0 := Lib.hid (DBox.new w ⟨S, T, A, n, c, B, m, d, W, H, C, k, e', f, g, b⟩)
  clear hth htr hti h4 h5
  go_enter Try.func29, Try.ntmps29
  go_wp2_with fail
  refine (H1.out _ ((Below.refl _ _).alloc (Nat.le_refl _) _)).mono ?_
  rintro e w1 ⟨rfl, rfl⟩
  go_wp2_with fail
  refine (H2.out _ ((Below.refl _ _).alloc (Nat.le_refl _) _)).mono ?_
  rintro e w1 ⟨rfl, rfl⟩
  go_wp2
  go_ret
  exact ⟨rfl, (Below.refl _ _).alloc (Nat.le_refl _) _⟩

set_option maxHeartbeats 1000000 in
theorem rck_g (D : Dr) (w : World) (hs : D.Small) (hd : D.In w w.heap.size) (h0 : ¬ 40 < D.S) (h1 : ¬ 40 < D.T) (h2 : ¬ 64 < D.n) (h3 : ¬ 64 < D.m) (s1 : 1 ≤ D.S) (t1 : 1 ≤ D.T) (h4 : wi D.n D.f D.S = true) (h5 : wi D.m D.g D.T = true) (err : Int) (h6 : chk D.W D.H D.k = err) (hne : (err != 0) = true) :
    Calls Try.prog 29 #[.agg #[.int .i64 D.S, .int .i64 D.T, .slice D.A D.n D.c, .slice D.B D.m D.d, .int .i64 D.W, .int .i64 D.H, .slice D.C D.k D.e]] w fun e w' => e = .returned (.int .i64 8) ∧ Below w.heap.size w w' := by
  obtain ⟨S, T, A, n, c, B, m, d, W, H, C, k, e', f, g, b⟩ := D
  obtain ⟨s0, s1', s2⟩ := hs
  obtain ⟨hth, htr, hti⟩ := hd
  dsimp only at *
  have b0 : decide (40 < S) = false := by simp; omega
  have b1 : decide (40 < T) = false := by simp; omega
  have b2 : decide (64 < (n : Int)) = false := by simp; omega
  have b3 : decide (64 < (m : Int)) = false := by simp; omega
  have p0 : decide (S < 1) = false := by simp; omega
  have p1 : decide (T < 1) = false := by simp; omega
  have H1 := Lib.hid (fun v hb => (within_any A n c f S w.heap.size v (by omega) (hth.below (w' := v) hb)))
  have H2 := Lib.hid (fun v hb => (within_any B m d g T w.heap.size v (by omega) (htr.below (w' := v) hb)))
  rw [h4] at H1
  rw [h5] at H2
  have H3 := Lib.hid (rgchk_err (A := C) (c := e') s2 h6)
  have X0 := Lib.hid (DBox.new w ⟨S, T, A, n, c, B, m, d, W, H, C, k, e', f, g, b⟩)
  clear hth htr hti h4 h5 h6
  go_enter Try.func29, Try.ntmps29
  go_wp2_with fail
  refine (H1.out _ ((Below.refl _ _).alloc (Nat.le_refl _) _)).mono ?_
  rintro e w1 ⟨rfl, rfl⟩
  go_wp2_with fail
  refine (H2.out _ ((Below.refl _ _).alloc (Nat.le_refl _) _)).mono ?_
  rintro e w1 ⟨rfl, rfl⟩
  go_wp2_with fail
  refine (H3.out _).mono ?_
  rintro e w1 ⟨rfl, hb⟩
  have X1 := X0.out.below hb (by simp)
  have L1 := Lib.hid (((Below.refl _ _).alloc (Nat.le_refl _) _).trans (hb.mono (by simp)))
  obtain ⟨x0, x1, x2, x3, x4, x5, x6, x7⟩ := X1.all
  clear X1 X0 hb
  dsimp only at x0 x1 x2 x3 x4 x5 x6
  go_wp2
  go_ret
  exact ⟨rfl, L1.out⟩

set_option maxHeartbeats 1000000 in
theorem rck_W (D : Dr) (w : World) (hs : D.Small) (hd : D.In w w.heap.size) (h0 : ¬ 40 < D.S) (h1 : ¬ 40 < D.T) (h2 : ¬ 64 < D.n) (h3 : ¬ 64 < D.m) (s1 : 1 ≤ D.S) (t1 : 1 ≤ D.T) (h4 : wi D.n D.f D.S = true) (h5 : wi D.m D.g D.T = true) (h6 : chk D.W D.H D.k = 0) (h7 : ¬ D.W = D.T) :
    Calls Try.prog 29 #[.agg #[.int .i64 D.S, .int .i64 D.T, .slice D.A D.n D.c, .slice D.B D.m D.d, .int .i64 D.W, .int .i64 D.H, .slice D.C D.k D.e]] w fun e w' => e = .returned (.int .i64 8) ∧ Below w.heap.size w w' := by
  obtain ⟨S, T, A, n, c, B, m, d, W, H, C, k, e', f, g, b⟩ := D
  obtain ⟨s0, s1', s2⟩ := hs
  obtain ⟨hth, htr, hti⟩ := hd
  dsimp only at *
  have b0 : decide (40 < S) = false := by simp; omega
  have b1 : decide (40 < T) = false := by simp; omega
  have b2 : decide (64 < (n : Int)) = false := by simp; omega
  have b3 : decide (64 < (m : Int)) = false := by simp; omega
  have p0 : decide (S < 1) = false := by simp; omega
  have p1 : decide (T < 1) = false := by simp; omega
  have b7 : (W != T) = true := by simp [h7]
  have H1 := Lib.hid (fun v hb => (within_any A n c f S w.heap.size v (by omega) (hth.below (w' := v) hb)))
  have H2 := Lib.hid (fun v hb => (within_any B m d g T w.heap.size v (by omega) (htr.below (w' := v) hb)))
  rw [h4] at H1
  rw [h5] at H2
  have H3 := Lib.hid (rgchk_err (A := C) (c := e') s2 h6)
  have X0 := Lib.hid (DBox.new w ⟨S, T, A, n, c, B, m, d, W, H, C, k, e', f, g, b⟩)
  clear hth htr hti h4 h5 h6 h7
  go_enter Try.func29, Try.ntmps29
  go_wp2_with fail
  refine (H1.out _ ((Below.refl _ _).alloc (Nat.le_refl _) _)).mono ?_
  rintro e w1 ⟨rfl, rfl⟩
  go_wp2_with fail
  refine (H2.out _ ((Below.refl _ _).alloc (Nat.le_refl _) _)).mono ?_
  rintro e w1 ⟨rfl, rfl⟩
  go_wp2_with fail
  refine (H3.out _).mono ?_
  rintro e w1 ⟨rfl, hb⟩
  have X1 := X0.out.below hb (by simp)
  have L1 := Lib.hid (((Below.refl _ _).alloc (Nat.le_refl _) _).trans (hb.mono (by simp)))
  obtain ⟨x0, x1, x2, x3, x4, x5, x6, x7⟩ := X1.all
  clear X1 X0 hb
  dsimp only at x0 x1 x2 x3 x4 x5 x6
  go_wp2
  go_ret
  exact ⟨rfl, L1.out⟩

set_option maxHeartbeats 1000000 in
theorem rck_H (D : Dr) (w : World) (hs : D.Small) (hd : D.In w w.heap.size) (h0 : ¬ 40 < D.S) (h1 : ¬ 40 < D.T) (h2 : ¬ 64 < D.n) (h3 : ¬ 64 < D.m) (s1 : 1 ≤ D.S) (t1 : 1 ≤ D.T) (h4 : wi D.n D.f D.S = true) (h5 : wi D.m D.g D.T = true) (h6 : chk D.W D.H D.k = 0) (h7 : D.W = D.T) (h8 : ¬ D.H = D.S) :
    Calls Try.prog 29 #[.agg #[.int .i64 D.S, .int .i64 D.T, .slice D.A D.n D.c, .slice D.B D.m D.d, .int .i64 D.W, .int .i64 D.H, .slice D.C D.k D.e]] w fun e w' => e = .returned (.int .i64 8) ∧ Below w.heap.size w w' := by
  obtain ⟨S, T, A, n, c, B, m, d, W, H, C, k, e', f, g, b⟩ := D
  obtain ⟨s0, s1', s2⟩ := hs
  obtain ⟨hth, htr, hti⟩ := hd
  dsimp only at *
  have b0 : decide (40 < S) = false := by simp; omega
  have b1 : decide (40 < T) = false := by simp; omega
  have b2 : decide (64 < (n : Int)) = false := by simp; omega
  have b3 : decide (64 < (m : Int)) = false := by simp; omega
  have p0 : decide (S < 1) = false := by simp; omega
  have p1 : decide (T < 1) = false := by simp; omega
  have b7 : (W != T) = false := by simp [h7]
  have b8 : (H != S) = true := by simp [h8]
  have H1 := Lib.hid (fun v hb => (within_any A n c f S w.heap.size v (by omega) (hth.below (w' := v) hb)))
  have H2 := Lib.hid (fun v hb => (within_any B m d g T w.heap.size v (by omega) (htr.below (w' := v) hb)))
  rw [h4] at H1
  rw [h5] at H2
  have H3 := Lib.hid (rgchk_err (A := C) (c := e') s2 h6)
  have X0 := Lib.hid (DBox.new w ⟨S, T, A, n, c, B, m, d, W, H, C, k, e', f, g, b⟩)
  clear hth htr hti h4 h5 h6 h7 h8
  go_enter Try.func29, Try.ntmps29
  go_wp2_with fail
  refine (H1.out _ ((Below.refl _ _).alloc (Nat.le_refl _) _)).mono ?_
  rintro e w1 ⟨rfl, rfl⟩
  go_wp2_with fail
  refine (H2.out _ ((Below.refl _ _).alloc (Nat.le_refl _) _)).mono ?_
  rintro e w1 ⟨rfl, rfl⟩
  go_wp2_with fail
  refine (H3.out _).mono ?_
  rintro e w1 ⟨rfl, hb⟩
  have X1 := X0.out.below hb (by simp)
  have L1 := Lib.hid (((Below.refl _ _).alloc (Nat.le_refl _) _).trans (hb.mono (by simp)))
  obtain ⟨x0, x1, x2, x3, x4, x5, x6, x7⟩ := X1.all
  clear X1 X0 hb
  dsimp only at x0 x1 x2 x3 x4 x5 x6
  go_wp2
  go_ret
  exact ⟨rfl, L1.out⟩

set_option maxHeartbeats 1000000 in
theorem rck_ok (D : Dr) (w : World) (hs : D.Small) (hd : D.In w w.heap.size) (h0 : ¬ 40 < D.S) (h1 : ¬ 40 < D.T) (h2 : ¬ 64 < D.n) (h3 : ¬ 64 < D.m) (s1 : 1 ≤ D.S) (t1 : 1 ≤ D.T) (h4 : wi D.n D.f D.S = true) (h5 : wi D.m D.g D.T = true) (h6 : chk D.W D.H D.k = 0) (h7 : D.W = D.T) (h8 : D.H = D.S) :
    Calls Try.prog 29 #[.agg #[.int .i64 D.S, .int .i64 D.T, .slice D.A D.n D.c, .slice D.B D.m D.d, .int .i64 D.W, .int .i64 D.H, .slice D.C D.k D.e]] w fun e w' => e = .returned (.int .i64 0) ∧ Below w.heap.size w w' := by
  obtain ⟨S, T, A, n, c, B, m, d, W, H, C, k, e', f, g, b⟩ := D
  obtain ⟨s0, s1', s2⟩ := hs
  obtain ⟨hth, htr, hti⟩ := hd
  dsimp only at *
  have b0 : decide (40 < S) = false := by simp; omega
  have b1 : decide (40 < T) = false := by simp; omega
  have b2 : decide (64 < (n : Int)) = false := by simp; omega
  have b3 : decide (64 < (m : Int)) = false := by simp; omega
  have p0 : decide (S < 1) = false := by simp; omega
  have p1 : decide (T < 1) = false := by simp; omega
  have b7 : (W != T) = false := by simp [h7]
  have b8 : (H != S) = false := by simp [h8]
  have H1 := Lib.hid (fun v hb => (within_any A n c f S w.heap.size v (by omega) (hth.below (w' := v) hb)))
  have H2 := Lib.hid (fun v hb => (within_any B m d g T w.heap.size v (by omega) (htr.below (w' := v) hb)))
  rw [h4] at H1
  rw [h5] at H2
  have H3 := Lib.hid (rgchk_err (A := C) (c := e') s2 h6)
  have X0 := Lib.hid (DBox.new w ⟨S, T, A, n, c, B, m, d, W, H, C, k, e', f, g, b⟩)
  clear hth htr hti h4 h5 h6 h7 h8
  go_enter Try.func29, Try.ntmps29
  go_wp2_with fail
  refine (H1.out _ ((Below.refl _ _).alloc (Nat.le_refl _) _)).mono ?_
  rintro e w1 ⟨rfl, rfl⟩
  go_wp2_with fail
  refine (H2.out _ ((Below.refl _ _).alloc (Nat.le_refl _) _)).mono ?_
  rintro e w1 ⟨rfl, rfl⟩
  go_wp2_with fail
  refine (H3.out _).mono ?_
  rintro e w1 ⟨rfl, hb⟩
  have X1 := X0.out.below hb (by simp)
  have L1 := Lib.hid (((Below.refl _ _).alloc (Nat.le_refl _) _).trans (hb.mono (by simp)))
  obtain ⟨x0, x1, x2, x3, x4, x5, x6, x7⟩ := X1.all
  clear X1 X0 hb
  dsimp only at x0 x1 x2 x3 x4 x5 x6
  go_wp2
  go_ret
  exact ⟨rfl, L1.out⟩

theorem rck_any (D : Dr) (w : World) (hs : D.Small) (hd : D.In w w.heap.size) :
    Calls Try.prog 29 #[.agg #[.int .i64 D.S, .int .i64 D.T, .slice D.A D.n D.c, .slice D.B D.m D.d, .int .i64 D.W, .int .i64 D.H, .slice D.C D.k D.e]] w fun e w' => e = .returned (.int .i64 D.ck) ∧ Below w.heap.size w w' := by
  have key : ∀ (z : Int), D.ck = z → Calls Try.prog 29 #[.agg #[.int .i64 D.S, .int .i64 D.T, .slice D.A D.n D.c, .slice D.B D.m D.d, .int .i64 D.W, .int .i64 D.H, .slice D.C D.k D.e]] w (fun e w' => e = .returned (.int .i64 z) ∧ Below w.heap.size w w') → Calls Try.prog 29 #[.agg #[.int .i64 D.S, .int .i64 D.T, .slice D.A D.n D.c, .slice D.B D.m D.d, .int .i64 D.W, .int .i64 D.H, .slice D.C D.k D.e]] w (fun e w' => e = .returned (.int .i64 D.ck) ∧ Below w.heap.size w w') := fun z hz h => by rw [hz]; exact h
  by_cases h0 : 40 < D.S
  · exact key 4 (by unfold Dr.ck; rw [if_pos (.inl h0)]) (rck_S D w hs hd h0)
  by_cases h1 : 40 < D.T
  · exact key 4 (by unfold Dr.ck; rw [if_pos (.inr (.inl h1))]) (rck_T D w hs hd h0 h1)
  by_cases h2 : 64 < D.n
  · exact key 4 (by unfold Dr.ck; rw [if_pos (.inr (.inr (.inl h2)))]) (rck_n D w hs hd h0 h1 h2)
  by_cases h3 : 64 < D.m
  · exact key 4 (by unfold Dr.ck; rw [if_pos (.inr (.inr (.inr h3)))]) (rck_m D w hs hd h0 h1 h2 h3)
  have hno : ¬ (40 < D.S ∨ 40 < D.T ∨ 64 < D.n ∨ 64 < D.m) := by omega
  cases h4 : wi D.n D.f D.S
  · by_cases p : D.S < 1
    · exact key 8 (by unfold Dr.ck; rw [if_neg hno, if_neg]; rintro ⟨a1, a2, a3, a4, a5⟩; first | (rw [h4] at a1; cases a1; done) | (rw [h5] at a2; cases a2; done) | exact h6 a3 | exact h7 a4 | exact h8 a5) (rck_wna D w hs hd h0 h1 h2 h3 h4 p)
    by_cases q : D.T < 1
    · exact key 8 (by unfold Dr.ck; rw [if_neg hno, if_neg]; rintro ⟨a1, a2, a3, a4, a5⟩; first | (rw [h4] at a1; cases a1; done) | (rw [h5] at a2; cases a2; done) | exact h6 a3 | exact h7 a4 | exact h8 a5) (rck_wnb D w hs hd h0 h1 h2 h3 h4 p q)
    · exact key 8 (by unfold Dr.ck; rw [if_neg hno, if_neg]; rintro ⟨a1, a2, a3, a4, a5⟩; first | (rw [h4] at a1; cases a1; done) | (rw [h5] at a2; cases a2; done) | exact h6 a3 | exact h7 a4 | exact h8 a5) (rck_wnc D w hs hd h0 h1 h2 h3 h4 p q)
  have s1 : 1 ≤ D.S := by unfold wi at h4; simp only [decide_eq_true_eq] at h4; have := h4.2 0 h4.1; omega
  cases h5 : wi D.m D.g D.T
  · by_cases q : D.T < 1
    · exact key 8 (by unfold Dr.ck; rw [if_neg hno, if_neg]; rintro ⟨a1, a2, a3, a4, a5⟩; first | (rw [h4] at a1; cases a1; done) | (rw [h5] at a2; cases a2; done) | exact h6 a3 | exact h7 a4 | exact h8 a5) (rck_wmb D w hs hd h0 h1 h2 h3 h4 h5 (by omega) q)
    · exact key 8 (by unfold Dr.ck; rw [if_neg hno, if_neg]; rintro ⟨a1, a2, a3, a4, a5⟩; first | (rw [h4] at a1; cases a1; done) | (rw [h5] at a2; cases a2; done) | exact h6 a3 | exact h7 a4 | exact h8 a5) (rck_wmc D w hs hd h0 h1 h2 h3 h4 h5 (by omega) q)
  have t1 : 1 ≤ D.T := by unfold wi at h5; simp only [decide_eq_true_eq] at h5; have := h5.2 0 h5.1; omega
  by_cases h6 : chk D.W D.H D.k = 0
  · by_cases h7 : D.W = D.T
    · by_cases h8 : D.H = D.S
      · exact key 0 (by unfold Dr.ck; rw [if_neg hno, if_pos ⟨h4, h5, h6, h7, h8⟩]) (rck_ok D w hs hd h0 h1 h2 h3 s1 t1 h4 h5 h6 h7 h8)
      · exact key 8 (by unfold Dr.ck; rw [if_neg hno, if_neg]; rintro ⟨a1, a2, a3, a4, a5⟩; first | (rw [h4] at a1; cases a1; done) | (rw [h5] at a2; cases a2; done) | exact h6 a3 | exact h7 a4 | exact h8 a5) (rck_H D w hs hd h0 h1 h2 h3 s1 t1 h4 h5 h6 h7 h8)
    · exact key 8 (by unfold Dr.ck; rw [if_neg hno, if_neg]; rintro ⟨a1, a2, a3, a4, a5⟩; first | (rw [h4] at a1; cases a1; done) | (rw [h5] at a2; cases a2; done) | exact h6 a3 | exact h7 a4 | exact h8 a5) (rck_W D w hs hd h0 h1 h2 h3 s1 t1 h4 h5 h6 h7)
  · exact key 8 (by unfold Dr.ck; rw [if_neg hno, if_neg]; rintro ⟨a1, a2, a3, a4, a5⟩; first | (rw [h4] at a1; cases a1; done) | (rw [h5] at a2; cases a2; done) | exact h6 a3 | exact h7 a4 | exact h8 a5) (rck_g D w hs hd h0 h1 h2 h3 s1 t1 h4 h5 _ rfl (by simp [h6]))

theorem rck_is {D : Dr} {z : Int} (hz : D.ck = z) (hs : D.Small) (w : World) (hd : D.In w w.heap.size) :
    Calls Try.prog 29 #[.agg #[.int .i64 D.S, .int .i64 D.T, .slice D.A D.n D.c, .slice D.B D.m D.d, .int .i64 D.W, .int .i64 D.H, .slice D.C D.k D.e]] w fun e w' => e = .returned (.int .i64 z) ∧ Below w.heap.size w w' := by
  have h := rck_any D w hs hd
  rw [hz] at h
  exact h
end Go.Proofs.Ytbafhdinalapoaa
