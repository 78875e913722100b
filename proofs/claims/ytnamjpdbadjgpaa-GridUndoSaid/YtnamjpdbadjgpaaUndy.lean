/- GridUndo for every grid and all numbers. -/
import Derived.Test.YtnamjpdbadjgpaaUndw
namespace Go.Proofs.Ytnamjpdbadjgpaa
open Go.RowKit
set_option linter.unusedVariables false
set_option linter.unusedSimpArgs false

theorem rows_same (X Y : Nat) (hX : X ≤ 64) (hY : Y ≤ 64) (v : World) (k l : Nat) (F : Nat → Bool) (h1 : Row v k (X * Y) F) (h2 : Row v l (X * Y) F) :
    Calls Try.prog 32 #[.agg #[.int .i64 X, .int .i64 Y, .slice (some ⟨k, 0, none⟩) (X * Y) (X * Y)], .agg #[.int .i64 X, .int .i64 Y, .slice (some ⟨l, 0, none⟩) (X * Y) (X * Y)]] v fun e w' => e = .returned (.bool true) ∧ Below v.heap.size v w' :=
  rsame_eq X Y _ _ (X * Y) _ _ F v (prod_le hX hY) (h1.holds h1.lt) (h2.holds h2.lt)

theorem undo_yes (W H : Nat) (A : Option Addr) (c : Nat) (f : Nat → Bool) (dx dy nx ny : Int) (w : World) (hr : Holds w w.heap.size A (W * H) f)
    (a1 : 1 ≤ W) (a2 : W ≤ 64) (a3 : 1 ≤ H) (a4 : H ≤ 64) (x1 : -1000000000 ≤ dx) (x2 : dx ≤ 1000000000) (y1 : -1000000000 ≤ dy) (y2 : dy ≤ 1000000000) :
    Calls Try.prog 8 #[.agg #[.int .i64 W, .int .i64 H, .slice A (W * H) c], .int .i64 dx, .int .i64 dy, .int .i64 nx, .int .i64 ny] w fun e w' => e = .returned (.bool true) ∧ Below w.heap.size w w' := by
  have h0 := fun v (b : Below w.heap.size w v) => ((hr.below b).more b.size)
  refine undo_core W H A c f (fTurn W H f) (fun i => !f i) (fShift W H dx dy f) (fMir0 W f) (fMir1 W H f) dx dy nx ny w a1 a2 a3 a4 x1 x2 y1 y2
    (fun v => valid_yes W H A (W * H) c v (prod_le a2 a4) (chk_zero a1 a2 a3 a4))
    (fun v b => turn_ok W H A c f v (h0 v b) a1 a2 a3 a4)
    (fun v k R => (turn_ok H W _ _ _ v (R.holds R.lt) a3 a4 a1 a2).mono fun e w' o => o.congr turn_turn)
    (fun v b => not_ok W H A c f v (h0 v b) a1 a2 a3 a4)
    (fun v k R => (not_ok W H _ _ _ v (R.holds R.lt) a1 a2 a3 a4).mono fun e w' o => o.congr not_not_)
    (fun v b => shift_ok W H A c f dx dy v (h0 v b) a1 a2 a3 a4 (by omega) (by omega) (by omega) (by omega))
    (fun v k R => (shift_ok W H _ _ _ (-dx) (-dy) v (R.holds R.lt) a1 a2 a3 a4 (by omega) (by omega) (by omega) (by omega)).mono fun e w' o => o.congr shift_back)
    (fun v b => mirror_ok0 W H A c f v (h0 v b) a1 a2 a3 a4)
    (fun v k R => (mirror_ok0 W H _ _ _ v (R.holds R.lt) a1 a2 a3 a4).mono fun e w' o => o.congr mir0_mir0)
    (fun v b => mirror_ok1 W H A c f v (h0 v b) a1 a2 a3 a4)
    (fun v k R => (mirror_ok1 W H _ _ _ v (R.holds R.lt) a1 a2 a3 a4).mono fun e w' o => o.congr mir1_mir1)
    (fun v k b R => rsame_eq W H _ A (W * H) _ c f v (prod_le a2 a4) (R.holds R.lt) (h0 v b))
    alive_yes ?_
  by_cases t1 : nx < 1
  · exact .inl ⟨2, by decide, .inl t1, fun v _ => tile_arg1 W H A c nx ny v a1 a2 a3 a4 t1⟩
  by_cases t2 : ny < 1
  · exact .inl ⟨2, by decide, .inr (.inl ⟨t1, t2⟩), fun v _ => tile_arg2 W H A c nx ny v a1 a2 a3 a4 t1 t2⟩
  by_cases t3 : (64 : Int) / (W : Int) < nx
  · exact .inl ⟨4, by decide, .inr (.inr (.inl ⟨t1, t2, t3⟩)), fun v _ => tile_many1 W H A c nx ny v a1 a2 a3 a4 t1 t2 t3⟩
  by_cases t4 : (64 : Int) / (H : Int) < ny
  · exact .inl ⟨4, by decide, .inr (.inr (.inr ⟨t1, t2, t3, t4⟩)), fun v _ => tile_many2 W H A c nx ny v a1 a2 a3 a4 t1 t2 t3 t4⟩
  obtain ⟨n, rfl⟩ := Int.eq_ofNat_of_zero_le (show 0 ≤ nx by omega)
  obtain ⟨m, rfl⟩ := Int.eq_ofNat_of_zero_le (show 0 ≤ ny by omega)
  have hP := (quo_le a1).1 t3
  have hQ := (quo_le a3).1 t4
  have n1 : 1 ≤ n := by omega
  have m1 : 1 ≤ m := by omega
  have lP : 1 * W ≤ n * W := Nat.mul_le_mul_right W n1
  have lQ : 1 * H ≤ m * H := Nat.mul_le_mul_right H m1
  have eP : ((n * W - W : Nat) : Int) = ((n * W : Nat) : Int) - (W : Int) := by omega
  have eQ : ((m * H - H : Nat) : Int) = ((m * H : Nat) : Int) - (H : Int) := by omega
  refine .inr ⟨n * W, m * H, fTile (n * W) W H f, hP, hQ, by omega, by omega, fun v b => tile_ok W H A c n m v a1 a2 a3 a4 f (h0 v b) n1 m1 hP hQ, ?_, ?_, ?_, ?_⟩
  · intro v k R
    rw [← eP, ← eQ]
    exact (part_ok (n * W) (m * H) _ _ (n * W - W) (m * H - H) W H v (by omega) hP (by omega) hQ _ (R.holds R.lt) a1 (by omega) a3 (by omega)).mono fun e w' o => o.congr (part_tile1 n1 m1)
  · intro v k R
    exact (part_ok (n * W) (m * H) _ _ 0 0 W H v (by omega) hP (by omega) hQ _ (R.holds R.lt) a1 (by omega) a3 (by omega)).mono fun e w' o => o.congr (part_tile0 n1)
  · intro v k R
    exact (shift_ok (n * W) (m * H) _ _ _ W (-(H : Int)) v (R.holds R.lt) (by omega) hP (by omega) hQ (by omega) (by omega) (by omega) (by omega)).mono fun e w' o => o.congr (shift_tile n1 m1)
  · intro v k l R1 R2
    exact rows_same (n * W) (m * H) hP hQ v k l _ R1 R2

set_option maxRecDepth 100000 in
set_option maxHeartbeats 1000000 in
theorem undo_no (W H : Int) (A : Option Addr) (n c : Nat) (dx dy nx ny : Int) (w : World)
    (HV : ∀ v, Calls Try.prog 43 #[.agg #[.int .i64 W, .int .i64 H, .slice A n c]] v fun e w' => e = .returned (.bool false) ∧ Below v.heap.size v w') :
    Calls Try.prog 8 #[.agg #[.int .i64 W, .int .i64 H, .slice A n c], .int .i64 dx, .int .i64 dy, .int .i64 nx, .int .i64 ny] w fun e w' => e = .returned (.bool true) ∧ Below w.heap.size w w' := by
  have HV := Lib.hid HV
  have HA := Lib.hid alive_yes
  have L0 := Lib.hid (LA.start w W H A n c)
  go_enter Try.func8, Try.ntmps8
  obtain ⟨pz0, pz1, pz2, pz3, pz4, pz5, pz6⟩ := L0.out.a.all
  go_wp2_with fail
  refine (HV.out _).mono ?_
  rintro e u1 ⟨rfl, hb⟩
  have L1 := Lib.hid (L0.out.next hb)
  clear hb L0 pz0 pz1 pz2 pz3 pz4 pz5 pz6
  go_wp2_with fail
  refine (HA.out _).mono ?_
  rintro e u2 ⟨rfl, hb⟩
  have L2 := Lib.hid (L1.out.next hb)
  clear hb L1 
  go_wp2_with fail
  refine bodyPost_ret (v := .bool true) (by simp [results, Try.results8, go_sem]) rfl ⟨rfl, L2.out.bel⟩
set_option maxRecDepth 100000 in
set_option maxHeartbeats 1000000 in
theorem undo_far (W H : Int) (A : Option Addr) (n c : Nat) (dx dy nx ny : Int) (w : World)
    (HV : ∀ v, Calls Try.prog 43 #[.agg #[.int .i64 W, .int .i64 H, .slice A n c]] v fun e w' => e = .returned (.bool true) ∧ Below v.heap.size v w')
    (h : dx < -1000000000 ∨ (¬ dx < -1000000000 ∧ 1000000000 < dx) ∨ (¬ dx < -1000000000 ∧ ¬ 1000000000 < dx ∧ dy < -1000000000) ∨ (¬ dx < -1000000000 ∧ ¬ 1000000000 < dx ∧ ¬ dy < -1000000000 ∧ 1000000000 < dy)) :
    Calls Try.prog 8 #[.agg #[.int .i64 W, .int .i64 H, .slice A n c], .int .i64 dx, .int .i64 dy, .int .i64 nx, .int .i64 ny] w fun e w' => e = .returned (.bool true) ∧ Below w.heap.size w w' := by
  rcases h with h1 | ⟨h1, h2⟩ | ⟨h1, h2, h3⟩ | ⟨h1, h2, h3, h4⟩
  all_goals
    have HV := Lib.hid HV
    have HA := Lib.hid alive_yes
    have L0 := Lib.hid (LA.start w W H A n c)
    go_enter Try.func8, Try.ntmps8
    obtain ⟨pz0, pz1, pz2, pz3, pz4, pz5, pz6⟩ := L0.out.a.all
    go_wp2_with fail
    refine (HV.out _).mono ?_
    rintro e u1 ⟨rfl, hb⟩
    have L1 := Lib.hid (L0.out.next hb)
    clear hb L0 pz0 pz1 pz2 pz3 pz4 pz5 pz6
    go_wp2_with fail
    refine (HA.out _).mono ?_
    rintro e u2 ⟨rfl, hb⟩
    have L2 := Lib.hid (L1.out.next hb)
    clear hb L1 
    go_wp2_with fail
    refine bodyPost_ret (v := .bool true) (by simp [results, Try.results8, go_sem]) rfl ⟨rfl, L2.out.bel⟩
theorem undo_any (W H : Int) (A : Option Addr) (n c : Nat) (f : Nat → Bool) (dx dy nx ny : Int) (w : World) (hr : Holds w w.heap.size A n f) :
    Calls Try.prog 8 #[.agg #[.int .i64 W, .int .i64 H, .slice A n c], .int .i64 dx, .int .i64 dy, .int .i64 nx, .int .i64 ny] w fun e w' => e = .returned (.bool true) ∧ Below w.heap.size w w' := by
  by_cases hn : 4200 < n
  · exact undo_no W H A n c dx dy nx ny w fun v => valid_great W H A n c v hn
  by_cases h0 : chk W H n = 0
  · by_cases h1 : dx < -1000000000
    · exact undo_far W H A n c dx dy nx ny w (fun v => valid_yes W H A n c v (by omega) h0) (.inl h1)
    by_cases h2 : 1000000000 < dx
    · exact undo_far W H A n c dx dy nx ny w (fun v => valid_yes W H A n c v (by omega) h0) (.inr (.inl ⟨h1, h2⟩))
    by_cases h3 : dy < -1000000000
    · exact undo_far W H A n c dx dy nx ny w (fun v => valid_yes W H A n c v (by omega) h0) (.inr (.inr (.inl ⟨h1, h2, h3⟩)))
    by_cases h4 : 1000000000 < dy
    · exact undo_far W H A n c dx dy nx ny w (fun v => valid_yes W H A n c v (by omega) h0) (.inr (.inr (.inr ⟨h1, h2, h3, h4⟩)))
    obtain ⟨P, Q, rfl, rfl, rfl, a1, a2, a3, a4⟩ := chk_nat h0
    exact undo_yes P Q A c f dx dy nx ny w hr a1 a2 a3 a4 (by omega) (by omega) (by omega) (by omega)
  · exact undo_no W H A n c dx dy nx ny w fun v => valid_no W H A n c v (by omega) h0
end Go.Proofs.Ytnamjpdbadjgpaa
