/- GridExchange for every grid and all numbers. -/
import Derived.Test.YtnamjpdbadjgpaaExcw
namespace Go.Proofs.Ytnamjpdbadjgpaa
open Go.RowKit
set_option linter.unusedVariables false
set_option linter.unusedSimpArgs false

theorem exch_turn {W H : Nat} {dx dy : Int} {f : Nat → Bool} : ∀ i, i < H * W → fTurn W H (fShift W H dx dy f) i = fShift H W dy dx (fTurn W H f) i :=
  cells_all fun x y hx hy => by rw [at_turn hx, at_shift hy, at_shift hx, at_turn (sh_lt (by omega))]
theorem exch_c0 {W H : Nat} {f : Nat → Bool} : ∀ i, i < H * W → fTurn W H (fMir0 W f) i = fMir1 H W (fTurn W H f) i :=
  cells_all fun x y hx hy => by rw [at_turn hx, at_mir0 hy, at_mir1 hx, at_turn hx]
theorem exch_c1 {W H : Nat} {f : Nat → Bool} : ∀ i, i < H * W → fTurn W H (fMir1 W H f) i = fMir0 H (fTurn W H f) i :=
  cells_all fun x y hx hy => by rw [at_turn hx, at_mir1 hy, at_mir0 hx, at_turn (by omega)]
theorem exch_n0 {W H : Nat} {dx dy : Int} {f : Nat → Bool} : ∀ i, i < W * H → fMir0 W (fShift W H dx dy f) i = fShift W H (-dx) dy (fMir0 W f) i :=
  cells_all fun x y hx hy => by rw [at_mir0 hx, at_shift (by omega), at_shift hx, at_mir0 (sh_lt (by omega)), sh_mirror hx]
theorem exch_n1 {W H : Nat} {dx dy : Int} {f : Nat → Bool} : ∀ i, i < W * H → fMir1 W H (fShift W H dx dy f) i = fShift W H dx (-dy) (fMir1 W H f) i :=
  cells_all fun x y hx hy => by rw [at_mir1 hx, at_shift hx, at_shift hx, at_mir1 (sh_lt (by omega)), sh_mirror hy]

theorem exch_yes (W H : Nat) (A : Option Addr) (c : Nat) (f : Nat → Bool) (dx dy : Int) (w : World) (hr : Holds w w.heap.size A (W * H) f)
    (a1 : 1 ≤ W) (a2 : W ≤ 64) (a3 : 1 ≤ H) (a4 : H ≤ 64) (x1 : -1000000000 ≤ dx) (x2 : dx ≤ 1000000000) (y1 : -1000000000 ≤ dy) (y2 : dy ≤ 1000000000) :
    Calls Try.prog 9 #[.agg #[.int .i64 W, .int .i64 H, .slice A (W * H) c], .int .i64 dx, .int .i64 dy] w fun e w' => e = .returned (.bool true) ∧ Below w.heap.size w w' := by
  have h0 := fun v (b : Below w.heap.size w v) => ((hr.below b).more b.size)
  exact exch_core W H A c f (fTurn W H f) (fShift W H dx dy f) (fShift H W dy dx (fTurn W H f)) (fMir0 W f) (fMir1 H W (fTurn W H f)) (fMir0 W (fShift W H dx dy f)) (fMir1 W H f) (fMir0 H (fTurn W H f)) (fMir1 W H (fShift W H dx dy f)) dx dy w x1 x2 y1 y2
    (fun v => valid_yes W H A (W * H) c v (prod_le a2 a4) (chk_zero a1 a2 a3 a4))
    (fun v b => turn_ok W H A c f v (h0 v b) a1 a2 a3 a4)
    (fun v b => shift_ok W H A c f dx dy v (h0 v b) a1 a2 a3 a4 (by omega) (by omega) (by omega) (by omega))
    (fun v k R => (turn_ok W H _ _ _ v (R.holds R.lt) a1 a2 a3 a4).mono fun e w' o => o.congr exch_turn)
    (fun v k R => shift_ok H W _ _ _ dy dx v (R.holds R.lt) a3 a4 a1 a2 (by omega) (by omega) (by omega) (by omega))
    (fun v b => mirror_ok0 W H A c f v (h0 v b) a1 a2 a3 a4)
    (fun v k R => (turn_ok W H _ _ _ v (R.holds R.lt) a1 a2 a3 a4).mono fun e w' o => o.congr exch_c0)
    (fun v k R => mirror_ok1 H W _ _ _ v (R.holds R.lt) a3 a4 a1 a2)
    (fun v k R => mirror_ok0 W H _ _ _ v (R.holds R.lt) a1 a2 a3 a4)
    (fun v k R => (shift_ok W H _ _ _ (-dx) dy v (R.holds R.lt) a1 a2 a3 a4 (by omega) (by omega) (by omega) (by omega)).mono fun e w' o => o.congr fun i hi => (exch_n0 i hi).symm)
    (fun v b => mirror_ok1 W H A c f v (h0 v b) a1 a2 a3 a4)
    (fun v k R => (turn_ok W H _ _ _ v (R.holds R.lt) a1 a2 a3 a4).mono fun e w' o => o.congr exch_c1)
    (fun v k R => mirror_ok0 H W _ _ _ v (R.holds R.lt) a3 a4 a1 a2)
    (fun v k R => mirror_ok1 W H _ _ _ v (R.holds R.lt) a1 a2 a3 a4)
    (fun v k R => (shift_ok W H _ _ _ dx (-dy) v (R.holds R.lt) a1 a2 a3 a4 (by omega) (by omega) (by omega) (by omega)).mono fun e w' o => o.congr fun i hi => (exch_n1 i hi).symm)
    alive_yes
    (fun v k l F R1 R2 => rsame_eq W H _ _ (W * H) _ _ F v (prod_le a2 a4) (R1.holds R1.lt) (R2.holds R2.lt))
    (fun v k l F R1 R2 => rsame_eq H W _ _ (H * W) _ _ F v (prod_le a4 a2) (R1.holds R1.lt) (R2.holds R2.lt))

set_option maxRecDepth 100000 in
set_option maxHeartbeats 1000000 in
theorem exch_no (W H : Int) (A : Option Addr) (n c : Nat) (dx dy : Int) (w : World)
    (HV : ∀ v, Calls Try.prog 43 #[.agg #[.int .i64 W, .int .i64 H, .slice A n c]] v fun e w' => e = .returned (.bool false) ∧ Below v.heap.size v w') :
    Calls Try.prog 9 #[.agg #[.int .i64 W, .int .i64 H, .slice A n c], .int .i64 dx, .int .i64 dy] w fun e w' => e = .returned (.bool true) ∧ Below w.heap.size w w' := by
  have HV := Lib.hid HV
  have HA := Lib.hid alive_yes
  have L0 := Lib.hid (LA.start w W H A n c)
  go_enter Try.func9, Try.ntmps9
  obtain ⟨pz0, pz1, pz2, pz3, pz4, pz5, pz6⟩ := L0.out.a.all
  go_wp2_with fail
  refine (HV.out _).mono ?_
  rintro e u1 ⟨rfl, hb⟩
  have L1 := Lib.hid (L0.out.next hb)
  clear hb L0 pz0 pz1 pz2 pz3 pz4 pz5 pz6
  go_wp2_with fail
  refine (HA.out _).mono ?_
  rintro e u2 ⟨rfl, hb⟩
  have L2 := Lib.hid (L1.out.next hb)
  clear hb L1 
  go_wp2_with fail
  refine bodyPost_ret (v := .bool true) (by simp [results, Try.results9, go_sem]) rfl ⟨rfl, L2.out.bel⟩
set_option maxRecDepth 100000 in
set_option maxHeartbeats 1000000 in
theorem exch_far (W H : Int) (A : Option Addr) (n c : Nat) (dx dy : Int) (w : World)
    (HV : ∀ v, Calls Try.prog 43 #[.agg #[.int .i64 W, .int .i64 H, .slice A n c]] v fun e w' => e = .returned (.bool true) ∧ Below v.heap.size v w')
    (h : dx < -1000000000 ∨ (¬ dx < -1000000000 ∧ 1000000000 < dx) ∨ (¬ dx < -1000000000 ∧ ¬ 1000000000 < dx ∧ dy < -1000000000) ∨ (¬ dx < -1000000000 ∧ ¬ 1000000000 < dx ∧ ¬ dy < -1000000000 ∧ 1000000000 < dy)) :
    Calls Try.prog 9 #[.agg #[.int .i64 W, .int .i64 H, .slice A n c], .int .i64 dx, .int .i64 dy] w fun e w' => e = .returned (.bool true) ∧ Below w.heap.size w w' := by
  rcases h with h1 | ⟨h1, h2⟩ | ⟨h1, h2, h3⟩ | ⟨h1, h2, h3, h4⟩
  all_goals
    have HV := Lib.hid HV
    have HA := Lib.hid alive_yes
    have L0 := Lib.hid (LA.start w W H A n c)
    go_enter Try.func9, Try.ntmps9
    obtain ⟨pz0, pz1, pz2, pz3, pz4, pz5, pz6⟩ := L0.out.a.all
    go_wp2_with fail
    refine (HV.out _).mono ?_
    rintro e u1 ⟨rfl, hb⟩
    have L1 := Lib.hid (L0.out.next hb)
    clear hb L0 pz0 pz1 pz2 pz3 pz4 pz5 pz6
    go_wp2_with fail
    refine (HA.out _).mono ?_
    rintro e u2 ⟨rfl, hb⟩
    have L2 := Lib.hid (L1.out.next hb)
    clear hb L1 
    go_wp2_with fail
    refine bodyPost_ret (v := .bool true) (by simp [results, Try.results9, go_sem]) rfl ⟨rfl, L2.out.bel⟩
theorem exch_any (W H : Int) (A : Option Addr) (n c : Nat) (f : Nat → Bool) (dx dy : Int) (w : World) (hr : Holds w w.heap.size A n f) :
    Calls Try.prog 9 #[.agg #[.int .i64 W, .int .i64 H, .slice A n c], .int .i64 dx, .int .i64 dy] w fun e w' => e = .returned (.bool true) ∧ Below w.heap.size w w' := by
  by_cases hn : 4200 < n
  · exact exch_no W H A n c dx dy w fun v => valid_great W H A n c v hn
  by_cases h0 : chk W H n = 0
  · by_cases h1 : dx < -1000000000
    · exact exch_far W H A n c dx dy w (fun v => valid_yes W H A n c v (by omega) h0) (.inl h1)
    by_cases h2 : 1000000000 < dx
    · exact exch_far W H A n c dx dy w (fun v => valid_yes W H A n c v (by omega) h0) (.inr (.inl ⟨h1, h2⟩))
    by_cases h3 : dy < -1000000000
    · exact exch_far W H A n c dx dy w (fun v => valid_yes W H A n c v (by omega) h0) (.inr (.inr (.inl ⟨h1, h2, h3⟩)))
    by_cases h4 : 1000000000 < dy
    · exact exch_far W H A n c dx dy w (fun v => valid_yes W H A n c v (by omega) h0) (.inr (.inr (.inr ⟨h1, h2, h3, h4⟩)))
    obtain ⟨P, Q, rfl, rfl, rfl, a1, a2, a3, a4⟩ := chk_nat h0
    exact exch_yes P Q A c f dx dy w hr a1 a2 a3 a4 (by omega) (by omega) (by omega) (by omega)
  · exact exch_no W H A n c dx dy w fun v => valid_no W H A n c v (by omega) h0
end Go.Proofs.Ytnamjpdbadjgpaa
