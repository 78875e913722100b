/- GridAlgebra for all grids and all numbers. -/
import Derived.Test.YtnamjpdbadjgpaaAlgw
namespace Go.Proofs.Ytnamjpdbadjgpaa
open Go.RowKit
set_option linter.unusedVariables false
set_option linter.unusedSimpArgs false

theorem and_ok (W H : Nat) (A D : Option Addr) (c d : Nat) (f g : Nat → Bool) (w : World) (hr : Holds w w.heap.size A (W * H) f) (hs : Holds w w.heap.size D (W * H) g) (a1 : 1 ≤ W) (a2 : W ≤ 64) (a3 : 1 ≤ H) (a4 : H ≤ 64) :
    Calls Try.prog 16 #[.agg #[.int .i64 W, .int .i64 H, .slice A (W * H) c], .agg #[.int .i64 W, .int .i64 H, .slice D (W * H) d]] w (OkGrid w W H fun i => (f i && g i)) :=
  and_of_ok W H W H A D (W * H) (W * H) c d w W H _ fun w' b => comb_and_ok W H A D c d f g w' ((hr.below b).more b.size) ((hs.below b).more b.size) a1 a2 a3 a4
theorem or_ok (W H : Nat) (A D : Option Addr) (c d : Nat) (f g : Nat → Bool) (w : World) (hr : Holds w w.heap.size A (W * H) f) (hs : Holds w w.heap.size D (W * H) g) (a1 : 1 ≤ W) (a2 : W ≤ 64) (a3 : 1 ≤ H) (a4 : H ≤ 64) :
    Calls Try.prog 17 #[.agg #[.int .i64 W, .int .i64 H, .slice A (W * H) c], .agg #[.int .i64 W, .int .i64 H, .slice D (W * H) d]] w (OkGrid w W H fun i => (f i || g i)) :=
  or_of_ok W H W H A D (W * H) (W * H) c d w W H _ fun w' b => comb_or_ok W H A D c d f g w' ((hr.below b).more b.size) ((hs.below b).more b.size) a1 a2 a3 a4

theorem cnt_eq (f : Nat → Bool) (k : Nat) : cnt f k = (List.range k).countP f := by
  induction k with
  | zero => rfl
  | succ k ih =>
    rw [List.range_succ, List.countP_append, ← ih, List.countP_singleton]
    rfl
theorem cnt_congr {f g : Nat → Bool} {N : Nat} (h : ∀ i, i < N → f i = g i) : cnt f N = cnt g N := by
  induction N with
  | zero => rfl
  | succ k ih =>
    unfold cnt
    rw [ih fun i hi => h i (by omega), h k (by omega)]
theorem cnt_perm (f : Nat → Bool) (σ τ : Nat → Nat) (N : Nat) (h1 : ∀ i, i < N → σ i < N ∧ τ (σ i) = i) (h2 : ∀ i, i < N → τ i < N ∧ σ (τ i) = i) : cnt (fun i => f (σ i)) N = cnt f N := by
  rw [cnt_eq, cnt_eq]
  have e : (List.range N).countP (fun i => f (σ i)) = ((List.range N).map σ).countP f := by rw [List.countP_map]; rfl
  rw [e]
  refine List.Perm.countP_eq f ?_
  refine (List.perm_ext_iff_of_nodup ?_ List.nodup_range).2 fun a => ?_
  · rw [List.nodup_iff_pairwise_ne, List.pairwise_map]
    refine List.Pairwise.imp_of_mem (R := fun x y => x ≠ y) ?_ (List.nodup_iff_pairwise_ne.1 List.nodup_range)
    intro x y hx hy hne he
    have a := (h1 x (List.mem_range.1 hx)).2
    have b := (h1 y (List.mem_range.1 hy)).2
    rw [he] at a
    exact hne (a.symm.trans b)
  · simp only [List.mem_map, List.mem_range]
    constructor
    · rintro ⟨b, hb, rfl⟩; exact (h1 b hb).1
    · intro ha; exact ⟨τ a, (h2 a ha).1, (h2 a ha).2⟩
theorem cnt_and_or (f g : Nat → Bool) (N : Nat) : cnt f N + cnt g N = cnt (fun i => (f i && g i)) N + cnt (fun i => (f i || g i)) N := by
  induction N with
  | zero => rfl
  | succ k ih =>
    unfold cnt
    cases f k <;> cases g k <;> simp <;> omega
theorem cnt_not (f : Nat → Bool) (N : Nat) : cnt f N + cnt (fun i => !f i) N = N := by
  induction N with
  | zero => rfl
  | succ k ih =>
    unfold cnt
    cases f k <;> simp <;> omega
theorem cells_lt {W H i : Nat} (hi : i < W * H) : i % W < W ∧ i / W < H ∧ i / W * W + i % W = i := by
  have hW : 0 < W := by rcases Nat.eq_zero_or_pos W with h | h; · subst h; simp at hi
                        · exact h
  exact ⟨Nat.mod_lt _ hW, Nat.div_lt_of_lt_mul hi, by rw [Nat.mul_comm, Nat.div_add_mod]⟩
theorem cnt_turn (W H : Nat) (f : Nat → Bool) : cnt (fTurn W H f) (H * W) = cnt f (W * H) := by
  have e : H * W = W * H := Nat.mul_comm _ _
  rw [e]
  refine cnt_perm f (fun i => i % H * W + i / H) (fun i => i % W * H + i / W) (W * H) ?_ ?_
  · intro i hi
    obtain ⟨l1, l2, l3⟩ := cells_lt (W := H) (H := W) (by omega : i < H * W)
    refine ⟨in_grid l2 l1, ?_⟩
    obtain ⟨e1, e2⟩ := co (i % H) l2
    show (i % H * W + i / H) % W * H + (i % H * W + i / H) / W = i
    rw [e1, e2]; exact l3
  · intro i hi
    obtain ⟨l1, l2, l3⟩ := cells_lt hi
    refine ⟨e ▸ in_grid l2 l1, ?_⟩
    obtain ⟨e1, e2⟩ := co (i % W) l2
    show (i % W * H + i / W) % H * W + (i % W * H + i / W) / H = i
    rw [e1, e2]; exact l3
theorem cnt_shift (W H : Nat) (dx dy : Int) (f : Nat → Bool) : cnt (fShift W H dx dy f) (W * H) = cnt f (W * H) := by
  have e : cnt (fShift W H dx dy f) (W * H) = cnt (fun i => f (sh H dy (i / W) * W + sh W dx (i % W))) (W * H) :=
    cnt_congr (cells_all fun x y hx hy => by
      obtain ⟨e1, e2⟩ := co y hx
      rw [at_shift hx, e1, e2])
  rw [e]
  refine cnt_perm f (fun i => sh H dy (i / W) * W + sh W dx (i % W)) (fun i => sh H (-dy) (i / W) * W + sh W (-dx) (i % W)) (W * H) ?_ ?_
  · intro i hi
    obtain ⟨l1, l2, l3⟩ := cells_lt hi
    have m1 := sh_lt (N := W) (d := dx) (z := i % W) (Nat.lt_of_le_of_lt (Nat.zero_le _) l1)
    have m2 := sh_lt (N := H) (d := dy) (z := i / W) (Nat.lt_of_le_of_lt (Nat.zero_le _) l2)
    refine ⟨in_grid m1 m2, ?_⟩
    obtain ⟨e1, e2⟩ := co (sh H dy (i / W)) m1
    show sh H (-dy) ((sh H dy (i / W) * W + sh W dx (i % W)) / W) * W + sh W (-dx) ((sh H dy (i / W) * W + sh W dx (i % W)) % W) = i
    rw [e1, e2, sh_back l1, sh_back l2]; exact l3
  · intro i hi
    obtain ⟨l1, l2, l3⟩ := cells_lt hi
    have m1 := sh_lt (N := W) (d := -dx) (z := i % W) (Nat.lt_of_le_of_lt (Nat.zero_le _) l1)
    have m2 := sh_lt (N := H) (d := -dy) (z := i / W) (Nat.lt_of_le_of_lt (Nat.zero_le _) l2)
    refine ⟨in_grid m1 m2, ?_⟩
    obtain ⟨e1, e2⟩ := co (sh H (-dy) (i / W)) m1
    show sh H dy ((sh H (-dy) (i / W) * W + sh W (-dx) (i % W)) / W) * W + sh W dx ((sh H (-dy) (i / W) * W + sh W (-dx) (i % W)) % W) = i
    rw [e1, e2, sh_back' l1, sh_back' l2]; exact l3

theorem alg_yes (W H : Nat) (A D : Option Addr) (c d : Nat) (f g : Nat → Bool) (dx dy : Int) (w : World) (hr : Holds w w.heap.size A (W * H) f) (hs : Holds w w.heap.size D (W * H) g)
    (a1 : 1 ≤ W) (a2 : W ≤ 64) (a3 : 1 ≤ H) (a4 : H ≤ 64) (x0 : -9223372036854775808 ≤ dx) (x1 : dx ≤ 9223372036854775807) (y0 : -9223372036854775808 ≤ dy) (y1 : dy ≤ 9223372036854775807) :
    Calls Try.prog 10 #[.agg #[.int .i64 W, .int .i64 H, .slice A (W * H) c], .agg #[.int .i64 W, .int .i64 H, .slice D (W * H) d], .int .i64 dx, .int .i64 dy] w fun e w' => e = .returned (.bool true) ∧ Below w.heap.size w w' := by
  have h0 := fun v (b : Below w.heap.size w v) => ((hr.below b).more b.size)
  have g0 := fun v (b : Below w.heap.size w v) => ((hs.below b).more b.size)
  have hN : W * H ≤ 4096 := Nat.mul_le_mul a2 a4
  have cl := fun F => Nat.le_trans (cnt_le F (W * H)) hN
  refine alg_core W H A D c d (fun i => (f i && g i)) (fun i => (f i || g i)) (fun i => !f i) (fun i => !g i) (fun i => (!f i && !g i)) (fShift W H dx dy f) (fTurn W H f) dx dy
    (cnt f (W * H)) (cnt g (W * H)) (cnt (fun i => (f i && g i)) (W * H)) (cnt (fun i => (f i || g i)) (W * H)) (cnt (fun i => !f i) (W * H)) w a1 a2 a3 a4
    (by omega) (by have := cl f; omega) (by omega) (by have := cl g; omega) (by omega) (by have := cl (fun i => (f i && g i)); omega) (by omega) (by have := cl (fun i => (f i || g i)); omega) (by omega) (by have := cl (fun i => !f i); omega)
    (by have := cnt_and_or f g (W * H); omega) (by rw [← Int.natCast_mul]; have := cnt_not f (W * H); omega)
    (fun v => valid_yes W H A (W * H) c v (prod_le a2 a4) (chk_zero a1 a2 a3 a4))
    (fun v => valid_yes W H D (W * H) d v (prod_le a2 a4) (chk_zero a1 a2 a3 a4))
    (fun v b => and_ok W H A D c d f g v (h0 v b) (g0 v b) a1 a2 a3 a4)
    (fun v b => or_ok W H A D c d f g v (h0 v b) (g0 v b) a1 a2 a3 a4)
    (fun v b => not_ok W H A c f v (h0 v b) a1 a2 a3 a4)
    (fun v b => not_ok W H D d g v (g0 v b) a1 a2 a3 a4)
    (fun v k l R1 R2 => and_ok W H _ _ _ _ _ _ v (R1.holds R1.lt) (R2.holds R2.lt) a1 a2 a3 a4)
    (fun v k R => (not_ok W H _ _ _ v (R.holds R.lt) a1 a2 a3 a4).mono fun e w' o => o.congr fun i _ => by simp)
    (fun v k l R1 R2 => rsame_eq W H _ _ (W * H) _ _ _ v (prod_le a2 a4) (R1.holds R1.lt) (R2.holds R2.lt))
    (fun v b => count_ok W H A c f v (h0 v b) a1 a2 a3 a4)
    (fun v b => count_ok W H D d g v (g0 v b) a1 a2 a3 a4)
    (fun v k R => count_ok W H _ _ _ v (R.holds R.lt) a1 a2 a3 a4)
    (fun v k R => count_ok W H _ _ _ v (R.holds R.lt) a1 a2 a3 a4)
    (fun v k R => count_ok W H _ _ _ v (R.holds R.lt) a1 a2 a3 a4)
    (fun v b => shift_ok W H A c f dx dy v (h0 v b) a1 a2 a3 a4 x0 x1 y0 y1)
    (fun v k R => by have h := count_ok W H _ (W * H) _ v (R.holds R.lt) a1 a2 a3 a4; rw [cnt_shift] at h; exact h)
    (fun v b => turn_ok W H A c f v (h0 v b) a1 a2 a3 a4)
    (fun v k R => by have h := count_ok H W _ (H * W) _ v (R.holds R.lt) a3 a4 a1 a2; rw [cnt_turn] at h; exact h)
    alive_yes

set_option maxRecDepth 100000 in
set_option maxHeartbeats 1000000 in
theorem alg_no1 (W H X Y : Int) (A D : Option Addr) (n c m d : Nat) (dx dy : Int) (w : World)
    (HVa : ∀ v, Calls Try.prog 43 #[.agg #[.int .i64 W, .int .i64 H, .slice A n c]] v fun e w' => e = .returned (.bool false) ∧ Below v.heap.size v w') :
    Calls Try.prog 10 #[.agg #[.int .i64 W, .int .i64 H, .slice A n c], .agg #[.int .i64 X, .int .i64 Y, .slice D m d], .int .i64 dx, .int .i64 dy] w fun e w' => e = .returned (.bool true) ∧ Below w.heap.size w w' := by
  have HVa := Lib.hid HVa
  have HA := Lib.hid alive_yes
  have L0 := Lib.hid (LB.start w W H X Y A D n c m d)
  go_enter Try.func10, Try.ntmps10
  obtain ⟨pz0, pz1, pz2, pz3, pz4, pz5, pz6⟩ := L0.out.a.all
  obtain ⟨py0, py1, py2, py3, py4, py5, py6⟩ := L0.out.b.all
  go_wp2_with fail
  refine (HVa.out _).mono ?_
  rintro e u1 ⟨rfl, hb⟩
  have L1 := Lib.hid (L0.out.next hb)
  clear hb L0 pz0 pz1 pz2 pz3 pz4 pz5 pz6 py0 py1 py2 py3 py4 py5 py6
  obtain ⟨pz0, pz1, pz2, pz3, pz4, pz5, pz6⟩ := L1.out.a.all
  obtain ⟨py0, py1, py2, py3, py4, py5, py6⟩ := L1.out.b.all
  go_wp2_with fail
  refine (HA.out _).mono ?_
  rintro e u2 ⟨rfl, hb⟩
  have L2 := Lib.hid (L1.out.next hb)
  clear hb L1 pz0 pz1 pz2 pz3 pz4 pz5 pz6 py0 py1 py2 py3 py4 py5 py6
  go_wp2_with fail
  refine bodyPost_ret (v := .bool true) (by simp [results, Try.results10, go_sem]) rfl ⟨rfl, L2.out.bel⟩
set_option maxRecDepth 100000 in
set_option maxHeartbeats 1000000 in
theorem alg_no2 (W H X Y : Int) (A D : Option Addr) (n c m d : Nat) (dx dy : Int) (w : World)
    (HVa : ∀ v, Calls Try.prog 43 #[.agg #[.int .i64 W, .int .i64 H, .slice A n c]] v fun e w' => e = .returned (.bool true) ∧ Below v.heap.size v w')
    (HVb : ∀ v, Calls Try.prog 43 #[.agg #[.int .i64 X, .int .i64 Y, .slice D m d]] v fun e w' => e = .returned (.bool false) ∧ Below v.heap.size v w') :
    Calls Try.prog 10 #[.agg #[.int .i64 W, .int .i64 H, .slice A n c], .agg #[.int .i64 X, .int .i64 Y, .slice D m d], .int .i64 dx, .int .i64 dy] w fun e w' => e = .returned (.bool true) ∧ Below w.heap.size w w' := by
  have HVa := Lib.hid HVa
  have HVb := Lib.hid HVb
  have HA := Lib.hid alive_yes
  have L0 := Lib.hid (LB.start w W H X Y A D n c m d)
  go_enter Try.func10, Try.ntmps10
  obtain ⟨pz0, pz1, pz2, pz3, pz4, pz5, pz6⟩ := L0.out.a.all
  obtain ⟨py0, py1, py2, py3, py4, py5, py6⟩ := L0.out.b.all
  go_wp2_with fail
  refine (HVa.out _).mono ?_
  rintro e u1 ⟨rfl, hb⟩
  have L1 := Lib.hid (L0.out.next hb)
  clear hb L0 pz0 pz1 pz2 pz3 pz4 pz5 pz6 py0 py1 py2 py3 py4 py5 py6
  obtain ⟨pz0, pz1, pz2, pz3, pz4, pz5, pz6⟩ := L1.out.a.all
  obtain ⟨py0, py1, py2, py3, py4, py5, py6⟩ := L1.out.b.all
  go_wp2_with fail
  refine (HVb.out _).mono ?_
  rintro e u2 ⟨rfl, hb⟩
  have L2 := Lib.hid (L1.out.next hb)
  clear hb L1 pz0 pz1 pz2 pz3 pz4 pz5 pz6 py0 py1 py2 py3 py4 py5 py6
  obtain ⟨pz0, pz1, pz2, pz3, pz4, pz5, pz6⟩ := L2.out.a.all
  obtain ⟨py0, py1, py2, py3, py4, py5, py6⟩ := L2.out.b.all
  go_wp2_with fail
  refine (HA.out _).mono ?_
  rintro e u3 ⟨rfl, hb⟩
  have L3 := Lib.hid (L2.out.next hb)
  clear hb L2 pz0 pz1 pz2 pz3 pz4 pz5 pz6 py0 py1 py2 py3 py4 py5 py6
  go_wp2_with fail
  refine bodyPost_ret (v := .bool true) (by simp [results, Try.results10, go_sem]) rfl ⟨rfl, L3.out.bel⟩
set_option maxRecDepth 100000 in
set_option maxHeartbeats 1000000 in
theorem alg_ne (W H X Y : Int) (A D : Option Addr) (n c m d : Nat) (dx dy : Int) (w : World)
    (HVa : ∀ v, Calls Try.prog 43 #[.agg #[.int .i64 W, .int .i64 H, .slice A n c]] v fun e w' => e = .returned (.bool true) ∧ Below v.heap.size v w')
    (HVb : ∀ v, Calls Try.prog 43 #[.agg #[.int .i64 X, .int .i64 Y, .slice D m d]] v fun e w' => e = .returned (.bool true) ∧ Below v.heap.size v w')
    (hne : ¬ (W = X ∧ H = Y)) :
    Calls Try.prog 10 #[.agg #[.int .i64 W, .int .i64 H, .slice A n c], .agg #[.int .i64 X, .int .i64 Y, .slice D m d], .int .i64 dx, .int .i64 dy] w fun e w' => e = .returned (.bool true) ∧ Below w.heap.size w w' := by
  have hcase : ((W != X) = true) ∨ ((W != X) = false ∧ (H != Y) = true) := by
    by_cases e : W = X
    · refine .inr ⟨by simp [e], ?_⟩
      simp
      exact fun h => hne ⟨e, h⟩
    · exact .inl (by simp [e])
  clear hne
  rcases hcase with z1 | ⟨z1, z2⟩
  all_goals
    have HVa := Lib.hid HVa
    have HVb := Lib.hid HVb
    have HA := Lib.hid alive_yes
    have L0 := Lib.hid (LB.start w W H X Y A D n c m d)
    go_enter Try.func10, Try.ntmps10
    obtain ⟨pz0, pz1, pz2, pz3, pz4, pz5, pz6⟩ := L0.out.a.all
    obtain ⟨py0, py1, py2, py3, py4, py5, py6⟩ := L0.out.b.all
    go_wp2_with fail
    refine (HVa.out _).mono ?_
    rintro e u1 ⟨rfl, hb⟩
    have L1 := Lib.hid (L0.out.next hb)
    clear hb L0 pz0 pz1 pz2 pz3 pz4 pz5 pz6 py0 py1 py2 py3 py4 py5 py6
    obtain ⟨pz0, pz1, pz2, pz3, pz4, pz5, pz6⟩ := L1.out.a.all
    obtain ⟨py0, py1, py2, py3, py4, py5, py6⟩ := L1.out.b.all
    go_wp2_with fail
    refine (HVb.out _).mono ?_
    rintro e u2 ⟨rfl, hb⟩
    have L2 := Lib.hid (L1.out.next hb)
    clear hb L1 pz0 pz1 pz2 pz3 pz4 pz5 pz6 py0 py1 py2 py3 py4 py5 py6
    obtain ⟨pz0, pz1, pz2, pz3, pz4, pz5, pz6⟩ := L2.out.a.all
    obtain ⟨py0, py1, py2, py3, py4, py5, py6⟩ := L2.out.b.all
    go_wp2_with fail
    refine (HA.out _).mono ?_
    rintro e u3 ⟨rfl, hb⟩
    have L3 := Lib.hid (L2.out.next hb)
    clear hb L2 pz0 pz1 pz2 pz3 pz4 pz5 pz6 py0 py1 py2 py3 py4 py5 py6
    go_wp2_with fail
    refine bodyPost_ret (v := .bool true) (by simp [results, Try.results10, go_sem]) rfl ⟨rfl, L3.out.bel⟩
theorem alg_any (W H X Y : Int) (A D : Option Addr) (n c m d : Nat) (f g : Nat → Bool) (dx dy : Int) (w : World) (hr : Holds w w.heap.size A n f) (hs : Holds w w.heap.size D m g)
    (x0 : -9223372036854775808 ≤ dx) (x1 : dx ≤ 9223372036854775807) (y0 : -9223372036854775808 ≤ dy) (y1 : dy ≤ 9223372036854775807) :
    Calls Try.prog 10 #[.agg #[.int .i64 W, .int .i64 H, .slice A n c], .agg #[.int .i64 X, .int .i64 Y, .slice D m d], .int .i64 dx, .int .i64 dy] w fun e w' => e = .returned (.bool true) ∧ Below w.heap.size w w' := by
  by_cases hn : 4200 < n
  · exact alg_no1 W H X Y A D n c m d dx dy w fun v => valid_great W H A n c v hn
  by_cases h0 : chk W H n = 0
  · by_cases hm : 4200 < m
    · exact alg_no2 W H X Y A D n c m d dx dy w (fun v => valid_yes W H A n c v (by omega) h0) fun v => valid_great X Y D m d v hm
    by_cases h1 : chk X Y m = 0
    · by_cases hne : W = X ∧ H = Y
      · obtain ⟨rfl, rfl⟩ := hne
        obtain ⟨P, Q, eP, eQ, en, a1, a2, a3, a4⟩ := chk_nat h0
        obtain ⟨P', Q', eP', eQ', em, -⟩ := chk_nat h1
        obtain rfl : P' = P := by omega
        obtain rfl : Q' = Q := by omega
        subst en em eP eQ
        exact alg_yes P' Q' A D c d f g dx dy w hr hs a1 a2 a3 a4 x0 x1 y0 y1
      · exact alg_ne W H X Y A D n c m d dx dy w (fun v => valid_yes W H A n c v (by omega) h0) (fun v => valid_yes X Y D m d v (by omega) h1) hne
    · exact alg_no2 W H X Y A D n c m d dx dy w (fun v => valid_yes W H A n c v (by omega) h0) fun v => valid_no X Y D m d v (by omega) h1
  · exact alg_no1 W H X Y A D n c m d dx dy w fun v => valid_no W H A n c v (by omega) h0
end Go.Proofs.Ytnamjpdbadjgpaa
