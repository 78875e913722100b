/- The statement RepeatMoved: the walk. -/
import Derived.Test.YtjbofdgdcnfmoaaMvb
import Derived.Test.YtjbofdgdcnfmoaaExa
namespace Go.Proofs.Ytjbofdgdcnfmoaa
open Go.RowKit
set_option maxRecDepth 100000
set_option linter.unusedVariables false
set_option linter.unusedSimpArgs false

/-- What the second grid answers, if it is valid. -/
structure Oth (w : World) (gn ov : Value) (A B C : Nat) (a b a' b' z P Q R : Int) : Prop where
  v : ∀ v, Calls Try.prog 40 #[ov] v fun e w' => e = .returned (.bool true) ∧ Below v.heap.size v w'
  zc : z = 0 ∨ z = 6
  o1 : ∀ v, Below w.heap.size w v → Calls Try.prog 25 #[gn, ov] v fun e w' => e = .returned (.tuple #[.agg #[.int .i64 a, .int .i64 b], .int .i64 z]) ∧ Below v.heap.size v w'
  o2 : ∀ v, Below w.heap.size w v → Calls Try.prog 25 #[ov, gn] v fun e w' => e = .returned (.tuple #[.agg #[.int .i64 a', .int .i64 b'], .int .i64 z]) ∧ Below v.heap.size v w'
  o3 : ∀ v, Below w.heap.size w v → Calls Try.prog 19 #[ov] v fun e w' => e = .returned (.tuple #[.agg #[.int .i64 P, .int .i64 Q, .int .i64 R], .int .i64 0]) ∧ Below v.heap.size v w'
  eq : z = 0 → P = A ∧ Q = B ∧ R = C
  mv : z = 0 → ∀ v, Below w.heap.size w v → Calls Try.prog 44 #[gn, ov, .agg #[.int .i64 a, .int .i64 b]] v fun e w' => e = .returned (.bool true) ∧ Below v.heap.size v w'
theorem oth_is (W H N ba oa c : Nat) (f : Nat → Bool) (w : World) (la : ba < w.heap.size) (hN : N = W * H) (hcp : N ≤ c) (hcs : ∀ i, i < N → w.cell? ⟨ba, oa + i, none⟩ = some (.bool (f i))) (hW0 : 1 ≤ W) (hW : W ≤ 64) (hH0 : 1 ≤ H) (hH : H ≤ 64)
    {A B C : Nat} (hL : IsL W H f A B C) (X Y : Int) (D : Option Addr) (m d : Nat) (g : Nat → Bool) (hs : Holds w w.heap.size D m g) (hmd : m ≤ d) :
    (∀ v, Calls Try.prog 40 #[.agg #[.int .i64 X, .int .i64 Y, .slice D m d]] v fun e w' => e = .returned (.bool false) ∧ Below v.heap.size v w') ∨ ∃ a b a' b' z P Q R, Oth w (.agg #[.int .i64 (W : Nat), .int .i64 (H : Nat), .slice (some ⟨ba, oa, none⟩) N c]) (.agg #[.int .i64 X, .int .i64 Y, .slice D m d]) A B C a b a' b' z P Q R := by
  by_cases hv : m ≤ 100 ∧ chk X Y m = 0
  · right
    have hvy := fun v => valid6_y X Y D m d v hv.1 hv.2
    obtain ⟨X', Y', rfl, rfl, k1, k2, k3, k4, k5⟩ := chk_nat hv.2
    obtain ⟨bb, ob, rfl, lb, hcb⟩ := hs.some_ (by rw [k5]; exact mul_ge k1 k3)
    subst k5
    subst hN
    have HA : ∀ v, Below w.heap.size w v → ∀ i, i < W * H → v.cell? ⟨ba, oa + i, none⟩ = some (.bool (f i)) := fun v h i hi => (h.cell (p := ⟨ba, oa + i, none⟩) la).trans (hcs i hi)
    have HB : ∀ v, Below w.heap.size w v → ∀ i, i < X' * Y' → v.cell? ⟨bb, ob + i, none⟩ = some (.bool (g i)) := fun v h i hi => (h.cell (p := ⟨bb, ob + i, none⟩) lb).trans (hcb i hi)
    obtain ⟨P, Q, R, kL⟩ := IsL.ex X' Y' g k1 k3
    obtain ⟨a, b, z, h1⟩ := FOut2.ex W H f X' Y' g
    obtain ⟨a', b', z', h2⟩ := FOut2.ex X' Y' g W H f
    obtain rfl := h1.back h2 hW0 hH0 k1 k3
    have key : z = 0 → ∃ p q : Nat, FO W H f X' Y' g p q ∧ a = p ∧ b = q := by
      intro h
      rcases h1 with ⟨p, q, i1, i2, i3, _⟩ | ⟨_, _, _, i⟩
      · exact ⟨p, q, i1, i2, i3⟩
      · exact absurd (h.symm.trans i) (by decide)
    refine ⟨a, b, a', b', z, P, Q, R, hvy, h1.z, ?_, ?_, ?_, ?_, ?_⟩
    · exact fun v h => poff_is h1 ba oa c bb ob d v (Nat.lt_of_lt_of_le la h.size) (Nat.lt_of_lt_of_le lb h.size) (HA v h) (HB v h) hcp hmd hW0 hW hH0 hH k1 k2 k3 k4
    · exact fun v h => poff_is h2 bb ob d ba oa c v (Nat.lt_of_lt_of_le lb h.size) (Nat.lt_of_lt_of_le la h.size) (HB v h) (HA v h) hmd hcp k1 k2 k3 k4 hW0 hW hH0 hH
    · exact fun v h => pof_at kL _ d v (fun _ => ⟨bb, ob, rfl, Nat.lt_of_lt_of_le lb h.size, HB v h⟩) hmd k2 k3 k4
    · intro h
      obtain ⟨p, q, i1, _⟩ := key h
      obtain ⟨e1, e2, e3⟩ := i1.mt.lat hL kL hW0 hH0 k1 k3
      exact ⟨by omega, by omega, by omega⟩
    · intro h v hb
      obtain ⟨p, q, i1, rfl, rfl⟩ := key h
      obtain ⟨j1, j2⟩ := i1.lt kL k3
      have j3 := kL.aw
      have j4 := kL.ch
      exact moves_ok W H _ c f X' Y' _ d g p q v (fun _ => ⟨ba, oa, rfl, Nat.lt_of_lt_of_le la hb.size, HA v hb⟩) (fun _ => ⟨bb, ob, rfl, Nat.lt_of_lt_of_le lb hb.size, HB v hb⟩) hW0 hW hH0 hH k1 k2 k3 k4 (by omega) (by omega) i1.mt
  · left
    exact fun v => valid6_n X Y D m d v hv
set_option maxHeartbeats 800000 in
theorem moved_guard (W H : Int) (A : Option Addr) (n c : Nat) (X Y : Int) (D : Option Addr) (m d : Nat) (dx dy : Int) (w : World) (vt : Bool) (hv : ∀ w, Calls Try.prog 40 #[.agg #[.int .i64 W, .int .i64 H, .slice A n c]] w fun e w' => e = .returned (.bool vt) ∧ Below w.heap.size w w')
    (h : vt = false ∨ (vt = true ∧ dx < -1000000000) ∨ (vt = true ∧ ¬ dx < -1000000000 ∧ 1000000000 < dx) ∨ (vt = true ∧ ¬ dx < -1000000000 ∧ ¬ 1000000000 < dx ∧ dy < -1000000000) ∨ (vt = true ∧ ¬ dx < -1000000000 ∧ ¬ 1000000000 < dx ∧ ¬ dy < -1000000000 ∧ 1000000000 < dy)) :
    Calls Try.prog 9 #[.agg #[.int .i64 W, .int .i64 H, .slice A n c], .agg #[.int .i64 X, .int .i64 Y, .slice D m d], .int .i64 dx, .int .i64 dy] w fun e w' => e = .returned (.bool true) ∧ Below w.heap.size w w' := by
  have HV := Lib.hid hv
  have L0 := Lib.hid (show Below w.heap.size w ((w.alloc (.cells #[.int .i64 W, .int .i64 H, .slice A n c] 24)).alloc (.cells #[.int .i64 X, .int .i64 Y, .slice D m d] 24)) from ((Below.refl _ _).alloc (Nat.le_refl _) _).alloc (by simp) _)
  clear hv
  rcases h with rfl | ⟨rfl, h1⟩ | ⟨rfl, h1, h2⟩ | ⟨rfl, h1, h2, h3⟩ | ⟨rfl, h1, h2, h3, h4⟩
  all_goals
    go_enter Try.func9, Try.ntmps9
    go_wp2_with fail
    refine (HV.out _).mono ?_
    rintro e w1 ⟨rfl, hb⟩
    have L1 := Lib.hid (L0.out.trans (hb.mono L0.out.size))
    clear hb
    go_wp2_with fail
    refine (alive6_any _).mono ?_
    rintro e w2 ⟨rfl, hb⟩
    have L2 := Lib.hid (L1.out.trans (hb.mono L1.out.size))
    clear hb
    go_wp2
    go_ret
    exact ⟨rfl, L2.out⟩
set_option maxHeartbeats 6400000 in
theorem moved_main (W H N ba oa c : Nat) (f : Nat → Bool) (X Y : Int) (D : Option Addr) (m d : Nat) (g : Nat → Bool) (dx dy : Int) (w : World) (la : ba < w.heap.size) (hN : N = W * H) (hcp : N ≤ c) (hcs : ∀ i, i < N → w.cell? ⟨ba, oa + i, none⟩ = some (.bool (f i))) (hW0 : 1 ≤ W) (hW : W ≤ 64) (hH0 : 1 ≤ H) (hH : H ≤ 64) (hn : N ≤ 100)
    (hs : Holds w w.heap.size D m g) (hmd : m ≤ d) (hx0 : ¬ dx < -1000000000) (hx1 : ¬ 1000000000 < dx) (hy0 : ¬ dy < -1000000000) (hy1 : ¬ 1000000000 < dy) :
    Calls Try.prog 9 #[.agg #[.int .i64 (W : Nat), .int .i64 (H : Nat), .slice (some ⟨ba, oa, none⟩) N c], .agg #[.int .i64 X, .int .i64 Y, .slice D m d], .int .i64 dx, .int .i64 dy] w fun e w' => e = .returned (.bool true) ∧ Below w.heap.size w w' := by
  obtain ⟨A, B, C, hL⟩ := IsL.ex W H f hW0 hH0
  have HD := Lib.hid (oth_is W H N ba oa c f w la hN hcp hcs hW0 hW hH0 hH hL X Y D m d g hs hmd)
  clear hs hmd
  obtain ⟨fs, hfs⟩ : ∃ fs, fShift W H dx dy f = fs := ⟨_, rfl⟩
  have hsh := mt_shift f hW0 hH0 dx dy
  rw [hfs] at hsh
  have sL := hsh.isl hL hW0 hH0 hW0 hH0
  obtain ⟨p, q, hF⟩ : ∃ p q : Nat, FO W H f W H fs p q := by
    obtain ⟨a, b, z, h⟩ := FOut2.ex W H f W H fs
    rcases h with ⟨p, q, h, _⟩ | ⟨h, _⟩
    · exact ⟨p, q, h⟩
    · obtain ⟨p, q, _, _, h3, _⟩ := hsh.red sL hH0
      exact absurd h3 (h p q)
  obtain ⟨hpA, hqC⟩ := hF.lt sL hH0
  have hAW := hL.aw
  have hCH := hL.ch
  have HCS := Lib.hid (fun v (h : Below w.heap.size w v) => (show ∀ i, i < N → v.cell? ⟨ba, oa + i, none⟩ = some (.bool (f i)) from fun i hi => (h.cell (p := ⟨ba, oa + i, none⟩) la).trans (hcs i hi)))
  have HH := Lib.hid (fun v (h : Below w.heap.size w v) => (show Holds v v.heap.size (some ⟨ba, oa, none⟩) N f from fun _ => ⟨ba, oa, rfl, Nat.lt_of_lt_of_le la h.size, HCS.out v h⟩))
  have HV := Lib.hid (fun v => (valid6_y W H (some ⟨ba, oa, none⟩) N c v hn (by rw [hN]; exact chk_zero hW0 hW hH0 hH)))
  have HVS := Lib.hid (fun v (k : Nat) => (valid6_y W H (some ⟨k, 0, none⟩) N N v hn (by rw [hN]; exact chk_zero hW0 hW hH0 hH)))
  have HSh := Lib.hid (fun v (h : Below w.heap.size w v) => (show Calls Try.prog 43 #[.agg #[.int .i64 (W : Nat), .int .i64 (H : Nat), .slice (some ⟨ba, oa, none⟩) N c], .int .i64 dx, .int .i64 dy] v fun e w' => ∃ k, e = .returned (.tuple #[.agg #[.int .i64 (W : Nat), .int .i64 (H : Nat), .slice (some ⟨k, 0, none⟩) N N], .int .i64 0]) ∧ v.heap.size ≤ k ∧ Row w' k N fs ∧ Below v.heap.size v w' by
    subst hN; subst hfs
    exact shift_ok W H _ c f dx dy v (HH.out v h) hW0 hW hH0 hH (by omega) (by omega) (by omega) (by omega)))
  have HO := Lib.hid (fun v (h : Below w.heap.size w v) => (show Calls Try.prog 19 #[.agg #[.int .i64 (W : Nat), .int .i64 (H : Nat), .slice (some ⟨ba, oa, none⟩) N c]] v fun e w' => e = .returned (.tuple #[.agg #[.int .i64 (A : Nat), .int .i64 (B : Nat), .int .i64 (C : Nat)], .int .i64 0]) ∧ Below v.heap.size v w' by
    subst hN; exact pof_at hL _ c v (HH.out v h) hcp hW hH0 hH))
  have HOs := Lib.hid (fun v (k : Nat) (hr : Row v k N fs) => (show Calls Try.prog 19 #[.agg #[.int .i64 (W : Nat), .int .i64 (H : Nat), .slice (some ⟨k, 0, none⟩) N N]] v fun e w' => e = .returned (.tuple #[.agg #[.int .i64 (A : Nat), .int .i64 (B : Nat), .int .i64 (C : Nat)], .int .i64 0]) ∧ Below v.heap.size v w' by
    subst hN; exact pof_at sL _ _ v (hr.holds hr.lt) (Nat.le_refl _) hW hH0 hH))
  have HOf := Lib.hid (fun v (h : Below w.heap.size w v) (k : Nat) (hr : Row v k N fs) => (show Calls Try.prog 25 #[.agg #[.int .i64 (W : Nat), .int .i64 (H : Nat), .slice (some ⟨ba, oa, none⟩) N c], .agg #[.int .i64 (W : Nat), .int .i64 (H : Nat), .slice (some ⟨k, 0, none⟩) N N]] v fun e w' => e = .returned (.tuple #[.agg #[.int .i64 (p : Nat), .int .i64 (q : Nat)], .int .i64 0]) ∧ Below v.heap.size v w' by
    subst hN
    exact poff_is (.inl ⟨p, q, hF, rfl, rfl, rfl⟩) ba oa c k 0 _ v (Nat.lt_of_lt_of_le la h.size) hr.lt (HCS.out v h) (fun i hi => by rw [Nat.zero_add]; exact hr.cell hi) hcp (Nat.le_refl _) hW0 hW hH0 hH hW0 hW hH0 hH))
  have HMv := Lib.hid (fun v (h : Below w.heap.size w v) (k : Nat) (hr : Row v k N fs) => (show Calls Try.prog 44 #[.agg #[.int .i64 (W : Nat), .int .i64 (H : Nat), .slice (some ⟨ba, oa, none⟩) N c], .agg #[.int .i64 (W : Nat), .int .i64 (H : Nat), .slice (some ⟨k, 0, none⟩) N N], .agg #[.int .i64 (p : Nat), .int .i64 (q : Nat)]] v fun e w' => e = .returned (.bool true) ∧ Below v.heap.size v w' by
    subst hN
    exact moves_ok W H _ c f W H _ _ fs p q v (HH.out v h) (hr.holds hr.lt) hW0 hW hH0 hH hW0 hW hH0 hH (by omega) (by omega) hF.mt))
  have hin : inn A B C ((p : Int) - dx) ((q : Int) - dy) = true := (hL.mem hH0 _ _).1 (hF.mt.two hsh)
  have HI := Lib.hid (fun v => (show Calls Try.prog 22 #[.agg #[.int .i64 (A : Nat), .int .i64 (B : Nat), .int .i64 (C : Nat)], .int .i64 ((p : Int) - dx), .int .i64 ((q : Int) - dy)] v fun e w' => e = .returned (.tuple #[.bool true, .int .i64 0]) ∧ Below v.heap.size v w' by
    have h := in_at (hL.lchk hW hH) ((p : Int) - dx) ((q : Int) - dy) v (by omega) (by omega) (by omega) (by omega)
    rwa [hin] at h))
  have HT : Hid ((∃ T M : Nat, ∃ ft : Nat → Bool, (∀ v, Below w.heap.size w v → Calls Try.prog 42 #[.agg #[.int .i64 (W : Nat), .int .i64 (H : Nat), .slice (some ⟨ba, oa, none⟩) N c], .int .i64 2, .int .i64 1] v fun e w' => ∃ k, e = .returned (.tuple #[.agg #[.int .i64 (T : Nat), .int .i64 (H : Nat), .slice (some ⟨k, 0, none⟩) M M], .int .i64 0]) ∧ v.heap.size ≤ k ∧ Row w' k M ft ∧ Below v.heap.size v w') ∧
      (∀ v (k : Nat), Row v k M ft → Calls Try.prog 19 #[.agg #[.int .i64 (T : Nat), .int .i64 (H : Nat), .slice (some ⟨k, 0, none⟩) M M]] v fun e w' => e = .returned (.tuple #[.agg #[.int .i64 (A : Nat), .int .i64 (B : Nat), .int .i64 (C : Nat)], .int .i64 0]) ∧ Below v.heap.size v w') ∧
      (∀ v, Below w.heap.size w v → ∀ (k : Nat), Row v k M ft → Calls Try.prog 25 #[.agg #[.int .i64 (W : Nat), .int .i64 (H : Nat), .slice (some ⟨ba, oa, none⟩) N c], .agg #[.int .i64 (T : Nat), .int .i64 (H : Nat), .slice (some ⟨k, 0, none⟩) M M]] v fun e w' => e = .returned (.tuple #[.agg #[.int .i64 0, .int .i64 0], .int .i64 0]) ∧ Below v.heap.size v w')) ∨
      (∀ v, Below w.heap.size w v → Calls Try.prog 42 #[.agg #[.int .i64 (W : Nat), .int .i64 (H : Nat), .slice (some ⟨ba, oa, none⟩) N c], .int .i64 2, .int .i64 1] v fun e w' => e = .returned (.tuple #[.agg #[.int .i64 0, .int .i64 0, .slice none 0 0], .int .i64 4]) ∧ Below v.heap.size v w')) := Lib.hid (by
    subst hN
    by_cases h2 : 2 * W ≤ 64
    · left
      have mt2 := mt_tile2 f hW0 hH0
      have tL := mt2.isl hL hW0 hH0 (by omega) hH0
      refine ⟨2 * W, 2 * W * H, fTile (2 * W) W H f, ?_, ?_, ?_⟩
      · intro v h
        have k1 := tile_ok W H _ c 2 1 v hW0 hW hH0 hH f (HH.out v h) (by omega) (by omega) (by omega) (by omega)
        rw [Nat.one_mul] at k1
        exact k1
      · exact fun v k hr => pof_at tL _ _ v (hr.holds hr.lt) (Nat.le_refl _) h2 hH0 hH
      · exact fun v h k hr => poff_is (FOut2.zero mt2) ba oa c k 0 _ v (Nat.lt_of_lt_of_le la h.size) hr.lt (HCS.out v h) (fun i hi => by rw [Nat.zero_add]; exact hr.cell hi) hcp (Nat.le_refl _) hW0 hW hH0 hH (by omega) h2 hH0 hH
    · right
      exact fun v h => tile_many1 W H _ c 2 1 v hW0 hW hH0 hH (by omega) (by omega) (Decidable.byContradiction fun hh => h2 ((quo_le (W := W) (n := 2) hW0).1 hh)))
  have e1 : IntKind.i64.wrap ((p : Int) - dx) = (p : Int) - dx := IntWalk.i64_in _ (by omega)
  have e2 : IntKind.i64.wrap ((q : Int) - dy) = (q : Int) - dy := IntWalk.i64_in _ (by omega)
  have u1 : ((A : Int) != (A : Int)) = false := by simp
  have u2 : ((B : Int) != (B : Int)) = false := by simp
  have u3 : ((C : Int) != (C : Int)) = false := by simp
  have j1 : ¬ A ≤ p := by omega
  have j2 : ¬ C ≤ q := by omega
  have X0 := Lib.hid ((Box.new w (W : Nat) (H : Nat) (.slice (some ⟨ba, oa, none⟩) N c)).alloc (.cells #[.int .i64 X, .int .i64 Y, .slice D m d] 24))
  have Y0 := Lib.hid (show Box ((w.alloc (.cells #[.int .i64 (W : Nat), .int .i64 (H : Nat), .slice (some ⟨ba, oa, none⟩) N c] 24)).alloc (.cells #[.int .i64 X, .int .i64 Y, .slice D m d] 24)) (w.heap.size + 1) X Y (.slice D m d) from by have h := Box.new (w.alloc (.cells #[.int .i64 (W : Nat), .int .i64 (H : Nat), .slice (some ⟨ba, oa, none⟩) N c] 24)) X Y (.slice D m d); rwa [World.size_alloc] at h)
  have LB0 := Lib.hid (show Below w.heap.size w ((w.alloc (.cells #[.int .i64 (W : Nat), .int .i64 (H : Nat), .slice (some ⟨ba, oa, none⟩) N c] 24)).alloc (.cells #[.int .i64 X, .int .i64 Y, .slice D m d] 24)) from ((Below.refl _ _).alloc (Nat.le_refl _) _).alloc (by simp) _)
  clear hL sL hF hsh hfs hin hcs hpA hqC hAW hCH hN
  go_enter Try.func9, Try.ntmps9
  obtain ⟨q0, q1, q2, q3, q4, q5, q6⟩ := X0.out.all
  go_wp2_with fail
  clear q0 q1 q2 q3 q4 q5 q6
  refine (HV.out _).mono ?_
  rintro e w1 ⟨rfl, hb⟩
  have X1 := Lib.hid (X0.out.below hb X0.out.lt)
  have Y1 := Lib.hid (Y0.out.below hb Y0.out.lt)
  have LB1 := Lib.hid (LB0.out.trans (hb.mono LB0.out.size))
  clear hb X0 Y0 LB0
  obtain ⟨q0, q1, q2, q3, q4, q5, q6⟩ := X1.out.all
  go_wp2_with fail
  clear q0 q1 q2 q3 q4 q5 q6
  refine (HSh.out _ LB1.out).mono ?_
  rintro e w2 ⟨ks, rfl, hk, hrow, hb⟩
  have hba := (show Below _ _ (w2.alloc (.cells #[.int .i64 (W : Nat), .int .i64 (H : Nat), .slice (some ⟨ks, 0, none⟩) N N] 24)) from hb.trans (((Below.refl _ _).alloc (Nat.le_refl _) _).mono hb.size))
  have S2 := Lib.hid (Box.new w2 (W : Nat) (H : Nat) (.slice (some ⟨ks, 0, none⟩) N N))
  have R2 := Lib.hid (hrow.alloc (.cells #[.int .i64 (W : Nat), .int .i64 (H : Nat), .slice (some ⟨ks, 0, none⟩) N N] 24))
  clear hb hrow hk
  have X2 := Lib.hid (X1.out.below hba X1.out.lt)
  have Y2 := Lib.hid (Y1.out.below hba Y1.out.lt)
  have LB2 := Lib.hid (LB1.out.trans (hba.mono LB1.out.size))
  clear hba X1 Y1 LB1
  obtain ⟨q0, q1, q2, q3, q4, q5, q6⟩ := X2.out.all
  go_wp2_with fail
  clear q0 q1 q2 q3 q4 q5 q6
  refine (HO.out _ LB2.out).mono ?_
  rintro e w3 ⟨rfl, hb⟩
  have hba := (show Below _ _ (w3.alloc (.cells #[.int .i64 (A : Nat), .int .i64 (B : Nat), .int .i64 (C : Nat)] 27)) from hb.trans (((Below.refl _ _).alloc (Nat.le_refl _) _).mono hb.size))
  have Tl3 := Lib.hid (Tri.new w3 (A : Nat) (B : Nat) (C : Nat))
  clear hb
  have X3 := Lib.hid (X2.out.below hba X2.out.lt)
  have Y3 := Lib.hid (Y2.out.below hba Y2.out.lt)
  have LB3 := Lib.hid (LB2.out.trans (hba.mono LB2.out.size))
  have S3 := Lib.hid (S2.out.below hba S2.out.lt)
  have R3 := Lib.hid (R2.out.below hba R2.out.lt)
  clear hba X2 Y2 LB2 S2 R2
  obtain ⟨q0, q1, q2, q3, q4, q5, q6⟩ := S3.out.all
  go_wp2_with fail
  clear q0 q1 q2 q3 q4 q5 q6
  refine (HOs.out _ ks R3.out).mono ?_
  rintro e w4 ⟨rfl, hb⟩
  have hba := (show Below _ _ (w4.alloc (.cells #[.int .i64 (A : Nat), .int .i64 (B : Nat), .int .i64 (C : Nat)] 27)) from hb.trans (((Below.refl _ _).alloc (Nat.le_refl _) _).mono hb.size))
  have Tm4 := Lib.hid (Tri.new w4 (A : Nat) (B : Nat) (C : Nat))
  clear hb
  have X4 := Lib.hid (X3.out.below hba X3.out.lt)
  have Y4 := Lib.hid (Y3.out.below hba Y3.out.lt)
  have LB4 := Lib.hid (LB3.out.trans (hba.mono LB3.out.size))
  have S4 := Lib.hid (S3.out.below hba S3.out.lt)
  have R4 := Lib.hid (R3.out.below hba R3.out.lt)
  have Tl4 := Lib.hid (Tl3.out.below hba Tl3.out.lt)
  clear hba X3 Y3 LB3 S3 R3 Tl3
  obtain ⟨q0, q1, q2, q3, q4, q5, q6⟩ := X4.out.all
  obtain ⟨r0, r1, r2, r3, r4, r5, r6⟩ := S4.out.all
  go_wp2_with fail
  clear q0 q1 q2 q3 q4 q5 q6 r0 r1 r2 r3 r4 r5 r6
  refine (HOf.out _ LB4.out ks R4.out).mono ?_
  rintro e w5 ⟨rfl, hb⟩
  have hba := (show Below _ _ (w5.alloc (.cells #[.int .i64 (p : Nat), .int .i64 (q : Nat)] 40)) from hb.trans (((Below.refl _ _).alloc (Nat.le_refl _) _).mono hb.size))
  have P5 := Lib.hid (Pt.new w5 (p : Nat) (q : Nat))
  clear hb
  have X5 := Lib.hid (X4.out.below hba X4.out.lt)
  have Y5 := Lib.hid (Y4.out.below hba Y4.out.lt)
  have LB5 := Lib.hid (LB4.out.trans (hba.mono LB4.out.size))
  have S5 := Lib.hid (S4.out.below hba S4.out.lt)
  have R5 := Lib.hid (R4.out.below hba R4.out.lt)
  have Tl5 := Lib.hid (Tl4.out.below hba Tl4.out.lt)
  have Tm5 := Lib.hid (Tm4.out.below hba Tm4.out.lt)
  clear hba X4 Y4 LB4 S4 R4 Tl4 Tm4
  obtain ⟨q0, q1, q2, q3, q4, q5⟩ := Tl5.out.all
  obtain ⟨r0, r1, r2, r3, r4, r5⟩ := Tm5.out.all
  obtain ⟨s0, s1, s2, s3, s4, s5, s6⟩ := S5.out.all
  go_wp2_with fail
  clear q0 q1 q2 q3 q4 q5 r0 r1 r2 r3 r4 r5 s0 s1 s2 s3 s4 s5 s6
  refine (HVS.out _ ks).mono ?_
  rintro e w6 ⟨rfl, hb⟩
  have X6 := Lib.hid (X5.out.below hb X5.out.lt)
  have Y6 := Lib.hid (Y5.out.below hb Y5.out.lt)
  have LB6 := Lib.hid (LB5.out.trans (hb.mono LB5.out.size))
  have S6 := Lib.hid (S5.out.below hb S5.out.lt)
  have R6 := Lib.hid (R5.out.below hb R5.out.lt)
  have Tl6 := Lib.hid (Tl5.out.below hb Tl5.out.lt)
  have Tm6 := Lib.hid (Tm5.out.below hb Tm5.out.lt)
  have P6 := Lib.hid (P5.out.below hb P5.out.lt)
  clear hb X5 Y5 LB5 S5 R5 Tl5 Tm5 P5
  clear Tm6
  obtain ⟨q0, q1, q2, q3, q4, q5, q6⟩ := X6.out.all
  obtain ⟨r0, r1, r2, r3, r4, r5, r6⟩ := S6.out.all
  obtain ⟨s0, s1, s2, s3⟩ := P6.out.all
  go_wp2_with fail
  clear q0 q1 q2 q3 q4 q5 q6 r0 r1 r2 r3 r4 r5 r6 s0 s1 s2 s3
  refine (HMv.out _ LB6.out ks R6.out).mono ?_
  rintro e w7 ⟨rfl, hb⟩
  have X7 := Lib.hid (X6.out.below hb X6.out.lt)
  have Y7 := Lib.hid (Y6.out.below hb Y6.out.lt)
  have LB7 := Lib.hid (LB6.out.trans (hb.mono LB6.out.size))
  have S7 := Lib.hid (S6.out.below hb S6.out.lt)
  have R7 := Lib.hid (R6.out.below hb R6.out.lt)
  have Tl7 := Lib.hid (Tl6.out.below hb Tl6.out.lt)
  have P7 := Lib.hid (P6.out.below hb P6.out.lt)
  clear hb X6 Y6 LB6 S6 R6 Tl6 P6
  clear S7
  clear R7
  obtain ⟨q0, q1, q2, q3, q4, q5⟩ := Tl7.out.all
  obtain ⟨r0, r1, r2, r3⟩ := P7.out.all
  go_wp2_with fail
  clear q0 q1 q2 q3 q4 q5 r0 r1 r2 r3
  refine (HI.out _).mono ?_
  rintro e w8 ⟨rfl, hb⟩
  have X8 := Lib.hid (X7.out.below hb X7.out.lt)
  have Y8 := Lib.hid (Y7.out.below hb Y7.out.lt)
  have LB8 := Lib.hid (LB7.out.trans (hb.mono LB7.out.size))
  have Tl8 := Lib.hid (Tl7.out.below hb Tl7.out.lt)
  have P8 := Lib.hid (P7.out.below hb P7.out.lt)
  clear hb X7 Y7 LB7 Tl7 P7
  clear e1 e2
  obtain ⟨q0, q1, q2, q3, q4, q5⟩ := Tl8.out.all
  obtain ⟨r0, r1, r2, r3⟩ := P8.out.all
  obtain ⟨s0, s1, s2, s3, s4, s5, s6⟩ := X8.out.all
  go_wp2_with fail
  clear q0 q1 q2 q3 q4 q5 r0 r1 r2 r3 s0 s1 s2 s3 s4 s5 s6
  clear P8
  clear j1 j2
  rcases HT.out with ⟨T, M, ft, HT1, HT2, HT3⟩ | HT1
  all_goals clear HT
  · skip
    have HT1 := Lib.hid HT1
    have HT2 := Lib.hid HT2
    have HT3 := Lib.hid HT3
    refine (HT1.out _ LB8.out).mono ?_
    rintro e w9 ⟨kt, rfl, hk, hrow, hb⟩
    have hba := (show Below _ _ (w9.alloc (.cells #[.int .i64 (T : Nat), .int .i64 (H : Nat), .slice (some ⟨kt, 0, none⟩) M M] 24)) from hb.trans (((Below.refl _ _).alloc (Nat.le_refl _) _).mono hb.size))
    have G9 := Lib.hid (Box.new w9 (T : Nat) (H : Nat) (.slice (some ⟨kt, 0, none⟩) M M))
    have RT9 := Lib.hid (hrow.alloc (.cells #[.int .i64 (T : Nat), .int .i64 (H : Nat), .slice (some ⟨kt, 0, none⟩) M M] 24))
    clear hb hrow hk
    have X9 := Lib.hid (X8.out.below hba X8.out.lt)
    have Y9 := Lib.hid (Y8.out.below hba Y8.out.lt)
    have LB9 := Lib.hid (LB8.out.trans (hba.mono LB8.out.size))
    have Tl9 := Lib.hid (Tl8.out.below hba Tl8.out.lt)
    clear hba X8 Y8 LB8 Tl8
    obtain ⟨q0, q1, q2, q3, q4, q5, q6⟩ := G9.out.all
    go_wp2_with fail
    clear q0 q1 q2 q3 q4 q5 q6
    refine (HT2.out _ kt RT9.out).mono ?_
    rintro e w10 ⟨rfl, hb⟩
    have hba := (show Below _ _ (w10.alloc (.cells #[.int .i64 (A : Nat), .int .i64 (B : Nat), .int .i64 (C : Nat)] 27)) from hb.trans (((Below.refl _ _).alloc (Nat.le_refl _) _).mono hb.size))
    have Tt10 := Lib.hid (Tri.new w10 (A : Nat) (B : Nat) (C : Nat))
    clear hb
    have X10 := Lib.hid (X9.out.below hba X9.out.lt)
    have Y10 := Lib.hid (Y9.out.below hba Y9.out.lt)
    have LB10 := Lib.hid (LB9.out.trans (hba.mono LB9.out.size))
    have Tl10 := Lib.hid (Tl9.out.below hba Tl9.out.lt)
    have G10 := Lib.hid (G9.out.below hba G9.out.lt)
    have RT10 := Lib.hid (RT9.out.below hba RT9.out.lt)
    clear hba X9 Y9 LB9 Tl9 G9 RT9
    obtain ⟨q0, q1, q2, q3, q4, q5, q6⟩ := X10.out.all
    obtain ⟨r0, r1, r2, r3, r4, r5, r6⟩ := G10.out.all
    go_wp2_with fail
    clear q0 q1 q2 q3 q4 q5 q6 r0 r1 r2 r3 r4 r5 r6
    refine (HT3.out _ LB10.out kt RT10.out).mono ?_
    rintro e w11 ⟨rfl, hb⟩
    have hba := (show Below _ _ (w11.alloc (.cells #[.int .i64 0, .int .i64 0] 40)) from hb.trans (((Below.refl _ _).alloc (Nat.le_refl _) _).mono hb.size))
    have Pz11 := Lib.hid (Pt.new w11 0 0)
    clear hb
    have X11 := Lib.hid (X10.out.below hba X10.out.lt)
    have Y11 := Lib.hid (Y10.out.below hba Y10.out.lt)
    have LB11 := Lib.hid (LB10.out.trans (hba.mono LB10.out.size))
    have Tl11 := Lib.hid (Tl10.out.below hba Tl10.out.lt)
    have G11 := Lib.hid (G10.out.below hba G10.out.lt)
    have RT11 := Lib.hid (RT10.out.below hba RT10.out.lt)
    have Tt11 := Lib.hid (Tt10.out.below hba Tt10.out.lt)
    clear hba X10 Y10 LB10 Tl10 G10 RT10 Tt10
    clear G11
    clear RT11
    obtain ⟨q0, q1, q2, q3, q4, q5⟩ := Tt11.out.all
    obtain ⟨r0, r1, r2, r3, r4, r5⟩ := Tl11.out.all
    obtain ⟨s0, s1, s2, s3⟩ := Pz11.out.all
    obtain ⟨t0, t1, t2, t3, t4, t5, t6⟩ := Y11.out.all
    go_wp2_with fail
    clear q0 q1 q2 q3 q4 q5 r0 r1 r2 r3 r4 r5 s0 s1 s2 s3 t0 t1 t2 t3 t4 t5 t6
    clear Tt11
    clear Pz11
    rcases HD.out with HO1 | ⟨a, b, a', b', z, P, Q, R, HO1⟩
    · skip
      go_wp2_with fail
      refine (HO1 _).mono ?_
      rintro e w12 ⟨rfl, hb⟩
      have X12 := Lib.hid (X11.out.below hb X11.out.lt)
      have Y12 := Lib.hid (Y11.out.below hb Y11.out.lt)
      have LB12 := Lib.hid (LB11.out.trans (hb.mono LB11.out.size))
      have Tl12 := Lib.hid (Tl11.out.below hb Tl11.out.lt)
      clear hb X11 Y11 LB11 Tl11
      go_wp2_with fail
      refine (alive6_any _).mono ?_
      rintro e w13 ⟨rfl, hb⟩
      have X13 := Lib.hid (X12.out.below hb X12.out.lt)
      have Y13 := Lib.hid (Y12.out.below hb Y12.out.lt)
      have LB13 := Lib.hid (LB12.out.trans (hb.mono LB12.out.size))
      have Tl13 := Lib.hid (Tl12.out.below hb Tl12.out.lt)
      clear hb X12 Y12 LB12 Tl12
      go_wp2
      go_ret
      exact ⟨rfl, LB13.out⟩
    · skip
      have HO1 := Lib.hid HO1
      go_wp2_with fail
      refine (HO1.out.v _).mono ?_
      rintro e w12 ⟨rfl, hb⟩
      have X12 := Lib.hid (X11.out.below hb X11.out.lt)
      have Y12 := Lib.hid (Y11.out.below hb Y11.out.lt)
      have LB12 := Lib.hid (LB11.out.trans (hb.mono LB11.out.size))
      have Tl12 := Lib.hid (Tl11.out.below hb Tl11.out.lt)
      clear hb X11 Y11 LB11 Tl11
      obtain ⟨q0, q1, q2, q3, q4, q5, q6⟩ := X12.out.all
      obtain ⟨r0, r1, r2, r3, r4, r5, r6⟩ := Y12.out.all
      go_wp2_with fail
      clear q0 q1 q2 q3 q4 q5 q6 r0 r1 r2 r3 r4 r5 r6
      refine (HO1.out.o1 _ LB12.out).mono ?_
      rintro e w13 ⟨rfl, hb⟩
      have hba := (show Below _ _ (w13.alloc (.cells #[.int .i64 a, .int .i64 b] 40)) from hb.trans (((Below.refl _ _).alloc (Nat.le_refl _) _).mono hb.size))
      have Pa13 := Lib.hid (Pt.new w13 a b)
      clear hb
      have X13 := Lib.hid (X12.out.below hba X12.out.lt)
      have Y13 := Lib.hid (Y12.out.below hba Y12.out.lt)
      have LB13 := Lib.hid (LB12.out.trans (hba.mono LB12.out.size))
      have Tl13 := Lib.hid (Tl12.out.below hba Tl12.out.lt)
      clear hba X12 Y12 LB12 Tl12
      obtain ⟨q0, q1, q2, q3, q4, q5, q6⟩ := X13.out.all
      obtain ⟨r0, r1, r2, r3, r4, r5, r6⟩ := Y13.out.all
      go_wp2_with fail
      clear q0 q1 q2 q3 q4 q5 q6 r0 r1 r2 r3 r4 r5 r6
      refine (HO1.out.o2 _ LB13.out).mono ?_
      rintro e w14 ⟨rfl, hb⟩
      have hba := (show Below _ _ (w14.alloc (.cells #[.int .i64 a', .int .i64 b'] 40)) from hb.trans (((Below.refl _ _).alloc (Nat.le_refl _) _).mono hb.size))
      clear hb
      have X14 := Lib.hid (X13.out.below hba X13.out.lt)
      have Y14 := Lib.hid (Y13.out.below hba Y13.out.lt)
      have LB14 := Lib.hid (LB13.out.trans (hba.mono LB13.out.size))
      have Tl14 := Lib.hid (Tl13.out.below hba Tl13.out.lt)
      have Pa14 := Lib.hid (Pa13.out.below hba Pa13.out.lt)
      clear hba X13 Y13 LB13 Tl13 Pa13
      obtain ⟨q0, q1, q2, q3, q4, q5, q6⟩ := Y14.out.all
      go_wp2_with fail
      clear q0 q1 q2 q3 q4 q5 q6
      refine (HO1.out.o3 _ LB14.out).mono ?_
      rintro e w15 ⟨rfl, hb⟩
      have hba := (show Below _ _ (w15.alloc (.cells #[.int .i64 P, .int .i64 Q, .int .i64 R] 27)) from hb.trans (((Below.refl _ _).alloc (Nat.le_refl _) _).mono hb.size))
      have Td15 := Lib.hid (Tri.new w15 P Q R)
      clear hb
      have X15 := Lib.hid (X14.out.below hba X14.out.lt)
      have Y15 := Lib.hid (Y14.out.below hba Y14.out.lt)
      have LB15 := Lib.hid (LB14.out.trans (hba.mono LB14.out.size))
      have Tl15 := Lib.hid (Tl14.out.below hba Tl14.out.lt)
      have Pa15 := Lib.hid (Pa14.out.below hba Pa14.out.lt)
      clear hba X14 Y14 LB14 Tl14 Pa14
      rcases HO1.out.zc with hz | hz
      · skip
        obtain ⟨h1, h2, h3⟩ := HO1.out.eq hz
        subst h1 h2 h3
        have HMO := Lib.hid (HO1.out.mv hz)
        clear HO1
        subst hz
        obtain ⟨q0, q1, q2, q3, q4, q5⟩ := Td15.out.all
        obtain ⟨r0, r1, r2, r3, r4, r5⟩ := Tl15.out.all
        obtain ⟨s0, s1, s2, s3, s4, s5, s6⟩ := X15.out.all
        obtain ⟨t0, t1, t2, t3, t4, t5, t6⟩ := Y15.out.all
        obtain ⟨v0, v1, v2, v3⟩ := Pa15.out.all
        go_wp2_with fail
        clear q0 q1 q2 q3 q4 q5 r0 r1 r2 r3 r4 r5 s0 s1 s2 s3 s4 s5 s6 t0 t1 t2 t3 t4 t5 t6 v0 v1 v2 v3
        refine (HMO.out _ LB15.out).mono ?_
        rintro e w16 ⟨rfl, hb⟩
        have X16 := Lib.hid (X15.out.below hb X15.out.lt)
        have Y16 := Lib.hid (Y15.out.below hb Y15.out.lt)
        have LB16 := Lib.hid (LB15.out.trans (hb.mono LB15.out.size))
        have Tl16 := Lib.hid (Tl15.out.below hb Tl15.out.lt)
        have Pa16 := Lib.hid (Pa15.out.below hb Pa15.out.lt)
        have Td16 := Lib.hid (Td15.out.below hb Td15.out.lt)
        clear hb X15 Y15 LB15 Tl15 Pa15 Td15
        go_wp2_with fail
        refine (alive6_any _).mono ?_
        rintro e w17 ⟨rfl, hb⟩
        have X17 := Lib.hid (X16.out.below hb X16.out.lt)
        have Y17 := Lib.hid (Y16.out.below hb Y16.out.lt)
        have LB17 := Lib.hid (LB16.out.trans (hb.mono LB16.out.size))
        have Tl17 := Lib.hid (Tl16.out.below hb Tl16.out.lt)
        have Pa17 := Lib.hid (Pa16.out.below hb Pa16.out.lt)
        have Td17 := Lib.hid (Td16.out.below hb Td16.out.lt)
        clear hb X16 Y16 LB16 Tl16 Pa16 Td16
        go_wp2
        go_ret
        exact ⟨rfl, LB17.out⟩
      · skip
        clear HO1
        subst hz
        go_wp2_with fail
        refine (alive6_any _).mono ?_
        rintro e w16 ⟨rfl, hb⟩
        have X16 := Lib.hid (X15.out.below hb X15.out.lt)
        have Y16 := Lib.hid (Y15.out.below hb Y15.out.lt)
        have LB16 := Lib.hid (LB15.out.trans (hb.mono LB15.out.size))
        have Tl16 := Lib.hid (Tl15.out.below hb Tl15.out.lt)
        have Pa16 := Lib.hid (Pa15.out.below hb Pa15.out.lt)
        have Td16 := Lib.hid (Td15.out.below hb Td15.out.lt)
        clear hb X15 Y15 LB15 Tl15 Pa15 Td15
        go_wp2
        go_ret
        exact ⟨rfl, LB16.out⟩
  · skip
    have HT1 := Lib.hid HT1
    refine (HT1.out _ LB8.out).mono ?_
    rintro e w9 ⟨rfl, hb⟩
    have hba := (show Below _ _ (w9.alloc (.cells #[.int .i64 0, .int .i64 0, .slice none 0 0] 24)) from hb.trans (((Below.refl _ _).alloc (Nat.le_refl _) _).mono hb.size))
    clear hb
    have X9 := Lib.hid (X8.out.below hba X8.out.lt)
    have Y9 := Lib.hid (Y8.out.below hba Y8.out.lt)
    have LB9 := Lib.hid (LB8.out.trans (hba.mono LB8.out.size))
    have Tl9 := Lib.hid (Tl8.out.below hba Tl8.out.lt)
    clear hba X8 Y8 LB8 Tl8
    obtain ⟨q0, q1, q2, q3, q4, q5, q6⟩ := Y9.out.all
    go_wp2_with fail
    clear q0 q1 q2 q3 q4 q5 q6
    rcases HD.out with HO1 | ⟨a, b, a', b', z, P, Q, R, HO1⟩
    · skip
      go_wp2_with fail
      refine (HO1 _).mono ?_
      rintro e w10 ⟨rfl, hb⟩
      have X10 := Lib.hid (X9.out.below hb X9.out.lt)
      have Y10 := Lib.hid (Y9.out.below hb Y9.out.lt)
      have LB10 := Lib.hid (LB9.out.trans (hb.mono LB9.out.size))
      have Tl10 := Lib.hid (Tl9.out.below hb Tl9.out.lt)
      clear hb X9 Y9 LB9 Tl9
      go_wp2_with fail
      refine (alive6_any _).mono ?_
      rintro e w11 ⟨rfl, hb⟩
      have X11 := Lib.hid (X10.out.below hb X10.out.lt)
      have Y11 := Lib.hid (Y10.out.below hb Y10.out.lt)
      have LB11 := Lib.hid (LB10.out.trans (hb.mono LB10.out.size))
      have Tl11 := Lib.hid (Tl10.out.below hb Tl10.out.lt)
      clear hb X10 Y10 LB10 Tl10
      go_wp2
      go_ret
      exact ⟨rfl, LB11.out⟩
    · skip
      have HO1 := Lib.hid HO1
      go_wp2_with fail
      refine (HO1.out.v _).mono ?_
      rintro e w10 ⟨rfl, hb⟩
      have X10 := Lib.hid (X9.out.below hb X9.out.lt)
      have Y10 := Lib.hid (Y9.out.below hb Y9.out.lt)
      have LB10 := Lib.hid (LB9.out.trans (hb.mono LB9.out.size))
      have Tl10 := Lib.hid (Tl9.out.below hb Tl9.out.lt)
      clear hb X9 Y9 LB9 Tl9
      obtain ⟨q0, q1, q2, q3, q4, q5, q6⟩ := X10.out.all
      obtain ⟨r0, r1, r2, r3, r4, r5, r6⟩ := Y10.out.all
      go_wp2_with fail
      clear q0 q1 q2 q3 q4 q5 q6 r0 r1 r2 r3 r4 r5 r6
      refine (HO1.out.o1 _ LB10.out).mono ?_
      rintro e w11 ⟨rfl, hb⟩
      have hba := (show Below _ _ (w11.alloc (.cells #[.int .i64 a, .int .i64 b] 40)) from hb.trans (((Below.refl _ _).alloc (Nat.le_refl _) _).mono hb.size))
      have Pa11 := Lib.hid (Pt.new w11 a b)
      clear hb
      have X11 := Lib.hid (X10.out.below hba X10.out.lt)
      have Y11 := Lib.hid (Y10.out.below hba Y10.out.lt)
      have LB11 := Lib.hid (LB10.out.trans (hba.mono LB10.out.size))
      have Tl11 := Lib.hid (Tl10.out.below hba Tl10.out.lt)
      clear hba X10 Y10 LB10 Tl10
      obtain ⟨q0, q1, q2, q3, q4, q5, q6⟩ := X11.out.all
      obtain ⟨r0, r1, r2, r3, r4, r5, r6⟩ := Y11.out.all
      go_wp2_with fail
      clear q0 q1 q2 q3 q4 q5 q6 r0 r1 r2 r3 r4 r5 r6
      refine (HO1.out.o2 _ LB11.out).mono ?_
      rintro e w12 ⟨rfl, hb⟩
      have hba := (show Below _ _ (w12.alloc (.cells #[.int .i64 a', .int .i64 b'] 40)) from hb.trans (((Below.refl _ _).alloc (Nat.le_refl _) _).mono hb.size))
      clear hb
      have X12 := Lib.hid (X11.out.below hba X11.out.lt)
      have Y12 := Lib.hid (Y11.out.below hba Y11.out.lt)
      have LB12 := Lib.hid (LB11.out.trans (hba.mono LB11.out.size))
      have Tl12 := Lib.hid (Tl11.out.below hba Tl11.out.lt)
      have Pa12 := Lib.hid (Pa11.out.below hba Pa11.out.lt)
      clear hba X11 Y11 LB11 Tl11 Pa11
      obtain ⟨q0, q1, q2, q3, q4, q5, q6⟩ := Y12.out.all
      go_wp2_with fail
      clear q0 q1 q2 q3 q4 q5 q6
      refine (HO1.out.o3 _ LB12.out).mono ?_
      rintro e w13 ⟨rfl, hb⟩
      have hba := (show Below _ _ (w13.alloc (.cells #[.int .i64 P, .int .i64 Q, .int .i64 R] 27)) from hb.trans (((Below.refl _ _).alloc (Nat.le_refl _) _).mono hb.size))
      have Td13 := Lib.hid (Tri.new w13 P Q R)
      clear hb
      have X13 := Lib.hid (X12.out.below hba X12.out.lt)
      have Y13 := Lib.hid (Y12.out.below hba Y12.out.lt)
      have LB13 := Lib.hid (LB12.out.trans (hba.mono LB12.out.size))
      have Tl13 := Lib.hid (Tl12.out.below hba Tl12.out.lt)
      have Pa13 := Lib.hid (Pa12.out.below hba Pa12.out.lt)
      clear hba X12 Y12 LB12 Tl12 Pa12
      rcases HO1.out.zc with hz | hz
      · skip
        obtain ⟨h1, h2, h3⟩ := HO1.out.eq hz
        subst h1 h2 h3
        have HMO := Lib.hid (HO1.out.mv hz)
        clear HO1
        subst hz
        obtain ⟨q0, q1, q2, q3, q4, q5⟩ := Td13.out.all
        obtain ⟨r0, r1, r2, r3, r4, r5⟩ := Tl13.out.all
        obtain ⟨s0, s1, s2, s3, s4, s5, s6⟩ := X13.out.all
        obtain ⟨t0, t1, t2, t3, t4, t5, t6⟩ := Y13.out.all
        obtain ⟨v0, v1, v2, v3⟩ := Pa13.out.all
        go_wp2_with fail
        clear q0 q1 q2 q3 q4 q5 r0 r1 r2 r3 r4 r5 s0 s1 s2 s3 s4 s5 s6 t0 t1 t2 t3 t4 t5 t6 v0 v1 v2 v3
        refine (HMO.out _ LB13.out).mono ?_
        rintro e w14 ⟨rfl, hb⟩
        have X14 := Lib.hid (X13.out.below hb X13.out.lt)
        have Y14 := Lib.hid (Y13.out.below hb Y13.out.lt)
        have LB14 := Lib.hid (LB13.out.trans (hb.mono LB13.out.size))
        have Tl14 := Lib.hid (Tl13.out.below hb Tl13.out.lt)
        have Pa14 := Lib.hid (Pa13.out.below hb Pa13.out.lt)
        have Td14 := Lib.hid (Td13.out.below hb Td13.out.lt)
        clear hb X13 Y13 LB13 Tl13 Pa13 Td13
        go_wp2_with fail
        refine (alive6_any _).mono ?_
        rintro e w15 ⟨rfl, hb⟩
        have X15 := Lib.hid (X14.out.below hb X14.out.lt)
        have Y15 := Lib.hid (Y14.out.below hb Y14.out.lt)
        have LB15 := Lib.hid (LB14.out.trans (hb.mono LB14.out.size))
        have Tl15 := Lib.hid (Tl14.out.below hb Tl14.out.lt)
        have Pa15 := Lib.hid (Pa14.out.below hb Pa14.out.lt)
        have Td15 := Lib.hid (Td14.out.below hb Td14.out.lt)
        clear hb X14 Y14 LB14 Tl14 Pa14 Td14
        go_wp2
        go_ret
        exact ⟨rfl, LB15.out⟩
      · skip
        clear HO1
        subst hz
        go_wp2_with fail
        refine (alive6_any _).mono ?_
        rintro e w14 ⟨rfl, hb⟩
        have X14 := Lib.hid (X13.out.below hb X13.out.lt)
        have Y14 := Lib.hid (Y13.out.below hb Y13.out.lt)
        have LB14 := Lib.hid (LB13.out.trans (hb.mono LB13.out.size))
        have Tl14 := Lib.hid (Tl13.out.below hb Tl13.out.lt)
        have Pa14 := Lib.hid (Pa13.out.below hb Pa13.out.lt)
        have Td14 := Lib.hid (Td13.out.below hb Td13.out.lt)
        clear hb X13 Y13 LB13 Tl13 Pa13 Td13
        go_wp2
        go_ret
        exact ⟨rfl, LB14.out⟩
theorem moved_any (W H : Int) (A : Option Addr) (n c : Nat) (f : Nat → Bool) (X Y : Int) (D : Option Addr) (m d : Nat) (g : Nat → Bool) (dx dy : Int) (w : World) (hr : Holds w w.heap.size A n f) (hc : n ≤ c) (hs : Holds w w.heap.size D m g) (hmd : m ≤ d) :
    Calls Try.prog 9 #[.agg #[.int .i64 W, .int .i64 H, .slice A n c], .agg #[.int .i64 X, .int .i64 Y, .slice D m d], .int .i64 dx, .int .i64 dy] w fun e w' => e = .returned (.bool true) ∧ Below w.heap.size w w' := by
  by_cases hv : n ≤ 100 ∧ chk W H n = 0
  · have HV := fun w => valid6_y W H A n c w hv.1 hv.2
    by_cases h1 : dx < -1000000000
    · exact moved_guard W H A n c X Y D m d dx dy w true HV (.inr (.inl ⟨rfl, h1⟩))
    by_cases h2 : 1000000000 < dx
    · exact moved_guard W H A n c X Y D m d dx dy w true HV (.inr (.inr (.inl ⟨rfl, h1, h2⟩)))
    by_cases h3 : dy < -1000000000
    · exact moved_guard W H A n c X Y D m d dx dy w true HV (.inr (.inr (.inr (.inl ⟨rfl, h1, h2, h3⟩))))
    by_cases h4 : 1000000000 < dy
    · exact moved_guard W H A n c X Y D m d dx dy w true HV (.inr (.inr (.inr (.inr ⟨rfl, h1, h2, h3, h4⟩))))
    obtain ⟨W', H', rfl, rfl, k1, k2, k3, k4, k5⟩ := chk_nat hv.2
    obtain ⟨ba, oa, rfl, hb, hcs⟩ := hr.some_ (by rw [k5]; exact mul_ge k1 k3)
    exact moved_main W' H' n ba oa c f X Y D m d g dx dy w hb k5 hc hcs k1 k2 k3 k4 hv.1 hs hmd h1 h2 h3 h4
  · exact moved_guard W H A n c X Y D m d dx dy w false (fun w => valid6_n W H A n c w hv) (.inl rfl)
end Go.Proofs.Ytjbofdgdcnfmoaa
