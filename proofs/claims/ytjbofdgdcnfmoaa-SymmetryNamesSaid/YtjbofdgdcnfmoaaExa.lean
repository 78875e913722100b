/- The statement RepeatExactly: the walk. -/
import Derived.Test.YtjbofdgdcnfmoaaAb
namespace Go.Proofs.Ytjbofdgdcnfmoaa
open Go.RowKit
set_option maxRecDepth 100000
set_option linter.unusedVariables false
set_option linter.unusedSimpArgs false

set_option maxHeartbeats 400000 in
theorem valid6_any (W H : Int) (A : Option Addr) (n c : Nat) (w : World) : Calls Try.prog 40 #[.agg #[.int .i64 W, .int .i64 H, .slice A n c]] w fun e w' => e = .returned (.bool (decide (n ≤ 100 ∧ chk W H n = 0))) ∧ Below w.heap.size w w' := by
  have X0 := Lib.hid (Box.new w W H (.slice A n c))
  have L0 := Lib.hid (show Below w.heap.size w (w.alloc (.cells #[.int .i64 W, .int .i64 H, .slice A n c] 24)) from (Below.refl _ _).alloc (Nat.le_refl _) _)
  by_cases h : 100 < n
  · have HG := Lib.hid (fun v => (show Calls Try.prog 28 #[.agg #[.int .i64 W, .int .i64 H, .slice A n c]] v fun e w' => e = .returned (.bool true) ∧ Below v.heap.size v w' by have k := g6_any W H A n c v; rwa [decide_eq_true h] at k))
    have HD := Lib.hid (show decide (n ≤ 100 ∧ chk W H n = 0) = false by rw [decide_eq_false_iff_not]; omega)
    go_enter Try.func40, Try.ntmps40
    go_wp2_with fail
    refine (HG.out _).mono ?_
    rintro e w1 ⟨rfl, hb⟩
    have L1 := Lib.hid (L0.out.trans (hb.mono L0.out.size))
    go_wp2
    go_ret
    exact ⟨by rw [HD.out]; rfl, L1.out⟩
  · have HG := Lib.hid (fun v => (show Calls Try.prog 28 #[.agg #[.int .i64 W, .int .i64 H, .slice A n c]] v fun e w' => e = .returned (.bool false) ∧ Below v.heap.size v w' by have k := g6_any W H A n c v; rwa [decide_eq_false h] at k))
    have HC := Lib.hid (fun v => rchk_any W H A n c v (by omega))
    have HN := Lib.hid (show n ≤ 100 by omega)
    obtain ⟨z, hz⟩ : ∃ z, chk W H n = z := ⟨_, rfl⟩
    rw [hz] at HC ⊢
    clear hz h
    go_enter Try.func40, Try.ntmps40
    go_wp2_with fail
    refine (HG.out _).mono ?_
    rintro e w1 ⟨rfl, hb⟩
    have L1 := Lib.hid (L0.out.trans (hb.mono L0.out.size))
    obtain ⟨q0, q1, q2, q3, q4, q5, q6⟩ := (X0.out.below hb X0.out.lt).all
    clear hb
    go_wp2_with fail
    refine (HC.out _).mono ?_
    rintro e w2 ⟨rfl, hb⟩
    have L2 := Lib.hid (L1.out.trans (hb.mono L1.out.size))
    clear hb
    by_cases hz : z = 0
    · have HD := Lib.hid (show decide (n ≤ 100 ∧ z = 0) = true by rw [decide_eq_true_iff]; exact ⟨HN.out, hz⟩)
      subst hz
      go_wp2
      go_ret
      exact ⟨by simp [HN.out], L2.out⟩
    · have HD := Lib.hid (show decide (n ≤ 100 ∧ z = 0) = false by rw [decide_eq_false_iff_not]; exact fun h => hz h.2)
      have z1 : (z == 0) = false := by simpa using hz
      go_wp2
      go_ret
      exact ⟨by rw [HD.out]; simp [hz], L2.out⟩
theorem valid6_y (W H : Int) (A : Option Addr) (n c : Nat) (w : World) (h : n ≤ 100) (k : chk W H n = 0) : Calls Try.prog 40 #[.agg #[.int .i64 W, .int .i64 H, .slice A n c]] w fun e w' => e = .returned (.bool true) ∧ Below w.heap.size w w' := by
  have h2 := valid6_any W H A n c w
  rwa [decide_eq_true ⟨h, k⟩] at h2
theorem valid6_n (W H : Int) (A : Option Addr) (n c : Nat) (w : World) (h : ¬ (n ≤ 100 ∧ chk W H n = 0)) : Calls Try.prog 40 #[.agg #[.int .i64 W, .int .i64 H, .slice A n c]] w fun e w' => e = .returned (.bool false) ∧ Below w.heap.size w w' := by
  have h2 := valid6_any W H A n c w
  rwa [decide_eq_false h] at h2
theorem IsL.lchk {W H : Nat} {f : Nat → Bool} {A B C : Nat} (h : IsL W H f A B C) (hW : W ≤ 64) (hH : H ≤ 64) : lchk A B C = 0 := by
  have := h.a0; have := h.aw; have := h.c0; have := h.ch; have := h.ba
  unfold Go.Proofs.Ytjbofdgdcnfmoaa.lchk
  rw [if_neg (by omega)]
theorem in_at {A B C : Int} (h : lchk A B C = 0) (dx dy : Int) (w : World) (hx0 : -9223372036854775808 ≤ dx) (hx1 : dx ≤ 9223372036854775807) (hy0 : -9223372036854775808 ≤ dy) (hy1 : dy ≤ 9223372036854775807) :
    Calls Try.prog 22 #[.agg #[.int .i64 A, .int .i64 B, .int .i64 C], .int .i64 dx, .int .i64 dy] w fun e w' => e = .returned (.tuple #[.bool (inn A B C dx dy), .int .i64 0]) ∧ Below w.heap.size w w' := by
  have k := pin_any A B C dx dy w hx0 hx1 hy0 hy1
  unfold IOut at k
  rw [h, decide_eq_true rfl, Bool.true_and] at k
  exact k
theorem is_at {W H A B C : Nat} {f : Nat → Bool} (hL : IsL W H f A B C) (ba oa c : Nat) (dx dy : Int) (w : World) (la : ba < w.heap.size) (hcp : W * H ≤ c) (hcs : ∀ i, i < W * H → w.cell? ⟨ba, oa + i, none⟩ = some (.bool (f i))) (hW : W ≤ 64) (hH0 : 1 ≤ H) (hH : H ≤ 64)
    (hx0 : -9223372036854775808 ≤ dx) (hx1 : dx ≤ 9223372036854775807) (hy0 : -9223372036854775808 ≤ dy) (hy1 : dy ≤ 9223372036854775807) :
    Calls Try.prog 23 #[.agg #[.int .i64 (W : Nat), .int .i64 (H : Nat), .slice (some ⟨ba, oa, none⟩) (W * H) c], .int .i64 dx, .int .i64 dy] w fun e w' => e = .returned (.tuple #[.bool (inn A B C dx dy), .int .i64 0]) ∧ Below w.heap.size w w' := by
  have hW0 := Nat.le_trans hL.a0 hL.aw
  obtain ⟨p, hp⟩ := Int.eq_ofNat_of_zero_le (Int.emod_nonneg dx (show (W : Int) ≠ 0 by omega))
  obtain ⟨q, hq⟩ := Int.eq_ofNat_of_zero_le (Int.emod_nonneg dy (show (H : Int) ≠ 0 by omega))
  have k := pis_ok W H ba oa c f dx dy p q w la hcp hcs hW0 hW hH0 hH hx0 hx1 hy0 hy1 hp hq
  have e : decide (rep W H f p q) = inn A B C dx dy := by
    have h1 := rep_iff (f := f) hW0 hH0 p q
    have h2 := hL.mem hH0 dx dy
    have h3 : Rp W H f p q ↔ Rp W H f dx dy := by
      constructor
      · intro h x y; rw [pz_mod (x' := x + p) (y' := y + q) (by rw [← hp]; simp) (by rw [← hq]; simp)]; exact h x y
      · intro h x y; rw [pz_mod (x' := x + dx) (y' := y + dy) (by rw [← hp]; simp) (by rw [← hq]; simp)]; exact h x y
    have h4 : rep W H f p q ↔ inn A B C dx dy = true := h1.trans (h3.trans h2)
    cases h5 : inn A B C dx dy
    · rw [decide_eq_false_iff_not]; intro h; rw [h4.1 h] at h5; cases h5
    · rw [decide_eq_true_iff]; exact h4.2 h5
  rw [e] at k
  exact k
theorem lt_grow {P : Nat → Prop} {n : Nat} (h : ∀ k, k < n → P k) (k : P n) : ∀ j, j < n + 1 → P j := fun j hj => by
  rcases Nat.lt_succ_iff_lt_or_eq.1 hj with i | rfl
  · exact h j i
  · exact k
/-- What lies in the walk. -/
structure ES (w wr : World) (W H : Nat) (sa : Value) (tb A B C : Nat) : Prop where
  g : Box wr w.heap.size (W : Nat) (H : Nat) sa
  t : Tri wr tb (A : Nat) (B : Nat) (C : Nat)
  bel : Below w.heap.size w wr
theorem ES.next {w wr w' : World} {W H : Nat} {sa : Value} {tb A B C : Nat} (h : ES w wr W H sa tb A B C) (hb : Below wr.heap.size wr w') : ES w w' W H sa tb A B C := ⟨h.g.below hb h.g.lt, h.t.below hb h.t.lt, h.bel.trans (hb.mono h.bel.size)⟩
/-- The cells that are compared for a step. -/
def pp (W H : Nat) (f : Nat → Bool) (x y u v : Nat) : Prop := f (v * W + u) = f ((v + y) % H * W + (u + x) % W)
theorem pp_rep {W H : Nat} {f : Nat → Bool} {x y : Nat} : rep W H f x y ↔ ∀ u, u < W → ∀ v, v < H → pp W H f x y u v := by
  unfold rep pp pc
  constructor
  · intro h u hu v hv
    have e := h u hu v hv
    rwa [Nat.mod_eq_of_lt hu, Nat.mod_eq_of_lt hv] at e
  · intro h u hu v hv
    rw [Nat.mod_eq_of_lt hu, Nat.mod_eq_of_lt hv]
    exact h u hu v hv
set_option maxHeartbeats 800000 in
theorem exact_guard (W H : Int) (A : Option Addr) (n c : Nat) (dx dy : Int) (w : World) (vt : Bool) (hv : ∀ w, Calls Try.prog 40 #[.agg #[.int .i64 W, .int .i64 H, .slice A n c]] w fun e w' => e = .returned (.bool vt) ∧ Below w.heap.size w w')
    (h : vt = false ∨ (vt = true ∧ dx < -1000000000) ∨ (vt = true ∧ ¬ dx < -1000000000 ∧ 1000000000 < dx) ∨ (vt = true ∧ ¬ dx < -1000000000 ∧ ¬ 1000000000 < dx ∧ dy < -1000000000) ∨ (vt = true ∧ ¬ dx < -1000000000 ∧ ¬ 1000000000 < dx ∧ ¬ dy < -1000000000 ∧ 1000000000 < dy)) :
    Calls Try.prog 6 #[.agg #[.int .i64 W, .int .i64 H, .slice A n c], .int .i64 dx, .int .i64 dy] w fun e w' => e = .returned (.bool true) ∧ Below w.heap.size w w' := by
  have HV := Lib.hid hv
  have L0 := Lib.hid (show Below w.heap.size w (w.alloc (.cells #[.int .i64 W, .int .i64 H, .slice A n c] 24)) from (Below.refl _ _).alloc (Nat.le_refl _) _)
  clear hv
  rcases h with rfl | ⟨rfl, h1⟩ | ⟨rfl, h1, h2⟩ | ⟨rfl, h1, h2, h3⟩ | ⟨rfl, h1, h2, h3, h4⟩
  all_goals
    go_enter Try.func6, Try.ntmps6
    go_wp2_with fail
    refine (HV.out _).mono ?_
    rintro e w1 ⟨rfl, hb⟩
    have L1 := Lib.hid (L0.out.trans (hb.mono L0.out.size))
    clear hb
    go_wp2_with fail
    refine (alive6_any _).mono ?_
    rintro e w2 ⟨rfl, hb⟩
    have L2 := Lib.hid (L1.out.trans (hb.mono L1.out.size))
    clear hb
    go_wp2
    go_ret
    exact ⟨rfl, L2.out⟩
set_option maxHeartbeats 6400000 in
theorem exact_main (W H N ba oa c : Nat) (f : Nat → Bool) (dx dy : Int) (w : World) (la : ba < w.heap.size) (hN : N = W * H) (hcp : N ≤ c) (hcs : ∀ i, i < N → w.cell? ⟨ba, oa + i, none⟩ = some (.bool (f i))) (hW0 : 1 ≤ W) (hW : W ≤ 64) (hH0 : 1 ≤ H) (hH : H ≤ 64) (hn : N ≤ 100)
    (hx0 : ¬ dx < -1000000000) (hx1 : ¬ 1000000000 < dx) (hy0 : ¬ dy < -1000000000) (hy1 : ¬ 1000000000 < dy) :
    Calls Try.prog 6 #[.agg #[.int .i64 (W : Nat), .int .i64 (H : Nat), .slice (some ⟨ba, oa, none⟩) N c], .int .i64 dx, .int .i64 dy] w fun e w' => e = .returned (.bool true) ∧ Below w.heap.size w w' := by
  obtain ⟨A, B, C, hL⟩ := IsL.ex W H f hW0 hH0
  have hlc := hL.lchk hW hH
  have HCS := Lib.hid (fun v (h : Below w.heap.size w v) => (show ∀ i, i < N → v.cell? ⟨ba, oa + i, none⟩ = some (.bool (f i)) from fun i hi => (h.cell (p := ⟨ba, oa + i, none⟩) la).trans (hcs i hi)))
  have HV := Lib.hid (fun v => (valid6_y W H (some ⟨ba, oa, none⟩) N c v hn (by rw [hN]; exact chk_zero hW0 hW hH0 hH)))
  have HO := Lib.hid (fun v (h : Below w.heap.size w v) => (show Calls Try.prog 19 #[.agg #[.int .i64 (W : Nat), .int .i64 (H : Nat), .slice (some ⟨ba, oa, none⟩) N c]] v fun e w' => e = .returned (.tuple #[.agg #[.int .i64 (A : Nat), .int .i64 (B : Nat), .int .i64 (C : Nat)], .int .i64 0]) ∧ Below v.heap.size v w' by
    subst hN
    exact pof_at hL (some ⟨ba, oa, none⟩) c v (fun _ => ⟨ba, oa, rfl, Nat.lt_of_lt_of_le la h.size, HCS.out v h⟩) hcp hW hH0 hH))
  obtain ⟨t, ht⟩ : ∃ t, inn A B C dx dy = t := ⟨_, rfl⟩
  have HI := Lib.hid (fun v (h : Below w.heap.size w v) => (show Calls Try.prog 23 #[.agg #[.int .i64 (W : Nat), .int .i64 (H : Nat), .slice (some ⟨ba, oa, none⟩) N c], .int .i64 dx, .int .i64 dy] v fun e w' => e = .returned (.tuple #[.bool t, .int .i64 0]) ∧ Below v.heap.size v w' by
    subst hN
    rw [← ht]
    exact is_at hL ba oa c dx dy v (Nat.lt_of_lt_of_le la h.size) hcp (HCS.out v h) hW hH0 hH (by omega) (by omega) (by omega) (by omega)))
  have HJ := Lib.hid (fun v => (show Calls Try.prog 22 #[.agg #[.int .i64 (A : Nat), .int .i64 (B : Nat), .int .i64 (C : Nat)], .int .i64 dx, .int .i64 dy] v fun e w' => e = .returned (.tuple #[.bool t, .int .i64 0]) ∧ Below v.heap.size v w' by
    rw [← ht]
    exact in_at hlc dx dy v (by omega) (by omega) (by omega) (by omega)))
  have HK := Lib.hid (fun v => (show Calls Try.prog 26 #[.agg #[.int .i64 (A : Nat), .int .i64 (B : Nat), .int .i64 (C : Nat)]] v fun e w' => e = .returned (.int .i64 0) ∧ Below v.heap.size v w' by
    have h := lchk_any A B C v
    rwa [hlc] at h))
  have HX := Lib.hid (fun v (x y : Nat) (hx : x ≤ 64) (hy : y ≤ 64) (t : Bool) (ht : t = true ↔ rep W H f x y) => (show Calls Try.prog 22 #[.agg #[.int .i64 (A : Nat), .int .i64 (B : Nat), .int .i64 (C : Nat)], .int .i64 (x : Nat), .int .i64 (y : Nat)] v fun e w' => e = .returned (.tuple #[.bool t, .int .i64 0]) ∧ Below v.heap.size v w' by
    have h := in_at hlc x y v (by omega) (by omega) (by omega) (by omega)
    have h2 : inn A B C x y = true ↔ rep W H f x y := ((rep_iff hW0 hH0 x y).trans (hL.mem hH0 x y)).symm
    have h3 : inn A B C x y = t := by
      cases t
      · cases h5 : inn A B C x y
        · rfl
        · have := ht.2 (h2.1 h5); cases this
      · exact h2.2 (ht.1 rfl)
    rwa [h3] at h))
  obtain ⟨d1, d2, _⟩ := hL.divs hH0
  have hA0 := hL.a0
  have hAW := hL.aw
  have hC0 := hL.c0
  have hCH := hL.ch
  have HNN := Lib.hid hN
  have m1 : (W : Int).tmod (A : Int) = 0 := by rw [Int.tmod_eq_emod_of_nonneg (by omega)]; omega
  have m2 : (H : Int).tmod (C : Int) = 0 := by rw [Int.tmod_eq_emod_of_nonneg (by omega)]; omega
  have i1 : ¬ A = 0 := by omega
  have i2 : ¬ C = 0 := by omega
  have i3 : ¬ (A : Int) < 1 := by omega
  have i4 : ¬ (C : Int) < 1 := by omega
  have s1 : (t != t) = false := by simp
  have X0 := Lib.hid (Box.new w (W : Nat) (H : Nat) (.slice (some ⟨ba, oa, none⟩) N c))
  have L0 := Lib.hid (show Below w.heap.size w (w.alloc (.cells #[.int .i64 (W : Nat), .int .i64 (H : Nat), .slice (some ⟨ba, oa, none⟩) N c] 24)) from (Below.refl _ _).alloc (Nat.le_refl _) _)
  clear hL hlc hcs ht hN d1 d2
  go_enter Try.func6, Try.ntmps6
  go_wp2_with fail
  refine (HV.out _).mono ?_
  rintro e w1 ⟨rfl, hb⟩
  have L1 := Lib.hid (L0.out.trans (hb.mono L0.out.size))
  have X1 := Lib.hid (X0.out.below hb X0.out.lt)
  clear hb
  obtain ⟨q0, q1, q2, q3, q4, q5, q6⟩ := X1.out.all
  go_wp2_with fail
  clear q0 q1 q2 q3 q4 q5 q6
  refine (HO.out _ L1.out).mono ?_
  rintro e w2 ⟨rfl, hb⟩
  have E2 := Lib.hid (show ES w (w2.alloc (.cells #[.int .i64 (A : Nat), .int .i64 (B : Nat), .int .i64 (C : Nat)] 27)) W H (.slice (some ⟨ba, oa, none⟩) N c) w2.heap.size A B C from
    ⟨(X1.out.below hb X1.out.lt).alloc _, Tri.new _ _ _ _, (L1.out.trans (hb.mono L1.out.size)).alloc (Nat.le_trans L1.out.size hb.size) _⟩)
  obtain ⟨p0, p1, p2, p3, p4, p5, p6⟩ := (X1.out.below hb X1.out.lt).all
  clear hb X1 L1 X0 L0
  obtain ⟨q0, q1, q2, q3, q4, q5, q6⟩ := E2.out.g.all
  go_wp2_with fail
  clear q0 q1 q2 q3 q4 q5 q6 p0 p1 p2 p3 p4 p5 p6
  refine (HI.out _ E2.out.bel).mono ?_
  rintro e w3 ⟨rfl, hb⟩
  have E3 := Lib.hid (E2.out.next hb)
  clear hb E2
  obtain ⟨t0, t1, t2, t3, t4, t5⟩ := E3.out.t.all
  go_wp2_with fail
  clear t0 t1 t2 t3 t4 t5
  refine (HJ.out _).mono ?_
  rintro e w4 ⟨rfl, hb⟩
  have E4 := Lib.hid (E3.out.next hb)
  clear hb E3
  obtain ⟨t0, t1, t2, t3, t4, t5⟩ := E4.out.t.all
  go_wp2_with fail
  clear t0 t1 t2 t3 t4 t5
  refine (HK.out _).mono ?_
  rintro e w5 ⟨rfl, hb⟩
  have E5 := Lib.hid (E4.out.next hb)
  clear hb E4
  obtain ⟨t0, t1, t2, t3, t4, t5⟩ := E5.out.t.all
  obtain ⟨q0, q1, q2, q3, q4, q5, q6⟩ := E5.out.g.all
  go_wp2_with fail
  clear t0 t1 t2 t3 t4 t5 q0 q1 q2 q3 q4 q5 q6
  go_loopw [13] (fun i wr => ∃ x : Nat, x ≤ W ∧ i = .int .i64 x ∧ Hid (ES w wr W H (.slice (some ⟨ba, oa, none⟩) N c) w2.heap.size A B C)) (fun i _ => W - (intOf i).toNat)
  case atStart => exact ⟨0, Nat.zero_le _, rfl, E5⟩
  case round =>
    obtain ⟨x, hx, rfl, E⟩ := hrel
    obtain ⟨q0, q1, q2, q3, q4, q5, q6⟩ := E.out.g.all
    by_cases hlx : x < W
    · go_wp2
      clear q0 q1 q2 q3 q4 q5 q6
      go_loopw [14] (fun i wr => ∃ y : Nat, y ≤ H ∧ i = .int .i64 y ∧ Hid (ES w wr W H (.slice (some ⟨ba, oa, none⟩) N c) w2.heap.size A B C)) (fun i _ => H - (intOf i).toNat)
      case atStart => exact ⟨0, Nat.zero_le _, rfl, E⟩
      case round =>
        obtain ⟨y, hy, rfl, E⟩ := hrel
        obtain ⟨q0, q1, q2, q3, q4, q5, q6⟩ := E.out.g.all
        obtain ⟨t0, t1, t2, t3, t4, t5⟩ := E.out.t.all
        by_cases hly : y < H
        · obtain ⟨tt, htt⟩ : ∃ tt : Bool, tt = true ↔ rep W H f x y := by
            by_cases h : rep W H f x y
            · exact ⟨true, ⟨fun _ => h, fun _ => rfl⟩⟩
            · exact ⟨false, ⟨fun e => (by cases e), fun e => absurd e h⟩⟩
          have HTT := Lib.hid htt
          clear htt
          go_wp2_with fail
          clear q0 q1 q2 q3 q4 q5 q6 t0 t1 t2 t3 t4 t5
          refine (HX.out _ x y (by omega) (by omega) tt HTT.out).mono ?_
          rintro e w6 ⟨rfl, hb⟩
          have E6 := Lib.hid (E.out.next hb)
          clear hb
          go_wp2_with fail
          go_loopw [17, 18] (fun s i wr => ∃ (u : Nat) (b : Bool), u ≤ W ∧ s = .bool b ∧ i = .int .i64 u ∧ Hid (b = true → ∀ u', u' < u → ∀ v, v < H → pp W H f x y u' v) ∧ Hid (b = false → ¬ rep W H f x y) ∧ Hid (ES w wr W H (.slice (some ⟨ba, oa, none⟩) N c) w2.heap.size A B C)) (fun _ i _ => W - (intOf i).toNat)
          case atStart => exact ⟨0, true, Nat.zero_le _, rfl, rfl, Lib.hid (fun _ u hu => absurd hu (by omega)), Lib.hid (fun e => by cases e), E6⟩
          case round =>
            obtain ⟨u, b, hu, rfl, rfl, Ht, Hf, E⟩ := hrel
            obtain ⟨q0, q1, q2, q3, q4, q5, q6⟩ := E.out.g.all
            by_cases hlu : u < W ∧ b = true
            · obtain ⟨hlu, rfl⟩ := hlu
              go_wp2
              clear q0 q1 q2 q3 q4 q5 q6
              go_loopw [17, 19] (fun s i wr => ∃ (v : Nat) (b : Bool), v ≤ H ∧ s = .bool b ∧ i = .int .i64 v ∧ Hid (b = true → ∀ v', v' < v → pp W H f x y u v') ∧ Hid (b = false → ¬ rep W H f x y) ∧ Hid (ES w wr W H (.slice (some ⟨ba, oa, none⟩) N c) w2.heap.size A B C)) (fun _ i _ => H - (intOf i).toNat)
              case atStart => exact ⟨0, true, Nat.zero_le _, rfl, rfl, Lib.hid (fun _ v hv => absurd hv (by omega)), Lib.hid (fun e => by cases e), E⟩
              case round =>
                obtain ⟨v, b, hv, rfl, rfl, Gt, Gf, E⟩ := hrel
                obtain ⟨q0, q1, q2, q3, q4, q5, q6⟩ := E.out.g.all
                by_cases hlv : v < H ∧ b = true
                · obtain ⟨hlv, rfl⟩ := hlv
                  have j1 : v * W + u < N := by rw [HNN.out, Nat.mul_comm W H]; have h := Nat.mul_le_mul_right W (show v + 1 ≤ H from hlv); rw [Nat.add_mul, Nat.one_mul] at h; omega
                  have n1 : (v + y) % H < H := Nat.mod_lt _ hH0
                  have n2 : (u + x) % W < W := Nat.mod_lt _ hW0
                  have j2 : (v + y) % H * W + (u + x) % W < N := by rw [HNN.out, Nat.mul_comm W H]; have h := Nat.mul_le_mul_right W (show (v + y) % H + 1 ≤ H from n1); rw [Nat.add_mul, Nat.one_mul] at h; omega
                  have k1 := HCS.out _ E.out.bel _ j1
                  have k2 := HCS.out _ E.out.bel _ j2
                  have HP := Lib.hid (show pp W H f x y u v ↔ f (v * W + u) = f ((v + y) % H * W + (u + x) % W) from Iff.rfl)
                  have a1 : IntKind.i64.wrap ((v : Int) + (y : Int)) = ((v + y : Nat) : Int) := by rw [Int.natCast_add]; exact IntWalk.i64_in _ (by omega)
                  have a2 : IntKind.i64.wrap ((u : Int) + (x : Int)) = ((u + x : Nat) : Int) := by rw [Int.natCast_add]; exact IntWalk.i64_in _ (by omega)
                  have a3 : ((v + y : Nat) : Int).tmod (H : Int) = (((v + y) % H : Nat) : Int) := by rw [Int.tmod_eq_emod_of_nonneg (by omega)]; omega
                  have a4 : ((u + x : Nat) : Int).tmod (W : Int) = (((u + x) % W : Nat) : Int) := by rw [Int.tmod_eq_emod_of_nonneg (by omega)]; omega
                  generalize (v + y) % H = my at *
                  generalize (u + x) % W = mx at *
                  generalize v + y = vy at a1 a3
                  generalize u + x = ux at a2 a4
                  have a5 : IntKind.i64.wrap ((v : Int) * (W : Int)) = ((v * W : Nat) : Int) := by rw [Int.natCast_mul]; exact IntWalk.i64_in _ (by rw [← Int.natCast_mul]; omega)
                  have a6 : IntKind.i64.wrap ((my : Int) * (W : Int)) = ((my * W : Nat) : Int) := by rw [Int.natCast_mul]; exact IntWalk.i64_in _ (by rw [← Int.natCast_mul]; omega)
                  generalize v * W = r1 at *
                  generalize my * W = r2 at *
                  have a7 : IntKind.i64.wrap ((r1 : Int) + (u : Int)) = ((r1 + u : Nat) : Int) := by rw [Int.natCast_add]; exact IntWalk.i64_in _ (by omega)
                  have a8 : IntKind.i64.wrap ((r2 : Int) + (mx : Int)) = ((r2 + mx : Nat) : Int) := by rw [Int.natCast_add]; exact IntWalk.i64_in _ (by omega)
                  generalize r1 + u = g1 at *
                  generalize r2 + mx = g2 at *
                  have b1 : ¬ W = 0 := by omega
                  have b2 : ¬ H = 0 := by omega
                  have b3 : (g1 : Int) < (N : Int) := by omega
                  have b4 : (g2 : Int) < (N : Int) := by omega
                  generalize f g1 = z1 at *
                  generalize f g2 = z2 at *
                  cases z1 <;> cases z2
                  all_goals
                    go_wp2
                    go_quiet (fail)
                    go_wp2
                    have E7 := Lib.hid (E.out.next (Go.Proofs.below_drewN' (Below.refl _ _) nq))
                  · exact ⟨⟨v + 1, true, by omega, rfl, by go_num, Lib.hid (fun _ => lt_grow (Gt.out (by first | rfl | trivial)) (HP.out.2 (by first | rfl | trivial))), Lib.hid (fun e => by cases e), E7⟩, by simp [intOf]; omega⟩
                  · exact ⟨⟨v + 1, false, by omega, rfl, by go_num, Lib.hid (fun e => by cases e), Lib.hid (fun _ h => by have := HP.out.1 (pp_rep.1 h u hlu v hlv); cases this), E7⟩, by simp [intOf]; omega⟩
                  · exact ⟨⟨v + 1, false, by omega, rfl, by go_num, Lib.hid (fun e => by cases e), Lib.hid (fun _ h => by have := HP.out.1 (pp_rep.1 h u hlu v hlv); cases this), E7⟩, by simp [intOf]; omega⟩
                  · exact ⟨⟨v + 1, true, by omega, rfl, by go_num, Lib.hid (fun _ => lt_grow (Gt.out (by first | rfl | trivial)) (HP.out.2 (by first | rfl | trivial))), Lib.hid (fun e => by cases e), E7⟩, by simp [intOf]; omega⟩
                · cases b
                  · go_wp2
                    all_goals exact ⟨⟨u + 1, false, by omega, rfl, by go_num, Lib.hid (fun e => by cases e), Gf, E⟩, by simp [intOf]; omega⟩
                  · have e : v = H := by
                      rcases Nat.lt_or_ge v H with h | h
                      · exact absurd ⟨h, rfl⟩ hlv
                      · omega
                    subst e
                    clear hlv
                    go_wp2
                    exact ⟨⟨u + 1, true, by omega, rfl, by go_num, Lib.hid (fun _ => lt_grow (P := fun u' => ∀ v', v' < v → pp W v f x y u' v') (Ht.out (by first | rfl | trivial)) (Gt.out (by first | rfl | trivial))), Lib.hid (fun e => by cases e), E⟩, by simp [intOf]; omega⟩
            · have HB := Lib.hid (show b = tt by
                cases b
                · cases tt
                  · rfl
                  · exact absurd (HTT.out.1 rfl) (Hf.out rfl)
                · have e : u = W := by
                    rcases Nat.lt_or_ge u W with h | h
                    · exact absurd ⟨h, rfl⟩ hlu
                    · omega
                  subst e
                  exact (HTT.out.2 (pp_rep.2 (Ht.out (by first | rfl | trivial)))).symm)
              have s2 : (tt != tt) = false := by simp
              have hbt := HB.out
              subst hbt
              cases b
              · clear hlu
                go_wp2
                all_goals exact ⟨⟨y + 1, by omega, by go_num, E⟩, by simp [intOf]; omega⟩
              · have e : u = W := by
                  rcases Nat.lt_or_ge u W with h | h
                  · exact absurd ⟨h, rfl⟩ hlu
                  · omega
                subst e
                clear hlu
                go_wp2
                exact ⟨⟨y + 1, by omega, by go_num, E⟩, by simp [intOf]; omega⟩
        · have e : y = H := by omega
          subst e
          go_wp2
          exact ⟨⟨x + 1, by omega, by go_num, E⟩, by simp [intOf]; omega⟩
    · have e : x = W := by omega
      subst e
      go_wp2_with fail
      refine (alive6_any _).mono ?_
      rintro e w9 ⟨rfl, hb⟩
      have L9 := Lib.hid (E.out.bel.trans (hb.mono E.out.bel.size))
      clear hb
      go_wp2
      go_ret
      exact ⟨rfl, L9.out⟩
theorem exact_any (W H : Int) (A : Option Addr) (n c : Nat) (f : Nat → Bool) (dx dy : Int) (w : World) (hr : Holds w w.heap.size A n f) (hc : n ≤ c) :
    Calls Try.prog 6 #[.agg #[.int .i64 W, .int .i64 H, .slice A n c], .int .i64 dx, .int .i64 dy] w fun e w' => e = .returned (.bool true) ∧ Below w.heap.size w w' := by
  by_cases hv : n ≤ 100 ∧ chk W H n = 0
  · have HV := fun w => valid6_y W H A n c w hv.1 hv.2
    by_cases h1 : dx < -1000000000
    · exact exact_guard W H A n c dx dy w true HV (.inr (.inl ⟨rfl, h1⟩))
    by_cases h2 : 1000000000 < dx
    · exact exact_guard W H A n c dx dy w true HV (.inr (.inr (.inl ⟨rfl, h1, h2⟩)))
    by_cases h3 : dy < -1000000000
    · exact exact_guard W H A n c dx dy w true HV (.inr (.inr (.inr (.inl ⟨rfl, h1, h2, h3⟩))))
    by_cases h4 : 1000000000 < dy
    · exact exact_guard W H A n c dx dy w true HV (.inr (.inr (.inr (.inr ⟨rfl, h1, h2, h3, h4⟩))))
    obtain ⟨W', H', rfl, rfl, k1, k2, k3, k4, k5⟩ := chk_nat hv.2
    obtain ⟨ba, oa, rfl, hb, hcs⟩ := hr.some_ (by rw [k5]; exact mul_ge k1 k3)
    exact exact_main W' H' n ba oa c f dx dy w hb k5 hc hcs k1 k2 k3 k4 hv.1 h1 h2 h3 h4
  · exact exact_guard W H A n c dx dy w false (fun w => valid6_n W H A n c w hv) (.inl rfl)
end Go.Proofs.Ytjbofdgdcnfmoaa
