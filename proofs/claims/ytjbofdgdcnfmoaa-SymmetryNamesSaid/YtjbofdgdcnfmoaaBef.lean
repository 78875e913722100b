/- The reference: the order of forms (Before), a rectangle of a plane. -/
import Derived.Test.YtjbofdgdcnfmoaaFmo
import Derived.Test.YtjbofdgdcnfmoaaGb
namespace Go.Proofs.Ytjbofdgdcnfmoaa
open Go.RowKit
set_option maxRecDepth 100000
set_option linter.unusedVariables false
set_option linter.unusedSimpArgs false

theorem lt_grw {P : Nat → Prop} {n : Nat} (h : ∀ k, k < n → P k) (k : P n) : ∀ j, j < n + 1 → P j := fun j hj => by
  rcases Nat.lt_succ_iff_lt_or_eq.1 hj with i | rfl
  · exact h j i
  · exact k
set_option maxHeartbeats 1600000 in
theorem before_cells (W H : Nat) (f g : Nat → Bool) (k c l d : Nat) (w : World) (hn : W * H ≤ 5000) (h1 : Row w k (W * H) f) (h2 : Row w l (W * H) g) :
    Calls Try.prog 68 #[.agg #[.int .i64 (W : Nat), .int .i64 (H : Nat), .slice (some ⟨k, 0, none⟩) (W * H) c], .agg #[.int .i64 (W : Nat), .int .i64 (H : Nat), .slice (some ⟨l, 0, none⟩) (W * H) d]] w fun e w' => ∃ t : Bool, e = .returned (.bool t) ∧ (t = true ↔ ∃ i, i < W * H ∧ f i = false ∧ g i = true ∧ ∀ j, j < i → f j = g j) ∧ Below w.heap.size w w' := by
  have LB0 := Lib.hid (boxes2 w (W : Nat) (H : Nat) (W : Nat) (H : Nat) (.slice (some ⟨k, 0, none⟩) (W * H) c) (.slice (some ⟨l, 0, none⟩) (W * H) d))
  have R1 := Lib.hid (fun v (h : Below w.heap.size w v) => h1.below h h1.lt)
  have R2 := Lib.hid (fun v (h : Below w.heap.size w v) => h2.below h h2.lt)
  generalize hN : W * H = N at *
  clear hN h1 h2
  go_enter Try.func68, Try.ntmps68
  obtain ⟨q0, q1, q2, q3, q4, q5, q6⟩ := LB0.out.1.all
  obtain ⟨r0, r1, r2, r3, r4, r5, r6⟩ := LB0.out.2.1.all
  have s1 : ((W : Int) != (W : Int)) = false := by simp
  have s2 : ((H : Int) != (H : Int)) = false := by simp
  go_wp2_with fail
  clear q0 q1 q2 q3 q4 q5 q6 r0 r1 r2 r3 r4 r5 r6 s1 s2
  generalize hv : (w.alloc (.cells #[.int .i64 (W : Nat), .int .i64 (H : Nat), .slice (some ⟨k, 0, none⟩) N c] 24)).alloc (.cells #[.int .i64 (W : Nat), .int .i64 (H : Nat), .slice (some ⟨l, 0, none⟩) N d] 24) = v0 at *
  clear hv
  go_loopw [5] (fun i wr => ∃ j : Nat, j ≤ N ∧ i = .int .i64 j ∧ Hid (∀ i, i < j → f i = g i) ∧ Hid (Below v0.heap.size v0 wr)) (fun i _ => N - (intOf i).toNat)
  case atStart => exact ⟨0, by omega, rfl, Lib.hid (fun i hi => absurd hi (by omega)), Below.refl _ _⟩
  case round =>
    obtain ⟨j, hj, rfl, hall, HB⟩ := hrel
    have LBr := Lib.hid (LB0.out.2.2.trans (HB.out.mono LB0.out.2.2.size))
    obtain ⟨q0, q1, q2, q3, q4, q5, q6⟩ := (LB0.out.1.below HB.out LB0.out.1.lt).all
    obtain ⟨r0, r1, r2, r3, r4, r5, r6⟩ := (LB0.out.2.1.below HB.out LB0.out.2.1.lt).all
    by_cases hlj : j < N
    · have c1 := (R1.out wr LBr.out).cell hlj
      have c2 := (R2.out wr LBr.out).cell hlj
      have y3 : (j : Int) < (N : Int) := by omega
      obtain ⟨u, hu⟩ : ∃ u, f j = u := ⟨_, rfl⟩
      obtain ⟨v, hv⟩ : ∃ v, g j = v := ⟨_, rfl⟩
      rw [hu] at c1
      rw [hv] at c2
      have HU := Lib.hid hu
      have HV := Lib.hid hv
      clear hu hv
      cases u <;> cases v
      all_goals
        go_wp2
        go_quiet (fail)
        go_wp2
        have HBn := Lib.hid (HB.out.trans (Go.Proofs.below_drewN' (w := wr) (Below.refl _ _) nq))
        have LBn := Lib.hid (LBr.out.trans ((Go.Proofs.below_drewN' (w := wr) (Below.refl _ _) nq).mono LBr.out.size))
      · exact ⟨⟨j + 1, by omega, by go_num, Lib.hid (lt_grw hall.out (by rw [HU.out, HV.out])), HBn⟩, by simp [intOf]; omega⟩
      · go_ret
        exact ⟨true, rfl, ⟨fun _ => ⟨j, hlj, HU.out, HV.out, hall.out⟩, fun _ => rfl⟩, LBn.out⟩
      · go_ret
        refine ⟨false, rfl, ⟨fun h => (by cases h), fun ⟨i, h1, h2, h3, h4⟩ => ?_⟩, LBn.out⟩
        rcases Nat.lt_trichotomy i j with e | e | e
        · have := hall.out i e; rw [h2, h3] at this; cases this
        · subst e; rw [HU.out] at h2; cases h2
        · have := h4 j e; rw [HU.out, HV.out] at this; cases this
      · exact ⟨⟨j + 1, by omega, by go_num, Lib.hid (lt_grw hall.out (by rw [HU.out, HV.out])), HBn⟩, by simp [intOf]; omega⟩
    · have e : j = N := by omega
      subst e
      go_wp2
      go_ret
      refine ⟨false, rfl, ⟨fun h => (by cases h), fun ⟨i, h1, h2, h3, h4⟩ => ?_⟩, LBr.out⟩
      have := hall.out i h1
      rw [h2, h3] at this
      cases this
set_option maxHeartbeats 1600000 in
theorem before_any (F G : GD) (k c l d : Nat) (w : World) (hn : F.W * F.H ≤ 5000) (h1 : Row w k (F.W * F.H) F.f) (h2 : Row w l (G.W * G.H) G.f) :
    Calls Try.prog 68 #[.agg #[.int .i64 (F.W : Nat), .int .i64 (F.H : Nat), .slice (some ⟨k, 0, none⟩) (F.W * F.H) c], .agg #[.int .i64 (G.W : Nat), .int .i64 (G.H : Nat), .slice (some ⟨l, 0, none⟩) (G.W * G.H) d]] w fun e w' => ∃ t : Bool, e = .returned (.bool t) ∧ (t = true ↔ F.lt G) ∧ Below w.heap.size w w' := by
  obtain ⟨W, H, f⟩ := F
  obtain ⟨X, Y, g⟩ := G
  dsimp only at *
  unfold GD.lt
  dsimp only
  by_cases e1 : W = X
  · by_cases e2 : H = Y
    · subst e1 e2
      refine (before_cells W H f g k c l d w hn h1 h2).mono ?_
      rintro e w' ⟨t, h3, h4, h5⟩
      exact ⟨t, h3, h4.trans ⟨fun h => .inr ⟨rfl, .inr ⟨rfl, h⟩⟩, fun h => by
        rcases h with h | ⟨_, h | ⟨_, h⟩⟩
        · omega
        · omega
        · exact h⟩, h5⟩
    · subst e1
      have LB0 := Lib.hid (boxes2 w (W : Nat) (H : Nat) (W : Nat) (Y : Nat) (.slice (some ⟨k, 0, none⟩) (W * H) c) (.slice (some ⟨l, 0, none⟩) (W * Y) d))
      generalize W * H = N at *
      generalize W * Y = M at *
      have s1 : ((W : Int) != (W : Int)) = false := by simp
      have s2 : ((H : Int) != (Y : Int)) = true := by simp; omega
      by_cases hl : H < Y
      · refine (show Calls Try.prog 68 #[.agg #[.int .i64 (W : Nat), .int .i64 (H : Nat), .slice (some ⟨k, 0, none⟩) N c], .agg #[.int .i64 (W : Nat), .int .i64 (Y : Nat), .slice (some ⟨l, 0, none⟩) M d]] w fun e w' => e = .returned (.bool true) ∧ Below w.heap.size w w' from ?_).mono fun e w' h => ⟨true, h.1, ⟨fun _ => .inr ⟨rfl, .inl hl⟩, fun _ => rfl⟩, h.2⟩
        go_enter Try.func68, Try.ntmps68
        obtain ⟨q0, q1, q2, q3, q4, q5, q6⟩ := LB0.out.1.all
        obtain ⟨r0, r1, r2, r3, r4, r5, r6⟩ := LB0.out.2.1.all
        go_wp2
        go_ret
        exact ⟨rfl, LB0.out.2.2⟩
      · refine (show Calls Try.prog 68 #[.agg #[.int .i64 (W : Nat), .int .i64 (H : Nat), .slice (some ⟨k, 0, none⟩) N c], .agg #[.int .i64 (W : Nat), .int .i64 (Y : Nat), .slice (some ⟨l, 0, none⟩) M d]] w fun e w' => e = .returned (.bool false) ∧ Below w.heap.size w w' from ?_).mono fun e w' h => ⟨false, h.1, ⟨fun h => (by cases h), fun h => by
          rcases h with h | ⟨_, h | ⟨h, _⟩⟩ <;> omega⟩, h.2⟩
        go_enter Try.func68, Try.ntmps68
        obtain ⟨q0, q1, q2, q3, q4, q5, q6⟩ := LB0.out.1.all
        obtain ⟨r0, r1, r2, r3, r4, r5, r6⟩ := LB0.out.2.1.all
        go_wp2
        go_ret
        exact ⟨rfl, LB0.out.2.2⟩
  · have LB0 := Lib.hid (boxes2 w (W : Nat) (H : Nat) (X : Nat) (Y : Nat) (.slice (some ⟨k, 0, none⟩) (W * H) c) (.slice (some ⟨l, 0, none⟩) (X * Y) d))
    generalize W * H = N at *
    generalize X * Y = M at *
    have s1 : ((W : Int) != (X : Int)) = true := by simp; omega
    by_cases hl : W < X
    · refine (show Calls Try.prog 68 #[.agg #[.int .i64 (W : Nat), .int .i64 (H : Nat), .slice (some ⟨k, 0, none⟩) N c], .agg #[.int .i64 (X : Nat), .int .i64 (Y : Nat), .slice (some ⟨l, 0, none⟩) M d]] w fun e w' => e = .returned (.bool true) ∧ Below w.heap.size w w' from ?_).mono fun e w' h => ⟨true, h.1, ⟨fun _ => .inl hl, fun _ => rfl⟩, h.2⟩
      go_enter Try.func68, Try.ntmps68
      obtain ⟨q0, q1, q2, q3, q4, q5, q6⟩ := LB0.out.1.all
      obtain ⟨r0, r1, r2, r3, r4, r5, r6⟩ := LB0.out.2.1.all
      go_wp2
      go_ret
      exact ⟨rfl, LB0.out.2.2⟩
    · refine (show Calls Try.prog 68 #[.agg #[.int .i64 (W : Nat), .int .i64 (H : Nat), .slice (some ⟨k, 0, none⟩) N c], .agg #[.int .i64 (X : Nat), .int .i64 (Y : Nat), .slice (some ⟨l, 0, none⟩) M d]] w fun e w' => e = .returned (.bool false) ∧ Below w.heap.size w w' from ?_).mono fun e w' h => ⟨false, h.1, ⟨fun h => (by cases h), fun h => by
        rcases h with h | ⟨h, _⟩ <;> omega⟩, h.2⟩
      go_enter Try.func68, Try.ntmps68
      obtain ⟨q0, q1, q2, q3, q4, q5, q6⟩ := LB0.out.1.all
      obtain ⟨r0, r1, r2, r3, r4, r5, r6⟩ := LB0.out.2.1.all
      go_wp2
      go_ret
      exact ⟨rfl, LB0.out.2.2⟩
/-- The reference's Shifted, back. -/
theorem shifted_back (G : GD) (ok : G.Ok) (A : Option Addr) (c : Nat) (x y : Nat) (hx : x ≤ 64) (hy : y ≤ 64) (w : World) (hr : Holds w w.heap.size A (G.W * G.H) G.f) :
    Calls Try.prog 109 #[.agg #[.int .i64 (G.W : Nat), .int .i64 (G.H : Nat), .slice A (G.W * G.H) c], .int .i64 (-(x : Int)), .int .i64 (-(y : Int))] w fun e w' => ∃ k, e = .returned (.agg #[.int .i64 (G.W : Nat), .int .i64 (G.H : Nat), .slice (some ⟨k, 0, none⟩) (G.W * G.H) (G.W * G.H)]) ∧ w.heap.size ≤ k ∧ Row w' k (G.W * G.H) (fun i => pc G.W G.H G.f (x + i % G.W) (y + i / G.W)) ∧ Below w.heap.size w w' := by
  have w0 := ok.w0
  have h0 := ok.h0
  have w1 := ok.w1
  have h1 := ok.h1
  obtain ⟨a1, a2⟩ := mod_bd (v := -(x : Int)) (W := (G.W : Int)) (by omega)
  obtain ⟨b1, b2⟩ := mod_bd (v := -(y : Int)) (W := (G.H : Int)) (by omega)
  refine (shifted_core G.W G.H A c G.f (-(x : Int)) (-(y : Int)) w hr w0 w1 h0 h1 _ _ a1 a2 b1 b2 (fun w' => mod_any _ _ w' (by omega) (by omega) (by omega) (by omega)) (fun w' => mod_any _ _ w' (by omega) (by omega) (by omega) (by omega))).mono ?_
  rintro e w' ⟨k, e1, e2, e3, e4⟩
  refine ⟨k, e1, e2, e3.congr fun i hi => ?_, e4⟩
  unfold ax ay pc
  have e5 : ∀ (a b : Nat) (n : Nat), 1 ≤ n → ((((b : Nat) : Int) - (-(a : Int)) % (n : Int)) % (n : Int)).toNat = (a + b) % n := by
    intro a b n hn
    have : (((b : Nat) : Int) - (-(a : Int)) % (n : Int)) % (n : Int) = ((((a + b) % n : Nat)) : Int) := by
      rw [Int.sub_emod, Int.emod_emod_of_dvd _ (Int.dvd_refl _), ← Int.sub_emod, show ((b : Nat) : Int) - -(a : Int) = ((a + b : Nat) : Int) by omega, Int.natCast_emod]
    rw [this]
    rfl
  rw [e5 y _ G.H h0, e5 x _ G.W w0]
end Go.Proofs.Ytjbofdgdcnfmoaa
