/- The reference: woven. -/
import Derived.Test.YtgmcbdnfgdmmaaaDin
import Derived.Deep.RegionHeld3
namespace Go.Proofs.Ytgmcbdnfgdmmaaa
open Go.RowKit
set_option maxRecDepth 100000
set_option linter.unusedVariables false
set_option linter.unusedSimpArgs false

theorem But.trans {k : Nat} {w w' w'' : World} (h1 : But k w w') (h2 : But k w' w'') : But k w w'' :=
  ⟨h2.os.trans h1.os, h2.tape.trans h1.tape, h2.output.trans h1.output, Nat.le_trans h1.size h2.size, fun b hb hk => (h2.block b (Nat.lt_of_lt_of_le hb h1.size) hk).trans (h1.block b hb hk)⟩
theorem But.of {k : Nat} {w w' : World} (hb : Below w.heap.size w w') : But k w w' := ⟨hb.os, hb.tape, hb.output, hb.size, fun b h _ => hb.block b h⟩
/-- What has been written behind x columns and y cells of the next one. -/
def wvp (W : Nat) (F : Nat → Bool) (x y : Nat) (i : Nat) : Bool := if i % (2 * W) / 2 < x ∨ i % (2 * W) / 2 = x ∧ i / (2 * W) / 2 < y then F i else false
theorem wvp_zero (W : Nat) (F : Nat → Bool) : wvp W F 0 0 = fun _ => false := by
  funext i; unfold wvp; rw [if_neg (by rintro (h | ⟨_, h⟩) <;> exact absurd h (Nat.not_lt_zero _))]
theorem wvp_next {W H x i : Nat} {F : Nat → Bool} (hi : i / (2 * W) < 2 * H) : wvp W F x H i = wvp W F (x + 1) 0 i := by
  unfold wvp
  obtain ⟨X, hX⟩ : ∃ X, i % (2 * W) = X := ⟨_, rfl⟩
  obtain ⟨Y, hY⟩ : ∃ Y, i / (2 * W) = Y := ⟨_, rfl⟩
  rw [hX, hY]
  rw [hY] at hi
  by_cases h : X / 2 < x + 1
  · rw [if_pos (by omega), if_pos (.inl h)]
  · rw [if_neg (by omega), if_neg (by omega)]
theorem wvp_all {W i : Nat} {F : Nat → Bool} (hi : i % (2 * W) < 2 * W) : wvp W F W 0 i = F i := by
  unfold wvp; rw [if_pos (.inl (by omega))]
theorem wvp_step {W H x y l : Nat} {a b m : Nat → Bool} (hx : x < W) (hy : y < H) (hl : l < 2 * W * (2 * H)) :
    (if l = 2 * y * (2 * W) + (2 * x + 1) then !m (y * W + x) else if l = (2 * y + 1) * (2 * W) + 2 * x then m (y * W + x) else if l = (2 * y + 1) * (2 * W) + (2 * x + 1) then b (y * W + x) else if l = 2 * y * (2 * W) + 2 * x then a (y * W + x) else wvp W (dbl W a b m) x y l) = wvp W (dbl W a b m) x (y + 1) l := by
  have p1 := plain_at (W := 2 * W) (H := 2 * H) (x := 2 * x + 1) (y := 2 * y) (by omega) hl
  have p2 := plain_at (W := 2 * W) (H := 2 * H) (x := 2 * x) (y := 2 * y + 1) (by omega) hl
  have p3 := plain_at (W := 2 * W) (H := 2 * H) (x := 2 * x + 1) (y := 2 * y + 1) (by omega) hl
  have p4 := plain_at (W := 2 * W) (H := 2 * H) (x := 2 * x) (y := 2 * y) (by omega) hl
  have hd : dbl W a b m l = dxy W a b m (l % (2 * W)) (l / (2 * W)) := rfl
  unfold wvp
  rw [hd]
  simp only [p1, p2, p3, p4]
  obtain ⟨X, hX⟩ : ∃ X, l % (2 * W) = X := ⟨_, rfl⟩
  obtain ⟨Y, hY⟩ : ∃ Y, l / (2 * W) = Y := ⟨_, rfl⟩
  rw [hX, hY]
  clear p1 p2 p3 p4 hd hX hY hl
  by_cases c1 : X = 2 * x + 1 ∧ Y = 2 * y
  · rw [if_pos c1, if_pos (by omega), c1.1, c1.2, dxy_10]
  · rw [if_neg c1]
    by_cases c2 : X = 2 * x ∧ Y = 2 * y + 1
    · rw [if_pos c2, if_pos (by omega), c2.1, c2.2, dxy_01]
    · rw [if_neg c2]
      by_cases c3 : X = 2 * x + 1 ∧ Y = 2 * y + 1
      · rw [if_pos c3, if_pos (by omega), c3.1, c3.2, dxy_11]
      · rw [if_neg c3]
        by_cases c4 : X = 2 * x ∧ Y = 2 * y
        · rw [if_pos c4, if_pos (by omega), c4.1, c4.2, dxy_00]
        · rw [if_neg c4]
          by_cases c5 : X / 2 < x ∨ X / 2 = x ∧ Y / 2 < y
          · rw [if_pos c5, if_pos (by omega)]
          · rw [if_neg c5, if_neg (by omega)]
/-- A grid came back in a row of its own. -/
def GrN (w : World) (W H N : Nat) (F : Nat → Bool) (e : Ending) (w' : World) : Prop :=
  ∃ k, e = .returned (.agg #[.int .i64 (W : Nat), .int .i64 (H : Nat), .slice (some ⟨k, 0, none⟩) N N]) ∧ w.heap.size ≤ k ∧ Row w' k N F ∧ Below w.heap.size w w'
set_option maxHeartbeats 6400000 in
theorem woven_n (W H : Nat) (A B C : Option Addr) (c d e : Nat) (a b m : Nat → Bool) (hW0 : 1 ≤ W) (hW : W ≤ 32) (hH0 : 1 ≤ H) (hH : H ≤ 32) (w : World) (ha : Holds w w.heap.size A (W * H) a) (hb1 : Holds w w.heap.size B (W * H) b) (hm : Holds w w.heap.size C (W * H) m) :
    Calls Try.prog 98 #[.agg #[.int .i64 (W : Nat), .int .i64 (H : Nat), .slice A (W * H) c], .agg #[.int .i64 (W : Nat), .int .i64 (H : Nat), .slice B (W * H) d], .agg #[.int .i64 (W : Nat), .int .i64 (H : Nat), .slice C (W * H) e]] w (GrN w (2 * W) (2 * H) (2 * W * (2 * H)) (dbl W a b m)) := by
  have w1e : IntKind.i64.wrap (2 * (W : Int)) = ((2 * W : Nat) : Int) := by rw [IntWalk.i64_in _ (by omega)]; omega
  have w2e : IntKind.i64.wrap (2 * (H : Int)) = ((2 * H : Nat) : Int) := by rw [IntWalk.i64_in _ (by omega)]; omega
  have HZ := Lib.hid (fun u => zero_int ((2 * W : Nat) : Int) ((2 * H : Nat) : Int) (2 * W) (2 * H) rfl rfl (by omega) (by omega) u)
  have HST := Lib.hid (fun x y l (hx : x < W) (hy : y < H) (hl : l < 2 * W * (2 * H)) => wvp_step (a := a) (b := b) (m := m) hx hy hl)
  have HNX := Lib.hid (fun x i (hi : i < 2 * W * (2 * H)) => wvp_next (W := W) (H := H) (x := x) (i := i) (F := dbl W a b m) (idx_lt hW0 hi).2.2)
  have HAL := Lib.hid (fun i (hi : i < 2 * W * (2 * H)) => wvp_all (W := W) (i := i) (F := dbl W a b m) (idx_lt hW0 hi).2.1)
  have HZF := Lib.hid (wvp_zero W (dbl W a b m))
  obtain ⟨F, hF⟩ : ∃ F, dbl W a b m = F := ⟨_, rfl⟩
  simp only [hF] at HST HNX HAL HZF ⊢
  have HSX := Lib.hid (fun k (u : World) (i j : Nat) (q : Bool) (R : Nat → Bool) (hr : Row u k (2 * W * (2 * H)) R) (hi : i < 2 * W) (hj : j < 2 * H) => set_nat (2 * W) (2 * H) k (2 * W * (2 * H)) (i : Int) (j : Int) q R u hr (by omega) (by omega) i j rfl rfl hi hj)
  have HAX := Lib.hid (fun (u : World) (x y : Nat) (h : Holds u w.heap.size A (W * H) a) (hs : w.heap.size ≤ u.heap.size) (hx : x < W) (hy : y < H) => at_nat W H A c (x : Int) (y : Int) a u w.heap.size h hs (by omega) (by omega) x y rfl rfl hx hy)
  have HBX := Lib.hid (fun (u : World) (x y : Nat) (h : Holds u w.heap.size B (W * H) b) (hs : w.heap.size ≤ u.heap.size) (hx : x < W) (hy : y < H) => at_nat W H B d (x : Int) (y : Int) b u w.heap.size h hs (by omega) (by omega) x y rfl rfl hx hy)
  have HMX := Lib.hid (fun (u : World) (x y : Nat) (h : Holds u w.heap.size C (W * H) m) (hs : w.heap.size ≤ u.heap.size) (hx : x < W) (hy : y < H) => at_nat W H C e (x : Int) (y : Int) m u w.heap.size h hs (by omega) (by omega) x y rfl rfl hx hy)
  obtain ⟨W2, hW2⟩ : ∃ z, 2 * W = z := ⟨_, rfl⟩
  obtain ⟨H2, hH2⟩ : ∃ z, 2 * H = z := ⟨_, rfl⟩
  simp only [hW2, hH2] at w1e w2e HZ HST HNX HAL HSX ⊢
  obtain ⟨N2, hN2⟩ : ∃ z, W2 * H2 = z := ⟨_, rfl⟩
  have HN2 := Lib.hid hN2
  simp only [hN2] at HST HNX HAL HSX ⊢
  have HA := Lib.hid ha
  have HB := Lib.hid hb1
  have HM := Lib.hid hm
  obtain ⟨M, hMe⟩ : ∃ z, W * H = z := ⟨_, rfl⟩
  simp only [hMe] at HA HB HM HAX HBX HMX ⊢
  clear ha hb1 hm hN2 hMe hF
  have LB0 := Lib.hid (Below.refl w.heap.size w)
  have X1 := Lib.hid (Box.new w (W : Nat) (H : Nat) (.slice A M c))
  have LB0 := Lib.hid (LB0.out.alloc LB0.out.size (.cells #[.int .i64 (W : Nat), .int .i64 (H : Nat), .slice A M c] 24))
  have X1 := Lib.hid (X1.out.alloc (.cells #[.int .i64 (W : Nat), .int .i64 (H : Nat), .slice B M d] 24))
  have X2 := Box.new (w.alloc (.cells #[.int .i64 (W : Nat), .int .i64 (H : Nat), .slice A M c] 24)) (W : Nat) (H : Nat) (.slice B M d)
  rw [show ((w.alloc (.cells #[.int .i64 (W : Nat), .int .i64 (H : Nat), .slice A M c] 24))).heap.size = w.heap.size + 1 by simp] at X2
  have X2 := Lib.hid X2
  have LB0 := Lib.hid (LB0.out.alloc LB0.out.size (.cells #[.int .i64 (W : Nat), .int .i64 (H : Nat), .slice B M d] 24))
  have X1 := Lib.hid (X1.out.alloc (.cells #[.int .i64 (W : Nat), .int .i64 (H : Nat), .slice C M e] 24))
  have X2 := Lib.hid (X2.out.alloc (.cells #[.int .i64 (W : Nat), .int .i64 (H : Nat), .slice C M e] 24))
  have X3 := Box.new ((w.alloc (.cells #[.int .i64 (W : Nat), .int .i64 (H : Nat), .slice A M c] 24)).alloc (.cells #[.int .i64 (W : Nat), .int .i64 (H : Nat), .slice B M d] 24)) (W : Nat) (H : Nat) (.slice C M e)
  rw [show (((w.alloc (.cells #[.int .i64 (W : Nat), .int .i64 (H : Nat), .slice A M c] 24)).alloc (.cells #[.int .i64 (W : Nat), .int .i64 (H : Nat), .slice B M d] 24))).heap.size = w.heap.size + 2 by simp] at X3
  have X3 := Lib.hid X3
  have LB0 := Lib.hid (LB0.out.alloc LB0.out.size (.cells #[.int .i64 (W : Nat), .int .i64 (H : Nat), .slice C M e] 24))
  have X1 := Lib.hid (X1.out.alloc (.cells #[.int .i64 0, .int .i64 0, .slice none 0 0] 24))
  have X2 := Lib.hid (X2.out.alloc (.cells #[.int .i64 0, .int .i64 0, .slice none 0 0] 24))
  have X3 := Lib.hid (X3.out.alloc (.cells #[.int .i64 0, .int .i64 0, .slice none 0 0] 24))
  have XR := Box.new (((w.alloc (.cells #[.int .i64 (W : Nat), .int .i64 (H : Nat), .slice A M c] 24)).alloc (.cells #[.int .i64 (W : Nat), .int .i64 (H : Nat), .slice B M d] 24)).alloc (.cells #[.int .i64 (W : Nat), .int .i64 (H : Nat), .slice C M e] 24)) 0 0 (.slice none 0 0)
  rw [show ((((w.alloc (.cells #[.int .i64 (W : Nat), .int .i64 (H : Nat), .slice A M c] 24)).alloc (.cells #[.int .i64 (W : Nat), .int .i64 (H : Nat), .slice B M d] 24)).alloc (.cells #[.int .i64 (W : Nat), .int .i64 (H : Nat), .slice C M e] 24))).heap.size = w.heap.size + 3 by simp] at XR
  have XR := Lib.hid XR
  have LB0 := Lib.hid (LB0.out.alloc LB0.out.size (.cells #[.int .i64 0, .int .i64 0, .slice none 0 0] 24))
  go_enter Try.func98, Try.ntmps98
  go_upto_region 1 with (fail)
  generalize (((w.alloc (.cells #[.int .i64 (W : Nat), .int .i64 (H : Nat), .slice A M c] 24)).alloc (.cells #[.int .i64 (W : Nat), .int .i64 (H : Nat), .slice B M d] 24)).alloc (.cells #[.int .i64 (W : Nat), .int .i64 (H : Nat), .slice C M e] 24)).alloc (.cells #[.int .i64 0, .int .i64 0, .slice none 0 0] 24) = w0 at *
  obtain ⟨rb, hrb⟩ : ∃ rb, w.heap.size + 3 = rb := ⟨_, rfl⟩
  have hrw : w.heap.size < rb := by omega
  have hrw1 : w.heap.size + 1 < rb := by omega
  have hrw2 : w.heap.size + 2 < rb := by omega
  rw [hrb] at XR ⊢
  clear hrb
  have hr0 := XR.out.lt
  obtain ⟨q0, q1, q2, q3, q4, q5, q6⟩ := X1.out.all
  go_wp2_with fail
  clear q0 q1 q2 q3 q4 q5 q6
  with_reducible refine Calls.mono (HZ.out _) ?_
  rintro e w1 ⟨k, rfl, hk, hrow, hb⟩
  have LB1 := Lib.hid (LB0.out.trans (hb.mono LB0.out.size))
  have X1 := Lib.hid (X1.out.below hb X1.out.lt)
  have X2 := Lib.hid (X2.out.below hb X2.out.lt)
  have X3 := Lib.hid (X3.out.below hb X3.out.lt)
  have XR := Lib.hid (XR.out.below hb XR.out.lt)
  have RK := Lib.hid hrow
  clear hb LB0 hrow
  simp only [HN2.out] at RK ⊢
  have hk0 : rb < k := by omega
  have hb := ((Below.refl w1.heap.size w1).alloc (by simp; try omega) (.cells #[.int .i64 (W2 : Nat), .int .i64 (H2 : Nat), .slice (some ⟨k, 0, none⟩) N2 N2] 24))
  have LB2 := Lib.hid (LB1.out.trans (hb.mono LB1.out.size))
  have X1 := Lib.hid (X1.out.below hb X1.out.lt)
  have X2 := Lib.hid (X2.out.below hb X2.out.lt)
  have X3 := Lib.hid (X3.out.below hb X3.out.lt)
  have XR := Lib.hid (XR.out.below hb XR.out.lt)
  have RK := Lib.hid (RK.out.below hb RK.out.lt)
  have XO := Box.new w1 (W2 : Nat) (H2 : Nat) (.slice (some ⟨k, 0, none⟩) N2 N2)
  have XO := Lib.hid XO
  clear hb LB1
  go_upto_region 2 with (fail)
  obtain ⟨ob, hob⟩ : ∃ z, w1.heap.size = z := ⟨_, rfl⟩
  rw [hob] at XO
  try rw [hob]
  clear hob
  generalize w1.alloc (.cells #[.int .i64 (W2 : Nat), .int .i64 (H2 : Nat), .slice (some ⟨k, 0, none⟩) N2 N2] 24) = w2 at *
  have hob : ob ≠ k := fun h => RK.out.ne_box XO.out h.symm
  rw [← HZF.out] at RK
  go_wp2
  go_loopw [8] (fun i wr => ∃ x : Nat, x ≤ W ∧ i = .int .i64 x ∧ Hid (Row wr k N2 (wvp W F x 0)) ∧ Hid (But k w2 wr)) (fun i _ => W - (intOf i).toNat)
  case atStart => exact ⟨0, Nat.zero_le _, rfl, RK, Lib.hid (But.of (Below.refl _ _))⟩
  case round =>
    obtain ⟨x, hx, rfl, HR, HU⟩ := hrel
    obtain ⟨wa, rfl⟩ : ∃ wa : World, wa = wr := ⟨_, rfl⟩
    have Z1 := Lib.hid (HU.out.box X1.out (by omega))
    have Z2 := Lib.hid (HU.out.box X2.out (by omega))
    obtain ⟨q0, q1, q2, q3, q4, q5, q6⟩ := Z1.out.all
    by_cases hlt : x < W
    · have y1 : (x : Int) < (W : Int) := by omega
      go_wp2
      clear q0 q1 q2 q3 q4 q5 q6 Z1 Z2
      go_loopw [9] (fun i wr => ∃ y : Nat, y ≤ H ∧ i = .int .i64 y ∧ Hid (Row wr k N2 (wvp W F x y)) ∧ Hid (But k w2 wr)) (fun i _ => H - (intOf i).toNat)
      case atStart => exact ⟨0, Nat.zero_le _, rfl, HR, HU⟩
      case round =>
        obtain ⟨y, hy, rfl, HR1, HU1⟩ := hrel
        obtain ⟨u0, rfl⟩ : ∃ u0 : World, u0 = wr := ⟨_, rfl⟩
        clear HR HU
        by_cases hly : y < H
        · have y2 : (y : Int) < (H : Int) := by omega
          have y3 : (0 : Int) ≤ (x : Int) := by omega
          have y4 : (0 : Int) ≤ (y : Int) := by omega
          have v1e : IntKind.i64.wrap (2 * (x : Int)) = ((2 * x : Nat) : Int) := by rw [IntWalk.i64_in _ (by omega)]; omega
          have v2e : IntKind.i64.wrap (2 * (y : Int)) = ((2 * y : Nat) : Int) := by rw [IntWalk.i64_in _ (by omega)]; omega
          have v3e : IntKind.i64.wrap (((2 * x : Nat) : Int) + 1) = ((2 * x + 1 : Nat) : Int) := by rw [IntWalk.i64_in _ (by omega)]; omega
          have v4e : IntKind.i64.wrap (((2 * y : Nat) : Int) + 1) = ((2 * y + 1 : Nat) : Int) := by rw [IntWalk.i64_in _ (by omega)]; omega
          have hi1 : 2 * x < W2 := by omega
          have hi2 : 2 * x + 1 < W2 := by omega
          have hj1 : 2 * y < H2 := by omega
          have hj2 : 2 * y + 1 < H2 := by omega
          have HSTx := Lib.hid (fun l (hl : l < N2) => HST.out x y l hlt hly hl)
          obtain ⟨x2, hx2⟩ : ∃ z, 2 * x = z := ⟨_, rfl⟩
          obtain ⟨y2', hy2⟩ : ∃ z, 2 * y = z := ⟨_, rfl⟩
          simp only [hx2, hy2] at v1e v2e v3e v4e hi1 hi2 hj1 hj2 HSTx
          obtain ⟨x3, hx3⟩ : ∃ z, x2 + 1 = z := ⟨_, rfl⟩
          obtain ⟨y3', hy3⟩ : ∃ z, y2' + 1 = z := ⟨_, rfl⟩
          simp only [hx3, hy3] at v3e v4e hi2 hj2 HSTx
          clear hx2 hy2 hx3 hy3
          have HK1 := Lib.hid (fun (u : World) (h : But k w2 u) => (show u.cell? ⟨w.heap.size, 0, none⟩ = some (.int .i64 (W : Nat)) ∧ u.cell? ⟨w.heap.size, 1, none⟩ = some (.int .i64 (H : Nat)) ∧ u.cell? ⟨w.heap.size, 2, none⟩ = some (.slice A M c) ∧ u.cell? ⟨ob, 0, none⟩ = some (.int .i64 (W2 : Nat)) ∧ u.cell? ⟨ob, 1, none⟩ = some (.int .i64 (H2 : Nat)) ∧ u.cell? ⟨ob, 2, none⟩ = some (.slice (some ⟨k, 0, none⟩) N2 N2) from
            ⟨(h.box X1.out (by omega)).c0, (h.box X1.out (by omega)).c1, (h.box X1.out (by omega)).c2, (h.box XO.out hob).c0, (h.box XO.out hob).c1, (h.box XO.out hob).c2⟩))
          have HH1 := Lib.hid (fun (u : World) (h : But k w2 u) => h.holds (HA.out.below LB2.out) (show w.heap.size ≤ k by omega) LB2.out.size)
          have D1 := Lib.hid (HU1.out.trans (But.of (Below.refl u0.heap.size u0).drew))
          obtain ⟨p0, p1, p2, p3, p4, p5⟩ := HK1.out _ HU1.out
          go_wp2
          go_region_held3 (fun u => u.cell? ⟨w.heap.size, 0, none⟩ = some (.int .i64 (W : Nat)) ∧ u.cell? ⟨w.heap.size, 1, none⟩ = some (.int .i64 (H : Nat)) ∧ u.cell? ⟨w.heap.size, 2, none⟩ = some (.slice A M c) ∧ u.cell? ⟨ob, 0, none⟩ = some (.int .i64 (W2 : Nat)) ∧ u.cell? ⟨ob, 1, none⟩ = some (.int .i64 (H2 : Nat)) ∧ u.cell? ⟨ob, 2, none⟩ = some (.slice (some ⟨k, 0, none⟩) N2 N2))
            (first
              | with_reducible exact HK1.out _ D1.out
              | with_reducible exact HK1.out _ E1.out
              | with_reducible exact HK1.out _ HU2.out)
            (first
              | (go_at_call 73
                 with_reducible refine Calls.mono (HAX.out _ x y (HH1.out _ D1.out) (Nat.le_trans LB2.out.size D1.out.size) hlt hly) ?_
                 rintro e v1 ⟨rfl, hb⟩
                 have E1 := Lib.hid (D1.out.trans (But.of hb))
                 have R1 := Lib.hid ((HR1.out.drew).below hb (HR1.out.drew).lt)
                 clear hb)
              | (go_at_call 100
                 with_reducible refine Calls.mono (HSX.out _ _ x2 y2' _ _ R1.out hi1 hj1) ?_
                 rintro e u1 ⟨rfl, hr3, hb3⟩
                 have HR2 := Lib.hid hr3
                 have HU2 := Lib.hid (E1.out.trans hb3)
                 clear hr3 hb3))
          clear HK1 HH1 D1 E1 R1 HU1 HR1 p0 p1 p2 p3 p4 p5
          have HK2 := Lib.hid (fun (u : World) (h : But k w2 u) => (show u.cell? ⟨w.heap.size + 1, 0, none⟩ = some (.int .i64 (W : Nat)) ∧ u.cell? ⟨w.heap.size + 1, 1, none⟩ = some (.int .i64 (H : Nat)) ∧ u.cell? ⟨w.heap.size + 1, 2, none⟩ = some (.slice B M d) ∧ u.cell? ⟨ob, 0, none⟩ = some (.int .i64 (W2 : Nat)) ∧ u.cell? ⟨ob, 1, none⟩ = some (.int .i64 (H2 : Nat)) ∧ u.cell? ⟨ob, 2, none⟩ = some (.slice (some ⟨k, 0, none⟩) N2 N2) from
            ⟨(h.box X2.out (by omega)).c0, (h.box X2.out (by omega)).c1, (h.box X2.out (by omega)).c2, (h.box XO.out hob).c0, (h.box XO.out hob).c1, (h.box XO.out hob).c2⟩))
          have HH2 := Lib.hid (fun (u : World) (h : But k w2 u) => h.holds (HB.out.below LB2.out) (show w.heap.size ≤ k by omega) LB2.out.size)
          have D2 := Lib.hid (HU2.out.trans (But.of (Below.refl u1.heap.size u1).drew))
          obtain ⟨p0, p1, p2, p3, p4, p5⟩ := HK2.out _ HU2.out
          go_wp2
          go_region_held3 (fun u => u.cell? ⟨w.heap.size + 1, 0, none⟩ = some (.int .i64 (W : Nat)) ∧ u.cell? ⟨w.heap.size + 1, 1, none⟩ = some (.int .i64 (H : Nat)) ∧ u.cell? ⟨w.heap.size + 1, 2, none⟩ = some (.slice B M d) ∧ u.cell? ⟨ob, 0, none⟩ = some (.int .i64 (W2 : Nat)) ∧ u.cell? ⟨ob, 1, none⟩ = some (.int .i64 (H2 : Nat)) ∧ u.cell? ⟨ob, 2, none⟩ = some (.slice (some ⟨k, 0, none⟩) N2 N2))
            (first
              | with_reducible exact HK2.out _ D2.out
              | with_reducible exact HK2.out _ E2.out
              | with_reducible exact HK2.out _ HU3.out)
            (first
              | (go_at_call 73
                 with_reducible refine Calls.mono (HBX.out _ x y (HH2.out _ D2.out) (Nat.le_trans LB2.out.size D2.out.size) hlt hly) ?_
                 rintro e v2 ⟨rfl, hb⟩
                 have E2 := Lib.hid (D2.out.trans (But.of hb))
                 have R2 := Lib.hid ((HR2.out.drew).below hb (HR2.out.drew).lt)
                 clear hb)
              | (go_at_call 100
                 with_reducible refine Calls.mono (HSX.out _ _ x3 y3' _ _ R2.out hi2 hj2) ?_
                 rintro e u2 ⟨rfl, hr3, hb3⟩
                 have HR3 := Lib.hid hr3
                 have HU3 := Lib.hid (E2.out.trans hb3)
                 clear hr3 hb3))
          clear HK2 HH2 D2 E2 R2 HU2 HR2 p0 p1 p2 p3 p4 p5
          have HK3 := Lib.hid (fun (u : World) (h : But k w2 u) => (show u.cell? ⟨w.heap.size + 2, 0, none⟩ = some (.int .i64 (W : Nat)) ∧ u.cell? ⟨w.heap.size + 2, 1, none⟩ = some (.int .i64 (H : Nat)) ∧ u.cell? ⟨w.heap.size + 2, 2, none⟩ = some (.slice C M e) ∧ u.cell? ⟨ob, 0, none⟩ = some (.int .i64 (W2 : Nat)) ∧ u.cell? ⟨ob, 1, none⟩ = some (.int .i64 (H2 : Nat)) ∧ u.cell? ⟨ob, 2, none⟩ = some (.slice (some ⟨k, 0, none⟩) N2 N2) from
            ⟨(h.box X3.out (by omega)).c0, (h.box X3.out (by omega)).c1, (h.box X3.out (by omega)).c2, (h.box XO.out hob).c0, (h.box XO.out hob).c1, (h.box XO.out hob).c2⟩))
          have HH3 := Lib.hid (fun (u : World) (h : But k w2 u) => h.holds (HM.out.below LB2.out) (show w.heap.size ≤ k by omega) LB2.out.size)
          have D3 := Lib.hid (HU3.out.trans (But.of (Below.refl u2.heap.size u2).drew))
          obtain ⟨p0, p1, p2, p3, p4, p5⟩ := HK3.out _ HU3.out
          go_wp2
          go_region_held3 (fun u => u.cell? ⟨w.heap.size + 2, 0, none⟩ = some (.int .i64 (W : Nat)) ∧ u.cell? ⟨w.heap.size + 2, 1, none⟩ = some (.int .i64 (H : Nat)) ∧ u.cell? ⟨w.heap.size + 2, 2, none⟩ = some (.slice C M e) ∧ u.cell? ⟨ob, 0, none⟩ = some (.int .i64 (W2 : Nat)) ∧ u.cell? ⟨ob, 1, none⟩ = some (.int .i64 (H2 : Nat)) ∧ u.cell? ⟨ob, 2, none⟩ = some (.slice (some ⟨k, 0, none⟩) N2 N2))
            (first
              | with_reducible exact HK3.out _ D3.out
              | with_reducible exact HK3.out _ E3.out
              | with_reducible exact HK3.out _ HU4.out)
            (first
              | (go_at_call 73
                 with_reducible refine Calls.mono (HMX.out _ x y (HH3.out _ D3.out) (Nat.le_trans LB2.out.size D3.out.size) hlt hly) ?_
                 rintro e v3 ⟨rfl, hb⟩
                 have E3 := Lib.hid (D3.out.trans (But.of hb))
                 have R3 := Lib.hid ((HR3.out.drew).below hb (HR3.out.drew).lt)
                 clear hb)
              | (go_at_call 100
                 with_reducible refine Calls.mono (HSX.out _ _ x2 y3' _ _ R3.out hi1 hj2) ?_
                 rintro e u3 ⟨rfl, hr3, hb3⟩
                 have HR4 := Lib.hid hr3
                 have HU4 := Lib.hid (E3.out.trans hb3)
                 clear hr3 hb3))
          clear HK3 HH3 D3 E3 R3 HU3 HR3 p0 p1 p2 p3 p4 p5
          have HK4 := Lib.hid (fun (u : World) (h : But k w2 u) => (show u.cell? ⟨w.heap.size + 2, 0, none⟩ = some (.int .i64 (W : Nat)) ∧ u.cell? ⟨w.heap.size + 2, 1, none⟩ = some (.int .i64 (H : Nat)) ∧ u.cell? ⟨w.heap.size + 2, 2, none⟩ = some (.slice C M e) ∧ u.cell? ⟨ob, 0, none⟩ = some (.int .i64 (W2 : Nat)) ∧ u.cell? ⟨ob, 1, none⟩ = some (.int .i64 (H2 : Nat)) ∧ u.cell? ⟨ob, 2, none⟩ = some (.slice (some ⟨k, 0, none⟩) N2 N2) from
            ⟨(h.box X3.out (by omega)).c0, (h.box X3.out (by omega)).c1, (h.box X3.out (by omega)).c2, (h.box XO.out hob).c0, (h.box XO.out hob).c1, (h.box XO.out hob).c2⟩))
          have HH4 := Lib.hid (fun (u : World) (h : But k w2 u) => h.holds (HM.out.below LB2.out) (show w.heap.size ≤ k by omega) LB2.out.size)
          have D4 := Lib.hid (HU4.out.trans (But.of (Below.refl u3.heap.size u3).drew))
          obtain ⟨p0, p1, p2, p3, p4, p5⟩ := HK4.out _ HU4.out
          go_wp2
          go_region_held3 (fun u => u.cell? ⟨w.heap.size + 2, 0, none⟩ = some (.int .i64 (W : Nat)) ∧ u.cell? ⟨w.heap.size + 2, 1, none⟩ = some (.int .i64 (H : Nat)) ∧ u.cell? ⟨w.heap.size + 2, 2, none⟩ = some (.slice C M e) ∧ u.cell? ⟨ob, 0, none⟩ = some (.int .i64 (W2 : Nat)) ∧ u.cell? ⟨ob, 1, none⟩ = some (.int .i64 (H2 : Nat)) ∧ u.cell? ⟨ob, 2, none⟩ = some (.slice (some ⟨k, 0, none⟩) N2 N2))
            (first
              | with_reducible exact HK4.out _ D4.out
              | with_reducible exact HK4.out _ E4.out
              | with_reducible exact HK4.out _ HU5.out)
            (first
              | (go_at_call 73
                 with_reducible refine Calls.mono (HMX.out _ x y (HH4.out _ D4.out) (Nat.le_trans LB2.out.size D4.out.size) hlt hly) ?_
                 rintro e v4 ⟨rfl, hb⟩
                 have E4 := Lib.hid (D4.out.trans (But.of hb))
                 have R4 := Lib.hid ((HR4.out.drew).below hb (HR4.out.drew).lt)
                 clear hb)
              | (go_at_call 100
                 with_reducible refine Calls.mono (HSX.out _ _ x3 y2' _ _ R4.out hi2 hj1) ?_
                 rintro e u4 ⟨rfl, hr3, hb3⟩
                 have HR5 := Lib.hid hr3
                 have HU5 := Lib.hid (E4.out.trans hb3)
                 clear hr3 hb3))
          clear HK4 HH4 D4 E4 R4 HU4 HR4 p0 p1 p2 p3 p4 p5
          go_wp2
          have HR6 := Lib.hid (HR5.out.congr (f' := wvp W F x (y + 1)) fun i hi => HSTx.out i hi)
          go_roundw
          case rel => exact ⟨y + 1, by omega, by go_num, HR6, HU5⟩
          case measure => simp [intOf]; omega
        · have e : y = H := by omega
          have y2 : ¬ (y : Int) < (H : Int) := by omega
          have HR6 := Lib.hid (HR1.out.congr (f' := wvp W F (x + 1) 0) fun i hi => by rw [e]; exact HNX.out x i hi)
          have Z1 := Lib.hid (HU1.out.box X1.out (by omega))
          obtain ⟨q0, q1, q2, q3, q4, q5, q6⟩ := Z1.out.all
          clear e
          go_wp2
          go_roundw
          case rel => exact ⟨x + 1, by omega, by go_num, HR6, HU1⟩
          case measure => simp [intOf]; omega
    · have e : x = W := by omega
      have y1 : ¬ (x : Int) < (W : Int) := by omega
      have HR6 := Lib.hid (HR.out.congr (f' := F) fun i hi => by rw [e]; exact HAL.out i hi)
      have ZO := Lib.hid (HU.out.box XO.out hob)
      have ZR := Lib.hid (HU.out.box XR.out (by omega))
      have LBE := Lib.hid (HU.out.below LB2.out (by omega))
      obtain ⟨q7, q8, q9, q10, q11, q12, q13⟩ := ZO.out.all
      obtain ⟨q14, q15, q16, q17, q18, q19, q20⟩ := ZR.out.all
      have hkr : k ≠ rb := by omega
      have hrl : w.heap.size ≤ rb := by omega
      clear e HR HU
      go_wp2
      refine bodyPost_ret (v := .agg #[.int .i64 (W2 : Nat), .int .i64 (H2 : Nat), .slice (some ⟨k, 0, none⟩) N2 N2]) (by simp [results, Try.results98, go_sem, q14, q15, q16, q17, q18, q19]) rfl ?_
      exact ⟨k, rfl, by omega, HR6.out.st3 hkr _ _ _, bel_st3 LBE.out hrl _ _ _⟩
end Go.Proofs.Ytgmcbdnfgdmmaaa
