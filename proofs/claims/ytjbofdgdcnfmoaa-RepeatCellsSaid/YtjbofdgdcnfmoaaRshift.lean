/- Shift, by the program; Turn and Shift, by the reference. -/
import Derived.Test.YtjbofdgdcnfmoaaRefm
import Derived.Test.YtjbofdgdcnfmoaaRturn
import Derived.Deep.RegionHeld3
import Derived.Deep.DeepCutAuto
namespace Go.Proofs.Ytjbofdgdcnfmoaa
open Go.RowKit
set_option maxRecDepth 100000
set_option linter.unusedVariables false
set_option linter.unusedSimpArgs false

theorem mod_lo {v W : Int} (h0 : 0 ≤ v) (h1 : v < W) : v % W = v := Int.emod_eq_of_lt h0 h1
theorem mod_hi {v W : Int} (h0 : W ≤ v) (h1 : v < W + W) : v % W = v - W := by
  have e : v % W = ((v - W) + W) % W := by rw [Int.sub_add_cancel]
  rw [e, Int.add_emod_right, mod_lo (by omega) (by omega)]
theorem mod_neg {v W : Int} (h0 : -W ≤ v) (h1 : v < 0) : v % W = v + W := by
  have e : v % W = (v + W) % W := by rw [Int.add_emod_right]
  rw [e, mod_lo (by omega) (by omega)]
theorem shift1 {W a x : Nat} {r : Int} (ha : a < W) (hx : x < W) (h0 : 0 ≤ r) (h1 : r < W) : a = (((x : Int) + r) % (W : Int)).toNat ↔ (((a : Int) - r) % (W : Int)).toNat = x := by
  rcases Int.lt_or_le ((x : Int) + r) W with hc | hc
  · rw [mod_lo (by omega) hc]
    rcases Int.lt_or_le (a : Int) r with hd | hd
    · rw [mod_neg (by omega) (by omega)]; omega
    · rw [mod_lo (by omega) (by omega)]; omega
  · rw [mod_hi hc (by omega)]
    rcases Int.lt_or_le (a : Int) r with hd | hd
    · rw [mod_neg (by omega) (by omega)]; omega
    · rw [mod_lo (by omega) (by omega)]; omega
/-- From which round a cell of the shifted grid comes. -/
def ax (W : Nat) (r : Int) (j : Nat) : Nat := ((((j % W : Nat) : Int) - r) % (W : Int)).toNat
def ay (W H : Nat) (u : Int) (j : Nat) : Nat := ((((j / W : Nat) : Int) - u) % (H : Int)).toNat
theorem mod_bd {v W : Int} (h : 1 ≤ W) : 0 ≤ v % W ∧ v % W < W := ⟨Int.emod_nonneg _ (by omega), Int.emod_lt_of_pos _ (by omega)⟩
theorem ax_lt {W : Nat} {r : Int} (j : Nat) (h : 1 ≤ W) : ax W r j < W := by
  have := mod_bd (v := ((j % W : Nat) : Int) - r) (W := (W : Int)) (by omega)
  unfold ax; omega
theorem ay_lt {W H : Nat} {u : Int} (j : Nat) (h : 1 ≤ H) : ay W H u j < H := by
  have := mod_bd (v := ((j / W : Nat) : Int) - u) (W := (H : Int)) (by omega)
  unfold ay; omega
theorem shift_at {W H x y j : Nat} {r u : Int} (hx : x < W) (hy : y < H) (r0 : 0 ≤ r) (r1 : r < W) (u0 : 0 ≤ u) (u1 : u < H) (hj : j < W * H) :
    j = (((y : Int) + u) % (H : Int)).toNat * W + (((x : Int) + r) % (W : Int)).toNat ↔ ax W r j = x ∧ ay W H u j = y := by
  have b1 := mod_bd (v := (x : Int) + r) (W := (W : Int)) (by omega)
  rw [plain_at (by omega) hj, shift1 (Nat.mod_lt _ (by omega)) hx r0 r1, shift1 (div_bd hj) hy u0 u1]
  rfl

set_option maxHeartbeats 800000 in
theorem shifted_core (W H : Nat) (A : Option Addr) (c : Nat) (f : Nat → Bool) (dx dy : Int) (w : World) (hr : Holds w w.heap.size A (W * H) f) (hW0 : 1 ≤ W) (hW : W ≤ 64) (hH0 : 1 ≤ H) (hH : H ≤ 64)
    (r u : Int) (r0 : 0 ≤ r) (r1 : r < W) (u0 : 0 ≤ u) (u1 : u < H)
    (hM1 : ∀ w', Calls Try.prog 78 #[.int .i64 dx, .int .i64 (W : Int)] w' fun e w2 => e = .returned (.int .i64 r) ∧ w2 = w')
    (hM2 : ∀ w', Calls Try.prog 78 #[.int .i64 dy, .int .i64 (H : Int)] w' fun e w2 => e = .returned (.int .i64 u) ∧ w2 = w') :
    Calls Try.prog 109 #[.agg #[.int .i64 W, .int .i64 H, .slice A (W * H) c], .int .i64 dx, .int .i64 dy] w fun e w' => ∃ k, e = .returned (.agg #[.int .i64 W, .int .i64 H, .slice (some ⟨k, 0, none⟩) (W * H) (W * H)]) ∧ w.heap.size ≤ k ∧ Row w' k (W * H) (fun i => f (ay W H u i * W + ax W r i)) ∧ Below w.heap.size w w' := by
  have HR := Lib.hid hr
  clear hr
  have M1 := Lib.hid hM1
  have M2 := Lib.hid hM2
  clear hM1 hM2
  have B1 := (Box.new w W H (.slice A (W * H) c)).alloc (.cells #[.int .i64 0, .int .i64 0, .slice none 0 0] 24)
  have B2 := Box.new (w.alloc (.cells #[.int .i64 W, .int .i64 H, .slice A (W * H) c] 24)) 0 0 (.slice none 0 0)
  have B3 : Below w.heap.size w ((w.alloc (.cells #[.int .i64 W, .int .i64 H, .slice A (W * H) c] 24)).alloc (.cells #[.int .i64 0, .int .i64 0, .slice none 0 0] 24)) := ((Below.refl _ _).alloc (Nat.le_refl _) _).alloc (by simp) _
  have B4 : w.heap.size + 2 ≤ ((w.alloc (.cells #[.int .i64 W, .int .i64 H, .slice A (W * H) c] 24)).alloc (.cells #[.int .i64 0, .int .i64 0, .slice none 0 0] 24)).heap.size := by simp
  simp only [World.size_alloc] at B2
  go_enter Try.func109, Try.ntmps109
  go_wp2_with fail
  generalize (w.alloc (.cells #[.int .i64 W, .int .i64 H, .slice A (W * H) c] 24)).alloc (.cells #[.int .i64 0, .int .i64 0, .slice none 0 0] 24) = w0 at *
  refine (zero_int _ _ W H rfl rfl hW hH _).mono ?_
  rintro e w1 ⟨k, rfl, hk, hrow, hb⟩
  have R0 := Lib.hid (⟨(B1.below hb (by omega)).alloc _, (B2.below hb (by omega)).alloc _, Box.new w1 W H _, (hrow.alloc _).congr (fun i _ => by rw [cp_zero]),
    HR.out.below ((B3.trans (hb.mono B3.size)).alloc (Nat.le_trans B3.size hb.size) _), (B3.trans (hb.mono B3.size)).alloc (Nat.le_trans B3.size hb.size) _, by omega, by omega, hrow.lt⟩ :
    DR w (w1.alloc (.cells #[.int .i64 W, .int .i64 H, .slice (some ⟨k, 0, none⟩) (W * H) (W * H)] 24)) W H A c f (w.heap.size + 1) w1.heap.size k W H (cp (ax W r) (ay W H u) (fun x y => f (y * W + x)) 0 0))
  clear B1 B2 B3 B4 hb hrow
  go_wp2
  go_loopw [8] (fun i wr => ∃ x : Nat, x ≤ W ∧ i = .int .i64 x ∧ DR w wr W H A c f (w.heap.size + 1) w1.heap.size k W H (cp (ax W r) (ay W H u) (fun x y => f (y * W + x)) x 0)) (fun i _ => W - (intOf i).toNat)
  case atStart => exact ⟨0, Nat.zero_le _, rfl, R0.out⟩
  case round =>
    obtain ⟨x, hx, rfl, R⟩ := hrel
    obtain ⟨wo, rfl⟩ : ∃ wo : World, wo = wr := ⟨_, rfl⟩
    obtain ⟨q0, q1, q2, q3, q4, q5⟩ := R.six
    by_cases hlx : x < W
    · have R1 := Lib.hid R
      clear R
      go_wp2
      clear q0 q1 q2 q3 q4 q5
      go_loopw [9] (fun i wr => ∃ y : Nat, y ≤ H ∧ i = .int .i64 y ∧ DR w wr W H A c f (w.heap.size + 1) w1.heap.size k W H (cp (ax W r) (ay W H u) (fun x y => f (y * W + x)) x y)) (fun i _ => H - (intOf i).toNat)
      case atStart => exact ⟨0, Nat.zero_le _, rfl, R1.out⟩
      case round =>
        obtain ⟨y, hy, rfl, R⟩ := hrel
        obtain ⟨q0, q1, q2, q3, q4, q5⟩ := R.six
        have R2 := Lib.hid R
        clear R
        by_cases hly : y < H
        · have HK := Lib.hid (fun w' (h : Below wr.heap.size wr w') => (R2.out.next h).six)
          have HA := Lib.hid (fun w' (h : Below wr.heap.size wr w') => at_nat W H A c x y f w' w.heap.size (R2.out.next h).cells (Nat.le_trans R2.out.bel.size h.size) hW hH x y rfl rfl hlx hly)
          obtain ⟨s0, s1⟩ := mod_bd (v := (x : Int) + r) (W := (W : Int)) (by omega)
          obtain ⟨t0, t1⟩ := mod_bd (v := (y : Int) + u) (W := (H : Int)) (by omega)
          have M3 := fun w' => mod_any ((x : Int) + r) (W : Int) w' (by omega) (by omega) (by omega) (by omega)
          have M4 := fun w' => mod_any ((y : Int) + u) (H : Int) w' (by omega) (by omega) (by omega) (by omega)
          have SA := fun i (hi : i < W * H) => shift_at (j := i) hlx hly r0 r1 u0 u1 hi
          generalize ((x : Int) + r) % (W : Int) = p at *
          generalize ((y : Int) + u) % (H : Int) = q at *
          have M3 := Lib.hid M3
          have M4 := Lib.hid M4
          have SA := Lib.hid SA
          have HS := Lib.hid (fun (b : Bool) (w' : World) (hb : Below wr.heap.size wr w') => set_nat W H k (W * H) p q b _ w' (R2.out.next hb).row hW hH p.toNat q.toNat (Int.toNat_of_nonneg s0).symm (Int.toNat_of_nonneg t0).symm (by omega) (by omega))
          have e0 : IntKind.i64.wrap ((x : Int) + r) = (x : Int) + r := IntWalk.i64_in _ (by omega)
          have e1 : IntKind.i64.wrap ((y : Int) + u) = (y : Int) + u := IntWalk.i64_in _ (by omega)
          go_wp2
          go_region_held3 (fun w' => w'.cell? ⟨w.heap.size, 0, none⟩ = some (.int .i64 W) ∧ w'.cell? ⟨w.heap.size, 1, none⟩ = some (.int .i64 H) ∧ w'.cell? ⟨w.heap.size, 2, none⟩ = some (.slice A (W * H) c) ∧ w'.cell? ⟨w1.heap.size, 0, none⟩ = some (.int .i64 W) ∧ w'.cell? ⟨w1.heap.size, 1, none⟩ = some (.int .i64 H) ∧ w'.cell? ⟨w1.heap.size, 2, none⟩ = some (.slice (some ⟨k, 0, none⟩) (W * H) (W * H)))
            (first
              | exact hS3
              | exact HK.out _ hb2'
              | exact HK.out _ (Below.refl _ _).drew)
            (first
              | (go_at_call_of 78 (Value.int IntKind.i64 dx); (with_reducible refine (M1.out _).mono ?_); rintro e w2 ⟨rfl, rfl⟩)
              | (go_at_call_of 78 (Value.int IntKind.i64 dy); (with_reducible refine (M2.out _).mono ?_); rintro e w2 ⟨rfl, rfl⟩)
              | (go_at_call_of 78 (Value.int IntKind.i64 ((x : Int) + r)); (with_reducible refine (M3.out _).mono ?_); rintro e w2 ⟨rfl, rfl⟩)
              | (go_at_call_of 78 (Value.int IntKind.i64 ((y : Int) + u)); (with_reducible refine (M4.out _).mono ?_); rintro e w2 ⟨rfl, rfl⟩)
              | (go_at_call 116
                 refine (HA.out _ (Below.refl _ _).drew).mono ?_
                 rintro e w2 ⟨rfl, hb2⟩
                 have hb2' : Below wr.heap.size wr w2 := (Below.refl _ _).drew.trans hb2)
              | (go_at_call 80
                 refine (HS.out _ _ hb2').mono ?_
                 rintro e w3 ⟨rfl, hr3, hb3⟩
                 have hR3 := Lib.hid ((R2.out.next hb2').but hb3 hr3)
                 have hS3 := hR3.out.six))
          clear e0 e1
          go_wp2
          exact ⟨⟨y + 1, by omega, by go_num, hR3.out.congr fun i hi => cp_succ (SA.out i hi)⟩, by simp [intOf]; omega⟩
        · have e : y = H := by omega
          subst e
          go_wp2
          exact ⟨⟨x + 1, by omega, by go_num, R2.out.congr fun i hi => cp_next (ay_lt i hH0)⟩, by simp [intOf]; omega⟩
    · have e : x = W := by omega
      subst e
      obtain ⟨p0, p1, p2, p3, p4, p5, p6⟩ := R.res.all
      have R1 := Lib.hid R
      clear R
      go_wp2
      refine bodyPost_ret (v := .agg #[.int .i64 x, .int .i64 H, .slice (some ⟨k, 0, none⟩) (x * H) (x * H)]) (by simp [results, Try.results109, go_sem, p0, p1, p2]) rfl ⟨k, rfl, ?_, ?_, ?_⟩
      · have := R1.out.s0; have := R1.out.s1; omega
      · have s1 := R1.out.s1
        exact (((R1.out.row.far (by simp; omega) _).far (by simp; omega) _).far (by simp; omega) _).congr fun i hi => cp_all (ax_lt i hW0)
      · exact ((R1.out.bel.setCell (by simp) _).setCell (by simp) _).setCell (by simp) _
end Go.Proofs.Ytjbofdgdcnfmoaa
