/- The reference's Turn. -/
import Derived.Test.YtjbofdgdcnfmoaaRefm
import Derived.Deep.RegionHeld3
namespace Go.Proofs.Ytjbofdgdcnfmoaa
open Go.RowKit
set_option maxRecDepth 100000
set_option linter.unusedVariables false
set_option linter.unusedSimpArgs false

set_option maxHeartbeats 1600000 in
theorem turned_any (W H : Nat) (A : Option Addr) (c : Nat) (f : Nat → Bool) (w : World) (hr : Holds w w.heap.size A (W * H) f) (hW0 : 1 ≤ W) (hW : W ≤ 64) (hH0 : 1 ≤ H) (hH : H ≤ 64) :
    Calls Try.prog 128 #[.agg #[.int .i64 W, .int .i64 H, .slice A (W * H) c]] w fun e w' => ∃ k, e = .returned (.agg #[.int .i64 H, .int .i64 W, .slice (some ⟨k, 0, none⟩) (H * W) (H * W)]) ∧ w.heap.size ≤ k ∧ Row w' k (H * W) (fun i => f (i % H * W + i / H)) ∧ Below w.heap.size w w' := by
  have HR := Lib.hid hr
  clear hr
  have B1 := (Box.new w W H (.slice A (W * H) c)).alloc (.cells #[.int .i64 0, .int .i64 0, .slice none 0 0] 24)
  have B2 := Box.new (w.alloc (.cells #[.int .i64 W, .int .i64 H, .slice A (W * H) c] 24)) 0 0 (.slice none 0 0)
  have B3 : Below w.heap.size w ((w.alloc (.cells #[.int .i64 W, .int .i64 H, .slice A (W * H) c] 24)).alloc (.cells #[.int .i64 0, .int .i64 0, .slice none 0 0] 24)) := ((Below.refl _ _).alloc (Nat.le_refl _) _).alloc (by simp) _
  have B4 : w.heap.size + 2 ≤ ((w.alloc (.cells #[.int .i64 W, .int .i64 H, .slice A (W * H) c] 24)).alloc (.cells #[.int .i64 0, .int .i64 0, .slice none 0 0] 24)).heap.size := by simp
  simp only [World.size_alloc] at B2
  go_enter Try.func128, Try.ntmps128
  go_wp2_with fail
  generalize (w.alloc (.cells #[.int .i64 W, .int .i64 H, .slice A (W * H) c] 24)).alloc (.cells #[.int .i64 0, .int .i64 0, .slice none 0 0] 24) = w0 at *
  refine (zero_int _ _ H W rfl rfl hH hW _).mono ?_
  rintro e w1 ⟨k, rfl, hk, hrow, hb⟩
  have R0 := Lib.hid (⟨(B1.below hb (by omega)).alloc _, (B2.below hb (by omega)).alloc _, Box.new w1 H W _, (hrow.alloc _).congr (fun i _ => by rw [cp_zero]),
    HR.out.below ((B3.trans (hb.mono B3.size)).alloc (Nat.le_trans B3.size hb.size) _), (B3.trans (hb.mono B3.size)).alloc (Nat.le_trans B3.size hb.size) _, by omega, by omega, hrow.lt⟩ :
    DR w (w1.alloc (.cells #[.int .i64 H, .int .i64 W, .slice (some ⟨k, 0, none⟩) (H * W) (H * W)] 24)) W H A c f (w.heap.size + 1) w1.heap.size k H W (cp (· % H) (· / H) (fun x y => f (x * W + y)) 0 0))
  clear B1 B2 B3 B4 hb hrow
  go_wp2
  go_loopw [4] (fun i wr => ∃ x : Nat, x ≤ H ∧ i = .int .i64 x ∧ DR w wr W H A c f (w.heap.size + 1) w1.heap.size k H W (cp (· % H) (· / H) (fun x y => f (x * W + y)) x 0)) (fun i _ => H - (intOf i).toNat)
  case atStart => exact ⟨0, Nat.zero_le _, rfl, R0.out⟩
  case round =>
    obtain ⟨x, hx, rfl, R⟩ := hrel
    obtain ⟨wo, rfl⟩ : ∃ wo : World, wo = wr := ⟨_, rfl⟩
    obtain ⟨q0, q1, q2, q3, q4, q5⟩ := R.six
    by_cases hlx : x < H
    · have R1 := Lib.hid R
      clear R
      go_wp2
      clear q0 q1 q2 q3 q4 q5
      go_loopw [5] (fun i wr => ∃ y : Nat, y ≤ W ∧ i = .int .i64 y ∧ DR w wr W H A c f (w.heap.size + 1) w1.heap.size k H W (cp (· % H) (· / H) (fun x y => f (x * W + y)) x y)) (fun i _ => W - (intOf i).toNat)
      case atStart => exact ⟨0, Nat.zero_le _, rfl, R1.out⟩
      case round =>
        obtain ⟨y, hy, rfl, R⟩ := hrel
        obtain ⟨q0, q1, q2, q3, q4, q5⟩ := R.six
        have R2 := Lib.hid R
        clear R
        by_cases hly : y < W
        · have HK := Lib.hid (fun w' (h : Below wr.heap.size wr w') => (R2.out.next h).six)
          have HA := Lib.hid (fun w' (h : Below wr.heap.size wr w') => at_nat W H A c y x f w' w.heap.size (R2.out.next h).cells (Nat.le_trans R2.out.bel.size h.size) hW hH y x rfl rfl hly hlx)
          go_wp2
          go_region_held3 (fun w' => w'.cell? ⟨w.heap.size, 0, none⟩ = some (.int .i64 W) ∧ w'.cell? ⟨w.heap.size, 1, none⟩ = some (.int .i64 H) ∧ w'.cell? ⟨w.heap.size, 2, none⟩ = some (.slice A (W * H) c) ∧ w'.cell? ⟨w1.heap.size, 0, none⟩ = some (.int .i64 H) ∧ w'.cell? ⟨w1.heap.size, 1, none⟩ = some (.int .i64 W) ∧ w'.cell? ⟨w1.heap.size, 2, none⟩ = some (.slice (some ⟨k, 0, none⟩) (H * W) (H * W)))
            (first
              | exact hS3
              | exact HK.out _ hb2'
              | exact HK.out _ (Below.refl _ _).drew)
            (first
              | (go_at_call 116
                 refine (HA.out _ (Below.refl _ _).drew).mono ?_
                 rintro e w2 ⟨rfl, hb2⟩
                 have hb2' : Below wr.heap.size wr w2 := (Below.refl _ _).drew.trans hb2)
              | (go_at_call 80
                 refine (set_nat H W k (H * W) x y _ _ _ (R2.out.next hb2').row hH hW x y rfl rfl hlx hly).mono ?_
                 rintro e w3 ⟨rfl, hr3, hb3⟩
                 have hR3 := Lib.hid ((R2.out.next hb2').but hb3 hr3)
                 have hS3 := hR3.out.six))
          go_wp2
          exact ⟨⟨y + 1, by omega, by go_num, hR3.out.congr fun i hi => cp_succ (plain_at hlx hi)⟩, by simp [intOf]; omega⟩
        · have e : y = W := by omega
          subst e
          go_wp2
          exact ⟨⟨x + 1, by omega, by go_num, R2.out.congr fun i hi => cp_next (div_bd hi)⟩, by simp [intOf]; omega⟩
    · have e : x = H := by omega
      subst e
      obtain ⟨p0, p1, p2, p3, p4, p5, p6⟩ := R.res.all
      have R1 := Lib.hid R
      clear R
      go_wp2
      refine bodyPost_ret (v := .agg #[.int .i64 x, .int .i64 W, .slice (some ⟨k, 0, none⟩) (x * W) (x * W)]) (by simp [results, Try.results128, go_sem, p0, p1, p2]) rfl ⟨k, rfl, ?_, ?_, ?_⟩
      · have := R1.out.s0; have := R1.out.s1; omega
      · have s1 := R1.out.s1
        exact (((R1.out.row.far (by simp; omega) _).far (by simp; omega) _).far (by simp; omega) _).congr fun i hi => cp_all (Nat.mod_lt _ (by omega))
      · exact ((R1.out.bel.setCell (by simp) _).setCell (by simp) _).setCell (by simp) _
end Go.Proofs.Ytjbofdgdcnfmoaa
