/- The reference: does the plane, moved, meet another? -/
import Derived.Test.YtjbofdgdcnfmoaaTwo
import Derived.Test.YtjbofdgdcnfmoaaGcd
namespace Go.Proofs.Ytjbofdgdcnfmoaa
open Go.RowKit
set_option maxRecDepth 100000
set_option linter.unusedVariables false
set_option linter.unusedSimpArgs false

/-- .. at a place that is not negative, however far. -/
theorem at6_big (W H : Nat) (A : Option Addr) (c : Nat) (f : Nat → Bool) (x y : Nat) (w : World) (hr : Holds w w.heap.size A (W * H) f) (hW0 : 1 ≤ W) (hW : W ≤ 64) (hH0 : 1 ≤ H) (hH : H ≤ 64) (hx : x ≤ 100000) (hy : y ≤ 100000) :
    Calls Try.prog 81 #[.agg #[.int .i64 (W : Nat), .int .i64 (H : Nat), .slice A (W * H) c], .int .i64 (x : Nat), .int .i64 (y : Nat)] w fun e w' => e = .returned (.bool (pc W H f x y)) ∧ Below w.heap.size w w' := by
  have h := at6_any W H A c f x y w hr hW0 hW hH0 hH (by omega) (by omega) (by omega) (by omega)
  have e : ((y : Int) % (H : Int) * W + (x : Int) % (W : Int)).toNat = y % H * W + x % W := by
    rw [show ((y : Int) % (H : Int)) = ((y % H : Nat) : Int) by omega, show ((x : Int) % (W : Int)) = ((x % W : Nat) : Int) by omega, ← Int.natCast_mul]
    omega
  rw [e] at h
  exact h
/-- The cells of the first planes that are compared. -/
def meet (W H : Nat) (f : Nat → Bool) (X Y : Nat) (g : Nat → Bool) (a b : Nat) : Prop := ∀ x, x < Nat.lcm W X → ∀ y, y < Nat.lcm H Y → pc W H f x y = pc X Y g (x + a) (y + b)
theorem meet_iff {W H : Nat} {f : Nat → Bool} {X Y : Nat} {g : Nat → Bool} (hW0 : 1 ≤ W) (hH0 : 1 ≤ H) (hX0 : 1 ≤ X) (hY0 : 1 ≤ Y) (a b : Nat) : meet W H f X Y g a b ↔ Mt W H f X Y g a b := by
  have l1 : 0 < Nat.lcm W X := Nat.lcm_pos hW0 hX0
  have l2 : 0 < Nat.lcm H Y := Nat.lcm_pos hH0 hY0
  have d1 : (W : Int) ∣ ((Nat.lcm W X : Nat) : Int) := Int.natCast_dvd_natCast.2 (Nat.dvd_lcm_left _ _)
  have d2 : (X : Int) ∣ ((Nat.lcm W X : Nat) : Int) := Int.natCast_dvd_natCast.2 (Nat.dvd_lcm_right _ _)
  have d3 : (H : Int) ∣ ((Nat.lcm H Y : Nat) : Int) := Int.natCast_dvd_natCast.2 (Nat.dvd_lcm_left _ _)
  have d4 : (Y : Int) ∣ ((Nat.lcm H Y : Nat) : Int) := Int.natCast_dvd_natCast.2 (Nat.dvd_lcm_right _ _)
  constructor
  · intro h x y
    unfold meet at h
    generalize Nat.lcm W X = M at *
    generalize Nat.lcm H Y = N at *
    have hx0 := Int.emod_nonneg x (show (M : Int) ≠ 0 by omega)
    have hx1 := Int.emod_lt_of_pos x (show 0 < (M : Int) by omega)
    have hy0 := Int.emod_nonneg y (show (N : Int) ≠ 0 by omega)
    have hy1 := Int.emod_lt_of_pos y (show 0 < (N : Int) by omega)
    have e := h (x % (M : Int)).toNat (by omega) (y % (N : Int)).toNat (by omega)
    rw [← pz_nat, ← pz_nat, Int.natCast_add, Int.natCast_add, Int.toNat_of_nonneg hx0, Int.toNat_of_nonneg hy0] at e
    rw [pz_mod (x' := x % (M : Int)) (y' := y % (N : Int)) (Int.emod_emod_of_dvd _ d1).symm (Int.emod_emod_of_dvd _ d3).symm, e]
    exact pz_mod (by rw [Int.add_emod, Int.emod_emod_of_dvd _ d2, ← Int.add_emod]) (by rw [Int.add_emod, Int.emod_emod_of_dvd _ d4, ← Int.add_emod])
  · intro h x _ y _
    have e := h x y
    rw [← Int.natCast_add, ← Int.natCast_add, pz_nat, pz_nat] at e
    exact e
/-- What lies while two planes are compared. -/
structure M2 (w wr : World) (W H : Nat) (A : Option Addr) (c : Nat) (X Y : Nat) (D : Option Addr) (d : Nat) : Prop where
  g : Box wr w.heap.size (W : Nat) (H : Nat) (.slice A (W * H) c)
  k : Box wr (w.heap.size + 1) (X : Nat) (Y : Nat) (.slice D (X * Y) d)
  bel : Below w.heap.size w wr
theorem M2.next {w wr w' : World} {W H : Nat} {A : Option Addr} {c : Nat} {X Y : Nat} {D : Option Addr} {d : Nat} (h : M2 w wr W H A c X Y D d) (hb : Below wr.heap.size wr w') : M2 w w' W H A c X Y D d :=
  ⟨h.g.below hb h.g.lt, h.k.below hb h.k.lt, h.bel.trans (hb.mono h.bel.size)⟩
theorem M2.six {w wr : World} {W H : Nat} {A : Option Addr} {c : Nat} {X Y : Nat} {D : Option Addr} {d : Nat} (h : M2 w wr W H A c X Y D d) :
    wr.cell? ⟨w.heap.size, 0, none⟩ = some (.int .i64 (W : Nat)) ∧ wr.cell? ⟨w.heap.size, 1, none⟩ = some (.int .i64 (H : Nat)) ∧ wr.cell? ⟨w.heap.size, 2, none⟩ = some (.slice A (W * H) c) ∧
    wr.cell? ⟨w.heap.size + 1, 0, none⟩ = some (.int .i64 (X : Nat)) ∧ wr.cell? ⟨w.heap.size + 1, 1, none⟩ = some (.int .i64 (Y : Nat)) ∧ wr.cell? ⟨w.heap.size + 1, 2, none⟩ = some (.slice D (X * Y) d) := ⟨h.g.c0, h.g.c1, h.g.c2, h.k.c0, h.k.c1, h.k.c2⟩
set_option maxHeartbeats 1600000 in
theorem meets_any (W H : Nat) (A : Option Addr) (c : Nat) (f : Nat → Bool) (X Y : Nat) (D : Option Addr) (d : Nat) (g : Nat → Bool) (a b : Nat) (w : World) (hr : Holds w w.heap.size A (W * H) f) (hs : Holds w w.heap.size D (X * Y) g)
    (hW0 : 1 ≤ W) (hW : W ≤ 64) (hH0 : 1 ≤ H) (hH : H ≤ 64) (hX0 : 1 ≤ X) (hX : X ≤ 64) (hY0 : 1 ≤ Y) (hY : Y ≤ 64) (ha : a ≤ 64) (hb : b ≤ 64) :
    Calls Try.prog 84 #[.agg #[.int .i64 (W : Nat), .int .i64 (H : Nat), .slice A (W * H) c], .agg #[.int .i64 (X : Nat), .int .i64 (Y : Nat), .slice D (X * Y) d], .int .i64 (a : Nat), .int .i64 (b : Nat)] w fun e w' => ∃ t : Bool, e = .returned (.bool t) ∧ (t = true ↔ Mt W H f X Y g a b) ∧ Below w.heap.size w w' := by
  have HR := Lib.hid (fun v (h : Below w.heap.size w v) => (hr.below h).more h.size)
  have HS := Lib.hid (fun v (h : Below w.heap.size w v) => (hs.below h).more h.size)
  have M0 := Lib.hid (show M2 w ((w.alloc (.cells #[.int .i64 (W : Nat), .int .i64 (H : Nat), .slice A (W * H) c] 24)).alloc (.cells #[.int .i64 (X : Nat), .int .i64 (Y : Nat), .slice D (X * Y) d] 24)) W H A c X Y D d from
    ⟨(Box.new _ _ _ _).alloc _, by have h := Box.new (w.alloc (.cells #[.int .i64 (W : Nat), .int .i64 (H : Nat), .slice A (W * H) c] 24)) (X : Nat) (Y : Nat) (.slice D (X * Y) d); rwa [World.size_alloc] at h, ((Below.refl _ _).alloc (Nat.le_refl _) _).alloc (by simp) _⟩)
  have g1 : 1 ≤ Nat.gcd W X := Nat.gcd_pos_of_pos_left _ hW0
  have g2 : 1 ≤ Nat.gcd H Y := Nat.gcd_pos_of_pos_left _ hH0
  have p1 : W * X ≤ 4096 := Nat.mul_le_mul hW hX
  have p2 : H * Y ≤ 4096 := Nat.mul_le_mul hH hY
  have l1 : W * X / Nat.gcd W X ≤ W * X := Nat.div_le_self _ _
  have l2 : H * Y / Nat.gcd H Y ≤ H * Y := Nat.div_le_self _ _
  have s1 : (W : Int) * (X : Int) = ((W * X : Nat) : Int) := by rw [Int.natCast_mul]
  have s2 : (H : Int) * (Y : Int) = ((H * Y : Nat) : Int) := by rw [Int.natCast_mul]
  have t1 : ((W * X : Nat) : Int).tdiv ((Nat.gcd W X : Nat) : Int) = ((W * X / Nat.gcd W X : Nat) : Int) := by rw [Int.tdiv_eq_ediv_of_nonneg (by omega), Int.natCast_ediv]
  have t2 : ((H * Y : Nat) : Int).tdiv ((Nat.gcd H Y : Nat) : Int) = ((H * Y / Nat.gcd H Y : Nat) : Int) := by rw [Int.tdiv_eq_ediv_of_nonneg (by omega), Int.natCast_ediv]
  have HG1 := Lib.hid (fun u n => rgcd_q W X u n (by omega) (by omega))
  have HG2 := Lib.hid (fun u n => rgcd_q H Y u n (by omega) (by omega))
  have HDD : Hid (Mt W H f X Y g a b ↔ ∀ x, x < W * X / Nat.gcd W X → ∀ y, y < H * Y / Nat.gcd H Y → pc W H f x y = pc X Y g (x + a) (y + b)) := Lib.hid (meet_iff hW0 hH0 hX0 hY0 a b).symm
  generalize W * X / Nat.gcd W X = M at *
  generalize H * Y / Nat.gcd H Y = N at *
  generalize Nat.gcd W X = gx at *
  generalize Nat.gcd H Y = gy at *
  have i1 : ¬ (gx : Int) = 0 := by omega
  have i2 : ¬ (gy : Int) = 0 := by omega
  have k1 : IntKind.i64.wrap (((W * X : Nat) : Int)) = ((W * X : Nat) : Int) := IntWalk.i64_in _ (by omega)
  have k2 : IntKind.i64.wrap (((H * Y : Nat) : Int)) = ((H * Y : Nat) : Int) := IntWalk.i64_in _ (by omega)
  obtain ⟨WX, hWX⟩ : ∃ v, W * X = v := ⟨_, rfl⟩
  obtain ⟨HY, hHY⟩ : ∃ v, H * Y = v := ⟨_, rfl⟩
  rw [hWX] at p1 l1 s1 t1 k1
  rw [hHY] at p2 l2 s2 t2 k2
  clear hWX hHY hr hs
  go_enter Try.func84, Try.ntmps84
  obtain ⟨q0, q1, q2, q3, q4, q5⟩ := M0.out.six
  go_upto_region 1 with fail
  generalize ((w.alloc (.cells #[.int .i64 (W : Nat), .int .i64 (H : Nat), .slice A (W * H) c] 24)).alloc (.cells #[.int .i64 (X : Nat), .int .i64 (Y : Nat), .slice D (X * Y) d] 24)) = v0 at *
  go_quiet ((first | (go_at_call 82; with_reducible exact HG1.out _ _) | (go_at_call 82; with_reducible exact HG2.out _ _)))
  have M1 := Lib.hid (M0.out.next (Go.Proofs.below_drewN' (Below.refl _ _) nq))
  generalize v0.drewN nq = v1 at M1 ⊢
  clear q0 q1 q2 q3 q4 q5 M0 HG1 HG2 i1 i2 s1 s2 t1 t2 k1 k2
  go_wp2_with fail
  go_loopw [11] (fun i wr => ∃ x : Nat, x ≤ M ∧ i = .int .i64 x ∧ Hid (∀ x', x' < x → ∀ y, y < N → pc W H f x' y = pc X Y g (x' + a) (y + b)) ∧ Hid (M2 w wr W H A c X Y D d)) (fun i _ => M - (intOf i).toNat)
  case atStart => exact ⟨0, Nat.zero_le _, rfl, fun x hx => absurd hx (by omega), M1⟩
  case round =>
    obtain ⟨x, hx, rfl, hall, HB⟩ := hrel
    by_cases hlx : x < M
    · go_wp2
      go_loopw [12] (fun i wr => ∃ y : Nat, y ≤ N ∧ i = .int .i64 y ∧ Hid (∀ y', y' < y → pc W H f x y' = pc X Y g (x + a) (y' + b)) ∧ Hid (M2 w wr W H A c X Y D d)) (fun i _ => N - (intOf i).toNat)
      case atStart => exact ⟨0, Nat.zero_le _, rfl, fun y hy => absurd hy (by omega), HB⟩
      case round =>
        obtain ⟨y, hy, rfl, hal2, HB⟩ := hrel
        by_cases hly : y < N
        · obtain ⟨q0, q1, q2, q3, q4, q5⟩ := HB.out.six
          have HK := Lib.hid (fun u (h : Below wr.heap.size wr u) => (HB.out.next h).six)
          have P1 := fun u (h : Below wr.heap.size wr u) => at6_big W H A c f x y u (HR.out u (HB.out.next h).bel) hW0 hW hH0 hH (by omega) (by omega)
          have P2 := fun u (h : Below wr.heap.size wr u) => at6_big X Y D d g (x + a) (y + b) u (HS.out u (HB.out.next h).bel) hX0 hX hY0 hY (by omega) (by omega)
          have e0 : IntKind.i64.wrap ((x : Int) + (a : Int)) = (x : Int) + (a : Int) := IntWalk.i64_in _ (by omega)
          have e1 : IntKind.i64.wrap ((y : Int) + (b : Int)) = (y : Int) + (b : Int) := IntWalk.i64_in _ (by omega)
          rw [Int.natCast_add, Int.natCast_add] at P2
          obtain ⟨u, hu⟩ : ∃ u, pc W H f x y = u := ⟨_, rfl⟩
          obtain ⟨v, hv⟩ : ∃ v, pc X Y g (x + a) (y + b) = v := ⟨_, rfl⟩
          rw [hu] at P1
          rw [hv] at P2
          have P1 := Lib.hid P1
          have P2 := Lib.hid P2
          have HU := Lib.hid hu
          have HV := Lib.hid hv
          clear hu hv
          by_cases e : u = v
          · have E : pc W H f x y = pc X Y g (x + a) (y + b) := by rw [HU.out, HV.out, e]
            have E := Lib.hid E
            subst e
            clear HU HV
            cases u
            all_goals
              go_wp2
              go_region_held3 (fun w' => w'.cell? ⟨w.heap.size, 0, none⟩ = some (.int .i64 (W : Nat)) ∧ w'.cell? ⟨w.heap.size, 1, none⟩ = some (.int .i64 (H : Nat)) ∧ w'.cell? ⟨w.heap.size, 2, none⟩ = some (.slice A (W * H) c) ∧ w'.cell? ⟨w.heap.size + 1, 0, none⟩ = some (.int .i64 (X : Nat)) ∧ w'.cell? ⟨w.heap.size + 1, 1, none⟩ = some (.int .i64 (Y : Nat)) ∧ w'.cell? ⟨w.heap.size + 1, 2, none⟩ = some (.slice D (X * Y) d))
              (first
                | exact HK.out _ hb2'
                | exact HK.out _ hb1'
                | exact HK.out _ (Below.refl _ _).drew)
              (first
                | (go_at_call 81
                   with_reducible refine (P1.out _ (Below.refl _ _).drew).mono ?_
                   rintro e w2 ⟨rfl, hb1⟩
                   have hb1' : Below wr.heap.size wr w2 := (Below.refl _ _).drew.trans hb1)
                | (go_at_call 81
                   with_reducible refine (P2.out _ hb1').mono ?_
                   rintro e w3 ⟨rfl, hb2⟩
                   have hb2' : Below wr.heap.size wr w3 := hb1'.trans (hb2.mono hb1'.size)))
              clear e0 e1
              go_wp2
              refine ⟨⟨y + 1, by omega, by go_num, fun y' hy' => ?_, HB.out.next hb2'⟩, by simp [intOf]; omega⟩
              rcases Nat.lt_succ_iff_lt_or_eq.1 hy' with h | rfl
              · exact hal2.out y' h
              · exact E.out
          · have E : ¬ pc W H f x y = pc X Y g (x + a) (y + b) := by rw [HU.out, HV.out]; exact e
            have E := Lib.hid E
            clear HU HV
            cases u <;> cases v <;> first | exact absurd rfl e | skip
            all_goals
              clear e
              go_wp2
              go_region_held3 (fun w' => w'.cell? ⟨w.heap.size, 0, none⟩ = some (.int .i64 (W : Nat)) ∧ w'.cell? ⟨w.heap.size, 1, none⟩ = some (.int .i64 (H : Nat)) ∧ w'.cell? ⟨w.heap.size, 2, none⟩ = some (.slice A (W * H) c) ∧ w'.cell? ⟨w.heap.size + 1, 0, none⟩ = some (.int .i64 (X : Nat)) ∧ w'.cell? ⟨w.heap.size + 1, 1, none⟩ = some (.int .i64 (Y : Nat)) ∧ w'.cell? ⟨w.heap.size + 1, 2, none⟩ = some (.slice D (X * Y) d))
              (first
                | exact HK.out _ hb2'
                | exact HK.out _ hb1'
                | exact HK.out _ (Below.refl _ _).drew)
              (first
                | (go_at_call 81
                   with_reducible refine (P1.out _ (Below.refl _ _).drew).mono ?_
                   rintro e w2 ⟨rfl, hb1⟩
                   have hb1' : Below wr.heap.size wr w2 := (Below.refl _ _).drew.trans hb1)
                | (go_at_call 81
                   with_reducible refine (P2.out _ hb1').mono ?_
                   rintro e w3 ⟨rfl, hb2⟩
                   have hb2' : Below wr.heap.size wr w3 := hb1'.trans (hb2.mono hb1'.size)))
              clear e0 e1
              go_wp2
              go_ret
              exact ⟨false, rfl, ⟨fun h => (by cases h), fun h => absurd (HDD.out.1 h x hlx y hly) E.out⟩, (HB.out.next hb2').bel⟩
        · have e : y = N := by omega
          subst e
          go_wp2
          refine ⟨⟨x + 1, by omega, by go_num, fun x' hx' => ?_, HB⟩, by simp [intOf]; omega⟩
          rcases Nat.lt_succ_iff_lt_or_eq.1 hx' with h | rfl
          · exact hall.out x' h
          · exact hal2.out
    · have e : x = M := by omega
      subst e
      go_wp2
      go_ret
      exact ⟨true, rfl, ⟨fun _ => HDD.out.2 hall.out, fun _ => rfl⟩, HB.out.bel⟩
end Go.Proofs.Ytjbofdgdcnfmoaa
