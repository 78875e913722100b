/- The statement RepeatMoved: does a plane that is moved meet another? (its own function 'moves') -/
import Derived.Test.YtjbofdgdcnfmoaaMva
import Derived.Test.YtjbofdgdcnfmoaaCb
namespace Go.Proofs.Ytjbofdgdcnfmoaa
open Go.RowKit
set_option maxRecDepth 100000
set_option linter.unusedVariables false
set_option linter.unusedSimpArgs false

/-- What lies while a plane that is moved is compared with another. -/
structure MV (w wr : World) (W H : Nat) (A : Option Addr) (c : Nat) (X Y : Nat) (D : Option Addr) (d : Nat) (a b : Nat) : Prop where
  m : M2 w wr W H A c X Y D d
  p : Pt wr (w.heap.size + 2) (a : Nat) (b : Nat)
theorem MV.next {w wr w' : World} {W H : Nat} {A : Option Addr} {c : Nat} {X Y : Nat} {D : Option Addr} {d : Nat} {a b : Nat} (h : MV w wr W H A c X Y D d a b) (hb : Below wr.heap.size wr w') : MV w w' W H A c X Y D d a b :=
  ⟨h.m.next hb, h.p.below hb h.p.lt⟩
theorem MV.all {w wr : World} {W H : Nat} {A : Option Addr} {c : Nat} {X Y : Nat} {D : Option Addr} {d : Nat} {a b : Nat} (h : MV w wr W H A c X Y D d a b) :
    wr.cell? ⟨w.heap.size, 0, none⟩ = some (.int .i64 (W : Nat)) ∧ wr.cell? ⟨w.heap.size, 1, none⟩ = some (.int .i64 (H : Nat)) ∧ wr.cell? ⟨w.heap.size, 2, none⟩ = some (.slice A (W * H) c) ∧
    wr.cell? ⟨w.heap.size + 1, 0, none⟩ = some (.int .i64 (X : Nat)) ∧ wr.cell? ⟨w.heap.size + 1, 1, none⟩ = some (.int .i64 (Y : Nat)) ∧ wr.cell? ⟨w.heap.size + 1, 2, none⟩ = some (.slice D (X * Y) d) ∧
    wr.cell? ⟨w.heap.size + 2, 0, none⟩ = some (.int .i64 (a : Nat)) ∧ wr.cell? ⟨w.heap.size + 2, 1, none⟩ = some (.int .i64 (b : Nat)) := by
  obtain ⟨h0, h1, h2, h3, h4, h5⟩ := h.m.six
  obtain ⟨k0, k1, _⟩ := h.p.all
  exact ⟨h0, h1, h2, h3, h4, h5, k0, k1⟩
theorem MV.new (w : World) (W H : Nat) (A : Option Addr) (c : Nat) (X Y : Nat) (D : Option Addr) (d : Nat) (a b : Nat) : MV w (((w.alloc (.cells #[.int .i64 (W : Nat), .int .i64 (H : Nat), .slice A (W * H) c] 24)).alloc (.cells #[.int .i64 (X : Nat), .int .i64 (Y : Nat), .slice D (X * Y) d] 24)).alloc (.cells #[.int .i64 (a : Nat), .int .i64 (b : Nat)] 40)) W H A c X Y D d a b := by
  have s1 : (w.alloc (.cells #[.int .i64 (W : Nat), .int .i64 (H : Nat), .slice A (W * H) c] 24)).heap.size = w.heap.size + 1 := World.size_alloc _ _
  have h1 := Box.new (w.alloc (.cells #[.int .i64 (W : Nat), .int .i64 (H : Nat), .slice A (W * H) c] 24)) (X : Nat) (Y : Nat) (.slice D (X * Y) d)
  rw [s1] at h1
  have h2 := Pt.new ((w.alloc (.cells #[.int .i64 (W : Nat), .int .i64 (H : Nat), .slice A (W * H) c] 24)).alloc (.cells #[.int .i64 (X : Nat), .int .i64 (Y : Nat), .slice D (X * Y) d] 24)) (a : Nat) (b : Nat)
  rw [World.size_alloc, s1] at h2
  exact ⟨⟨((Box.new _ _ _ _).alloc _).alloc _, h1.alloc _, (((Below.refl _ _).alloc (Nat.le_refl _) _).alloc (by simp) _).alloc (by rw [World.size_alloc, s1]; omega) _⟩, h2⟩
set_option maxHeartbeats 1600000 in
theorem moves_ok (W H : Nat) (A : Option Addr) (c : Nat) (f : Nat → Bool) (X Y : Nat) (D : Option Addr) (d : Nat) (g : Nat → Bool) (a b : Nat) (w : World) (hr : Holds w w.heap.size A (W * H) f) (hs : Holds w w.heap.size D (X * Y) g)
    (hW0 : 1 ≤ W) (hW : W ≤ 64) (hH0 : 1 ≤ H) (hH : H ≤ 64) (hX0 : 1 ≤ X) (hX : X ≤ 64) (hY0 : 1 ≤ Y) (hY : Y ≤ 64) (ha : a ≤ 64) (hb : b ≤ 64) (hm : Mt W H f X Y g a b) :
    Calls Try.prog 44 #[.agg #[.int .i64 (W : Nat), .int .i64 (H : Nat), .slice A (W * H) c], .agg #[.int .i64 (X : Nat), .int .i64 (Y : Nat), .slice D (X * Y) d], .agg #[.int .i64 (a : Nat), .int .i64 (b : Nat)]] w fun e w' => e = .returned (.bool true) ∧ Below w.heap.size w w' := by
  have HR := Lib.hid (fun v (h : Below w.heap.size w v) => (hr.below h).more h.size)
  have HS := Lib.hid (fun v (h : Below w.heap.size w v) => (hs.below h).more h.size)
  have M0 := Lib.hid (MV.new w W H A c X Y D d a b)
  have p1 : W * X ≤ 4096 := Nat.mul_le_mul hW hX
  have p2 : H * Y ≤ 4096 := Nat.mul_le_mul hH hY
  have s1 : (W : Int) * (X : Int) = ((W * X : Nat) : Int) := by rw [Int.natCast_mul]
  have s2 : (H : Int) * (Y : Int) = ((H * Y : Nat) : Int) := by rw [Int.natCast_mul]
  have HM := Lib.hid hm
  have k1 : IntKind.i64.wrap (((W * X : Nat) : Int)) = ((W * X : Nat) : Int) := IntWalk.i64_in _ (by omega)
  have k2 : IntKind.i64.wrap (((H * Y : Nat) : Int)) = ((H * Y : Nat) : Int) := IntWalk.i64_in _ (by omega)
  obtain ⟨WX, hWX⟩ : ∃ v, W * X = v := ⟨_, rfl⟩
  obtain ⟨HY, hHY⟩ : ∃ v, H * Y = v := ⟨_, rfl⟩
  rw [hWX] at p1 s1 k1
  rw [hHY] at p2 s2 k2
  clear hWX hHY hr hs hm
  go_enter Try.func44, Try.ntmps44
  go_wp2
  go_loopw [7] (fun i wr => ∃ x : Nat, x ≤ WX ∧ i = .int .i64 x ∧ Hid (MV w wr W H A c X Y D d a b)) (fun i _ => WX - (intOf i).toNat)
  case atStart => exact ⟨0, Nat.zero_le _, rfl, M0⟩
  case round =>
    obtain ⟨x, hx, rfl, HB⟩ := hrel
    obtain ⟨q0, q1, q2, q3, q4, q5, q6, q7⟩ := HB.out.all
    by_cases hlx : x < WX
    · go_wp2
      clear q0 q1 q2 q3 q4 q5 q6 q7
      go_loopw [8] (fun i wr => ∃ y : Nat, y ≤ HY ∧ i = .int .i64 y ∧ Hid (MV w wr W H A c X Y D d a b)) (fun i _ => HY - (intOf i).toNat)
      case atStart => exact ⟨0, Nat.zero_le _, rfl, HB⟩
      case round =>
        obtain ⟨y, hy, rfl, HB⟩ := hrel
        obtain ⟨q0, q1, q2, q3, q4, q5, q6, q7⟩ := HB.out.all
        by_cases hly : y < HY
        · have HK := Lib.hid (fun u (h : Below wr.heap.size wr u) => (HB.out.next h).all)
          have P1 := fun u (h : Below wr.heap.size wr u) => at6_big W H A c f x y u (HR.out u (HB.out.next h).m.bel) hW0 hW hH0 hH (by omega) (by omega)
          have P2 := fun u (h : Below wr.heap.size wr u) => at6_big X Y D d g (x + a) (y + b) u (HS.out u (HB.out.next h).m.bel) hX0 hX hY0 hY (by omega) (by omega)
          have e0 : IntKind.i64.wrap ((x : Int) + (a : Int)) = (x : Int) + (a : Int) := IntWalk.i64_in _ (by omega)
          have e1 : IntKind.i64.wrap ((y : Int) + (b : Int)) = (y : Int) + (b : Int) := IntWalk.i64_in _ (by omega)
          rw [Int.natCast_add, Int.natCast_add] at P2
          have hpq : pc X Y g (x + a) (y + b) = pc W H f x y := by
            have e := HM.out x y
            rw [← Int.natCast_add, ← Int.natCast_add, pz_nat, pz_nat] at e
            exact e.symm
          rw [hpq] at P2
          obtain ⟨u, hu⟩ : ∃ u, pc W H f x y = u := ⟨_, rfl⟩
          rw [hu] at P1 P2
          have P1 := Lib.hid P1
          have P2 := Lib.hid P2
          clear hu hpq
          cases u
          all_goals
            go_wp2
            go_region_held3 (fun w' => w'.cell? ⟨w.heap.size, 0, none⟩ = some (.int .i64 (W : Nat)) ∧ w'.cell? ⟨w.heap.size, 1, none⟩ = some (.int .i64 (H : Nat)) ∧ w'.cell? ⟨w.heap.size, 2, none⟩ = some (.slice A (W * H) c) ∧ w'.cell? ⟨w.heap.size + 1, 0, none⟩ = some (.int .i64 (X : Nat)) ∧ w'.cell? ⟨w.heap.size + 1, 1, none⟩ = some (.int .i64 (Y : Nat)) ∧ w'.cell? ⟨w.heap.size + 1, 2, none⟩ = some (.slice D (X * Y) d) ∧ w'.cell? ⟨w.heap.size + 2, 0, none⟩ = some (.int .i64 (a : Nat)) ∧ w'.cell? ⟨w.heap.size + 2, 1, none⟩ = some (.int .i64 (b : Nat)))
              (first
                | exact HK.out _ hb2'
                | exact HK.out _ hb1'
                | exact HK.out _ (Below.refl _ _).drew)
              (first
                | (go_at_call 81
                   with_reducible refine (P1.out _ (Below.refl _ _).drew).mono ?_
                   rintro e w2 ⟨rfl, hb1⟩
                   have hb1' : Below wr.heap.size wr w2 := (Below.refl _ _).drew.trans hb1)
                | (go_at_call 81
                   with_reducible refine (P2.out _ hb1').mono ?_
                   rintro e w3 ⟨rfl, hb2⟩
                   have hb2' : Below wr.heap.size wr w3 := hb1'.trans (hb2.mono hb1'.size)))
            clear e0 e1
            go_wp2
            exact ⟨⟨y + 1, by omega, by go_num, HB.out.next hb2'⟩, by simp [intOf]; omega⟩
        · have e : y = HY := by omega
          subst e
          go_wp2
          exact ⟨⟨x + 1, by omega, by go_num, HB⟩, by simp [intOf]; omega⟩
    · have e : x = WX := by omega
      subst e
      go_wp2
      go_ret
      exact ⟨rfl, HB.out.m.bel⟩
end Go.Proofs.Ytjbofdgdcnfmoaa
