/- Merged: Rat Ris Rib Rla Rof. -/
import Derived.Test.YtmakjdfkldacaaaLb
import Derived.Test.YtmakjdfkldacaaaGb
import Derived.Test.YtmakjdfkldacaaaPa
import Derived.Test.YtmakjdfkldacaaaSa

/- A plane's cell by the reference; the reference's test of a step. -/
namespace Go.Proofs.Ytmakjdfkldacaaa
open Go.RowKit
set_option maxRecDepth 100000
set_option linter.unusedVariables false
set_option linter.unusedSimpArgs false

set_option maxHeartbeats 800000 in
theorem at6_core (W H : Nat) (A : Option Addr) (c : Nat) (f : Nat → Bool) (x y p q : Int) (w : World) (hr : Holds w w.heap.size A (W * H) f) (hW0 : 1 ≤ W) (hW : W ≤ 64) (hH0 : 1 ≤ H) (hH : H ≤ 64)
    (hx0 : -9223372036854775808 ≤ x) (hx1 : x ≤ 9223372036854775807) (hy0 : -9223372036854775808 ≤ y) (hy1 : y ≤ 9223372036854775807) (hp : x % (W : Int) = p) (hq : y % (H : Int) = q) :
    Calls Try.prog 42 #[.agg #[.int .i64 (W : Nat), .int .i64 (H : Nat), .slice A (W * H) c], .int .i64 x, .int .i64 y] w fun e w' => e = .returned (.bool (f (q * W + p).toNat)) ∧ Below w.heap.size w w' := by
  have p0 := Int.emod_nonneg x (show (W : Int) ≠ 0 by omega)
  have p1 := Int.emod_lt_of_pos x (show 0 < (W : Int) by omega)
  have q0' := Int.emod_nonneg y (show (H : Int) ≠ 0 by omega)
  have q1' := Int.emod_lt_of_pos y (show 0 < (H : Int) by omega)
  have M1 := fun u => mod_any x W u (by omega) (by omega) hx0 hx1
  have M2 := fun u => mod_any y H u (by omega) (by omega) hy0 hy1
  rw [hp] at p0 p1 M1
  rw [hq] at q0' q1' M2
  have M1 := Lib.hid M1
  have M2 := Lib.hid M2
  have hi : (q * W + p).toNat < W * H := by
    obtain ⟨a, rfl⟩ : ∃ a : Nat, q = a := ⟨q.toNat, by omega⟩
    obtain ⟨b, rfl⟩ : ∃ b : Nat, p = b := ⟨p.toNat, by omega⟩
    have e1 : (a + 1) * W ≤ H * W := Nat.mul_le_mul_right W (by omega)
    rw [Nat.add_mul, Nat.one_mul, Nat.mul_comm H W] at e1
    have e2 : ((a : Int) * (W : Int) + (b : Int)).toNat = a * W + b := by
      rw [← Int.natCast_mul, ← Int.natCast_add, Int.toNat_natCast]
    omega
  have hWH : W * H ≤ 4096 := Nat.mul_le_mul hW hH
  have HB := Box.new w (W : Nat) (H : Nat) (.slice A (W * H) c)
  have hB := (Below.refl w.heap.size w).alloc (Nat.le_refl _) (.cells #[.int .i64 (W : Nat), .int .i64 (H : Nat), .slice A (W * H) c] 24)
  have HA := Lib.hid (fun u (h : Below w.heap.size w u) => at_any W H A (W * H) c p q f w.heap.size u (hr.below h) h.size (by omega) (by omega) (by omega) p0 (by omega) q0' (by omega) hi)
  clear hr hp hq
  go_enter Try.func42, Try.ntmps42
  go_wp2_with fail
  generalize w.alloc (.cells #[.int .i64 (W : Nat), .int .i64 (H : Nat), .slice A (W * H) c] 24) = w0 at *
  have hlt := HB.lt
  have HK := Lib.hid (fun u (h : Below w0.heap.size w0 u) => (show u.cell? ⟨w.heap.size, 0, none⟩ = some (.int .i64 (W : Nat)) ∧ u.cell? ⟨w.heap.size, 1, none⟩ = some (.int .i64 (H : Nat)) ∧ u.cell? ⟨w.heap.size, 2, none⟩ = some (.slice A (W * H) c) from ⟨(HB.below h hlt).c0, (HB.below h hlt).c1, (HB.below h hlt).c2⟩))
  obtain ⟨a0, a1, a2, a3, a4, a5⟩ := HB.all
  have hB := Lib.hid hB
  go_region_held3 (fun w' => w'.cell? ⟨w.heap.size, 0, none⟩ = some (.int .i64 (W : Nat)) ∧ w'.cell? ⟨w.heap.size, 1, none⟩ = some (.int .i64 (H : Nat)) ∧ w'.cell? ⟨w.heap.size, 2, none⟩ = some (.slice A (W * H) c))
    (first
      | exact HK.out _ hb2'
      | exact HK.out _ (Below.refl _ _).drew)
    (first
      | (go_at_call_of 41 (Value.int IntKind.i64 x); (with_reducible refine (M1.out _).mono ?_); rintro e w2 ⟨rfl, rfl⟩)
      | (go_at_call_of 41 (Value.int IntKind.i64 y); (with_reducible refine (M2.out _).mono ?_); rintro e w2 ⟨rfl, rfl⟩)
      | (go_at_call 64
         refine (HA.out _ hB.out.drew).mono ?_
         rintro e w2 ⟨rfl, hb2⟩
         have hb2' : Below w0.heap.size w0 w2 := (Below.refl _ _).drew.trans hb2))
  go_wp2
  go_ret
  exact ⟨rfl, hB.out.trans (hb2'.mono hB.out.size)⟩
theorem at6_any (W H : Nat) (A : Option Addr) (c : Nat) (f : Nat → Bool) (x y : Int) (w : World) (hr : Holds w w.heap.size A (W * H) f) (hW0 : 1 ≤ W) (hW : W ≤ 64) (hH0 : 1 ≤ H) (hH : H ≤ 64)
    (hx0 : -9223372036854775808 ≤ x) (hx1 : x ≤ 9223372036854775807) (hy0 : -9223372036854775808 ≤ y) (hy1 : y ≤ 9223372036854775807) :
    Calls Try.prog 42 #[.agg #[.int .i64 (W : Nat), .int .i64 (H : Nat), .slice A (W * H) c], .int .i64 x, .int .i64 y] w fun e w' => e = .returned (.bool (f ((y % (H : Int)) * W + x % (W : Int)).toNat)) ∧ Below w.heap.size w w' :=
  at6_core W H A c f x y _ _ w hr hW0 hW hH0 hH hx0 hx1 hy0 hy1 rfl rfl
/-- .. at a place that is not negative. -/
theorem at6_nat (W H : Nat) (A : Option Addr) (c : Nat) (f : Nat → Bool) (x y : Nat) (w : World) (hr : Holds w w.heap.size A (W * H) f) (hW0 : 1 ≤ W) (hW : W ≤ 64) (hH0 : 1 ≤ H) (hH : H ≤ 64) (hx : x ≤ 1000) (hy : y ≤ 1000) :
    Calls Try.prog 42 #[.agg #[.int .i64 (W : Nat), .int .i64 (H : Nat), .slice A (W * H) c], .int .i64 (x : Nat), .int .i64 (y : Nat)] w fun e w' => e = .returned (.bool (pc W H f x y)) ∧ Below w.heap.size w w' := by
  have h := at6_any W H A c f x y w hr hW0 hW hH0 hH (by omega) (by omega) (by omega) (by omega)
  have e : (((y : Int) % (H : Int)) * W + (x : Int) % (W : Int)).toNat = y % H * W + x % W := by
    rw [← Int.natCast_emod, ← Int.natCast_emod, ← Int.natCast_mul, ← Int.natCast_add, Int.toNat_natCast]
  rw [e] at h
  exact h
end Go.Proofs.Ytmakjdfkldacaaa

/- The reference's test of a step. -/
namespace Go.Proofs.Ytmakjdfkldacaaa
open Go.RowKit
set_option maxRecDepth 100000
set_option linter.unusedVariables false
set_option linter.unusedSimpArgs false

/-- The grid repeats by the step (a, b). -/
def rep (W H : Nat) (f : Nat → Bool) (a b : Nat) : Prop := ∀ x, x < W → ∀ y, y < H → pc W H f x y = pc W H f (x + a) (y + b)
instance (W H : Nat) (f : Nat → Bool) (a b : Nat) : Decidable (rep W H f a b) := by unfold rep; infer_instance
set_option maxHeartbeats 1600000 in
theorem ris6_core (W H : Nat) (A : Option Addr) (c : Nat) (f : Nat → Bool) (dx dy : Int) (a b : Nat) (w : World) (hr : Holds w w.heap.size A (W * H) f) (hW0 : 1 ≤ W) (hW : W ≤ 64) (hH0 : 1 ≤ H) (hH : H ≤ 64)
    (hx0 : -9223372036854775808 ≤ dx) (hx1 : dx ≤ 9223372036854775807) (hy0 : -9223372036854775808 ≤ dy) (hy1 : dy ≤ 9223372036854775807) (ha : dx % (W : Int) = (a : Int)) (hb : dy % (H : Int) = (b : Int)) :
    Calls Try.prog 84 #[.agg #[.int .i64 (W : Nat), .int .i64 (H : Nat), .slice A (W * H) c], .int .i64 dx, .int .i64 dy] w fun e w' => e = .returned (.bool (decide (rep W H f a b))) ∧ Below w.heap.size w w' := by
  have a1 := Int.emod_lt_of_pos dx (show 0 < (W : Int) by omega)
  have b1 := Int.emod_lt_of_pos dy (show 0 < (H : Int) by omega)
  have M1 := fun u => mod_any dx W u (by omega) (by omega) hx0 hx1
  have M2 := fun u => mod_any dy H u (by omega) (by omega) hy0 hy1
  rw [ha] at a1 M1
  rw [hb] at b1 M2
  have M1 := Lib.hid M1
  have M2 := Lib.hid M2
  have HR := Lib.hid hr
  clear hr ha hb
  have HB := Box.new w (W : Nat) (H : Nat) (.slice A (W * H) c)
  have hB := (Below.refl w.heap.size w).alloc (Nat.le_refl _) (.cells #[.int .i64 (W : Nat), .int .i64 (H : Nat), .slice A (W * H) c] 24)
  go_enter Try.func84, Try.ntmps84
  go_wp2_with fail
  generalize w.alloc (.cells #[.int .i64 (W : Nat), .int .i64 (H : Nat), .slice A (W * H) c] 24) = w0 at *
  obtain ⟨q0, q1, q2, q3, q4, q5⟩ := HB.all
  go_quiet ((first | (go_at_call_of 41 (Value.int IntKind.i64 dx); with_reducible exact Calls.quiet_of_same (M1.out _)) | (go_at_call_of 41 (Value.int IntKind.i64 dy); with_reducible exact Calls.quiet_of_same (M2.out _))))
  generalize hw1 : World.drewN w0 _ = w1
  have HB1 : Box w1 w.heap.size (W : Nat) (H : Nat) (.slice A (W * H) c) := by rw [← hw1]; exact HB
  have hB1 : Below w.heap.size w w1 := by rw [← hw1]; exact Go.Proofs.below_drewN' hB _
  clear hw1 HB hB q0 q1 q2 q3 q4 q5
  go_wp2
  go_loopw [7] (fun i wr => ∃ x : Nat, x ≤ W ∧ i = .int .i64 x ∧ Hid (∀ x', x' < x → ∀ y, y < H → pc W H f x' y = pc W H f (x' + a) (y + b)) ∧ Hid (Box wr w.heap.size (W : Nat) (H : Nat) (.slice A (W * H) c)) ∧ Hid (Below w.heap.size w wr)) (fun i _ => W - (intOf i).toNat)
  case atStart => exact ⟨0, Nat.zero_le _, rfl, fun x hx => absurd hx (by omega), HB1, hB1⟩
  case round =>
    obtain ⟨x, hx, rfl, hall, HB, hB⟩ := hrel
    obtain ⟨q0, q1, q2, q3, q4, q5⟩ := HB.out.all
    by_cases hlx : x < W
    · go_wp2
      clear q0 q1 q2 q3 q4 q5
      go_loopw [8] (fun i wr => ∃ y : Nat, y ≤ H ∧ i = .int .i64 y ∧ Hid (∀ y', y' < y → pc W H f x y' = pc W H f (x + a) (y' + b)) ∧ Hid (Box wr w.heap.size (W : Nat) (H : Nat) (.slice A (W * H) c)) ∧ Hid (Below w.heap.size w wr)) (fun i _ => H - (intOf i).toNat)
      case atStart => exact ⟨0, Nat.zero_le _, rfl, fun y hy => absurd hy (by omega), HB, hB⟩
      case round =>
        obtain ⟨y, hy, rfl, hal2, HB, hB⟩ := hrel
        obtain ⟨q0, q1, q2, q3, q4, q5⟩ := HB.out.all
        by_cases hly : y < H
        · have HK := Lib.hid (fun u (h : Below wr.heap.size wr u) => (show u.cell? ⟨w.heap.size, 0, none⟩ = some (.int .i64 (W : Nat)) ∧ u.cell? ⟨w.heap.size, 1, none⟩ = some (.int .i64 (H : Nat)) ∧ u.cell? ⟨w.heap.size, 2, none⟩ = some (.slice A (W * H) c) from ⟨(HB.out.below h HB.out.lt).c0, (HB.out.below h HB.out.lt).c1, (HB.out.below h HB.out.lt).c2⟩))
          have hH2 := fun u (h : Below wr.heap.size wr u) => (HR.out.below (hB.out.trans (h.mono hB.out.size))).more (Nat.le_trans hB.out.size h.size)
          have P1 := fun u (h : Below wr.heap.size wr u) => at6_nat W H A c f x y u (hH2 u h) hW0 hW hH0 hH (by omega) (by omega)
          have P2 := fun u (h : Below wr.heap.size wr u) => at6_nat W H A c f (x + a) (y + b) u (hH2 u h) hW0 hW hH0 hH (by omega) (by omega)
          have e0 : IntKind.i64.wrap ((x : Int) + (a : Int)) = (x : Int) + (a : Int) := IntWalk.i64_in _ (by omega)
          have e1 : IntKind.i64.wrap ((y : Int) + (b : Int)) = (y : Int) + (b : Int) := IntWalk.i64_in _ (by omega)
          rw [Int.natCast_add, Int.natCast_add] at P2
          obtain ⟨u, hu⟩ : ∃ u, pc W H f x y = u := ⟨_, rfl⟩
          obtain ⟨v, hv⟩ : ∃ v, pc W H f (x + a) (y + b) = v := ⟨_, rfl⟩
          rw [hu] at P1
          rw [hv] at P2
          have P1 := Lib.hid P1
          have P2 := Lib.hid P2
          have HU := Lib.hid hu
          have HV := Lib.hid hv
          clear hu hv hH2
          by_cases e : u = v
          · have E : pc W H f x y = pc W H f (x + a) (y + b) := by rw [HU.out, HV.out, e]
            have E := Lib.hid E
            subst e
            clear HU HV
            cases u
            all_goals
              go_wp2
              go_region_held3 (fun w' => w'.cell? ⟨w.heap.size, 0, none⟩ = some (.int .i64 (W : Nat)) ∧ w'.cell? ⟨w.heap.size, 1, none⟩ = some (.int .i64 (H : Nat)) ∧ w'.cell? ⟨w.heap.size, 2, none⟩ = some (.slice A (W * H) c))
              (first
                | exact HK.out _ hb2'
                | exact HK.out _ hb1'
                | exact HK.out _ (Below.refl _ _).drew)
              (first
                | (go_at_call 42
                   with_reducible refine (P1.out _ (Below.refl _ _).drew).mono ?_
                   rintro e w2 ⟨rfl, hb1⟩
                   have hb1' : Below wr.heap.size wr w2 := (Below.refl _ _).drew.trans hb1)
                | (go_at_call 42
                   with_reducible refine (P2.out _ hb1').mono ?_
                   rintro e w3 ⟨rfl, hb2⟩
                   have hb2' : Below wr.heap.size wr w3 := hb1'.trans (hb2.mono hb1'.size)))
              clear e0 e1
              go_wp2
              refine ⟨⟨y + 1, by omega, by go_num, fun y' hy' => ?_, HB.out.below hb2' HB.out.lt, hB.out.trans (hb2'.mono hB.out.size)⟩, by simp [intOf]; omega⟩
              rcases Nat.lt_succ_iff_lt_or_eq.1 hy' with h | rfl
              · exact hal2.out y' h
              · exact E.out
          · have E : ¬ pc W H f x y = pc W H f (x + a) (y + b) := by rw [HU.out, HV.out]; exact e
            have E := Lib.hid E
            clear HU HV
            cases u <;> cases v <;> first | exact absurd rfl e | skip
            all_goals
              clear e
              go_wp2
              go_region_held3 (fun w' => w'.cell? ⟨w.heap.size, 0, none⟩ = some (.int .i64 (W : Nat)) ∧ w'.cell? ⟨w.heap.size, 1, none⟩ = some (.int .i64 (H : Nat)) ∧ w'.cell? ⟨w.heap.size, 2, none⟩ = some (.slice A (W * H) c))
              (first
                | exact HK.out _ hb2'
                | exact HK.out _ hb1'
                | exact HK.out _ (Below.refl _ _).drew)
              (first
                | (go_at_call 42
                   with_reducible refine (P1.out _ (Below.refl _ _).drew).mono ?_
                   rintro e w2 ⟨rfl, hb1⟩
                   have hb1' : Below wr.heap.size wr w2 := (Below.refl _ _).drew.trans hb1)
                | (go_at_call 42
                   with_reducible refine (P2.out _ hb1').mono ?_
                   rintro e w3 ⟨rfl, hb2⟩
                   have hb2' : Below wr.heap.size wr w3 := hb1'.trans (hb2.mono hb1'.size)))
              clear e0 e1
              go_wp2
              go_ret
              exact ⟨ret_bool (by symm; rw [decide_eq_false_iff_not]; exact fun h => E.out (h x hlx y hly)), hB.out.trans (hb2'.mono hB.out.size)⟩
        · have e : y = H := by omega
          subst e
          go_wp2
          refine ⟨⟨x + 1, by omega, by go_num, fun x' hx' => ?_, HB, hB⟩, by simp [intOf]; omega⟩
          rcases Nat.lt_succ_iff_lt_or_eq.1 hx' with h | rfl
          · exact hall.out x' h
          · exact hal2.out
    · have e : x = W := by omega
      subst e
      go_wp2
      go_ret
      exact ⟨ret_bool (by symm; rw [decide_eq_true_iff]; exact hall.out), hB.out⟩
end Go.Proofs.Ytmakjdfkldacaaa

/- Is by the reference; Great. -/
namespace Go.Proofs.Ytmakjdfkldacaaa
open Go.RowKit
set_option maxRecDepth 100000
set_option linter.unusedVariables false
set_option linter.unusedSimpArgs false

end Go.Proofs.Ytmakjdfkldacaaa

/- The lattice of a grid by the reference. -/
namespace Go.Proofs.Ytmakjdfkldacaaa
open Go.RowKit
set_option maxRecDepth 100000
set_option linter.unusedVariables false
set_option linter.unusedSimpArgs false

theorem pc_mod (W H : Nat) (f : Nat → Bool) (x y a b : Nat) : pc W H f (x + a % W) (y + b % H) = pc W H f (x + a) (y + b) := by
  unfold pc
  rw [Nat.add_mod_mod, Nat.add_mod_mod]
theorem rep_mod (W H : Nat) (f : Nat → Bool) (a b : Nat) : rep W H f (a % W) (b % H) ↔ rep W H f a b := by
  unfold rep
  constructor
  · intro h x hx y hy; rw [← pc_mod]; exact h x hx y hy
  · intro h x hx y hy; rw [pc_mod]; exact h x hx y hy
theorem rep_side (W H : Nat) (f : Nat → Bool) : rep W H f W 0 := fun x _ y _ => by rw [← pc_mod]; simp
theorem rep_foot (W H : Nat) (f : Nat → Bool) : rep W H f 0 H := fun x _ y _ => by rw [← pc_mod]; simp
/-- (A, B, C) is the lattice. -/
structure IsL (W H : Nat) (f : Nat → Bool) (A B C : Nat) : Prop where
  a0 : 1 ≤ A
  aw : A ≤ W
  ra : rep W H f A 0
  la : ∀ a, 1 ≤ a → a < A → ¬ rep W H f a 0
  c0 : 1 ≤ C
  ch : C ≤ H
  ba : B < A
  rc : rep W H f B C
  lb : ∀ b, b < B → ¬ rep W H f b C
  lc : ∀ c, 1 ≤ c → c < C → ∀ b, b < A → ¬ rep W H f b c
theorem IsL.one {W H : Nat} {f : Nat → Bool} {A B C A' B' C' : Nat} (h : IsL W H f A B C) (k : IsL W H f A' B' C') : A = A' ∧ B = B' ∧ C = C' := by
  have eA : A = A' := by
    rcases Nat.lt_trichotomy A A' with e | e | e
    · exact absurd h.ra (k.la A h.a0 e)
    · exact e
    · exact absurd k.ra (h.la A' k.a0 e)
  subst eA
  have eC : C = C' := by
    rcases Nat.lt_trichotomy C C' with e | e | e
    · exact absurd h.rc (k.lc C h.c0 e B h.ba)
    · exact e
    · exact absurd k.rc (h.lc C' k.c0 e B' k.ba)
  subst eC
  have eB : B = B' := by
    rcases Nat.lt_trichotomy B B' with e | e | e
    · exact absurd h.rc (k.lb B e)
    · exact e
    · exact absurd k.rc (h.lb B' e)
  exact ⟨rfl, eB, rfl⟩
/-- What lies while the lattice is sought: the heap's size was s at the call. -/
structure LS (w u : World) (W H : Nat) (A : Option Addr) (c : Nat) (a : Nat) : Prop where
  box : Box u w.heap.size (W : Nat) (H : Nat) (.slice A (W * H) c)
  res : Tri u (w.heap.size + 1) 0 0 0
  tri : Tri u (w.heap.size + 2) (a : Nat) 0 0
  bel : Below w.heap.size w u
theorem LS.step {w u u' : World} {W H c a : Nat} {A : Option Addr} (h : LS w u W H A c a) (hb : Below u.heap.size u u') : LS w u' W H A c a :=
  ⟨h.box.below hb h.box.lt, h.res.below hb h.res.lt, h.tri.below hb h.tri.lt, h.bel.trans (hb.mono h.bel.size)⟩
theorem LS.set {w u : World} {W H c a : Nat} {A : Option Addr} (h : LS w u W H A c a) (a' : Nat) : LS w (u.setCell ⟨w.heap.size + 2, 0, none⟩ (.int .i64 (a' : Nat))) W H A c a' := by
  refine ⟨h.box.far (by simp) _, (Below.heap_setCell u ⟨w.heap.size + 2, 0, none⟩ _ (w.heap.size + 1) (by simp)).trans h.res, ?_, h.bel.setCell (by simp) _⟩
  have ht := h.tri
  obtain ⟨hlt, hk⟩ := Array.getElem?_eq_some_iff.1 ht
  show (u.heap.modify (w.heap.size + 2) _)[w.heap.size + 2]? = _
  rw [Array.getElem?_eq_getElem (by rw [Array.size_modify]; exact hlt), Array.getElem_modify_self, hk]
  rfl
/-- The contract of the test while the lattice is sought. -/
theorem ls_is {w u : World} {W H c k : Nat} {A : Option Addr} {f : Nat → Bool} (h : LS w u W H A c k) (hr : Holds w w.heap.size A (W * H) f) (hW0 : 1 ≤ W) (hW : W ≤ 64) (hH0 : 1 ≤ H) (hH : H ≤ 64) (a b : Nat) (ha : a ≤ 64) (hb : b ≤ 64) :
    Calls Try.prog 84 #[.agg #[.int .i64 (W : Nat), .int .i64 (H : Nat), .slice A (W * H) c], .int .i64 (a : Nat), .int .i64 (b : Nat)] u fun e w' => e = .returned (.bool (decide (rep W H f a b))) ∧ LS w w' W H A c k := by
  have hd : decide (rep W H f (a % W) (b % H)) = decide (rep W H f a b) := by
    by_cases e : rep W H f a b
    · rw [decide_eq_true e, decide_eq_true ((rep_mod W H f a b).2 e)]
    · rw [decide_eq_false e, decide_eq_false (fun h => e ((rep_mod W H f a b).1 h))]
  have hc := ris6_core W H A c f a b (a % W) (b % H) u ((hr.below h.bel).more h.bel.size) hW0 hW hH0 hH (by omega) (by omega) (by omega) (by omega) (by simp) (by simp)
  rw [hd] at hc
  exact hc.mono fun e w' ⟨h1, h2⟩ => ⟨h1, h.step h2⟩
/-- The number in the first cell of a block. -/
def fst0 (w : World) (p : Nat) : Nat := match w.cell? ⟨p, 0, none⟩ with | some (.int _ v) => v.toNat | _ => 0
theorem fst0_tri {w : World} {p : Nat} {a : Nat} {b c : Int} (h : Tri w p (a : Nat) b c) : fst0 w p = a := by
  unfold fst0
  rw [h.all.1]
  simp
set_option maxHeartbeats 800000 in
theorem lattice_any (W H : Nat) (A : Option Addr) (c : Nat) (f : Nat → Bool) (w : World) (hr : Holds w w.heap.size A (W * H) f) (hW0 : 1 ≤ W) (hW : W ≤ 64) (hH0 : 1 ≤ H) (hH : H ≤ 64) :
    Calls Try.prog 78 #[.agg #[.int .i64 (W : Nat), .int .i64 (H : Nat), .slice A (W * H) c]] w fun e w' => ∃ a b d, e = .returned (.agg #[.int .i64 (a : Nat), .int .i64 (b : Nat), .int .i64 (d : Nat)]) ∧ IsL W H f a b d ∧ Below w.heap.size w w' := by
  have HI := Lib.hid (fun u k (h : LS w u W H A c k) a b ha hb => ls_is h hr hW0 hW hH0 hH a b ha hb)
  have hL : ∀ u, u = ((w.alloc (.cells #[.int .i64 (W : Nat), .int .i64 (H : Nat), .slice A (W * H) c] 24)).alloc (.cells #[.int .i64 0, .int .i64 0, .int .i64 0] 68)).alloc (.cells #[.int .i64 1, .int .i64 0, .int .i64 0] 68) → LS w u W H A c 1 := by
    rintro _ rfl
    have e1 := Box.new w (W : Nat) (H : Nat) (.slice A (W * H) c)
    have e2 := Tri.new (w.alloc (.cells #[.int .i64 (W : Nat), .int .i64 (H : Nat), .slice A (W * H) c] 24)) 0 0 0
    have e3 := Tri.new ((w.alloc (.cells #[.int .i64 (W : Nat), .int .i64 (H : Nat), .slice A (W * H) c] 24)).alloc (.cells #[.int .i64 0, .int .i64 0, .int .i64 0] 68)) 1 0 0
    rw [World.size_alloc] at e2 e3
    rw [World.size_alloc] at e3
    exact ⟨(e1.alloc _).alloc _, (Below.heap_alloc _ _ _ e2.lt).trans e2, e3, (((Below.refl _ w).alloc (Nat.le_refl _) _).alloc (by simp) _).alloc (by simp; omega) _⟩
  clear hr
  go_enter Try.func78, Try.ntmps78
  go_wp2_with fail
  have h0 := hL _ rfl
  generalize World.alloc _ (Obj.cells #[Value.int IntKind.i64 1, Value.int IntKind.i64 0, Value.int IntKind.i64 0] 68) = u0 at h0 ⊢
  clear hL
  go_loopw [7] (fun _ wr => ∃ a : Nat, 1 ≤ a ∧ a ≤ W ∧ Hid (∀ a', 1 ≤ a' → a' < a → ¬ rep W H f a' 0) ∧ Hid (LS w wr W H A c a)) (fun _ wr => W - fst0 wr (w.heap.size + 2))
  case atStart => exact ⟨1, Nat.le_refl _, hW0, fun a' h1 h2 => absurd h2 (by omega), h0⟩
  case round =>
    obtain ⟨a, ha0, haW, hla, hLS⟩ := hrel
    clear h0
    obtain ⟨q0, q1, q2, q3, q4, q5⟩ := hLS.out.box.all
    obtain ⟨t0, t1, t2, t3, t4, t5⟩ := hLS.out.tri.all
    have H1 := HI.out wr a hLS.out a 0 (by omega) (by omega)
    rw [show ((0 : Nat) : Int) = 0 from rfl] at H1
    have hM := Lib.hid (fst0_tri hLS.out.tri)
    by_cases e : rep W H f a 0
    · have E0 := Lib.hid e
      rw [decide_eq_true e] at H1
      have H1 := Lib.hid H1
      clear e
      go_wp2_with (go_at_call 84; with_reducible refine H1.out.mono ?_; rintro e w3 ⟨rfl, h3⟩)
      have H3 := Lib.hid h3
      clear h3 q0 q1 q2 q3 q4 q5 t0 t1 t2 t3 t4 t5
      go_loopw [4] (fun i wr => ∃ d : Nat, 1 ≤ d ∧ d ≤ H ∧ i = .int .i64 d ∧ Hid (∀ d', 1 ≤ d' → d' < d → ∀ b, b < a → ¬ rep W H f b d') ∧ Hid (LS w wr W H A c a)) (fun i _ => H + 1 - (intOf i).toNat)
      case atStart => exact ⟨1, Nat.le_refl _, hH0, rfl, fun d' h1 h2 => absurd h2 (by omega), H3⟩
      case round =>
        obtain ⟨d, hd0, hdH, rfl, hlc, hLS⟩ := hrel
        go_wp2_with fail
        go_loopw [5] (fun i wr => ∃ b : Nat, b ≤ a ∧ i = .int .i64 b ∧ Hid (∀ b', b' < b → ¬ rep W H f b' d) ∧ Hid (LS w wr W H A c a)) (fun i _ => a + 1 - (intOf i).toNat)
        case atStart => exact ⟨0, Nat.zero_le _, rfl, fun b' h => absurd h (by omega), hLS⟩
        case round =>
          obtain ⟨b, hba, rfl, hlb, hLS⟩ := hrel
          obtain ⟨q0, q1, q2, q3, q4, q5⟩ := hLS.out.box.all
          obtain ⟨t0, t1, t2, t3, t4, t5⟩ := hLS.out.tri.all
          by_cases hlt : b < a
          · have H1 := HI.out wr a hLS.out b d (by omega) (by omega)
            by_cases e : rep W H f b d
            · have E := Lib.hid e
              rw [decide_eq_true e] at H1
              have H1 := Lib.hid H1
              clear e
              go_wp2_with (go_at_call 84; with_reducible refine H1.out.mono ?_; rintro e w3 ⟨rfl, h3⟩; obtain ⟨t0, t1, t2, t3, t4, t5⟩ := h3.tri.all; obtain ⟨r0, r1, r2, r3, r4, r5⟩ := h3.res.all)
              refine bodyPost_ret (v := .agg #[.int .i64 (a : Nat), .int .i64 (b : Nat), .int .i64 (d : Nat)]) (by simp [results, Try.results78, go_sem, r0, r1, r2]) rfl ⟨a, b, d, rfl, ⟨ha0, haW, E0.out, hla.out, hd0, hdH, hlt, E.out, hlb.out, hlc.out⟩, ?_⟩
              have hb : ∀ k, w.heap.size ≤ w.heap.size + k := fun k => Nat.le_add_right _ _
              exact ((((h3.bel.setCell (hb 2) _).setCell (hb 2) _).setCell (hb 1) _).setCell (hb 1) _).setCell (hb 1) _
            · have E := Lib.hid e
              rw [decide_eq_false e] at H1
              have H1 := Lib.hid H1
              clear e
              go_wp2_with (go_at_call 84; with_reducible refine H1.out.mono ?_; rintro e w3 ⟨rfl, h3⟩)
              refine ⟨⟨b + 1, by omega, by go_num, fun b' h => ?_, h3⟩, by simp [intOf]; omega⟩
              rcases Nat.lt_succ_iff_lt_or_eq.1 h with h | rfl
              · exact hlb.out b' h
              · exact E.out
          · have e : b = a := by omega
            subst e
            have hne : ¬ d = H := fun h => by subst h; exact hlb.out 0 ha0 (rep_foot _ _ _)
            go_wp2
            refine ⟨⟨d + 1, by omega, by omega, by go_num, fun d' h1 h2 => ?_, hLS⟩, by simp [intOf]; omega⟩
            rcases Nat.lt_succ_iff_lt_or_eq.1 h2 with h | rfl
            · exact hlc.out d' h1 h
            · exact hlb.out
    · have E := Lib.hid e
      have hne : ¬ a = W := fun h => by subst h; exact e (rep_side _ _ _)
      rw [decide_eq_false e] at H1
      have H1 := Lib.hid H1
      clear e
      go_wp2_with (go_at_call 84; with_reducible refine H1.out.mono ?_; rintro e w3 ⟨rfl, h3⟩; obtain ⟨t0, t1, t2, t3, t4, t5⟩ := h3.tri.all)
      refine ⟨⟨a + 1, by omega, by omega, fun a' h1 h2 => ?_, by have := h3.set (a + 1); rw [Int.natCast_add] at this; exact this⟩, ?_⟩
      · rcases Nat.lt_succ_iff_lt_or_eq.1 h2 with h | rfl
        · exact hla.out a' h1 h
        · exact E.out
      · have hf : fst0 (w3.setCell ⟨w.heap.size + 1 + 1, 0, none⟩ (.int .i64 ((a : Int) + 1))) (w.heap.size + 2) = a + 1 := fst0_tri (h3.set (a + 1)).tri
        rw [hM.out, hf]
        omega
end Go.Proofs.Ytmakjdfkldacaaa

/- Of by the reference. -/
namespace Go.Proofs.Ytmakjdfkldacaaa
open Go.RowKit
set_option maxRecDepth 100000
set_option linter.unusedVariables false
set_option linter.unusedSimpArgs false

/-- What lies in Of: the grid's box, the result's cell. -/
def OS (w u : World) (W H : Int) (s : Value) : Prop := Box u w.heap.size W H s ∧ Tri u (w.heap.size + 1) 0 0 0 ∧ Below w.heap.size w u
theorem OS.new (w : World) (W H : Int) (s : Value) : OS w ((w.alloc (.cells #[.int .i64 W, .int .i64 H, s] 24)).alloc (.cells #[.int .i64 0, .int .i64 0, .int .i64 0] 68)) W H s := by
  have e1 := Box.new w W H s
  have e2 := Tri.new (w.alloc (.cells #[.int .i64 W, .int .i64 H, s] 24)) 0 0 0
  rw [World.size_alloc] at e2
  exact ⟨e1.alloc _, e2, ((Below.refl _ w).alloc (Nat.le_refl _) _).alloc (by simp) _⟩
theorem OS.step {w u u' : World} {W H : Int} {s : Value} (h : OS w u W H s) (hb : Below u.heap.size u u') : OS w u' W H s := ⟨h.1.below hb h.1.lt, h.2.1.below hb h.2.1.lt, h.2.2.trans (hb.mono h.2.2.size)⟩
theorem os_fin {w u : World} {W H : Int} {s : Value} (h : OS w u W H s) (a b c : Value) : Below w.heap.size w (((u.setCell ⟨w.heap.size + 1, 0, none⟩ a).setCell ⟨w.heap.size + 1, 1, none⟩ b).setCell ⟨w.heap.size + 1, 2, none⟩ c) :=
  (((h.2.2.setCell (Nat.le_succ _) _).setCell (Nat.le_succ _) _).setCell (Nat.le_succ _) _)
set_option maxHeartbeats 400000 in
theorem rof_err (W H : Int) (A : Option Addr) (n c : Nat) (w : World) (hn : n ≤ 4200) (z : Int) (hx : chk W H n = z) (hne : (z != 0) = true) :
    Calls Try.prog 63 #[.agg #[.int .i64 W, .int .i64 H, .slice A n c]] w fun e w' => e = .returned (.tuple #[.agg #[.int .i64 0, .int .i64 0, .int .i64 0], .int .i64 z]) ∧ Below w.heap.size w w' := by
  have H1 := Lib.hid (show ∀ u, OS w u W H (.slice A n c) → Calls Try.prog 31 #[.agg #[.int .i64 W, .int .i64 H, .slice A n c]] u fun e w' => e = .returned (.int .i64 z) ∧ OS w w' W H (.slice A n c) from fun u hu => by
    have h := rchk_any W H A n c u hn
    rw [hx] at h
    exact h.mono fun e w' ⟨h1, h2⟩ => ⟨h1, hu.step h2⟩)
  have h0 := OS.new w W H (.slice A n c)
  clear hx
  go_enter Try.func63, Try.ntmps63
  go_wp2_with (go_at_call 31; refine (H1.out _ h0).mono ?_; rintro e w2 ⟨rfl, h0⟩; obtain ⟨q0, q1, q2, -⟩ := h0.1.all; obtain ⟨r0, r1, r2, r3, r4, r5⟩ := h0.2.1.all)
  refine bodyPost_ret (v := .tuple #[.agg #[.int .i64 0, .int .i64 0, .int .i64 0], .int .i64 z]) (by simp [results, Try.results63, go_sem, r0, r1, r2]) rfl ⟨rfl, os_fin h0 _ _ _⟩
set_option maxHeartbeats 400000 in
theorem rof_ok (W H : Nat) (A : Option Addr) (c : Nat) (f : Nat → Bool) (w : World) (hr : Holds w w.heap.size A (W * H) f) (hW0 : 1 ≤ W) (hW : W ≤ 64) (hH0 : 1 ≤ H) (hH : H ≤ 64) :
    Calls Try.prog 63 #[.agg #[.int .i64 (W : Nat), .int .i64 (H : Nat), .slice A (W * H) c]] w fun e w' => ∃ a b d, e = .returned (.tuple #[.agg #[.int .i64 (a : Nat), .int .i64 (b : Nat), .int .i64 (d : Nat)], .int .i64 0]) ∧ IsL W H f a b d ∧ Below w.heap.size w w' := by
  have hWH : W * H ≤ 4096 := Nat.mul_le_mul hW hH
  have H1 := Lib.hid (show ∀ u, OS w u (W : Nat) (H : Nat) (.slice A (W * H) c) → Calls Try.prog 31 #[.agg #[.int .i64 (W : Nat), .int .i64 (H : Nat), .slice A (W * H) c]] u fun e w' => e = .returned (.int .i64 0) ∧ OS w w' (W : Nat) (H : Nat) (.slice A (W * H) c) from fun u hu => by
    have h := rchk_any W H A (W * H) c u (by omega)
    rw [chk_zero hW0 hW hH0 hH] at h
    exact h.mono fun e w' ⟨h1, h2⟩ => ⟨h1, hu.step h2⟩)
  have H2 := Lib.hid (show ∀ u, OS w u (W : Nat) (H : Nat) (.slice A (W * H) c) → Calls Try.prog 78 #[.agg #[.int .i64 (W : Nat), .int .i64 (H : Nat), .slice A (W * H) c]] u fun e w' => ∃ a b d, e = .returned (.agg #[.int .i64 (a : Nat), .int .i64 (b : Nat), .int .i64 (d : Nat)]) ∧ Hid (IsL W H f a b d) ∧ OS w w' (W : Nat) (H : Nat) (.slice A (W * H) c) from fun u hu =>
    (lattice_any W H A c f u ((hr.below hu.2.2).more hu.2.2.size) hW0 hW hH0 hH).mono fun e w' ⟨a, b, d, h1, h2, h3⟩ => ⟨a, b, d, h1, h2, hu.step h3⟩)
  have h0 := OS.new w (W : Nat) (H : Nat) (.slice A (W * H) c)
  clear hr
  go_enter Try.func63, Try.ntmps63
  go_wp2_with (first
    | (go_at_call 31; refine (H1.out _ h0).mono ?_; rintro e w2 ⟨rfl, h0⟩; obtain ⟨q0, q1, q2, -⟩ := h0.1.all)
    | (go_at_call 78; refine (H2.out _ h0).mono ?_; rintro e w3 ⟨a, b, d, rfl, hl, h0⟩; obtain ⟨r0, r1, r2, r3, r4, r5⟩ := h0.2.1.all))
  refine bodyPost_ret (v := .tuple #[.agg #[.int .i64 (a : Nat), .int .i64 (b : Nat), .int .i64 (d : Nat)], .int .i64 0]) (by simp [results, Try.results63, go_sem, r0, r1, r2]) rfl ⟨a, b, d, rfl, hl.out, os_fin h0 _ _ _⟩
end Go.Proofs.Ytmakjdfkldacaaa
