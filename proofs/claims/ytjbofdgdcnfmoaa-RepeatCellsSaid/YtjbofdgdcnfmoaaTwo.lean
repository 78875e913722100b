/- Of, Is and In of both sides give the same. -/
import Derived.Test.YtjbofdgdcnfmoaaPof
import Derived.Test.YtjbofdgdcnfmoaaMla
namespace Go.Proofs.Ytjbofdgdcnfmoaa
open Go.RowKit
set_option maxRecDepth 100000
set_option linter.unusedVariables false
set_option linter.unusedSimpArgs false

theorem least_ex {p : Nat → Prop} (n : Nat) (h : p n) : ∃ m, m ≤ n ∧ p m ∧ ∀ k, k < m → ¬ p k := by
  induction n using Nat.strongRecOn with
  | _ n ih =>
    by_cases e : ∃ k, k < n ∧ p k
    · obtain ⟨k, hk, hp⟩ := e
      obtain ⟨m, h1, h2, h3⟩ := ih k hk hp
      exact ⟨m, by omega, h2, h3⟩
    · exact ⟨n, Nat.le_refl _, h, fun k hk hp => e ⟨k, hk, hp⟩⟩
/-- Each plane has its lattice. -/
theorem IsL.ex (W H : Nat) (f : Nat → Bool) (hW0 : 1 ≤ W) (hH0 : 1 ≤ H) : ∃ A B C, IsL W H f A B C := by
  obtain ⟨A, a1, ⟨a2, a3⟩, a4⟩ := least_ex (p := fun a => 1 ≤ a ∧ rep W H f a 0) W ⟨hW0, rep_side W H f⟩
  obtain ⟨C, c1, ⟨c2, b, c3, c4⟩, c5⟩ := least_ex (p := fun c => 1 ≤ c ∧ ∃ b, b < A ∧ rep W H f b c) H ⟨hH0, 0, a2, rep_foot W H f⟩
  obtain ⟨B, b1, b2, b3⟩ := least_ex (p := fun b => rep W H f b C) b c4
  exact ⟨A, B, C, a2, a1, a3, fun a h1 h2 h3 => a4 a h2 ⟨h1, h3⟩, c2, c1, by omega, b2, b3, fun c h1 h2 b h3 h4 => c5 c h2 ⟨h1, b, h3, h4⟩⟩
theorem Holds.some_ {w : World} {B : Nat} {A : Option Addr} {n : Nat} {f : Nat → Bool} (h : Holds w B A n f) (h0 : 0 < n) : ∃ b o, A = some ⟨b, o, none⟩ ∧ b < B ∧ ∀ i, i < n → w.cell? ⟨b, o + i, none⟩ = some (.bool (f i)) := h h0
theorem mul_ge {W H : Nat} (hW0 : 1 ≤ W) (hH0 : 1 ≤ H) : 0 < W * H := Nat.mul_pos hW0 hH0
/-- Of by the program, where the lattice is known. -/
theorem pof_at {W H A B C : Nat} {f : Nat → Bool} (hL : IsL W H f A B C) (D : Option Addr) (c : Nat) (v : World) (hr : Holds v v.heap.size D (W * H) f) (hcp : W * H ≤ c) (hW : W ≤ 64) (hH0 : 1 ≤ H) (hH : H ≤ 64) :
    Calls Try.prog 19 #[.agg #[.int .i64 (W : Nat), .int .i64 (H : Nat), .slice D (W * H) c]] v fun e w' => e = .returned (.tuple #[.agg #[.int .i64 (A : Nat), .int .i64 (B : Nat), .int .i64 (C : Nat)], .int .i64 0]) ∧ Below v.heap.size v w' := by
  have hW0 := Nat.le_trans hL.a0 hL.aw
  obtain ⟨b, o, rfl, hb, hcs⟩ := hr.some_ (mul_ge hW0 hH0)
  refine (pof_ok W H b o c f v hb hcp hcs hW0 hW hH0 hH).mono ?_
  rintro e w' ⟨a', b', d', rfl, k, hb⟩
  obtain ⟨rfl, rfl, rfl⟩ := hL.one k
  exact ⟨rfl, hb⟩
theorem rof_at {W H A B C : Nat} {f : Nat → Bool} (hL : IsL W H f A B C) (D : Option Addr) (c : Nat) (v : World) (hr : Holds v v.heap.size D (W * H) f) (hW : W ≤ 64) (hH0 : 1 ≤ H) (hH : H ≤ 64) :
    Calls Try.prog 30 #[.agg #[.int .i64 (W : Nat), .int .i64 (H : Nat), .slice D (W * H) c]] v fun e w' => e = .returned (.tuple #[.agg #[.int .i64 (A : Nat), .int .i64 (B : Nat), .int .i64 (C : Nat)], .int .i64 0]) ∧ Below v.heap.size v w' := by
  have hW0 := Nat.le_trans hL.a0 hL.aw
  refine (rof_ok W H D c f v hr hW0 hW hH0 hH).mono ?_
  rintro e w' ⟨a', b', d', rfl, k, hb⟩
  obtain ⟨rfl, rfl, rfl⟩ := hL.one k
  exact ⟨rfl, hb⟩
theorem rlat_at {W H A B C : Nat} {f : Nat → Bool} (hL : IsL W H f A B C) (D : Option Addr) (c : Nat) (v : World) (hr : Holds v v.heap.size D (W * H) f) (hW : W ≤ 64) (hH0 : 1 ≤ H) (hH : H ≤ 64) :
    Calls Try.prog 77 #[.agg #[.int .i64 (W : Nat), .int .i64 (H : Nat), .slice D (W * H) c]] v fun e w' => e = .returned (.agg #[.int .i64 (A : Nat), .int .i64 (B : Nat), .int .i64 (C : Nat)]) ∧ Below v.heap.size v w' := by
  have hW0 := Nat.le_trans hL.a0 hL.aw
  refine (lattice_any W H D c f v hr hW0 hW hH0 hH).mono ?_
  rintro e w' ⟨a', b', d', rfl, k, hb⟩
  obtain ⟨rfl, rfl, rfl⟩ := hL.one k
  exact ⟨rfl, hb⟩
/-- The sides of a valid grid, as numbers that are not negative. -/
theorem chk_nat {W H : Int} {n : Nat} (h : chk W H n = 0) : ∃ W' H' : Nat, W = W' ∧ H = H' ∧ 1 ≤ W' ∧ W' ≤ 64 ∧ 1 ≤ H' ∧ H' ≤ 64 ∧ n = W' * H' := by
  obtain ⟨a, b, c, d, e⟩ := chk_ok h
  obtain ⟨W', rfl⟩ := Int.eq_ofNat_of_zero_le (show 0 ≤ W by omega)
  obtain ⟨H', rfl⟩ := Int.eq_ofNat_of_zero_le (show 0 ≤ H by omega)
  exact ⟨W', H', rfl, rfl, by omega, by omega, by omega, by omega, by rw [← Int.natCast_mul] at e; omega⟩
theorem of_two (W H : Int) (D : Option Addr) (n c : Nat) (f : Nat → Bool) (w : World) (hr : Holds w w.heap.size D n f) (hn : n ≤ 4200) (hc : n ≤ c) : ∃ a b d z : Int, ∀ v, Below w.heap.size w v →
    (Calls Try.prog 19 #[.agg #[.int .i64 W, .int .i64 H, .slice D n c]] v fun e w' => e = .returned (.tuple #[.agg #[.int .i64 a, .int .i64 b, .int .i64 d], .int .i64 z]) ∧ Below v.heap.size v w') ∧
    (Calls Try.prog 30 #[.agg #[.int .i64 W, .int .i64 H, .slice D n c]] v fun e w' => e = .returned (.tuple #[.agg #[.int .i64 a, .int .i64 b, .int .i64 d], .int .i64 z]) ∧ Below v.heap.size v w') := by
  by_cases hx : chk W H n = 0
  · obtain ⟨W', H', rfl, rfl, h1, h2, h3, h4, rfl⟩ := chk_nat hx
    obtain ⟨A, B, C, hL⟩ := IsL.ex W' H' f h1 h3
    exact ⟨A, B, C, 0, fun v hv => ⟨pof_at hL D c v ((hr.below hv).more hv.size) hc h2 h3 h4, rof_at hL D c v ((hr.below hv).more hv.size) h2 h3 h4⟩⟩
  · exact ⟨0, 0, 0, chk W H n, fun v hv => ⟨pof_err W H D n c v hn _ rfl (by simpa using hx), rof_err W H D n c v hn _ rfl (by simpa using hx)⟩⟩
theorem is_two (W H : Int) (D : Option Addr) (n c : Nat) (f : Nat → Bool) (dx dy : Int) (w : World) (hr : Holds w w.heap.size D n f) (hn : n ≤ 4200) (hc : n ≤ c) (hx0 : -9223372036854775808 ≤ dx) (hx1 : dx ≤ 9223372036854775807) (hy0 : -9223372036854775808 ≤ dy) (hy1 : dy ≤ 9223372036854775807) : ∃ (t : Bool) (z : Int), ∀ v, Below w.heap.size w v →
    (Calls Try.prog 23 #[.agg #[.int .i64 W, .int .i64 H, .slice D n c], .int .i64 dx, .int .i64 dy] v fun e w' => e = .returned (.tuple #[.bool t, .int .i64 z]) ∧ Below v.heap.size v w') ∧
    (Calls Try.prog 29 #[.agg #[.int .i64 W, .int .i64 H, .slice D n c], .int .i64 dx, .int .i64 dy] v fun e w' => e = .returned (.tuple #[.bool t, .int .i64 z]) ∧ Below v.heap.size v w') := by
  by_cases hx : chk W H n = 0
  · obtain ⟨W', H', rfl, rfl, h1, h2, h3, h4, rfl⟩ := chk_nat hx
    obtain ⟨p, hp⟩ := Int.eq_ofNat_of_zero_le (Int.emod_nonneg dx (show (W' : Int) ≠ 0 by omega))
    obtain ⟨q, hq⟩ := Int.eq_ofNat_of_zero_le (Int.emod_nonneg dy (show (H' : Int) ≠ 0 by omega))
    obtain ⟨b, o, rfl, hb, hcs⟩ := hr.some_ (mul_ge h1 h3)
    exact ⟨decide (rep W' H' f p q), 0, fun v hv => ⟨pis_ok W' H' b o c f dx dy p q v (Nat.lt_of_lt_of_le hb hv.size) hc (fun i hi => (hv.cell (p := ⟨b, o + i, none⟩) hb).trans (hcs i hi)) h1 h2 h3 h4 hx0 hx1 hy0 hy1 hp hq, ris_ok W' H' (some ⟨b, o, none⟩) c f dx dy p q v ((hr.below hv).more hv.size) h1 h2 h3 h4 hx0 hx1 hy0 hy1 hp hq⟩⟩
  · exact ⟨false, chk W H n, fun v hv => ⟨pis_err W H D n c dx dy v hn _ rfl (by simpa using hx), ris_err W H D n c dx dy v hn _ rfl (by simpa using hx)⟩⟩
theorem in_two (a b d dx dy : Int) (hx0 : -9223372036854775808 ≤ dx) (hx1 : dx ≤ 9223372036854775807) (hy0 : -9223372036854775808 ≤ dy) (hy1 : dy ≤ 9223372036854775807) : ∃ (t : Bool) (z : Int), ∀ v,
    (Calls Try.prog 22 #[.agg #[.int .i64 a, .int .i64 b, .int .i64 d], .int .i64 dx, .int .i64 dy] v fun e w' => e = .returned (.tuple #[.bool t, .int .i64 z]) ∧ Below v.heap.size v w') ∧
    (Calls Try.prog 31 #[.agg #[.int .i64 a, .int .i64 b, .int .i64 d], .int .i64 dx, .int .i64 dy] v fun e w' => e = .returned (.tuple #[.bool t, .int .i64 z]) ∧ Below v.heap.size v w') :=
  ⟨_, _, fun v => ⟨pin_any a b d dx dy v hx0 hx1 hy0 hy1, rin_any a b d dx dy v hx0 hx1 hy0 hy1⟩⟩
set_option maxHeartbeats 400000 in
theorem g6_any (W H : Int) (A : Option Addr) (n c : Nat) (w : World) : Calls Try.prog 28 #[.agg #[.int .i64 W, .int .i64 H, .slice A n c]] w fun e w' => e = .returned (.bool (decide (100 < n))) ∧ Below w.heap.size w w' := by
  by_cases h : 100 < n
  · have HD := Lib.hid (decide_eq_true h)
    have x1 : decide ((100 : Int) < (n : Int)) = true := by simp; omega
    go_enter Try.func28, Try.ntmps28
    go_wp2
    go_ret
    exact ⟨by rw [HD.out]; rfl, (Below.refl _ _).alloc (Nat.le_refl _) _⟩
  · have HD := Lib.hid (decide_eq_false h)
    have x1 : decide ((100 : Int) < (n : Int)) = false := by simp; omega
    go_enter Try.func28, Try.ntmps28
    go_wp2
    go_ret
    exact ⟨by rw [HD.out]; rfl, (Below.refl _ _).alloc (Nat.le_refl _) _⟩
end Go.Proofs.Ytjbofdgdcnfmoaa
