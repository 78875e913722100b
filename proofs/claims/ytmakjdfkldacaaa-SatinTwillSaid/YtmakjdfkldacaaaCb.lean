/- Merged: Gcd Rec Rmt Off Pmo. -/
import Derived.Test.YtmakjdfkldacaaaGa
import Derived.Test.YtmakjdfkldacaaaPb

/- The greatest common divisor by both sides. -/
namespace Go.Proofs.Ytmakjdfkldacaaa
open Go.RowKit
set_option maxRecDepth 100000
set_option linter.unusedVariables false
set_option linter.unusedSimpArgs false

set_option maxHeartbeats 400000 in
theorem pgcd_any (a b : Nat) (w : World) (ha : a ≤ 64) (hb : b ≤ 64) : Calls Try.prog 47 #[.int .i64 (a : Nat), .int .i64 (b : Nat)] w fun e w' => e = .returned (.int .i64 (Nat.gcd a b : Nat)) ∧ ∃ m, w' = w.drewN m := by
  go_enter Try.func47, Try.ntmps47
  go_wp2_with fail
  go_loopw [0, 1] (fun s t wr => ∃ x y : Nat, x ≤ 64 ∧ y ≤ 64 ∧ s = .int .i64 x ∧ t = .int .i64 y ∧ Hid (Nat.gcd x y = Nat.gcd a b) ∧ Hid (∃ m, wr = w.drewN m)) (fun _ t _ => (intOf t).toNat)
  case atStart => exact ⟨a, b, ha, hb, rfl, rfl, rfl, 0, rfl⟩
  case round =>
    obtain ⟨x, y, hx, hy, rfl, rfl, hg, hm⟩ := hrel
    by_cases h0 : y = 0
    · subst h0
      have e1 : Nat.gcd x 0 = x := Nat.gcd_zero_right x
      have HE := Lib.hid (show x = Nat.gcd a b from e1.symm.trans hg.out)
      clear e1 hg
      go_wp2
      go_ret
      exact ⟨by rw [HE.out]; rfl, hm.out⟩
    · have h1 : y ≠ 0 := h0
      have x1 : ((y : Int) != 0) = true := by simp; omega
      have e1 : (x : Int).tmod (y : Int) = ((x % y : Nat) : Int) := by rw [Int.tmod_eq_emod_of_nonneg (by omega)]; omega
      have e3 : x % y < y := Nat.mod_lt _ (by omega)
      have e2 : ¬ (y : Int) = 0 := by omega
      have HG := Lib.hid (show Nat.gcd y (x % y) = Nat.gcd a b by rw [← hg.out, Nat.gcd_comm x y, Nat.gcd_rec y x, Nat.gcd_comm])
      generalize x % y = r at *
      go_wp2
      go_quiet (fail)
      go_wp2
      obtain ⟨m, hm⟩ := hm.out
      exact ⟨⟨y, r, hy, by omega, rfl, rfl, HG, Lib.hid ⟨m + nq, by rw [hm]; show World.drewN (World.drewN w m) nq = _; unfold World.drewN; rw [← Nat.add_assoc]⟩⟩, by simp [intOf]; omega⟩
set_option maxHeartbeats 400000 in
theorem rgcd_any (a b : Nat) (w : World) (ha : a ≤ 64) (hb : b ≤ 64) : Calls Try.prog 62 #[.int .i64 (a : Nat), .int .i64 (b : Nat)] w fun e w' => e = .returned (.int .i64 (Nat.gcd a b : Nat)) ∧ ∃ m, w' = w.drewN m := by
  go_enter Try.func62, Try.ntmps62
  go_wp2_with fail
  go_loopw [0, 1] (fun s t wr => ∃ x y : Nat, x ≤ 64 ∧ y ≤ 64 ∧ s = .int .i64 x ∧ t = .int .i64 y ∧ Hid (Nat.gcd x y = Nat.gcd a b) ∧ Hid (∃ m, wr = w.drewN m)) (fun _ t _ => (intOf t).toNat)
  case atStart => exact ⟨a, b, ha, hb, rfl, rfl, rfl, 0, rfl⟩
  case round =>
    obtain ⟨x, y, hx, hy, rfl, rfl, hg, hm⟩ := hrel
    by_cases h0 : y = 0
    · subst h0
      have e1 : Nat.gcd x 0 = x := Nat.gcd_zero_right x
      have HE := Lib.hid (show x = Nat.gcd a b from e1.symm.trans hg.out)
      clear e1 hg
      go_wp2
      go_ret
      exact ⟨by rw [HE.out]; rfl, hm.out⟩
    · have h1 : y ≠ 0 := h0
      have x1 : decide ((y : Int) > 0) = true := by simp; omega
      have e1 : (x : Int).tmod (y : Int) = ((x % y : Nat) : Int) := by rw [Int.tmod_eq_emod_of_nonneg (by omega)]; omega
      have e3 : x % y < y := Nat.mod_lt _ (by omega)
      have e2 : ¬ (y : Int) = 0 := by omega
      have HG := Lib.hid (show Nat.gcd y (x % y) = Nat.gcd a b by rw [← hg.out, Nat.gcd_comm x y, Nat.gcd_rec y x, Nat.gcd_comm])
      generalize x % y = r at *
      go_wp2
      go_quiet (fail)
      go_wp2
      obtain ⟨m, hm⟩ := hm.out
      exact ⟨⟨y, r, hy, by omega, rfl, rfl, HG, Lib.hid ⟨m + nq, by rw [hm]; show World.drewN (World.drewN w m) nq = _; unfold World.drewN; rw [← Nat.add_assoc]⟩⟩, by simp [intOf]; omega⟩
theorem drewN_two (w : World) (m n : Nat) : (w.drewN m).drewN n = w.drewN (m + n) := by
  show World.drewN (World.drewN w m) n = _; unfold World.drewN; rw [← Nat.add_assoc]
theorem pgcd_q (a b : Nat) (w : World) (n : Nat) (ha : a ≤ 64) (hb : b ≤ 64) : Calls Try.prog 47 #[.int .i64 (a : Nat), .int .i64 (b : Nat)] (w.drewN n) fun e w' => e = .returned (.int .i64 (Nat.gcd a b : Nat)) ∧ ∃ m, w' = w.drewN m :=
  (pgcd_any a b _ ha hb).mono fun e w' ⟨h, m, k⟩ => ⟨h, n + m, by rw [k, drewN_two]⟩
theorem rgcd_q (a b : Nat) (w : World) (n : Nat) (ha : a ≤ 64) (hb : b ≤ 64) : Calls Try.prog 62 #[.int .i64 (a : Nat), .int .i64 (b : Nat)] (w.drewN n) fun e w' => e = .returned (.int .i64 (Nat.gcd a b : Nat)) ∧ ∃ m, w' = w.drewN m :=
  (rgcd_any a b _ ha hb).mono fun e w' ⟨h, m, k⟩ => ⟨h, n + m, by rw [k, drewN_two]⟩
end Go.Proofs.Ytmakjdfkldacaaa

/- Rect by both sides. -/
namespace Go.Proofs.Ytmakjdfkldacaaa
open Go.RowKit
set_option maxRecDepth 100000
set_option linter.unusedVariables false
set_option linter.unusedSimpArgs false

theorem ret3 {a b c a' b' c' : Int} (h : a = a') (k : b = b') (l : c = c') : Ending.returned (.tuple #[.int .i64 a, .int .i64 b, .int .i64 c]) = .returned (.tuple #[.int .i64 a', .int .i64 b', .int .i64 c']) := by rw [h, k, l]
/-- The rows of the least rectangle. -/
def rh (A B C : Nat) : Nat := C * A / Nat.gcd A B
end Go.Proofs.Ytmakjdfkldacaaa

/- The reference: does the plane, moved, meet another? -/
namespace Go.Proofs.Ytmakjdfkldacaaa
open Go.RowKit
set_option maxRecDepth 100000
set_option linter.unusedVariables false
set_option linter.unusedSimpArgs false

/-- .. at a place that is not negative, however far. -/
theorem at6_big (W H : Nat) (A : Option Addr) (c : Nat) (f : Nat → Bool) (x y : Nat) (w : World) (hr : Holds w w.heap.size A (W * H) f) (hW0 : 1 ≤ W) (hW : W ≤ 64) (hH0 : 1 ≤ H) (hH : H ≤ 64) (hx : x ≤ 100000) (hy : y ≤ 100000) :
    Calls Try.prog 42 #[.agg #[.int .i64 (W : Nat), .int .i64 (H : Nat), .slice A (W * H) c], .int .i64 (x : Nat), .int .i64 (y : Nat)] w fun e w' => e = .returned (.bool (pc W H f x y)) ∧ Below w.heap.size w w' := by
  have h := at6_any W H A c f x y w hr hW0 hW hH0 hH (by omega) (by omega) (by omega) (by omega)
  have e : ((y : Int) % (H : Int) * W + (x : Int) % (W : Int)).toNat = y % H * W + x % W := by
    rw [show ((y : Int) % (H : Int)) = ((y % H : Nat) : Int) by omega, show ((x : Int) % (W : Int)) = ((x % W : Nat) : Int) by omega, ← Int.natCast_mul]
    omega
  rw [e] at h
  exact h
/-- The cells of the first planes that are compared. -/
def meet (W H : Nat) (f : Nat → Bool) (X Y : Nat) (g : Nat → Bool) (a b : Nat) : Prop := ∀ x, x < Nat.lcm W X → ∀ y, y < Nat.lcm H Y → pc W H f x y = pc X Y g (x + a) (y + b)
theorem meet_iff {W H : Nat} {f : Nat → Bool} {X Y : Nat} {g : Nat → Bool} (hW0 : 1 ≤ W) (hH0 : 1 ≤ H) (hX0 : 1 ≤ X) (hY0 : 1 ≤ Y) (a b : Nat) : meet W H f X Y g a b ↔ Mt W H f X Y g a b := by
  have l1 : 0 < Nat.lcm W X := Nat.lcm_pos hW0 hX0
  have l2 : 0 < Nat.lcm H Y := Nat.lcm_pos hH0 hY0
  have d1 : (W : Int) ∣ ((Nat.lcm W X : Nat) : Int) := Int.natCast_dvd_natCast.2 (Nat.dvd_lcm_left _ _)
  have d2 : (X : Int) ∣ ((Nat.lcm W X : Nat) : Int) := Int.natCast_dvd_natCast.2 (Nat.dvd_lcm_right _ _)
  have d3 : (H : Int) ∣ ((Nat.lcm H Y : Nat) : Int) := Int.natCast_dvd_natCast.2 (Nat.dvd_lcm_left _ _)
  have d4 : (Y : Int) ∣ ((Nat.lcm H Y : Nat) : Int) := Int.natCast_dvd_natCast.2 (Nat.dvd_lcm_right _ _)
  constructor
  · intro h x y
    unfold meet at h
    generalize Nat.lcm W X = M at *
    generalize Nat.lcm H Y = N at *
    have hx0 := Int.emod_nonneg x (show (M : Int) ≠ 0 by omega)
    have hx1 := Int.emod_lt_of_pos x (show 0 < (M : Int) by omega)
    have hy0 := Int.emod_nonneg y (show (N : Int) ≠ 0 by omega)
    have hy1 := Int.emod_lt_of_pos y (show 0 < (N : Int) by omega)
    have e := h (x % (M : Int)).toNat (by omega) (y % (N : Int)).toNat (by omega)
    rw [← pz_nat, ← pz_nat, Int.natCast_add, Int.natCast_add, Int.toNat_of_nonneg hx0, Int.toNat_of_nonneg hy0] at e
    rw [pz_mod (x' := x % (M : Int)) (y' := y % (N : Int)) (Int.emod_emod_of_dvd _ d1).symm (Int.emod_emod_of_dvd _ d3).symm, e]
    exact pz_mod (by rw [Int.add_emod, Int.emod_emod_of_dvd _ d2, ← Int.add_emod]) (by rw [Int.add_emod, Int.emod_emod_of_dvd _ d4, ← Int.add_emod])
  · intro h x _ y _
    have e := h x y
    rw [← Int.natCast_add, ← Int.natCast_add, pz_nat, pz_nat] at e
    exact e
/-- What lies while two planes are compared. -/
structure M2 (w wr : World) (W H : Nat) (A : Option Addr) (c : Nat) (X Y : Nat) (D : Option Addr) (d : Nat) : Prop where
  g : Box wr w.heap.size (W : Nat) (H : Nat) (.slice A (W * H) c)
  k : Box wr (w.heap.size + 1) (X : Nat) (Y : Nat) (.slice D (X * Y) d)
  bel : Below w.heap.size w wr
theorem M2.next {w wr w' : World} {W H : Nat} {A : Option Addr} {c : Nat} {X Y : Nat} {D : Option Addr} {d : Nat} (h : M2 w wr W H A c X Y D d) (hb : Below wr.heap.size wr w') : M2 w w' W H A c X Y D d :=
  ⟨h.g.below hb h.g.lt, h.k.below hb h.k.lt, h.bel.trans (hb.mono h.bel.size)⟩
theorem M2.six {w wr : World} {W H : Nat} {A : Option Addr} {c : Nat} {X Y : Nat} {D : Option Addr} {d : Nat} (h : M2 w wr W H A c X Y D d) :
    wr.cell? ⟨w.heap.size, 0, none⟩ = some (.int .i64 (W : Nat)) ∧ wr.cell? ⟨w.heap.size, 1, none⟩ = some (.int .i64 (H : Nat)) ∧ wr.cell? ⟨w.heap.size, 2, none⟩ = some (.slice A (W * H) c) ∧
    wr.cell? ⟨w.heap.size + 1, 0, none⟩ = some (.int .i64 (X : Nat)) ∧ wr.cell? ⟨w.heap.size + 1, 1, none⟩ = some (.int .i64 (Y : Nat)) ∧ wr.cell? ⟨w.heap.size + 1, 2, none⟩ = some (.slice D (X * Y) d) := ⟨h.g.c0, h.g.c1, h.g.c2, h.k.c0, h.k.c1, h.k.c2⟩
end Go.Proofs.Ytmakjdfkldacaaa

/- Offset by the reference. -/
namespace Go.Proofs.Ytmakjdfkldacaaa
open Go.RowKit
set_option maxRecDepth 100000
set_option linter.unusedVariables false
set_option linter.unusedSimpArgs false

/-- A point lies in a block. -/
def Pt (w : World) (g : Nat) (a b : Int) : Prop := w.heap[g]? = some (.cells #[.int .i64 a, .int .i64 b] 59 (0, 0))
theorem Pt.lt {w : World} {g : Nat} {a b : Int} (h : Pt w g a b) : g < w.heap.size := (Array.getElem?_eq_some_iff.1 h).1
theorem Pt.below {w w' : World} {g B : Nat} {a b : Int} (h : Pt w g a b) (hb : Below B w w') (hg : g < B) : Pt w' g a b := (hb.block g hg).trans h
theorem Pt.new (w : World) (a b : Int) : Pt (w.alloc (.cells #[.int .i64 a, .int .i64 b] 59)) w.heap.size a b := by
  show (w.heap.push _)[w.heap.size]? = _
  rw [Array.getElem?_push, if_pos rfl]
theorem Pt.all {w : World} {g : Nat} {a b : Int} (h : Pt w g a b) : w.cell? ⟨g, 0, none⟩ = some (.int .i64 a) ∧ w.cell? ⟨g, 1, none⟩ = some (.int .i64 b) ∧ w.frozen? ⟨g, 0, none⟩ = false ∧ w.frozen? ⟨g, 1, none⟩ = false := by
  unfold Pt at h
  refine ⟨?_, ?_, ?_, ?_⟩ <;> simp [World.cell?, World.frozen?, h]
/-- The first offset: by rows, then by columns. -/
structure FO (W H : Nat) (f : Nat → Bool) (X Y : Nat) (g : Nat → Bool) (p q : Nat) : Prop where
  mt : Mt W H f X Y g p q
  ly : ∀ y, y < q → ∀ x : Nat, ¬ Mt W H f X Y g x y
  lx : ∀ x, x < p → ¬ Mt W H f X Y g x q
theorem FO.one {W H : Nat} {f : Nat → Bool} {X Y : Nat} {g : Nat → Bool} {p q p' q' : Nat} (h : FO W H f X Y g p q) (k : FO W H f X Y g p' q') : p = p' ∧ q = q' := by
  have e : q = q' := by
    rcases Nat.lt_trichotomy q q' with i | i | i
    · exact absurd h.mt (k.ly q i p)
    · exact i
    · exact absurd k.mt (h.ly q' i p')
  subst e
  rcases Nat.lt_trichotomy p p' with i | i | i
  · exact absurd h.mt (k.lx p i)
  · exact ⟨i, rfl⟩
  · exact absurd k.mt (h.lx p' i)
/-- What Offset answers. -/
def FOut2 (W H : Nat) (f : Nat → Bool) (X Y : Nat) (g : Nat → Bool) (a b z : Int) : Prop := (∃ p q : Nat, FO W H f X Y g p q ∧ a = p ∧ b = q ∧ z = 0) ∨ ((∀ x y : Nat, ¬ Mt W H f X Y g x y) ∧ a = 0 ∧ b = 0 ∧ z = 6)
theorem FOut2.one {W H : Nat} {f : Nat → Bool} {X Y : Nat} {g : Nat → Bool} {a b z a' b' z' : Int} (h : FOut2 W H f X Y g a b z) (k : FOut2 W H f X Y g a' b' z') : a = a' ∧ b = b' ∧ z = z' := by
  rcases h with ⟨p, q, h, rfl, rfl, rfl⟩ | ⟨h, rfl, rfl, rfl⟩ <;> rcases k with ⟨p', q', k, rfl, rfl, rfl⟩ | ⟨k, rfl, rfl, rfl⟩
  · obtain ⟨rfl, rfl⟩ := h.one k
    exact ⟨rfl, rfl, rfl⟩
  · exact absurd h.mt (k p q)
  · exact absurd k.mt (h p' q')
  · exact ⟨rfl, rfl, rfl⟩
theorem FOut2.ex (W H : Nat) (f : Nat → Bool) (X Y : Nat) (g : Nat → Bool) : ∃ a b z, FOut2 W H f X Y g a b z := by
  by_cases e : ∃ x y : Nat, Mt W H f X Y g x y
  · obtain ⟨x, y, e⟩ := e
    obtain ⟨q, _, ⟨x', h2⟩, h3⟩ := least_ex (p := fun q => ∃ x : Nat, Mt W H f X Y g x (q : Nat)) y ⟨x, e⟩
    obtain ⟨p, _, k2, k3⟩ := least_ex (p := fun p => Mt W H f X Y g (p : Nat) (q : Nat)) x' h2
    exact ⟨p, q, 0, .inl ⟨p, q, ⟨k2, fun y hy x hm => h3 y hy ⟨x, hm⟩, k3⟩, rfl, rfl, rfl⟩⟩
  · exact ⟨0, 0, 6, .inr ⟨fun x y h => e ⟨x, y, h⟩, rfl, rfl, rfl⟩⟩
theorem mt_side {W H : Nat} {f : Nat → Bool} {X Y : Nat} {g : Nat → Bool} (hX0 : 1 ≤ X) (x y : Nat) : Mt W H f X Y g x y ↔ Mt W H f X Y g (x % X : Nat) y := by
  have e : ∀ u v : Int, pz X Y g (u + (x : Nat)) v = pz X Y g (u + (x % X : Nat)) v := fun u v => pz_mod (by rw [Int.natCast_emod]; simp) rfl
  exact ⟨fun h u v => by rw [← e]; exact h u v, fun h u v => by rw [e]; exact h u v⟩
theorem mt_foot {W H : Nat} {f : Nat → Bool} {X Y : Nat} {g : Nat → Bool} (hY0 : 1 ≤ Y) (x y : Nat) : Mt W H f X Y g x y ↔ Mt W H f X Y g x (y % Y : Nat) := by
  have e : ∀ u v : Int, pz X Y g u (v + (y : Nat)) = pz X Y g u (v + (y % Y : Nat)) := fun u v => pz_mod rfl (by rw [Int.natCast_emod]; simp)
  exact ⟨fun h u v => by rw [← e]; exact h u v, fun h u v => by rw [e]; exact h u v⟩
/-- What lies in Offset. -/
structure O3 (w wr : World) (W H : Int) (sa : Value) (X Y : Int) (sb : Value) : Prop where
  g : Box wr w.heap.size W H sa
  k : Box wr (w.heap.size + 1) X Y sb
  p : Pt wr (w.heap.size + 2) 0 0
  bel : Below w.heap.size w wr
theorem O3.next {w wr w' : World} {W H X Y : Int} {sa sb : Value} (h : O3 w wr W H sa X Y sb) (hb : Below wr.heap.size wr w') : O3 w w' W H sa X Y sb := ⟨h.g.below hb h.g.lt, h.k.below hb h.k.lt, h.p.below hb h.p.lt, h.bel.trans (hb.mono h.bel.size)⟩
theorem O3.new (w : World) (W H X Y : Int) (sa sb : Value) : O3 w (((w.alloc (.cells #[.int .i64 W, .int .i64 H, sa] 24)).alloc (.cells #[.int .i64 X, .int .i64 Y, sb] 24)).alloc (.cells #[.int .i64 0, .int .i64 0] 59)) W H sa X Y sb := by
  have e2 := Box.new (w.alloc (.cells #[.int .i64 W, .int .i64 H, sa] 24)) X Y sb
  have e3 := Pt.new ((w.alloc (.cells #[.int .i64 W, .int .i64 H, sa] 24)).alloc (.cells #[.int .i64 X, .int .i64 Y, sb] 24)) 0 0
  rw [World.size_alloc] at e2 e3
  rw [World.size_alloc] at e3
  exact ⟨((Box.new _ _ _ _).alloc _).alloc _, e2.alloc _, e3, (((Below.refl _ _).alloc (Nat.le_refl _) _).alloc (by simp) _).alloc (by simp; omega) _⟩
theorem o3_fin {w u : World} (h : Below w.heap.size w u) (x y : Value) : Below w.heap.size w ((u.setCell ⟨w.heap.size + 2, 0, none⟩ x).setCell ⟨w.heap.size + 2, 1, none⟩ y) :=
  (h.setCell (Nat.le_add_right _ 2) _).setCell (Nat.le_add_right _ 2) _
end Go.Proofs.Ytmakjdfkldacaaa

/- Offset by the program; both sides of it. -/
namespace Go.Proofs.Ytmakjdfkldacaaa
open Go.RowKit
set_option maxRecDepth 100000
set_option linter.unusedVariables false
set_option linter.unusedSimpArgs false

theorem O3.alloc {w wr : World} {W H X Y : Int} {sa sb : Value} (h : O3 w wr W H sa X Y sb) (o : Obj) : O3 w (wr.alloc o) W H sa X Y sb := h.next ((Below.refl _ _).alloc (Nat.le_refl _) o)
set_option maxHeartbeats 400000 in
theorem poff_ea (W H X Y : Int) (A D : Option Addr) (n c m d : Nat) (w : World) (hn : n ≤ 4200) (z : Int) (hx : chk W H n = z) (hne : (z != 0) = true) :
    Calls Try.prog 35 #[.agg #[.int .i64 W, .int .i64 H, .slice A n c], .agg #[.int .i64 X, .int .i64 Y, .slice D m d]] w fun e w' => e = .returned (.tuple #[.agg #[.int .i64 0, .int .i64 0], .int .i64 z]) ∧ Below w.heap.size w w' := by
  have HO := Lib.hid (fun u => pof_err W H A n c u hn z hx hne)
  have S0 := Lib.hid (O3.new w W H X Y (.slice A n c) (.slice D m d))
  clear hx
  go_enter Try.func35, Try.ntmps35
  obtain ⟨q0, q1, q2, q3, q4, q5, q6⟩ := S0.out.g.all
  go_wp2_with fail
  refine (HO.out _).mono ?_
  rintro e u ⟨rfl, hb⟩
  have S1 := Lib.hid ((S0.out.next hb).alloc (.cells #[.int .i64 0, .int .i64 0, .int .i64 0] 68))
  clear hb q0 q1 q2 q3 q4 q5 q6
  obtain ⟨r0, r1, r2, r3⟩ := S1.out.p.all
  go_wp2
  refine bodyPost_ret (v := .tuple #[.agg #[.int .i64 0, .int .i64 0], .int .i64 z]) (by simp [results, Try.results35, go_sem, r0, r1]) rfl ⟨rfl, o3_fin S1.out.bel _ _⟩
set_option maxHeartbeats 400000 in
theorem poff_eb (W H X Y : Int) (A D : Option Addr) (n c m d : Nat) (oa ob od : Int) (w : World) (hm : m ≤ 4200) (z : Int) (hx : chk X Y m = z) (hne : (z != 0) = true)
    (ho : ∀ v, Below w.heap.size w v → Calls Try.prog 40 #[.agg #[.int .i64 W, .int .i64 H, .slice A n c]] v fun e w' => e = .returned (.tuple #[.agg #[.int .i64 oa, .int .i64 ob, .int .i64 od], .int .i64 0]) ∧ Below v.heap.size v w') :
    Calls Try.prog 35 #[.agg #[.int .i64 W, .int .i64 H, .slice A n c], .agg #[.int .i64 X, .int .i64 Y, .slice D m d]] w fun e w' => e = .returned (.tuple #[.agg #[.int .i64 0, .int .i64 0], .int .i64 z]) ∧ Below w.heap.size w w' := by
  have HA := Lib.hid ho
  have HO := Lib.hid (fun u => pof_err X Y D m d u hm z hx hne)
  have S0 := Lib.hid (O3.new w W H X Y (.slice A n c) (.slice D m d))
  clear hx ho
  go_enter Try.func35, Try.ntmps35
  obtain ⟨q0, q1, q2, q3, q4, q5, q6⟩ := S0.out.g.all
  go_wp2_with fail
  refine (HA.out _ S0.out.bel).mono ?_
  rintro e u ⟨rfl, hb⟩
  have S1 := Lib.hid ((S0.out.next hb).alloc (.cells #[.int .i64 oa, .int .i64 ob, .int .i64 od] 68))
  clear q0 q1 q2 q3 q4 q5 q6
  obtain ⟨q0, q1, q2, q3, q4, q5, q6⟩ := (S0.out.next hb).k.all
  obtain ⟨p0, p1, p2, p3, p4, p5, p6⟩ := S1.out.k.all
  clear hb
  go_wp2_with fail
  clear q0 q1 q2 q3 q4 q5 q6 p0 p1 p2 p3 p4 p5 p6
  refine (HO.out _).mono ?_
  rintro e u2 ⟨rfl, hb⟩
  have S2 := Lib.hid ((S1.out.next hb).alloc (.cells #[.int .i64 0, .int .i64 0, .int .i64 0] 68))
  clear hb
  obtain ⟨r0, r1, r2, r3⟩ := S2.out.p.all
  go_wp2
  refine bodyPost_ret (v := .tuple #[.agg #[.int .i64 0, .int .i64 0], .int .i64 z]) (by simp [results, Try.results35, go_sem, r0, r1]) rfl ⟨rfl, o3_fin S2.out.bel _ _⟩
set_option maxHeartbeats 800000 in
theorem poff_ne (W H X Y : Int) (A D : Option Addr) (n c m d : Nat) (oa ob od pa pb pd : Int) (w : World) (hne : ¬ (oa = pa ∧ ob = pb ∧ od = pd))
    (ho : ∀ v, Below w.heap.size w v → Calls Try.prog 40 #[.agg #[.int .i64 W, .int .i64 H, .slice A n c]] v fun e w' => e = .returned (.tuple #[.agg #[.int .i64 oa, .int .i64 ob, .int .i64 od], .int .i64 0]) ∧ Below v.heap.size v w')
    (hp : ∀ v, Below w.heap.size w v → Calls Try.prog 40 #[.agg #[.int .i64 X, .int .i64 Y, .slice D m d]] v fun e w' => e = .returned (.tuple #[.agg #[.int .i64 pa, .int .i64 pb, .int .i64 pd], .int .i64 0]) ∧ Below v.heap.size v w') :
    Calls Try.prog 35 #[.agg #[.int .i64 W, .int .i64 H, .slice A n c], .agg #[.int .i64 X, .int .i64 Y, .slice D m d]] w fun e w' => e = .returned (.tuple #[.agg #[.int .i64 0, .int .i64 0], .int .i64 6]) ∧ Below w.heap.size w w' := by
  have HA := Lib.hid ho
  have HO := Lib.hid hp
  have S0 := Lib.hid (O3.new w W H X Y (.slice A n c) (.slice D m d))
  clear hp ho
  go_enter Try.func35, Try.ntmps35
  obtain ⟨q0, q1, q2, q3, q4, q5, q6⟩ := S0.out.g.all
  go_wp2_with fail
  refine (HA.out _ S0.out.bel).mono ?_
  rintro e u ⟨rfl, hb⟩
  have S1 := Lib.hid ((S0.out.next hb).alloc (.cells #[.int .i64 oa, .int .i64 ob, .int .i64 od] 68))
  have T1 := Lib.hid (Tri.new u oa ob od)
  clear q0 q1 q2 q3 q4 q5 q6
  obtain ⟨q0, q1, q2, q3, q4, q5, q6⟩ := (S0.out.next hb).k.all
  obtain ⟨p0, p1, p2, p3, p4, p5, p6⟩ := S1.out.k.all
  clear hb
  go_wp2_with fail
  clear q0 q1 q2 q3 q4 q5 q6 p0 p1 p2 p3 p4 p5 p6
  refine (HO.out _ S1.out.bel).mono ?_
  rintro e u2 ⟨rfl, hb⟩
  have S2 := Lib.hid ((S1.out.next hb).alloc (.cells #[.int .i64 pa, .int .i64 pb, .int .i64 pd] 68))
  have T2 := Lib.hid (Tri.new u2 pa pb pd)
  have U2 := Lib.hid ((T1.out.below hb T1.out.lt).below ((Below.refl u2.heap.size u2).alloc (Nat.le_refl _) (.cells #[.int .i64 pa, .int .i64 pb, .int .i64 pd] 68)) (T1.out.below hb T1.out.lt).lt)
  clear S1 T1
  obtain ⟨r0, r1, r2, r3⟩ := S2.out.p.all
  obtain ⟨t0, t1, t2, t3, t4, t5⟩ := T2.out.all
  obtain ⟨x0, x1, x2, x3, x4, x5⟩ := U2.out.all
  clear hb
  go_wp2
  all_goals
    refine bodyPost_ret (v := .tuple #[.agg #[.int .i64 0, .int .i64 0], .int .i64 6]) (by simp [results, Try.results35, go_sem, r0, r1]) rfl ⟨rfl, o3_fin S2.out.bel _ _⟩
theorem deq {p q : Prop} [Decidable p] {t : Bool} (h : p ↔ q) (k : t = true ↔ q) : decide p = t := by
  cases t
  · rw [decide_eq_false_iff_not]; exact fun e => by have := k.2 (h.1 e); cases this
  · rw [decide_eq_true_iff]; exact h.2 (k.1 rfl)
set_option maxHeartbeats 1600000 in
theorem poff_at {W H X Y P Q R : Nat} {f g : Nat → Bool} (hL : IsL W H f P Q R) (kL : IsL X Y g P Q R) (ba oa c bb ob d : Nat) (w : World) (la : ba < w.heap.size) (lb : bb < w.heap.size) (hca : ∀ i, i < W * H → w.cell? ⟨ba, oa + i, none⟩ = some (.bool (f i))) (hcb : ∀ i, i < X * Y → w.cell? ⟨bb, ob + i, none⟩ = some (.bool (g i)))
    (pa : W * H ≤ c) (pb : X * Y ≤ d) (hW : W ≤ 64) (hH0 : 1 ≤ H) (hH : H ≤ 64) (hX : X ≤ 64) (hY0 : 1 ≤ Y) (hY : Y ≤ 64) :
    Calls Try.prog 35 #[.agg #[.int .i64 (W : Nat), .int .i64 (H : Nat), .slice (some ⟨ba, oa, none⟩) (W * H) c], .agg #[.int .i64 (X : Nat), .int .i64 (Y : Nat), .slice (some ⟨bb, ob, none⟩) (X * Y) d]] w fun e w' => ∃ a b z : Int, e = .returned (.tuple #[.agg #[.int .i64 a, .int .i64 b], .int .i64 z]) ∧ FOut2 W H f X Y g a b z ∧ Below w.heap.size w w' := by
  have hW0 := Nat.le_trans hL.a0 hL.aw
  have hX0 := Nat.le_trans kL.a0 kL.aw
  have hPW := hL.aw
  have hPX := kL.aw
  have hP0 := hL.a0
  have hR0 := hL.c0
  have hRH := hL.ch
  have hRY := kL.ch
  have HCA := fun v (h : Below w.heap.size w v) => (show ∀ i, i < W * H → v.cell? ⟨ba, oa + i, none⟩ = some (.bool (f i)) from fun i hi => (h.cell (p := ⟨ba, oa + i, none⟩) la).trans (hca i hi))
  have HCB := fun v (h : Below w.heap.size w v) => (show ∀ i, i < X * Y → v.cell? ⟨bb, ob + i, none⟩ = some (.bool (g i)) from fun i hi => (h.cell (p := ⟨bb, ob + i, none⟩) lb).trans (hcb i hi))
  have HA := Lib.hid (fun v (h : Below w.heap.size w v) => pof_at hL (some ⟨ba, oa, none⟩) c v (fun _ => ⟨ba, oa, rfl, Nat.lt_of_lt_of_le la h.size, HCA v h⟩) pa hW hH0 hH)
  have HB := Lib.hid (fun v (h : Below w.heap.size w v) => pof_at kL (some ⟨bb, ob, none⟩) d v (fun _ => ⟨bb, ob, rfl, Nat.lt_of_lt_of_le lb h.size, HCB v h⟩) pb hX hY0 hY)
  have HF := Lib.hid (fun v (h : Below w.heap.size w v) => fits_any v W H ba oa c f X Y bb ob d g P R hW0 hW hH0 hH hX0 hX hY0 hY pa pb (Nat.lt_of_lt_of_le la h.size) (Nat.lt_of_lt_of_le lb h.size) (HCA v h) (HCB v h))
  have HI := Lib.hid (mt_iff hL kL hH0 hY0)
  have HMR := Lib.hid (fun (x y : Nat) (h : Mt W H f X Y g x y) => h.red kL hY0)
  have HRC := Lib.hid (show ∀ x y : Nat, y < R → Mt W H f X Y g x y → ∃ p : Nat, p < P ∧ Mt W H f X Y g p y from fun x y hy hm => by
    obtain ⟨p, q, h1, h2, h3, h4, h5⟩ := hm.red kL hY0
    have e : q = y := by rw [Int.emod_eq_of_lt (by omega) (by omega)] at h4; omega
    subst e
    exact ⟨p, h1, h3⟩)
  have HLX := Lib.hid (show ∀ q p : Nat, q < R → (∀ x, x < p → x < P → ¬ Mt W H f X Y g (x : Nat) (q : Nat)) → p ≤ P → ∀ x, x < p → ¬ Mt W H f X Y g (x : Nat) (q : Nat) from fun q p _ h1 h2 x hx => h1 x hx (by omega))
  have S0 := Lib.hid (O3.new w (W : Nat) (H : Nat) (X : Nat) (Y : Nat) (.slice (some ⟨ba, oa, none⟩) (W * H) c) (.slice (some ⟨bb, ob, none⟩) (X * Y) d))
  clear HCA HCB hca hcb hL kL
  go_enter Try.func35, Try.ntmps35
  obtain ⟨q0, q1, q2, q3, q4, q5, q6⟩ := S0.out.g.all
  go_wp2_with fail
  refine (HA.out _ S0.out.bel).mono ?_
  rintro e u ⟨rfl, hb⟩
  have S1 := Lib.hid ((S0.out.next hb).alloc (.cells #[.int .i64 (P : Nat), .int .i64 (Q : Nat), .int .i64 (R : Nat)] 68))
  have T1 := Lib.hid (Tri.new u (P : Nat) (Q : Nat) (R : Nat))
  clear q0 q1 q2 q3 q4 q5 q6
  obtain ⟨q0, q1, q2, q3, q4, q5, q6⟩ := (S0.out.next hb).k.all
  obtain ⟨p0, p1, p2, p3, p4, p5, p6⟩ := S1.out.k.all
  clear hb
  go_wp2_with fail
  clear q0 q1 q2 q3 q4 q5 q6 p0 p1 p2 p3 p4 p5 p6
  refine (HB.out _ S1.out.bel).mono ?_
  rintro e u2 ⟨rfl, hb⟩
  have S2 := Lib.hid ((S1.out.next hb).alloc (.cells #[.int .i64 (P : Nat), .int .i64 (Q : Nat), .int .i64 (R : Nat)] 68))
  have T2 := Lib.hid (Tri.new u2 (P : Nat) (Q : Nat) (R : Nat))
  have U2 := Lib.hid ((T1.out.below hb T1.out.lt).below ((Below.refl u2.heap.size u2).alloc (Nat.le_refl _) (.cells #[.int .i64 (P : Nat), .int .i64 (Q : Nat), .int .i64 (R : Nat)] 68)) (T1.out.below hb T1.out.lt).lt)
  clear S1 T1 hb
  generalize hu3 : u2.alloc (.cells #[.int .i64 (P : Nat), .int .i64 (Q : Nat), .int .i64 (R : Nat)] 68) = u3 at *
  obtain ⟨t0, t1, t2, t3, t4, t5⟩ := T2.out.all
  obtain ⟨x0, x1, x2, x3, x4, x5⟩ := U2.out.all
  obtain ⟨q0, q1, q2, q3, q4, q5, q6⟩ := S2.out.g.all
  obtain ⟨p0, p1, p2, p3, p4, p5, p6⟩ := S2.out.k.all
  go_wp2_with fail
  clear t0 t1 t2 t3 t4 t5 x0 x1 x2 x3 x4 x5 q0 q1 q2 q3 q4 q5 q6 p0 p1 p2 p3 p4 p5 p6 T2 hu3
  refine (HF.out _ S2.out.bel).mono ?_
  rintro e v ⟨ph, pf, pw, pt, PA, PB, rfl, hFT, ea, eb, hb⟩
  have S3 := Lib.hid (S2.out.next hb)
  have T3 := Lib.hid (U2.out.below hb U2.out.lt)
  have HQ := Lib.hid (fun (vr : World) (h : Below v.heap.size v vr) (x y : Nat) (hx : x ≤ 64) (hy : y ≤ 64) (t : Bool) (ht : t = true ↔ Mt W H f X Y g x y) => (show Calls Try.prog 80 #[.int .i64 (x : Nat), .int .i64 (y : Nat), .pointer (some ⟨ph, 0, none⟩), .pointer (some ⟨pf, 0, none⟩), .pointer (some ⟨pw, 0, none⟩), .pointer (some ⟨pt, 0, none⟩)] vr fun e w' => e = .returned (.bool t) ∧ Below v.heap.size v w' by
    have h1 := fits1_any (hFT.next h) (by omega) hP0 (by rw [ea.1]; exact hPW) (by rw [eb.1]; exact hPX) x y (by omega) (by omega)
    have h2 := deq (t := t) (p := ∀ y', y' < R → ∀ i, i < P → PA.c i y' = PB.c (x + i) (y' + y)) (by
      unfold PV.c
      rw [ea.1, ea.2.1, ea.2.2, eb.1, eb.2.1, eb.2.2]
      exact HI.out x y) ht
    rw [h2] at h1
    exact h1.mono fun e w' ⟨i, m, j⟩ => ⟨i, by subst j; exact Go.Proofs.below_drewN' h m⟩))
  clear hFT ea eb hb S2 U2 HF HA HB HI
  obtain ⟨t0, t1, t2, t3, t4, t5⟩ := T3.out.all
  go_wp2_with fail
  clear t0 t1 t2 t3 t4 t5
  go_loopw [43] (fun i wr => ∃ y : Nat, y ≤ R ∧ i = .int .i64 y ∧ Hid (∀ y', y' < y → ∀ x', x' < P → ¬ Mt W H f X Y g (x' : Nat) (y' : Nat)) ∧ Hid (Below v.heap.size v wr)) (fun i _ => R - (intOf i).toNat)
  case atStart => exact ⟨0, Nat.zero_le _, rfl, fun y hy => absurd hy (by omega), Lib.hid (Below.refl _ _)⟩
  case round =>
    obtain ⟨y, hy, rfl, hall, B2⟩ := hrel
    by_cases hly : y < R
    · obtain ⟨t0, t1, t2, t3, t4, t5⟩ := (T3.out.below B2.out T3.out.lt).all
      go_wp2
      clear t0 t1 t2 t3 t4 t5
      go_loopw [48] (fun i wr => ∃ x : Nat, x ≤ P ∧ i = .int .i64 x ∧ Hid (∀ x', x' < x → ¬ Mt W H f X Y g (x' : Nat) (y : Nat)) ∧ Hid (Below v.heap.size v wr)) (fun i _ => P - (intOf i).toNat)
      case atStart => exact ⟨0, Nat.zero_le _, rfl, fun x hx => absurd hx (by omega), B2⟩
      case round =>
        obtain ⟨x, hx, rfl, hal2, B3⟩ := hrel
        by_cases hlx : x < P
        · obtain ⟨t, ht⟩ : ∃ t : Bool, t = true ↔ Mt W H f X Y g (x : Nat) (y : Nat) := by
            by_cases h : Mt W H f X Y g (x : Nat) (y : Nat)
            · exact ⟨true, ⟨fun _ => h, fun _ => rfl⟩⟩
            · exact ⟨false, ⟨fun e => (by cases e), fun e => absurd e h⟩⟩
          have HT := Lib.hid ht
          clear ht
          have HQ1 := Lib.hid (HQ.out _ B3.out x y (by omega) (by omega) t HT.out)
          cases t
          · go_wp2_with (go_at_call 80; with_reducible refine HQ1.out.mono ?_; rintro e w3 ⟨rfl, h3⟩)
            refine ⟨⟨x + 1, by omega, by go_num, fun x' hx' => ?_, h3⟩, by simp [intOf]; omega⟩
            rcases Nat.lt_succ_iff_lt_or_eq.1 hx' with h | rfl
            · exact hal2.out x' h
            · exact fun h => by have := HT.out.2 h; cases this
          · go_wp2_with (go_at_call 80; with_reducible refine HQ1.out.mono ?_; rintro e w3 ⟨rfl, h3⟩; obtain ⟨r0, r1, r2, r3⟩ := (S3.out.next h3).p.all)
            refine bodyPost_ret (v := .tuple #[.agg #[.int .i64 (x : Nat), .int .i64 (y : Nat)], .int .i64 0]) (by simp [results, Try.results35, go_sem, r0, r1]) rfl ⟨x, y, 0, rfl, .inl ⟨x, y, ⟨HT.out.1 (by first | rfl | trivial), fun y' hy' x' hm => ?_, hal2.out⟩, rfl, rfl, rfl⟩, o3_fin (S3.out.next h3).bel _ _⟩
            obtain ⟨p, h1, h2⟩ := HRC.out x' y' (by omega) hm
            exact hall.out y' hy' p h1 h2
        · have e : x = P := by omega
          subst e
          go_wp2
          refine ⟨⟨y + 1, by omega, by go_num, fun y' hy' => ?_, B3⟩, by simp [intOf]; omega⟩
          rcases Nat.lt_succ_iff_lt_or_eq.1 hy' with h | rfl
          · exact hall.out y' h
          · exact hal2.out
    · have e : y = R := by omega
      subst e
      obtain ⟨r0, r1, r2, r3⟩ := (S3.out.next B2.out).p.all
      go_wp2
      refine bodyPost_ret (v := .tuple #[.agg #[.int .i64 0, .int .i64 0], .int .i64 6]) (by simp [results, Try.results35, go_sem, r0, r1]) rfl ⟨0, 0, 6, rfl, .inr ⟨fun x' y' hm => ?_, rfl, rfl, rfl⟩, o3_fin (S3.out.next B2.out).bel _ _⟩
      obtain ⟨p, q, h1, h2, h3, _⟩ := HMR.out x' y' hm
      exact hall.out q h2 p h1 h3
end Go.Proofs.Ytmakjdfkldacaaa
