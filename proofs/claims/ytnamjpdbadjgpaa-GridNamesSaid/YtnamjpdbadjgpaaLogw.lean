/- The walk of the statement GridLogic, up to its loops. -/
import Derived.Test.YtnamjpdbadjgpaaPair
import Derived.BigRegion
namespace Go.Proofs.Ytnamjpdbadjgpaa
open Go.RowKit
set_option linter.unusedVariables false
set_option linter.unusedSimpArgs false

/-- The two parameters in their boxes, in a later world. -/
structure LB (w v : World) (W H : Int) (A : Option Addr) (n c : Nat) (X Y : Int) (D : Option Addr) (m d : Nat) : Prop where
  a : Box v w.heap.size W H (.slice A n c)
  b : Box v (w.heap.size + 1) X Y (.slice D m d)
  bel : Below w.heap.size w v
section
variable {w v v' : World} {W H X Y : Int} {A D : Option Addr} {n c m d : Nat}
theorem LB.next (h : LB w v W H A n c X Y D m d) (hb : Below v.heap.size v v') : LB w v' W H A n c X Y D m d :=
  ⟨h.a.below hb h.a.lt, h.b.below hb h.b.lt, h.bel.trans (hb.mono h.bel.size)⟩
theorem LB.alloc (h : LB w v W H A n c X Y D m d) (o : Obj) : LB w (v.alloc o) W H A n c X Y D m d := h.next ((Below.refl _ _).alloc (Nat.le_refl _) o)
theorem LB.far (h : LB w v W H A n c X Y D m d) {p : Addr} (hp : w.heap.size + 1 < p.block) (u : Value) : LB w (v.setCell p u) W H A n c X Y D m d :=
  ⟨h.a.far (by omega) u, h.b.far (by omega) u, h.bel.setCell (by omega) u⟩
theorem LB.drew (h : LB w v W H A n c X Y D m d) : LB w v.drew W H A n c X Y D m d := ⟨h.a.drew, h.b.drew, h.bel.drew⟩
end

/-- A variable of the grid type at block b, its cells in a row of the call's own between lo and b. -/
structure Var (v : World) (lo b : Nat) (W H : Int) (A : Option Addr) (n c : Nat) (F : Nat → Bool) : Prop where
  box : Box v b W H (.slice A n c)
  row : 0 < n → ∃ k, A = some ⟨k, 0, none⟩ ∧ lo ≤ k ∧ k < b ∧ Row v k n F
section
variable {v v' : World} {lo b : Nat} {W H : Int} {A : Option Addr} {n c : Nat} {F : Nat → Bool}
theorem Var.next (h : Var v lo b W H A n c F) (hb : Below v.heap.size v v') : Var v' lo b W H A n c F :=
  ⟨h.box.below hb h.box.lt, fun hn => by
    obtain ⟨k, e, h1, h2, h3⟩ := h.row hn
    exact ⟨k, e, h1, h2, h3.below hb h3.lt⟩⟩
theorem Var.alloc (h : Var v lo b W H A n c F) (o : Obj) : Var (v.alloc o) lo b W H A n c F := h.next ((Below.refl _ _).alloc (Nat.le_refl _) o)
theorem Var.drew (h : Var v lo b W H A n c F) : Var v.drew lo b W H A n c F := h.next ((Below.refl _ _).drew)
theorem Var.far (h : Var v lo b W H A n c F) {p : Addr} (hp : p.block < lo ∨ b < p.block) (hlo : lo ≤ b) (u : Value) : Var (v.setCell p u) lo b W H A n c F :=
  ⟨h.box.far (by omega) u, fun hn => by
    obtain ⟨k, e, h1, h2, h3⟩ := h.row hn
    exact ⟨k, e, h1, h2, h3.far (by omega) u⟩⟩
theorem Var.set_ (h : Var v lo b W H A n c F) {k : Nat} (hk : A = some ⟨k, 0, none⟩) (hn : 0 < n) (i : Nat) (u : Bool) : Var (v.setCell ⟨k, i, none⟩ (.bool u)) lo b W H A n c (fun j => if j = i then u else F j) := by
  obtain ⟨k', e, h1, h2, h3⟩ := h.row hn
  rw [hk] at e
  cases e
  exact ⟨h.box.far (by simp; omega) _, fun _ => ⟨k, hk, h1, h2, h3.set_ i u⟩⟩
theorem Var.new {w1 : World} (hrow : 0 < n → ∃ k, A = some ⟨k, 0, none⟩ ∧ lo ≤ k ∧ Row w1 k n F) : Var (w1.alloc (.cells #[.int .i64 W, .int .i64 H, .slice A n c] 24)) lo w1.heap.size W H A n c F :=
  ⟨Box.new w1 W H _, fun hn => by
    obtain ⟨k, e, h1, h3⟩ := hrow hn
    exact ⟨k, e, h1, h3.lt, h3.alloc _⟩⟩
theorem Var.holds (h : Var v lo b W H A n c F) : Holds v v.heap.size A n F := fun hn => by
  obtain ⟨k, rfl, _, _, h3⟩ := h.row hn
  exact h3.holds h3.lt hn
end

theorem twin_any (W H : Int) (A : Option Addr) (n c : Nat) (f : Nat → Bool) (w : World) (hn : n ≤ 4200) (hr : Holds w w.heap.size A n f) :
    Calls Try.prog 33 #[.agg #[.int .i64 W, .int .i64 H, .slice A n c]] w fun e w' => ∃ D d, e = .returned (.agg #[.int .i64 W, .int .i64 H, .slice D n d]) ∧ (0 < n → ∃ k, D = some ⟨k, 0, none⟩ ∧ w.heap.size ≤ k ∧ Row w' k n f) ∧ Below w.heap.size w w' := by
  rcases Nat.eq_zero_or_pos n with h | h
  · subst h
    exact (twin_none W H A c w).mono fun _ _ ⟨k, he, hb⟩ => ⟨_, _, he, fun h => absurd h (by omega), hb⟩
  · exact (twin_some W H A n c f w hn h hr).mono fun _ _ ⟨k, d, he, hk, hr, hb⟩ => ⟨_, _, he, fun _ => ⟨k, rfl, hk, hr⟩, hb⟩

/-- What the two loops of the statement keep. -/
structure LR (w v : World) (W H : Int) (A : Option Addr) (n c : Nat) (X Y : Int) (D : Option Addr) (m d : Nat) (f : Nat → Bool) (lw bw : Nat) (Aw : Option Addr) (cw : Nat)
    (l1 b1 : Nat) (W1 H1 : Int) (A1 : Option Addr) (n1 c1 : Nat) (l2 b2 : Nat) (W2 H2 : Int) (A2 : Option Addr) (n2 c2 : Nat) (l3 b3 : Nat) (W3 H3 : Int) (A3 : Option Addr) (n3 c3 : Nat) : Prop where
  base : LB w v W H A n c X Y D m d
  was : Var v lw bw W H Aw n cw f
  v1 : ∃ F, Var v l1 b1 W1 H1 A1 n1 c1 F
  v2 : ∃ F, Var v l2 b2 W2 H2 A2 n2 c2 F
  v3 : ∃ F, Var v l3 b3 W3 H3 A3 n3 c3 F
  s0 : w.heap.size + 1 < lw
  s1 : lw ≤ bw
  s2 : bw < l1
  s3 : l1 ≤ b1
  s4 : b1 < l2
  s5 : l2 ≤ b2
  s6 : b2 < l3
  s7 : l3 ≤ b3

section
variable {w v : World} {W H : Int} {A : Option Addr} {n c : Nat} {X Y : Int} {D : Option Addr} {m d : Nat} {f : Nat → Bool} {lw bw : Nat} {Aw : Option Addr} {cw : Nat} {l1 b1 : Nat} {W1 H1 : Int} {A1 : Option Addr} {n1 c1 : Nat} {l2 b2 : Nat} {W2 H2 : Int} {A2 : Option Addr} {n2 c2 : Nat} {l3 b3 : Nat} {W3 H3 : Int} {A3 : Option Addr} {n3 c3 : Nat}
theorem LR.drew (R : LR w v W H A n c X Y D m d f lw bw Aw cw l1 b1 W1 H1 A1 n1 c1 l2 b2 W2 H2 A2 n2 c2 l3 b3 W3 H3 A3 n3 c3) : LR w v.drew W H A n c X Y D m d f lw bw Aw cw l1 b1 W1 H1 A1 n1 c1 l2 b2 W2 H2 A2 n2 c2 l3 b3 W3 H3 A3 n3 c3 := by
  obtain ⟨F1, V1⟩ := R.v1
  obtain ⟨F2, V2⟩ := R.v2
  obtain ⟨F3, V3⟩ := R.v3
  exact ⟨R.base.drew, R.was.drew, ⟨F1, V1.drew⟩, ⟨F2, V2.drew⟩, ⟨F3, V3.drew⟩, R.s0, R.s1, R.s2, R.s3, R.s4, R.s5, R.s6, R.s7⟩
theorem LR.set1 (R : LR w v W H A n c X Y D m d f lw bw Aw cw l1 b1 W1 H1 A1 n1 c1 l2 b2 W2 H2 A2 n2 c2 l3 b3 W3 H3 A3 n3 c3) {k : Nat} (hk : A1 = some ⟨k, 0, none⟩) (hn : 0 < n1) (h1 : l1 ≤ k) (h2 : k < b1) (i : Nat) (u : Bool) : LR w (v.setCell ⟨k, i, none⟩ (.bool u)) W H A n c X Y D m d f lw bw Aw cw l1 b1 W1 H1 A1 n1 c1 l2 b2 W2 H2 A2 n2 c2 l3 b3 W3 H3 A3 n3 c3 := by
  obtain ⟨F1, V1⟩ := R.v1
  obtain ⟨F2, V2⟩ := R.v2
  obtain ⟨F3, V3⟩ := R.v3
  have s0 := R.s0
  have s1 := R.s1
  have s2 := R.s2
  have s3 := R.s3
  have s4 := R.s4
  have s5 := R.s5
  have s6 := R.s6
  have s7 := R.s7
  exact ⟨R.base.far (by simp; omega) _, R.was.far (by simp; omega) (by omega) _, ⟨_, V1.set_ hk hn i u⟩, ⟨F2, V2.far (by simp; omega) (by omega) _⟩, ⟨F3, V3.far (by simp; omega) (by omega) _⟩, s0, s1, s2, s3, s4, s5, s6, s7⟩
theorem LR.set2 (R : LR w v W H A n c X Y D m d f lw bw Aw cw l1 b1 W1 H1 A1 n1 c1 l2 b2 W2 H2 A2 n2 c2 l3 b3 W3 H3 A3 n3 c3) {k : Nat} (hk : A2 = some ⟨k, 0, none⟩) (hn : 0 < n2) (h1 : l2 ≤ k) (h2 : k < b2) (i : Nat) (u : Bool) : LR w (v.setCell ⟨k, i, none⟩ (.bool u)) W H A n c X Y D m d f lw bw Aw cw l1 b1 W1 H1 A1 n1 c1 l2 b2 W2 H2 A2 n2 c2 l3 b3 W3 H3 A3 n3 c3 := by
  obtain ⟨F1, V1⟩ := R.v1
  obtain ⟨F2, V2⟩ := R.v2
  obtain ⟨F3, V3⟩ := R.v3
  have s0 := R.s0
  have s1 := R.s1
  have s2 := R.s2
  have s3 := R.s3
  have s4 := R.s4
  have s5 := R.s5
  have s6 := R.s6
  have s7 := R.s7
  exact ⟨R.base.far (by simp; omega) _, R.was.far (by simp; omega) (by omega) _, ⟨F1, V1.far (by simp; omega) (by omega) _⟩, ⟨_, V2.set_ hk hn i u⟩, ⟨F3, V3.far (by simp; omega) (by omega) _⟩, s0, s1, s2, s3, s4, s5, s6, s7⟩
theorem LR.set3 (R : LR w v W H A n c X Y D m d f lw bw Aw cw l1 b1 W1 H1 A1 n1 c1 l2 b2 W2 H2 A2 n2 c2 l3 b3 W3 H3 A3 n3 c3) {k : Nat} (hk : A3 = some ⟨k, 0, none⟩) (hn : 0 < n3) (h1 : l3 ≤ k) (h2 : k < b3) (i : Nat) (u : Bool) : LR w (v.setCell ⟨k, i, none⟩ (.bool u)) W H A n c X Y D m d f lw bw Aw cw l1 b1 W1 H1 A1 n1 c1 l2 b2 W2 H2 A2 n2 c2 l3 b3 W3 H3 A3 n3 c3 := by
  obtain ⟨F1, V1⟩ := R.v1
  obtain ⟨F2, V2⟩ := R.v2
  obtain ⟨F3, V3⟩ := R.v3
  have s0 := R.s0
  have s1 := R.s1
  have s2 := R.s2
  have s3 := R.s3
  have s4 := R.s4
  have s5 := R.s5
  have s6 := R.s6
  have s7 := R.s7
  exact ⟨R.base.far (by simp; omega) _, R.was.far (by simp; omega) (by omega) _, ⟨F1, V1.far (by simp; omega) (by omega) _⟩, ⟨F2, V2.far (by simp; omega) (by omega) _⟩, ⟨_, V3.set_ hk hn i u⟩, s0, s1, s2, s3, s4, s5, s6, s7⟩
end

theorem LB.start (w : World) (W H X Y : Int) (A D : Option Addr) (n c m d : Nat) : LB w ((w.alloc (.cells #[.int .i64 W, .int .i64 H, .slice A n c] 24)).alloc (.cells #[.int .i64 X, .int .i64 Y, .slice D m d] 24)) W H A n c X Y D m d :=
  ⟨(boxes2 w W H X Y _ _).1, (boxes2 w W H X Y _ _).2.1, (boxes2 w W H X Y _ _).2.2⟩

set_option maxHeartbeats 400000 in
theorem logic_great1 (W H X Y : Int) (A D : Option Addr) (n c m d : Nat) (f g : Nat → Bool) (w : World) (hn : 4200 < n) :
    Calls Try.prog 6 #[.agg #[.int .i64 W, .int .i64 H, .slice A n c], .agg #[.int .i64 X, .int .i64 Y, .slice D m d]] w fun e w' => e = .returned (.bool true) ∧ Below w.heap.size w w' := by
  have L0 := Lib.hid (LB.start w W H X Y A D n c m d)
  go_enter Try.func6, Try.ntmps6
  go_wp2_with fail
  refine (great_yes _ _ _ _ _ _ hn).mono ?_
  rintro e w1 ⟨rfl, hb⟩
  go_wp2
  go_ret
  exact ⟨rfl, (L0.out.next hb).bel⟩

set_option maxHeartbeats 400000 in
theorem logic_great2 (W H X Y : Int) (A D : Option Addr) (n c m d : Nat) (f g : Nat → Bool) (w : World) (hn : n ≤ 4200) (hm : 4200 < m) :
    Calls Try.prog 6 #[.agg #[.int .i64 W, .int .i64 H, .slice A n c], .agg #[.int .i64 X, .int .i64 Y, .slice D m d]] w fun e w' => e = .returned (.bool true) ∧ Below w.heap.size w w' := by
  have L0 := Lib.hid (LB.start w W H X Y A D n c m d)
  go_enter Try.func6, Try.ntmps6
  go_wp2_with fail
  refine (great_no _ _ _ _ _ _ hn).mono ?_
  rintro e w1 ⟨rfl, hb⟩
  have L1 := L0.out.next hb
  obtain ⟨q0, q1, q2, q3, q4, q5, q6⟩ := L1.b.all
  have H1 := Lib.hid L1
  clear hb L1
  go_wp2_with fail
  refine (great_yes _ _ _ _ _ _ hm).mono ?_
  rintro e w2 ⟨rfl, hb⟩
  go_wp2
  go_ret
  exact ⟨rfl, (H1.out.next hb).bel⟩
end Go.Proofs.Ytnamjpdbadjgpaa
