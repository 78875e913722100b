/- fits. -/
import Derived.Test.YtmakjdfkldacaaaPa
import Derived.Deep.RegionHeld3
import Derived.Laws.NewBlocks
import Derived.Laws.EntriesVeiled
namespace Go.Proofs.Ytmakjdfkldacaaa
open Go.RowKit
set_option maxRecDepth 100000
set_option linter.unusedVariables false
set_option linter.unusedSimpArgs false

theorem blA {n : Nat} {w u : World} (h : Below n w u) (hn : n ≤ w.heap.size) (o : Obj) : Below n w (u.alloc o) := h.alloc (Nat.le_trans hn h.size) o
theorem blT {n : Nat} {w X u : World} (h : Below n w X) (hn : n ≤ w.heap.size) (k : Below X.heap.size X u) : Below n w u := h.trans (k.mono (Nat.le_trans hn h.size))
theorem World.cell?_setCell_other' {u : World} {b p : Nat} (h : b ≠ p) (x : Value) : (u.setCell ⟨p, 0, none⟩ x).cell? ⟨b, 0, none⟩ = u.cell? ⟨b, 0, none⟩ := by
  have := Below.heap_setCell u ⟨p, 0, none⟩ x b h
  simp [World.cell?, this]
theorem bxk {X u : World} {b : Nat} {t : TypeId} {v : Value} (h : Below X.heap.size X u) (hx : Boxed X b t v) : Boxed u b t v := (h.block b hx.lt).trans hx
theorem bx2 (u : World) (o : Obj) (t : TypeId) (v : Value) : Boxed ((u.alloc o).alloc (.cells #[v] t)) (u.heap.size + 1) t v := by
  have h := Boxed.new (u.alloc o) t v
  rwa [World.size_alloc] at h
theorem bxf {u : World} {b : Nat} {v : Value} (h : Boxed u b 103 v) : u.cell? ⟨b, 0, none⟩ = some v ∧ u.frozen? ⟨b, 0, none⟩ = false ∧ ¬ b = u.heap.size ∧ ¬ u.heap.size = b ∧ ¬ b = u.heap.size + 1 ∧ ¬ u.heap.size + 1 = b ∧ b < u.heap.size ∧ b < u.heap.size + 1 ∧ b < u.heap.size + 1 + 1 := ⟨h.cell, h.frozen, by have := h.lt; omega, by have := h.lt; omega, by have := h.lt; omega, by have := h.lt; omega, h.lt, by have := h.lt; omega, by have := h.lt; omega⟩
theorem bxd {W : World} {b : Nat} {t : TypeId} {v : Value} (h : Boxed W b t v) : Boxed W.drew b t v := h
theorem fitsS {u : World} {a b : Nat} {A B C D : Int} {s t : Value} {P Q : Prop} (h : Box u a A B s ∧ Box u b C D t ∧ P ∧ Q) : u.cell? ⟨a, 0, none⟩ = some (.int .i64 A) ∧ u.cell? ⟨a, 1, none⟩ = some (.int .i64 B) ∧ u.cell? ⟨a, 2, none⟩ = some s ∧ u.cell? ⟨b, 0, none⟩ = some (.int .i64 C) ∧ u.cell? ⟨b, 1, none⟩ = some (.int .i64 D) ∧ u.cell? ⟨b, 2, none⟩ = some t :=
  ⟨h.1.c0, h.1.c1, h.1.c2, h.2.1.c0, h.2.1.c1, h.2.1.c2⟩
theorem lo_at {A : PV} {v u0 X u : World} (hX : Below u0.heap.size u0 X) (h : A.At u X.heap.size) (hl : v.heap.size ≤ u0.heap.size) : A.At u v.heap.size := by
  have hs := hX.size
  exact ⟨⟨h.pl.box, h.pl.var, h.pl.row, h.pl.dd, by have := h.pl.g0; omega, by have := h.pl.t0; omega, by have := h.pl.k0; omega, h.pl.tl⟩, h.w0, h.w1, h.h0, h.h1⟩
theorem bx3 (u : World) (p : Addr) (x : Value) (t : TypeId) (v : Value) : Boxed ((u.setCell p x).alloc (.cells #[v] t)) u.heap.size t v := by
  have h := Boxed.new (u.setCell p x) t v
  have e : (u.setCell p x).heap.size = u.heap.size := by simp [World.setCell]
  rwa [e] at h
theorem bxfar {u : World} {b p : Nat} {t : TypeId} {v : Value} (h : Boxed u b t v) (hne : b ≠ p) (x : Value) : Boxed (u.setCell ⟨p, 0, none⟩ x) b t v := (Below.heap_setCell u ⟨p, 0, none⟩ x b hne).trans h
theorem at_alloc {A : PV} {u : World} {l : Nat} (h : A.At u l) (o : Obj) : A.At (u.alloc o) l := h.next ((Below.refl _ u).alloc (Nat.le_refl _) o)
theorem at_set {A : PV} {u : World} {l p : Nat} (h : A.At u l) (hb : Boxed u p 103 .nilFunc) (x : Value) : A.At (u.setCell ⟨p, 0, none⟩ x) l := by
  have hg : A.g ≠ p := fun e => by
    have h1 := h.pl.box
    rw [e] at h1
    have := (show u.heap[p]? = _ from h1).symm.trans hb
    simp at this
  have ht : A.t ≠ p := fun e => by
    have h1 := h.pl.var
    rw [e, hb.cell] at h1
    simp at h1
  have hk : A.k ≠ p := fun e => by
    have h1 : 0 < A.H * (2 * A.W) := Nat.mul_pos h.h0 (Nat.mul_pos (by omega) h.w0)
    have h2 := h.pl.row.cell h1
    rw [e, hb.cell] at h2
    simp at h2
  exact ⟨⟨h.pl.box.far hg _, (World.cell?_setCell_other' ht x).trans h.pl.var, h.pl.row.far hk _, h.pl.dd, h.pl.g0, h.pl.t0, h.pl.k0, by have := h.pl.tl; simpa [World.setCell] using this⟩, h.w0, h.w1, h.h0, h.h1⟩
/-- What holds ahead of the stores and behind them. -/
structure LF (v u0 u : World) (A B : PV) (w h : Nat) : Prop where
  pa : A.At u v.heap.size
  pb : B.At u v.heap.size
  bel : Below u0.heap.size u0 u
theorem LF.alloc {v u0 u : World} {A B : PV} {w h : Nat} (H : LF v u0 u A B w h) (o : Obj) : LF v u0 (u.alloc o) A B w h := ⟨at_alloc H.pa o, at_alloc H.pb o, blA H.bel (Nat.le_refl _) o⟩
theorem LF.set {v u0 u : World} {A B : PV} {w h p : Nat} (H : LF v u0 u A B w h) (hb : Boxed u p 103 .nilFunc) (hp : u0.heap.size ≤ p) (x : Value) : LF v u0 (u.setCell ⟨p, 0, none⟩ x) A B w h := ⟨at_set H.pa hb x, at_set H.pb hb x, H.bel.setCell hp _⟩
/-- The answer of fits. -/
def FOut (v : World) (Wa Ha : Nat) (fa : Nat → Bool) (Wb Hb : Nat) (fb : Nat → Bool) (w h : Nat) (e : Ending) (v' : World) : Prop :=
  ∃ ph pf pw pt A B, e = .returned (.func (.func 80) #[] #[.pointer (some ⟨ph, 0, none⟩), .pointer (some ⟨pf, 0, none⟩), .pointer (some ⟨pw, 0, none⟩), .pointer (some ⟨pt, 0, none⟩)]) ∧ FT v' v.heap.size ph pf pw pt h w A B ∧ (A.W = Wa ∧ A.H = Ha ∧ A.f = fa) ∧ (B.W = Wb ∧ B.H = Hb ∧ B.f = fb) ∧ Below v.heap.size v v'
theorem fits_fin {v u0 u : World} {A B : PV} {w h pf pt Wa Ha Wb Hb : Nat} {fa fb : Nat → Bool} {sa sb : Value} {qa qb qc qd : Int}
    (HS : Hid (∀ u, Below u0.heap.size u0 u → Box u v.heap.size qa qb sa ∧ Box u (v.heap.size + 1) qc qd sb ∧ u.cell? ⟨v.heap.size + 2, 0, none⟩ = some (.int .i64 (w : Nat)) ∧ u.cell? ⟨v.heap.size + 3, 0, none⟩ = some (.int .i64 (h : Nat))))
    (HZ : Hid (u0.heap.size = v.heap.size + 4)) (H1 : Hid (Below v.heap.size v u0)) (bf : Boxed u pf 103 (.func (.func 86) #[] #[.pointer (some ⟨A.g, 0, none⟩), .pointer (some ⟨A.t, 0, none⟩)])) (bt : Boxed u pt 103 (.func (.func 86) #[] #[.pointer (some ⟨B.g, 0, none⟩), .pointer (some ⟨B.t, 0, none⟩)]))
    (hL : LF v u0 u A B w h) (ea : A.W = Wa ∧ A.H = Ha ∧ A.f = fa) (eb : B.W = Wb ∧ B.H = Hb ∧ B.f = fb) :
    FOut v Wa Ha fa Wb Hb fb w h (.returned (.func (.func 80) #[] #[.pointer (some ⟨v.heap.size + 3, 0, none⟩), .pointer (some ⟨pf, 0, none⟩), .pointer (some ⟨v.heap.size + 2, 0, none⟩), .pointer (some ⟨pt, 0, none⟩)])) u := by
  have hz := HZ.out
  have hs := hL.bel.size
  obtain ⟨_, _, c1, c2⟩ := HS.out u hL.bel
  exact ⟨_, _, _, _, A, B, rfl, ⟨c2, bf.cell, c1, bt.cell, hL.pa, hL.pb, by omega, bf.lt, by omega, bt.lt⟩, ea, eb, H1.out.trans (hL.bel.mono (by omega))⟩
set_option maxHeartbeats 3200000 in
theorem fits_any (v : World) (Wa Ha ba oa ca : Nat) (fa : Nat → Bool) (Wb Hb bb ob cb : Nat) (fb : Nat → Bool) (w h : Nat) (wa0 : 1 ≤ Wa) (wa1 : Wa ≤ 64) (ha0 : 1 ≤ Ha) (ha1 : Ha ≤ 64) (wb0 : 1 ≤ Wb) (wb1 : Wb ≤ 64) (hb0 : 1 ≤ Hb) (hb1 : Hb ≤ 64)
    (cpa : Wa * Ha ≤ ca) (cpb : Wb * Hb ≤ cb) (lba : ba < v.heap.size) (lbb : bb < v.heap.size) (hca : ∀ i, i < Wa * Ha → v.cell? ⟨ba, oa + i, none⟩ = some (.bool (fa i))) (hcb : ∀ i, i < Wb * Hb → v.cell? ⟨bb, ob + i, none⟩ = some (.bool (fb i))) :
    Calls Try.prog 70 #[.agg #[.int .i64 (Wa : Nat), .int .i64 (Ha : Nat), .slice (some ⟨ba, oa, none⟩) (Wa * Ha) ca], .agg #[.int .i64 (Wb : Nat), .int .i64 (Hb : Nat), .slice (some ⟨bb, ob, none⟩) (Wb * Hb) cb], .int .i64 (w : Nat), .int .i64 (h : Nat)] v (FOut v Wa Ha fa Wb Hb fb w h) := by
  have hmf := mk_fn
  go_enter Try.func70, Try.ntmps70
  go_wp2_with fail
  have lem : ∀ (u : World) (Wx Hx bx ox cx : Nat) (fx : Nat → Bool), 1 ≤ Wx → Wx ≤ 64 → 1 ≤ Hx → Hx ≤ 64 → Wx * Hx ≤ cx → bx < v.heap.size → (∀ i, i < Wx * Hx → v.cell? ⟨bx, ox + i, none⟩ = some (.bool (fx i))) → Below v.heap.size v u →
      Calls Try.prog 79 #[.agg #[.int .i64 (Wx : Nat), .int .i64 (Hx : Nat), .slice (some ⟨bx, ox, none⟩) (Wx * Hx) cx]] u fun e w' => ∃ P : PV, e = .returned (.func (.func 86) #[] #[.pointer (some ⟨P.g, 0, none⟩), .pointer (some ⟨P.t, 0, none⟩)]) ∧ P.At w' u.heap.size ∧ (P.W = Wx ∧ P.H = Hx ∧ P.f = fx) ∧ Below u.heap.size u w' := by
    intro u Wx Hx bx ox cx fx a1 a2 a3 a4 a5 a6 a7 a8
    refine (plane_any u Wx Hx bx ox cx fx a1 a2 a3 a4 a5 (fun i hi => (a8.cell (p := ⟨bx, ox + i, none⟩) a6).trans (a7 i hi)) (Nat.lt_of_lt_of_le a6 a8.size)).mono ?_
    rintro e w' ⟨g, t, k, d, rfl, hp, hb⟩
    exact ⟨⟨g, t, Wx, Hx, k, d, _, fx⟩, rfl, ⟨hp, a1, a2, a3, a4⟩, ⟨rfl, rfl, rfl⟩, hb⟩
  have h0 : Below v.heap.size v (((v.alloc (.cells #[.int .i64 (Wa : Nat), .int .i64 (Ha : Nat), .slice (some ⟨ba, oa, none⟩) (Wa * Ha) ca] 24)).alloc (.cells #[.int .i64 (Wb : Nat), .int .i64 (Hb : Nat), .slice (some ⟨bb, ob, none⟩) (Wb * Hb) cb] 24)).alloc (.cells #[.int .i64 (w : Nat)] 3)) := blA (blA (blA (Below.refl _ v) (Nat.le_refl _) _) (Nat.le_refl _) _) (Nat.le_refl _) _
  have hS : ∀ (u : World), Below (v.heap.size + 4) ((((v.alloc (.cells #[.int .i64 (Wa : Nat), .int .i64 (Ha : Nat), .slice (some ⟨ba, oa, none⟩) (Wa * Ha) ca] 24)).alloc (.cells #[.int .i64 (Wb : Nat), .int .i64 (Hb : Nat), .slice (some ⟨bb, ob, none⟩) (Wb * Hb) cb] 24)).alloc (.cells #[.int .i64 (w : Nat)] 3)).alloc (.cells #[.int .i64 (h : Nat)] 3)) u → Box u v.heap.size (Wa : Nat) (Ha : Nat) (.slice (some ⟨ba, oa, none⟩) (Wa * Ha) ca) ∧ Box u (v.heap.size + 1) (Wb : Nat) (Hb : Nat) (.slice (some ⟨bb, ob, none⟩) (Wb * Hb) cb) ∧ u.cell? ⟨v.heap.size + 2, 0, none⟩ = some (.int .i64 (w : Nat)) ∧ u.cell? ⟨v.heap.size + 3, 0, none⟩ = some (.int .i64 (h : Nat)) := by
    intro u hu
    have e1 := ((((Box.new v (Wa : Nat) (Ha : Nat) (.slice (some ⟨ba, oa, none⟩) (Wa * Ha) ca)).alloc (.cells #[.int .i64 (Wb : Nat), .int .i64 (Hb : Nat), .slice (some ⟨bb, ob, none⟩) (Wb * Hb) cb] 24)).alloc (.cells #[.int .i64 (w : Nat)] 3)).alloc (.cells #[.int .i64 (h : Nat)] 3))
    have e2 := (((Box.new (v.alloc (.cells #[.int .i64 (Wa : Nat), .int .i64 (Ha : Nat), .slice (some ⟨ba, oa, none⟩) (Wa * Ha) ca] 24)) (Wb : Nat) (Hb : Nat) (.slice (some ⟨bb, ob, none⟩) (Wb * Hb) cb)).alloc (.cells #[.int .i64 (w : Nat)] 3)).alloc (.cells #[.int .i64 (h : Nat)] 3))
    have e3 := ((Boxed.new ((v.alloc (.cells #[.int .i64 (Wa : Nat), .int .i64 (Ha : Nat), .slice (some ⟨ba, oa, none⟩) (Wa * Ha) ca] 24)).alloc (.cells #[.int .i64 (Wb : Nat), .int .i64 (Hb : Nat), .slice (some ⟨bb, ob, none⟩) (Wb * Hb) cb] 24)) 3 (.int .i64 (w : Nat))).alloc (.cells #[.int .i64 (h : Nat)] 3))
    have e4 := Boxed.new (((v.alloc (.cells #[.int .i64 (Wa : Nat), .int .i64 (Ha : Nat), .slice (some ⟨ba, oa, none⟩) (Wa * Ha) ca] 24)).alloc (.cells #[.int .i64 (Wb : Nat), .int .i64 (Hb : Nat), .slice (some ⟨bb, ob, none⟩) (Wb * Hb) cb] 24)).alloc (.cells #[.int .i64 (w : Nat)] 3)) 3 (.int .i64 (h : Nat))
    rw [World.size_alloc] at e2
    rw [World.size_alloc, World.size_alloc] at e3
    rw [World.size_alloc, World.size_alloc, World.size_alloc] at e4
    exact ⟨(hu.block _ (by omega)).trans e1, (hu.block _ (by omega)).trans e2, (hu.cell (p := ⟨v.heap.size + 2, 0, none⟩) (by show v.heap.size + 2 < v.heap.size + 4; omega)).trans e3.cell, (hu.cell (p := ⟨v.heap.size + 3, 0, none⟩) (by show v.heap.size + 3 < v.heap.size + 4; omega)).trans e4.cell⟩
  have h1 := blA h0 (Nat.le_refl _) (.cells #[.int .i64 (h : Nat)] 3)
  clear h0
  generalize hu : World.alloc _ (Obj.cells #[Value.int IntKind.i64 ↑h] 3) = u0 at hS h1 ⊢
  have hsz : u0.heap.size = v.heap.size + 4 := by rw [← hu]; simp
  clear hu
  have q0 := (hS u0 (Below.refl _ _)).1.all
  have q1 := (hS u0 (Below.refl _ _)).2.1.all
  rw [← hsz] at hS
  have HS := Lib.hid hS
  have HA := Lib.hid (fun u (hu : Below u0.heap.size u0 u) => lem u Wa Ha ba oa ca fa wa0 wa1 ha0 ha1 cpa lba hca (h1.trans (hu.mono (by omega))))
  have HB := Lib.hid (fun u (hu : Below u0.heap.size u0 u) => lem u Wb Hb bb ob cb fb wb0 wb1 hb0 hb1 cpb lbb hcb (h1.trans (hu.mono (by omega))))
  have H1 := Lib.hid h1
  have HZ := Lib.hid hsz
  clear hca hcb lem hS h1 hsz
  obtain ⟨a0, a1, a2, a3, a4, a5⟩ := q0
  obtain ⟨b0, b1, b2, b3, b4, b5⟩ := q1
  go_region_held3 (fun w' => w'.cell? ⟨v.heap.size, 0, none⟩ = some (.int .i64 (Wa : Nat)) ∧ w'.cell? ⟨v.heap.size, 1, none⟩ = some (.int .i64 (Ha : Nat)) ∧ w'.cell? ⟨v.heap.size, 2, none⟩ = some (.slice (some ⟨ba, oa, none⟩) (Wa * Ha) ca) ∧ w'.cell? ⟨v.heap.size + 1, 0, none⟩ = some (.int .i64 (Wb : Nat)) ∧ w'.cell? ⟨v.heap.size + 1, 1, none⟩ = some (.int .i64 (Hb : Nat)) ∧ w'.cell? ⟨v.heap.size + 1, 2, none⟩ = some (.slice (some ⟨bb, ob, none⟩) (Wb * Hb) cb))
    (exact fitsS (HS.out _ (by (repeat' (first | assumption | exact Below.refl _ _ | refine Below.drew ?_ | refine blA ?_ (Nat.le_refl _) _ | refine Below.setCell ?_ (by dsimp only; omega) _)))))
    (first
      | (go_at_call 79
         with_reducible refine (HA.out _ (by (repeat' (first | assumption | exact Below.refl _ _ | refine Below.drew ?_ | refine blA ?_ (Nat.le_refl _) _ | refine Below.setCell ?_ (by dsimp only; omega) _)))).mono ?_
         rintro e u1 ⟨A, rfl, hA, hAe, hb1⟩
         have hx1 : Below u0.heap.size u0 u1 := blT (by (repeat' (first | assumption | exact Below.refl _ _ | refine Below.drew ?_ | refine blA ?_ (Nat.le_refl _) _ | refine Below.setCell ?_ (by dsimp only; omega) _))) (Nat.le_refl _) hb1
         have s1 := hx1.size
         have hA' : A.At u1 v.heap.size := lo_at (u0 := u0) (by (repeat' (first | assumption | exact Below.refl _ _ | refine Below.drew ?_ | refine blA ?_ (Nat.le_refl _) _ | refine Below.setCell ?_ (by dsimp only; omega) _))) hA (by have := HZ.out; omega)
         try (have k1 : Boxed u1 u0.heap.size 103 .nilFunc := bxk hb1 (by (first | assumption | (refine bxd ?_; first | assumption | exact Boxed.new _ _ _ | exact bx2 _ _ _ _ | exact Boxed.alloc (Boxed.new _ _ _) _ | exact Boxed.alloc (by assumption) _ | exact Boxed.alloc (Boxed.alloc (by assumption) _) _) | assumption | exact Boxed.new _ _ _ | exact bx2 _ _ _ _ | exact Boxed.alloc (Boxed.new _ _ _) _ | exact Boxed.alloc (by assumption) _ | exact Boxed.alloc (Boxed.alloc (by assumption) _) _)); obtain ⟨k1a, k1b, k1c, k1d, k1e, k1f, k1g, k1h, k1i⟩ := bxf k1)
         try (have k2 : Boxed u1 (u0.heap.size + 1) 103 .nilFunc := bxk hb1 (by (first | assumption | (refine bxd ?_; first | assumption | exact Boxed.new _ _ _ | exact bx2 _ _ _ _ | exact Boxed.alloc (Boxed.new _ _ _) _ | exact Boxed.alloc (by assumption) _ | exact Boxed.alloc (Boxed.alloc (by assumption) _) _) | assumption | exact Boxed.new _ _ _ | exact bx2 _ _ _ _ | exact Boxed.alloc (Boxed.new _ _ _) _ | exact Boxed.alloc (by assumption) _ | exact Boxed.alloc (Boxed.alloc (by assumption) _) _)); obtain ⟨k2a, k2b, k2c, k2d, k2e, k2f, k2g, k2h, k2i⟩ := bxf k2))
      | (go_at_call 79
         with_reducible refine (HB.out _ (by (repeat' (first | assumption | exact Below.refl _ _ | refine Below.drew ?_ | refine blA ?_ (Nat.le_refl _) _ | refine Below.setCell ?_ (by dsimp only; omega) _)))).mono ?_
         rintro e u2 ⟨B, rfl, hB, hBe, hb2⟩
         have hx2 : Below u0.heap.size u0 u2 := blT (by (repeat' (first | assumption | exact Below.refl _ _ | refine Below.drew ?_ | refine blA ?_ (Nat.le_refl _) _ | refine Below.setCell ?_ (by dsimp only; omega) _))) (Nat.le_refl _) hb2
         have s2 := hx2.size
         have hL : LF v u0 u2 A B w h := ⟨(hA'.next (by (repeat' (first | assumption | exact Below.refl _ _ | refine Below.drew ?_ | refine blA ?_ (Nat.le_refl _) _ | refine Below.setCell ?_ (by dsimp only; omega) _)))).next hb2, lo_at (u0 := u0) (by (repeat' (first | assumption | exact Below.refl _ _ | refine Below.drew ?_ | refine blA ?_ (Nat.le_refl _) _ | refine Below.setCell ?_ (by dsimp only; omega) _))) hB (by have := HZ.out; omega), hx2⟩
         try (have k3 : Boxed u2 u0.heap.size 103 .nilFunc := bxk hb2 (by (first | assumption | (refine bxd ?_; first | assumption | exact Boxed.new _ _ _ | exact bx2 _ _ _ _ | exact Boxed.alloc (Boxed.new _ _ _) _ | exact Boxed.alloc (by assumption) _ | exact Boxed.alloc (Boxed.alloc (by assumption) _) _) | assumption | exact Boxed.new _ _ _ | exact bx2 _ _ _ _ | exact Boxed.alloc (Boxed.new _ _ _) _ | exact Boxed.alloc (by assumption) _ | exact Boxed.alloc (Boxed.alloc (by assumption) _) _)); obtain ⟨k3a, k3b, k3c, k3d, k3e, k3f, k3g, k3h, k3i⟩ := bxf k3)
         try (have k4 : Boxed u2 (u0.heap.size + 1) 103 .nilFunc := bxk hb2 (by (first | assumption | (refine bxd ?_; first | assumption | exact Boxed.new _ _ _ | exact bx2 _ _ _ _ | exact Boxed.alloc (Boxed.new _ _ _) _ | exact Boxed.alloc (by assumption) _ | exact Boxed.alloc (Boxed.alloc (by assumption) _) _) | assumption | exact Boxed.new _ _ _ | exact bx2 _ _ _ _ | exact Boxed.alloc (Boxed.new _ _ _) _ | exact Boxed.alloc (by assumption) _ | exact Boxed.alloc (Boxed.alloc (by assumption) _) _)); obtain ⟨k4a, k4b, k4c, k4d, k4e, k4f, k4g, k4h, k4i⟩ := bxf k4)
         try (have k5 : Boxed u2 u1.heap.size 103 .nilFunc := bxk hb2 (by (first | assumption | (refine bxd ?_; first | assumption | exact Boxed.new _ _ _ | exact bx2 _ _ _ _ | exact Boxed.alloc (Boxed.new _ _ _) _ | exact Boxed.alloc (by assumption) _ | exact Boxed.alloc (Boxed.alloc (by assumption) _) _) | assumption | exact Boxed.new _ _ _ | exact bx2 _ _ _ _ | exact Boxed.alloc (Boxed.new _ _ _) _ | exact Boxed.alloc (by assumption) _ | exact Boxed.alloc (Boxed.alloc (by assumption) _) _)); obtain ⟨k5a, k5b, k5c, k5d, k5e, k5f, k5g, k5h, k5i⟩ := bxf k5)
         try (have k6 : Boxed u2 (u1.heap.size + 1) 103 .nilFunc := bxk hb2 (by (first | assumption | (refine bxd ?_; first | assumption | exact Boxed.new _ _ _ | exact bx2 _ _ _ _ | exact Boxed.alloc (Boxed.new _ _ _) _ | exact Boxed.alloc (by assumption) _ | exact Boxed.alloc (Boxed.alloc (by assumption) _) _) | assumption | exact Boxed.new _ _ _ | exact bx2 _ _ _ _ | exact Boxed.alloc (Boxed.new _ _ _) _ | exact Boxed.alloc (by assumption) _ | exact Boxed.alloc (Boxed.alloc (by assumption) _) _)); obtain ⟨k6a, k6b, k6c, k6d, k6e, k6f, k6g, k6h, k6i⟩ := bxf k6)))
  all_goals
    go_wp2
    go_ret
    have hz := HZ.out
    exact fits_fin HS HZ H1 (by (first | exact (Boxed.new _ _ _).alloc _ | exact bx2 _ _ _ _ | exact Boxed.alloc (Boxed.set _ (by assumption)) _ | exact bx3 _ _ _ _ _ | exact Boxed.set _ (bxfar (by assumption) (by omega) _) | exact bxfar (Boxed.set _ (by assumption)) (by omega) _)) (by (first | exact (Boxed.new _ _ _).alloc _ | exact bx2 _ _ _ _ | exact Boxed.alloc (Boxed.set _ (by assumption)) _ | exact bx3 _ _ _ _ _ | exact Boxed.set _ (bxfar (by assumption) (by omega) _) | exact bxfar (Boxed.set _ (by assumption)) (by omega) _)) (show LF v u0 _ A B w h by (repeat' (first | assumption | refine LF.alloc ?_ _ | refine LF.set ?_ (by first | assumption | exact bxfar (by assumption) (by omega) _) (by omega) _))) hAe hBe
end Go.Proofs.Ytmakjdfkldacaaa
