/- What the walks of this seat say of a draft in memory: a draft as it comes in, a valid draft, a variable of the draft type. -/
import Derived.Test.YtbafhdinalapoaaChk
import Derived.Test.YtbafhdinalapoaaIBase
namespace Go.Proofs.Ytbafhdinalapoaa
open Go.RowKit
set_option linter.unusedVariables false
set_option linter.unusedSimpArgs false

/-- A draft as it comes in: its numbers, its two lists, its tie-up, and what they hold. -/
structure Dr where
  (S T : Int)
  (A : Option Addr) (n c : Nat)
  (B : Option Addr) (m d : Nat)
  (W H : Int)
  (C : Option Addr) (k e : Nat)
  (f g : Nat → Int)
  (b : Nat → Bool)

structure Dr.In (w : World) (B0 : Nat) (D : Dr) : Prop where
  th : L2.Holds w B0 D.A D.n D.f
  tr : L2.Holds w B0 D.B D.m D.g
  ti : Holds w B0 D.C D.k D.b
theorem Dr.In.below {w w' : World} {B : Nat} {D : Dr} (h : D.In w B) (hb : Below B w w') : D.In w' B := ⟨h.th.below hb, h.tr.below hb, h.ti.below hb⟩
theorem Dr.In.more {w : World} {B B' : Nat} {D : Dr} (h : D.In w B) (hB : B ≤ B') : D.In w B' := ⟨h.th.more hB, h.tr.more hB, h.ti.more hB⟩
theorem Dr.In.next {w w' : World} {D : Dr} (h : D.In w w.heap.size) (hb : Below w.heap.size w w') : D.In w' w'.heap.size := (h.below hb).more hb.size

/-- The lists and the tie-up are small enough for the statements to speak of them. -/
structure Dr.Small (D : Dr) : Prop where
  a : D.n ≤ 70
  b : D.m ≤ 70
  c : D.k ≤ 4200

/-- A list is not empty, and has numbers below N. -/
def wi (n : Nat) (f : Nat → Int) (N : Int) : Bool := decide (0 < n ∧ ∀ i, i < n → 0 ≤ f i ∧ f i < N)
/-- What Check answers of a draft. -/
def Dr.ck (D : Dr) : Int :=
  if 40 < D.S ∨ 40 < D.T ∨ 64 < D.n ∨ 64 < D.m then 4
  else if wi D.n D.f D.S = true ∧ wi D.m D.g D.T = true ∧ chk D.W D.H D.k = 0 ∧ D.W = D.T ∧ D.H = D.S then 0 else 8
theorem Dr.ck_bd (D : Dr) : 0 ≤ D.ck ∧ D.ck ≤ 8 := by unfold Dr.ck; split <;> (try split) <;> omega

/-- A variable of the draft type. -/
def DBox (w : World) (g : Nat) (D : Dr) : Prop := w.heap[g]? = some (.cells #[.int .i64 D.S, .int .i64 D.T, .slice D.A D.n D.c, .slice D.B D.m D.d, .int .i64 D.W, .int .i64 D.H, .slice D.C D.k D.e] 30 (0, 0))
section
variable {w w' : World} {B g : Nat} {D : Dr}
theorem DBox.lt (h : DBox w g D) : g < w.heap.size := by
  rcases Nat.lt_or_ge g w.heap.size with hlt | hge
  · exact hlt
  · unfold DBox at h; rw [Array.getElem?_eq_none hge] at h; cases h
theorem DBox.free (h : DBox w g D) (i : Nat) : w.frozen? ⟨g, i, none⟩ = false := by unfold DBox at h; simp [World.frozen?, h]
theorem DBox.below (h : DBox w g D) (hb : Below B w w') (hg : g < B) : DBox w' g D := (hb.block g hg).trans h
theorem DBox.next (h : DBox w g D) (hb : Below w.heap.size w w') : DBox w' g D := h.below hb h.lt
theorem DBox.alloc (h : DBox w g D) (o : Obj) : DBox (w.alloc o) g D := (Below.heap_alloc w o g h.lt).trans h
theorem DBox.drew (h : DBox w g D) : DBox w.drew g D := h
theorem DBox.far (h : DBox w g D) {p : Addr} (hp : g ≠ p.block) (u : Value) : DBox (w.setCell p u) g D := (Below.heap_setCell w p u g hp).trans h
theorem DBox.new (w : World) (D : Dr) : DBox (w.alloc (.cells #[.int .i64 D.S, .int .i64 D.T, .slice D.A D.n D.c, .slice D.B D.m D.d, .int .i64 D.W, .int .i64 D.H, .slice D.C D.k D.e] 30)) w.heap.size D := by
  show (w.heap.push _)[w.heap.size]? = _
  rw [Array.getElem?_push, if_pos rfl]
/-- All that a walk asks of a variable of the draft type that it reads. -/
theorem DBox.all (h : DBox w g D) : w.cell? ⟨g, 0, none⟩ = some (.int .i64 D.S) ∧ w.cell? ⟨g, 1, none⟩ = some (.int .i64 D.T) ∧ w.cell? ⟨g, 2, none⟩ = some (.slice D.A D.n D.c) ∧ w.cell? ⟨g, 3, none⟩ = some (.slice D.B D.m D.d) ∧
    w.cell? ⟨g, 4, none⟩ = some (.int .i64 D.W) ∧ w.cell? ⟨g, 5, none⟩ = some (.int .i64 D.H) ∧ w.cell? ⟨g, 6, none⟩ = some (.slice D.C D.k D.e) ∧ g < w.heap.size := by
  refine ⟨?_, ?_, ?_, ?_, ?_, ?_, ?_, h.lt⟩ <;> (unfold DBox at h; simp [World.cell?, h])
theorem DBox.frees (h : DBox w g D) : w.frozen? ⟨g, 0, none⟩ = false ∧ w.frozen? ⟨g, 1, none⟩ = false ∧ w.frozen? ⟨g, 2, none⟩ = false ∧ w.frozen? ⟨g, 3, none⟩ = false ∧ w.frozen? ⟨g, 4, none⟩ = false ∧ w.frozen? ⟨g, 5, none⟩ = false ∧ w.frozen? ⟨g, 6, none⟩ = false :=
  ⟨h.free 0, h.free 1, h.free 2, h.free 3, h.free 4, h.free 5, h.free 6⟩
end

/-- A draft without its memory: how many shafts, treadles, ends and picks; the threading, the treadling, the lifts. -/
structure PD where
  (S T n m : Nat)
  (F G : Nat → Nat)
  (L : Nat → Nat → Bool)
structure PD.Ok (P : PD) : Prop where
  s0 : 1 ≤ P.S
  s1 : P.S ≤ 40
  t0 : 1 ≤ P.T
  t1 : P.T ≤ 40
  n0 : 1 ≤ P.n
  n1 : P.n ≤ 64
  m0 : 1 ≤ P.m
  m1 : P.m ≤ 64
  f : ∀ i, i < P.n → P.F i < P.S
  g : ∀ i, i < P.m → P.G i < P.T
/-- The two are the same draft. -/
structure PD.Eqv (P Q : PD) : Prop where
  S : P.S = Q.S
  T : P.T = Q.T
  n : P.n = Q.n
  m : P.m = Q.m
  f : ∀ i, i < P.n → P.F i = Q.F i
  g : ∀ i, i < P.m → P.G i = Q.G i
  l : ∀ t s, t < P.T → s < P.S → P.L t s = Q.L t s
theorem PD.Eqv.refl (P : PD) : P.Eqv P := ⟨rfl, rfl, rfl, rfl, fun _ _ => rfl, fun _ _ => rfl, fun _ _ _ _ => rfl⟩
theorem PD.Eqv.symm {P Q : PD} (h : P.Eqv Q) : Q.Eqv P := ⟨h.S.symm, h.T.symm, h.n.symm, h.m.symm, fun i hi => (h.f i (by rw [h.n]; exact hi)).symm, fun i hi => (h.g i (by rw [h.m]; exact hi)).symm, fun t s ht hs => (h.l t s (by rw [h.T]; exact ht) (by rw [h.S]; exact hs)).symm⟩
theorem PD.Eqv.trans {P Q R : PD} (h : P.Eqv Q) (k : Q.Eqv R) : P.Eqv R :=
  ⟨h.S.trans k.S, h.T.trans k.T, h.n.trans k.n, h.m.trans k.m, fun i hi => (h.f i hi).trans (k.f i (by rw [← h.n]; exact hi)), fun i hi => (h.g i hi).trans (k.g i (by rw [← h.m]; exact hi)), fun t s ht hs => (h.l t s ht hs).trans (k.l t s (by rw [← h.T]; exact ht) (by rw [← h.S]; exact hs))⟩

/-- The draft in memory is this one. -/
structure Dr.Is (D : Dr) (P : PD) : Prop where
  S : D.S = P.S
  T : D.T = P.T
  n : D.n = P.n
  m : D.m = P.m
  W : D.W = P.T
  H : D.H = P.S
  k : D.k = P.T * P.S
  f : ∀ i, i < P.n → D.f i = P.F i
  g : ∀ i, i < P.m → D.g i = P.G i
  b : ∀ t s, t < P.T → s < P.S → D.b (s * P.T + t) = P.L t s
def Dr.pure (D : Dr) : PD := ⟨D.S.toNat, D.T.toNat, D.n, D.m, fun i => (D.f i).toNat, fun i => (D.g i).toNat, fun t s => D.b (s * D.T.toNat + t)⟩
theorem Dr.valid {D : Dr} (h : D.ck = 0) : D.pure.Ok ∧ D.Is D.pure := by
  unfold Dr.ck at h
  split at h
  · omega
  · rename_i h1
    split at h
    · rename_i h2
      obtain ⟨h2, h3, h4, h5, h6⟩ := h2
      unfold wi at h2 h3
      simp only [decide_eq_true_eq] at h2 h3
      obtain ⟨a1, a2, a3, a4, a5⟩ := chk_ok h4
      obtain ⟨n0, hf⟩ := h2
      obtain ⟨m0, hg⟩ := h3
      have e1 : ((D.S.toNat : Nat) : Int) = D.S := Int.toNat_of_nonneg (by omega)
      have e2 : ((D.T.toNat : Nat) : Int) = D.T := Int.toNat_of_nonneg (by omega)
      refine ⟨⟨?_, ?_, ?_, ?_, ?_, ?_, ?_, ?_, fun i hi => ?_, fun i hi => ?_⟩, ⟨?_, ?_, rfl, rfl, ?_, ?_, ?_, fun i hi => ?_, fun i hi => ?_, fun t s ht hs => rfl⟩⟩
      all_goals simp only [Dr.pure] at *
      all_goals first
        | omega
        | (have := hf i hi; omega)
        | (have := hg i hi; omega)
        | (have : ((D.k : Nat) : Int) = ((D.T.toNat * D.S.toNat : Nat) : Int) := by rw [a5, Int.natCast_mul, e1, e2, h5, h6]
           omega)
    · omega
theorem Dr.Is.ck {D : Dr} {P : PD} (h : D.Is P) (hP : P.Ok) : D.ck = 0 := by
  obtain ⟨h1, h2, h3, h4, h5, h6, h7, h8, h9, h10⟩ := h
  obtain ⟨p1, p2, p3, p4, p5, p6, p7, p8, p9, p10⟩ := hP
  unfold Dr.ck
  rw [if_neg (by omega), if_pos]
  refine ⟨?_, ?_, ?_, by omega, by omega⟩
  · unfold wi
    rw [decide_eq_true_iff]
    exact ⟨by omega, fun i hi => by have := h8 i (by omega); have := p9 i (by omega); omega⟩
  · unfold wi
    rw [decide_eq_true_iff]
    exact ⟨by omega, fun i hi => by have := h9 i (by omega); have := p10 i (by omega); omega⟩
  · unfold chk
    rw [if_neg (by omega), if_neg]
    rintro (h | h | h)
    · omega
    · omega
    · exact h (by rw [h5, h6, h7, Int.natCast_mul])
end Go.Proofs.Ytbafhdinalapoaa
