/- Forms: their order, the least one, the rectangles of a plane. -/
import Derived.Test.YtjbofdgdcnfmoaaMsp
import Derived.Test.YtjbofdgdcnfmoaaSyf
namespace Go.Proofs.Ytjbofdgdcnfmoaa
open Go.RowKit
set_option maxRecDepth 100000
set_option linter.unusedVariables false
set_option linter.unusedSimpArgs false

/-- The order of forms. -/
def GD.lt (F G : GD) : Prop := F.W < G.W ∨ (F.W = G.W ∧ (F.H < G.H ∨ (F.H = G.H ∧ ∃ i, i < F.W * F.H ∧ F.f i = false ∧ G.f i = true ∧ ∀ j, j < i → F.f j = G.f j)))
def GD.eqv (F G : GD) : Prop := F.W = G.W ∧ F.H = G.H ∧ ∀ i, i < F.W * F.H → F.f i = G.f i
theorem first_diff {n : Nat} {f g : Nat → Bool} (h : ¬ ∀ i, i < n → f i = g i) : ∃ i, i < n ∧ f i ≠ g i ∧ ∀ j, j < i → f j = g j := by
  induction n with
  | zero => exact absurd (fun i hi => absurd hi (by omega)) h
  | succ n ih =>
    by_cases k : ∀ i, i < n → f i = g i
    · refine ⟨n, by omega, fun e => h fun i hi => ?_, k⟩
      rcases Nat.lt_succ_iff_lt_or_eq.1 hi with j | rfl
      · exact k i j
      · exact e
    · obtain ⟨i, h1, h2, h3⟩ := ih k
      exact ⟨i, by omega, h2, h3⟩
theorem GD.tri (F G : GD) : F.lt G ∨ F.eqv G ∨ G.lt F := by
  unfold GD.lt GD.eqv
  rcases Nat.lt_trichotomy F.W G.W with h | h | h
  · exact .inl (.inl h)
  · rcases Nat.lt_trichotomy F.H G.H with k | k | k
    · exact .inl (.inr ⟨h, .inl k⟩)
    · by_cases e : ∀ i, i < F.W * F.H → F.f i = G.f i
      · exact .inr (.inl ⟨h, k, e⟩)
      · obtain ⟨i, h1, h2, h3⟩ := first_diff e
        cases hf : F.f i
        · cases hg : G.f i
          · rw [hf, hg] at h2; exact absurd rfl h2
          · exact .inl (.inr ⟨h, .inr ⟨k, i, h1, hf, hg, h3⟩⟩)
        · cases hg : G.f i
          · exact .inr (.inr (.inr ⟨h.symm, .inr ⟨k.symm, i, by rw [← h, ← k]; exact h1, hg, hf, fun j hj => (h3 j hj).symm⟩⟩))
          · rw [hf, hg] at h2; exact absurd rfl h2
    · exact .inr (.inr (.inr ⟨h.symm, .inl k⟩))
  · exact .inr (.inr (.inl h))
theorem GD.lt.trans {F G K : GD} (h : F.lt G) (k : G.lt K) : F.lt K := by
  unfold GD.lt at *
  rcases h with h | ⟨h, h2⟩
  · rcases k with k | ⟨k, _⟩
    · exact .inl (by omega)
    · exact .inl (by omega)
  · rcases k with k | ⟨k, k2⟩
    · exact .inl (by omega)
    · refine .inr ⟨by omega, ?_⟩
      rcases h2 with h2 | ⟨h2, i, i1, i2, i3, i4⟩
      · rcases k2 with k2 | ⟨k2, _⟩
        · exact .inl (by omega)
        · exact .inl (by omega)
      · rcases k2 with k2 | ⟨k2, j, j1, j2, j3, j4⟩
        · exact .inl (by omega)
        · refine .inr ⟨by omega, ?_⟩
          rcases Nat.lt_trichotomy i j with e | e | e
          · exact ⟨i, i1, i2, by rw [← j4 i e]; exact i3, fun l hl => (i4 l hl).trans (j4 l (by omega))⟩
          · subst e; rw [i3] at j2; cases j2
          · exact ⟨j, by rw [h, h2]; exact j1, by rw [i4 j e]; exact j2, j3, fun l hl => (i4 l (by omega)).trans (j4 l hl)⟩
theorem GD.lt.irr {F : GD} (h : F.lt F) : False := by
  unfold GD.lt at h
  rcases h with h | ⟨_, h | ⟨_, i, _, i2, i3, _⟩⟩
  · omega
  · omega
  · rw [i2] at i3; cases i3
theorem GD.lt.left {F G K : GD} (h : F.lt K) (e : F.eqv G) : G.lt K := by
  obtain ⟨e1, e2, e3⟩ := e
  unfold GD.lt at *
  rcases h with h | ⟨h, h2 | ⟨h2, i, i1, i2, i3, i4⟩⟩
  · exact .inl (by omega)
  · exact .inr ⟨by omega, .inl (by omega)⟩
  · exact .inr ⟨by omega, .inr ⟨by omega, i, by rw [← e1, ← e2]; exact i1, by rw [← e3 i i1]; exact i2, i3, fun j hj => by rw [← e3 j (by omega)]; exact i4 j hj⟩⟩
theorem GD.lt_of {K K0 F : GD} (h : ¬ K.lt F) (k : K0.lt F) : K0.lt K := by
  rcases GD.tri K0 K with i | i | i
  · exact i
  · exact absurd (k.left i) h
  · exact absurd (i.trans k) h
/-- The least form of those that are meant, and the first operation of those that make it. -/
structure Best (V : Nat → GD → Prop) (F : GD) (by_ : Nat) : Prop where
  mem : V by_ F
  low : ∀ op K, V op K → ¬ K.lt F
  fst : ∀ op K, V op K → op < by_ → F.lt K
theorem Best.one {V : Nat → GD → Prop} {F F' : GD} {a b : Nat} (h : Best V F a) (k : Best V F' b) : F.eqv F' ∧ a = b := by
  refine ⟨?_, ?_⟩
  · rcases GD.tri F F' with i | i | i
    · exact absurd i (k.low _ _ h.mem)
    · exact i
    · exact absurd i (h.low _ _ k.mem)
  · rcases Nat.lt_trichotomy a b with i | i | i
    · exact absurd (k.fst _ _ h.mem i) (h.low _ _ k.mem)
    · exact i
    · exact absurd (h.fst _ _ k.mem i) (k.low _ _ h.mem)
/-- More forms of a later operation. -/
theorem Best.yes {V V' : Nat → GD → Prop} {F M : GD} {a m : Nat} {R : GD → Prop} (h : Best V F a) (hv : ∀ op K, V' op K ↔ V op K ∨ (op = m ∧ R K)) (hm : R M) (hl : ∀ K, R K → ¬ K.lt M) (k : M.lt F) : Best V' M m := by
  refine ⟨(hv _ _).2 (.inr ⟨rfl, hm⟩), fun op K hk => ?_, fun op K hk ho => ?_⟩
  · rcases (hv _ _).1 hk with i | ⟨_, i⟩
    · exact fun e => h.low _ _ i (e.trans k)
    · exact hl K i
  · rcases (hv _ _).1 hk with i | ⟨i, _⟩
    · exact GD.lt_of (h.low _ _ i) k
    · omega
theorem Best.no {V V' : Nat → GD → Prop} {F M : GD} {a m : Nat} {R : GD → Prop} (h : Best V F a) (hv : ∀ op K, V' op K ↔ V op K ∨ (op = m ∧ R K)) (ho : ∀ op K, V op K → op ≤ m) (hl : ∀ K, R K → ¬ K.lt M) (k : ¬ M.lt F) : Best V' F a := by
  refine ⟨(hv _ _).2 (.inl h.mem), fun op K hk => ?_, fun op K hk hop => ?_⟩
  · rcases (hv _ _).1 hk with i | ⟨_, i⟩
    · exact h.low _ _ i
    · intro e
      rcases GD.tri M K with j | j | j
      · exact k (j.trans e)
      · exact k (e.left (by obtain ⟨j1, j2, j3⟩ := j; exact ⟨j1.symm, j2.symm, fun i hi => (j3 i (by rw [j1, j2]; exact hi)).symm⟩))
      · exact hl K i j
  · rcases (hv _ _).1 hk with i | ⟨i, _⟩
    · exact h.fst _ _ i hop
    · have := ho _ _ h.mem; omega
theorem Best.new {V' : Nat → GD → Prop} {M : GD} {m : Nat} {R : GD → Prop} (hv : ∀ op K, V' op K ↔ (op = m ∧ R K)) (hm : R M) (hl : ∀ K, R K → ¬ K.lt M) : Best V' M m := by
  refine ⟨(hv _ _).2 ⟨rfl, hm⟩, fun op K hk => hl K ((hv _ _).1 hk).2, fun op K hk hop => ?_⟩
  have := ((hv _ _).1 hk).1
  omega
theorem Best.congr {V V' : Nat → GD → Prop} {F : GD} {a : Nat} (h : Best V F a) (e : ∀ op K, V op K ↔ V' op K) : Best V' F a :=
  ⟨(e _ _).1 h.mem, fun op K k => h.low op K ((e _ _).2 k), fun op K k => h.fst op K ((e _ _).2 k)⟩
/-- The rectangle of the plane at a place. -/
def rec_ (G : GD) (w h x y : Nat) : GD := ⟨w, h, fun i => pc G.W G.H G.f (x + i % w) (y + i / w)⟩
/-- The least rectangles of a plane. -/
def rcs (G K : GD) : Prop := ∃ A B C x y, IsL G.W G.H G.f A B C ∧ x < A ∧ y < rh A B C ∧ K = rec_ G A (rh A B C) x y
theorem rcs_iff {G K : GD} {A B C : Nat} (hL : IsL G.W G.H G.f A B C) : rcs G K ↔ ∃ x y, x < A ∧ y < rh A B C ∧ K = rec_ G A (rh A B C) x y := by
  constructor
  · rintro ⟨A', B', C', x, y, h, h1, h2, h3⟩
    obtain ⟨rfl, rfl, rfl⟩ := hL.one h
    exact ⟨x, y, h1, h2, h3⟩
  · rintro ⟨x, y, h1, h2, h3⟩
    exact ⟨A, B, C, x, y, hL, h1, h2, h3⟩
/-- The sides of the least rectangle are repeats. -/
theorem IsL.per {W H A B C : Nat} {f : Nat → Bool} (hL : IsL W H f A B C) (hH0 : 1 ≤ H) (x y : Nat) : pc W H f (x % A) (y % rh A B C) = pc W H f x y := by
  have ka : Rp W H f (A : Nat) 0 := (hL.mem hH0 _ _).2 (by
    unfold inn
    rw [decide_eq_true_iff, Int.zero_emod, Int.zero_ediv, Int.zero_mul, Int.sub_zero]
    exact ⟨rfl, Int.emod_self⟩)
  have kb : Rp W H f 0 (rh A B C : Nat) := (hL.mem hH0 _ _).2 (by
    have h := (rh_iff (A := A) (B := B) (C := C) (b := rh A B C) hL.a0 hL.c0).1 (Nat.mod_self _)
    unfold inn
    rw [decide_eq_true_iff, Int.zero_sub]
    refine ⟨by omega, ?_⟩
    have e : ((rh A B C : Nat) : Int) / C * B = ((rh A B C / C * B : Nat) : Int) := by rw [Int.natCast_mul, Int.natCast_ediv]
    rw [e, ← Int.dvd_iff_emod_eq_zero, Int.dvd_neg, Int.natCast_dvd_natCast]
    exact Nat.dvd_of_mod_eq_zero h.2)
  generalize rh A B C = R at *
  have e1 := (ka.mul ((x / A : Nat) : Int)).add (kb.mul ((y / R : Nat) : Int)) ((x % A : Nat) : Int) ((y % R : Nat) : Int)
  have x1 := Nat.mod_add_div x A
  have y1 := Nat.mod_add_div y R
  have f1 : ((x % A : Nat) : Int) + (((x / A : Nat) : Int) * (A : Int) + ((y / R : Nat) : Int) * 0) = (x : Int) := by
    rw [Int.mul_zero, Int.add_zero, ← Int.natCast_mul, ← Int.natCast_add, Nat.mul_comm, x1]
  have f2 : ((y % R : Nat) : Int) + (((x / A : Nat) : Int) * 0 + ((y / R : Nat) : Int) * (R : Int)) = (y : Int) := by
    rw [Int.mul_zero, Int.zero_add, ← Int.natCast_mul, ← Int.natCast_add, Nat.mul_comm, y1]
  rw [f1, f2, pz_nat, pz_nat] at e1
  exact e1.symm
end Go.Proofs.Ytjbofdgdcnfmoaa
