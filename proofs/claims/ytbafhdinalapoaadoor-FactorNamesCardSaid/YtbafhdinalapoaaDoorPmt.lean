/- Renumbering without memory: what a list that has each number once says. -/
import Derived.Test.YtbafhdinalapoaaDoorEac
import Derived.Test.YtbafhdinalapoaaDoorPlc
import Derived.Test.YtbafhdinalapoaaDoorDb
namespace Go.Proofs.YtbafhdinalapoaaDoor
open Go.RowKit
set_option linter.unusedVariables false
set_option linter.unusedSimpArgs false
set_option maxRecDepth 100000

open L2 (plc fst fst_end fst_succ_miss fst_succ_hit plc_hit plc_miss fst_mono fst_at fst_no fst_le fst_keep)
theorem fst_lt_of {f : Nat → Int} {x : Int} {n i : Nat} (hi : i < n) (e : f i = x) : fst f x n < n := by
  rcases Nat.lt_or_ge (fst f x n) n with h | h
  · exact h
  · exact absurd e (fst_no f x n i (by omega))
theorem plc_found {f : Nat → Int} {x : Int} {n i : Nat} (hi : i < n) (e : f i = x) : plc f x n = (fst f x n : Nat) ∧ fst f x n < n ∧ f (fst f x n) = x := by
  have h := fst_lt_of hi e
  exact ⟨by unfold plc; rw [if_pos h], h, fst_at f x n h⟩
theorem prm_in {N : Nat} {f : Nat → Int} (h : prm N f N = true) {i : Nat} (hi : i < N) : 0 ≤ f i ∧ f i < N := by
  unfold prm at h
  rw [decide_eq_true_iff] at h
  exact h.2.1 i hi
theorem prm_plc {N : Nat} {f : Nat → Int} (h : prm N f N = true) {i : Nat} (hi : i < N) : plc f (f i) N = i := by
  unfold prm at h
  rw [decide_eq_true_iff] at h
  exact plc_hit (h.2.2 i hi) rfl hi
theorem kc_all {f : Nat → Int} {m N : Nat} (h : kc f m N = N) : ∀ k, k < N → fst f (k : Int) m < m := by
  induction N with
  | zero => intro k hk; omega
  | succ N ih =>
    have h1 : kc f m (N + 1) = kc f m N + if fst f N m < m then 1 else 0 := rfl
    have h2 := kc_le f m N
    rw [h1] at h
    intro k hk
    by_cases hs : fst f (N : Int) m < m
    · rw [if_pos hs] at h
      rcases Nat.lt_succ_iff_lt_or_eq.1 hk with h' | rfl
      · exact ih (by omega) k h'
      · exact hs
    · rw [if_neg hs] at h
      omega
theorem prm_has {N : Nat} {f : Nat → Int} (h : prm N f N = true) {v : Nat} (hv : v < N) : plc f (v : Int) N = (fst f (v : Int) N : Nat) ∧ fst f (v : Int) N < N ∧ f (fst f (v : Int) N) = v := by
  rw [prm_kc] at h
  simp only [Bool.and_eq_true, decide_eq_true_eq, true_and] at h
  have h1 := kc_all h v hv
  exact ⟨by unfold plc; rw [if_pos h1], h1, fst_at _ _ _ h1⟩
/-- The list that leads back. -/
theorem prm_inv {N : Nat} {f : Nat → Int} (h : prm N f N = true) : prm N (fun v => plc f (v : Int) N) N = true := by
  unfold prm
  rw [decide_eq_true_iff]
  refine ⟨rfl, fun i hi => ?_, fun i hi hs => ?_⟩
  · have h1 := prm_has h hi
    dsimp only
    rw [h1.1]
    omega
  · have e := fst_at _ _ _ hs
    dsimp only at e
    have hj := hs
    generalize fst (fun v : Nat => plc f (v : Int) N) (plc f (i : Int) N) i = j at e hj
    have h1 := prm_has h hi
    have h2 := prm_has h (show j < N by omega)
    rw [h1.1, h2.1] at e
    have e2 : fst f (j : Int) N = fst f (i : Int) N := by omega
    have := h1.2.2
    rw [← e2, h2.2.2] at this
    omega
theorem prm_back {N : Nat} {f : Nat → Int} (h : prm N f N = true) {x : Nat} (hx : x < N) : plc (fun v => plc f (v : Int) N) (x : Int) N = f x := by
  have h1 := prm_in h hx
  obtain ⟨i, hi⟩ : ∃ i : Nat, f x = i := ⟨(f x).toNat, (Int.toNat_of_nonneg h1.1).symm⟩
  have h2 := prm_plc (prm_inv h) (show i < N by omega)
  have h3 := prm_plc h hx
  skip
  rw [hi] at h3
  rw [h3] at h2
  rw [h2, hi]
theorem plc_congr {f g : Nat → Int} {x : Int} {n : Nat} (h : ∀ i, i < n → f i = g i) : plc f x n = plc g x n := by
  have e : fst f x n = fst g x n := by
    induction n with
    | zero => rfl
    | succ n ih =>
      have ih := ih fun i hi => h i (by omega)
      show (if fst f x n < n then fst f x n else if f n = x then n else n + 1) = (if fst g x n < n then fst g x n else if g n = x then n else n + 1)
      rw [ih, h n (by omega)]
  unfold plc
  rw [e]
/-- A draft rearranged: its shaft s is the old one u s, its treadle t the old one v t. -/
def PD.arr (P : PD) (ns nt : Nat) (u v : Nat → Nat) : PD :=
  ⟨ns, nt, P.n, P.m, fun i => (plc (fun k => (u k : Nat)) (P.F i : Nat) ns).toNat, fun i => (plc (fun k => (v k : Nat)) (P.G i : Nat) nt).toNat, fun t s => P.L (v t) (u s)⟩
/-- The lists have all that the draft uses, and nothing that it has not. -/
structure Arr (P : PD) (ns nt : Nat) (u v : Nat → Nat) : Prop where
  ns1 : ns ≤ 40
  nt1 : nt ≤ 40
  u0 : ∀ k, k < ns → u k < P.S
  v0 : ∀ k, k < nt → v k < P.T
  f : ∀ i, i < P.n → ∃ k, k < ns ∧ u k = P.F i
  g : ∀ i, i < P.m → ∃ k, k < nt ∧ v k = P.G i
theorem plc_nat {u : Nat → Nat} {x n : Nat} (h : ∃ k, k < n ∧ u k = x) : ∃ j : Nat, plc (fun k => (u k : Nat)) (x : Int) n = (j : Nat) ∧ j < n ∧ u j = x := by
  obtain ⟨k, hk, e⟩ := h
  have h := plc_found (f := fun k => (u k : Nat)) (x := (x : Int)) hk (by rw [e])
  exact ⟨_, h.1, h.2.1, by have := h.2.2; omega⟩
theorem Arr.ok {P : PD} {ns nt : Nat} {u v : Nat → Nat} (h : Arr P ns nt u v) (hP : P.Ok) : (P.arr ns nt u v).Ok := by
  have h1 := h.f 0 (by have := hP.n0; omega)
  have h2 := h.g 0 (by have := hP.m0; omega)
  obtain ⟨k1, h1, _⟩ := h1
  obtain ⟨k2, h2, _⟩ := h2
  refine ⟨by show 1 ≤ ns; omega, h.ns1, by show 1 ≤ nt; omega, h.nt1, hP.n0, hP.n1, hP.m0, hP.m1, fun i hi => ?_, fun i hi => ?_⟩
  · obtain ⟨j, e, hj, _⟩ := plc_nat (h.f i hi)
    show (plc _ _ ns).toNat < ns
    rw [e]; exact hj
  · obtain ⟨j, e, hj, _⟩ := plc_nat (h.g i hi)
    show (plc _ _ nt).toNat < nt
    rw [e]; exact hj
/-- It weaves the same. -/
theorem Arr.weave {P : PD} {ns nt : Nat} {u v : Nat → Nat} (h : Arr P ns nt u v) {x y : Nat} (hx : x < P.n) (hy : y < P.m) :
    (P.arr ns nt u v).L ((P.arr ns nt u v).G y) ((P.arr ns nt u v).F x) = P.L (P.G y) (P.F x) := by
  obtain ⟨j, e, _, e1⟩ := plc_nat (h.f x hx)
  obtain ⟨k, e', _, e2⟩ := plc_nat (h.g y hy)
  show P.L (v (plc _ _ nt).toNat) (u (plc _ _ ns).toNat) = _
  rw [e, e']
  show P.L (v k) (u j) = _
  rw [e1, e2]
/-- A draft renumbered. -/
def PD.rnm (P : PD) (a b : Nat → Int) : PD :=
  ⟨P.S, P.T, P.n, P.m, fun i => (a (P.F i)).toNat, fun i => (b (P.G i)).toNat, fun t s => P.L (plc b t P.T).toNat (plc a s P.S).toNat⟩
theorem rnm_arr {P : PD} (hP : P.Ok) {a b : Nat → Int} (ha : prm P.S a P.S = true) (hb : prm P.T b P.T = true) :
    Arr P P.S P.T (fun s => (plc a s P.S).toNat) (fun t => (plc b t P.T).toNat) ∧ (P.arr P.S P.T (fun s => (plc a s P.S).toNat) (fun t => (plc b t P.T).toNat)).Eqv (P.rnm a b) := by
  have key : ∀ {N : Nat} {f : Nat → Int}, prm N f N = true → (∀ k, k < N → (plc f k N).toNat < N) ∧ (∀ x, x < N → ∃ k, k < N ∧ (plc f (k : Nat) N).toNat = x) ∧ ∀ x : Nat, x < N → (plc (fun k => ((plc f (k : Nat) N).toNat : Nat)) (x : Int) N).toNat = (f x).toNat := by
    intro N f h
    refine ⟨fun k hk => ?_, fun x hx => ?_, fun x hx => ?_⟩
    · have := prm_has h hk; rw [this.1]; exact this.2.1
    · have h1 := prm_in h hx
      refine ⟨(f x).toNat, by omega, ?_⟩
      rw [Int.toNat_of_nonneg h1.1, prm_plc h hx]; rfl
    · rw [plc_congr (g := fun v => plc f (v : Nat) N) fun i hi => by have := prm_has h hi; rw [this.1]; rfl, prm_back h hx]
  have ka := key ha
  have kb := key hb
  refine ⟨⟨hP.s1, hP.t1, ka.1, kb.1, fun i hi => ka.2.1 _ (hP.f i hi), fun i hi => kb.2.1 _ (hP.g i hi)⟩, ⟨rfl, rfl, rfl, rfl, fun i hi => ka.2.2 _ (hP.f i hi), fun i hi => kb.2.2 _ (hP.g i hi), fun _ _ _ _ => rfl⟩⟩
end Go.Proofs.YtbafhdinalapoaaDoor
