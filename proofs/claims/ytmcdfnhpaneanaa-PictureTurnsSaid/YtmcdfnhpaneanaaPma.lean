/- Arithmetic alone: thread colours that fit an image, what follows of one colour, the first ones, the choices. -/
import Derived.Test.YtmcdfnhpaneanaaGc
namespace Go.Proofs.Ytmcdfnhpaneanaa
set_option linter.unusedVariables false
set_option linter.unusedSimpArgs false

/-- No cell is impossible. -/
def Fits (W H : Nat) (f p : Nat → Int) : Prop := ∀ x y, x < W → y < H → f (y * W + x) = p x ∨ f (y * W + x) = p (W + y)
/-- The first N are colours. -/
def Cols (N : Nat) (p : Nat → Int) : Prop := ∀ u, u < N → 0 ≤ p u ∧ p u ≤ 15
/-- How many threads a thread crosses, the i-th of them, and the cell there. -/
def ccn (W H t : Nat) : Nat := if t < W then H else W
def cth (W t i : Nat) : Nat := if t < W then W + i else i
def ccl (W t i : Nat) : Nat := if t < W then i * W + t else (t - W) * W + i
section
variable {W H : Nat} {f p q k K : Nat → Int} {t u i : Nat} {c : Int}
theorem cth_lt (ht : t < W + H) (hi : i < ccn W H t) : cth W t i < W + H := by unfold ccn at hi; unfold cth; split <;> simp_all <;> omega
theorem cth_ne (ht : t < W + H) (hi : i < ccn W H t) : cth W t i ≠ t := by unfold ccn at hi; unfold cth; split <;> simp_all <;> omega
theorem ccl_lt (ht : t < W + H) (hi : i < ccn W H t) : ccl W t i < W * H := by
  unfold ccn at hi; unfold ccl
  by_cases h : t < W
  · rw [if_pos h] at hi ⊢; exact ix_bd h hi
  · rw [if_neg h] at hi ⊢; exact ix_bd hi (by omega)
theorem Fits.at_ (h : Fits W H f p) (ht : t < W + H) (hi : i < ccn W H t) : f (ccl W t i) = p t ∨ f (ccl W t i) = p (cth W t i) := by
  unfold ccn at hi; unfold ccl cth
  by_cases e : t < W
  · rw [if_pos e] at hi ⊢; rw [if_pos e]; exact h t i e hi
  · rw [if_neg e] at hi ⊢; rw [if_neg e]
    have := h i (t - W) hi (by omega)
    rw [show W + (t - W) = t by omega] at this
    exact this.symm
/-- The thread u is done: whatever it crosses has the colour that it must have. -/
def Clo (W H : Nat) (f k : Nat → Int) (u : Nat) : Prop := ∀ i, i < ccn W H u → f (ccl W u i) = k u ∨ k (cth W u i) = f (ccl W u i)
/-- All threads that have a colour are done. -/
def Closed (W H : Nat) (f k : Nat → Int) : Prop := ∀ u, u < W + H → k u ≠ -1 → Clo W H f k u
/-- The colours q are those of k where k has one. -/
def Agr (N : Nat) (k q : Nat → Int) : Prop := ∀ u, u < N → k u ≠ -1 → q u = k u
/-- The colours of the cells are colours. -/
def Pos (W H : Nat) (f : Nat → Int) : Prop := ∀ i, i < W * H → 0 ≤ f i ∧ f i ≤ 15
/-- Colours, and those of q for the threads that have none. -/
def pat (k q : Nat → Int) (u : Nat) : Int := if k u = -1 then q u else k u
theorem pat_agr (N : Nat) (k q : Nat → Int) : Agr N k (pat k q) := fun u _ h => if_neg h
theorem pat_at (h : k u = -1) : pat k q u = q u := if_pos h
theorem pat_kn (h : k u ≠ -1) : pat k q u = k u := if_neg h
theorem Clo.end_ {x y : Nat} (h : Clo W H f k x) (hx : x < W) (hy : y < H) : f (y * W + x) = k x ∨ k (W + y) = f (y * W + x) := by
  have := h y (by unfold ccn; rw [if_pos hx]; exact hy)
  unfold ccl cth at this
  rwa [if_pos hx, if_pos hx] at this
theorem Clo.pick {x y : Nat} (h : Clo W H f k (W + y)) (hx : x < W) : f (y * W + x) = k (W + y) ∨ k x = f (y * W + x) := by
  have := h x (by unfold ccn; rw [if_neg (by omega)]; exact hx)
  unfold ccl cth at this
  rw [if_neg (by omega), if_neg (by omega), show W + y - W = y by omega] at this
  exact this
theorem pat_fits (hf : Pos W H f) (hc : Closed W H f k) (hq : Fits W H f q) : Fits W H f (pat k q) := fun x y hx hy => by
  have hp := hf _ (ix_bd hx hy)
  by_cases h1 : k x = -1
  · by_cases h2 : k (W + y) = -1
    · rw [pat_at h1, pat_at h2]; exact hq x y hx hy
    · rw [pat_at h1, pat_kn h2]
      rcases (hc _ (by omega) h2).pick hx with h | h
      · exact .inr h
      · omega
  · rw [pat_kn h1]
    rcases (hc x (by omega) h1).end_ hx hy with h | h
    · exact .inl h
    · refine .inr ?_
      rw [pat_kn (by omega), h]
theorem pat_cols {N : Nat} (hk : ∀ u, u < N → k u = -1 ∨ (0 ≤ k u ∧ k u ≤ 15)) (hq : Cols N q) : Cols N (pat k q) := fun u hu => by
  by_cases h : k u = -1
  · rw [pat_at h]; exact hq u hu
  · rw [pat_kn h]; rcases hk u hu with h2 | h2
    · exact absurd h2 h
    · exact h2
/-- What 'follow' has when the threads L are still to be done. -/
structure FS (W H : Nat) (f K : Nat → Int) (t : Nat) (c : Int) (k : Nat → Int) (L : List Nat) : Prop where
  old : ∀ u, u < W + H → K u ≠ -1 → k u = K u
  att : k t = c
  rng : ∀ u, u < W + H → k u = -1 ∨ (0 ≤ k u ∧ k u ≤ 15)
  lst : ∀ u, u ∈ L → u < W + H ∧ k u ≠ -1
  clo : ∀ u, u < W + H → k u ≠ -1 → u ∉ L → Clo W H f k u
  min : ∀ q, Fits W H f q → Agr (W + H) K q → q t = c → Agr (W + H) k q
/-- One more colour. -/
def up (k : Nat → Int) (o : Nat) (m : Int) : Nat → Int := fun j => if j = o then m else k j
theorem up_at (k : Nat → Int) (o : Nat) (m : Int) : up k o m o = m := if_pos rfl
theorem up_ne {o : Nat} {m : Int} (h : u ≠ o) : up k o m u = k u := if_neg h
theorem Clo.up {o : Nat} {m : Int} (hf : Pos W H f) (ho : k o = -1) (hu : u < W + H) (hk : k u ≠ -1) (h : Clo W H f k u) : Clo W H f (up k o m) u := fun i hi => by
  have hp := hf _ (ccl_lt hu hi)
  rw [up_ne (u := u) (fun e => hk (by rw [e, ho]))]
  rcases h i hi with h | h
  · exact .inl h
  · exact .inr (by rw [up_ne (fun e => by rw [e] at h; omega), h])
theorem FS.start (hf : Pos W H f) (hK : Closed W H f K) (hr : ∀ u, u < W + H → K u = -1 ∨ (0 ≤ K u ∧ K u ≤ 15)) (ht : t < W + H) (h0 : K t = -1) (c0 : 0 ≤ c) (c1 : c ≤ 15) : FS W H f K t c (up K t c) [t] where
  old u hu h := up_ne fun e => h (by rw [e, h0])
  att := up_at _ _ _
  rng u hu := by
    by_cases e : u = t
    · subst e; rw [up_at]; exact .inr ⟨c0, c1⟩
    · rw [up_ne e]; exact hr u hu
  lst u hu := by
    obtain rfl : u = t := by simpa using hu
    exact ⟨ht, by rw [up_at]; omega⟩
  clo u hu h hl := by
    have e : u ≠ t := by simpa using hl
    rw [up_ne e] at h
    exact (hK u hu h).up hf h0 hu h
  min q hq ha hc u hu h := by
    by_cases e : u = t
    · subst e; rw [up_at, hc]
    · rw [up_ne e] at h ⊢; exact ha u hu h
/-- The head of the list has been compared with those of the threads that it crosses of which D speaks. -/
structure FI (W H : Nat) (f K : Nat → Int) (t : Nat) (c : Int) (u : Nat) (D : Nat → Prop) (k : Nat → Int) (R : List Nat) : Prop where
  fs : FS W H f K t c k (u :: R)
  part : ∀ j, D j → j < ccn W H u ∧ (f (ccl W u j) = k u ∨ k (cth W u j) = f (ccl W u j))
section
variable {R : List Nat} {D D' : Nat → Prop}
theorem FS.open_ (h : FS W H f K t c k (u :: R)) (hD : ∀ j, ¬ D j) : FI W H f K t c u D k R := ⟨h, fun j hj => absurd hj (hD j)⟩
theorem FI.imp (h : FI W H f K t c u D k R) (hi : ∀ j, D' j → D j) : FI W H f K t c u D' k R := ⟨h.fs, fun j hj => h.part j (hi j hj)⟩
theorem FI.lt (h : FI W H f K t c u D k R) : u < W + H ∧ k u ≠ -1 := h.fs.lst u (by simp)
theorem FI.skip (h : FI W H f K t c u D k R) (hi : i < ccn W H u) (e : f (ccl W u i) = k u ∨ f (ccl W u i) = k (cth W u i)) : FI W H f K t c u (fun j => D j ∨ j = i) k R := ⟨h.fs, fun j hj => by
  rcases hj with hj | rfl
  · exact h.part j hj
  · exact ⟨hi, e.imp id Eq.symm⟩⟩
theorem FI.fail (h : FI W H f K t c u D k R) (hi : i < ccn W H u) (e1 : f (ccl W u i) ≠ k u) (e2 : f (ccl W u i) ≠ k (cth W u i)) (e3 : k (cth W u i) ≠ -1) : ∀ q, Fits W H f q → Agr (W + H) K q → q t ≠ c := fun q hq ha hc => by
  have h1 := h.fs.min q hq ha hc
  rcases hq.at_ h.lt.1 hi with h2 | h2
  · rw [h1 u h.lt.1 h.lt.2] at h2; exact e1 h2
  · rw [h1 _ (cth_lt h.lt.1 hi) e3] at h2; exact e2 h2
theorem FI.add (hf : Pos W H f) (h : FI W H f K t c u D k R) (c0 : 0 ≤ c) (hi : i < ccn W H u) (e1 : f (ccl W u i) ≠ k u) (e3 : k (cth W u i) = -1) : FI W H f K t c u (fun j => D j ∨ j = i) (up k (cth W u i) (f (ccl W u i))) (R ++ [cth W u i]) := by
  have hp := hf _ (ccl_lt h.lt.1 hi)
  have hu : u ≠ cth W u i := (cth_ne h.lt.1 hi).symm
  refine ⟨⟨fun v hv hK => ?_, ?_, fun v hv => ?_, fun v hv => ?_, fun v hv hk hl => ?_, fun q hq ha hc v hv hk => ?_⟩, fun j hj => ?_⟩
  · rw [up_ne fun e => ?_]
    · exact h.fs.old v hv hK
    · subst e; have := h.fs.old _ hv hK; omega
  · rw [up_ne fun e => ?_]
    · exact h.fs.att
    · have := h.fs.att; rw [← e] at e3; omega
  · by_cases e : v = cth W u i
    · subst e; rw [up_at]; exact .inr hp
    · rw [up_ne e]; exact h.fs.rng v hv
  · by_cases e : v = cth W u i
    · subst e; exact ⟨cth_lt h.lt.1 hi, by rw [up_at]; omega⟩
    · rw [up_ne e]; exact h.fs.lst v (by simp at hv ⊢; rcases hv with hv | hv | hv <;> simp_all)
  · have e : v ≠ cth W u i := fun e => hl (by simp [e])
    rw [up_ne e] at hk
    exact (h.fs.clo v hv hk (fun hm => hl (by simp at hm ⊢; rcases hm with hm | hm <;> simp_all))).up hf e3 hv hk
  · by_cases e : v = cth W u i
    · subst e
      rw [up_at]
      have h1 := h.fs.min q hq ha hc
      rcases hq.at_ h.lt.1 hi with h2 | h2
      · rw [h1 u h.lt.1 h.lt.2] at h2; exact absurd h2 e1
      · exact h2.symm
    · rw [up_ne e] at hk ⊢; exact h.fs.min q hq ha hc v hv hk
  · rw [up_ne hu]
    rcases hj with hj | rfl
    · obtain ⟨hjl, h2⟩ := h.part j hj
      refine ⟨hjl, ?_⟩
      rcases h2 with h2 | h2
      · exact .inl h2
      · have hq := hf _ (ccl_lt h.lt.1 hjl)
        exact .inr (by rw [up_ne (fun e => by rw [e] at h2; omega), h2])
    · exact ⟨hi, .inr (up_at _ _ _)⟩
theorem FI.done (h : FI W H f K t c u D k R) (hD : ∀ j, j < ccn W H u → D j) : FS W H f K t c k R where
  old := h.fs.old
  att := h.fs.att
  rng := h.fs.rng
  lst v hv := h.fs.lst v (by simp [hv])
  clo v hv hk hl := by
    by_cases e : v = u
    · subst e; exact fun j hj => (h.part j (hD j hj)).2
    · exact h.fs.clo v hv hk (by simp [e, hl])
  min := h.fs.min
end
/-- How many threads have no colour. -/
def unk (N : Nat) (k : Nat → Int) : Nat := cnt (fun u => decide (k u = -1)) N
theorem unk_le (N : Nat) (k : Nat → Int) : unk N k ≤ N := cnt_le _ _
theorem unk_up {N o : Nat} {m : Int} (hm : m ≠ -1) (h : k o = -1) : o < N → unk N (up k o m) + 1 = unk N k := by
  induction N with
  | zero => intro h; omega
  | succ N ih =>
    intro ho
    unfold unk at ih ⊢
    by_cases e : o = N
    · subst e
      rw [cnt_yes (p := fun u => decide (k u = -1)) (decide_eq_true h), cnt_no (p := fun u => decide (up k o m u = -1)) (decide_eq_false (by rw [up_at]; exact hm))]
      rw [cnt_congr (q := fun u => decide (k u = -1)) fun j hj => by rw [up_ne (by omega)]]
    · have := ih (by omega)
      rw [cnt_s, cnt_s]
      rw [show (decide (up k o m N = -1)) = decide (k N = -1) by rw [up_ne (fun e2 => e e2.symm)]]
      omega
/-- What 'follow' hands back. -/
structure Fol (W H : Nat) (f K : Nat → Int) (t : Nat) (c : Int) (k : Nat → Int) : Prop where
  old : ∀ u, u < W + H → K u ≠ -1 → k u = K u
  att : k t = c
  rng : ∀ u, u < W + H → k u = -1 ∨ (0 ≤ k u ∧ k u ≤ 15)
  clo : Closed W H f k
  min : ∀ q, Fits W H f q → Agr (W + H) K q → q t = c → Agr (W + H) k q
theorem FS.fol (h : FS W H f K t c k []) : Fol W H f K t c k := ⟨h.old, h.att, h.rng, fun u hu hk => h.clo u hu hk (by simp), h.min⟩
def NoFol (W H : Nat) (f K : Nat → Int) (t : Nat) (c : Int) : Prop := ∀ q, Fits W H f q → Agr (W + H) K q → q t ≠ c
/-- What 'First' has when the threads before t have been given colours. -/
structure FR (W H : Nat) (f : Nat → Int) (t : Nat) (k : Nat → Int) : Prop where
  rng : ∀ u, u < W + H → k u = -1 ∨ (0 ≤ k u ∧ k u ≤ 15)
  clo : Closed W H f k
  kn : ∀ u, u < t → k u ≠ -1
  lex : ∀ q, Fits W H f q → Cols (W + H) q → Agr (W + H) k q ∨ ∃ s, s < t ∧ (∀ j, j < s → q j = k j) ∧ k s < q s
/-- Colours of which none are known. -/
def non : Nat → Int := fun _ => -1
theorem non_closed : Closed W H f non := fun u _ h => absurd rfl h
theorem non_rng : ∀ u, u < W + H → non u = -1 ∨ (0 ≤ non u ∧ non u ≤ 15) := fun u _ => .inl rfl
theorem FR.start : FR W H f 0 non := ⟨non_rng, non_closed, fun u h => absurd h (by omega), fun q _ _ => .inl fun u _ h => absurd rfl h⟩
theorem FR.known (h : FR W H f t k) (hk : k t ≠ -1) : FR W H f (t + 1) k := ⟨h.rng, h.clo, fun u hu => by
  by_cases e : u = t
  · rw [e]; exact hk
  · exact h.kn u (by omega), fun q hq hc => (h.lex q hq hc).imp id fun ⟨s, hs, r⟩ => ⟨s, by omega, r⟩⟩
theorem FR.next {k' : Nat → Int} (h : FR W H f t k) (ht : t < W + H) (h0 : k t = -1) (c0 : 0 ≤ c) (h1 : Fol W H f k t c k') (h2 : ∀ d, 0 ≤ d → d < c → NoFol W H f k t d) : FR W H f (t + 1) k' := by
  refine ⟨h1.rng, h1.clo, fun u hu => ?_, fun q hq hc => ?_⟩
  · by_cases e : u = t
    · rw [e, h1.att]; omega
    · rw [h1.old u (by omega) (h.kn u (by omega))]; exact h.kn u (by omega)
  · rcases h.lex q hq hc with ha | ⟨s, hs, hj, hl⟩
    · rcases Int.lt_trichotomy (q t) c with h3 | h3 | h3
      · exact absurd rfl (h2 (q t) (hc t ht).1 h3 q hq ha)
      · exact .inl (h1.min q hq ha h3)
      · refine .inr ⟨t, by omega, fun j hj => ?_, by rw [h1.att]; exact h3⟩
        rw [ha j (by omega) (h.kn j hj), h1.old j (by omega) (h.kn j hj)]
    · refine .inr ⟨s, by omega, fun j hj2 => ?_, ?_⟩
      · rw [hj j hj2, h1.old j (by omega) (h.kn j (by omega))]
      · rw [h1.old s (by omega) (h.kn s hs)]; exact hl
/-- No colours fit the image. -/
def NoFit (W H : Nat) (f : Nat → Int) : Prop := ∀ q, Fits W H f q → Cols (W + H) q → False
theorem FR.none_ (hf : Pos W H f) (h : FR W H f t k) (ht : t < W + H) (h0 : k t = -1) (h2 : ∀ d, 0 ≤ d → d ≤ 15 → NoFol W H f k t d) : NoFit W H f := fun q hq hc => by
  have h3 := h2 (q t) (hc t ht).1 (hc t ht).2 (pat k q) (pat_fits hf h.clo hq) (pat_agr _ _ _)
  exact h3 (pat_at h0)
/-- The first colours that fit the image. -/
structure Fst (W H : Nat) (f p : Nat → Int) : Prop where
  fits : Fits W H f p
  cols : Cols (W + H) p
  lex : ∀ q, Fits W H f q → Cols (W + H) q → (∀ u, u < W + H → q u = p u) ∨ ∃ s, s < W + H ∧ (∀ j, j < s → q j = p j) ∧ p s < q s
theorem FR.fst (h : FR W H f (W + H) k) : Fst W H f k := by
  refine ⟨fun x y hx hy => ?_, fun u hu => ?_, fun q hq hc => ?_⟩
  · exact ((h.clo x (by omega) (h.kn x (by omega))).end_ hx hy).imp id Eq.symm
  · rcases h.rng u hu with h1 | h1
    · exact absurd h1 (h.kn u hu)
    · exact h1
  · exact (h.lex q hq hc).imp (fun ha u hu => ha u hu (h.kn u hu)) id
theorem Fst.same {p p' : Nat → Int} (h : Fst W H f p) (h' : Fst W H f p') : ∀ u, u < W + H → p u = p' u := by
  rcases h.lex p' h'.fits h'.cols with e | ⟨s, hs, hj, hl⟩
  · exact fun u hu => (e u hu).symm
  rcases h'.lex p h.fits h.cols with e | ⟨s', hs', hj', hl'⟩
  · exact e
  exfalso
  rcases Nat.lt_trichotomy s s' with c1 | c1 | c1
  · have := hj' s c1; omega
  · subst c1; omega
  · have := hj s' c1; omega
theorem Fst.congr {p p' : Nat → Int} (h : Fst W H f p) (e : ∀ u, u < W + H → p u = p' u) : Fst W H f p' := by
  refine ⟨fun x y hx hy => ?_, fun u hu => by rw [← e u hu]; exact h.cols u hu, fun q hq hc => ?_⟩
  · rw [← e x (by omega), ← e (W + y) (by omega)]; exact h.fits x y hx hy
  · rcases h.lex q hq hc with h1 | ⟨s, hs, hj, hl⟩
    · exact .inl fun u hu => by rw [← e u hu]; exact h1 u hu
    · exact .inr ⟨s, hs, fun j hj2 => by rw [← e j (by omega)]; exact hj j hj2, by rw [← e s hs]; exact hl⟩
theorem Fst.some_ (h : Fst W H f p) : ¬ NoFit W H f := fun hn => hn p h.fits h.cols
/-- The colour c is a choice of the thread t. -/
def Cho (W H : Nat) (f : Nat → Int) (t : Nat) (c : Int) : Prop := ∃ q, Fits W H f q ∧ Cols (W + H) q ∧ q t = c
noncomputable def cho (W H : Nat) (f : Nat → Int) (t : Nat) (c : Nat) : Bool := @decide (Cho W H f t c) (Classical.propDecidable _)
theorem cho_iff {c : Nat} : cho W H f t c = true ↔ Cho W H f t c := by unfold cho; exact @decide_eq_true_iff _ (Classical.propDecidable _)
theorem cho_yes {c : Nat} (h : Cho W H f t c) : cho W H f t c = true := cho_iff.2 h
theorem cho_no {c : Nat} (h : ¬ Cho W H f t c) : cho W H f t c = false := by
  cases e : cho W H f t c
  · rfl
  · exact absurd (cho_iff.1 e) h
theorem Fol.cho (hf : Pos W H f) (h : Fol W H f non t c k) (ht : t < W + H) (c0 : 0 ≤ c) (hp : Fst W H f p) : Cho W H f t c :=
  ⟨pat k p, pat_fits hf h.clo hp.fits, pat_cols h.rng hp.cols, by rw [pat_kn (by rw [h.att]; omega), h.att]⟩
theorem NoFol.cho (h : NoFol W H f non t c) : ¬ Cho W H f t c := fun ⟨q, hq, _, e⟩ => h q hq (fun u _ h => absurd rfl h) e
/-- The choices of a thread below n. -/
noncomputable def chl (W H : Nat) (f : Nat → Int) (t n : Nat) : List Nat := (List.range n).filter (cho W H f t)
theorem chl_zero : chl W H f t 0 = [] := rfl
theorem chl_yes {n : Nat} (h : cho W H f t n = true) : chl W H f t (n + 1) = chl W H f t n ++ [n] := by
  unfold chl; rw [List.range_succ, List.filter_append]; simp [h]
theorem chl_no {n : Nat} (h : cho W H f t n = false) : chl W H f t (n + 1) = chl W H f t n := by
  unfold chl; rw [List.range_succ, List.filter_append]; simp [h]
theorem chl_len (n : Nat) : (chl W H f t n).length ≤ n := by
  unfold chl; exact Nat.le_trans (List.length_filter_le _ _) (by simp)
theorem Pos.of_fine {n : Nat} (hn : n = W * H) (h : ∀ i, i < n → 0 ≤ f i ∧ f i ≤ 15) : Pos W H f := fun i hi => h i (by omega)
theorem fits_congr {p p' : Nat → Int} (e : ∀ u, u < W + H → p u = p' u) (h : Fits W H f p) : Fits W H f p' := fun x y hx hy => by
  rw [← e x (by omega), ← e (W + y) (by omega)]; exact h x y hx hy
end
end Go.Proofs.Ytmcdfnhpaneanaa
