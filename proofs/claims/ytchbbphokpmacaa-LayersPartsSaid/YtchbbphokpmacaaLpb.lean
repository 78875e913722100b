/- What is said of the parts: arithmetic. -/
import Derived.Test.YtchbbphokpmacaaLpa
import Derived.Test.YtchbbphokpmacaaHom
namespace Go.Proofs.Ytchbbphokpmacaa
open Go.RowKit
set_option maxRecDepth 100000
set_option linter.unusedVariables false
set_option linter.unusedSimpArgs false

/-- The threads of the first n parts. -/
def topS (R : Nat → Nat → Bool) (N n a : Nat) : Bool := !out R N n a
/-- The first parts come off, unless there are none or all. -/
theorem top_off {R : Nat → Nat → Bool} {N n : Nat} (h0 : 0 < n) (hn : n < pno R N) : offP R N (topS R N n) := by
  have hne := pno_ne (R := R) (N := N) hn
  have hn0 := pno_ne (R := R) (N := N) (show 0 < pno R N by omega)
  refine ⟨⟨pfi R N 0, pfi_lt hn0, ?_⟩, ⟨pfi R N n, pfi_lt hne, ?_⟩, fun a b ha hb p q => ?_⟩
  · unfold topS
    rw [out_pix (pfi_lt hn0) (by omega), pix_is (pfi_lt hn0) (by omega) (cls_self (pfi_lt hn0)), decide_eq_false (by omega)]; rfl
  · unfold topS
    rw [(lef_mem.1 (pfi_in hne).1).2]; rfl
  · unfold topS at p q
    rw [out_pix ha (by omega)] at p
    rw [out_pix hb (by omega)] at q
    have p' : n ≤ pix R N a := by simpa using p
    have q' : pix R N b < n := by simpa using q
    cases hR : R a b
    · rfl
    · have := pix_le hb (up_closed hb (up_self hb) ha hR)
      omega
theorem top_none (R : Nat → Nat → Bool) (N : Nat) : ofl (topS R N 0) N = [] := by
  unfold ofl topS
  rw [List.filter_eq_nil_iff]
  intro a _; rw [out_zero]; simp
/-- What comes off is made of whole parts. -/
theorem off_whole {R : Nat → Nat → Bool} {N : Nat} {P : Nat → Bool} (h : offP R N P) {a b : Nat} (ha : a < N) (hc : cls R N a b = true) : P a = P b := by
  have key : ∀ a b, a < N → up R N a b = true → P a = true → P b = true := fun a b ha hu hp =>
    (up_least ha (fun x => x < N ∧ P x = true) ⟨ha, hp⟩ (fun c x hc hx hR => ⟨hx, by
      cases hpx : P x
      · have := h.2.2 x c hx hc.1 hpx hc.2
        rw [hR] at this; cases this
      · rfl⟩) hu).2
  have hb := cls_lt ha hc
  obtain ⟨h1, h2⟩ := cls_iff.1 hc
  cases hpa : P a
  · cases hpb : P b
    · rfl
    · rw [key b a hb h2 hpb] at hpa; cases hpa
  · exact (key a b ha h1 hpa).symm
/-- The set that comes off first is a part. -/
theorem t0_part {R : Nat → Nat → Bool} {N : Nat} (h : 0 < N) : ofl (up R N (t0 R N)) N = prt R N (pix R N (t0 R N)) := by
  have ht := t0_lt (R := R) h
  have hx := pix_all (R := R) ht
  rw [prt_eq (pno_ne hx.1)]
  refine ofl_congr fun a ha => ?_
  have h1 : cls R N (pfi R N (pix R N (t0 R N))) a = cls R N (t0 R N) a := by
    rw [Bool.eq_iff_iff]
    exact ⟨fun k => cls_trans ht (cls_symm hx.2) k, fun k => cls_trans (pfi_lt (pno_ne hx.1)) hx.2 k⟩
  rw [h1]
  rw [Bool.eq_iff_iff, cls_iff]
  refine ⟨fun k => ⟨k, ?_⟩, fun k => k.1⟩
  rw [t0_same h k _ ht]
  exact up_self ht
/-- A part, taken alone, hangs together. -/
theorem sub_up {R R' : Nat → Nat → Bool} {N n : Nat} {σ : Nat → Nat} (hs : ∀ i, i < n → σ i < N) (hP : ∀ i j, i < n → j < n → cls R N (σ i) (σ j) = true) (hall : ∀ i x, i < n → x < N → cls R N (σ i) x = true → ∃ j, j < n ∧ σ j = x)
    (hR : ∀ i j, i < n → j < n → R' i j = R (σ i) (σ j)) (hinj : ∀ i j, i < n → j < n → σ i = σ j → i = j) {t a : Nat} (ht : t < n) (ha : a < n) : up R' n t a = true := by
  have key := up_least (R := R) (hs t ht) (fun x => up R N (σ t) x = true ∧ (cls R N (σ t) x = true → ∃ i, i < n ∧ σ i = x ∧ up R' n t i = true)) ⟨up_self (hs t ht), fun _ => ⟨t, ht, rfl, up_self ht⟩⟩
    (fun c x hc hx hR1 => by
      have hcN := up_lt (hs t ht) hc.1
      have h1 := up_closed (hs t ht) hc.1 hx hR1
      refine ⟨h1, fun hcl => ?_⟩
      have h2 : up R N c x = true := up_closed hcN (up_self hcN) hx hR1
      have h3 : cls R N (σ t) c = true := cls_iff.2 ⟨hc.1, up_trans hcN h2 (cls_iff.1 hcl).2⟩
      obtain ⟨i, hi, e1, e2⟩ := hc.2 h3
      obtain ⟨j, hj, e3⟩ := hall t x ht hx hcl
      refine ⟨j, hj, e3, up_closed ht e2 hj ?_⟩
      rw [hR j i hj hi, e1, e3]
      exact hR1) (cls_iff.1 (hP t a ht ha)).1
  obtain ⟨i, hi, e1, e2⟩ := key.2 (hP t a ht ha)
  rw [← hinj i a hi ha e1]
  exact e2
/-- A part with two threads has two of which one lies over the other one. -/
theorem prt_two {R : Nat → Nat → Bool} {N a b : Nat} (ha : a < N) (hne : a ≠ b) (hc : cls R N a b = true) : ∃ c, c < N ∧ cls R N a c = true ∧ R b c = true := by
  obtain ⟨h1, h2⟩ := cls_iff.1 hc
  have hf := far_all (R := R) ha
  have h0 := up_iff.1 h1
  have h3 : 0 < far R N a b := by
    rcases Int.lt_or_eq_of_le h0 with k | k
    · exact k
    · exact absurd (hf.2.2.2.2.2.1 b k.symm) (fun e => hne e.symm)
  obtain ⟨c, c1, c2, c3⟩ := hf.2.2.2.2.2.2 b h3
  refine ⟨c, c1, cls_iff.2 ⟨up_iff.2 (by omega), ?_⟩, c2⟩
  exact up_trans c1 (up_closed c1 (up_self c1) (up_lt ha h1) c2) h2
/-- Threads that are moved keep what they hold. -/
theorem up_map {R R2 : Nat → Nat → Bool} {N : Nat} {π : Nat → Nat} (hp : ∀ a, a < N → π a < N) (h : ∀ a b, a < N → b < N → R a b = true → R2 (π a) (π b) = true) {a b : Nat} (ha : a < N) (hu : up R N a b = true) : up R2 N (π a) (π b) = true :=
  (up_least ha (fun x => x < N ∧ up R2 N (π a) (π x) = true) ⟨ha, up_self (hp a ha)⟩ (fun c x hc hx hR => ⟨hx, up_closed (hp a ha) hc.2 (hp x hx) (h x c hx hc.1 hR)⟩) hu).2
/-- What lies over is exchanged: what is held is, too. -/
theorem up_back {R R2 : Nat → Nat → Bool} {N : Nat} (h : ∀ a b, a < N → b < N → R a b = true → R2 b a = true) {a b : Nat} (ha : a < N) (hu : up R N a b = true) : up R2 N b a = true :=
  (up_least ha (fun x => x < N ∧ up R2 N x a = true) ⟨ha, up_self ha⟩ (fun c x hc hx hR => ⟨hx, up_trans hx (up_closed hx (up_self hx) hc.1 (h x c hx hc.1 hR)) hc.2⟩) hu).2
theorem pno_le {R R2 : Nat → Nat → Bool} {N : Nat} (π : Nat → Nat) (hp : ∀ a, a < N → π a < N) (h : ∀ a b, a < N → b < N → cls R2 N (π a) (π b) = true → cls R N a b = true) : pno R N ≤ pno R2 N := by
  refine pigeon (pno R2 N) (pno R N) (fun i => pix R2 N (π (pfi R N i))) (fun i hi => (pix_all (hp _ (pfi_lt (pno_ne hi)))).1) fun i j hi hj e => ?_
  have hi' := pfi_lt (pno_ne (R := R) (N := N) hi)
  have hj' := pfi_lt (pno_ne (R := R) (N := N) hj)
  have h1 : cls R2 N (π (pfi R N i)) (π (pfi R N j)) = true := by rw [pix_same (hp _ hi') (hp _ hj')]; exact decide_eq_true e
  exact prt_one hi hj (h _ _ hi' hj' h1) (cls_self hj')
/-- The back: the same parts. -/
theorem cls_back {R R2 : Nat → Nat → Bool} {N : Nat} (h : ∀ a b, a < N → b < N → R2 a b = R b a) {a b : Nat} (ha : a < N) (hb : b < N) : cls R2 N a b = cls R N a b := by
  have k1 : ∀ a b, a < N → cls R N a b = true → cls R2 N a b = true := fun a b ha hc => cls_iff.2 ⟨up_back (R := R) (fun x y hx hy hR => by rw [h y x hy hx]; exact hR) (up_lt ha (cls_iff.1 hc).1) (cls_iff.1 hc).2, up_back (R := R) (fun x y hx hy hR => by rw [h y x hy hx]; exact hR) ha (cls_iff.1 hc).1⟩
  have k2 : ∀ a b, a < N → cls R2 N a b = true → cls R N a b = true := fun a b ha hc => cls_iff.2 ⟨up_back (R := R2) (fun x y hx hy hR => by rw [h x y hx hy] at hR; exact hR) (up_lt ha (cls_iff.1 hc).1) (cls_iff.1 hc).2, up_back (R := R2) (fun x y hx hy hR => by rw [h x y hx hy] at hR; exact hR) ha (cls_iff.1 hc).1⟩
  rw [Bool.eq_iff_iff]
  exact ⟨k2 a b ha, k1 a b ha⟩
theorem back_no {R R2 : Nat → Nat → Bool} {N : Nat} (h : ∀ a b, a < N → b < N → R2 a b = R b a) : pno R2 N = pno R N :=
  Nat.le_antisymm (pno_le id (fun _ h => h) fun a b ha hb hc => by rw [cls_back h ha hb]; exact hc) (pno_le id (fun _ h => h) fun a b ha hb hc => by rw [← cls_back h ha hb]; exact hc)
theorem back_prt {R R2 : Nat → Nat → Bool} {N i : Nat} (h : ∀ a b, a < N → b < N → R2 a b = R b a) (hi : i < pno R N) : prt R2 N (pix R2 N (pfi R N i)) = prt R N i := by
  have hf := pfi_lt (pno_ne (R := R) (N := N) hi)
  obtain ⟨h1, h2⟩ := pix_all (R := R2) hf
  rw [prt_eq (pno_ne h1), prt_eq (pno_ne hi)]
  refine ofl_congr fun a ha => ?_
  rw [Bool.eq_iff_iff]
  constructor
  · intro k
    have := cls_trans hf (cls_symm h2) k
    rwa [cls_back h hf ha] at this
  · intro k
    rw [← cls_back h hf ha] at k
    exact cls_trans (pfi_lt (pno_ne h1)) h2 k
/-- Threads that are moved to and fro: as many parts. -/
theorem moved_no {R R2 : Nat → Nat → Bool} {N : Nat} (π ρ : Nat → Nat) (hp : ∀ a, a < N → π a < N) (hr : ∀ a, a < N → ρ a < N) (h1 : ∀ a, a < N → ρ (π a) = a) (h2 : ∀ a, a < N → π (ρ a) = a) (h : ∀ a b, a < N → b < N → R2 (π a) (π b) = R a b) : pno R2 N = pno R N := by
  have h' : ∀ a b, a < N → b < N → R (ρ a) (ρ b) = R2 a b := fun a b ha hb => by rw [← h _ _ (hr a ha) (hr b hb), h2 a ha, h2 b hb]
  refine Nat.le_antisymm (pno_le ρ hr fun a b ha hb hc => ?_) (pno_le π hp fun a b ha hb hc => ?_)
  · obtain ⟨c1, c2⟩ := cls_iff.1 hc
    have d1 := up_map (R := R) (R2 := R2) hp (fun x y hx hy k => by rw [h x y hx hy]; exact k) (hr a ha) c1
    have d2 := up_map (R := R) (R2 := R2) hp (fun x y hx hy k => by rw [h x y hx hy]; exact k) (hr b hb) c2
    rw [h2 a ha, h2 b hb] at d1 d2
    exact cls_iff.2 ⟨d1, d2⟩
  · obtain ⟨c1, c2⟩ := cls_iff.1 hc
    have d1 := up_map (R := R2) (R2 := R) hr (fun x y hx hy k => by rw [h' x y hx hy]; exact k) (hp a ha) c1
    have d2 := up_map (R := R2) (R2 := R) hr (fun x y hx hy k => by rw [h' x y hx hy]; exact k) (hp b hb) c2
    rw [h1 a ha, h1 b hb] at d1 d2
    exact cls_iff.2 ⟨d1, d2⟩
end Go.Proofs.Ytchbbphokpmacaa
