/- A draft is least exactly if its drawdown has as many kinds of columns and rows as it has shafts and treadles (no program). -/
import Derived.Test.YtbafhdinalapoaaDoorLmt
import Derived.Test.YtbafhdinalapoaaDoorFa
namespace Go.Proofs.YtbafhdinalapoaaDoor
set_option linter.unusedVariables false
set_option linter.unusedSimpArgs false

open L2 (nd ren fst nd_le)
theorem nd_bound (d : Nat → Nat) (m T : Nat) (h : ∀ j, j < m → d j < T) : nd (fun j => (d j : Nat)) m ≤ T := by
  rw [nd_cnt d m T h]; exact cnt_le d m T
theorem nd_same (c d : Nat → Int) (m : Nat) (h : ∀ y z, y < m → z < m → (d y = d z ↔ c y = c z)) : nd c m = nd d m :=
  Nat.le_antisymm (nd_le_nd c d m fun y z hy hz e => (h y z hy hz).1 e) (nd_le_nd d c m fun y z hy hz e => (h y z hy hz).2 e)
theorem nd_comp (g : Nat → Int) (F : Nat → Nat) (n S : Nat) (h : ∀ x, x < n → F x < S) : nd (fun x => g (F x)) n ≤ nd g S := by
  have hk : ∀ x, x < n → (ren g (F x)).toNat < nd g S ∧ ((ren g (F x)).toNat : Int) = ren g (F x) := by
    intro x hx
    obtain ⟨k, e, h1, _⟩ := ren_at g S (F x) (h x hx)
    rw [e]
    exact ⟨by simpa using h1, by simp⟩
  have e : nd (fun x => g (F x)) n = nd (fun x => (((ren g (F x)).toNat : Nat) : Int)) n :=
    nd_same _ _ n fun y z hy hz => by
      show (((ren g (F y)).toNat : Nat) : Int) = (((ren g (F z)).toNat : Nat) : Int) ↔ _
      rw [(hk y hy).2, (hk z hz).2, ren_eq]
  rw [e]
  exact nd_bound (fun x => (ren g (F x)).toNat) n (nd g S) fun j hj => (hk j hj).1
theorem nd_full (c : Nat → Int) (m : Nat) (h : nd c m = m) : ∀ y z, y < m → z < m → c y = c z → y = z := by
  induction m with
  | zero => intro y z hy; omega
  | succ m ih =>
    have h1 := nd_le c m
    unfold nd at h
    by_cases hs : fst c (c m) m < m
    · rw [if_pos hs] at h; omega
    · rw [if_neg hs] at h
      have hm : nd c m = m := by omega
      have hn : ∀ j, j < m → c j ≠ c m := fun j hj e => hs ((seen_iff c (c m) m).2 ⟨j, hj, e⟩)
      intro y z hy hz e
      rcases Nat.lt_or_ge y m with hy' | hy'
      · rcases Nat.lt_or_ge z m with hz' | hz'
        · exact ih hm y z hy' hz' e
        · obtain rfl : z = m := by omega
          exact absurd e (hn y hy')
      · obtain rfl : y = m := by omega
        rcases Nat.lt_or_ge z y with hz' | hz'
        · exact absurd e.symm (hn z hz')
        · omega
theorem cnt_full (d : Nat → Nat) (m T : Nat) (h : cnt d m T = T) : ∀ t, t < T → ∃ j, j < m ∧ d j = t := by
  induction T with
  | zero => intro t ht; omega
  | succ T ih =>
    have h1 := cnt_le d m T
    unfold cnt at h
    by_cases hs : ∃ j, j < m ∧ d j = T
    · rw [if_pos (by simpa using hs)] at h
      intro t ht
      rcases Nat.lt_or_ge t T with h2 | h2
      · exact ih (by omega) t h2
      · obtain rfl : t = T := by omega
        exact hs
    · rw [if_neg (by simpa using hs)] at h; omega
theorem nd_onto (d : Nat → Nat) (m T : Nat) (hd : ∀ j, j < m → d j < T) (h : nd (fun j => (d j : Nat)) m = T) : ∀ t, t < T → ∃ j, j < m ∧ d j = t := by
  rw [nd_cnt d m T hd] at h
  exact cnt_full d m T h
/-- The two ways to say that a draft is least: over columns and rows of the cloth, and over the tie-up. -/
theorem least_iff (n m S T : Nat) (F G : Nat → Nat) (L : Nat → Nat → Bool) (c r ts tc : Nat → Int) (hF : ∀ x, x < n → F x < S) (hG : ∀ y, y < m → G y < T)
    (hc : ∀ x z, x < n → z < n → (c x = c z ↔ ∀ y, y < m → L (G y) (F x) = L (G y) (F z))) (hr : ∀ y z, y < m → z < m → (r y = r z ↔ ∀ x, x < n → L (G y) (F x) = L (G z) (F x)))
    (hts : ∀ s z, s < S → z < S → (ts s = ts z ↔ ∀ t, t < T → L t s = L t z)) (htc : ∀ t z, t < T → z < T → (tc t = tc z ↔ ∀ s, s < S → L t s = L z s)) :
    (nd c n = S ∧ nd r m = T) ↔ (nd (fun x => (F x : Nat)) n = S ∧ nd (fun y => (G y : Nat)) m = T ∧ nd ts S = S ∧ nd tc T = T) := by
  have key : (∀ t, t < T → ∃ y, y < m ∧ G y = t) → nd c n = nd (fun x => ts (F x)) n := fun hon => nd_same _ _ n fun x z hx hz => by
    show ts (F x) = ts (F z) ↔ _
    rw [hts _ _ (hF x hx) (hF z hz), hc x z hx hz]
    constructor
    · intro h y hy; exact h _ (hG y hy)
    · intro h t ht
      obtain ⟨y, hy, rfl⟩ := hon t ht
      exact h y hy
  have key2 : (∀ s, s < S → ∃ x, x < n ∧ F x = s) → nd r m = nd (fun y => tc (G y)) m := fun hon => nd_same _ _ m fun y z hy hz => by
    show tc (G y) = tc (G z) ↔ _
    rw [htc _ _ (hG y hy) (hG z hz), hr y z hy hz]
    constructor
    · intro h x hx; exact h _ (hF x hx)
    · intro h s hs
      obtain ⟨x, hx, rfl⟩ := hon s hs
      exact h x hx
  constructor
  · rintro ⟨h1, h2⟩
    have a1 : nd c n ≤ nd (fun x => (F x : Nat)) n := nd_le_nd _ _ n fun x z hx hz e => (hc x z hx hz).2 fun y hy => by
      have : F x = F z := by exact_mod_cast e
      rw [this]
    have a2 : nd r m ≤ nd (fun y => (G y : Nat)) m := nd_le_nd _ _ m fun y z hy hz e => (hr y z hy hz).2 fun x hx => by
      have : G y = G z := by exact_mod_cast e
      rw [this]
    have b1 := nd_bound F n S hF
    have b2 := nd_bound G m T hG
    have u1 : nd (fun x => (F x : Nat)) n = S := by omega
    have u2 : nd (fun y => (G y : Nat)) m = T := by omega
    have k1 := key (nd_onto G m T hG u2)
    have k2 := key2 (nd_onto F n S hF u1)
    have l1 := nd_comp ts F n S hF
    have l2 := nd_comp tc G m T hG
    have m1 := nd_le ts S
    have m2 := nd_le tc T
    exact ⟨u1, u2, by omega, by omega⟩
  · rintro ⟨u1, u2, h3, h4⟩
    have k1 := key (nd_onto G m T hG u2)
    have k2 := key2 (nd_onto F n S hF u1)
    constructor
    · rw [k1, ← u1]
      exact nd_same _ _ n fun x z hx hz => by
        show ((F x : Nat) : Int) = ((F z : Nat) : Int) ↔ ts (F x) = ts (F z)
        constructor
        · intro e
          have : F x = F z := by exact_mod_cast e
          rw [this]
        · intro e
          rw [nd_full ts S h3 _ _ (hF x hx) (hF z hz) e]
    · rw [k2, ← u2]
      exact nd_same _ _ m fun x z hx hz => by
        show ((G x : Nat) : Int) = ((G z : Nat) : Int) ↔ tc (G x) = tc (G z)
        constructor
        · intro e
          have : G x = G z := by exact_mod_cast e
          rw [this]
        · intro e
          rw [nd_full tc T h4 _ _ (hG x hx) (hG z hz) e]
end Go.Proofs.YtbafhdinalapoaaDoor
