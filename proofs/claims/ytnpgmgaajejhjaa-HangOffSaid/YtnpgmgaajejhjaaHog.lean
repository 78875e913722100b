/- HangOff: the two halves put together. -/
import Derived.Test.YtnpgmgaajejhjaaHof
namespace Go.Proofs.Ytnpgmgaajejhjaa
open Go.RowKit
set_option maxRecDepth 100000
set_option linter.unusedVariables false
set_option linter.unusedSimpArgs false

theorem off10_any (W H : Int) (A : Option Addr) (n c : Nat) (f : Nat → Bool) (D : Option Addr) (m d : Nat) (s : Nat → Int) (E : Option Addr) (k e : Nat) (l : Nat → Int) (w : World) (hg : Holds w w.heap.size A n f) (hs : L2.Holds w w.heap.size D m s) (hl : L2.Holds w w.heap.size E k l) :
    Calls Try.prog 15 #[.agg #[.int .i64 W, .int .i64 H, .slice A n c], .slice D m d, .slice E k e] w fun e w' => e = .returned (.bool true) ∧ Below w.heap.size w w' := by
  by_cases hgr : grt W H n = true
  · exact of_inv W H A n c D m d E k e w (valid_no (.inl hgr))
  have hgf : grt W H n = false := by simpa using hgr
  by_cases hz : chk W H n = 0
  · have HV := fun u => valid_yes (A := A) (c := c) hgf hz u
    by_cases hm : 40 < m
    · exact of_long W H A n c D m d E k e w HV hm
    by_cases hk : 40 < k
    · exact of_wide W H A n c D m d E k e w HV hm hk
    obtain ⟨x, y, rfl, rfl, rfl, h1, h2, h3, h4⟩ := chk_nat hz
    have hgu : ∀ u, Below w.heap.size w u → Holds u u.heap.size A (x * y) f := fun u hu => (hg.below hu).more hu.size
    have hsu : ∀ u, Below w.heap.size w u → L2.Holds u u.heap.size D m s := fun u hu => (hs.below hu).more hu.size
    have hlu : ∀ u, Below w.heap.size w u → L2.Holds u u.heap.size E k l := fun u hu => (hl.below hu).more hu.size
    have HA := fun u (hu : Below w.heap.size w u) => rset_any x y A (x * y) c D m d s u h2 h4 (by omega) (hsu u hu)
    have HB := fun u (hu : Below w.heap.size w u) => rset_any x y A (x * y) c E k e l u h2 h4 (by omega) (hlu u hu)
    cases ha : setB (x + y) m s
    · rw [ha] at HA
      exact of_sa _ _ A _ c D m d E k e w HV hm hk HA
    rw [ha] at HA
    cases hb : setB (x + y) k l
    · rw [hb] at HB
      exact of_sb _ _ A _ c D m d E k e w HV hm hk HA HB
    rw [hb] at HB
    have rg : ∀ {n : Nat} {f : Nat → Int}, setB (x + y) n f = true → ∀ i, i < n → 0 ≤ f i ∧ f i < ((x + y : Nat) : Int) := fun h i hi => by
      unfold setB at h
      rw [decide_eq_true_iff] at h
      exact (h i hi).1
    have HO := fun (T : Nat → Bool) u D9 d9 (hu : Below w.heap.size w u) (hL : LL u D9 (ofl T (x + y))) => poff_t x y A c f D9 _ d9 _ u (hgu u hu) h1 h2 h3 h4 (by have := ofl_len T (x + y); omega) hL setB_ofl
    exact of_main _ _ A _ c D m d E k e w HV hm hk HA HB (x + y) (by omega) (mem m s) (mem k l) _ _ _ _ (fun i => !f i) _ _ _ rfl rfl rfl
      (fun u hu => poff_t x y A c f D m d s u (hgu u hu) h1 h2 h3 h4 (by omega) (hsu u hu) ha)
      (fun u hu => poff_t x y A c f E k e l u (hgu u hu) h1 h2 h3 h4 (by omega) (hlu u hu) hb)
      (fun u hu => marks_any x y A (x * y) c D m d s u h2 h4 (by omega) (hsu u hu) (rg ha))
      (fun u hu => marks_any x y A (x * y) c E k e l u h2 h4 (by omega) (hlu u hu) (rg hb))
      (HO _) (HO _)
      (fun u hu => not_ok x y A c f u (hgu u hu) h1 h2 h3 h4)
      (fun u kn D9 d9 hu hR hL => by
        have h := poff_t x y (some ⟨kn, 0, none⟩) (x * y) (fun i => !f i) D9 _ d9 _ u (hR.holds hR.lt) h1 h2 h3 h4 (by have := ofl_len (fun a => !mem m s a) (x + y); omega) hL setB_ofl
        rwa [off_com ha] at h)
      (fun hx hy => by
        have p := (off_P ha).1 hx
        have q := (off_P hb).1 hy
        constructor
        · by_cases hl2 : (ofl (fun a => mem m s a || mem k l a) (x + y)).length < x + y
          · exact .inl (off_or p q hl2)
          · exact .inr hl2
        · by_cases hl1 : 0 < (ofl (fun a => mem m s a && mem k l a) (x + y)).length
          · exact .inl (off_and p q hl1)
          · exact .inr (by omega))
  · exact of_inv W H A n c D m d E k e w (valid_no (.inr hz))
end Go.Proofs.Ytnpgmgaajejhjaa
