/- A satin turned and mirrored; the place of a number in a list. -/
import Derived.Test.YtmakjdfkldacaaaKnm
import Derived.Test.YtmakjdfkldacaaaIl
import Derived.Test.YtmakjdfkldacaaaCou
import Derived.Test.YtmakjdfkldacaaaSta
import Derived.Test.YtmakjdfkldacaaaPb
namespace Go.Proofs.Ytmakjdfkldacaaa
open Go.RowKit
set_option maxRecDepth 100000
set_option linter.unusedVariables false
set_option linter.unusedSimpArgs false

/-- The place of a number in a list. -/
def pl7 (f : Nat → Int) (x : Int) (m : Nat) : Int := match (List.range m).find? (fun j => decide (f j = x)) with | some j => (j : Int) | none => -1
theorem pl7_hit {f : Nat → Int} {x : Int} {m j : Nat} (hj : j < m) (e : f j = x) (hn : ∀ i, i < j → f i ≠ x) : pl7 f x m = j := by
  have h : (List.range m).find? (fun j => decide (f j = x)) = some j := by
    rw [List.find?_range_eq_some]
    exact ⟨by simpa using e, List.mem_range.2 hj, fun i hi => by simpa using hn i hi⟩
  unfold pl7
  rw [h]
theorem pl7_miss {f : Nat → Int} {x : Int} {m : Nat} (hn : ∀ i, i < m → f i ≠ x) : pl7 f x m = -1 := by
  have h : (List.range m).find? (fun j => decide (f j = x)) = none := by
    rw [List.find?_eq_none]
    intro i hi
    simpa using hn i (List.mem_range.1 hi)
  unfold pl7
  rw [h]
theorem pl7_yes {f : Nat → Int} {x : Int} {m : Nat} (h : ∃ i, i < m ∧ f i = x) : 0 ≤ pl7 f x m := by
  unfold pl7
  cases e : (List.range m).find? (fun j => decide (f j = x)) with
  | some j => exact Int.natCast_nonneg j
  | none =>
    obtain ⟨i, h1, h2⟩ := h
    rw [List.find?_eq_none] at e
    exact absurd h2 (by simpa using e i (List.mem_range.2 h1))
set_option maxHeartbeats 800000 in
theorem place_det (A : Option Addr) (m c : Nat) (f : Nat → Int) (x : Int) (w : World) (hr : L2.Holds w w.heap.size A m f) (hm : m ≤ 5000) :
    Calls Try.prog 36 #[.slice A m c, .int .i64 m, .int .i64 x] w fun e w' => e = .returned (.int .i64 (pl7 f x m)) ∧ w' = w := by
  have HR := Lib.hid hr
  clear hr
  go_enter Try.func36, Try.ntmps36
  go_wp2
  go_loop [7] (fun i => ∃ j : Nat, j ≤ m ∧ i = .int .i64 j ∧ Hid (∀ i, i < j → f i ≠ x)) (fun i => m - (intOf i).toNat)
  case atStart => exact ⟨0, Nat.zero_le _, rfl, Lib.hid (fun i h => absurd h (by omega))⟩
  case round =>
    obtain ⟨j, hj, rfl, hnn⟩ := hrel
    by_cases hlt : j < m
    · obtain ⟨b, o, rfl, hbl, hc⟩ := HR.out (by omega)
      have c1 := hc j (by omega)
      clear hc
      have y2 : (j : Int) < (m : Int) := by omega
      obtain ⟨u, hu⟩ : ∃ u, f j = u := ⟨_, rfl⟩
      rw [hu] at c1
      have HU := Lib.hid hu
      clear hu
      by_cases e : u = x
      · have z : (u == x) = true := by simp [e]
        have HP := Lib.hid (pl7_hit hlt (HU.out.trans e) hnn.out)
        clear e
        go_wp2
        go_ret
        exact ⟨by rw [HP.out]; rfl, rfl⟩
      · have z : (u == x) = false := by simp [e]
        have HN2 := Lib.hid (show ∀ i, i < j + 1 → f i ≠ x from fun i hi => by
          rcases Nat.lt_succ_iff_lt_or_eq.1 hi with h | rfl
          · exact hnn.out i h
          · rw [HU.out]; exact e)
        clear e
        go_wp2
        exact ⟨⟨j + 1, by omega, by go_num, HN2⟩, by simp [intOf]; omega⟩
    · have e : j = m := by omega
      subst e
      have HP := Lib.hid (pl7_miss hnn.out)
      go_wp2
      go_ret
      exact ⟨by rw [HP.out]; rfl, rfl⟩
/-- The number i of a list. -/
def ln7 (l : List Nat) (i : Nat) : Nat := l[i]?.getD 0
theorem lf_ln (l : List Nat) (i : Nat) : lf l i = ((ln7 l i : Nat) : Int) := rfl
theorem ln7_mem {T : Nat → Bool} {k i : Nat} (h : i < (ofl T k).length) : ln7 (ofl T k) i < k ∧ T (ln7 (ofl T k) i) = true := by
  unfold ln7
  rw [List.getElem?_eq_getElem h, Option.getD_some]
  have := List.getElem_mem h
  unfold ofl at this
  obtain ⟨h1, h2⟩ := List.mem_filter.1 this
  exact ⟨List.mem_range.1 h1, h2⟩
theorem ln7_at {T : Nat → Bool} {k m : Nat} (h : m < k) (hT : T m = true) : ∃ i, i < (ofl T k).length ∧ ln7 (ofl T k) i = m := by
  have hm : m ∈ ofl T k := by unfold ofl; exact List.mem_filter.2 ⟨List.mem_range.2 h, hT⟩
  obtain ⟨i, hi, e⟩ := List.mem_iff_getElem.1 hm
  exact ⟨i, hi, by unfold ln7; rw [List.getElem?_eq_getElem hi, Option.getD_some, e]⟩
/-- A move of n is in the list of its moves. -/
theorem place_mv {n m : Nat} (hn : n ≤ 64) (h : mv (n : Nat) (m : Nat) = true) : ∃ p : Nat, ∀ (D : Option Addr) (c : Nat) (w : World), L2.Holds w w.heap.size D (ofl (mT n) n).length (lf (ofl (mT n) n)) →
    Calls Try.prog 36 #[.slice D (ofl (mT n) n).length c, .int .i64 (ofl (mT n) n).length, .int .i64 (m : Nat)] w fun e w' => e = .returned (.int .i64 (p : Nat)) ∧ Below w.heap.size w w' := by
  obtain ⟨a, b, ha, hb, h5, h64, h2, hm, hg⟩ := mv_nat h
  obtain ⟨i, hi, e⟩ := ln7_at (T := mT n) (k := n) (m := m) (by omega) h
  have h0 := pl7_yes (f := lf (ofl (mT n) n)) (x := (m : Int)) (m := (ofl (mT n) n).length) ⟨i, hi, by rw [lf_ln, e]⟩
  obtain ⟨p, hp⟩ := Int.eq_ofNat_of_zero_le h0
  have hl := ofl_len (mT n) n
  refine ⟨p, fun D c w hL => (place_det D _ c _ _ w hL (by omega)).mono fun e w' ⟨k1, k2⟩ => ⟨by rw [k1, hp], by rw [k2]; exact Below.refl _ _⟩⟩
/-- The least inverse of a move, as the statement seeks it. -/
theorem inv_least {n m : Nat} (hn : n < 21) (hm : m < n) (h2 : 2 ≤ n) (hg : Nat.gcd n m = 1) : ∃ k, k < n ∧ (1 ≤ k ∧ m * k % n = 1) ∧ ∀ i, i < k → ¬ (1 ≤ i ∧ m * i % n = 1) := by
  obtain ⟨j, hj, hjm⟩ := inv_ex n hn m hm h2 hg
  have j1 : 1 ≤ j := by
    rcases Nat.eq_zero_or_pos j with rfl | h
    · simp at hjm
    · exact h
  obtain ⟨k, hk, hp, hl⟩ := least_ex (p := fun k => 1 ≤ k ∧ m * k % n = 1) j ⟨j1, hjm⟩
  exact ⟨k, by omega, hp, hl⟩
theorem mv_mk {n m : Nat} (h5 : 5 ≤ n) (h64 : n ≤ 64) (h2 : 2 ≤ m) (hm : m + 2 ≤ n) (hg : ∀ d, d ∣ n → d ∣ m → d ∣ 1) : mv (n : Nat) (m : Nat) = true := by
  rw [mv_gcd h5 h64 h2 hm]
  simpa using Nat.dvd_one.1 (hg _ (Nat.gcd_dvd_left n m) (Nat.gcd_dvd_right n m))
theorem inv_mv {n m k : Nat} (h5 : 5 ≤ n) (h64 : n ≤ 64) (h2 : 2 ≤ m) (hm : m + 2 ≤ n) (hk : k < n) (h : m * k % n = 1) : mv (n : Nat) (k : Nat) = true := by
  have k0 : k ≠ 0 := fun e => by subst e; simp at h
  have k1 : k ≠ 1 := fun e => by subst e; rw [Nat.mul_one, Nat.mod_eq_of_lt (by omega)] at h; omega
  have k2 : k ≠ n - 1 := fun e => by
    have e1 : m * k + m = m * n := by rw [← Nat.mul_succ, e]; congr 1; omega
    have e2 : (m * k + m) % n = 0 := by rw [e1]; exact Nat.mul_mod_left m n
    rw [Nat.add_mod, h, Nat.mod_eq_of_lt (show m < n by omega), Nat.mod_eq_of_lt (by omega)] at e2
    omega
  refine mv_mk h5 h64 (by omega) (by omega) fun d h1 h3 => ?_
  have h4 : d ∣ m * k % n := (Nat.dvd_mod_iff h1).2 (Nat.dvd_trans h3 (Nat.dvd_mul_left k m))
  rwa [h] at h4
theorem opp_mv {n m : Nat} (h5 : 5 ≤ n) (h64 : n ≤ 64) (h2 : 2 ≤ m) (hm : m + 2 ≤ n) (hg : Nat.gcd n m = 1) : mv (n : Nat) ((n - m : Nat) : Nat) = true := by
  refine mv_mk h5 h64 (by omega) (by omega) fun d h1 h3 => ?_
  have h4 : d ∣ m := by
    have := Nat.dvd_sub h1 h3
    rwa [show n - (n - m) = m by omega] at this
  rw [← hg]
  exact Nat.dvd_gcd h1 h4
/-- Turned. -/
theorem stf_tn {n m k i : Nat} (hk : m * k % n = 1) (hi : i < n * n) : stf n m (i % n * n + i / n) = stf n k i := by
  have hn : 0 < n := by rcases Nat.eq_zero_or_pos n with rfl | h; simp at hi; exact h
  have h1 : i / n < n := (Nat.div_lt_iff_lt_mul hn).2 hi
  have h2 : i % n < n := Nat.mod_lt _ hn
  unfold stf
  rw [(at_xy h1).1, (at_xy h1).2]
  congr 1
  exact propext (inv_iff hk h1 h2)
/-- Mirrored. -/
theorem stf_m0 {n m : Nat} (hm : m ≤ n) (hn : 1 ≤ n) : Sat n (n - m) (-1) true (fun i => stf n m (i / n * n + (n - 1 - i % n))) := by
  intro x y
  have h := stf_sat (n := n) (m := m) hn ((n : Int) - 1 - x) y
  have hx0 := Int.emod_nonneg x (show (n : Int) ≠ 0 by omega)
  have hx1 := Int.emod_lt_of_pos x (show 0 < (n : Int) by omega)
  have hy0 := Int.emod_nonneg y (show (n : Int) ≠ 0 by omega)
  obtain ⟨a, ha⟩ := Int.eq_ofNat_of_zero_le hx0
  obtain ⟨b, hb⟩ := Int.eq_ofNat_of_zero_le hy0
  have han : a < n := by omega
  have e1 : ((n : Int) - 1 - x) % n = ((n - 1 - a : Nat) : Int) := by
    have := Int.emod_add_mul_ediv x n
    rw [ha] at this
    rw [show (n : Int) - 1 - x = ((n - 1 - a : Nat) : Int) + n * (-(x / n)) by rw [Int.mul_neg]; (try simp only [Int.ofNat_eq_natCast] at this); omega, Int.add_mul_emod_self_left]
    exact Int.emod_eq_of_lt (by omega) (by omega)
  rw [pz_lt, e1, hb] at h
  rw [pz_lt, ha, hb]
  simp only [Int.ofNat_eq_natCast, Int.toNat_natCast] at h ⊢
  rw [(at_xy han).1, (at_xy han).2, h]
  congr 2
  apply propext
  have e2 : ((n - m : Nat) : Int) = (n : Int) - m := by omega
  rw [e2]
  have e3 : (n : Int) - 1 - x - m * y - 0 = -(x - ((n : Int) - m) * y - -1) + n * (1 - y) := by rw [Int.sub_mul, Int.mul_sub]; omega
  rw [e3, Int.add_mul_emod_self_left]
  constructor
  · intro k
    have := Int.dvd_neg.2 (Int.dvd_of_emod_eq_zero k)
    rw [Int.neg_neg] at this
    exact Int.emod_eq_zero_of_dvd this
  · intro k
    exact Int.emod_eq_zero_of_dvd (Int.dvd_neg.2 (Int.dvd_of_emod_eq_zero k))
/-- Two satins of the same number and move have an offset. -/
theorem sat_mt {n m : Nat} {f g : Nat → Bool} (h : Sat n m (-1) true f) (k : Sat n m 0 true g) : Mt n n f n n g ((1 : Nat) : Int) ((0 : Nat) : Int) := fun x y => by
  rw [h, k]
  congr 3
  have e : x - m * y - -1 = x + ((1 : Nat) : Int) - m * (y + ((0 : Nat) : Int)) - 0 := by simp; omega
  rw [e]
theorem fout_ok {n m : Nat} {f g : Nat → Bool} (h : Sat n m (-1) true f) (k : Sat n m 0 true g) : ∃ a b : Int, FOut2 n n f n n g a b 0 := by
  obtain ⟨a, b, z, hF⟩ := FOut2.ex n n f n n g
  rcases hF with hF | hF
  · obtain ⟨p, q, h1, h2, h3, rfl⟩ := hF
    exact ⟨a, b, .inl ⟨p, q, h1, h2, h3, rfl⟩⟩
  · exact absurd (sat_mt h k) (hF.1 1 0)
end Go.Proofs.Ytmakjdfkldacaaa
