/- The walk of the statement ThreadTurns. -/
import Derived.Test.YtcmpoblbjjoaiaaDoorBkw
import Derived.Test.YtcmpoblbjjoaiaaDoorUsd
import Derived.Test.YtcmpoblbjjoaiaaDoorRtl
namespace Go.Proofs.YtcmpoblbjjoaiaaDoor
open Go.RowKit
set_option linter.unusedVariables false
set_option linter.unusedSimpArgs false
set_option maxRecDepth 100000

theorem rsame_is {A D : Option Addr} {n c d : Nat} {f g : Nat → Int} {w : World} (hn : n ≤ 5000) (hr : Holds w w.heap.size A n f) (hs : Holds w w.heap.size D n g) (h : ∀ i, i < n → f i = g i) :
    Calls Tryd.prog 27 #[.slice A n c, .slice D n d] w fun e w' => e = .returned (.bool true) ∧ Below w.heap.size w w' := by
  have hx := rsame_any A D n c d f g w hn hr hs
  have e : decide (∀ i, i < n → f i = g i) = true := by simpa using h
  rw [e] at hx
  exact hx
theorem both_ok {n m : Nat} {f g : Nat → Int} (hf : ∀ i, i < n → 0 ≤ f i ∧ f i < 400) (hg : ∀ i, i < m → 0 ≤ g i ∧ g i < 400) : ∀ i, i < n + m → 0 ≤ both n f g i ∧ both n f g i < 400 := by
  intro i hi
  unfold both
  split
  · exact hf i (by assumption)
  · exact hg _ (by omega)
theorem rev_ok2 {n : Nat} {f : Nat → Int} (hf : ∀ i, i < n → 0 ≤ f i ∧ f i < 400) : ∀ i, i < n → 0 ≤ f (n - 1 - i) ∧ f (n - 1 - i) < 400 := fun i hi => hf _ (by omega)
theorem bchk_of {n m : Nat} {f g : Nat → Int} (h1 : lchk n f = 0) (h2 : lchk m g = 0) : bchk n f m g = 0 := by
  unfold bchk
  rw [if_neg (by simp [h1]), h2]
theorem nd_both {n m : Nat} {f g : Nat → Int} (hf : ∀ i, i < n → 0 ≤ f i ∧ f i < 400) (hg : ∀ i, i < m → 0 ≤ g i ∧ g i < 400) :
    nd f n ≤ nd (both n f g) (n + m) ∧ nd g m ≤ nd (both n f g) (n + m) ∧ nd (both n f g) (n + m) ≤ nd f n + nd g m := by
  rw [nd_count (N := 400) hf, nd_count (N := 400) hg, nd_count (N := 400) (both_ok hf hg)]
  have e1 : ∀ v, inl f n v = true → inl (both n f g) (n + m) v = true := by
    intro v h
    obtain ⟨i, hi, e⟩ := of_decide_eq_true h
    exact decide_eq_true ⟨i, by omega, by rw [both, if_pos hi]; exact e⟩
  have e2 : ∀ v, inl g m v = true → inl (both n f g) (n + m) v = true := by
    intro v h
    obtain ⟨i, hi, e⟩ := of_decide_eq_true h
    exact decide_eq_true ⟨n + i, by omega, by rw [both, if_neg (by omega), show n + i - n = i by omega]; exact e⟩
  refine ⟨cntr_le fun v _ => e1 v, cntr_le fun v _ => e2 v, cntr_or fun v _ h => ?_⟩
  obtain ⟨i, hi, e⟩ := of_decide_eq_true h
  unfold both at e
  by_cases h1 : i < n
  · rw [if_pos h1] at e
    exact .inl (decide_eq_true ⟨i, h1, e⟩)
  · rw [if_neg h1] at e
    exact .inr (decide_eq_true ⟨i - n, by omega, e⟩)
theorem rev_both {n m : Nat} {f g : Nat → Int} : ∀ i, i < n + m → both n f g (n + m - 1 - i) = both m (fun x => g (m - 1 - x)) (fun x => f (n - 1 - x)) i := by
  intro i hi
  unfold both
  by_cases h : i < m
  · rw [if_neg (by omega), if_pos h]
    congr 1
    omega
  · rw [if_pos (by omega), if_neg h]
    congr 1
    omega

set_option maxHeartbeats 800000 in
theorem turns_skip (A : Option Addr) (n c : Nat) (f : Nat → Int) (D : Option Addr) (m d : Nat) (g : Nat → Int) (t : Int) (w : World) (hr : Holds w w.heap.size A n f) (hs : Holds w w.heap.size D m g) (he : Env w)
    (h : vl n f = false ∨ (vl n f = true ∧ vl m g = false) ∨ (vl n f = true ∧ vl m g = true ∧ t < 0) ∨ (vl n f = true ∧ vl m g = true ∧ ¬ t < 0 ∧ 3 < t)) :
    Calls Tryd.prog 7 #[.slice A n c, .slice D m d, .int .i64 t] w fun e w' => e = .returned (.bool true) ∧ Below w.heap.size w w' := by
  have HE := Lib.hid he
  have HS := Lib.hid hs
  rcases h with h | ⟨h, h2⟩ | ⟨h, h2, h3⟩ | ⟨h, h2, h3, h4⟩
  · have HV := Lib.hid (valid_is c h w hr)
    clear h hr hs he
    go_enter Tryd.func7, Tryd.ntmps7
    go_wp2_with fail
    refine HV.out.mono ?_
    rintro e u0 ⟨rfl, hb⟩
    have L0 := Lib.hid hb
    clear hb
    go_wp2_with fail
    refine (alive_any _ (HE.out.next L0.out)).mono ?_
    rintro e u2 ⟨rfl, hb⟩
    have L2 := Lib.hid (L0.out.trans (hb.mono L0.out.size))
    clear hb
    go_wp2
    go_ret
    exact ⟨rfl, L2.out⟩
  · have HV := Lib.hid (valid_is c h w hr)
    have HW := Lib.hid (fun (w' : World) (hb : Below w.heap.size w w') => valid_is d h2 w' ((hs.below hb).more hb.size))
    clear h hr hs he h2
    go_enter Tryd.func7, Tryd.ntmps7
    go_wp2_with fail
    refine HV.out.mono ?_
    rintro e u0 ⟨rfl, hb⟩
    have L0 := Lib.hid hb
    clear hb
    go_wp2_with fail
    refine (HW.out _ L0.out).mono ?_
    rintro e u1 ⟨rfl, hb⟩
    have L1 := Lib.hid (L0.out.trans (hb.mono L0.out.size))
    clear hb
    go_wp2_with fail
    refine (alive_any _ (HE.out.next L1.out)).mono ?_
    rintro e u2 ⟨rfl, hb⟩
    have L2 := Lib.hid (L1.out.trans (hb.mono L1.out.size))
    clear hb
    go_wp2
    go_ret
    exact ⟨rfl, L2.out⟩
  · have HV := Lib.hid (valid_is c h w hr)
    have HW := Lib.hid (fun (w' : World) (hb : Below w.heap.size w w') => valid_is d h2 w' ((hs.below hb).more hb.size))
    have d3 : decide (t < 0) = true := by simp [h3]
    clear h hr hs he h2 h3
    go_enter Tryd.func7, Tryd.ntmps7
    go_wp2_with fail
    refine HV.out.mono ?_
    rintro e u0 ⟨rfl, hb⟩
    have L0 := Lib.hid hb
    clear hb
    go_wp2_with fail
    refine (HW.out _ L0.out).mono ?_
    rintro e u1 ⟨rfl, hb⟩
    have L1 := Lib.hid (L0.out.trans (hb.mono L0.out.size))
    clear hb
    go_wp2_with fail
    refine (alive_any _ (HE.out.next L1.out)).mono ?_
    rintro e u2 ⟨rfl, hb⟩
    have L2 := Lib.hid (L1.out.trans (hb.mono L1.out.size))
    clear hb
    go_wp2
    go_ret
    exact ⟨rfl, L2.out⟩
  · have HV := Lib.hid (valid_is c h w hr)
    have HW := Lib.hid (fun (w' : World) (hb : Below w.heap.size w w') => valid_is d h2 w' ((hs.below hb).more hb.size))
    have d3 : decide (t < 0) = false := by simp; omega
    have d4 : decide (3 < t) = true := by simp [h4]
    clear h hr hs he h2 h3 h4
    go_enter Tryd.func7, Tryd.ntmps7
    go_wp2_with fail
    refine HV.out.mono ?_
    rintro e u0 ⟨rfl, hb⟩
    have L0 := Lib.hid hb
    clear hb
    go_wp2_with fail
    refine (HW.out _ L0.out).mono ?_
    rintro e u1 ⟨rfl, hb⟩
    have L1 := Lib.hid (L0.out.trans (hb.mono L0.out.size))
    clear hb
    go_wp2_with fail
    refine (alive_any _ (HE.out.next L1.out)).mono ?_
    rintro e u2 ⟨rfl, hb⟩
    have L2 := Lib.hid (L1.out.trans (hb.mono L1.out.size))
    clear hb
    go_wp2
    go_ret
    exact ⟨rfl, L2.out⟩

set_option maxHeartbeats 3200000 in
theorem turns_main (A : Option Addr) (n c : Nat) (f : Nat → Int) (D : Option Addr) (m d : Nat) (g : Nat → Int) (T : Nat) (w : World) (hA : A = none → c = 0) (hD : D = none → d = 0) (hr : Holds w w.heap.size A n f) (hs : Holds w w.heap.size D m g) (he : Env w)
    (h1 : vl n f = true) (h2 : vl m g = true) (hT : T ≤ 3) :
    Calls Tryd.prog 7 #[.slice A n c, .slice D m d, .int .i64 T] w fun e w' => e = .returned (.bool true) ∧ Below w.heap.size w w' := by
  obtain ⟨hn, hx⟩ := vl_yes h1
  obtain ⟨hm, hy⟩ := vl_yes h2
  have hf := lchk_zero hx
  have hg := lchk_zero hy
  obtain ⟨q1, q2, q3⟩ := nd_both hf hg
  have q4 := nd_le f n
  have q5 := nd_le g m
  have HE := Lib.hid he
  have HR := Lib.hid hr
  have HS := Lib.hid hs
  have HV := Lib.hid (valid_is c h1 w hr)
  have HW := Lib.hid (fun (w' : World) (hb : Below w.heap.size w w') => valid_is d h2 w' (later hs hb))
  have HC1 := Lib.hid (fun (w' : World) (hb : Below w.heap.size w w') => join_ok A n c f D m d g w' (later hr hb) (later hs hb) hA hD (by omega) (by omega) (bchk_of hx hy) (by omega))
  have HC2 := Lib.hid (fun (w' : World) (hb : Below w.heap.size w w') => rev_ok A n c f w' (by omega) (later hr hb) hx)
  have HC3 := Lib.hid (fun (w' : World) (hb : Below w.heap.size w w') => rev_ok D m d g w' (by omega) (later hs hb) hy)
  have ha := lchk_of (n := n) (by omega) (rev_ok2 hf)
  have hb' := lchk_of (n := m) (by omega) (rev_ok2 hg)
  have hc := lchk_of (n := n + m) (by omega) (both_ok hf hg)
  have HC4 := Lib.hid (fun (w' : World) (B : Option Addr) (k : Nat) (h : Holds w' w'.heap.size B n (fun x => f (n - 1 - x))) => rev_ok B n k _ w' (by omega) h ha)
  have HC5 := Lib.hid (fun (w' : World) (B : Option Addr) (k : Nat) (h : Holds w' w'.heap.size B (n + m) (both n f g)) => rev_ok B (n + m) k _ w' (by omega) h hc)
  have HC6 := Lib.hid (fun (w' : World) (B C : Option Addr) (k l : Nat) (hB : B = none → k = 0) (hC : C = none → l = 0) (h : Holds w' w'.heap.size B m (fun x => g (m - 1 - x))) (h' : Holds w' w'.heap.size C n (fun x => f (n - 1 - x))) =>
    (show Calls Tryd.prog 11 #[.slice B m k, .slice C n l] w' (LOut w' (n + m) (both m (fun x => g (m - 1 - x)) (fun x => f (n - 1 - x))) 0) from by
      have hq := join_ok B m k _ C n l _ w' h h' hB hC (by omega) (by omega) (bchk_of hb' ha) (by omega)
      rw [Nat.add_comm m n] at hq
      exact hq))
  have HS1 := Lib.hid (fun (w' : World) (B : Option Addr) (k : Nat) (hb : Below w.heap.size w w') (h : Holds w' w'.heap.size B n (fun x => (fun x => f (n - 1 - x)) (n - 1 - x))) => rsame_is (c := k) (d := c) (w := w') (by omega) h (later hr hb) (fun i hi => show f (n - 1 - (n - 1 - i)) = f i by congr 1; omega))
  have HS2 := Lib.hid (fun (w' : World) (B C : Option Addr) (k l : Nat) (h : Holds w' w'.heap.size B (n + m) (fun x => both n f g (n + m - 1 - x))) (h' : Holds w' w'.heap.size C (n + m) (both m (fun x => g (m - 1 - x)) (fun x => f (n - 1 - x)))) => rsame_is (c := k) (d := l) (w := w') (by omega) h h' (fun i hi => rev_both i hi))
  have HC7 := Lib.hid (fun (w' : World) (hb : Below w.heap.size w w') => tile_ok A n c f T w' (later hr hb) (by omega) hx (fun h0 => by
    have h3 : 3 ≤ 400 / n := by rw [Nat.le_div_iff_mul_le h0]; omega
    have h4 : ((400 / n : Nat) : Int) = 400 / (n : Int) := Int.natCast_ediv 400 n
    omega))
  have HU1 := Lib.hid (fun (w' : World) (hb : Below w.heap.size w w') => used_ok A n c f w' (later hr hb) hx)
  have HU2 := Lib.hid (fun (w' : World) (B : Option Addr) (k : Nat) (h : Holds w' w'.heap.size B (n + m) (both n f g)) => used_ok B (n + m) k _ w' h hc)
  have HU3 := Lib.hid (fun (w' : World) (hb : Below w.heap.size w w') => used_ok D m d g w' (later hs hb) hy)
  have HJ := Lib.hid (fun (w' : World) (B : Option Addr) (k l : Nat) (hk : k < T) (hB : B = none → l = 0) (hb : Below w.heap.size w w') (h : Holds w' w'.heap.size B (k * n) (fun x => f (x % n))) =>
    join_ok B (k * n) l _ A n c f w' h (later hr hb) hB hA (by have := Nat.mul_le_mul_right n (show k ≤ 3 by omega); omega) (by omega)
      (bchk_of (lchk_of (by have := Nat.mul_le_mul_right n (show k ≤ 3 by omega); omega) fun i hi => by
        rcases Nat.eq_zero_or_pos n with h0 | h0
        · subst h0; simp at hi
        · exact hf _ (Nat.mod_lt _ h0)) hx) (by have := Nat.mul_le_mul_right n (show k ≤ 3 by omega); omega))
  have d3 : decide ((T : Int) < 0) = false := by simp
  have d4 : decide ((3 : Int) < (T : Int)) = false := by simp; omega
  clear h1 h2 hx hy hf hg hA hD hr hs he ha hb' hc
  generalize hN1 : nd f n = N1 at *
  generalize hN2 : nd g m = N2 at *
  generalize hN3 : nd (both n f g) (n + m) = N3 at *
  clear hN1 hN2 hN3
  go_enter Tryd.func7, Tryd.ntmps7
  go_wp2_with fail
  refine HV.out.mono ?_
  rintro e v0 ⟨rfl, hb⟩
  have L0 := Lib.hid hb
  clear hb
  go_wp2_with fail
  refine (HW.out _ L0.out).mono ?_
  rintro e u0 ⟨rfl, hb⟩
  have L00 := Lib.hid (L0.out.trans (hb.mono L0.out.size))
  clear hb L0 HV HW
  go_wp2_with fail
  refine (HC1.out _ L00.out).mono ?_
  rintro e u1 ⟨Aab, cab, rfl, hnil, hrow, hb⟩
  have hv := LV.of hrow
  have L1 := Lib.hid (L00.out.trans (hb.mono L00.out.size))
  clear hb L00
  have Vab1 := Lib.hid hv
  have Zab := Lib.hid hnil
  clear hv hrow hnil
  go_wp2_with fail
  refine (HC2.out _ L1.out).mono ?_
  rintro e u2 ⟨Ara, cra, rfl, hnil, hrow, hb⟩
  have hv := LV.of hrow
  have L2 := Lib.hid (L1.out.trans (hb.mono L1.out.size))
  have Vab2 := Lib.hid (Vab1.out.next hb)
  clear hb L1 Vab1
  have Vra2 := Lib.hid hv
  have Zra := Lib.hid hnil
  clear hv hrow hnil
  go_wp2_with fail
  refine (HC3.out _ L2.out).mono ?_
  rintro e u3 ⟨Arb, crb, rfl, hnil, hrow, hb⟩
  have hv := LV.of hrow
  have L3 := Lib.hid (L2.out.trans (hb.mono L2.out.size))
  have Vab3 := Lib.hid (Vab2.out.next hb)
  have Vra3 := Lib.hid (Vra2.out.next hb)
  clear hb L2 Vab2 Vra2
  have Vrb3 := Lib.hid hv
  have Zrb := Lib.hid hnil
  clear hv hrow hnil
  go_wp2_with fail
  refine (HC4.out _ _ _ Vra3.out.holds).mono ?_
  rintro e u4 ⟨Abk, cbk, rfl, hnil, hrow, hb⟩
  have hv := LV.of hrow
  have L4 := Lib.hid (L3.out.trans (hb.mono L3.out.size))
  have Vab4 := Lib.hid (Vab3.out.next hb)
  have Vra4 := Lib.hid (Vra3.out.next hb)
  have Vrb4 := Lib.hid (Vrb3.out.next hb)
  clear hb L3 Vab3 Vra3 Vrb3
  have Vbk4 := Lib.hid hv
  have Zbk := Lib.hid hnil
  clear hv hrow hnil
  go_wp2_with fail
  refine (HC5.out _ _ _ Vab4.out.holds).mono ?_
  rintro e u5 ⟨Axx, cxx, rfl, hnil, hrow, hb⟩
  have hv := LV.of hrow
  have L5 := Lib.hid (L4.out.trans (hb.mono L4.out.size))
  have Vab5 := Lib.hid (Vab4.out.next hb)
  have Vra5 := Lib.hid (Vra4.out.next hb)
  have Vrb5 := Lib.hid (Vrb4.out.next hb)
  have Vbk5 := Lib.hid (Vbk4.out.next hb)
  clear hb L4 Vab4 Vra4 Vrb4 Vbk4
  have Vxx5 := Lib.hid hv
  have Zxx := Lib.hid hnil
  clear hv hrow hnil
  go_wp2_with fail
  refine (HC6.out _ _ _ _ _ Zrb.out Zra.out Vrb5.out.holds Vra5.out.holds).mono ?_
  rintro e u6 ⟨Ayy, cyy, rfl, hnil, hrow, hb⟩
  have hv := LV.of hrow
  have L6 := Lib.hid (L5.out.trans (hb.mono L5.out.size))
  have Vab6 := Lib.hid (Vab5.out.next hb)
  have Vbk6 := Lib.hid (Vbk5.out.next hb)
  have Vxx6 := Lib.hid (Vxx5.out.next hb)
  clear hb L5 Vra5 Vrb5 Vab5 Vbk5 Vxx5
  have Vyy6 := Lib.hid hv
  have Zyy := Lib.hid hnil
  clear hv hrow hnil
  go_wp2_with fail
  refine (HS1.out _ _ _ L6.out Vbk6.out.holds).mono ?_
  rintro e u7 ⟨rfl, hb⟩
  have L7 := Lib.hid (L6.out.trans (hb.mono L6.out.size))
  have Vab7 := Lib.hid (Vab6.out.next hb)
  have Vxx7 := Lib.hid (Vxx6.out.next hb)
  have Vyy7 := Lib.hid (Vyy6.out.next hb)
  clear hb L6 Vbk6 Vab6 Vxx6 Vyy6
  go_wp2_with fail
  refine (HS2.out _ _ _ _ _ Vxx7.out.holds Vyy7.out.holds).mono ?_
  rintro e u8 ⟨rfl, hb⟩
  have L8 := Lib.hid (L7.out.trans (hb.mono L7.out.size))
  have Vab8 := Lib.hid (Vab7.out.next hb)
  clear hb L7 Vxx7 Vyy7 Vab7
  clear HC1 HC2 HC3 HC4 HC5 HC6 HS1 HS2 Zra Zrb Zbk Zxx Zyy
  have K0 := Lib.hid (⟨L8.out, _, _, Vab8.out⟩ : Below w.heap.size w u8 ∧ ∃ lo hi, LV u8 lo hi Aab (n + m) (both n f g))
  clear L8 Vab8
  go_wp2
  go_loopw [19, 20] (fun v i wr => ∃ (k : Nat) (B : Option Addr) (l : Nat), k ≤ T ∧ i = .int .i64 k ∧ v = .slice B (k * n) l ∧ Hid (B = none → l = 0) ∧ Hid (Holds wr wr.heap.size B (k * n) (fun x => f (x % n))) ∧ Hid (Below w.heap.size w wr ∧ ∃ lo hi, LV wr lo hi Aab (n + m) (both n f g))) (fun _ i _ => T - (intOf i).toNat)
  case atStart => exact ⟨0, none, 0, Nat.zero_le _, rfl, by rw [Nat.zero_mul], Lib.hid fun _ => rfl, Lib.hid (by rw [Nat.zero_mul]; exact Holds.none_), K0⟩
  case round =>
    obtain ⟨k, B, l, hk, rfl, rfl, hB, hh, hK⟩ := hrel
    by_cases hlt : k < T
    · have y1 : (k : Int) < (T : Int) := by omega
      have HQ := Lib.hid (HJ.out _ B k l hlt hB.out hK.out.1 hh.out)
      obtain ⟨b0, lo, hi, vab⟩ := hK.out
      have HB0 := Lib.hid b0
      have HVA := Lib.hid vab
      obtain ⟨P, hP⟩ : ∃ P, k * n = P := ⟨_, rfl⟩
      have HP := Lib.hid (show (k + 1) * n = P + n by rw [Nat.add_mul, Nat.one_mul, hP])
      have HP2 := Lib.hid hP
      rw [hP] at HQ
      clear b0 vab hB hh hK hP K0
      go_wp2_with fail
      rw [HP2.out]
      refine HQ.out.mono ?_
      rintro e w2 ⟨B2, l2, rfl, hnil, hrow, hb⟩
      have HN := Lib.hid hnil
      have HR2 := Lib.hid ((LV.of hrow).holds)
      have HK := Lib.hid (⟨HB0.out.trans (hb.mono HB0.out.size), lo, hi, HVA.out.next hb⟩ : Below w.heap.size w w2 ∧ ∃ lo hi, LV w2 lo hi Aab (n + m) (both n f g))
      clear hnil hrow hb
      go_wp2
      refine ⟨⟨k + 1, B2, l2, by omega, by go_num, by rw [HP.out], HN, Lib.hid ?_, HK⟩, by simp [intOf]; omega⟩
      rw [HP.out]
      have h2 := HR2.out
      intro h0
      obtain ⟨b, o, e, hlt2, hc⟩ := h2 h0
      refine ⟨b, o, e, hlt2, fun i hi => ?_⟩
      rw [hc i hi]
      rcases Nat.eq_zero_or_pos n with hn0 | hn0
      · have h3 : P = 0 := by rw [← HP2.out, hn0, Nat.mul_zero]
        omega
      · have := tile_step (n := n) (k := k) (f := f) hn0 i (by rw [HP2.out]; exact hi)
        rw [HP2.out] at this
        rw [this]
    · have e : T = k := by omega
      subst e
      have HB2 := Lib.hid (show Holds wr wr.heap.size B (n * T) (fun x => f (x % n)) by rw [Nat.mul_comm]; exact hh.out)
      have HBL := Lib.hid hK.out.1
      obtain ⟨lo, hi, vab⟩ := hK.out.2
      have HVA := Lib.hid vab
      obtain ⟨P, hP⟩ : ∃ P, n * T = P := ⟨_, rfl⟩
      have hPb : P ≤ 180 := by rw [← hP]; have := Nat.mul_le_mul hn hT; omega
      rw [Nat.mul_comm T n, hP]
      rw [hP] at HB2
      have HC8 := Lib.hid (HC7.out _ HBL.out)
      rw [hP] at HC8
      have r1 : decide (max (N1 : Int) (N2 : Int) ≤ (N3 : Int)) = true := by rw [decide_eq_true_iff]; omega
      have r3 : decide ((N3 : Int) ≤ (N1 : Int) + (N2 : Int)) = true := by rw [decide_eq_true_iff]; omega
      have r4 : N1 ≤ 60 := by omega
      have r5 : N2 ≤ 60 := by omega
      clear vab hh hB hK hP K0 HC7 HJ
      go_wp2_with fail
      refine HC8.out.mono ?_
      rintro e u20 ⟨At, ct, rfl, -, hrow, hb⟩
      have VT := Lib.hid (LV.of hrow)
      have L20 := Lib.hid (HBL.out.trans (hb.mono HBL.out.size))
      have VA := Lib.hid (HVA.out.next hb)
      have VB := Lib.hid (later HB2.out hb)
      clear hrow hb HVA HB2 HBL HC8
      go_wp2_with fail
      refine (HU1.out _ L20.out).mono ?_
      rintro e u21 ⟨rfl, hb⟩
      have L21 := Lib.hid (L20.out.trans (hb.mono L20.out.size))
      have VA1 := Lib.hid (VA.out.next hb)
      have VB1 := Lib.hid (later VB.out hb)
      have VT1 := Lib.hid (VT.out.next hb)
      clear hb L20 VA VB VT
      go_wp2_with fail
      refine (HU2.out _ _ _ VA1.out.holds).mono ?_
      rintro e u22 ⟨rfl, hb⟩
      have L22 := Lib.hid (L21.out.trans (hb.mono L21.out.size))
      have VB2 := Lib.hid (later VB1.out hb)
      have VT2 := Lib.hid (VT1.out.next hb)
      clear hb L21 VA1 VB1 VT1
      go_wp2_with fail
      refine (HU3.out _ L22.out).mono ?_
      rintro e u23 ⟨rfl, hb⟩
      have L23 := Lib.hid (L22.out.trans (hb.mono L22.out.size))
      have VB3 := Lib.hid (later VB2.out hb)
      have VT3 := Lib.hid (VT2.out.next hb)
      clear hb L22 VB2 VT2
      go_wp2_with fail
      refine (rsame_is (by omega) VT3.out.holds VB3.out (fun i hi => rfl)).mono ?_
      rintro e u24 ⟨rfl, hb⟩
      have L24 := Lib.hid (L23.out.trans (hb.mono L23.out.size))
      clear hb L23 VB3 VT3 HU1 HU2 HU3
      go_wp2_with fail
      refine (alive_any _ (HE.out.next L24.out)).mono ?_
      rintro e u25 ⟨rfl, hb⟩
      have L25 := Lib.hid (L24.out.trans (hb.mono L24.out.size))
      clear hb
      go_wp2
      go_ret
      exact ⟨rfl, L25.out⟩

theorem turns_any (A : Option Addr) (n c : Nat) (f : Nat → Int) (D : Option Addr) (m d : Nat) (g : Nat → Int) (t : Int) (w : World) (hA : A = none → c = 0) (hD : D = none → d = 0) (hr : Holds w w.heap.size A n f) (hs : Holds w w.heap.size D m g) (he : Env w) :
    Calls Tryd.prog 7 #[.slice A n c, .slice D m d, .int .i64 t] w fun e w' => e = .returned (.bool true) ∧ Below w.heap.size w w' := by
  cases h1 : vl n f
  · exact turns_skip A n c f D m d g t w hr hs he (.inl h1)
  · cases h2 : vl m g
    · exact turns_skip A n c f D m d g t w hr hs he (.inr (.inl ⟨h1, h2⟩))
    · by_cases h3 : t < 0
      · exact turns_skip A n c f D m d g t w hr hs he (.inr (.inr (.inl ⟨h1, h2, h3⟩)))
      · by_cases h4 : 3 < t
        · exact turns_skip A n c f D m d g t w hr hs he (.inr (.inr (.inr ⟨h1, h2, h3, h4⟩)))
        · obtain ⟨T, rfl⟩ : ∃ T : Nat, t = T := ⟨t.toNat, by omega⟩
          exact turns_main A n c f D m d g T w hA hD hr hs he h1 h2 (by omega)
end Go.Proofs.YtcmpoblbjjoaiaaDoor
