/- reached, least, Apart, Hangs of the program. -/
import Derived.Test.YtgmcbdnfgdmmaaaHpx
import Derived.Test.YtgmcbdnfgdmmaaaHrx
namespace Go.Proofs.Ytgmcbdnfgdmmaaa
open Go.RowKit
set_option maxRecDepth 100000
set_option linter.unusedVariables false
set_option linter.unusedSimpArgs false

theorem own_tt {w : World} {base : Nat} {A : Option Addr} {c : Nat} {l : List Nat} (h : L2.Own w base (.slice A l.length c) l.length (lf l)) : TT w A l := fun hn => by
  obtain ⟨A', c', e, _, h2⟩ := h.out
  cases e
  obtain ⟨k, e, _, cs, hc, _, hcl⟩ := h2 hn
  exact ⟨k, 0, cs, e, hc, fun i hi => by rw [Nat.zero_add]; exact hcl i hi⟩
/-- A list came back, in a row of numbers. -/
def LRT (w : World) (l : List Nat) (e : Ending) (w' : World) : Prop :=
  ∃ D c, e = .returned (.slice D l.length c) ∧ Cp D l.length c ∧ TT w' D l ∧ Below w.heap.size w w'
theorem lrt_end {w w' : World} {l : List Nat} {v : Value} {base : Nat} (h : L2.Own w' base v l.length (lf l)) (hs : w.heap.size ≤ base) (hb : Below w.heap.size w w') : LRT w l (.returned v) w' := by
  obtain ⟨A', c', rfl, h1, h2⟩ := h.out
  exact ⟨A', c', rfl, ⟨h1, own_cap h⟩, own_tt h, hb⟩
set_option maxHeartbeats 800000 in
theorem reached_t (R : Nat → Nat → Bool) (N : Nat) (D : Option Addr) (d : Nat) (L : Nat → List Nat) (hL : ∀ i, i < N → L i = ofl (fun a => R a i) N) (tt : Nat) (w : World) (hls : LLs w D N L) (hto : tt < N) (hN : N ≤ 128) :
    Calls Try.prog 120 #[.int .i64 (tt : Nat), .slice D N d] w (LRT w (ofl (up R N tt) N)) := by
  have HS := Lib.hid (steps_n R N D d L hL tt w hls hto hN)
  have HBD := Lib.hid (fun x => (far_all (R := R) hto).1 x)
  clear hls hL
  go_enter Try.func120, Try.ntmps120
  go_wp2_with fail
  with_reducible refine Calls.mono HS.out ?_
  rintro e w1 ⟨fr, rfl, hfr, hrow, hb⟩
  have LB1 := Lib.hid hb
  have RW := Lib.hid hrow
  have hs1 := hb.size
  clear hb HS hrow
  go_wp2
  go_loopw [5, 12] (fun q i wr => ∃ k : Nat, k ≤ N ∧ i = .int .i64 k ∧ Hid (L2.Own wr w1.heap.size q (ofl (up R N tt) k).length (lf (ofl (up R N tt) k))) ∧ Hid (Below w1.heap.size w1 wr)) (fun _ i _ => N - (intOf i).toNat)
  case atStart => exact ⟨0, Nat.zero_le _, rfl, Lib.hid (L2.Own.nil _ _ _), Lib.hid (Below.refl _ _)⟩
  case round =>
    obtain ⟨k, hk, rfl, HO, HB⟩ := hrel
    by_cases hlt : k < N
    · have y1 : (k : Int) < (N : Int) := by omega
      have y3 : (0 : Int) ≤ (k : Int) := by omega
      have hlen := ofl_len (up R N tt) k
      have c1 := (RW.out.below HB.out RW.out.lt).cell hlt
      have hsz := HB.out.size
      have hbd := HBD.out k
      obtain ⟨u, hu⟩ : ∃ u, far R N tt k = u := ⟨_, rfl⟩
      rw [hu] at c1 hbd
      have HU := Lib.hid hu
      clear hu
      by_cases h0 : 0 ≤ u
      · have hT : up R N tt k = true := up_iff.2 (by rw [HU.out]; exact h0)
        have E := Lib.hid (ofl_yes hT)
        have HF := Lib.hid (HO.out.congr (fun i hi => lf_app (r := [k]) hi))
        have HY := Lib.hid (lf_last (ofl (up R N tt) k) k)
        have EL := Lib.hid (show (ofl (up R N tt) (k + 1)).length = (ofl (up R N tt) k).length + 1 by rw [E.out, List.length_append]; rfl)
        have z : (u != -1) = true := by simp only [bne_iff_ne, ne_eq]; omega
        clear hT HO
        go_wp2_with (at_builtin; refine L2.app1 _ rfl _ _ (by rfl) w1.heap.size (by rfl) HF.out (k : Int) (by rfl) HY.out (by omega) hsz ?_; intro v' w5 hown5 hb5; have HO5 := Lib.hid hown5; have HB5 := Lib.hid hb5; clear hown5 hb5)
        exact ⟨⟨k + 1, by omega, by go_num, by rw [EL.out, E.out]; exact HO5, Lib.hid (HB.out.trans HB5.out)⟩, by simp [intOf]; omega⟩
      · have hT : up R N tt k = false := by cases h : up R N tt k; · rfl
                                            · exact absurd (by have := up_iff.1 h; rwa [HU.out] at this) h0
        have E := Lib.hid (ofl_no hT)
        have e1 : u = -1 := by omega
        have z : (u != -1) = false := by rw [e1]; rfl
        clear hT e1
        go_wp2
        exact ⟨⟨k + 1, by omega, by go_num, by rw [E.out]; exact HO, HB⟩, by simp [intOf]; omega⟩
    · have e : k = N := by omega
      subst e
      have HF := Lib.hid (lrt_end HO.out hs1 (LB1.out.trans (HB.out.mono hs1)))
      go_wp2
      go_ret
      exact HF.out
theorem len_any (D : Option Addr) (n c : Nat) (w : World) : Calls Try.prog 122 #[.slice D n c] w fun e w' => e = .returned (.int .i64 (n : Nat)) ∧ w = w' := by
  go_enter Try.func122, Try.ntmps122
  go_wp2
  go_ret
  exact ⟨rfl, rfl⟩
theorem fm_less {z : Nat → Nat} {k : Nat} (h : z (k + 1) < z (fm z k)) : fm z (k + 1) = k + 1 := if_pos h
theorem fm_keep {z : Nat → Nat} {k : Nat} (h : ¬ z (k + 1) < z (fm z k)) : fm z (k + 1) = fm z k := if_neg h
set_option maxHeartbeats 800000 in
theorem least_n (N : Nat) (D : Option Addr) (d : Nat) (L : Nat → List Nat) (w : World) (hls : LLs w D N L) (hcp : Cp D N d) (h2 : 2 ≤ N) (hN : N ≤ 128) :
    Calls Try.prog 121 #[.slice D N d, .func (.func 122) #[] #[]] w (LR w (L (fm (fun t => (L t).length) (N - 1)))) := by
  obtain ⟨b, o, rfl, hbl, hc⟩ := hls (by omega)
  have HC := Lib.hid hc
  have hd1 : ¬ d = 1 := by have := hcp.2; omega
  have hd2 : 1 ≤ d := by have := hcp.2; omega
  have hd3 : N ≤ d := hcp.2
  obtain ⟨z, hz⟩ : ∃ z, (fun t => (L t).length) = z := ⟨_, rfl⟩
  have HZ := Lib.hid (fun t => (show (L t).length = z t by rw [← hz]))
  have HZF := Lib.hid hz
  clear hc hls hcp hz
  obtain ⟨E, c, cE, hcp, hll⟩ := HC.out 0 (by omega)
  rw [Nat.add_zero] at cE
  have HCP := Lib.hid hcp
  have HLL := Lib.hid hll
  rw [HZ.out] at cE
  have y0 : (0 : Int) < (N : Int) := by omega
  have y0' : 0 < N := by omega
  have y1 : (1 : Int) ≤ (N : Int) := by omega
  have y2 : (N : Int) ≤ (d : Int) := by omega
  clear hcp hll
  go_enter Try.func121, Try.ntmps121
  go_wp2
  obtain ⟨m, hm⟩ : ∃ m, N - 1 = m := ⟨_, rfl⟩
  rw [hm]
  have HM := Lib.hid (show N = m + 1 by omega)
  have HMN := Lib.hid hm
  have hmm : m ≤ 128 := by omega
  clear hm cE
  go_loop [5, 14] (fun q i => ∃ (k : Nat) (E : Option Addr) (c : Nat), k ≤ m ∧ i = .int .i64 k ∧ q = .slice E (z (fm z k)) c ∧ Hid (Cp E (z (fm z k)) c ∧ LL w E (L (fm z k)))) (fun _ i => m - (intOf i).toNat)
  case atStart => exact ⟨0, E, c, Nat.zero_le _, rfl, rfl, Lib.hid ⟨by rw [← HZ.out]; exact HCP.out, HLL.out⟩⟩
  case round =>
    obtain ⟨k, E, c, hk, rfl, rfl, HR⟩ := hrel
    clear HCP HLL
    by_cases hlt : k < m
    · obtain ⟨E2, c2, cE, hcp, hll⟩ := HC.out (k + 1) (by have := HM.out; omega)
      rw [HZ.out, show o + (k + 1) = o + 1 + k by omega] at cE
      have y3 : (0 : Int) ≤ (k : Int) := by omega
      have y4 : (k : Int) < (m : Int) := by omega
      have HCP := Lib.hid hcp
      have HLL := Lib.hid hll
      have HF1 := Lib.hid (fun h => fm_less (z := z) (k := k) h)
      have HF2 := Lib.hid (fun h => fm_keep (z := z) (k := k) h)
      clear hcp hll
      obtain ⟨x, hx⟩ : ∃ x, fm z k = x := ⟨_, rfl⟩
      rw [hx] at HR HF1 HF2 ⊢
      have HXX := Lib.hid hx
      clear hx
      by_cases hzz : z (k + 1) < z x
      · have d1 : decide ((z (k + 1) : Int) < (z x : Int)) = true := by simp; omega
        have d2 : (z (k + 1) : Int) < (z x : Int) := by omega
        have E1 := Lib.hid (HF1.out hzz)
        go_wp2_with fail
        with_reducible refine Calls.mono (len_any _ _ _ _) ?_
        rintro e w1 ⟨rfl, rfl⟩
        go_wp2_with fail
        with_reducible refine Calls.mono (len_any _ _ _ _) ?_
        rintro e w1 ⟨rfl, rfl⟩
        go_wp2
        go_round
        case rel => exact ⟨k + 1, E2, c2, by omega, by go_num, by rw [E1.out], Lib.hid ⟨by rw [E1.out, ← HZ.out]; exact HCP.out, by rw [E1.out]; exact HLL.out⟩⟩
        case measure => simp [intOf]; omega
      · have d1 : decide ((z (k + 1) : Int) < (z x : Int)) = false := by simp; omega
        have d2 : ¬ (z (k + 1) : Int) < (z x : Int) := by omega
        have E1 := Lib.hid (HF2.out hzz)
        go_wp2_with fail
        with_reducible refine Calls.mono (len_any _ _ _ _) ?_
        rintro e w1 ⟨rfl, rfl⟩
        go_wp2_with fail
        with_reducible refine Calls.mono (len_any _ _ _ _) ?_
        rintro e w1 ⟨rfl, rfl⟩
        go_wp2
        go_round
        case rel => exact ⟨k + 1, E, c, by omega, by go_num, by rw [E1.out], Lib.hid ⟨by rw [E1.out]; exact HR.out.1, by rw [E1.out]; exact HR.out.2⟩⟩
        case measure => simp [intOf]; omega
    · have e : k = m := by omega
      have y4 : ¬ (k : Int) < (m : Int) := by omega
      have HR2 := HR.out
      rw [e] at HR2 ⊢
      have HR3 := Lib.hid HR2
      clear HR HR2 e
      go_wp2
      go_ret
      rw [HZF.out, HMN.out]
      exact ⟨E, c, by rw [HZ.out]; rfl, by rw [HZ.out]; exact HR3.out.1, HR3.out.2, Below.refl _ _⟩
end Go.Proofs.Ytgmcbdnfgdmmaaa
