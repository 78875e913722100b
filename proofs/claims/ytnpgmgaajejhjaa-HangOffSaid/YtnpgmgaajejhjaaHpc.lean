/- The ways of the program. -/
import Derived.Test.YtnpgmgaajejhjaaHpz
import Derived.Test.YtnpgmgaajejhjaaHra
namespace Go.Proofs.Ytnpgmgaajejhjaa
open Go.RowKit
set_option maxRecDepth 100000
set_option linter.unusedVariables false
set_option linter.unusedSimpArgs false

/-- The first of the least ones of the threads below is the way's next one. -/
theorem fm_nxt {R : Nat → Nat → Bool} {N tt a : Nat} {M : List Nat} (hto : tt < N) (ha : 0 < far R N tt a) (hM : M = ofl (fun b => R a b) N) (hall : ∀ b, b < N → 0 ≤ far R N tt b) (haN : a < N) :
    0 < M.length ∧ M.getD (fm (fun i => (far R N tt (M.getD i 0)).toNat) (M.length - 1)) 0 = nxt R N tt a := by
  obtain ⟨n1, n2, n3, n4⟩ := nxt_all hto ha
  obtain ⟨j, hj, hje⟩ := ofl_ix (A := fun b => R a b) n1 n3
  rw [← hM] at hj hje
  have hpos : 0 < M.length := by omega
  refine ⟨hpos, ?_⟩
  obtain ⟨i0, hi0⟩ : ∃ i0, fm (fun i => (far R N tt (M.getD i 0)).toNat) (M.length - 1) = i0 := ⟨_, rfl⟩
  have hle := fm_le (fun i => (far R N tt (M.getD i 0)).toNat) (M.length - 1)
  have hls := fm_least (fun i => (far R N tt (M.getD i 0)).toNat) (M.length - 1) j (by omega)
  rw [hi0] at hle hls ⊢
  simp only [hje] at hls
  have hg : M.getD i0 0 < N ∧ R a (M.getD i0 0) = true := by
    have h := ofl_get (A := fun b => R a b) (k := N) (i := i0) (by rw [← hM]; omega)
    rw [← hM] at h
    exact h
  have hb := (far_all (R := R) hto).2.2.1 (M.getD i0 0) a (hall _ hg.1) haN hg.2
  have hb0 := hall _ hg.1
  rcases Nat.lt_trichotomy i0 j with c | c | c
  · exfalso
    have hlt : M.getD i0 0 < M.getD j 0 := by
      have h := ofl_lt (A := fun b => R a b) (k := N) c (by rw [← hM]; exact hj)
      rw [← hM] at h
      exact h
    rw [hje] at hlt
    exact n4 _ hlt ⟨by omega, hg.2⟩
  · rw [c]; exact hje
  · exfalso
    have := hls.2 c
    omega
theorem wayclo_any (lb fr N : Nat) (F : Nat → Int) (t : Nat) (w : World) (hc : w.cell? ⟨lb, 0, none⟩ = some (.slice (some ⟨fr, 0, none⟩) N N)) (hr : L2.Row w fr N F) (ht : t < N) (hN : N ≤ 128) :
    Calls Try.prog 115 #[.int .i64 (t : Nat), .pointer (some ⟨lb, 0, none⟩)] w fun e w' => e = .returned (.int .i64 (F t)) ∧ w = w' := by
  have c1 := hr.cell ht
  have y1 : (0 : Int) ≤ (t : Int) := by omega
  have y2 : (t : Int) < (N : Int) := by omega
  go_enter Try.func115, Try.ntmps115
  go_wp2
  go_ret
  exact ⟨rfl, rfl⟩
set_option maxHeartbeats 800000 in
theorem leasti_core (lb fr N : Nat) (F : Nat → Int) (D : Option Addr) (d n : Nat) (el : Nat → Nat) (w : World) (hc : w.cell? ⟨lb, 0, none⟩ = some (.slice (some ⟨fr, 0, none⟩) N N)) (hr : L2.Row w fr N F) (hl : L2.Holds w w.heap.size D n (fun i => ((el i : Nat) : Int))) (hcp : Cp D n d) (h1 : 0 < n) (hM : ∀ i, i < n → el i < N ∧ 0 ≤ F (el i) ∧ F (el i) ≤ 128) (hN : N ≤ 128) (hm128 : n ≤ 128) :
    Calls Try.prog 114 #[.slice D n d, .func (.func 115) #[] #[.pointer (some ⟨lb, 0, none⟩)]] w fun e w' => e = .returned (.int .i64 ((el (fm (fun i => (F (el i)).toNat) (n - 1)) : Nat) : Int)) ∧ w = w' := by
  obtain ⟨b, o, rfl, hbl, hcl⟩ := hl h1
  have HCL := Lib.hid (fun i hi => (show w.cell? ⟨b, o + i, none⟩ = some (.int .i64 ((el i : Nat) : Int)) from hcl i hi))
  have HWC := Lib.hid (fun i hi => wayclo_any lb fr N F (el i) w hc hr (hM i hi).1 hN)
  have HMM := Lib.hid hM
  have hd3 := hcp.2
  clear hcl hl hcp hr hc hM
  obtain ⟨z, hz⟩ : ∃ z, (fun i => (F (el i)).toNat) = z := ⟨_, rfl⟩
  have HZF := Lib.hid hz
  have HZ := Lib.hid (fun i (hi : i < n) => (show F (el i) = (z i : Nat) by rw [← hz]; have := (HMM.out i hi).2; show _ = (((F (el i)).toNat : Nat) : Int); omega))
  rw [hz]
  clear hz
  have c0 := HCL.out 0 h1
  rw [Nat.add_zero] at c0
  obtain ⟨m, hm⟩ : ∃ m, n - 1 = m := ⟨_, rfl⟩
  rw [hm]
  have HM := Lib.hid (show n = m + 1 by omega)
  have hmm : m ≤ 128 := by omega
  have y0 : (0 : Int) < (n : Int) := by omega
  have y1 : (1 : Int) ≤ (n : Int) := by omega
  have y2 : (n : Int) ≤ (d : Int) := by omega
  have hd2 : 1 ≤ d := by omega
  have HD1 := Lib.hid (show d = 1 → m = 0 by omega)
  obtain ⟨o1, ho1⟩ : ∃ o1, (if d = 1 then o else o + 1) = o1 := ⟨_, rfl⟩
  have HO1 := Lib.hid (fun k (hk : k < m) => (show o1 + k = o + (k + 1) by rw [← ho1, if_neg (fun e => by have := HD1.out e; omega)]; omega))
  by_cases hd1 : d = 1
  all_goals
    first
    | (have ho2 : o1 = o := by rw [← ho1, if_pos hd1])
    | (have ho2 : o1 = o + 1 := by rw [← ho1, if_neg hd1])
    clear ho1
    subst ho2
    go_enter Try.func114, Try.ntmps114
    go_wp2
    try rw [hm]
    clear hd1 c0
    go_loop [5, 14] (fun q i => ∃ k : Nat, k ≤ m ∧ i = .int .i64 k ∧ q = .int .i64 ((el (fm z k) : Nat) : Int)) (fun _ i => m - (intOf i).toNat)
    case atStart => exact ⟨0, Nat.zero_le _, rfl, rfl⟩
    case round =>
      obtain ⟨k, hk, rfl, rfl⟩ := hrel
      have hfk := fm_le z k
      have HMo := HM.out
      by_cases hlt : k < m
      · have cE := HCL.out (k + 1) (by omega)
        rw [← HO1.out k hlt] at cE
        have y3 : (0 : Int) ≤ (k : Int) := by omega
        have y4 : (k : Int) < (m : Int) := by omega
        have HW1 := Lib.hid (HWC.out (k + 1) (by omega))
        have HW2 := Lib.hid (HWC.out (fm z k) (by omega))
        rw [HZ.out (k + 1) (by omega)] at HW1
        rw [HZ.out (fm z k) (by omega)] at HW2
        have HF1 := Lib.hid (fun h => fm_less (z := z) (k := k) h)
        have HF2 := Lib.hid (fun h => fm_keep (z := z) (k := k) h)
        obtain ⟨x, hx⟩ : ∃ x, fm z k = x := ⟨_, rfl⟩
        rw [hx] at HW2 HF1 HF2 ⊢
        clear hx HMo hfk
        by_cases hzz : z (k + 1) < z x
        · have d2 : (z (k + 1) : Int) < (z x : Int) := by omega
          have E1 := Lib.hid (HF1.out hzz)
          go_wp2_with fail
          with_reducible refine Calls.mono HW1.out ?_
          rintro e w1 ⟨rfl, rfl⟩
          go_wp2_with fail
          with_reducible refine Calls.mono HW2.out ?_
          rintro e w1 ⟨rfl, rfl⟩
          go_wp2
          go_round
          case rel => exact ⟨k + 1, by omega, by go_num, by rw [E1.out]⟩
          case measure => simp [intOf]; omega
        · have d2 : ¬ (z (k + 1) : Int) < (z x : Int) := by omega
          have E1 := Lib.hid (HF2.out hzz)
          go_wp2_with fail
          with_reducible refine Calls.mono HW1.out ?_
          rintro e w1 ⟨rfl, rfl⟩
          go_wp2_with fail
          with_reducible refine Calls.mono HW2.out ?_
          rintro e w1 ⟨rfl, rfl⟩
          go_wp2
          go_round
          case rel => exact ⟨k + 1, by omega, by go_num, by rw [E1.out]⟩
          case measure => simp [intOf]; omega
      · have e : k = m := by omega
        have y4 : ¬ (k : Int) < (m : Int) := by omega
        clear HMo hfk
        rw [e]
        clear e
        go_wp2
        go_ret
        exact ⟨rfl, rfl⟩
theorem leasti_n (lb fr N : Nat) (F : Nat → Int) (D : Option Addr) (d : Nat) (M : List Nat) (w : World) (hc : w.cell? ⟨lb, 0, none⟩ = some (.slice (some ⟨fr, 0, none⟩) N N)) (hr : L2.Row w fr N F) (hl : LL w D M) (hcp : Cp D M.length d) (h1 : 0 < M.length) (hM : ∀ i, i < M.length → M.getD i 0 < N ∧ 0 ≤ F (M.getD i 0) ∧ F (M.getD i 0) ≤ 128) (hN : N ≤ 128) (hm128 : M.length ≤ 128) :
    Calls Try.prog 114 #[.slice D M.length d, .func (.func 115) #[] #[.pointer (some ⟨lb, 0, none⟩)]] w fun e w' => e = .returned (.int .i64 ((M.getD (fm (fun i => (F (M.getD i 0)).toNat) (M.length - 1)) 0 : Nat) : Int)) ∧ w = w' :=
  leasti_core lb fr N F D d M.length (fun i => M.getD i 0) w hc hr hl hcp h1 hM hN hm128
end Go.Proofs.Ytnpgmgaajejhjaa
