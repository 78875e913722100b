/- The walk of the statement ThreadSteps. -/
import Derived.Test.YtcmpoblbjjoaiaaDoorStm
import Derived.IntWalk
namespace Go.Proofs.YtcmpoblbjjoaiaaDoor
open Go.RowKit
set_option linter.unusedVariables false
set_option linter.unusedSimpArgs false
set_option maxRecDepth 100000

set_option maxHeartbeats 1600000 in
theorem steps_err (n l t : Int) (w : World) (he : Env w) (h : rn n l = false)
    (hh : (n < 1) ∨ (¬ n < 1 ∧ 400 < n) ∨ (¬ n < 1 ∧ ¬ 400 < n ∧ l < 0) ∨ (¬ n < 1 ∧ ¬ 400 < n ∧ ¬ l < 0 ∧ 400 < l)) :
    Calls Tryd.prog 8 #[.int .i64 n, .int .i64 l, .int .i64 t] w fun e w' => e = .returned (.bool true) ∧ Below w.heap.size w w' := by
  have HE := Lib.hid he
  have HC1 := Lib.hid (fun (w' : World) => straight_err n l w' (fun _ => 0) h)
  have HC2 := Lib.hid (fun (w' : World) => pointed_err n l w' (fun _ => 0) h)
  rcases hh with h1 | ⟨h1, h2⟩ | ⟨h1, h2, h3⟩ | ⟨h1, h2, h3, h4⟩
  · have g0 : True := trivial
    have d1 : decide (n < 1) = true := decide_eq_true h1
    clear h he h1
    go_enter Tryd.func8, Tryd.ntmps8
    go_wp2_with fail
    refine (HC1.out _).mono ?_
    rintro e u0 ⟨Aa, ca, rfl, -, hrow, hb⟩
    have L0 := Lib.hid hb
    clear hb hrow
    go_wp2_with fail
    refine (HC2.out _).mono ?_
    rintro e u1 ⟨Ab, cb, rfl, -, hrow, hb⟩
    have L1 := Lib.hid (L0.out.trans (hb.mono L0.out.size))
    clear hb hrow
    go_wp2_with fail
    refine (alive_any _ (HE.out.next L1.out)).mono ?_
    rintro e u2 ⟨rfl, hb⟩
    have L2 := Lib.hid (L1.out.trans (hb.mono L1.out.size))
    clear hb
    go_wp2
    go_ret
    exact ⟨rfl, L2.out⟩
  · have g0 : True := trivial
    have d1 : decide (n < 1) = false := decide_eq_false h1
    have d2 : decide (400 < n) = true := decide_eq_true h2
    clear h he h1 h2
    go_enter Tryd.func8, Tryd.ntmps8
    go_wp2_with fail
    refine (HC1.out _).mono ?_
    rintro e u0 ⟨Aa, ca, rfl, -, hrow, hb⟩
    have L0 := Lib.hid hb
    clear hb hrow
    go_wp2_with fail
    refine (HC2.out _).mono ?_
    rintro e u1 ⟨Ab, cb, rfl, -, hrow, hb⟩
    have L1 := Lib.hid (L0.out.trans (hb.mono L0.out.size))
    clear hb hrow
    go_wp2_with fail
    refine (alive_any _ (HE.out.next L1.out)).mono ?_
    rintro e u2 ⟨rfl, hb⟩
    have L2 := Lib.hid (L1.out.trans (hb.mono L1.out.size))
    clear hb
    go_wp2
    go_ret
    exact ⟨rfl, L2.out⟩
  · have g0 : True := trivial
    have d1 : decide (n < 1) = false := decide_eq_false h1
    have d2 : decide (400 < n) = false := decide_eq_false h2
    have d3 : decide (l < 0) = true := decide_eq_true h3
    clear h he h1 h2 h3
    go_enter Tryd.func8, Tryd.ntmps8
    go_wp2_with fail
    refine (HC1.out _).mono ?_
    rintro e u0 ⟨Aa, ca, rfl, -, hrow, hb⟩
    have L0 := Lib.hid hb
    clear hb hrow
    go_wp2_with fail
    refine (HC2.out _).mono ?_
    rintro e u1 ⟨Ab, cb, rfl, -, hrow, hb⟩
    have L1 := Lib.hid (L0.out.trans (hb.mono L0.out.size))
    clear hb hrow
    go_wp2_with fail
    refine (alive_any _ (HE.out.next L1.out)).mono ?_
    rintro e u2 ⟨rfl, hb⟩
    have L2 := Lib.hid (L1.out.trans (hb.mono L1.out.size))
    clear hb
    go_wp2
    go_ret
    exact ⟨rfl, L2.out⟩
  · have g0 : True := trivial
    have d1 : decide (n < 1) = false := decide_eq_false h1
    have d2 : decide (400 < n) = false := decide_eq_false h2
    have d3 : decide (l < 0) = false := decide_eq_false h3
    have d4 : decide (400 < l) = true := decide_eq_true h4
    clear h he h1 h2 h3 h4
    go_enter Tryd.func8, Tryd.ntmps8
    go_wp2_with fail
    refine (HC1.out _).mono ?_
    rintro e u0 ⟨Aa, ca, rfl, -, hrow, hb⟩
    have L0 := Lib.hid hb
    clear hb hrow
    go_wp2_with fail
    refine (HC2.out _).mono ?_
    rintro e u1 ⟨Ab, cb, rfl, -, hrow, hb⟩
    have L1 := Lib.hid (L0.out.trans (hb.mono L0.out.size))
    clear hb hrow
    go_wp2_with fail
    refine (alive_any _ (HE.out.next L1.out)).mono ?_
    rintro e u2 ⟨rfl, hb⟩
    have L2 := Lib.hid (L1.out.trans (hb.mono L1.out.size))
    clear hb
    go_wp2
    go_ret
    exact ⟨rfl, L2.out⟩

set_option maxHeartbeats 12800000 in
theorem steps_main (N L : Nat) (t : Int) (w : World) (he : Env w) (h1 : 1 ≤ N) (h2 : N ≤ 400) (h3 : L ≤ 400) :
    Calls Tryd.prog 8 #[.int .i64 N, .int .i64 L, .int .i64 t] w fun e w' => e = .returned (.bool true) ∧ Below w.heap.size w w' := by
  have hrn : rn N L = true := by unfold rn; simp; omega
  obtain ⟨P, hP⟩ : ∃ P, per N = P := ⟨_, rfl⟩
  have hpc := per_cases h1
  rw [hP] at hpc
  have hP1 : 1 ≤ P := by omega
  have hP8 : P ≤ 800 := by omega
  have hla : ∀ M, M ≤ 400 → lchk M (fun i => ((i % N : Nat) : Int)) = 0 := fun M hM => lchk_of hM fun i _ => by have := str_bd h1 i; omega
  have hlb : ∀ M, M ≤ 400 → lchk M (ptd P) = 0 := fun M hM => lchk_of hM fun i _ => by have := ptd_bd h1 i; rw [hP] at this; omega
  have HE := Lib.hid he
  have HC1 := Lib.hid (fun (w' : World) => straight_ok N L w' hrn h1 h2 h3)
  have HC2 := Lib.hid (fun (w' : World) => (hP ▸ pointed_ok N L w' hrn h1 h2 h3 : Calls Tryd.prog 10 #[.int .i64 N, .int .i64 L] w' (LOut w' L (ptd P) 0)))
  have HU1 := Lib.hid (fun (w' : World) (B : Option Addr) (k : Nat) (h : Holds w' w'.heap.size B L (fun i => ((i % N : Nat) : Int))) => (str_count (L := L) h1 ▸ used_ok B L k _ w' h (hla L h3) : Calls Tryd.prog 16 #[.slice B L k] w' (IOut w' (min N L : Nat) 0)))
  have HU2 := Lib.hid (fun (w' : World) (B : Option Addr) (k : Nat) (h : Holds w' w'.heap.size B L (ptd P)) => ((hP ▸ ptd_count (L := L) h1 : nd (ptd P) L = min N L) ▸ used_ok B L k _ w' h (hlb L h3) : Calls Tryd.prog 16 #[.slice B L k] w' (IOut w' (min N L : Nat) 0)))
  have HA := Lib.hid (fun k => str_bd h1 k)
  have HAN := Lib.hid (fun k => str_next (N := N) k)
  have HB := Lib.hid (fun k => (hP ▸ ptd_bd h1 k : 0 ≤ ptd P k ∧ ptd P k < N))
  have HBN := Lib.hid (fun (h : 1 < N) k => (hP ▸ ptd_next h k : ptd P (k + 1) - ptd P k = 1 ∨ ptd P (k + 1) - ptd P k = -1))
  have HB0 := Lib.hid ((hP ▸ ptd_zero (N := N) : ptd P 0 = 0))
  have HC9 := Lib.hid (fun (w' : World) (Q : Nat) (hQ : Q + 1 ≤ 400) => (show Calls Tryd.prog 10 #[.int .i64 N, .int .i64 ((Q : Int) + 1)] w' (LOut w' (Q + 1) (ptd P) 0) from by
    have h := pointed_ok N (Q + 1) w' (by unfold rn; simp; omega) h1 h2 hQ
    rw [hP] at h
    exact h))
  have HRV := Lib.hid (fun (w' : World) (B : Option Addr) (k Q : Nat) (hQ : Q + 1 ≤ 400) (h : Holds w' w'.heap.size B (Q + 1) (ptd P)) => rev_ok B (Q + 1) k _ w' hQ h (hlb _ hQ))
  have HSM := Lib.hid (fun (w' : World) (B C : Option Addr) (k l Q R : Nat) (hQ : Q + 1 ≤ 400) (hR : R * P = Q) (h : Holds w' w'.heap.size B (Q + 1) (ptd P)) (h' : Holds w' w'.heap.size C (Q + 1) (fun x => ptd P (Q + 1 - 1 - x))) =>
    rsame_is (c := k) (d := l) (w := w') (by omega) h h' (fun i hi => by
      have := ptd_turn (R := R) hP1 (show i ≤ R * P by omega)
      rw [hR] at this
      exact this))
  have z0 : ((L : Int) != (L : Int)) = false := by simp
  have zN : ¬ N = 0 := by omega
  have hmp : max (1 : Int) (2 * (N : Int) - 2) = (P : Int) := by omega
  obtain ⟨M, hM⟩ : ∃ M, min N L = M := ⟨_, rfl⟩
  have hM2 : ((M : Int) != min (N : Int) (L : Int)) = false := by simp; omega
  rw [hM] at HU1 HU2
  clear hP hpc hla hlb he hrn hM
  go_enter Tryd.func8, Tryd.ntmps8
  go_wp2_with fail
  refine (HC1.out _).mono ?_
  rintro e u1 ⟨Aa, ca, rfl, -, hrow, hb⟩
  have hv := LV.of hrow
  have L1 := Lib.hid hb
  have VA := Lib.hid hv
  clear hv hrow hb HC1
  go_wp2_with fail
  refine (HC2.out _).mono ?_
  rintro e u2 ⟨Ab, cb, rfl, -, hrow, hb⟩
  have hv := LV.of hrow
  have L2 := Lib.hid (L1.out.trans (hb.mono L1.out.size))
  have VA2 := Lib.hid (VA.out.next hb)
  have VB2 := Lib.hid hv
  clear hv hrow hb HC2 L1 VA
  have K0 := Lib.hid (⟨L2.out, VA2.out.holds, VB2.out.holds⟩ : Below w.heap.size w u2 ∧ Holds u2 u2.heap.size Aa L (fun i => ((i % N : Nat) : Int)) ∧ Holds u2 u2.heap.size Ab L (ptd P))
  clear L2 VA2 VB2
  go_wp2
  go_loopw [11, 12] (fun i v wr => ∃ (k : Nat), k ≤ L ∧ i = .int .i64 k ∧ Hid (Below w.heap.size w wr ∧ Holds wr wr.heap.size Aa L (fun i => ((i % N : Nat) : Int)) ∧ Holds wr wr.heap.size Ab L (ptd P))) (fun i _ _ => L - (intOf i).toNat)
  case atStart => exact ⟨0, Nat.zero_le _, rfl, K0⟩
  case round =>
    obtain ⟨k, hk, rfl, hK⟩ := hrel
    by_cases hlt : k < L
    · obtain ⟨hB0, hR0, hS0⟩ := hK.out
      obtain ⟨ba, oa, rfl, hla, hca⟩ := hR0 (by omega)
      obtain ⟨bb, ob, rfl, hlb, hcb⟩ := hS0 (by omega)
      have y1 : (k : Int) < (L : Int) := by omega
      by_cases hk0 : k = 0
      · have c1 : wr.cell? ⟨ba, oa + k, none⟩ = some (.int .i64 0) := by
          subst hk0
          exact (hca 0 hlt).trans (congrArg (fun z => some (Value.int .i64 z)) (show ((0 % N : Nat) : Int) = 0 by simp))
        have c2 : wr.cell? ⟨bb, ob + k, none⟩ = some (.int .i64 0) := by
          subst hk0
          exact (hcb 0 hlt).trans (congrArg (fun z => some (Value.int .i64 z)) HB0.out)
        have y2 : decide ((N : Int) ≤ 0) = false := by simp; omega
        have y6 : ((k : Int) == 0) = true := by simp [hk0]
        have y6n : (k == 0) = true := by simp [hk0]
        have y7 : decide ((0 : Int) < (k : Int)) = false := by simp [hk0]
        have y7n : decide (0 < k) = false := by simp [hk0]
        have y7p : ¬ 0 < k := by omega
        have KK := hK
        clear hca hcb hB0 hR0 hS0 hK K0 hk0
        go_wp2
        dsimp only [List.append]
        go_big_quiet (fail)
        go_wp2
        exact ⟨⟨k + 1, by omega, by go_num, Lib.hid ⟨Go.Proofs.below_drewN' KK.out.1 _, KK.out.2.1, KK.out.2.2⟩⟩, by simp [intOf]; omega⟩
      · obtain ⟨j, rfl⟩ : ∃ j, k = j + 1 := ⟨k - 1, by omega⟩
        have c1 := hca (j + 1) hlt
        have c2 := hcb (j + 1) hlt
        have c3 := hca j (by omega)
        have c4 := hcb j (by omega)
        obtain ⟨K, hKe⟩ : ∃ K : Nat, j + 1 = K := ⟨_, rfl⟩
        have q1 := HA.out (j + 1)
        have q2 := HB.out (j + 1)
        have q3 := HA.out j
        have q4 := HB.out j
        have q5 := HAN.out j
        have q6 := fun h => HBN.out h j
        simp only at c1 c3
        obtain ⟨u, hu⟩ : ∃ u : Int, (((j + 1) % N : Nat) : Int) = u := ⟨_, rfl⟩
        obtain ⟨u', hu'⟩ : ∃ u' : Int, ((j % N : Nat) : Int) = u' := ⟨_, rfl⟩
        obtain ⟨b, hbe⟩ : ∃ b : Int, ptd P (j + 1) = b := ⟨_, rfl⟩
        obtain ⟨b', hbe'⟩ : ∃ b' : Int, ptd P j = b' := ⟨_, rfl⟩
        rw [hu] at c1 q1 q5
        rw [hu'] at c3 q3 q5
        rw [hbe] at c2 q2 q6
        rw [hbe'] at c4 q4 q6
        rw [hKe] at c1 c2
        have w1 : IntKind.i64.wrap ((K : Int) - 1) = (j : Int) := by rw [IntWalk.i64_in _ (by omega)]; omega
        have w3 : IntKind.i64.wrap (u' + 1) = u' + 1 := IntWalk.i64_in _ (by omega)
        have y2 : decide (u < 0) = false := by simp; omega
        have y3 : decide ((N : Int) ≤ u) = false := by simp; omega
        have y4 : decide (b < 0) = false := by simp; omega
        have y5 : decide ((N : Int) ≤ b) = false := by simp; omega
        have y6 : ((K : Int) == 0) = false := by simp; omega
        have y7 : decide ((0 : Int) < (K : Int)) = true := by simp; omega
        have y7n : decide (0 < K) = true := by simp; omega
        have y7p : 0 < K := by omega
        have y8 : (u != u) = false := by simp
        have y9 : (j : Int) < (L : Int) := by omega
        have y10 : (K : Int) < (L : Int) := by omega
        have hk' : K ≤ L := by omega
        have hlt' : K < L := by omega
        have KK := hK
        clear hca hcb hB0 hR0 hS0 hK K0 hu hu' hbe hbe' hk hlt y1 hk0
        rw [show ((j + 1 : Nat) : Int) = (K : Int) from by omega]
        by_cases hN1 : 1 < N
        · have v1 : decide ((1 : Int) < (N : Int)) = true := by simp; omega
          rcases q6 hN1 with hd | hd
          · have w2 : IntKind.i64.wrap (b - b') = 1 := by rw [IntWalk.i64_in _ (by omega)]; exact hd
            have x1 : ((b - b') != 1) = false := by rw [hd]; rfl
            clear q1 q2 q3 q4 q6 hd
            go_wp2
            go_quiet (fail)
            go_wp2
            dsimp only [List.append]
            go_big_quiet (fail)
            go_wp2
            exact ⟨⟨K + 1, by omega, by go_num, Lib.hid ⟨Go.Proofs.below_drewN' KK.out.1 _, KK.out.2.1, KK.out.2.2⟩⟩, by simp [intOf]; omega⟩
          · have w2 : IntKind.i64.wrap (b - b') = -1 := by rw [IntWalk.i64_in _ (by omega)]; exact hd
            have x1 : ((b - b') != 1) = true := by rw [hd]; rfl
            have x2 : ((b - b') != -1) = false := by rw [hd]; rfl
            clear q1 q2 q3 q4 q6 hd
            go_wp2
            go_quiet (fail)
            go_wp2
            dsimp only [List.append]
            go_big_quiet (fail)
            go_wp2
            exact ⟨⟨K + 1, by omega, by go_num, Lib.hid ⟨Go.Proofs.below_drewN' KK.out.1 _, KK.out.2.1, KK.out.2.2⟩⟩, by simp [intOf]; omega⟩
        · have v1 : decide ((1 : Int) < (N : Int)) = false := by simp; omega
          have w2 : IntKind.i64.wrap (b - b') = b - b' := IntWalk.i64_in _ (by omega)
          clear q1 q2 q3 q4 q6
          go_wp2
          go_quiet (fail)
          go_wp2
          dsimp only [List.append]
          go_big_quiet (fail)
          go_wp2
          exact ⟨⟨K + 1, by omega, by go_num, Lib.hid ⟨Go.Proofs.below_drewN' KK.out.1 _, KK.out.2.1, KK.out.2.2⟩⟩, by simp [intOf]; omega⟩
    · have e : k = L := by omega
      subst e
      obtain ⟨hB0, hR0, hS0⟩ := hK.out
      have KB := Lib.hid hB0
      have KR := Lib.hid hR0
      have KS := Lib.hid hS0
      clear hB0 hR0 hS0 hK K0
      go_wp2_with fail
      refine (HU1.out _ _ _ KR.out).mono ?_
      rintro e w2 ⟨rfl, hb⟩
      have MB := Lib.hid (KB.out.trans (hb.mono KB.out.size))
      have MS := Lib.hid (later KS.out hb)
      clear hb KB KS KR
      go_wp2_with fail
      refine (HU2.out _ _ _ MS.out).mono ?_
      rintro e w3 ⟨rfl, hb⟩
      have MB2 := Lib.hid (MB.out.trans (hb.mono MB.out.size))
      clear hb MB MS
      have HAL : ∀ w', Below w.heap.size w w' → Hid (Calls Tryd.prog 20 #[] w' fun e w'' => e = .returned (.bool true) ∧ Below w'.heap.size w' w'') := fun w' h => Lib.hid (alive_any _ (HE.out.next h))
      by_cases t1 : t < 0
      · have y1 : decide (t < 0) = true := decide_eq_true t1
        clear t1
        go_wp2_with fail
        refine (HAL _ MB2.out).out.mono ?_
        rintro e w5 ⟨rfl, hb⟩
        have MB3 := Lib.hid (MB2.out.trans (hb.mono MB2.out.size))
        clear hb
        go_wp2
        go_ret
        exact ⟨rfl, MB3.out⟩
      · have y1 : decide (t < 0) = false := decide_eq_false t1
        by_cases t2 : 5 < t
        · have y2 : decide (5 < t) = true := decide_eq_true t2
          clear t1 t2
          go_wp2_with fail
          refine (HAL _ MB2.out).out.mono ?_
          rintro e w5 ⟨rfl, hb⟩
          have MB3 := Lib.hid (MB2.out.trans (hb.mono MB2.out.size))
          clear hb
          go_wp2
          go_ret
          exact ⟨rfl, MB3.out⟩
        · have y2 : decide (5 < t) = false := decide_eq_false t2
          obtain ⟨R, hR⟩ : ∃ R : Nat, t = R := ⟨t.toNat, by omega⟩
          have hR5 : R ≤ 5 := by omega
          obtain ⟨Q, hQ⟩ : ∃ Q, R * P = Q := ⟨_, rfl⟩
          have hQ4 : Q ≤ 4000 := by rw [← hQ]; have := Nat.mul_le_mul hR5 hP8; omega
          have hw : IntKind.i64.wrap (t * (P : Int)) = (Q : Int) := by
            have e : t * (P : Int) = (Q : Int) := by rw [hR, ← hQ, Int.natCast_mul]
            rw [e, IntWalk.i64_in _ (by omega)]
          have t3 : -1 ≤ t := by omega
          have t4 : t ≤ 6 := by omega
          have HQ := Lib.hid hQ
          clear t1 t2 hR hQ
          by_cases t5 : 400 < (Q : Int) + 1
          · have y3 : decide (400 < (Q : Int) + 1) = true := decide_eq_true t5
            clear t5
            go_wp2_with fail
            refine (HAL _ MB2.out).out.mono ?_
            rintro e w5 ⟨rfl, hb⟩
            have MB3 := Lib.hid (MB2.out.trans (hb.mono MB2.out.size))
            clear hb
            go_wp2
            go_ret
            exact ⟨rfl, MB3.out⟩
          · have y3 : decide (400 < (Q : Int) + 1) = false := decide_eq_false t5
            have hQ1 : Q + 1 ≤ 400 := by omega
            clear t5
            go_wp2_with fail
            refine (HC9.out _ Q hQ1).mono ?_
            rintro e w5 ⟨Ac, cc, rfl, -, hrow, hb⟩
            have hv := LV.of hrow
            have MB3 := Lib.hid (MB2.out.trans (hb.mono MB2.out.size))
            have VC := Lib.hid hv
            clear hv hrow hb MB2
            go_wp2_with fail
            refine (HRV.out _ _ _ Q hQ1 VC.out.holds).mono ?_
            rintro e w6 ⟨Ad, cd, rfl, -, hrow, hb⟩
            have hv := LV.of hrow
            have MB4 := Lib.hid (MB3.out.trans (hb.mono MB3.out.size))
            have VC2 := Lib.hid (VC.out.next hb)
            have VD := Lib.hid hv
            clear hv hrow hb MB3 VC
            go_wp2_with fail
            refine (HSM.out _ _ _ _ _ Q R hQ1 HQ.out VC2.out.holds VD.out.holds).mono ?_
            rintro e w7 ⟨rfl, hb⟩
            have MB5 := Lib.hid (MB4.out.trans (hb.mono MB4.out.size))
            clear hb MB4 VC2 VD
            go_wp2_with fail
            refine (HAL _ MB5.out).out.mono ?_
            rintro e w8 ⟨rfl, hb⟩
            have MB6 := Lib.hid (MB5.out.trans (hb.mono MB5.out.size))
            clear hb
            go_wp2
            go_ret
            exact ⟨rfl, MB6.out⟩

theorem steps_any (n l t : Int) (w : World) (he : Env w) :
    Calls Tryd.prog 8 #[.int .i64 n, .int .i64 l, .int .i64 t] w fun e w' => e = .returned (.bool true) ∧ Below w.heap.size w w' := by
  cases h : rn n l
  · refine steps_err n l t w he h ?_
    unfold rn at h
    simp at h
    omega
  · obtain ⟨N, L, rfl, rfl, h1, h2, h3⟩ := rn_nat h
    exact steps_main N L t w he h1 h2 h3
end Go.Proofs.YtcmpoblbjjoaiaaDoor
