/- 'valid'; the walk of the statement ThreadBack. -/
import Derived.Test.YtcmpoblbjjoaiaaDoorAlv
import Derived.Test.YtcmpoblbjjoaiaaDoorBkm
namespace Go.Proofs.YtcmpoblbjjoaiaaDoor
open Go.RowKit
set_option linter.unusedVariables false
set_option linter.unusedSimpArgs false
set_option maxRecDepth 100000

def vl (n : Nat) (f : Nat → Int) : Bool := decide (n ≤ 60) && decide (lchk n f = 0)

set_option maxHeartbeats 800000 in
theorem valid_is {A : Option Addr} {n : Nat} (c : Nat) {f : Nat → Int} {b : Bool} (h : vl n f = b) (w : World) (hr : Holds w w.heap.size A n f) :
    Calls Tryd.prog 28 #[.slice A n c] w fun e w' => e = .returned (.bool b) ∧ Below w.heap.size w w' := by
  subst h
  unfold vl
  by_cases h1 : n ≤ 60
  · have b1 : decide ((n : Int) ≤ 60) = true := by simp; omega
    obtain ⟨e1, he1⟩ : ∃ e1, lchk n f = e1 := ⟨_, rfl⟩
    have HC := Lib.hid (rchk_is (A := A) c (by omega) he1 w hr)
    rw [he1]
    have b2 : decide (n ≤ 60) = true := by simp [h1]
    rw [b2]
    clear hr he1 b2 h1
    by_cases g : e1 = 0
    · have z : (e1 == 0) = true := by simp [g]
      have HZ := Lib.hid (show decide (e1 = 0) = true by simp [g])
      clear g
      go_enter Tryd.func28, Tryd.ntmps28
      go_wp2_with fail
      refine HC.out.mono ?_
      rintro e w1 ⟨rfl, hb⟩
      go_wp2
      go_ret
      exact ⟨by rw [HZ.out]; rfl, hb⟩
    · have z : (e1 == 0) = false := by simp [g]
      have HZ := Lib.hid (show decide (e1 = 0) = false by simp [g])
      clear g
      go_enter Tryd.func28, Tryd.ntmps28
      go_wp2_with fail
      refine HC.out.mono ?_
      rintro e w1 ⟨rfl, hb⟩
      go_wp2
      go_ret
      exact ⟨by rw [HZ.out]; rfl, hb⟩
  · have b1 : decide ((n : Int) ≤ 60) = false := by simp; omega
    have HB := Lib.hid (show decide (n ≤ 60) = false by simp; omega)
    clear h1 hr
    go_enter Tryd.func28, Tryd.ntmps28
    go_wp2
    go_ret
    exact ⟨by rw [HB.out]; rfl, Below.refl _ _⟩
theorem vl_yes {n : Nat} {f : Nat → Int} (h : vl n f = true) : n ≤ 60 ∧ lchk n f = 0 := by
  unfold vl at h
  simpa using h
theorem lchk_of {n : Nat} {f : Nat → Int} (hn : n ≤ 400) (h : ∀ i, i < n → 0 ≤ f i ∧ f i < 400) : lchk n f = 0 := by
  unfold lchk
  rw [if_neg (by omega), if_pos]
  simpa using h

set_option maxHeartbeats 6400000 in
theorem back_any (A : Option Addr) (n c : Nat) (f : Nat → Int) (s : ByteArray) (w : World) (hA : A = none → c = 0) (hr : Holds w w.heap.size A n f) (he : Env w) :
    Calls Tryd.prog 5 #[.slice A n c, .string s] w fun e w' => e = .returned (.bool true) ∧ Below w.heap.size w w' := by
  have HE := Lib.hid he
  have HR := Lib.hid hr
  have HAL := Lib.hid (fun (w' : World) (h : Env w') => alive_any w' h)
  obtain ⟨L, hL⟩ : ∃ L, s.data.toList = L := ⟨_, rfl⟩
  have zL : (L == s.toList) = true := by rw [bytes_toList, hL]; simp
  have HL := Lib.hid hL
  have HSZ := Lib.hid (show s.size = L.length by rw [← hL]; exact Array.length_toList.symm)
  clear hL
  cases hv : vl n f
  · have HV := Lib.hid (valid_is c hv w hr)
    clear hr he hv
    go_enter Tryd.func5, Tryd.ntmps5
    go_wp2_with fail
    refine HV.out.mono ?_
    rintro e u0 ⟨rfl, hb⟩
    have L0 := Lib.hid hb
    clear hb
    by_cases h2 : 2000 < s.size
    · have d2 : decide ((2000 : Int) < (s.size : Int)) = true := by simp; omega
      clear h2
      go_wp2_with fail
      refine (HAL.out _ (HE.out.next L0.out)).mono ?_
      rintro e ua ⟨rfl, hb⟩
      have LA := Lib.hid (L0.out.trans (hb.mono L0.out.size))
      clear hb
      go_wp2
      go_ret
      exact ⟨rfl, LA.out⟩
    · have d2 : decide ((2000 : Int) < (s.size : Int)) = false := by simp; omega
      have HPS := Lib.hid (parse_any s (by omega) u0 (HE.out.next L0.out))
      rw [HL.out] at HPS
      have hsz : s.size ≤ 2000 := by omega
      clear h2
      go_wp2_with fail
      refine HPS.out.mono ?_
      rintro e ua (⟨hp, A3, c3, rfl, -, hrow, hb⟩ | ⟨-, A3, c3, rfl, -, -, hb⟩)
      · have LA := Lib.hid (L0.out.trans (hb.mono L0.out.size))
        obtain ⟨q1, q2, q3⟩ := ps_back hp
        have HT3 := Lib.hid (text_ok A3 (psVals L).length c3 _ ua ((LV.of hrow).holds) (lchk_of q1 fun i hi => ⟨by omega, by have := q2 i hi; omega⟩) (HE.out.next LA.out))
        rw [q3] at HT3
        clear hp hrow hb q1 q2 q3
        go_wp2_with fail
        refine HT3.out.mono ?_
        rintro e ub ⟨rfl, hb⟩
        have LB := Lib.hid (LA.out.trans (hb.mono LA.out.size))
        clear hb
        go_wp2_with fail
        refine (HAL.out _ (HE.out.next LB.out)).mono ?_
        rintro e uc ⟨rfl, hb⟩
        have LC := Lib.hid (LB.out.trans (hb.mono LB.out.size))
        clear hb
        go_wp2
        go_ret
        exact ⟨rfl, LC.out⟩
      · have LA := Lib.hid (L0.out.trans (hb.mono L0.out.size))
        clear hb
        go_wp2_with fail
        refine (HAL.out _ (HE.out.next LA.out)).mono ?_
        rintro e uc ⟨rfl, hb⟩
        have LC := Lib.hid (LA.out.trans (hb.mono LA.out.size))
        clear hb
        go_wp2
        go_ret
        exact ⟨rfl, LC.out⟩
  · obtain ⟨hn, hx⟩ := vl_yes hv
    have HV := Lib.hid (valid_is c hv w hr)
    have HF := Lib.hid (lchk_zero hx)
    have hn4 := lchk_le hx
    obtain ⟨hp1, hp2⟩ := tx_back hn4 (lchk_zero hx)
    have HP1 := Lib.hid hp1
    have HP2 := Lib.hid hp2
    have hlen := tx_length fun i hi => (lchk_zero hx i hi).2
    have HLEN := Lib.hid hlen
    have HT := Lib.hid (fun (w' : World) (hb : Below w.heap.size w w') => text_ok A n c f w' ((hr.below hb).more hb.size) hx (he.next hb))
    clear hr he hv hx hp1 hp2 hlen
    go_enter Tryd.func5, Tryd.ntmps5
    go_wp2_with fail
    refine HV.out.mono ?_
    rintro e u0 ⟨rfl, hb⟩
    have L0 := Lib.hid hb
    clear hb
    go_wp2_with fail
    refine (HT.out _ L0.out).mono ?_
    rintro e u1 ⟨rfl, hb⟩
    have L1 := Lib.hid (L0.out.trans (hb.mono L0.out.size))
    clear hb
    have HPA : Hid (Calls Tryd.prog 15 #[.string ⟨(tx f n).toArray⟩] u1 (LOut u1 n (fun i => ((psVals (tx f n)).getD i 0 : Nat)) 0)) := Lib.hid (by
      refine (parse_any ⟨(tx f n).toArray⟩ (by have := HLEN.out; show (tx f n).toArray.size ≤ _; simp; omega) u1 (HE.out.next L1.out)).mono ?_
      rintro e w' (⟨_, h⟩ | ⟨h, _⟩)
      · have e1 : (⟨(tx f n).toArray⟩ : ByteArray).data.toList = tx f n := by simp
        rw [e1] at h
        have e2 : (psVals (tx f n)).length = n := by rw [HP2.out]; simp
        rw [e2] at h
        exact h
      · exact absurd (by simpa [psAll] using HP1.out) h)
    generalize tx f n = T at *
    go_wp2_with fail
    refine HPA.out.mono ?_
    rintro e u2 ⟨A2, c2, rfl, -, hrow, hb⟩
    have L2 := Lib.hid (L1.out.trans (hb.mono L1.out.size))
    have V2 := Lib.hid ((LV.of hrow).holds)
    have HSM : Hid (Calls Tryd.prog 27 #[.slice A n c, .slice A2 n c2] u2 fun e w' => e = .returned (.bool true) ∧ Below u2.heap.size u2 w') := Lib.hid (by
      have h := rsame_any A A2 n c c2 f _ u2 (by omega) (later HR.out L2.out) V2.out
      have e1 : decide (∀ i, i < n → f i = ((psVals T).getD i 0 : Nat)) = true := by
        rw [decide_eq_true_iff]
        intro i hi
        rw [HP2.out]
        have := HF.out i hi
        simp [List.getD, hi]
        omega
      rw [e1] at h
      exact h)
    clear hrow hb
    go_wp2_with fail
    refine HSM.out.mono ?_
    rintro e u3 ⟨rfl, hb⟩
    have L3 := Lib.hid (L2.out.trans (hb.mono L2.out.size))
    clear hb HV HF HP1 HP2 HLEN HT HPA V2 HSM L0 L1 L2
    by_cases h2 : 2000 < s.size
    · have d2 : decide ((2000 : Int) < (s.size : Int)) = true := by simp; omega
      clear h2
      go_wp2_with fail
      refine (HAL.out _ (HE.out.next L3.out)).mono ?_
      rintro e ua ⟨rfl, hb⟩
      have LA := Lib.hid (L3.out.trans (hb.mono L3.out.size))
      clear hb
      go_wp2
      go_ret
      exact ⟨rfl, LA.out⟩
    · have d2 : decide ((2000 : Int) < (s.size : Int)) = false := by simp; omega
      have HPS := Lib.hid (parse_any s (by omega) u3 (HE.out.next L3.out))
      rw [HL.out] at HPS
      have hsz : s.size ≤ 2000 := by omega
      clear h2
      go_wp2_with fail
      refine HPS.out.mono ?_
      rintro e ua (⟨hp, A3, c3, rfl, -, hrow, hb⟩ | ⟨-, A3, c3, rfl, -, -, hb⟩)
      · have LA := Lib.hid (L3.out.trans (hb.mono L3.out.size))
        obtain ⟨q1, q2, q3⟩ := ps_back hp
        have HT3 := Lib.hid (text_ok A3 (psVals L).length c3 _ ua ((LV.of hrow).holds) (lchk_of q1 fun i hi => ⟨by omega, by have := q2 i hi; omega⟩) (HE.out.next LA.out))
        rw [q3] at HT3
        clear hp hrow hb q1 q2 q3
        go_wp2_with fail
        refine HT3.out.mono ?_
        rintro e ub ⟨rfl, hb⟩
        have LB := Lib.hid (LA.out.trans (hb.mono LA.out.size))
        clear hb
        go_wp2_with fail
        refine (HAL.out _ (HE.out.next LB.out)).mono ?_
        rintro e uc ⟨rfl, hb⟩
        have LC := Lib.hid (LB.out.trans (hb.mono LB.out.size))
        clear hb
        go_wp2
        go_ret
        exact ⟨rfl, LC.out⟩
      · have LA := Lib.hid (L3.out.trans (hb.mono L3.out.size))
        clear hb
        go_wp2_with fail
        refine (HAL.out _ (HE.out.next LA.out)).mono ?_
        rintro e uc ⟨rfl, hb⟩
        have LC := Lib.hid (LA.out.trans (hb.mono LA.out.size))
        clear hb
        go_wp2
        go_ret
        exact ⟨rfl, LC.out⟩
end Go.Proofs.YtcmpoblbjjoaiaaDoor
