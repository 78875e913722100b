/- Lists of numbers that are chosen; Counters of both sides. -/
import Derived.Test.YtmakjdfkldacaaaSta
import Derived.Test.YtmakjdfkldacaaaIl
namespace Go.Proofs.Ytmakjdfkldacaaa
open Go.RowKit
set_option maxRecDepth 100000
set_option linter.unusedVariables false
set_option linter.unusedSimpArgs false

/-- The numbers below k that are chosen. -/
def ofl (T : Nat → Bool) (k : Nat) : List Nat := (List.range k).filter T
theorem ofl_yes {T : Nat → Bool} {k : Nat} (h : T k = true) : ofl T (k + 1) = ofl T k ++ [k] := by
  unfold ofl
  rw [List.range_succ, List.filter_append]
  simp [h]
theorem ofl_no {T : Nat → Bool} {k : Nat} (h : T k = false) : ofl T (k + 1) = ofl T k := by
  unfold ofl
  rw [List.range_succ, List.filter_append]
  simp [h]
theorem ofl_len (T : Nat → Bool) (k : Nat) : (ofl T k).length ≤ k := by
  have h := List.length_filter_le T (List.range k)
  rwa [List.length_range] at h
def lf (l : List Nat) (i : Nat) : Int := ((l[i]?.getD 0 : Nat) : Int)
theorem lf_app {l r : List Nat} {i : Nat} (h : i < l.length) : lf l i = lf (l ++ r) i := by
  unfold lf
  rw [List.getElem?_append_left h]
theorem lf_last (l : List Nat) (k : Nat) : lf (l ++ [k]) l.length = (k : Int) := by
  unfold lf
  simp
/-- A list came back, and a number. -/
def LOut (w : World) (n : Nat) (f : Nat → Int) (z : Int) (e : Ending) (w' : World) : Prop :=
  ∃ D c, e = .returned (.tuple #[.slice D n c, .int .i64 z]) ∧ (0 < n → ∃ k, D = some ⟨k, 0, none⟩ ∧ w.heap.size ≤ k ∧ L2.Row w' k n f) ∧ Below w.heap.size w w'
theorem ofl_low {T : Nat → Bool} {k : Nat} (h : ∀ j, j < k → T j = false) : ofl T k = [] := by
  induction k with
  | zero => rfl
  | succ k ih => rw [ofl_no (h k (by omega)), ih fun j hj => h j (by omega)]
/-- The moves of n. -/
def mT (n m : Nat) : Bool := mv (n : Nat) (m : Nat)
theorem pcou_err {n : Int} (h : ¬ (5 ≤ n ∧ n ≤ 64)) (w : World) : Calls Try.prog 12 #[.int .i64 n] w (LOut w 0 (fun _ => 0) 2) := by
  have HN := Lib.hid (isnum_f h)
  go_enter Try.func12, Try.ntmps12
  go_wp2_with fail
  refine (HN.out _).mono ?_
  rintro e w1 ⟨rfl, rfl⟩
  go_wp2
  go_ret2
  exact ⟨none, 0, rfl, fun h => absurd h (by omega), Below.refl _ _⟩
theorem rcou_err {n : Int} (h : ¬ (5 ≤ n ∧ n ≤ 64)) (w : World) : Calls Try.prog 22 #[.int .i64 n] w (LOut w 0 (fun _ => 0) 2) := by
  by_cases h5 : 5 ≤ n
  · have h6 : 64 < n := by omega
    go_enter Try.func22, Try.ntmps22
    go_wp2
    go_ret2
    exact ⟨none, 0, rfl, fun h => absurd h (by omega), Below.refl _ _⟩
  · have h6 : n < 5 := by omega
    go_enter Try.func22, Try.ntmps22
    go_wp2
    go_ret2
    exact ⟨none, 0, rfl, fun h => absurd h (by omega), Below.refl _ _⟩
theorem lout_end {w w' : World} {N : Nat} {f : Nat → Int} {l : Value} (h : L2.Own w' w.heap.size l N f) (hb : Below w.heap.size w w') : LOut w N f 0 (.returned (.tuple #[l, .int .i64 0])) w' := by
  obtain ⟨A', c', rfl, h1, h2⟩ := h.out
  exact ⟨A', c', rfl, fun hn => h2 hn, hb⟩
set_option maxHeartbeats 800000 in
theorem pcou_ok {n : Nat} (h5 : 5 ≤ n) (h6 : n ≤ 64) (w : World) : Calls Try.prog 12 #[.int .i64 (n : Nat)] w (LOut w (ofl (mT n) n).length (lf (ofl (mT n) n)) 0) := by
  have HN := Lib.hid (isnum_t (n := (n : Nat)) (by omega) (by omega))
  have HM := Lib.hid (fun (m : Nat) u => (show Calls Try.prog 49 #[.int .i64 (n : Nat), .int .i64 (m : Nat)] u fun e w' => e = .returned (.bool (mT n m)) ∧ Below u.heap.size u w' from pmv_b (n : Nat) (m : Nat) u))
  go_enter Try.func12, Try.ntmps12
  go_wp2_with fail
  refine (HN.out _).mono ?_
  rintro e w1 ⟨rfl, rfl⟩
  clear HN
  go_wp2
  go_loopw [4, 10] (fun l i wr => ∃ m : Nat, m ≤ n ∧ i = .int .i64 m ∧ Hid (L2.Own wr w1.heap.size l (ofl (mT n) m).length (lf (ofl (mT n) m))) ∧ Hid (Below w1.heap.size w1 wr)) (fun _ i _ => n - (intOf i).toNat)
  case atStart => exact ⟨0, by omega, rfl, Lib.hid (L2.Own.nil _ _ _), Lib.hid (Below.refl _ _)⟩
  case round =>
    obtain ⟨m, hm, rfl, HO, HB⟩ := hrel
    by_cases hlm : m < n
    · have x1 : (m : Int) < (n : Int) := by omega
      have hlen := ofl_len (mT n) m
      go_wp2_with fail
      refine (HM.out m _).mono ?_
      rintro e w2 ⟨rfl, hb⟩
      have HO2 := Lib.hid (HO.out.below hb)
      have HB2 := Lib.hid (HB.out.trans (hb.mono HB.out.size))
      have hsz : w1.heap.size ≤ w2.heap.size := HB2.out.size
      clear hb HO HB
      cases hT : mT n m
      · have E := Lib.hid (ofl_no hT)
        clear hT
        go_wp2
        exact ⟨⟨m + 1, by omega, by go_num, by rw [E.out]; exact HO2, HB2⟩, by simp [intOf]; omega⟩
      · have E := Lib.hid (ofl_yes hT)
        have HF := Lib.hid (HO2.out.congr (fun i hi => lf_app (r := [m]) hi))
        have HY := Lib.hid (lf_last (ofl (mT n) m) m)
        have EL := Lib.hid (show (ofl (mT n) (m + 1)).length = (ofl (mT n) m).length + 1 by rw [E.out, List.length_append]; rfl)
        clear hT HO2
        go_wp2_with (at_builtin; refine L2.app1 _ rfl _ _ (by rfl) w1.heap.size (by rfl) HF.out (m : Int) (by rfl) HY.out (by omega) hsz ?_; intro v' w5 hown5 hb5; have HO5 := Lib.hid hown5; have HB5 := Lib.hid hb5; clear hown5 hb5)
        exact ⟨⟨m + 1, by omega, by go_num, by rw [EL.out, E.out]; exact HO5, Lib.hid (HB2.out.trans HB5.out)⟩, by simp [intOf]; omega⟩
    · have e : m = n := by omega
      subst e
      have HF := Lib.hid (lout_end HO.out HB.out)
      go_wp2
      go_ret2
      exact HF.out
set_option maxHeartbeats 800000 in
theorem rcou_ok {n : Nat} (h5 : 5 ≤ n) (h6 : n ≤ 64) (w : World) : Calls Try.prog 22 #[.int .i64 (n : Nat)] w (LOut w (ofl (mT n) n).length (lf (ofl (mT n) n)) 0) := by
  have HM := Lib.hid (fun (m : Nat) u => (show Calls Try.prog 30 #[.int .i64 (n : Nat), .int .i64 (m : Nat)] u fun e w' => e = .returned (.bool (mT n m)) ∧ Below u.heap.size u w' from rmv_b (n : Nat) (m : Nat) u))
  have x5 : ¬ (n : Int) < 5 := by omega
  have x6 : ¬ 64 < (n : Int) := by omega
  have E0 := Lib.hid (ofl_low (T := mT n) (k := 2) fun j hj => mv_low (by omega))
  have E1 := Lib.hid (show ofl (mT n) n = ofl (mT n) (n - 1) by
    have := ofl_no (T := mT n) (k := n - 1) (mv_high (by omega))
    rwa [show n - 1 + 1 = n by omega] at this)
  have x7 : IntKind.i64.wrap ((n : Int) - 2) = (n : Int) - 2 := IntWalk.i64_in _ (by omega)
  go_enter Try.func22, Try.ntmps22
  go_wp2
  go_loopw [4, 5] (fun l i wr => ∃ m : Nat, 2 ≤ m ∧ m ≤ n - 1 ∧ i = .int .i64 m ∧ Hid (L2.Own wr w.heap.size l (ofl (mT n) m).length (lf (ofl (mT n) m))) ∧ Hid (Below w.heap.size w wr)) (fun _ i _ => n - (intOf i).toNat)
  case atStart => exact ⟨2, by omega, by omega, rfl, by rw [E0.out]; exact Lib.hid (L2.Own.nil _ _ _), Lib.hid (Below.refl _ _)⟩
  case round =>
    obtain ⟨m, hm0, hm, rfl, HO, HB⟩ := hrel
    by_cases hlm : m < n - 1
    · have x1 : (m : Int) ≤ (n : Int) - 2 := by omega
      have hlen := ofl_len (mT n) m
      go_wp2_with fail
      refine (HM.out m _).mono ?_
      rintro e w2 ⟨rfl, hb⟩
      have HO2 := Lib.hid (HO.out.below hb)
      have HB2 := Lib.hid (HB.out.trans (hb.mono HB.out.size))
      have hsz : w.heap.size ≤ w2.heap.size := HB2.out.size
      clear hb HO HB
      cases hT : mT n m
      · have E := Lib.hid (ofl_no hT)
        clear hT
        go_wp2
        exact ⟨⟨m + 1, by omega, by omega, by go_num, by rw [E.out]; exact HO2, HB2⟩, by simp [intOf]; omega⟩
      · have E := Lib.hid (ofl_yes hT)
        have HF := Lib.hid (HO2.out.congr (fun i hi => lf_app (r := [m]) hi))
        have HY := Lib.hid (lf_last (ofl (mT n) m) m)
        have EL := Lib.hid (show (ofl (mT n) (m + 1)).length = (ofl (mT n) m).length + 1 by rw [E.out, List.length_append]; rfl)
        clear hT HO2
        go_wp2_with (at_builtin; refine L2.app1 _ rfl _ _ (by rfl) w.heap.size (by rfl) HF.out (m : Int) (by rfl) HY.out (by omega) hsz ?_; intro v' w5 hown5 hb5; have HO5 := Lib.hid hown5; have HB5 := Lib.hid hb5; clear hown5 hb5)
        exact ⟨⟨m + 1, by omega, by omega, by go_num, by rw [EL.out, E.out]; exact HO5, Lib.hid (HB2.out.trans HB5.out)⟩, by simp [intOf]; omega⟩
    · have e : m = n - 1 := by omega
      have x1 : ¬ (m : Int) ≤ (n : Int) - 2 := by omega
      have HF : Hid (LOut w (ofl (mT n) n).length (lf (ofl (mT n) n)) 0 (.returned (.tuple #[u4, .int .i64 0])) wr) := Lib.hid (by rw [E1.out, ← e]; exact lout_end HO.out HB.out)
      go_wp2
      go_ret2
      exact HF.out
/-- Counters of both sides. -/
theorem cou_two (n : Int) : ∃ (N : Nat) (f : Nat → Int) (z : Int), N ≤ 64 ∧ ∀ w, Calls Try.prog 12 #[.int .i64 n] w (LOut w N f z) ∧ Calls Try.prog 22 #[.int .i64 n] w (LOut w N f z) := by
  by_cases h : 5 ≤ n ∧ n ≤ 64
  · obtain ⟨a, rfl⟩ := Int.eq_ofNat_of_zero_le (show 0 ≤ n by omega)
    try simp only [Int.ofNat_eq_natCast] at *
    have := ofl_len (mT a) a
    exact ⟨_, _, 0, by omega, fun w => ⟨pcou_ok (by omega) (by omega) w, rcou_ok (by omega) (by omega) w⟩⟩
  · exact ⟨0, fun _ => 0, 2, by omega, fun w => ⟨pcou_err h w, rcou_err h w⟩⟩
end Go.Proofs.Ytmakjdfkldacaaa
