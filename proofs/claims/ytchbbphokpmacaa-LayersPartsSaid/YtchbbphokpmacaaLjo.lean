/- joined of the program: Grow, Concat, Sort. -/
import Derived.Test.YtchbbphokpmacaaLsg
import Derived.Test.YtchbbphokpmacaaLly
namespace Go.Proofs.Ytchbbphokpmacaa
open Go.RowKit
set_option maxRecDepth 100000
set_option linter.unusedVariables false
set_option linter.unusedSimpArgs false

theorem lf_cat {l r : List Nat} {i : Nat} : L2.both l.length (lf l) (lf r) i = lf (l ++ r) i := by
  unfold L2.both lf
  split
  · rename_i h
    rw [List.getD_eq_getElem?_getD, List.getD_eq_getElem?_getD, List.getElem?_append_left h]
  · rename_i h
    rw [List.getD_eq_getElem?_getD, List.getD_eq_getElem?_getD, List.getElem?_append_right (by omega)]
theorem own_cat {w : World} {base : Nat} {v : Value} {l r : List Nat} (h : L2.Own w base v (l.length + r.length) (L2.both l.length (lf l) (lf r))) : L2.Own w base v (l ++ r).length (lf (l ++ r)) := by
  rw [List.length_append]
  exact h.congr fun i _ => lf_cat
theorem grow_nil (n : Nat) (w : World) (hn : n ≤ 10000) : Calls Try.prog 152 #[.slice none 0 0, .int .i64 (n : Nat)] w fun e w' => ∃ v, e = .returned v ∧ L2.Own w' w.heap.size v 0 (lf []) ∧ Below w.heap.size w w' := by
  by_cases h0 : n = 0
  · subst h0
    have h := Any8.slices_Grow_room Try.lays8 none 0 0 0 w (by omega) (by omega) (by omega) (by omega)
    refine Calls.mono h ?_
    rintro e w' ⟨rfl, rfl⟩
    exact ⟨_, rfl, L2.Own.nil _ _ _, Below.refl _ _⟩
  · obtain ⟨i0, hi, hz0, hz1, hz2⟩ := info_parts L2.TryI.info3
    have h := Any8.slices_Grow_grow Try.lays8 i0 (.int .i64 0) hi hz0 (by omega) none 0 0 n [] w (by omega) (by omega) (by rw [hz2]; omega) (by omega) (by simp) (fun _ => rfl) (fun a ha => by cases ha)
    refine Calls.mono h ?_
    rintro e w' ⟨rfl, rfl⟩
    have hcm := grownCap_le_maxLen w (0 + n) 0 3 (by unfold maxLen; omega)
    have hge := grownCap_ge w (0 + n) 0 3
    refine ⟨_, rfl, ⟨rfl, .inr ⟨w.heap.size, _, _, rfl, Nat.le_refl _, World.alloc_heap_new w.drew _, Nat.zero_le _, hcm, ?_, by simp [L2.news]⟩⟩, (Below.refl _ _).drew.alloc (Nat.le_refl _) _⟩
    show (#[] ++ Builtin.zeroCells _ _ ++ Builtin.zeroCells _ _).size = grownCap w (0 + n) 0 3 * 1
    rw [Array.size_append, Array.size_append, size_zeroCells, size_zeroCells]
    show 0 + (0 + n - 0) * 1 + (grownCap w (0 + n) 0 3 - (0 + n)) * 1 = _
    omega
/-- The lists one behind the other. -/
def catL (L : Nat → List Nat) (k : Nat) : List Nat := (List.range k).flatMap L
theorem catL_succ (L : Nat → List Nat) (k : Nat) : catL L (k + 1) = catL L k ++ L k := by
  unfold catL
  rw [List.range_succ, List.flatMap_append]
  simp
theorem catL_mono (L : Nat → List Nat) {i k : Nat} (h : i ≤ k) : (catL L i).length ≤ (catL L k).length := by
  induction k with
  | zero => rw [show i = 0 by omega]; exact Nat.le_refl _
  | succ k ih =>
    by_cases e : i = k + 1
    · rw [e]; exact Nat.le_refl _
    · rw [catL_succ, List.length_append]
      have := ih (by omega)
      omega
set_option maxHeartbeats 1600000 in
theorem concat_n (D : Option Addr) (n d : Nat) (L : Nat → List Nat) (w : World) (hl : LLs w D n L) (hn : n ≤ 128) (hT : (catL L n).length ≤ 128) :
    Calls Try.prog 134 #[.slice D n d] w fun e w' => ∃ v, e = .returned v ∧ L2.Own w' w.heap.size v (catL L n).length (lf (catL L n)) ∧ Below w.heap.size w w' := by
  have HL := Lib.hid hl
  have HM := Lib.hid (fun k (h : k ≤ n) => Nat.le_trans (catL_mono L h) hT)
  have HS := Lib.hid (fun k => catL_succ L k)
  clear hl
  go_enter Try.func134, Try.ntmps134
  go_wp2
  go_loop [3, 11] (fun s i => ∃ k : Nat, k ≤ n ∧ i = .int .i64 k ∧ s = .int .i64 ((catL L k).length : Nat)) (fun _ i => n - (intOf i).toNat)
  case atStart => exact ⟨0, Nat.zero_le _, rfl, rfl⟩
  case round =>
    obtain ⟨k, hk, rfl, rfl⟩ := hrel
    by_cases hlt : k < n
    · have y1 : (k : Int) < (n : Int) := by omega
      have y2 : (0 : Int) ≤ (k : Int) := by omega
      obtain ⟨b, o, rfl, hb, hc⟩ := HL.out (by omega)
      obtain ⟨E, ce, c1, _, _⟩ := hc k hlt
      clear hc
      have hm1 := HM.out (k + 1) (by omega)
      have e1 : (catL L (k + 1)).length = (catL L k).length + (L k).length := by rw [HS.out, List.length_append]
      have E1 := Lib.hid e1
      obtain ⟨a1, ha1⟩ : ∃ x, (catL L k).length = x := ⟨_, rfl⟩
      obtain ⟨a2, ha2⟩ : ∃ x, (L k).length = x := ⟨_, rfl⟩
      rw [ha1, ha2] at e1 E1
      rw [ha2] at c1
      rw [ha1]
      clear ha1 ha2
      rw [e1] at hm1
      clear e1
      have y3 : ¬ ((a1 : Int) + (a2 : Int) < 0) := by omega
      go_wp2
      go_round
      case rel => exact ⟨k + 1, by omega, by go_num, by rw [E1.out]; go_num⟩
      case measure => simp [intOf]; omega
    · have e : k = n := by omega
      subst e
      have hm1 := HM.out k (Nat.le_refl _)
      obtain ⟨T, hT2⟩ : ∃ x, (catL L k).length = x := ⟨_, rfl⟩
      have HTT := Lib.hid hT2
      rw [hT2] at hm1
      rw [hT2]
      clear hT2
      have HG := Lib.hid (grow_nil T w (by omega))
      go_wp2_with fail
      with_reducible refine Calls.mono HG.out ?_
      rintro e w1 ⟨v, rfl, hown, hb⟩
      have HB1 := Lib.hid hb
      have HO1 : Hid (L2.Own w1 w.heap.size v (catL L 0).length (lf (catL L 0))) := Lib.hid hown
      clear hb hown HG
      go_wp2
      go_loopw [6, 27] (fun v i wr => ∃ j : Nat, j ≤ k ∧ i = .int .i64 j ∧ Hid (L2.Own wr w.heap.size v (catL L j).length (lf (catL L j))) ∧ Hid (Below w.heap.size w wr)) (fun _ i _ => k - (intOf i).toNat)
      case atStart => exact ⟨0, Nat.zero_le _, rfl, HO1, HB1⟩
      case round =>
        obtain ⟨j, hj, rfl, HO, HB⟩ := hrel
        clear HO1 HB1
        by_cases hlj : j < k
        · have y1 : (j : Int) < (k : Int) := by omega
          have y2 : (0 : Int) ≤ (j : Int) := by omega
          obtain ⟨b, o, rfl, hb, hc⟩ := (HL.out.below HB.out) (by omega)
          obtain ⟨E, ce, c1, hcp, hll⟩ := hc j hlj
          clear hc
          have hm1 := HM.out j (by omega)
          have hm2 := HM.out (j + 1) (by omega)
          rw [HS.out, List.length_append] at hm2
          have hbs := HB.out.size
          have HLL := Lib.hid (show L2.Holds wr wr.heap.size E (L j).length (lf (L j)) from hll)
          have HCP := Lib.hid hcp.1
          have HNX := Lib.hid (fun (v' : Value) (w' : World) (h : L2.Own w' w.heap.size v' ((catL L j).length + (L j).length) (L2.both (catL L j).length (lf (catL L j)) (lf (L j)))) => (show L2.Own w' w.heap.size v' (catL L (j + 1)).length (lf (catL L (j + 1))) from by rw [HS.out]; exact own_cat h))
          clear hll hcp hb
          generalize (L j).length = a2 at *
          generalize (catL L j).length = a1 at *
          go_wp2_with (at_builtin; refine L2.appN _ rfl _ _ (by rfl) w.heap.size (by rfl) HO.out (by rfl) HCP.out HLL.out (by omega) (by omega) hbs ?_; intro v' w6 hown6 hb6; have HO6 := Lib.hid (HNX.out _ _ hown6); have HB6 := Lib.hid (HB.out.trans hb6); clear hown6 hb6)
          go_roundw
          case rel => exact ⟨j + 1, by omega, by go_num, HO6, HB6⟩
          case measure => simp [intOf]; omega
        · have e : j = k := by omega
          subst e
          go_wp2
          go_ret
          exact ⟨_, rfl, HO.out, HB.out⟩
theorem msort_ofl {l : List Nat} {P : Nat → Bool} {N : Nat} (hnd : l.Nodup) (hm : ∀ a, a ∈ l ↔ a < N ∧ P a = true) : (l.map fun b => ((b : Nat) : Int)).mergeSort (fun x y => decide (x ≤ y)) = (ofl P N).map fun b => ((b : Nat) : Int) := by
  have hp : (ofl P N).Nodup := List.Pairwise.filter _ List.nodup_range
  have h1 : l.Perm (ofl P N) := (List.perm_ext_iff_of_nodup hnd hp).2 fun a => by rw [hm a, ofl_mem]
  have h2 := List.mergeSort_perm (l.map fun b => ((b : Nat) : Int)) (fun x y => decide (x ≤ y))
  refine List.Perm.eq_of_pairwise (le := fun x y : Int => decide (x ≤ y) = true) (fun a b _ _ h3 h4 => ?_) (List.pairwise_mergeSort (fun a b c h1 h2 => ?_) (fun a b => ?_) _) ?_ (h2.trans (h1.map _))
  · have := of_decide_eq_true h3
    have := of_decide_eq_true h4
    omega
  · have := of_decide_eq_true h1
    have := of_decide_eq_true h2
    exact decide_eq_true (by omega)
  · simp only [Bool.or_eq_true, decide_eq_true_eq]; omega
  · rw [List.pairwise_map]
    unfold ofl
    refine List.Pairwise.filter _ (List.Pairwise.imp (fun {a b} h => ?_) List.pairwise_lt_range)
    exact decide_eq_true (by omega)
end Go.Proofs.Ytchbbphokpmacaa
