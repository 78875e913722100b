/- across: what it hands back. -/
import Derived.Test.YtmcdfnhpaneanaaAci
namespace Go.Proofs.Ytmcdfnhpaneanaa
open Go.RowKit
set_option maxRecDepth 100000
set_option linter.unusedVariables false
set_option linter.unusedSimpArgs false

/-- What the iterator has captured is this. -/
def AcOut (w : World) (W H : Nat) (f : Nat → Int) (t b off NC cap : Nat) (e : Ending) (w' : World) : Prop :=
  ∃ c8 c5 c2 c7 c6 fi ce st, e = .returned (.func (.func 89) #[] #[.pointer (some ⟨c8, 0, none⟩), .pointer (some ⟨c5, 0, none⟩), .pointer (some ⟨c2, 0, none⟩), .pointer (some ⟨c7, 0, none⟩), .pointer (some ⟨c6, 0, none⟩)]) ∧
    (w.heap.size ≤ c8 ∧ w.heap.size ≤ c5 ∧ w.heap.size ≤ c2 ∧ w.heap.size ≤ c7 ∧ w.heap.size ≤ c6) ∧ (c8 < w'.heap.size ∧ c5 < w'.heap.size ∧ c2 < w'.heap.size ∧ c7 < w'.heap.size ∧ c6 < w'.heap.size) ∧
    AC w' c8 c5 c2 c7 c6 b off (ccn W H t) fi ce st NC cap (fun i => f (ccl W t i)) ∧ fi ≤ 64 ∧ st ≤ 64 ∧ (∀ i, i < ccn W H t → ce + i * st < NC) ∧ (∀ i, i < ccn W H t → fi + i = cth W t i) ∧ Below w.heap.size w w'
set_option maxHeartbeats 1600000 in
theorem across_any (W H : Nat) (b off cap : Nat) (f : Nat → Int) (t : Nat) (w : World) (hW0 : 1 ≤ W) (hW : W ≤ 64) (hH0 : 1 ≤ H) (hH : H ≤ 64) (ht : t < W + H) (hb : b < w.heap.size) (hf : ∀ i, i < W * H → w.cell? ⟨b, off + i, none⟩ = some (.int .i64 (f i))) :
    Calls Try.prog 86 #[.agg #[.int .i64 (W : Nat), .int .i64 (H : Nat), .slice (some ⟨b, off, none⟩) (W * H) cap], .int .i64 (t : Nat)] w (AcOut w W H f t b off (W * H) cap) := by
  have HF := Lib.hid hf
  clear hf
  have hmf := mk_fn
  have X1 := Lib.hid (IBox.new w (W : Nat) (H : Nat) (.slice (some ⟨b, off, none⟩) (W * H) cap))
  have LB0 := Lib.hid (bel_alloc w (.cells #[.int .i64 (W : Nat), .int .i64 (H : Nat), .slice (some ⟨b, off, none⟩) (W * H) cap] 24))
  have hM : W * H ≤ 4096 := Nat.mul_le_mul hW hH
  have HCL := Lib.hid (fun i (hi : i < ccn W H t) => ccl_lt (W := W) (H := H) ht hi)
  obtain ⟨M, hMe⟩ : ∃ M, W * H = M := ⟨_, rfl⟩
  rw [hMe] at HF X1 LB0 hM HCL ⊢
  clear hMe
  go_enter Try.func86, Try.ntmps86
  go_upto_region 1 with (fail)
  generalize w.alloc (.cells #[.int .i64 (W : Nat), .int .i64 (H : Nat), .slice (some ⟨b, off, none⟩) M cap] 24) = w0 at *
  obtain ⟨q0, q1, q2, q3, q4, q5, q6⟩ := X1.out.all
  have hSw : (fun u : World => u.cell? ⟨w.heap.size, 0, none⟩ = some (.int .i64 (W : Nat)) ∧ u.cell? ⟨w.heap.size, 1, none⟩ = some (.int .i64 (H : Nat))) w0.drew := ⟨q0, q1⟩
  have HSS := Lib.hid (fun u (h : Below w0.drew.heap.size w0.drew u) => (show u.cell? ⟨w.heap.size, 0, none⟩ = some (.int .i64 (W : Nat)) ∧ u.cell? ⟨w.heap.size, 1, none⟩ = some (.int .i64 (H : Nat)) from ⟨(h.cell (p := ⟨w.heap.size, 0, none⟩) X1.out.lt).trans q0, (h.cell (p := ⟨w.heap.size, 1, none⟩) X1.out.lt).trans q1⟩))
  refine wp_region_held (S := fun u : World => u.cell? ⟨w.heap.size, 0, none⟩ = some (.int .i64 (W : Nat)) ∧ u.cell? ⟨w.heap.size, 1, none⟩ = some (.int .i64 (H : Nat))) (by kernel_rfl) ?_
  try (change wpAnyH _ _ _ _ _ _ _ _ (World.drew _))
  refine wpAnyH_take (i := 0) (v := ?_) rfl (by kernel_rfl) (by kernel_rfl) (by kernel_rfl) (fun _ _ _ h => h) (Or.inl ⟨by kernel_rfl, ?_⟩) hSw ?_
  rotate_left
  · (intro u hu; obtain ⟨h0, h1⟩ := hu; first | (go_simp; done) | (go_simp; with_reducible rfl))
  try simp only [Act.put, List.getElem_toArray, List.getElem_cons_succ, List.getElem_cons_zero, List.setIfInBounds_toArray, List.set_cons_zero, List.set_cons_succ]
  refine wpAnyH_take (i := 1) (v := ?_) rfl (by kernel_rfl) (by kernel_rfl) (by kernel_rfl) (fun _ _ _ h => h) (Or.inl ⟨by kernel_rfl, ?_⟩) hSw ?_
  rotate_left
  · (intro u hu; obtain ⟨h0, h1⟩ := hu; first | (go_simp; done) | (go_simp; with_reducible rfl))
  try simp only [Act.put, List.getElem_toArray, List.getElem_cons_succ, List.getElem_cons_zero, List.setIfInBounds_toArray, List.set_cons_zero, List.set_cons_succ]
  refine wpAnyH_take (i := 2) (v := ?_) rfl (by kernel_rfl) (by kernel_rfl) (by kernel_rfl) (fun _ _ _ h => h) (Or.inl ⟨by kernel_rfl, ?_⟩) hSw ?_
  rotate_left
  · (intro u hu; obtain ⟨h0, h1⟩ := hu; first | (go_simp; done) | (go_simp; with_reducible rfl))
  try simp only [Act.put, List.getElem_toArray, List.getElem_cons_succ, List.getElem_cons_zero, List.setIfInBounds_toArray, List.set_cons_zero, List.set_cons_succ]
  refine wpAnyH_take (i := 3) (v := ?_) rfl (by kernel_rfl) (by kernel_rfl) (by kernel_rfl) (fun _ _ _ h => h) (Or.inl ⟨by kernel_rfl, ?_⟩) hSw ?_
  rotate_left
  · (intro u hu; obtain ⟨h0, h1⟩ := hu; first | (go_simp; done) | (go_simp; with_reducible rfl))
  try simp only [Act.put, List.getElem_toArray, List.getElem_cons_succ, List.getElem_cons_zero, List.setIfInBounds_toArray, List.set_cons_zero, List.set_cons_succ]
  refine wpAnyH_take (i := 4) (v := ?_) rfl (by kernel_rfl) (by kernel_rfl) (by kernel_rfl) (fun _ _ _ h => h) (Or.inl ⟨by kernel_rfl, ?_⟩) hSw ?_
  rotate_left
  · (intro u hu; obtain ⟨h0, h1⟩ := hu; first | (go_simp; done) | (go_simp; with_reducible rfl))
  try simp only [Act.put, List.getElem_toArray, List.getElem_cons_succ, List.getElem_cons_zero, List.setIfInBounds_toArray, List.set_cons_zero, List.set_cons_succ]
  refine wpAnyH_take (i := 5) (v := ?_) rfl (by kernel_rfl) (by kernel_rfl) (by kernel_rfl) (fun _ _ _ h => h) (Or.inl ⟨by kernel_rfl, ?_⟩) hSw ?_
  rotate_left
  · (intro u hu; obtain ⟨h0, h1⟩ := hu; first | (go_simp; done) | (go_simp; with_reducible rfl))
  try simp only [Act.put, List.getElem_toArray, List.getElem_cons_succ, List.getElem_cons_zero, List.setIfInBounds_toArray, List.set_cons_zero, List.set_cons_succ]
  refine wpAnyH_take (i := 6) (v := ?_) rfl (by kernel_rfl) (by kernel_rfl) (by kernel_rfl) (fun _ _ _ h => h) (Or.inl ⟨by kernel_rfl, ?_⟩) hSw ?_
  rotate_left
  · (intro u hu; obtain ⟨h0, h1⟩ := hu; first | (go_simp; done) | (go_simp; with_reducible rfl))
  try simp only [Act.put, List.getElem_toArray, List.getElem_cons_succ, List.getElem_cons_zero, List.setIfInBounds_toArray, List.set_cons_zero, List.set_cons_succ]
  refine ac_rest _ _ (W : Nat) (W : Nat) (t : Nat) (H : Nat) ⟨_, rfl, rfl, rfl, rfl, by kernel_rfl⟩ ⟨_, rfl, rfl, rfl, rfl, by kernel_rfl⟩ ⟨_, rfl, rfl, rfl, rfl, by kernel_rfl⟩ ⟨_, rfl, rfl, rfl, rfl, by kernel_rfl⟩ ⟨_, rfl, rfl, rfl, rfl, by kernel_rfl⟩ ⟨_, rfl, rfl, rfl, rfl, by kernel_rfl⟩ ⟨_, rfl, rfl, rfl, rfl, by kernel_rfl⟩ ⟨_, rfl, rfl, rfl, rfl, by kernel_rfl⟩ rfl (by kernel_rfl) (by simp) rfl rfl rfl rfl (fun u h => HSS.out u h) ?_ _ (by kernel_rfl) _ (by simp)
  intro b5 b6 b7 b8 wc hbx0 ⟨l5, l6, l7, l8⟩ n5 n6 n7 n8 ⟨d1, d2, d3, d4, d5, d6⟩
  try simp only [List.setIfInBounds_toArray, List.set_cons_zero, List.set_cons_succ]
  have hbx : Below w0.heap.size w0 wc := (Below.refl w0.heap.size w0).drew.trans hbx0
  clear hbx0 HSS hSw
  have X2 := X1.out.below hbx X1.out.lt
  have hsz := LB0.out.size
  have hB := LB0.out.trans (hbx.mono LB0.out.size)
  have l5 : w0.heap.size ≤ b5 := l5
  have l6 : w0.heap.size ≤ b6 := l6
  have l7 : w0.heap.size ≤ b7 := l7
  have l8 : w0.heap.size ≤ b8 := l8
  have h0s : w.heap.size < w0.heap.size := X1.out.lt
  clear q0 q1 q2 q3 q4 q5 q6
  obtain ⟨q0, q1, q2, q3, q4, q5, q6⟩ := X2.all
  have N5 := Lib.hid n5
  have N6 := Lib.hid n6
  have N7 := Lib.hid n7
  have N8 := Lib.hid n8
  have XX := Lib.hid X2
  have HB := Lib.hid hB
  by_cases hlo : t < W
  · have y1 : decide ((W : Int) ≤ (t : Int)) = false := by simp; omega
    clear n5 n6 n7 n8 X2 hbx hB X1 LB0
    go_wp2
    go_ret
    have e1 : ccn W H t = H := if_pos hlo
    have e2 : ∀ i, ccl W t i = i * W + t := fun i => if_pos hlo
    have e3 : ∀ i, cth W t i = W + i := fun i => if_pos hlo
    refine ⟨b8, b5, w.heap.size, b7, b6, W, t, W, rfl, ⟨by omega, by omega, Nat.le_refl _, by omega, by omega⟩, ⟨N8.out.lt, N5.out.lt, XX.out.lt, N7.out.lt, N6.out.lt⟩, ⟨by rw [e1]; exact N8.out.cell, N5.out.cell, XX.out.c2, N7.out.cell, N6.out.cell, fun i hi => ?_⟩, hW, hW, fun i hi => ?_, fun i hi => (e3 i).symm, HB.out⟩
    · have h1 := HCL.out i hi
      rw [e2, Nat.add_comm] at h1
      show _ = some (Value.int .i64 (f (ccl W t i)))
      rw [e2, Nat.add_comm (i * W) t]
      exact (HB.out.cell (p := ⟨b, off + (t + i * W), none⟩) hb).trans (HF.out _ h1)
    · have h1 := HCL.out i hi
      rw [e2] at h1
      omega
  · have y1 : decide ((W : Int) ≤ (t : Int)) = true := by simp; omega
    obtain ⟨y, hty⟩ : ∃ y, t = W + y := ⟨t - W, by omega⟩
    have hy : y < H := by omega
    have hyW : y * W ≤ 4096 := Nat.mul_le_mul (show y ≤ 64 by omega) hW
    obtain ⟨p, hp⟩ : ∃ p, y * W = p := ⟨_, rfl⟩
    have z1 : IntKind.i64.wrap ((t : Int) - (W : Int)) = (y : Int) := by rw [IntWalk.i64_in _ (by omega)]; omega
    have z1' : wrap64 ((t : Int) - (W : Int)) = (y : Int) := by rw [IntWalk.wrap64_in _ (by omega)]; omega
    have z3 : (t : Int) - (W : Int) = (y : Int) := by omega
    have z2 : IntKind.i64.wrap ((y : Int) * (W : Int)) = (p : Int) := by rw [← Int.natCast_mul, hp]; exact IntWalk.i64_in _ (by omega)
    have z2' : wrap64 ((y : Int) * (W : Int)) = (p : Int) := by rw [← Int.natCast_mul, hp]; exact IntWalk.wrap64_in _ (by omega)
    have HP := Lib.hid hp
    have HT := Lib.hid hty
    have i5 := N5.out.cell
    have j5 := N5.out.free
    have i6 := N6.out.cell
    have j6 := N6.out.free
    have i7 := N7.out.cell
    have j7 := N7.out.free
    have i8 := N8.out.cell
    have j8 := N8.out.free
    clear n5 n6 n7 n8 X2 hbx hB X1 LB0 hp hty
    have k5 := N5.out.lt
    go_wp2
    go_region
    go_wp2
    go_ret
    have e1 : ccn W H t = W := if_neg hlo
    have e2 : ∀ i, ccl W t i = p + i := fun i => by unfold ccl; rw [if_neg hlo, ← HP.out, HT.out, show W + y - W = y by omega]
    have e3 : ∀ i, cth W t i = i := fun i => if_neg hlo
    have n5 : NB ((((wc.setCell ⟨b5, 0, none⟩ (.int .i64 0)).setCell ⟨b6, 0, none⟩ (.int .i64 1)).setCell ⟨b7, 0, none⟩ (.int .i64 (p : Nat))).setCell ⟨b8, 0, none⟩ (.int .i64 (W : Nat))).drew b5 0 := (((N5.out.put 0).far (p := ⟨b6, 0, none⟩) d1 _).far (p := ⟨b7, 0, none⟩) d2 _).far (p := ⟨b8, 0, none⟩) d3 _
    have n6 : NB ((((wc.setCell ⟨b5, 0, none⟩ (.int .i64 0)).setCell ⟨b6, 0, none⟩ (.int .i64 1)).setCell ⟨b7, 0, none⟩ (.int .i64 (p : Nat))).setCell ⟨b8, 0, none⟩ (.int .i64 (W : Nat))).drew b6 1 := (((N6.out.far (p := ⟨b5, 0, none⟩) d1.symm _).put 1).far (p := ⟨b7, 0, none⟩) d4 _).far (p := ⟨b8, 0, none⟩) d5 _
    have n7 : NB ((((wc.setCell ⟨b5, 0, none⟩ (.int .i64 0)).setCell ⟨b6, 0, none⟩ (.int .i64 1)).setCell ⟨b7, 0, none⟩ (.int .i64 (p : Nat))).setCell ⟨b8, 0, none⟩ (.int .i64 (W : Nat))).drew b7 (p : Nat) := (((N7.out.far (p := ⟨b5, 0, none⟩) d2.symm _).far (p := ⟨b6, 0, none⟩) d4.symm _).put (p : Nat)).far (p := ⟨b8, 0, none⟩) d6 _
    have n8 : NB ((((wc.setCell ⟨b5, 0, none⟩ (.int .i64 0)).setCell ⟨b6, 0, none⟩ (.int .i64 1)).setCell ⟨b7, 0, none⟩ (.int .i64 (p : Nat))).setCell ⟨b8, 0, none⟩ (.int .i64 (W : Nat))).drew b8 (W : Nat) := (((N8.out.far (p := ⟨b5, 0, none⟩) d3.symm _).far (p := ⟨b6, 0, none⟩) d5.symm _).far (p := ⟨b7, 0, none⟩) d6.symm _).put (W : Nat)
    have x2 : IBox ((((wc.setCell ⟨b5, 0, none⟩ (.int .i64 0)).setCell ⟨b6, 0, none⟩ (.int .i64 1)).setCell ⟨b7, 0, none⟩ (.int .i64 (p : Nat))).setCell ⟨b8, 0, none⟩ (.int .i64 (W : Nat))).drew w.heap.size (W : Nat) (H : Nat) (.slice (some ⟨b, off, none⟩) M cap) := (((XX.out.far (p := ⟨b5, 0, none⟩) (by show w.heap.size ≠ b5; omega) _).far (p := ⟨b6, 0, none⟩) (by show w.heap.size ≠ b6; omega) _).far (p := ⟨b7, 0, none⟩) (by show w.heap.size ≠ b7; omega) _).far (p := ⟨b8, 0, none⟩) (by show w.heap.size ≠ b8; omega) _
    have hB2 : Below w.heap.size w ((((wc.setCell ⟨b5, 0, none⟩ (.int .i64 0)).setCell ⟨b6, 0, none⟩ (.int .i64 1)).setCell ⟨b7, 0, none⟩ (.int .i64 (p : Nat))).setCell ⟨b8, 0, none⟩ (.int .i64 (W : Nat))).drew := ((((HB.out.setCell (p := ⟨b5, 0, none⟩) (by show w.heap.size ≤ b5; omega) _).setCell (p := ⟨b6, 0, none⟩) (by show w.heap.size ≤ b6; omega) _).setCell (p := ⟨b7, 0, none⟩) (by show w.heap.size ≤ b7; omega) _).setCell (p := ⟨b8, 0, none⟩) (by show w.heap.size ≤ b8; omega) _).drew
    generalize ((((wc.setCell ⟨b5, 0, none⟩ (.int .i64 0)).setCell ⟨b6, 0, none⟩ (.int .i64 1)).setCell ⟨b7, 0, none⟩ (.int .i64 (p : Nat))).setCell ⟨b8, 0, none⟩ (.int .i64 (W : Nat))).drew = w9 at *
    refine ⟨b8, b5, w.heap.size, b7, b6, 0, p, 1, rfl, ⟨by omega, by omega, Nat.le_refl _, by omega, by omega⟩, ⟨n8.lt, n5.lt, x2.lt, n7.lt, n6.lt⟩, ⟨by rw [e1]; exact n8.cell, n5.cell, x2.c2, n7.cell, n6.cell, fun i hi => ?_⟩, by omega, by omega, fun i hi => ?_, fun i hi => by rw [e3]; omega, hB2⟩
    · have h1 := HCL.out i hi
      rw [e2] at h1
      show _ = some (Value.int .i64 (f (ccl W t i)))
      rw [e2, Nat.mul_one]
      exact (hB2.cell (p := ⟨b, off + (p + i), none⟩) hb).trans (HF.out _ h1)
    · have h1 := HCL.out i hi
      rw [e2] at h1
      rw [Nat.mul_one]
      exact h1
end Go.Proofs.Ytmcdfnhpaneanaa
