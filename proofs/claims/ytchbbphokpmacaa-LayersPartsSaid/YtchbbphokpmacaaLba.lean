/- LayersBack: arithmetic; grids that are not valid, long lists. -/
import Derived.Test.YtchbbphokpmacaaLav
namespace Go.Proofs.Ytchbbphokpmacaa
open Go.RowKit
set_option maxRecDepth 100000
set_option linter.unusedVariables false
set_option linter.unusedSimpArgs false

set_option maxHeartbeats 1600000 in
theorem bck_inv {W H : Int} {A : Option Addr} {n c : Nat} (E : Option Addr) (m d : Nat) (dx dy : Int) (h : grt W H n = true ∨ chk W H n ≠ 0) (w : World) :
    Calls Try.prog 16 #[.agg #[.int .i64 W, .int .i64 H, .slice A n c], .slice E m d, .int .i64 dx, .int .i64 dy] w fun e w' => e = .returned (.bool true) ∧ Below w.heap.size w w' := by
  have HV := Lib.hid (fun u => valid_no (A := A) (c := c) h u)
  clear h
  have X0 := Lib.hid (Box.new w W H (.slice A n c))
  have LB0 := Lib.hid (show Below w.heap.size w (w.alloc (.cells #[.int .i64 W, .int .i64 H, (.slice A n c)] 24)) from (Below.refl _ _).alloc (Nat.le_refl _) _)
  go_enter Try.func16, Try.ntmps16
  go_wp2_with fail
  generalize w.alloc (.cells #[.int .i64 W, .int .i64 H, .slice A n c] 24) = w0 at *
  obtain ⟨q0, q1, q2, q3, q4, q5, q6⟩ := X0.out.all
  go_wp2_with fail
  clear q0 q1 q2 q3 q4 q5 q6
  with_reducible refine Calls.mono (HV.out _) ?_
  rintro e w1 ⟨rfl, hb⟩
  have X1 := Lib.hid (X0.out.below hb X0.out.lt)
  have LB1 := Lib.hid (LB0.out.trans (hb.mono LB0.out.size))
  clear hb X0 LB0 
  obtain ⟨q0, q1, q2, q3, q4, q5, q6⟩ := X1.out.all
  go_wp2_with fail
  clear q0 q1 q2 q3 q4 q5 q6
  with_reducible refine Calls.mono (alive11_any _) ?_
  rintro e w2 ⟨rfl, hb⟩
  have X2 := Lib.hid (X1.out.below hb X1.out.lt)
  have LB2 := Lib.hid (LB1.out.trans (hb.mono LB1.out.size))
  clear hb X1 LB1 
  go_wp2
  go_ret
  exact ⟨rfl, LB2.out⟩
set_option maxHeartbeats 1600000 in
theorem bck_long {W H : Int} {A : Option Addr} {n c : Nat} (E : Option Addr) (m d : Nat) (dx dy : Int) (hv : grt W H n = false) (hz : chk W H n = 0) (hm : 40 < m) (w : World) :
    Calls Try.prog 16 #[.agg #[.int .i64 W, .int .i64 H, .slice A n c], .slice E m d, .int .i64 dx, .int .i64 dy] w fun e w' => e = .returned (.bool true) ∧ Below w.heap.size w w' := by
  have HV := Lib.hid (fun u => valid_yes (A := A) (c := c) hv hz u)
  have y1 : (40 : Int) < (m : Int) := by omega
  have y2 : (m : Int) > 40 := by omega
  clear hv hz hm
  have X0 := Lib.hid (Box.new w W H (.slice A n c))
  have LB0 := Lib.hid (show Below w.heap.size w (w.alloc (.cells #[.int .i64 W, .int .i64 H, (.slice A n c)] 24)) from (Below.refl _ _).alloc (Nat.le_refl _) _)
  go_enter Try.func16, Try.ntmps16
  go_wp2_with fail
  generalize w.alloc (.cells #[.int .i64 W, .int .i64 H, .slice A n c] 24) = w0 at *
  obtain ⟨q0, q1, q2, q3, q4, q5, q6⟩ := X0.out.all
  go_wp2_with fail
  clear q0 q1 q2 q3 q4 q5 q6
  with_reducible refine Calls.mono (HV.out _) ?_
  rintro e w1 ⟨rfl, hb⟩
  have X1 := Lib.hid (X0.out.below hb X0.out.lt)
  have LB1 := Lib.hid (LB0.out.trans (hb.mono LB0.out.size))
  clear hb X0 LB0 
  obtain ⟨q0, q1, q2, q3, q4, q5, q6⟩ := X1.out.all
  go_wp2_with fail
  clear q0 q1 q2 q3 q4 q5 q6
  with_reducible refine Calls.mono (alive11_any _) ?_
  rintro e w2 ⟨rfl, hb⟩
  have X2 := Lib.hid (X1.out.below hb X1.out.lt)
  have LB2 := Lib.hid (LB1.out.trans (hb.mono LB1.out.size))
  clear hb X1 LB1 
  go_wp2
  go_ret
  exact ⟨rfl, LB2.out⟩
/-- Same of two lists, whatever their lengths. -/
theorem same_two {l1 l2 : List Nat} {D E : Option Addr} (c d : Nat) (w : World) (hn : l1.length ≤ 5000) (h1 : LL w D l1) (h2 : LL w E l2) :
    Calls Try.prog 50 #[.slice D l1.length c, .slice E l2.length d] w fun e w' => e = .returned (.bool (l1 == l2)) ∧ Below w.heap.size w w' := by
  by_cases hl : l1.length = l2.length
  · have := L2.rsame_any D E l1.length c d (lf l1) (lf l2) w hn h1 (by rw [hl]; exact h2)
    rw [hl] at this ⊢
    refine this.mono fun e w' h => ⟨?_, h.2⟩
    rw [h.1]
    congr 2
    rw [Bool.eq_iff_iff, decide_eq_true_iff, beq_iff_eq]
    constructor
    · intro k
      refine List.ext_getElem hl fun i h3 h4 => ?_
      have := k i h4
      unfold lf at this
      rw [List.getD_eq_getElem?_getD, List.getD_eq_getElem?_getD, List.getElem?_eq_getElem h3, List.getElem?_eq_getElem h4] at this
      have h9 : ((l1[i] : Nat) : Int) = ((l2[i] : Nat) : Int) := by simpa using this
      omega
    · intro k i _; rw [k]
  · refine (L2.rsame_len D E l1.length l2.length c d w hl).mono fun e w' h => ⟨?_, by rw [h.2]; exact Below.refl _ _⟩
    rw [h.1]
    congr 2
    rw [eq_comm, beq_eq_false_iff_ne]
    exact fun k => hl (by rw [k])
/-- The part i of the one is among the first parts of the other one. -/
def fndB (R R2 : Nat → Nat → Bool) (N i k : Nat) : Bool := (List.range k).any fun j => prt R N i == prt R2 N j
theorem fnd_succ (R R2 : Nat → Nat → Bool) (N i k : Nat) : fndB R R2 N i (k + 1) = (fndB R R2 N i k || (prt R N i == prt R2 N k)) := by
  unfold fndB
  rw [List.range_succ, List.any_append]
  simp
theorem fnd_back {R R2 : Nat → Nat → Bool} {N i : Nat} (h : ∀ a b, a < N → b < N → R2 a b = R b a) (hi : i < pno R N) : fndB R R2 N i (pno R N) = true := by
  unfold fndB
  rw [List.any_eq_true]
  have hf := pfi_lt (pno_ne (R := R) (N := N) hi)
  refine ⟨pix R2 N (pfi R N i), List.mem_range.2 ?_, ?_⟩
  · rw [← back_no h]; exact (pix_all hf).1
  · rw [back_prt h hi]; simp
/-- The threads of the shifted cloth. -/
def shT (W H : Nat) (dx dy : Int) (a : Nat) : Nat := if a < W then sh W dx a else W + sh H dy (a - W)
theorem ov_shift {W H : Nat} {dx dy : Int} {g : Nat → Bool} (hW : 1 ≤ W) (hH : 1 ≤ H) {a b : Nat} (ha : a < W + H) (hb : b < W + H) :
    ov W (fun i => g (ay W H (dy % H) i * W + ax W (dx % W) i)) a b = ov W g (shT W H dx dy a) (shT W H dx dy b) := by
  have hs : ∀ x y, x < W → g (ay W H (dy % H) (y * W + x) * W + ax W (dx % W) (y * W + x)) = g (sh H dy y * W + sh W dx x) := fun x y hx => at_shift (f := g) (dx := dx) (dy := dy) hx
  unfold shT
  by_cases h1 : a < W <;> by_cases h2 : b < W
  · rw [if_pos h1, if_pos h2, ov_ee h1 h2, ov_ee (sh_lt hW) (sh_lt hW)]
  · rw [if_pos h1, if_neg h2, ov_ep h1 h2, ov_ep (sh_lt hW) (by omega), hs _ _ h1]
    rw [Nat.add_sub_cancel_left]
  · rw [if_neg h1, if_pos h2, ov_pe h1 h2, ov_pe (by omega) (sh_lt hW), hs _ _ h2]
    rw [Nat.add_sub_cancel_left]
  · rw [if_neg h1, if_neg h2, ov_pp h1 h2, ov_pp (by omega) (by omega)]
theorem shift_no {W H : Nat} {dx dy : Int} {g : Nat → Bool} (hW : 1 ≤ W) (hH : 1 ≤ H) : pno (ov W (fun i => g (ay W H (dy % H) i * W + ax W (dx % W) i))) (W + H) = pno (ov W g) (W + H) := by
  have hlt : ∀ dx dy a, a < W + H → shT W H dx dy a < W + H := fun dx dy a ha => by
    unfold shT
    split
    · have := sh_lt (d := dx) (z := a) hW; omega
    · have := sh_lt (d := dy) (z := a - W) hH; omega
  have hback : ∀ dx dy a, a < W + H → shT W H (-dx) (-dy) (shT W H dx dy a) = a := fun dx dy a ha => by
    unfold shT
    by_cases h1 : a < W
    · rw [if_pos h1, if_pos (sh_lt hW), sh_back h1]
    · rw [if_neg h1, if_neg (by omega), Nat.add_sub_cancel_left, sh_back (by omega)]; omega
  have hback2 : ∀ a, a < W + H → shT W H dx dy (shT W H (-dx) (-dy) a) = a := fun a ha => by
    have := hback (-dx) (-dy) a ha
    rwa [Int.neg_neg, Int.neg_neg] at this
  refine (moved_no (shT W H dx dy) (shT W H (-dx) (-dy)) (fun a ha => hlt dx dy a ha) (fun a ha => hlt (-dx) (-dy) a ha) (hback dx dy) hback2 fun a b ha hb => ?_).symm
  exact (ov_shift hW hH ha hb).symm
end Go.Proofs.Ytchbbphokpmacaa
