/- LayersFinest: arithmetic; grids that are not valid, long lists. -/
import Derived.Test.YtchbbphokpmacaaLav
namespace Go.Proofs.Ytchbbphokpmacaa
open Go.RowKit
set_option maxRecDepth 100000
set_option linter.unusedVariables false
set_option linter.unusedSimpArgs false

/-- How often a thread has been met. -/
def cntF (R : Nat → Nat → Bool) (N n k a : Nat) : Int := if (topS R N n a || hasL ((prt R N n).take k) a) = true then 1 else 0
theorem take_has {l : List Nat} {k a : Nat} (hk : k < l.length) : hasL (l.take (k + 1)) a = (hasL (l.take k) a || (l.getD k 0 == a)) := by
  have e : l.take (k + 1) = l.take k ++ [l.getD k 0] := by
    rw [List.take_succ_eq_append_getElem hk, List.getD_eq_getElem?_getD, List.getElem?_eq_getElem hk]; rfl
  unfold hasL
  rw [e, Bool.eq_iff_iff, Bool.or_eq_true, List.contains_iff_mem, List.contains_iff_mem, List.mem_append, List.mem_singleton, beq_iff_eq]
  exact ⟨fun h => h.imp id Eq.symm, fun h => h.imp id Eq.symm⟩
theorem prt_getD {R : Nat → Nat → Bool} {N n k : Nat} (hn : n < pno R N) (hk : k < (prt R N n).length) : (prt R N n).getD k 0 < N ∧ cls R N (pfi R N n) ((prt R N n).getD k 0) = true := (mem_prt hn).1 (mem_getD hk)
theorem cnt_zero {R : Nat → Nat → Bool} {N n k : Nat} (hn : n < pno R N) (hk : k < (prt R N n).length) : cntF R N n k ((prt R N n).getD k 0) = 0 := by
  obtain ⟨h1, h2⟩ := prt_getD hn hk
  unfold cntF
  rw [if_neg]
  rw [Bool.not_eq_true, Bool.or_eq_false_iff]
  constructor
  · unfold topS
    rw [out_pix h1 (by omega), pix_is h1 hn h2, decide_eq_true (Nat.le_refl _)]; rfl
  · cases h : hasL ((prt R N n).take k) ((prt R N n).getD k 0)
    · rfl
    · unfold hasL at h
      rw [List.contains_iff_mem] at h
      obtain ⟨i, hi, e⟩ := List.mem_iff_getElem.1 h
      rw [List.length_take] at hi
      rw [List.getElem_take] at e
      have hlt := ofl_lt (A := cls R N (pfi R N n)) (k := N) (i := i) (j := k) (by omega) (by rw [← prt_eq (pno_ne hn)]; exact hk)
      rw [← prt_eq (pno_ne hn)] at hlt
      have : (prt R N n).getD i 0 = (prt R N n).getD k 0 := by rw [List.getD_eq_getElem?_getD, List.getElem?_eq_getElem (by omega)]; exact e
      omega
theorem cnt_succ {R : Nat → Nat → Bool} {N n k : Nat} (hk : k < (prt R N n).length) (a : Nat) : (if a = (prt R N n).getD k 0 then (1 : Int) else cntF R N n k a) = cntF R N n (k + 1) a := by
  unfold cntF
  rw [take_has hk]
  by_cases e : a = (prt R N n).getD k 0
  · rw [if_pos e, if_pos]
    rw [e]; simp
  · rw [if_neg e]
    have : ((prt R N n).getD k 0 == a) = false := by rw [beq_eq_false_iff_ne]; exact fun h => e h.symm
    rw [this, Bool.or_false]
theorem cnt_next {R : Nat → Nat → Bool} {N n a : Nat} (hn : n < pno R N) (ha : a < N) : cntF R N n (prt R N n).length a = cntF R N (n + 1) 0 a := by
  unfold cntF
  have h1 : (topS R N n a || hasL ((prt R N n).take (prt R N n).length) a) = topS R N (n + 1) a := by
    rw [List.take_length]
    unfold topS
    rw [out_pix ha (by omega), out_pix ha (by omega), Bool.eq_iff_iff, Bool.or_eq_true]
    unfold hasL
    rw [List.contains_iff_mem, mem_prt hn]
    constructor
    · rintro (h | ⟨_, h⟩)
      · simp at h ⊢; omega
      · have := pix_is ha hn h
        simp; omega
    · intro h
      simp at h
      by_cases e : pix R N a = n
      · right
        have := (pix_all (R := R) ha).2
        rw [e] at this
        exact ⟨ha, this⟩
      · left; simp; omega
  rw [h1]
  have : hasL ((prt R N (n + 1)).take 0) a = false := rfl
  rw [this, Bool.or_false]
theorem cnt_start (R : Nat → Nat → Bool) (N a : Nat) : cntF R N 0 0 a = 0 := rfl
theorem cnt_end {R : Nat → Nat → Bool} {N a : Nat} (ha : a < N) : cntF R N (pno R N) 0 a = 1 := by
  unfold cntF topS
  rw [out_pix ha (Nat.le_refl _), decide_eq_false (by have := (pix_all (R := R) ha).1; omega)]; rfl
theorem setB_prt {R : Nat → Nat → Bool} {N n : Nat} (hn : n < pno R N) : setB N (prt R N n).length (lf (prt R N n)) = true := by
  rw [prt_eq (pno_ne hn)]; exact setB_ofl
theorem top_comes {R : Nat → Nat → Bool} {N n : Nat} (hn : n < pno R N) : offB R N (ofl (topS R N n) N).length (lf (ofl (topS R N n) N)) = decide (0 < n) := by
  by_cases h0 : 0 < n
  · rw [decide_eq_true h0]
    exact off_ofl.2 (top_off h0 hn)
  · rw [decide_eq_false h0, show n = 0 by omega, top_none]
    unfold offB
    simp
theorem top_bot (R : Nat → Nat → Bool) (N n : Nat) : (ofl (topS R N n) N).length + (ofl (out R N n) N).length = N := by
  have := fil_len (topS R N n) (List.range N)
  rw [List.length_range] at this
  have e : (List.range N).filter (fun a => !topS R N n a) = ofl (out R N n) N := by
    unfold ofl topS
    exact List.filter_congr fun a _ => by simp
  rw [e] at this
  exact this
set_option maxHeartbeats 1600000 in
theorem fin_inv {W H : Int} {A : Option Addr} {n c : Nat} (E : Option Addr) (m d : Nat) (h : grt W H n = true ∨ chk W H n ≠ 0) (w : World) :
    Calls Try.prog 13 #[.agg #[.int .i64 W, .int .i64 H, .slice A n c], .slice E m d] w fun e w' => e = .returned (.bool true) ∧ Below w.heap.size w w' := by
  have HV := Lib.hid (fun u => valid_no (A := A) (c := c) h u)
  clear h
  have X0 := Lib.hid (Box.new w W H (.slice A n c))
  have LB0 := Lib.hid (show Below w.heap.size w (w.alloc (.cells #[.int .i64 W, .int .i64 H, (.slice A n c)] 24)) from (Below.refl _ _).alloc (Nat.le_refl _) _)
  go_enter Try.func13, Try.ntmps13
  go_wp2_with fail
  generalize w.alloc (.cells #[.int .i64 W, .int .i64 H, .slice A n c] 24) = w0 at *
  obtain ⟨q0, q1, q2, q3, q4, q5, q6⟩ := X0.out.all
  go_wp2_with fail
  clear q0 q1 q2 q3 q4 q5 q6
  with_reducible refine Calls.mono (HV.out _) ?_
  rintro e w1 ⟨rfl, hb⟩
  have X1 := Lib.hid (X0.out.below hb X0.out.lt)
  have LB1 := Lib.hid (LB0.out.trans (hb.mono LB0.out.size))
  clear hb X0 LB0 
  obtain ⟨q0, q1, q2, q3, q4, q5, q6⟩ := X1.out.all
  go_wp2_with fail
  clear q0 q1 q2 q3 q4 q5 q6
  with_reducible refine Calls.mono (alive11_any _) ?_
  rintro e w2 ⟨rfl, hb⟩
  have X2 := Lib.hid (X1.out.below hb X1.out.lt)
  have LB2 := Lib.hid (LB1.out.trans (hb.mono LB1.out.size))
  clear hb X1 LB1 
  go_wp2
  go_ret
  exact ⟨rfl, LB2.out⟩
set_option maxHeartbeats 1600000 in
theorem fin_long {W H : Int} {A : Option Addr} {n c : Nat} (E : Option Addr) (m d : Nat) (hv : grt W H n = false) (hz : chk W H n = 0) (hm : 40 < m) (w : World) :
    Calls Try.prog 13 #[.agg #[.int .i64 W, .int .i64 H, .slice A n c], .slice E m d] w fun e w' => e = .returned (.bool true) ∧ Below w.heap.size w w' := by
  have HV := Lib.hid (fun u => valid_yes (A := A) (c := c) hv hz u)
  have y1 : (40 : Int) < (m : Int) := by omega
  have y2 : (m : Int) > 40 := by omega
  clear hv hz hm
  have X0 := Lib.hid (Box.new w W H (.slice A n c))
  have LB0 := Lib.hid (show Below w.heap.size w (w.alloc (.cells #[.int .i64 W, .int .i64 H, (.slice A n c)] 24)) from (Below.refl _ _).alloc (Nat.le_refl _) _)
  go_enter Try.func13, Try.ntmps13
  go_wp2_with fail
  generalize w.alloc (.cells #[.int .i64 W, .int .i64 H, .slice A n c] 24) = w0 at *
  obtain ⟨q0, q1, q2, q3, q4, q5, q6⟩ := X0.out.all
  go_wp2_with fail
  clear q0 q1 q2 q3 q4 q5 q6
  with_reducible refine Calls.mono (HV.out _) ?_
  rintro e w1 ⟨rfl, hb⟩
  have X1 := Lib.hid (X0.out.below hb X0.out.lt)
  have LB1 := Lib.hid (LB0.out.trans (hb.mono LB0.out.size))
  clear hb X0 LB0 
  obtain ⟨q0, q1, q2, q3, q4, q5, q6⟩ := X1.out.all
  go_wp2_with fail
  clear q0 q1 q2 q3 q4 q5 q6
  with_reducible refine Calls.mono (alive11_any _) ?_
  rintro e w2 ⟨rfl, hb⟩
  have X2 := Lib.hid (X1.out.below hb X1.out.lt)
  have LB2 := Lib.hid (LB1.out.trans (hb.mono LB1.out.size))
  clear hb X1 LB1 
  go_wp2
  go_ret
  exact ⟨rfl, LB2.out⟩
end Go.Proofs.Ytchbbphokpmacaa
