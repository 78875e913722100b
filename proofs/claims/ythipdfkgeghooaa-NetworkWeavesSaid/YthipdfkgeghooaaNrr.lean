/- The reference's On, Plain, Allowed; their errors. -/
import Derived.Test.YthipdfkgeghooaaNal
namespace Go.Proofs.Ythipdfkgeghooaa
open Go.RowKit
set_option maxRecDepth 100000
set_option linter.unusedVariables false
set_option linter.unusedSimpArgs false

/-- So many shafts of the class lie below s. -/
structure Cnt (N r s j : Nat) : Prop where
  hi : s ≤ r + N * j
  lo : j = 0 ∨ r + N * (j - 1) < s
section
variable {N r s j : Nat}
theorem Cnt.no (h : Cnt N r s j) (hN : 1 ≤ N) (hr : r < N) (hs : ¬ s % N = r) : Cnt N r (s + 1) j := by
  refine ⟨?_, h.lo.imp id (fun q => by omega)⟩
  rcases Nat.eq_or_lt_of_le h.hi with e | e
  · exact absurd (by rw [e]; exact cls_sum hr) hs
  · exact e
theorem Cnt.yes (h : Cnt N r s j) (hN : 1 ≤ N) (hr : r < N) (hs : s % N = r) : cls N r j = ((s : Nat) : Int) ∧ Cnt N r (s + 1) (j + 1) := by
  have h1 := Nat.div_add_mod s N
  have hj : j = s / N := by
    have ha : s / N ≤ j := by
      have := h.hi
      have : N * (s / N) ≤ N * j := by omega
      exact Nat.le_of_mul_le_mul_left this hN
    rcases h.lo with e | e
    · exact Nat.le_antisymm (by rw [e]; exact Nat.zero_le _) ha
    · have : N * (j - 1) < N * (s / N) := by omega
      have := Nat.lt_of_mul_lt_mul_left this
      omega
  have e : s = r + N * j := by rw [hj]; omega
  refine ⟨by unfold cls; rw [← e], ⟨?_, .inr ?_⟩⟩
  · rw [Nat.mul_add, Nat.mul_one]; omega
  · rw [Nat.add_sub_cancel]; omega
theorem Cnt.all {S : Nat} (h : Cnt N r S j) (hN : 1 ≤ N) (hd : S % N = 0) (hr : r < N) : j = S / N := by
  have h1 := Nat.div_add_mod S N
  have ha : S / N ≤ j := by
    have := h.hi
    have h2 : N * (S / N) < N * (j + 1) := by rw [Nat.mul_add, Nat.mul_one]; omega
    have := Nat.lt_of_mul_lt_mul_left h2
    omega
  rcases h.lo with e | e
  · exact Nat.le_antisymm (by rw [e]; exact Nat.zero_le _) ha
  · have h2 : N * (j - 1) < N * (S / N) := by omega
    have := Nat.lt_of_mul_lt_mul_left h2
    omega
end
set_option maxHeartbeats 800000 in
theorem rdr_bad (S N : Int) (A : Option Addr) (n c : Nat) (f : Nat → Int) (D : Option Addr) (m d : Nat) (w : World) (hn : n ≤ 100000) (hf : L2.Holds w w.heap.size A n f) (hz : nck S N n f = 8) :
    Calls Try.prog 13 #[.agg #[.int .i64 S, .int .i64 N, .slice A n c], .slice D m d] w fun e w' => e = .returned (.tuple #[.slice none 0 0, .int .i64 8]) ∧ Below w.heap.size w w' := by
  have HC := Lib.hid (fun u (hu : Below w.heap.size w u) => rnck_any S N A n c f u hn ((hf.below hu).more hu.size))
  rw [hz] at HC
  clear hf hz
  have z8 : ((8 : Int) != 0) = true := rfl
  have LB0 := Lib.hid (Below.refl w.heap.size w)
  have X1 := IBox.new w S N (.slice A n c)
  have X1 := Lib.hid X1
  have LB0 := Lib.hid (LB0.out.alloc LB0.out.size (.cells #[.int .i64 S, .int .i64 N, .slice A n c] 24))
  go_enter Try.func13, Try.ntmps13
  go_upto_region 1 with (fail)
  generalize w.alloc (.cells #[.int .i64 S, .int .i64 N, .slice A n c] 24) = w0 at *
  obtain ⟨q0, q1, q2, q3, q4, q5, q6⟩ := X1.out.all
  go_wp2_with fail
  clear q0 q1 q2 q3 q4 q5 q6
  with_reducible refine Calls.mono (HC.out _ LB0.out) ?_
  rintro e w1 ⟨rfl, hb⟩
  have LB1 := Lib.hid (LB0.out.trans (hb.mono LB0.out.size))
  have X1 := Lib.hid (X1.out.below hb X1.out.lt)
  clear hb LB0
  obtain ⟨q0, q1, q2, q3, q4, q5, q6⟩ := X1.out.all
  go_wp2_with fail
  clear q0 q1 q2 q3 q4 q5 q6
  with_reducible refine Calls.mono (HC.out _ LB1.out) ?_
  rintro e w2 ⟨rfl, hb⟩
  have LB2 := Lib.hid (LB1.out.trans (hb.mono LB1.out.size))
  clear hb LB1
  go_wp2
  refine bodyPost_ret (v := .tuple #[.slice none 0 0, .int .i64 8]) (by simp [results, Try.results13, go_sem]) rfl ?_
  exact ⟨rfl, LB2.out⟩
set_option maxHeartbeats 800000 in
theorem ron_bad (S N : Int) (A : Option Addr) (n c : Nat) (f : Nat → Int) (D : Option Addr) (m d : Nat) (w : World) (hn : n ≤ 100000) (hf : L2.Holds w w.heap.size A n f) (hz : nck S N n f = 8) :
    Calls Try.prog 15 #[.agg #[.int .i64 S, .int .i64 N, .slice A n c], .slice D m d] w fun e w' => e = .returned (.tuple #[.bool false, .int .i64 8]) ∧ Below w.heap.size w w' := by
  have HC := Lib.hid (fun u (hu : Below w.heap.size w u) => rnck_any S N A n c f u hn ((hf.below hu).more hu.size))
  rw [hz] at HC
  clear hf hz
  have z8 : ((8 : Int) != 0) = true := rfl
  have LB0 := Lib.hid (Below.refl w.heap.size w)
  have X1 := IBox.new w S N (.slice A n c)
  have X1 := Lib.hid X1
  have LB0 := Lib.hid (LB0.out.alloc LB0.out.size (.cells #[.int .i64 S, .int .i64 N, .slice A n c] 24))
  go_enter Try.func15, Try.ntmps15
  go_upto_region 1 with (fail)
  generalize w.alloc (.cells #[.int .i64 S, .int .i64 N, .slice A n c] 24) = w0 at *
  obtain ⟨q0, q1, q2, q3, q4, q5, q6⟩ := X1.out.all
  go_wp2_with fail
  clear q0 q1 q2 q3 q4 q5 q6
  with_reducible refine Calls.mono (HC.out _ LB0.out) ?_
  rintro e w1 ⟨rfl, hb⟩
  have LB1 := Lib.hid (LB0.out.trans (hb.mono LB0.out.size))
  have X1 := Lib.hid (X1.out.below hb X1.out.lt)
  clear hb LB0
  obtain ⟨q0, q1, q2, q3, q4, q5, q6⟩ := X1.out.all
  go_wp2_with fail
  clear q0 q1 q2 q3 q4 q5 q6
  with_reducible refine Calls.mono (HC.out _ LB1.out) ?_
  rintro e w2 ⟨rfl, hb⟩
  have LB2 := Lib.hid (LB1.out.trans (hb.mono LB1.out.size))
  clear hb LB1
  go_wp2
  refine bodyPost_ret (v := .tuple #[.bool false, .int .i64 8]) (by simp [results, Try.results15, go_sem]) rfl ?_
  exact ⟨rfl, LB2.out⟩
set_option maxHeartbeats 800000 in
theorem rpl_bad (S N : Int) (A : Option Addr) (n c : Nat) (f : Nat → Int) (w : World) (hn : n ≤ 100000) (hf : L2.Holds w w.heap.size A n f) (hz : nck S N n f = 8) :
    Calls Try.prog 17 #[.agg #[.int .i64 S, .int .i64 N, .slice A n c]] w fun e w' => e = .returned (.tuple #[.bool false, .int .i64 8]) ∧ Below w.heap.size w w' := by
  have HC := Lib.hid (fun u (hu : Below w.heap.size w u) => rnck_any S N A n c f u hn ((hf.below hu).more hu.size))
  rw [hz] at HC
  clear hf hz
  have z8 : ((8 : Int) != 0) = true := rfl
  have LB0 := Lib.hid (Below.refl w.heap.size w)
  have X1 := IBox.new w S N (.slice A n c)
  have X1 := Lib.hid X1
  have LB0 := Lib.hid (LB0.out.alloc LB0.out.size (.cells #[.int .i64 S, .int .i64 N, .slice A n c] 24))
  go_enter Try.func17, Try.ntmps17
  go_upto_region 1 with (fail)
  generalize w.alloc (.cells #[.int .i64 S, .int .i64 N, .slice A n c] 24) = w0 at *
  obtain ⟨q0, q1, q2, q3, q4, q5, q6⟩ := X1.out.all
  go_wp2_with fail
  clear q0 q1 q2 q3 q4 q5 q6
  with_reducible refine Calls.mono (HC.out _ LB0.out) ?_
  rintro e w1 ⟨rfl, hb⟩
  have LB1 := Lib.hid (LB0.out.trans (hb.mono LB0.out.size))
  have X1 := Lib.hid (X1.out.below hb X1.out.lt)
  clear hb LB0
  obtain ⟨q0, q1, q2, q3, q4, q5, q6⟩ := X1.out.all
  go_wp2_with fail
  clear q0 q1 q2 q3 q4 q5 q6
  with_reducible refine Calls.mono (HC.out _ LB1.out) ?_
  rintro e w2 ⟨rfl, hb⟩
  have LB2 := Lib.hid (LB1.out.trans (hb.mono LB1.out.size))
  clear hb LB1
  go_wp2
  refine bodyPost_ret (v := .tuple #[.bool false, .int .i64 8]) (by simp [results, Try.results17, go_sem]) rfl ?_
  exact ⟨rfl, LB2.out⟩
set_option maxHeartbeats 800000 in
theorem ral_bad (S N : Int) (A : Option Addr) (n c : Nat) (f : Nat → Int) (x : Int) (w : World) (hn : n ≤ 100000) (hf : L2.Holds w w.heap.size A n f) (hz : nck S N n f = 8) :
    Calls Try.prog 22 #[.agg #[.int .i64 S, .int .i64 N, .slice A n c], .int .i64 x] w fun e w' => e = .returned (.tuple #[.slice none 0 0, .int .i64 8]) ∧ Below w.heap.size w w' := by
  have HC := Lib.hid (fun u (hu : Below w.heap.size w u) => rnck_any S N A n c f u hn ((hf.below hu).more hu.size))
  rw [hz] at HC
  clear hf hz
  have z8 : ((8 : Int) != 0) = true := rfl
  have LB0 := Lib.hid (Below.refl w.heap.size w)
  have X1 := IBox.new w S N (.slice A n c)
  have X1 := Lib.hid X1
  have LB0 := Lib.hid (LB0.out.alloc LB0.out.size (.cells #[.int .i64 S, .int .i64 N, .slice A n c] 24))
  go_enter Try.func22, Try.ntmps22
  go_upto_region 1 with (fail)
  generalize w.alloc (.cells #[.int .i64 S, .int .i64 N, .slice A n c] 24) = w0 at *
  obtain ⟨q0, q1, q2, q3, q4, q5, q6⟩ := X1.out.all
  go_wp2_with fail
  clear q0 q1 q2 q3 q4 q5 q6
  with_reducible refine Calls.mono (HC.out _ LB0.out) ?_
  rintro e w1 ⟨rfl, hb⟩
  have LB1 := Lib.hid (LB0.out.trans (hb.mono LB0.out.size))
  have X1 := Lib.hid (X1.out.below hb X1.out.lt)
  clear hb LB0
  obtain ⟨q0, q1, q2, q3, q4, q5, q6⟩ := X1.out.all
  go_wp2_with fail
  clear q0 q1 q2 q3 q4 q5 q6
  with_reducible refine Calls.mono (HC.out _ LB1.out) ?_
  rintro e w2 ⟨rfl, hb⟩
  have LB2 := Lib.hid (LB1.out.trans (hb.mono LB1.out.size))
  clear hb LB1
  go_wp2
  refine bodyPost_ret (v := .tuple #[.slice none 0 0, .int .i64 8]) (by simp [results, Try.results22, go_sem]) rfl ?_
  exact ⟨rfl, LB2.out⟩
set_option maxHeartbeats 800000 in
theorem ral_arg (S N : Int) (A : Option Addr) (n c : Nat) (f : Nat → Int) (x : Int) (w : World) (hn : n ≤ 100000) (hf : L2.Holds w w.heap.size A n f) (hz : nck S N n f = 0) (hx : x < 0 ∨ 64 ≤ x) :
    Calls Try.prog 22 #[.agg #[.int .i64 S, .int .i64 N, .slice A n c], .int .i64 x] w fun e w' => e = .returned (.tuple #[.slice none 0 0, .int .i64 2]) ∧ Below w.heap.size w w' := by
  have HC := Lib.hid (fun u (hu : Below w.heap.size w u) => rnck_any S N A n c f u hn ((hf.below hu).more hu.size))
  rw [hz] at HC
  clear hf hz
  have z0 : ((0 : Int) != 0) = false := rfl
  by_cases h1 : x < 0
  · have v1 : decide (x < 0) = true := decide_eq_true h1
    clear hx
    have LB0 := Lib.hid (Below.refl w.heap.size w)
    have X1 := IBox.new w S N (.slice A n c)
    have X1 := Lib.hid X1
    have LB0 := Lib.hid (LB0.out.alloc LB0.out.size (.cells #[.int .i64 S, .int .i64 N, .slice A n c] 24))
    go_enter Try.func22, Try.ntmps22
    go_upto_region 1 with (fail)
    generalize w.alloc (.cells #[.int .i64 S, .int .i64 N, .slice A n c] 24) = w0 at *
    obtain ⟨q0, q1, q2, q3, q4, q5, q6⟩ := X1.out.all
    go_wp2_with fail
    clear q0 q1 q2 q3 q4 q5 q6
    with_reducible refine Calls.mono (HC.out _ LB0.out) ?_
    rintro e w1 ⟨rfl, hb⟩
    have LB1 := Lib.hid (LB0.out.trans (hb.mono LB0.out.size))
    have X1 := Lib.hid (X1.out.below hb X1.out.lt)
    clear hb LB0
    go_wp2
    refine bodyPost_ret (v := .tuple #[.slice none 0 0, .int .i64 2]) (by simp [results, Try.results22, go_sem]) rfl ?_
    exact ⟨rfl, LB1.out⟩
  · have v1 : decide (x < 0) = false := decide_eq_false h1
    have v2 : decide (64 ≤ x) = true := decide_eq_true (by omega)
    clear hx
    have LB0 := Lib.hid (Below.refl w.heap.size w)
    have X1 := IBox.new w S N (.slice A n c)
    have X1 := Lib.hid X1
    have LB0 := Lib.hid (LB0.out.alloc LB0.out.size (.cells #[.int .i64 S, .int .i64 N, .slice A n c] 24))
    go_enter Try.func22, Try.ntmps22
    go_upto_region 1 with (fail)
    generalize w.alloc (.cells #[.int .i64 S, .int .i64 N, .slice A n c] 24) = w0 at *
    obtain ⟨q0, q1, q2, q3, q4, q5, q6⟩ := X1.out.all
    go_wp2_with fail
    clear q0 q1 q2 q3 q4 q5 q6
    with_reducible refine Calls.mono (HC.out _ LB0.out) ?_
    rintro e w1 ⟨rfl, hb⟩
    have LB1 := Lib.hid (LB0.out.trans (hb.mono LB0.out.size))
    have X1 := Lib.hid (X1.out.below hb X1.out.lt)
    clear hb LB0
    go_wp2
    refine bodyPost_ret (v := .tuple #[.slice none 0 0, .int .i64 2]) (by simp [results, Try.results22, go_sem]) rfl ?_
    exact ⟨rfl, LB1.out⟩
set_option maxHeartbeats 800000 in
theorem ron_l (S N : Int) (A : Option Addr) (n c : Nat) (f : Nat → Int) (D : Option Addr) (m d : Nat) (l : Nat → Int) (w : World) (hn : n ≤ 100000) (hm : m ≤ 100000) (hf : L2.Holds w w.heap.size A n f) (hl : L2.Holds w w.heap.size D m l) (hz : nck S N n f = 0) (z : Int) (hl2 : L2.lchk m l = z) (hz0 : (z != 0) = true) :
    Calls Try.prog 15 #[.agg #[.int .i64 S, .int .i64 N, .slice A n c], .slice D m d] w fun e w' => e = .returned (.tuple #[.bool false, .int .i64 z]) ∧ Below w.heap.size w w' := by
  have HC := Lib.hid (fun u (hu : Below w.heap.size w u) => rnck_any S N A n c f u hn ((hf.below hu).more hu.size))
  have HT := Lib.hid (fun u (hu : Below w.heap.size w u) => rlc_any D m d l u hm ((hl.below hu).more hu.size))
  rw [hz] at HC
  rw [hl2] at HT
  clear hf hz hl hl2
  have z0 : ((0 : Int) != 0) = false := rfl
  have LB0 := Lib.hid (Below.refl w.heap.size w)
  have X1 := IBox.new w S N (.slice A n c)
  have X1 := Lib.hid X1
  have LB0 := Lib.hid (LB0.out.alloc LB0.out.size (.cells #[.int .i64 S, .int .i64 N, .slice A n c] 24))
  go_enter Try.func15, Try.ntmps15
  go_upto_region 1 with (fail)
  generalize w.alloc (.cells #[.int .i64 S, .int .i64 N, .slice A n c] 24) = w0 at *
  obtain ⟨q0, q1, q2, q3, q4, q5, q6⟩ := X1.out.all
  go_wp2_with fail
  clear q0 q1 q2 q3 q4 q5 q6
  with_reducible refine Calls.mono (HC.out _ LB0.out) ?_
  rintro e w1 ⟨rfl, hb⟩
  have LB1 := Lib.hid (LB0.out.trans (hb.mono LB0.out.size))
  have X1 := Lib.hid (X1.out.below hb X1.out.lt)
  clear hb LB0
  go_wp2_with (go_at_call 45; with_reducible refine Calls.mono (HT.out _ LB1.out) ?_; rintro e w2 ⟨rfl, rfl⟩)
  refine bodyPost_ret (v := .tuple #[.bool false, .int .i64 z]) (by simp [results, Try.results15, go_sem]) rfl ?_
  exact ⟨rfl, LB1.out⟩
set_option maxHeartbeats 1600000 in
theorem ron_ok (S N n : Nat) (A : Option Addr) (c : Nat) (b : Nat → Nat) (hO : NOk S N n b) (D : Option Addr) (m d : Nat) (l : Nat → Nat) (hm : m ≤ 400) (w : World) (hb : NH w A n b) (hl : L2.Holds w w.heap.size D m (fun i => ((l i : Nat) : Int))) (hc : L2.lchk m (fun i => ((l i : Nat) : Int)) = 0) :
    Calls Try.prog 15 #[.agg #[.int .i64 (S : Nat), .int .i64 (N : Nat), .slice A n c], .slice D m d] w fun e w' => e = .returned (.tuple #[.bool (onB S N n b m l), .int .i64 0]) ∧ Below w.heap.size w w' := by
  have HC := Lib.hid (fun u (hu : Below w.heap.size w u) => rnck_any (S : Nat) (N : Nat) A n c (fun i => ((b i : Nat) : Int)) u (by have := hO.l1; omega) ((hb.below hu).more hu.size))
  rw [nck_zero hO (fun _ _ => rfl)] at HC
  have HIS := Lib.hid (fun u x s (hu : Below w.heap.size w u) => is_any S N n A c b x s u hO.n0 hO.l0 hO.l1 ((hb.below hu).more hu.size))
  have z0 : ((0 : Int) != 0) = false := rfl
  have HT := Lib.hid (fun u (hu : Below w.heap.size w u) => rlc_any D m d (fun i => ((l i : Nat) : Int)) u (by omega) ((hl.below hu).more hu.size))
  rw [hc] at HT
  have HL := Lib.hid hl
  clear hO hb hl hc
  have LB0 := Lib.hid (Below.refl w.heap.size w)
  have X1 := IBox.new w (S : Nat) (N : Nat) (.slice A n c)
  have X1 := Lib.hid X1
  have LB0 := Lib.hid (LB0.out.alloc LB0.out.size (.cells #[.int .i64 (S : Nat), .int .i64 (N : Nat), .slice A n c] 24))
  go_enter Try.func15, Try.ntmps15
  go_upto_region 1 with (fail)
  generalize w.alloc (.cells #[.int .i64 (S : Nat), .int .i64 (N : Nat), .slice A n c] 24) = w0 at *
  obtain ⟨q0, q1, q2, q3, q4, q5, q6⟩ := X1.out.all
  go_wp2_with fail
  clear q0 q1 q2 q3 q4 q5 q6
  with_reducible refine Calls.mono (HC.out _ LB0.out) ?_
  rintro e w1 ⟨rfl, hb⟩
  have LB1 := Lib.hid (LB0.out.trans (hb.mono LB0.out.size))
  have X1 := Lib.hid (X1.out.below hb X1.out.lt)
  clear hb LB0
  go_wp2_with (go_at_call 45; with_reducible refine Calls.mono (HT.out _ LB1.out) ?_; rintro e w2 ⟨rfl, rfl⟩)
  go_loopw [6] (fun i wr => ∃ j : Nat, j ≤ m ∧ i = .int .i64 (j : Nat) ∧ Hid (∀ x, x < j → l x < S ∧ l x % N = b (x % n)) ∧ Hid (IBox wr w.heap.size (S : Nat) (N : Nat) (.slice A n c)) ∧ Hid (Below w.heap.size w wr)) (fun i _ => m - (intOf i).toNat)
  case atStart => exact ⟨0, Nat.zero_le _, rfl, Lib.hid (fun x hx => by omega), X1, LB1⟩
  case round =>
    obtain ⟨j, hj, rfl, HA, HX, HW⟩ := hrel
    clear X1 LB1
    by_cases hlt : j < m
    · have y1 : (j : Int) < (m : Int) := by omega
      have y2 : (0 : Int) ≤ (j : Int) := by omega
      obtain ⟨db, dof, rfl, hdl, hdc⟩ := HL.out (by omega)
      have a0 : wr.cell? ⟨db, dof + j, none⟩ = some (.int .i64 ((l j : Nat) : Int)) := (HW.out.cell (p := ⟨db, dof + j, none⟩) hdl).trans (hdc j hlt)
      have HC1 := Lib.hid (fun u (hu : Below wr.heap.size wr u) => HIS.out u j (l j) (HW.out.trans (hu.mono HW.out.size)))
      have HSS := Lib.hid (fun (u : World) (hu : Below wr.heap.size wr u) => (And.intro ((hu.cell (p := ⟨db, dof + j, none⟩) (Nat.lt_of_lt_of_le hdl HW.out.size)).trans a0) (HX.out.below hu HX.out.lt).all))
      have HST := Lib.hid (fun (q : isB S N (b (j % n)) (l j) = true) x (hx : x < j + 1) => if e : x = j then (show l x < S ∧ l x % N = b (x % n) by rw [e]; exact of_decide_eq_true q) else HA.out x (by omega))
      have HNO := Lib.hid (fun (q : isB S N (b (j % n)) (l j) = false) => (show onB S N n b m l = false from decide_eq_false fun h => (of_decide_eq_false q) (h j hlt)))
      obtain ⟨q0, q1, q2, q3, q4, q5, q6⟩ := HX.out.all
      have D0 := Lib.hid ((Below.refl wr.heap.size wr).drew)
      clear hdc
      generalize l j = lj at *
      cases hq : isB S N (b (j % n)) lj
      · rw [hq] at HC1 HNO
        have HN := Lib.hid (HNO.out rfl)
        clear hq HST HNO
        go_wp2
        go_still_tail 6, (by kernel_rfl)
        change wpList _ _ _ _ _ wr.drew
        go_wp2_with (go_at_call 43; with_reducible refine Calls.mono (HC1.out _ D0.out) ?_; rintro e w3 ⟨rfl, hb3⟩)
        refine bodyPost_ret (v := .tuple #[.bool false, .int .i64 0]) (by simp [results, Try.results15, go_sem]) rfl ?_
        exact ⟨by rw [HN.out], HW.out.trans ((D0.out.trans (hb3.mono D0.out.size)).mono HW.out.size)⟩
      · rw [hq] at HC1 HST
        have HN := Lib.hid (HST.out rfl)
        clear hq HST HNO
        go_wp2
        go_still_tail 6, (by kernel_rfl)
        change wpList _ _ _ _ _ wr.drew
        go_wp2_with (go_at_call 43; with_reducible refine Calls.mono (HC1.out _ D0.out) ?_; rintro e w3 ⟨rfl, hb3⟩)
        have HB3 := Lib.hid (D0.out.trans (hb3.mono D0.out.size))
        go_roundw
        case rel => exact ⟨j + 1, by omega, by go_num, HN, Lib.hid (HX.out.below HB3.out HX.out.lt), Lib.hid (HW.out.trans (HB3.out.mono HW.out.size))⟩
        case measure => simp [intOf]; omega
    · obtain rfl : j = m := by omega
      have y1 : ¬ (j : Int) < (j : Int) := by omega
      have HE := Lib.hid (show onB S N n b j l = true from decide_eq_true HA.out)
      go_wp2
      refine bodyPost_ret (v := .tuple #[.bool true, .int .i64 0]) (by simp [results, Try.results15, go_sem]) rfl ?_
      exact ⟨by rw [HE.out], HW.out⟩
set_option maxHeartbeats 1600000 in
theorem ral_ok (S N n : Nat) (A : Option Addr) (c : Nat) (b : Nat → Nat) (x : Nat) (hO : NOk S N n b) (hx : x < 64) (w : World) (hb : NH w A n b) :
    Calls Try.prog 22 #[.agg #[.int .i64 (S : Nat), .int .i64 (N : Nat), .slice A n c], .int .i64 (x : Nat)] w fun e w' => ∃ D k, e = .returned (.tuple #[.slice D (S / N) k, .int .i64 0]) ∧ L2.Holds w' w'.heap.size D (S / N) (cls N (b (x % n))) ∧ Below w.heap.size w w' := by
  have HC := Lib.hid (fun u (hu : Below w.heap.size w u) => rnck_any (S : Nat) (N : Nat) A n c (fun i => ((b i : Nat) : Int)) u (by have := hO.l1; omega) ((hb.below hu).more hu.size))
  rw [nck_zero hO (fun _ _ => rfl)] at HC
  have HIS := Lib.hid (fun u x s (hu : Below w.heap.size w u) => is_any S N n A c b x s u hO.n0 hO.l0 hO.l1 ((hb.below hu).more hu.size))
  have z0 : ((0 : Int) != 0) = false := rfl
  have hrr : b (x % n) < N := hO.b _ (Nat.mod_lt _ (by have := hO.l0; omega))
  have HIS := Lib.hid (fun u s (hu : Below w.heap.size w u) => HIS.out u x s hu)
  have HO := Lib.hid (And.intro hO.n0 (And.intro hO.dv (And.intro hO.s1 hO.ns)))
  clear hO hb
  generalize b (x % n) = r at *
  have HRR := Lib.hid hrr
  clear hrr
  have v1 : decide ((x : Int) < 0) = false := by simp
  have v2 : decide ((64 : Int) ≤ (x : Int)) = false := by simp; omega
  have LB0 := Lib.hid (Below.refl w.heap.size w)
  have X1 := IBox.new w (S : Nat) (N : Nat) (.slice A n c)
  have X1 := Lib.hid X1
  have LB0 := Lib.hid (LB0.out.alloc LB0.out.size (.cells #[.int .i64 (S : Nat), .int .i64 (N : Nat), .slice A n c] 24))
  go_enter Try.func22, Try.ntmps22
  go_upto_region 1 with (fail)
  generalize w.alloc (.cells #[.int .i64 (S : Nat), .int .i64 (N : Nat), .slice A n c] 24) = w0 at *
  obtain ⟨q0, q1, q2, q3, q4, q5, q6⟩ := X1.out.all
  go_wp2_with fail
  clear q0 q1 q2 q3 q4 q5 q6
  with_reducible refine Calls.mono (HC.out _ LB0.out) ?_
  rintro e w1 ⟨rfl, hb⟩
  have LB1 := Lib.hid (LB0.out.trans (hb.mono LB0.out.size))
  have X1 := Lib.hid (X1.out.below hb X1.out.lt)
  clear hb LB0
  go_wp2
  go_loopw [6, 7] (fun u i wr => ∃ s j : Nat, s ≤ S ∧ i = .int .i64 (s : Nat) ∧ Hid (Cnt N r s j) ∧ Hid (L2.Own wr (w.heap.size + 1) u j (cls N r)) ∧ Hid (IBox wr w.heap.size (S : Nat) (N : Nat) (.slice A n c)) ∧ Hid (Below w.heap.size w wr)) (fun _ i _ => S - (intOf i).toNat)
  case atStart => exact ⟨0, 0, Nat.zero_le _, rfl, Lib.hid ⟨by omega, .inl rfl⟩, Lib.hid (L2.Own.nil _ _ _), X1, LB1⟩
  case round =>
    obtain ⟨s, j, hs, rfl, HJ, HO2, HX, HW⟩ := hrel
    clear X1 LB1
    obtain ⟨q0, q1, q2, q3, q4, q5, q6⟩ := HX.out.all
    have hs40 := HO.out.2.2.1
    by_cases hlt : s < S
    · have y1 : (s : Int) < (S : Int) := by omega
      have HC1 := Lib.hid (HIS.out wr s HW.out)
      cases hq : isB S N r s
      · rw [hq] at HC1
        have HN := Lib.hid (HJ.out.no HO.out.1 HRR.out (fun e => by rw [show isB S N r s = true from decide_eq_true ⟨hlt, e⟩] at hq; cases hq))
        clear hq
        go_wp2_with (go_at_call 43; with_reducible refine Calls.mono HC1.out ?_; rintro e w3 ⟨rfl, hb3⟩)
        go_roundw
        case rel => exact ⟨s + 1, j, by omega, by go_num, HN, Lib.hid (HO2.out.below hb3), Lib.hid (HX.out.below hb3 HX.out.lt), Lib.hid (HW.out.trans (hb3.mono HW.out.size))⟩
        case measure => simp [intOf]; omega
      · rw [hq] at HC1
        have he := (of_decide_eq_true hq).2
        have hcj := HJ.out.yes HO.out.1 HRR.out he
        have HN := Lib.hid hcj.2
        have HCJ := Lib.hid (show cls N r j = ((s : Nat) : Int) from hcj.1)
        have hj40 : j ≤ 40 := by
          have h1 := hcj.1
          have : j ≤ N * j := Nat.le_mul_of_pos_left _ HO.out.1
          unfold cls at h1
          omega
        clear hq he hcj
        go_wp2_with (first | (go_at_call 43; with_reducible refine Calls.mono HC1.out ?_; rintro e w3 ⟨rfl, hb3⟩; have HO3 := Lib.hid (HO2.out.below hb3); have HX3 := Lib.hid (HX.out.below hb3 HX.out.lt); have HW3 := Lib.hid (HW.out.trans (hb3.mono HW.out.size)); have hsz3 := HX3.out.lt) | (at_builtin; refine L2.app1 _ rfl _ _ rfl (w.heap.size + 1) rfl HO3.out _ rfl HCJ.out (by omega) (by omega) ?_; intro v' w5 O5 B5))
        have HX5 := Lib.hid (HX3.out.below B5 (by omega))
        have HW5 := Lib.hid (HW3.out.trans (B5.mono (by omega)))
        go_roundw
        case rel => exact ⟨s + 1, j + 1, by omega, by go_num, HN, Lib.hid O5, HX5, HW5⟩
        case measure => simp [intOf]; omega
    · obtain rfl : s = S := by omega
      have y1 : ¬ (s : Int) < (s : Int) := by omega
      have hj : j = s / N := HJ.out.all HO.out.1 HO.out.2.1 HRR.out
      subst hj
      obtain ⟨D, k', rfl, e1, e2⟩ := HO2.out.out
      have HH := Lib.hid (L2.Own.holds HO2.out)
      go_wp2
      refine bodyPost_ret (v := .tuple #[.slice D (s / N) k', .int .i64 0]) (by simp [results, Try.results22, go_sem]) rfl ?_
      first | exact ⟨D, ⟨k', rfl⟩, HH.out, HW.out⟩ | exact ⟨D, k', rfl, HH.out, HW.out⟩
end Go.Proofs.Ythipdfkgeghooaa
