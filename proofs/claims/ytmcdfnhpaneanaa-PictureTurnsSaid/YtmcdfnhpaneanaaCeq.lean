/- Layer 14 of the program: Equal, Counts. -/
import Derived.Test.YtmcdfnhpaneanaaCfr
import Derived.Laws.MakeOwn
import Derived.OwnWalk
namespace Go.Proofs.Ytmcdfnhpaneanaa
open Go.RowKit
set_option maxRecDepth 100000
set_option linter.unusedVariables false
set_option linter.unusedSimpArgs false

theorem app1b {ops : Array Oper} {rest : List Oper} {o : Oper} {a : Act} {Q : Exit → Act → World → Prop} (w : World) (hgd : o.guard = none) (s x : Operand)
    (ho : o.op = .call { callee := .builtin .append, args := #[s, x], argTypes := #[25, 25] }) (base : Nat) {v : Value} {n : Nat} {f : Nat → Bool} (hs : a.eval s = v) (hown : OwB w base v n f)
    (y : Bool) (hx : a.eval x = .slice (some ⟨w.heap.size, 0, none⟩) 1 1) (hy : f n = y) (hn : n ≤ 100000) (hb : base ≤ w.heap.size)
    (h : ∀ v' w', OwB w' base v' (n + 1) f → Below base w w' → wpList Try.prog ops Q rest (a.put o.dst v') w') :
    wpList Try.prog ops Q (o :: rest) a (w.alloc (.cells #[.bool y] 4)) := by
  obtain ⟨i0, hi, hz0, hz1, hz2⟩ := info_parts Try.info4
  refine wpList_append_own_at _ hgd s x 25 ho base 4 i0 (.bool false) 1 1 Try.underlying25 hi hz0 hz1 hz2 rfl (by decide) v n _ hs (hown.alloc _) ⟨w.heap.size, 0, none⟩ 1 1 [.bool y] hx rfl (cell_one_new _ _ _) (by intro u hu; simp at hu; rw [hu]; rfl)
    (by unfold maxLen; omega) (by omega) (by simp; omega) ?_
  intro v' w' ho' hg _ h3
  refine h v' w' ?_ ?_
  · unfold OwB
    rw [newsb_succ, hy]
    exact ho'
  · refine Below.grown ((Below.refl _ _).alloc hb _) hg (by simp; omega) fun k hk => (orow_block hown hk).1
theorem mk0_run (N : Nat) (hN : N ≤ 100000) (w : World) : (Instr.makeSlice 25 (.int .i64 0) (.int .i64 (N : Nat))).run Try.prog w = .ok (.slice (some ⟨w.heap.size, 0, none⟩) 0 N) (w.alloc (.cells (madeCells #[.bool false] N) 4)) := by
  obtain ⟨i0, hi, hz0, hz1, hz2⟩ := info_parts Try.info4
  have h := run_make (P := Try.prog) w 25 4 i0 (.bool false) Try.underlying25 hi hz0 .i64 .i64 0 (N : Nat) (Int.le_refl _) (by omega) (by rw [hz2]; omega) (by omega)
  simp only [Int.toNat_zero, Int.toNat_natCast, hz1, Nat.mul_one] at h
  exact h
/-- A new row of no cells. -/
theorem OwB.made (w : World) (base N : Nat) (hN : N ≤ 100000) (hb : base ≤ w.heap.size) (f : Nat → Bool) : OwB (w.alloc (.cells (madeCells #[.bool false] N) 4)) base (.slice (some ⟨w.heap.size, 0, none⟩) 0 N) 0 f :=
  ⟨rfl, .inr ⟨w.heap.size, N, madeCells #[.bool false] N, rfl, hb, World.alloc_heap_new _ _, Nat.zero_le _, by unfold maxLen; omega, by rw [size_madeCells, Nat.mul_one], rfl⟩⟩
theorem OwB.row {w : World} {base n : Nat} {v : Value} {f : Nat → Bool} (h : OwB w base v n f) (hn : 0 < n) : ∃ k c, v = .slice (some ⟨k, 0, none⟩) n c ∧ base ≤ k ∧ n ≤ c ∧ Row w k n f := by
  have h2 := h
  rcases h2.2 with ⟨e0, e1⟩ | ⟨g, cap, cur, e0, hb, _, hc, _⟩
  · omega
  · subst e0
    exact ⟨g, cap, rfl, hb, hc, Row.of_own h hn⟩
/-- What is wrong with the colours of Equal. -/
def eqE (m k : Nat) (a b : Nat → Int) : Int := if ¬ (side m = true ∧ side k = true) then 26 else if fine m a = true ∧ fine k b = true then 0 else 8
theorem eqE_cnt {m k : Nat} {a b : Nat → Int} (h : ¬ (side m = true ∧ side k = true)) : eqE m k a b = 26 := if_pos h
theorem eqE_bad {m k : Nat} {a b : Nat → Int} (h : side m = true ∧ side k = true) (h2 : ¬ (fine m a = true ∧ fine k b = true)) : eqE m k a b = 8 := by unfold eqE; rw [if_neg (by simp [h]), if_neg h2]
theorem eqE_ok {m k : Nat} {a b : Nat → Int} (h : side m = true ∧ side k = true) (h2 : fine m a = true ∧ fine k b = true) : eqE m k a b = 0 := by unfold eqE; rw [if_neg (by simp [h]), if_pos h2]
theorem side_of {m : Nat} (h : side m = true) : 1 ≤ m ∧ m ≤ 64 := by have := of_decide_eq_true h; omega
theorem eqE_zero {m k : Nat} {a b : Nat → Int} (h : eqE m k a b = 0) : 1 ≤ m ∧ m ≤ 64 ∧ 1 ≤ k ∧ k ≤ 64 ∧ fine m a = true ∧ fine k b = true := by
  by_cases h1 : side m = true ∧ side k = true
  · by_cases h2 : fine m a = true ∧ fine k b = true
    · exact ⟨(side_of h1.1).1, (side_of h1.1).2, (side_of h1.2).1, (side_of h1.2).2, h2.1, h2.2⟩
    · rw [eqE_bad h1 h2] at h; cases h
  · rw [eqE_cnt h1] at h; cases h
/-- Where an end and a pick have the same colour. -/
def eqF (m : Nat) (a b : Nat → Int) : Nat → Bool := fun i => a (i % m) == b (i / m)
theorem fin_ge {w w2 : World} {err : Int} {r : Nat} {a b d : Value} (F : Nat → Bool) (hr : w.heap.size ≤ r) (hb : Below w.heap.size w w2) :
    RG w 0 0 0 F err (.returned (.tuple #[.agg #[.int .i64 0, .int .i64 0, .slice none 0 0], .int .i64 err])) (((w2.setCell ⟨r, 0, none⟩ a).setCell ⟨r, 1, none⟩ b).setCell ⟨r, 2, none⟩ d) :=
  ⟨none, 0, rfl, Holds.none_, bel_r3 hr hb⟩
theorem fin_gm {w w2 : World} {X Y z : Int} {N r k c : Nat} {a b d : Value} {F : Nat → Bool} (hr : w.heap.size ≤ r) (hk : k ≠ r) (hrow : Row w2 k N F) (hb : Below w.heap.size w w2) :
    RG w X Y N F z (.returned (.tuple #[.agg #[.int .i64 X, .int .i64 Y, .slice (some ⟨k, 0, none⟩) N c], .int .i64 z])) (((w2.setCell ⟨r, 0, none⟩ a).setCell ⟨r, 1, none⟩ b).setCell ⟨r, 2, none⟩ d) := by
  have h := ((hrow.far (p := ⟨r, 0, none⟩) hk a).far (p := ⟨r, 1, none⟩) hk b).far (p := ⟨r, 2, none⟩) hk d
  exact ⟨_, _, rfl, h.holds h.lt, bel_r3 hr hb⟩
set_option maxHeartbeats 800000 in
theorem equal_s1 (B C : Option Addr) (m d k e : Nat) (a b : Nat → Int) (w : World) (F : Nat → Bool) (hm1 : m ≤ 5000) (hk1 : k ≤ 5000) (ha : L2.Holds w w.heap.size B m a) (hb1 : L2.Holds w w.heap.size C k b) (h1 : side m = false) : Calls Try.prog 73 #[.slice B m d, .slice C k e] w (RG w 0 0 0 F 26) := by
  have HS1 := Lib.hid (fun u => side_any (m : Nat) u)
  have HS2 := Lib.hid (fun u => side_any (k : Nat) u)
  have HA := Lib.hid (fun u (hb : Below w.heap.size w u) => are_any B m d a u (by omega) ((ha.below hb).more hb.size))
  have HB := Lib.hid (fun u (hb : Below w.heap.size w u) => are_any C k e b u (by omega) ((hb1.below hb).more hb.size))
  rw [h1] at HS1
  clear ha hb1 h1 HA HB HS2
  have LB0 := Lib.hid (Below.refl w.heap.size w)
  have R0 := Box.new w 0 0 (.slice none 0 0)
  have R0 := Lib.hid R0
  have LB0 := Lib.hid (LB0.out.alloc LB0.out.size (.cells #[.int .i64 0, .int .i64 0, .slice none 0 0] 27))
  go_enter Try.func73, Try.ntmps73
  go_upto_region 1 with (fail)
  generalize w.alloc (.cells #[.int .i64 0, .int .i64 0, .slice none 0 0] 27) = w0 at *
  go_wp2_with fail
  with_reducible refine Calls.mono (HS1.out _) ?_
  rintro e w1 ⟨rfl, hb⟩
  have LB1 := Lib.hid (LB0.out.trans (hb.mono LB0.out.size))
  have R0 := Lib.hid (R0.out.below hb R0.out.lt)
  clear hb LB0 
  obtain ⟨s0, s1, s2, s3, s4, s5, s6⟩ := R0.out.all
  go_wp2
  refine bodyPost_ret (v := .tuple #[.agg #[.int .i64 0, .int .i64 0, .slice none 0 0], .int .i64 26]) (by simp [results, Try.results73, go_sem, s0, s1, s2, s3, s4, s5]) rfl ?_
  exact fin_ge _ (Nat.le_refl _) LB1.out
set_option maxHeartbeats 800000 in
theorem equal_s2 (B C : Option Addr) (m d k e : Nat) (a b : Nat → Int) (w : World) (F : Nat → Bool) (hm1 : m ≤ 5000) (hk1 : k ≤ 5000) (ha : L2.Holds w w.heap.size B m a) (hb1 : L2.Holds w w.heap.size C k b) (h1 : side m = true) (h2 : side k = false) : Calls Try.prog 73 #[.slice B m d, .slice C k e] w (RG w 0 0 0 F 26) := by
  have HS1 := Lib.hid (fun u => side_any (m : Nat) u)
  have HS2 := Lib.hid (fun u => side_any (k : Nat) u)
  have HA := Lib.hid (fun u (hb : Below w.heap.size w u) => are_any B m d a u (by omega) ((ha.below hb).more hb.size))
  have HB := Lib.hid (fun u (hb : Below w.heap.size w u) => are_any C k e b u (by omega) ((hb1.below hb).more hb.size))
  rw [h1] at HS1
  rw [h2] at HS2
  clear ha hb1 h1 h2 HA HB
  have LB0 := Lib.hid (Below.refl w.heap.size w)
  have R0 := Box.new w 0 0 (.slice none 0 0)
  have R0 := Lib.hid R0
  have LB0 := Lib.hid (LB0.out.alloc LB0.out.size (.cells #[.int .i64 0, .int .i64 0, .slice none 0 0] 27))
  go_enter Try.func73, Try.ntmps73
  go_upto_region 1 with (fail)
  generalize w.alloc (.cells #[.int .i64 0, .int .i64 0, .slice none 0 0] 27) = w0 at *
  go_wp2_with fail
  with_reducible refine Calls.mono (HS1.out _) ?_
  rintro e w1 ⟨rfl, hb⟩
  have LB1 := Lib.hid (LB0.out.trans (hb.mono LB0.out.size))
  have R0 := Lib.hid (R0.out.below hb R0.out.lt)
  clear hb LB0 
  go_wp2_with fail
  with_reducible refine Calls.mono (HS2.out _) ?_
  rintro e w2 ⟨rfl, hb⟩
  have LB2 := Lib.hid (LB1.out.trans (hb.mono LB1.out.size))
  have R0 := Lib.hid (R0.out.below hb R0.out.lt)
  clear hb LB1 
  obtain ⟨s0, s1, s2, s3, s4, s5, s6⟩ := R0.out.all
  go_wp2
  refine bodyPost_ret (v := .tuple #[.agg #[.int .i64 0, .int .i64 0, .slice none 0 0], .int .i64 26]) (by simp [results, Try.results73, go_sem, s0, s1, s2, s3, s4, s5]) rfl ?_
  exact fin_ge _ (Nat.le_refl _) LB2.out
set_option maxHeartbeats 800000 in
theorem equal_b1 (B C : Option Addr) (m d k e : Nat) (a b : Nat → Int) (w : World) (F : Nat → Bool) (hm1 : m ≤ 5000) (hk1 : k ≤ 5000) (ha : L2.Holds w w.heap.size B m a) (hb1 : L2.Holds w w.heap.size C k b) (h1 : side m = true) (h2 : side k = true) (h3 : fine m a = false) : Calls Try.prog 73 #[.slice B m d, .slice C k e] w (RG w 0 0 0 F 8) := by
  have HS1 := Lib.hid (fun u => side_any (m : Nat) u)
  have HS2 := Lib.hid (fun u => side_any (k : Nat) u)
  have HA := Lib.hid (fun u (hb : Below w.heap.size w u) => are_any B m d a u (by omega) ((ha.below hb).more hb.size))
  have HB := Lib.hid (fun u (hb : Below w.heap.size w u) => are_any C k e b u (by omega) ((hb1.below hb).more hb.size))
  rw [h1] at HS1
  rw [h2] at HS2
  rw [h3] at HA
  clear ha hb1 h1 h2 h3 HB
  have LB0 := Lib.hid (Below.refl w.heap.size w)
  have R0 := Box.new w 0 0 (.slice none 0 0)
  have R0 := Lib.hid R0
  have LB0 := Lib.hid (LB0.out.alloc LB0.out.size (.cells #[.int .i64 0, .int .i64 0, .slice none 0 0] 27))
  go_enter Try.func73, Try.ntmps73
  go_upto_region 1 with (fail)
  generalize w.alloc (.cells #[.int .i64 0, .int .i64 0, .slice none 0 0] 27) = w0 at *
  go_wp2_with fail
  with_reducible refine Calls.mono (HS1.out _) ?_
  rintro e w1 ⟨rfl, hb⟩
  have LB1 := Lib.hid (LB0.out.trans (hb.mono LB0.out.size))
  have R0 := Lib.hid (R0.out.below hb R0.out.lt)
  clear hb LB0 
  go_wp2_with fail
  with_reducible refine Calls.mono (HS2.out _) ?_
  rintro e w2 ⟨rfl, hb⟩
  have LB2 := Lib.hid (LB1.out.trans (hb.mono LB1.out.size))
  have R0 := Lib.hid (R0.out.below hb R0.out.lt)
  clear hb LB1 
  go_wp2_with fail
  with_reducible refine Calls.mono (HA.out _ LB2.out) ?_
  rintro e w3 ⟨rfl, hb⟩
  have LB3 := Lib.hid (LB2.out.trans (hb.mono LB2.out.size))
  have R0 := Lib.hid (R0.out.below hb R0.out.lt)
  clear hb LB2 
  obtain ⟨s0, s1, s2, s3, s4, s5, s6⟩ := R0.out.all
  go_wp2
  refine bodyPost_ret (v := .tuple #[.agg #[.int .i64 0, .int .i64 0, .slice none 0 0], .int .i64 8]) (by simp [results, Try.results73, go_sem, s0, s1, s2, s3, s4, s5]) rfl ?_
  exact fin_ge _ (Nat.le_refl _) LB3.out
set_option maxHeartbeats 800000 in
theorem equal_b2 (B C : Option Addr) (m d k e : Nat) (a b : Nat → Int) (w : World) (F : Nat → Bool) (hm1 : m ≤ 5000) (hk1 : k ≤ 5000) (ha : L2.Holds w w.heap.size B m a) (hb1 : L2.Holds w w.heap.size C k b) (h1 : side m = true) (h2 : side k = true) (h3 : fine m a = true) (h4 : fine k b = false) : Calls Try.prog 73 #[.slice B m d, .slice C k e] w (RG w 0 0 0 F 8) := by
  have HS1 := Lib.hid (fun u => side_any (m : Nat) u)
  have HS2 := Lib.hid (fun u => side_any (k : Nat) u)
  have HA := Lib.hid (fun u (hb : Below w.heap.size w u) => are_any B m d a u (by omega) ((ha.below hb).more hb.size))
  have HB := Lib.hid (fun u (hb : Below w.heap.size w u) => are_any C k e b u (by omega) ((hb1.below hb).more hb.size))
  rw [h1] at HS1
  rw [h2] at HS2
  rw [h3] at HA
  rw [h4] at HB
  clear ha hb1 h1 h2 h3 h4
  have LB0 := Lib.hid (Below.refl w.heap.size w)
  have R0 := Box.new w 0 0 (.slice none 0 0)
  have R0 := Lib.hid R0
  have LB0 := Lib.hid (LB0.out.alloc LB0.out.size (.cells #[.int .i64 0, .int .i64 0, .slice none 0 0] 27))
  go_enter Try.func73, Try.ntmps73
  go_upto_region 1 with (fail)
  generalize w.alloc (.cells #[.int .i64 0, .int .i64 0, .slice none 0 0] 27) = w0 at *
  go_wp2_with fail
  with_reducible refine Calls.mono (HS1.out _) ?_
  rintro e w1 ⟨rfl, hb⟩
  have LB1 := Lib.hid (LB0.out.trans (hb.mono LB0.out.size))
  have R0 := Lib.hid (R0.out.below hb R0.out.lt)
  clear hb LB0 
  go_wp2_with fail
  with_reducible refine Calls.mono (HS2.out _) ?_
  rintro e w2 ⟨rfl, hb⟩
  have LB2 := Lib.hid (LB1.out.trans (hb.mono LB1.out.size))
  have R0 := Lib.hid (R0.out.below hb R0.out.lt)
  clear hb LB1 
  go_wp2_with fail
  with_reducible refine Calls.mono (HA.out _ LB2.out) ?_
  rintro e w3 ⟨rfl, hb⟩
  have LB3 := Lib.hid (LB2.out.trans (hb.mono LB2.out.size))
  have R0 := Lib.hid (R0.out.below hb R0.out.lt)
  clear hb LB2 
  go_wp2_with fail
  with_reducible refine Calls.mono (HB.out _ LB3.out) ?_
  rintro e w4 ⟨rfl, hb⟩
  have LB4 := Lib.hid (LB3.out.trans (hb.mono LB3.out.size))
  have R0 := Lib.hid (R0.out.below hb R0.out.lt)
  clear hb LB3 
  obtain ⟨s0, s1, s2, s3, s4, s5, s6⟩ := R0.out.all
  go_wp2
  refine bodyPost_ret (v := .tuple #[.agg #[.int .i64 0, .int .i64 0, .slice none 0 0], .int .i64 8]) (by simp [results, Try.results73, go_sem, s0, s1, s2, s3, s4, s5]) rfl ?_
  exact fin_ge _ (Nat.le_refl _) LB4.out
theorem equal_err (B C : Option Addr) (m d k e : Nat) (a b : Nat → Int) (w : World) (F : Nat → Bool) (hm1 : m ≤ 5000) (hk1 : k ≤ 5000) (ha : L2.Holds w w.heap.size B m a) (hb1 : L2.Holds w w.heap.size C k b) {z : Int} (hz : eqE m k a b = z) (hne : z ≠ 0) : Calls Try.prog 73 #[.slice B m d, .slice C k e] w (RG w 0 0 0 F z) := by
  cases h1 : side m
  · rw [eqE_cnt (by simp [h1])] at hz; subst hz
    exact equal_s1 B C m d k e a b w F hm1 hk1 ha hb1 h1
  cases h2 : side k
  · rw [eqE_cnt (by simp [h2])] at hz; subst hz
    exact equal_s2 B C m d k e a b w F hm1 hk1 ha hb1 h1 h2
  cases h3 : fine m a
  · rw [eqE_bad ⟨h1, h2⟩ (by simp [h3])] at hz; subst hz
    exact equal_b1 B C m d k e a b w F hm1 hk1 ha hb1 h1 h2 h3
  cases h4 : fine k b
  · rw [eqE_bad ⟨h1, h2⟩ (by simp [h4])] at hz; subst hz
    exact equal_b2 B C m d k e a b w F hm1 hk1 ha hb1 h1 h2 h3 h4
  rw [eqE_ok ⟨h1, h2⟩ ⟨h3, h4⟩] at hz
  exact absurd hz.symm hne
set_option maxHeartbeats 1600000 in
theorem equal_ok (B C : Option Addr) (W d H e : Nat) (a b : Nat → Int) (w : World) (hW0 : 1 ≤ W) (hW : W ≤ 64) (hH0 : 1 ≤ H) (hH : H ≤ 64) (ha : L2.Holds w w.heap.size B W a) (hb1 : L2.Holds w w.heap.size C H b) (h3 : fine W a = true) (h4 : fine H b = true) :
    Calls Try.prog 73 #[.slice B W d, .slice C H e] w (RG w (W : Nat) (H : Nat) (W * H) (eqF W a b) 0) := by
  have HS1 := Lib.hid (fun u => side_any (W : Nat) u)
  have HS2 := Lib.hid (fun u => side_any (H : Nat) u)
  have HA := Lib.hid (fun u (hb : Below w.heap.size w u) => are_any B W d a u (by omega) ((ha.below hb).more hb.size))
  have HB := Lib.hid (fun u (hb : Below w.heap.size w u) => are_any C H e b u (by omega) ((hb1.below hb).more hb.size))
  rw [side_nat hW0 hW] at HS1
  rw [side_nat hH0 hH] at HS2
  rw [h3] at HA
  rw [h4] at HB
  have Ha := Lib.hid ha
  have Hb := Lib.hid hb1
  clear ha hb1 h3 h4
  have hN : W * H ≤ 4096 := Nat.mul_le_mul hW hH
  have e1 : IntKind.i64.wrap ((W : Int) * (H : Int)) = ((W * H : Nat) : Int) := by
    rw [← Int.natCast_mul]; exact IntWalk.i64_in _ (by omega)
  have hmk := mk0_run (W * H) (by omega)
  have HN0 := Lib.hid (Nat.mul_pos hW0 hH0)
  obtain ⟨f, hf⟩ : ∃ f : Nat → Bool, f = eqF W a b := ⟨_, rfl⟩
  have HFV := Lib.hid (fun x y (hx : x < W) => show f (y * W + x) = (a x == b y) by
    rw [hf]; show (a ((y * W + x) % W) == b ((y * W + x) / W)) = _
    rw [Nat.mul_comm y, Nat.mul_add_mod, Nat.mod_eq_of_lt hx, Nat.mul_add_div (by omega), Nat.div_eq_of_lt hx, Nat.add_zero])
  have HLT := Lib.hid (fun k x (hk : k < H) (hx : x < W) => ix_bd (W := W) (H := H) hx hk)
  have HCM := Lib.hid (Nat.mul_comm H W)
  rw [← hf]
  clear hf
  obtain ⟨N, hNe⟩ : ∃ N, W * H = N := ⟨_, rfl⟩
  rw [hNe] at hN e1 hmk HN0 HLT HCM ⊢
  clear hNe
  have LB0 := Lib.hid (Below.refl w.heap.size w)
  have R0 := Box.new w 0 0 (.slice none 0 0)
  have R0 := Lib.hid R0
  have LB0 := Lib.hid (LB0.out.alloc LB0.out.size (.cells #[.int .i64 0, .int .i64 0, .slice none 0 0] 27))
  go_enter Try.func73, Try.ntmps73
  go_upto_region 1 with (fail)
  generalize w.alloc (.cells #[.int .i64 0, .int .i64 0, .slice none 0 0] 27) = w0 at *
  go_wp2_with fail
  with_reducible refine Calls.mono (HS1.out _) ?_
  rintro e w1 ⟨rfl, hb⟩
  have LB1 := Lib.hid (LB0.out.trans (hb.mono LB0.out.size))
  have R0 := Lib.hid (R0.out.below hb R0.out.lt)
  clear hb LB0 
  go_wp2_with fail
  with_reducible refine Calls.mono (HS2.out _) ?_
  rintro e w2 ⟨rfl, hb⟩
  have LB2 := Lib.hid (LB1.out.trans (hb.mono LB1.out.size))
  have R0 := Lib.hid (R0.out.below hb R0.out.lt)
  clear hb LB1 
  go_wp2_with fail
  with_reducible refine Calls.mono (HA.out _ LB2.out) ?_
  rintro e w3 ⟨rfl, hb⟩
  have LB3 := Lib.hid (LB2.out.trans (hb.mono LB2.out.size))
  have R0 := Lib.hid (R0.out.below hb R0.out.lt)
  clear hb LB2 
  go_wp2_with fail
  with_reducible refine Calls.mono (HB.out _ LB3.out) ?_
  rintro e w4 ⟨rfl, hb⟩
  have LB4 := Lib.hid (LB3.out.trans (hb.mono LB3.out.size))
  have R0 := Lib.hid (R0.out.below hb R0.out.lt)
  clear hb LB3 
  have HSZ := Lib.hid (show w.heap.size + 1 ≤ w4.heap.size from R0.out.lt)
  clear HS1 HS2 HA HB
  go_upto_region 6 with (fail)
  have V0 := Lib.hid (OwB.made w4 (w.heap.size + 1) N (by omega) HSZ.out f)
  have R0 := Lib.hid (R0.out.alloc (.cells (madeCells #[.bool false] N) 4))
  have LB := Lib.hid (LB4.out.alloc LB4.out.size (.cells (madeCells #[.bool false] N) 4))
  clear LB4 HSZ
  generalize w4.alloc (.cells (madeCells #[.bool false] N) 4) = wz at *
  generalize Value.slice (some ⟨w4.heap.size, 0, none⟩) 0 N = sl at *
  go_wp2
  go_loopw [6, 39] (fun q i wr => ∃ k : Nat, k ≤ H ∧ i = .int .i64 k ∧ Hid (OwB wr (w.heap.size + 1) q (k * W) f) ∧ Hid (Box wr w.heap.size 0 0 (.slice none 0 0)) ∧ Hid (Below w.heap.size w wr)) (fun _ i _ => H - (intOf i).toNat)
  case atStart => exact ⟨0, Nat.zero_le _, rfl, by rw [Nat.zero_mul]; exact V0, R0, LB⟩
  case round =>
    obtain ⟨k, hk, rfl, HO, HX, HB⟩ := hrel
    clear V0 R0 LB
    by_cases hlt : k < H
    · have y1 : (k : Int) < (H : Int) := by omega
      have y2 : (0 : Int) ≤ (k : Int) := by omega
      obtain ⟨bk, ok, ek, lk, ck⟩ := ((Hb.out.below HB.out).more HB.out.size) (by omega)
      have c0 := ck k hlt
      clear ck
      subst ek
      obtain ⟨bv, hbv⟩ : ∃ z, b k = z := ⟨_, rfl⟩
      rw [hbv] at c0
      have HBV := Lib.hid hbv
      clear hbv
      go_wp2
      clear c0
      go_loopw [6, 45] (fun q i wr => ∃ x : Nat, x ≤ W ∧ i = .int .i64 x ∧ Hid (OwB wr (w.heap.size + 1) q (k * W + x) f) ∧ Hid (Box wr w.heap.size 0 0 (.slice none 0 0)) ∧ Hid (Below w.heap.size w wr)) (fun _ i _ => W - (intOf i).toNat)
      case atStart => exact ⟨0, Nat.zero_le _, rfl, by rw [Nat.add_zero]; exact HO, HX, HB⟩
      case round =>
        obtain ⟨x, hx, rfl, HO2, HX2, HB2⟩ := hrel
        clear HO HX HB
        by_cases hltx : x < W
        · have y3 : (x : Int) < (W : Int) := by omega
          have y4 : (0 : Int) ≤ (x : Int) := by omega
          have HFk := Lib.hid (HFV.out x k hltx)
          obtain ⟨ba, oa, ea, la, ca⟩ := ((Ha.out.below HB2.out).more HB2.out.size) (by omega)
          have c0 := ca x hltx
          clear ca
          subst ea
          rw [HBV.out] at HFk
          obtain ⟨av, hav⟩ : ∃ z, a x = z := ⟨_, rfl⟩
          rw [hav] at c0 HFk
          clear hav
          have hlen := HLT.out k x hlt hltx
          have HE := Lib.hid (show k * W + (x + 1) = k * W + x + 1 by omega)
          obtain ⟨m, hm⟩ : ∃ m, k * W + x = m := ⟨_, rfl⟩
          rw [hm] at hlen HO2 HFk HE
          clear hm
          obtain ⟨eb, heb⟩ : ∃ z, (av == bv) = z := ⟨_, rfl⟩
          rw [heb] at HFk
          have hsz : w.heap.size + 1 ≤ wr.heap.size := HX2.out.lt
          go_wp2_with (at_builtin; refine app1b _ rfl _ _ (by rfl) (w.heap.size + 1) (by rfl) HO2.out eb (by rfl) HFk.out (by omega) hsz ?_; intro v' w5 hown5 hb5; have HO5 := Lib.hid hown5; have HB5 := Lib.hid hb5; clear hown5 hb5)
          have HB6 := Lib.hid (HB2.out.trans (HB5.out.mono (by omega)))
          have HX6 := Lib.hid (HX2.out.below HB5.out (by omega))
          go_roundw
          case rel => exact ⟨x + 1, by omega, by go_num, by rw [HE.out]; exact HO5, HX6, HB6⟩
          case measure => simp [intOf]; omega
        · have e : x = W := by omega
          have y3 : ¬ (x : Int) < (W : Int) := by omega
          have HO3 := Lib.hid (show OwB wr (w.heap.size + 1) u6 ((k + 1) * W) f by rw [Nat.add_mul, Nat.one_mul, ← e]; rw [e] at HO2 ⊢; exact HO2.out)
          clear e HO2
          go_wp2
          go_roundw
          case rel => exact ⟨k + 1, by omega, by go_num, HO3, HX2, HB2⟩
          case measure => simp [intOf]; omega
    · have e : k = H := by omega
      have y1 : ¬ (k : Int) < (H : Int) := by omega
      rw [e, HCM.out] at HO
      obtain ⟨g1, c1, rfl, hg1, hc1, hrow⟩ := HO.out.row HN0.out
      have HR := Lib.hid hrow
      have HLS := Lib.hid (show g1 ≠ w.heap.size by omega)
      clear e hrow
      obtain ⟨r0, r1, r2, r3, r4, r5, r6⟩ := HX.out.all
      go_wp2
      refine bodyPost_ret (v := .tuple #[.agg #[.int .i64 (W : Nat), .int .i64 (H : Nat), .slice (some ⟨g1, 0, none⟩) N c1], .int .i64 0]) (by simp [results, Try.results73, go_sem, r0, r1, r2, r3, r4, r5]) rfl ?_
      exact fin_gm (Nat.le_refl _) HLS.out HR.out HB.out
theorem rmade (w : World) (n : Nat) : L2.Row (w.alloc (.cells (madeCells #[.int .i64 0] n) 3)) w.heap.size n (fun _ => 0) := by
  refine ⟨madeCells #[.int .i64 0] n, World.alloc_heap_new w _, Nat.le_of_eq (size_madeCells _ _).symm, fun i hi => ?_⟩
  simp [madeCells, hi, Nat.mod_one]
theorem mki_run (N : Nat) (hN : N ≤ 4096) (w : World) :
    (Instr.makeSlice 22 (.int .i64 (N : Nat)) (.int .i64 (N : Nat))).run Try.prog w = .ok (.slice (some ⟨w.heap.size, 0, none⟩) N N) (w.alloc (.cells (madeCells #[.int .i64 0] N) 3)) :=
  run_make_row' (P := Try.prog) 22 3 (.int .i64 0) 8 Try.underlying22 L2.TryI.info3 rfl .i64 .i64 N (by omega) (by omega) w
/-- How often each colour stands among the first j cells. -/
def cntF (f : Nat → Int) (j : Nat) : Nat → Int := fun v => ((cnt (fun i => decide (f i = (v : Int))) j : Nat) : Int)
theorem cntF_zero (f : Nat → Int) : cntF f 0 = fun _ => 0 := rfl
theorem cntF_bd (f : Nat → Int) (j v : Nat) : 0 ≤ cntF f j v ∧ cntF f j v ≤ j := ⟨Int.natCast_nonneg _, by unfold cntF; exact_mod_cast cnt_le _ j⟩
theorem cntF_succ {f : Nat → Int} {j x : Nat} (h : f j = (x : Int)) (v : Nat) : (if v = x then cntF f j x + 1 else cntF f j v) = cntF f (j + 1) v := by
  unfold cntF
  by_cases e : v = x
  · subst e
    rw [if_pos rfl, cnt_yes (by simp [h])]
    simp
  · rw [if_neg e, cnt_no (by rw [decide_eq_false_iff_not, h]; omega)]
end Go.Proofs.Ytmcdfnhpaneanaa
