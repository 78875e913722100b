/- Layer 13 of the program: Join. -/
import Derived.Test.YtngjcekjboedjaaKow
namespace Go.Proofs.Ytngjcekjboedjaa
open Go.RowKit
set_option maxRecDepth 100000
set_option linter.unusedVariables false
set_option linter.unusedSimpArgs false

set_option maxHeartbeats 1600000 in
theorem join_none (D : Option Addr) (m c : Nat) (G : Nat → GV) (A : Option Addr) (k d : Nat) (f : Nat → Int) (x : Int) (w : World) (hm : m ≤ 5000) (hn : ∀ i, i < m → (G i).n ≤ 4200) (h : GLs w D m G) (hk : k ≤ 100000) (ha : L2.Holds w w.heap.size A k f) (h0 : m = 0) :
    Calls Try.prog 53 #[.slice D m c, .slice A k d, .int .i64 x] w (ErrGrid w 6) := by
  have HCK := Lib.hid (fun u (hb : Below w.heap.size w u) => checkg_any D m c G u hm hn (h.below hb))
  have HON := Lib.hid (fun u (hb : Below w.heap.size w u) => onesize_any D m c G u hm (h.below hb))
  have HIN := Lib.hid (fun u (hb : Below w.heap.size w u) => inds_any A k d f m u hk ((ha.below hb).more hb.size))
  have hR0 := Box.new w 0 0 (.slice none 0 0)
  have LB0 := Lib.hid (bel_alloc w (.cells #[.int .i64 0, .int .i64 0, .slice none 0 0] 24))
  have hrw : w.heap.size ≤ w.heap.size := Nat.le_refl _
  have y0 : ((m : Int) == 0) = true := by rw [h0]; rfl
  clear h0
  obtain ⟨rb, hrb⟩ : ∃ r, w.heap.size = r := ⟨_, rfl⟩
  rw [hrb] at hR0
  have R0 := Lib.hid hR0
  have HW := Lib.hid hrb
  clear hR0 h ha hn hrb
  go_enter Try.func53, Try.ntmps53
  go_upto_region 1 with (fail)
  rw [HW.out]
  generalize w.alloc (.cells #[.int .i64 0, .int .i64 0, .slice none 0 0] 24) = w0 at *
  obtain ⟨q0, q1, q2, q3, q4, q5, q6⟩ := R0.out.all
  have hrr := HW.out
  go_wp2
  refine bodyPost_ret (v := .tuple #[.agg #[.int .i64 0, .int .i64 0, .slice none 0 0], .int .i64 6]) (by simp [results, Try.results53, go_sem, q0, q1, q2, q3, q4, q5]) rfl ?_
  exact fin_err (by omega) LB0.out
set_option maxHeartbeats 1600000 in
theorem join_err (D : Option Addr) (m c : Nat) (G : Nat → GV) (A : Option Addr) (k d : Nat) (f : Nat → Int) (x : Int) (w : World) (hm : m ≤ 5000) (hn : ∀ i, i < m → (G i).n ≤ 4200) (h : GLs w D m G) (hk : k ≤ 100000) (ha : L2.Holds w w.heap.size A k f) (h0 : 0 < m) (z : Int) (hz : gfe m G = z) (hne : z ≠ 0) :
    Calls Try.prog 53 #[.slice D m c, .slice A k d, .int .i64 x] w (ErrGrid w z) := by
  have HCK := Lib.hid (fun u (hb : Below w.heap.size w u) => checkg_any D m c G u hm hn (h.below hb))
  have HON := Lib.hid (fun u (hb : Below w.heap.size w u) => onesize_any D m c G u hm (h.below hb))
  have HIN := Lib.hid (fun u (hb : Below w.heap.size w u) => inds_any A k d f m u hk ((ha.below hb).more hb.size))
  have hR0 := Box.new w 0 0 (.slice none 0 0)
  have LB0 := Lib.hid (bel_alloc w (.cells #[.int .i64 0, .int .i64 0, .slice none 0 0] 24))
  have hrw : w.heap.size ≤ w.heap.size := Nat.le_refl _
  have y0 : ((m : Int) == 0) = false := by rw [beq_eq_false_iff_ne]; omega
  have y1 : (z != 0) = true := by rw [bne_iff_ne]; exact hne
  rw [hz] at HCK
  clear hz hne
  obtain ⟨rb, hrb⟩ : ∃ r, w.heap.size = r := ⟨_, rfl⟩
  rw [hrb] at hR0
  have R0 := Lib.hid hR0
  have HW := Lib.hid hrb
  clear hR0 h ha hn hrb
  go_enter Try.func53, Try.ntmps53
  go_upto_region 1 with (fail)
  rw [HW.out]
  generalize w.alloc (.cells #[.int .i64 0, .int .i64 0, .slice none 0 0] 24) = w0 at *
  go_wp2_with fail
  with_reducible refine Calls.mono (HCK.out _ LB0.out) ?_
  rintro e w1 ⟨rfl, hb⟩
  have LB1 := Lib.hid (LB0.out.trans (hb.mono LB0.out.size))
  have R0 := Lib.hid (R0.out.below hb R0.out.lt)
  clear hb LB0 
  obtain ⟨q0, q1, q2, q3, q4, q5, q6⟩ := R0.out.all
  have hrr := HW.out
  go_wp2
  refine bodyPost_ret (v := .tuple #[.agg #[.int .i64 0, .int .i64 0, .slice none 0 0], .int .i64 z]) (by simp [results, Try.results53, go_sem, q0, q1, q2, q3, q4, q5]) rfl ?_
  exact fin_err (by omega) LB1.out
set_option maxHeartbeats 1600000 in
theorem join_c1 (D : Option Addr) (m c : Nat) (G : Nat → GV) (A : Option Addr) (k d : Nat) (f : Nat → Int) (x : Int) (w : World) (hm : m ≤ 5000) (hn : ∀ i, i < m → (G i).n ≤ 4200) (h : GLs w D m G) (hk : k ≤ 100000) (ha : L2.Holds w w.heap.size A k f) (h0 : 0 < m) (hz : gfe m G = 0) (h1 : one m G = false) :
    Calls Try.prog 53 #[.slice D m c, .slice A k d, .int .i64 x] w (ErrGrid w 26) := by
  have HCK := Lib.hid (fun u (hb : Below w.heap.size w u) => checkg_any D m c G u hm hn (h.below hb))
  have HON := Lib.hid (fun u (hb : Below w.heap.size w u) => onesize_any D m c G u hm (h.below hb))
  have HIN := Lib.hid (fun u (hb : Below w.heap.size w u) => inds_any A k d f m u hk ((ha.below hb).more hb.size))
  have hR0 := Box.new w 0 0 (.slice none 0 0)
  have LB0 := Lib.hid (bel_alloc w (.cells #[.int .i64 0, .int .i64 0, .slice none 0 0] 24))
  have hrw : w.heap.size ≤ w.heap.size := Nat.le_refl _
  have y0 : ((m : Int) == 0) = false := by rw [beq_eq_false_iff_ne]; omega
  rw [hz] at HCK
  clear hz
  have y1 : ((0 : Int) != 0) = false := rfl
  rw [h1] at HON
  clear h1
  obtain ⟨rb, hrb⟩ : ∃ r, w.heap.size = r := ⟨_, rfl⟩
  rw [hrb] at hR0
  have R0 := Lib.hid hR0
  have HW := Lib.hid hrb
  clear hR0 h ha hn hrb
  go_enter Try.func53, Try.ntmps53
  go_upto_region 1 with (fail)
  rw [HW.out]
  generalize w.alloc (.cells #[.int .i64 0, .int .i64 0, .slice none 0 0] 24) = w0 at *
  go_wp2_with fail
  with_reducible refine Calls.mono (HCK.out _ LB0.out) ?_
  rintro e w1 ⟨rfl, hb⟩
  have LB1 := Lib.hid (LB0.out.trans (hb.mono LB0.out.size))
  have R0 := Lib.hid (R0.out.below hb R0.out.lt)
  clear hb LB0 
  go_wp2_with fail
  with_reducible refine Calls.mono (HON.out _ LB1.out) ?_
  rintro e w2 ⟨rfl, hb⟩
  have LB2 := Lib.hid (LB1.out.trans (hb.mono LB1.out.size))
  have R0 := Lib.hid (R0.out.below hb R0.out.lt)
  clear hb LB1 
  obtain ⟨q0, q1, q2, q3, q4, q5, q6⟩ := R0.out.all
  have hrr := HW.out
  go_wp2
  refine bodyPost_ret (v := .tuple #[.agg #[.int .i64 0, .int .i64 0, .slice none 0 0], .int .i64 26]) (by simp [results, Try.results53, go_sem, q0, q1, q2, q3, q4, q5]) rfl ?_
  exact fin_err (by omega) LB2.out
set_option maxHeartbeats 1600000 in
theorem join_c2 (D : Option Addr) (m c : Nat) (G : Nat → GV) (A : Option Addr) (k d : Nat) (f : Nat → Int) (x : Int) (w : World) (hm : m ≤ 5000) (hn : ∀ i, i < m → (G i).n ≤ 4200) (h : GLs w D m G) (hk : k ≤ 100000) (ha : L2.Holds w w.heap.size A k f) (h0 : 0 < m) (hz : gfe m G = 0) (h1 : one m G = true) (h2 : x < 1) :
    Calls Try.prog 53 #[.slice D m c, .slice A k d, .int .i64 x] w (ErrGrid w 26) := by
  have HCK := Lib.hid (fun u (hb : Below w.heap.size w u) => checkg_any D m c G u hm hn (h.below hb))
  have HON := Lib.hid (fun u (hb : Below w.heap.size w u) => onesize_any D m c G u hm (h.below hb))
  have HIN := Lib.hid (fun u (hb : Below w.heap.size w u) => inds_any A k d f m u hk ((ha.below hb).more hb.size))
  have hR0 := Box.new w 0 0 (.slice none 0 0)
  have LB0 := Lib.hid (bel_alloc w (.cells #[.int .i64 0, .int .i64 0, .slice none 0 0] 24))
  have hrw : w.heap.size ≤ w.heap.size := Nat.le_refl _
  have y0 : ((m : Int) == 0) = false := by rw [beq_eq_false_iff_ne]; omega
  rw [hz] at HCK
  clear hz
  have y1 : ((0 : Int) != 0) = false := rfl
  rw [h1] at HON
  clear h1
  have y2 : decide (x < 1) = true := decide_eq_true h2
  obtain ⟨rb, hrb⟩ : ∃ r, w.heap.size = r := ⟨_, rfl⟩
  rw [hrb] at hR0
  have R0 := Lib.hid hR0
  have HW := Lib.hid hrb
  clear hR0 h ha hn hrb
  go_enter Try.func53, Try.ntmps53
  go_upto_region 1 with (fail)
  rw [HW.out]
  generalize w.alloc (.cells #[.int .i64 0, .int .i64 0, .slice none 0 0] 24) = w0 at *
  go_wp2_with fail
  with_reducible refine Calls.mono (HCK.out _ LB0.out) ?_
  rintro e w1 ⟨rfl, hb⟩
  have LB1 := Lib.hid (LB0.out.trans (hb.mono LB0.out.size))
  have R0 := Lib.hid (R0.out.below hb R0.out.lt)
  clear hb LB0 
  go_wp2_with fail
  with_reducible refine Calls.mono (HON.out _ LB1.out) ?_
  rintro e w2 ⟨rfl, hb⟩
  have LB2 := Lib.hid (LB1.out.trans (hb.mono LB1.out.size))
  have R0 := Lib.hid (R0.out.below hb R0.out.lt)
  clear hb LB1 
  obtain ⟨q0, q1, q2, q3, q4, q5, q6⟩ := R0.out.all
  have hrr := HW.out
  go_wp2
  refine bodyPost_ret (v := .tuple #[.agg #[.int .i64 0, .int .i64 0, .slice none 0 0], .int .i64 26]) (by simp [results, Try.results53, go_sem, q0, q1, q2, q3, q4, q5]) rfl ?_
  exact fin_err (by omega) LB2.out
set_option maxHeartbeats 1600000 in
theorem join_c3 (D : Option Addr) (m c : Nat) (G : Nat → GV) (A : Option Addr) (k d : Nat) (f : Nat → Int) (x : Int) (w : World) (hm : m ≤ 5000) (hn : ∀ i, i < m → (G i).n ≤ 4200) (h : GLs w D m G) (hk : k ≤ 100000) (ha : L2.Holds w w.heap.size A k f) (h0 : 0 < m) (hz : gfe m G = 0) (h1 : one m G = true) (h2 : ¬ x < 1) (h3 : k = 0) :
    Calls Try.prog 53 #[.slice D m c, .slice A k d, .int .i64 x] w (ErrGrid w 26) := by
  have HCK := Lib.hid (fun u (hb : Below w.heap.size w u) => checkg_any D m c G u hm hn (h.below hb))
  have HON := Lib.hid (fun u (hb : Below w.heap.size w u) => onesize_any D m c G u hm (h.below hb))
  have HIN := Lib.hid (fun u (hb : Below w.heap.size w u) => inds_any A k d f m u hk ((ha.below hb).more hb.size))
  have hR0 := Box.new w 0 0 (.slice none 0 0)
  have LB0 := Lib.hid (bel_alloc w (.cells #[.int .i64 0, .int .i64 0, .slice none 0 0] 24))
  have hrw : w.heap.size ≤ w.heap.size := Nat.le_refl _
  have y0 : ((m : Int) == 0) = false := by rw [beq_eq_false_iff_ne]; omega
  rw [hz] at HCK
  clear hz
  have y1 : ((0 : Int) != 0) = false := rfl
  rw [h1] at HON
  clear h1
  have y2 : decide (x < 1) = false := decide_eq_false h2
  have y3 : ((k : Int) == 0) = true := by rw [h3]; rfl
  clear h3
  obtain ⟨rb, hrb⟩ : ∃ r, w.heap.size = r := ⟨_, rfl⟩
  rw [hrb] at hR0
  have R0 := Lib.hid hR0
  have HW := Lib.hid hrb
  clear hR0 h ha hn hrb
  go_enter Try.func53, Try.ntmps53
  go_upto_region 1 with (fail)
  rw [HW.out]
  generalize w.alloc (.cells #[.int .i64 0, .int .i64 0, .slice none 0 0] 24) = w0 at *
  go_wp2_with fail
  with_reducible refine Calls.mono (HCK.out _ LB0.out) ?_
  rintro e w1 ⟨rfl, hb⟩
  have LB1 := Lib.hid (LB0.out.trans (hb.mono LB0.out.size))
  have R0 := Lib.hid (R0.out.below hb R0.out.lt)
  clear hb LB0 
  go_wp2_with fail
  with_reducible refine Calls.mono (HON.out _ LB1.out) ?_
  rintro e w2 ⟨rfl, hb⟩
  have LB2 := Lib.hid (LB1.out.trans (hb.mono LB1.out.size))
  have R0 := Lib.hid (R0.out.below hb R0.out.lt)
  clear hb LB1 
  obtain ⟨q0, q1, q2, q3, q4, q5, q6⟩ := R0.out.all
  have hrr := HW.out
  go_wp2
  refine bodyPost_ret (v := .tuple #[.agg #[.int .i64 0, .int .i64 0, .slice none 0 0], .int .i64 26]) (by simp [results, Try.results53, go_sem, q0, q1, q2, q3, q4, q5]) rfl ?_
  exact fin_err (by omega) LB2.out
set_option maxHeartbeats 1600000 in
theorem join_c4 (D : Option Addr) (m c : Nat) (G : Nat → GV) (A : Option Addr) (k d : Nat) (f : Nat → Int) (x : Int) (w : World) (hm : m ≤ 5000) (hn : ∀ i, i < m → (G i).n ≤ 4200) (h : GLs w D m G) (hk : k ≤ 100000) (ha : L2.Holds w w.heap.size A k f) (h0 : 0 < m) (hz : gfe m G = 0) (h1 : one m G = true) (h2 : ¬ x < 1) (h3 : 0 < k) (h4 : (k : Int) % x ≠ 0) :
    Calls Try.prog 53 #[.slice D m c, .slice A k d, .int .i64 x] w (ErrGrid w 26) := by
  have HCK := Lib.hid (fun u (hb : Below w.heap.size w u) => checkg_any D m c G u hm hn (h.below hb))
  have HON := Lib.hid (fun u (hb : Below w.heap.size w u) => onesize_any D m c G u hm (h.below hb))
  have HIN := Lib.hid (fun u (hb : Below w.heap.size w u) => inds_any A k d f m u hk ((ha.below hb).more hb.size))
  have hR0 := Box.new w 0 0 (.slice none 0 0)
  have LB0 := Lib.hid (bel_alloc w (.cells #[.int .i64 0, .int .i64 0, .slice none 0 0] 24))
  have hrw : w.heap.size ≤ w.heap.size := Nat.le_refl _
  have y0 : ((m : Int) == 0) = false := by rw [beq_eq_false_iff_ne]; omega
  rw [hz] at HCK
  clear hz
  have y1 : ((0 : Int) != 0) = false := rfl
  rw [h1] at HON
  clear h1
  have y2 : decide (x < 1) = false := decide_eq_false h2
  have y3 : ((k : Int) == 0) = false := by rw [beq_eq_false_iff_ne]; omega
  have y4 : (x == 0) = false := by rw [beq_eq_false_iff_ne]; omega
  have y5 : (k : Int).tmod x = (k : Int) % x := Int.tmod_eq_emod_of_nonneg (by omega)
  have y6 : (((k : Int) % x) != 0) = true := by rw [bne_iff_ne]; exact h4
  have y7 : ¬ x = 0 := by omega
  have y8 : 0 ≤ (k : Int) % x := Int.emod_nonneg _ y7
  have y9 : (k : Int) % x < 100001 := by 
    have a1 := Int.mul_ediv_add_emod (k : Int) x
    have a2 : 0 ≤ (k : Int) / x := Int.ediv_nonneg (by omega) (by omega)
    have a3 : 0 ≤ x * ((k : Int) / x) := Int.mul_nonneg (by omega) a2
    omega
  obtain ⟨rb, hrb⟩ : ∃ r, w.heap.size = r := ⟨_, rfl⟩
  rw [hrb] at hR0
  have R0 := Lib.hid hR0
  have HW := Lib.hid hrb
  clear hR0 h ha hn hrb
  go_enter Try.func53, Try.ntmps53
  go_upto_region 1 with (fail)
  rw [HW.out]
  generalize w.alloc (.cells #[.int .i64 0, .int .i64 0, .slice none 0 0] 24) = w0 at *
  go_wp2_with fail
  with_reducible refine Calls.mono (HCK.out _ LB0.out) ?_
  rintro e w1 ⟨rfl, hb⟩
  have LB1 := Lib.hid (LB0.out.trans (hb.mono LB0.out.size))
  have R0 := Lib.hid (R0.out.below hb R0.out.lt)
  clear hb LB0 
  go_wp2_with fail
  with_reducible refine Calls.mono (HON.out _ LB1.out) ?_
  rintro e w2 ⟨rfl, hb⟩
  have LB2 := Lib.hid (LB1.out.trans (hb.mono LB1.out.size))
  have R0 := Lib.hid (R0.out.below hb R0.out.lt)
  clear hb LB1 
  obtain ⟨q0, q1, q2, q3, q4, q5, q6⟩ := R0.out.all
  have hrr := HW.out
  go_wp2
  refine bodyPost_ret (v := .tuple #[.agg #[.int .i64 0, .int .i64 0, .slice none 0 0], .int .i64 26]) (by simp [results, Try.results53, go_sem, q0, q1, q2, q3, q4, q5]) rfl ?_
  exact fin_err (by omega) LB2.out
set_option maxHeartbeats 1600000 in
theorem join_c5 (D : Option Addr) (m c : Nat) (G : Nat → GV) (A : Option Addr) (k d : Nat) (f : Nat → Int) (x : Int) (w : World) (hm : m ≤ 5000) (hn : ∀ i, i < m → (G i).n ≤ 4200) (h : GLs w D m G) (hk : k ≤ 100000) (ha : L2.Holds w w.heap.size A k f) (h0 : 0 < m) (hz : gfe m G = 0) (h1 : one m G = true) (wn r : Nat) (hx : x = wn) (hw : 1 ≤ wn) (hr : 1 ≤ r) (hkr : k = r * wn) (h5 : inds k f m = false) :
    Calls Try.prog 53 #[.slice D m c, .slice A k d, .int .i64 x] w (ErrGrid w 8) := by
  have HCK := Lib.hid (fun u (hb : Below w.heap.size w u) => checkg_any D m c G u hm hn (h.below hb))
  have HON := Lib.hid (fun u (hb : Below w.heap.size w u) => onesize_any D m c G u hm (h.below hb))
  have HIN := Lib.hid (fun u (hb : Below w.heap.size w u) => inds_any A k d f m u hk ((ha.below hb).more hb.size))
  have hR0 := Box.new w 0 0 (.slice none 0 0)
  have LB0 := Lib.hid (bel_alloc w (.cells #[.int .i64 0, .int .i64 0, .slice none 0 0] 24))
  have hrw : w.heap.size ≤ w.heap.size := Nat.le_refl _
  have y0 : ((m : Int) == 0) = false := by rw [beq_eq_false_iff_ne]; omega
  rw [hz] at HCK
  clear hz
  have y1 : ((0 : Int) != 0) = false := rfl
  rw [h1] at HON
  clear h1
  subst hx
  have hkr1 : r ≤ k := by rw [hkr]; exact Nat.le_mul_of_pos_right _ (by omega)
  have hkm : (k : Int) % (wn : Int) = 0 := by rw [hkr, Int.natCast_mul]; exact Int.mul_emod_left _ _
  have hkq : (k : Int) / (wn : Int) = (r : Int) := by rw [hkr, Int.natCast_mul]; exact Int.mul_ediv_cancel _ (by omega)
  have y2 : decide ((wn : Int) < 1) = false := decide_eq_false (by omega)
  have y3 : ((k : Int) == 0) = false := by rw [beq_eq_false_iff_ne]; omega
  have y4 : ((wn : Int) == 0) = false := by rw [beq_eq_false_iff_ne]; omega
  have y5 : (k : Int).tmod (wn : Int) = (k : Int) % (wn : Int) := Int.tmod_eq_emod_of_nonneg (by omega)
  have y6 : (((k : Int) % (wn : Int)) != 0) = false := by rw [hkm]; rfl
  have y7 : ¬ wn = 0 := by omega
  have y8 : 0 ≤ (k : Int) % (wn : Int) := by omega
  have y9 : (k : Int) % (wn : Int) < 100001 := by omega
  have y10 : (k : Int).tdiv (wn : Int) = (r : Int) := by rw [Int.tdiv_eq_ediv_of_nonneg (by omega), hkq]
  clear hkr
  rw [h5] at HIN
  clear h5
  obtain ⟨rb, hrb⟩ : ∃ r, w.heap.size = r := ⟨_, rfl⟩
  rw [hrb] at hR0
  have R0 := Lib.hid hR0
  have HW := Lib.hid hrb
  clear hR0 h ha hn hrb
  go_enter Try.func53, Try.ntmps53
  go_upto_region 1 with (fail)
  rw [HW.out]
  generalize w.alloc (.cells #[.int .i64 0, .int .i64 0, .slice none 0 0] 24) = w0 at *
  go_wp2_with fail
  with_reducible refine Calls.mono (HCK.out _ LB0.out) ?_
  rintro e w1 ⟨rfl, hb⟩
  have LB1 := Lib.hid (LB0.out.trans (hb.mono LB0.out.size))
  have R0 := Lib.hid (R0.out.below hb R0.out.lt)
  clear hb LB0 
  go_wp2_with fail
  with_reducible refine Calls.mono (HON.out _ LB1.out) ?_
  rintro e w2 ⟨rfl, hb⟩
  have LB2 := Lib.hid (LB1.out.trans (hb.mono LB1.out.size))
  have R0 := Lib.hid (R0.out.below hb R0.out.lt)
  clear hb LB1 
  go_wp2_with fail
  with_reducible refine Calls.mono (HIN.out _ LB2.out) ?_
  rintro e wz ⟨rfl, hwz⟩
  subst wz
  obtain ⟨q0, q1, q2, q3, q4, q5, q6⟩ := R0.out.all
  have hrr := HW.out
  go_wp2
  refine bodyPost_ret (v := .tuple #[.agg #[.int .i64 0, .int .i64 0, .slice none 0 0], .int .i64 8]) (by simp [results, Try.results53, go_sem, q0, q1, q2, q3, q4, q5]) rfl ?_
  exact fin_err (by omega) LB2.out
set_option maxHeartbeats 1600000 in
theorem join_many1 (D : Option Addr) (m c : Nat) (G : Nat → GV) (A : Option Addr) (k d : Nat) (f : Nat → Int) (x : Int) (w : World) (hm : m ≤ 5000) (hn : ∀ i, i < m → (G i).n ≤ 4200) (h : GLs w D m G) (hk : k ≤ 100000) (ha : L2.Holds w w.heap.size A k f) (h0 : 0 < m) (hz : gfe m G = 0) (h1 : one m G = true) (wn r : Nat) (hx : x = wn) (hw : 1 ≤ wn) (hr : 1 ≤ r) (hkr : k = r * wn) (h5 : inds k f m = true) (u v : Nat) (hu : (G 0).W = u) (hv : (G 0).H = v) (u0 : 1 ≤ u) (u1 : u ≤ 64) (v0 : 1 ≤ v) (v1 : v ≤ 64) (h6 : 64 < wn * u) :
    Calls Try.prog 53 #[.slice D m c, .slice A k d, .int .i64 x] w (ErrGrid w 4) := by
  have HCK := Lib.hid (fun u (hb : Below w.heap.size w u) => checkg_any D m c G u hm hn (h.below hb))
  have HON := Lib.hid (fun u (hb : Below w.heap.size w u) => onesize_any D m c G u hm (h.below hb))
  have HIN := Lib.hid (fun u (hb : Below w.heap.size w u) => inds_any A k d f m u hk ((ha.below hb).more hb.size))
  have hR0 := Box.new w 0 0 (.slice none 0 0)
  have LB0 := Lib.hid (bel_alloc w (.cells #[.int .i64 0, .int .i64 0, .slice none 0 0] 24))
  have hrw : w.heap.size ≤ w.heap.size := Nat.le_refl _
  have y0 : ((m : Int) == 0) = false := by rw [beq_eq_false_iff_ne]; omega
  rw [hz] at HCK
  clear hz
  have y1 : ((0 : Int) != 0) = false := rfl
  rw [h1] at HON
  clear h1
  subst hx
  have hkr1 : r ≤ k := by rw [hkr]; exact Nat.le_mul_of_pos_right _ (by omega)
  have hkm : (k : Int) % (wn : Int) = 0 := by rw [hkr, Int.natCast_mul]; exact Int.mul_emod_left _ _
  have hkq : (k : Int) / (wn : Int) = (r : Int) := by rw [hkr, Int.natCast_mul]; exact Int.mul_ediv_cancel _ (by omega)
  have y2 : decide ((wn : Int) < 1) = false := decide_eq_false (by omega)
  have y3 : ((k : Int) == 0) = false := by rw [beq_eq_false_iff_ne]; omega
  have y4 : ((wn : Int) == 0) = false := by rw [beq_eq_false_iff_ne]; omega
  have y5 : (k : Int).tmod (wn : Int) = (k : Int) % (wn : Int) := Int.tmod_eq_emod_of_nonneg (by omega)
  have y6 : (((k : Int) % (wn : Int)) != 0) = false := by rw [hkm]; rfl
  have y7 : ¬ wn = 0 := by omega
  have y8 : 0 ≤ (k : Int) % (wn : Int) := by omega
  have y9 : (k : Int) % (wn : Int) < 100001 := by omega
  have y10 : (k : Int).tdiv (wn : Int) = (r : Int) := by rw [Int.tdiv_eq_ediv_of_nonneg (by omega), hkq]
  clear hkr
  rw [h5] at HIN
  clear h5
  have HG := Lib.hid (fun u (hb : Below w.heap.size w u) => (show GLs u D m G from h.below hb))
  obtain ⟨d1, d2, d3⟩ := quo_bd u u0
  obtain ⟨e1, e2, e3⟩ := quo_bd v v0
  have y11 : ((u : Int) == 0) = false := by rw [beq_eq_false_iff_ne]; omega
  have y12 : ((v : Int) == 0) = false := by rw [beq_eq_false_iff_ne]; omega
  have y13 : ¬ u = 0 := by omega
  have y14 : ¬ v = 0 := by omega
  have y15 : (0 : Int) < (m : Int) := by omega
  have z1 : (64 : Int) / (u : Int) < (wn : Int) := Int.not_le.1 fun q => absurd ((quo_le (n := wn) u0).1 (by omega)) (by omega)
  obtain ⟨rb, hrb⟩ : ∃ r, w.heap.size = r := ⟨_, rfl⟩
  rw [hrb] at hR0
  have R0 := Lib.hid hR0
  have HW := Lib.hid hrb
  clear hR0 h ha hn hrb
  go_enter Try.func53, Try.ntmps53
  go_upto_region 1 with (fail)
  rw [HW.out]
  generalize w.alloc (.cells #[.int .i64 0, .int .i64 0, .slice none 0 0] 24) = w0 at *
  go_wp2_with fail
  with_reducible refine Calls.mono (HCK.out _ LB0.out) ?_
  rintro e w1 ⟨rfl, hb⟩
  have LB1 := Lib.hid (LB0.out.trans (hb.mono LB0.out.size))
  have R0 := Lib.hid (R0.out.below hb R0.out.lt)
  clear hb LB0 
  go_wp2_with fail
  with_reducible refine Calls.mono (HON.out _ LB1.out) ?_
  rintro e w2 ⟨rfl, hb⟩
  have LB2 := Lib.hid (LB1.out.trans (hb.mono LB1.out.size))
  have R0 := Lib.hid (R0.out.below hb R0.out.lt)
  clear hb LB1 
  go_wp2_with fail
  with_reducible refine Calls.mono (HIN.out _ LB2.out) ?_
  rintro e wz ⟨rfl, hwz⟩
  subst wz
  obtain ⟨b, o, eD, hl, hc⟩ := (HG.out _ LB2.out) h0
  obtain ⟨a0, a1, a2, _⟩ := hc 0 h0
  rw [Nat.zero_mul, Nat.add_zero] at a0 a1 a2
  rw [hu] at a0
  rw [hv] at a1
  subst eD
  clear hc
  generalize (G 0).A = A0 at *
  generalize (G 0).n = n0 at *
  generalize (G 0).c = c0 at *
  have U0 := Lib.hid (Box.new w2 (u : Nat) (v : Nat) (.slice A0 n0 c0))
  have hb := bel_alloc w2 (.cells #[.int .i64 (u : Nat), .int .i64 (v : Nat), .slice A0 n0 c0] 24)
  have LB3 := Lib.hid (LB2.out.trans (hb.mono LB2.out.size))
  have R0 := Lib.hid (R0.out.below hb R0.out.lt)
  clear hb LB2
  go_upto_region 11 with (fail)
  clear a0 a1 a2
  generalize w2.alloc (.cells #[.int .i64 (u : Nat), .int .i64 (v : Nat), .slice A0 n0 c0] 24) = w3 at *
  generalize w2.heap.size = ub at *
  obtain ⟨s0, s1, s2, s3, s4, s5, s6⟩ := U0.out.all
  go_quiet (fail)
  have LB4 := Lib.hid (bel_dn LB3.out nq)
  have R0 := Lib.hid (show Box (w3.drewN nq) rb 0 0 (.slice none 0 0) from R0.out)
  generalize w3.drewN nq = w4 at *
  obtain ⟨q0, q1, q2, q3, q4, q5, q6⟩ := R0.out.all
  have hrr := HW.out
  go_wp2
  refine bodyPost_ret (v := .tuple #[.agg #[.int .i64 0, .int .i64 0, .slice none 0 0], .int .i64 4]) (by simp [results, Try.results53, go_sem, q0, q1, q2, q3, q4, q5]) rfl ?_
  exact fin_err (by omega) LB4.out
set_option maxHeartbeats 1600000 in
theorem join_many2 (D : Option Addr) (m c : Nat) (G : Nat → GV) (A : Option Addr) (k d : Nat) (f : Nat → Int) (x : Int) (w : World) (hm : m ≤ 5000) (hn : ∀ i, i < m → (G i).n ≤ 4200) (h : GLs w D m G) (hk : k ≤ 100000) (ha : L2.Holds w w.heap.size A k f) (h0 : 0 < m) (hz : gfe m G = 0) (h1 : one m G = true) (wn r : Nat) (hx : x = wn) (hw : 1 ≤ wn) (hr : 1 ≤ r) (hkr : k = r * wn) (h5 : inds k f m = true) (u v : Nat) (hu : (G 0).W = u) (hv : (G 0).H = v) (u0 : 1 ≤ u) (u1 : u ≤ 64) (v0 : 1 ≤ v) (v1 : v ≤ 64) (h6 : wn * u ≤ 64) (h7 : 64 < r * v) :
    Calls Try.prog 53 #[.slice D m c, .slice A k d, .int .i64 x] w (ErrGrid w 4) := by
  have HCK := Lib.hid (fun u (hb : Below w.heap.size w u) => checkg_any D m c G u hm hn (h.below hb))
  have HON := Lib.hid (fun u (hb : Below w.heap.size w u) => onesize_any D m c G u hm (h.below hb))
  have HIN := Lib.hid (fun u (hb : Below w.heap.size w u) => inds_any A k d f m u hk ((ha.below hb).more hb.size))
  have hR0 := Box.new w 0 0 (.slice none 0 0)
  have LB0 := Lib.hid (bel_alloc w (.cells #[.int .i64 0, .int .i64 0, .slice none 0 0] 24))
  have hrw : w.heap.size ≤ w.heap.size := Nat.le_refl _
  have y0 : ((m : Int) == 0) = false := by rw [beq_eq_false_iff_ne]; omega
  rw [hz] at HCK
  clear hz
  have y1 : ((0 : Int) != 0) = false := rfl
  rw [h1] at HON
  clear h1
  subst hx
  have hkr1 : r ≤ k := by rw [hkr]; exact Nat.le_mul_of_pos_right _ (by omega)
  have hkm : (k : Int) % (wn : Int) = 0 := by rw [hkr, Int.natCast_mul]; exact Int.mul_emod_left _ _
  have hkq : (k : Int) / (wn : Int) = (r : Int) := by rw [hkr, Int.natCast_mul]; exact Int.mul_ediv_cancel _ (by omega)
  have y2 : decide ((wn : Int) < 1) = false := decide_eq_false (by omega)
  have y3 : ((k : Int) == 0) = false := by rw [beq_eq_false_iff_ne]; omega
  have y4 : ((wn : Int) == 0) = false := by rw [beq_eq_false_iff_ne]; omega
  have y5 : (k : Int).tmod (wn : Int) = (k : Int) % (wn : Int) := Int.tmod_eq_emod_of_nonneg (by omega)
  have y6 : (((k : Int) % (wn : Int)) != 0) = false := by rw [hkm]; rfl
  have y7 : ¬ wn = 0 := by omega
  have y8 : 0 ≤ (k : Int) % (wn : Int) := by omega
  have y9 : (k : Int) % (wn : Int) < 100001 := by omega
  have y10 : (k : Int).tdiv (wn : Int) = (r : Int) := by rw [Int.tdiv_eq_ediv_of_nonneg (by omega), hkq]
  clear hkr
  rw [h5] at HIN
  clear h5
  have HG := Lib.hid (fun u (hb : Below w.heap.size w u) => (show GLs u D m G from h.below hb))
  obtain ⟨d1, d2, d3⟩ := quo_bd u u0
  obtain ⟨e1, e2, e3⟩ := quo_bd v v0
  have y11 : ((u : Int) == 0) = false := by rw [beq_eq_false_iff_ne]; omega
  have y12 : ((v : Int) == 0) = false := by rw [beq_eq_false_iff_ne]; omega
  have y13 : ¬ u = 0 := by omega
  have y14 : ¬ v = 0 := by omega
  have y15 : (0 : Int) < (m : Int) := by omega
  have z1 : decide ((64 : Int) / (u : Int) < (wn : Int)) = false := decide_eq_false ((quo_le u0).2 h6)
  have z2 : (64 : Int) / (v : Int) < (r : Int) := Int.not_le.1 fun q => absurd ((quo_le (n := r) v0).1 (by omega)) (by omega)
  obtain ⟨rb, hrb⟩ : ∃ r, w.heap.size = r := ⟨_, rfl⟩
  rw [hrb] at hR0
  have R0 := Lib.hid hR0
  have HW := Lib.hid hrb
  clear hR0 h ha hn hrb
  go_enter Try.func53, Try.ntmps53
  go_upto_region 1 with (fail)
  rw [HW.out]
  generalize w.alloc (.cells #[.int .i64 0, .int .i64 0, .slice none 0 0] 24) = w0 at *
  go_wp2_with fail
  with_reducible refine Calls.mono (HCK.out _ LB0.out) ?_
  rintro e w1 ⟨rfl, hb⟩
  have LB1 := Lib.hid (LB0.out.trans (hb.mono LB0.out.size))
  have R0 := Lib.hid (R0.out.below hb R0.out.lt)
  clear hb LB0 
  go_wp2_with fail
  with_reducible refine Calls.mono (HON.out _ LB1.out) ?_
  rintro e w2 ⟨rfl, hb⟩
  have LB2 := Lib.hid (LB1.out.trans (hb.mono LB1.out.size))
  have R0 := Lib.hid (R0.out.below hb R0.out.lt)
  clear hb LB1 
  go_wp2_with fail
  with_reducible refine Calls.mono (HIN.out _ LB2.out) ?_
  rintro e wz ⟨rfl, hwz⟩
  subst wz
  obtain ⟨b, o, eD, hl, hc⟩ := (HG.out _ LB2.out) h0
  obtain ⟨a0, a1, a2, _⟩ := hc 0 h0
  rw [Nat.zero_mul, Nat.add_zero] at a0 a1 a2
  rw [hu] at a0
  rw [hv] at a1
  subst eD
  clear hc
  generalize (G 0).A = A0 at *
  generalize (G 0).n = n0 at *
  generalize (G 0).c = c0 at *
  have U0 := Lib.hid (Box.new w2 (u : Nat) (v : Nat) (.slice A0 n0 c0))
  have hb := bel_alloc w2 (.cells #[.int .i64 (u : Nat), .int .i64 (v : Nat), .slice A0 n0 c0] 24)
  have LB3 := Lib.hid (LB2.out.trans (hb.mono LB2.out.size))
  have R0 := Lib.hid (R0.out.below hb R0.out.lt)
  clear hb LB2
  go_upto_region 11 with (fail)
  clear a0 a1 a2
  generalize w2.alloc (.cells #[.int .i64 (u : Nat), .int .i64 (v : Nat), .slice A0 n0 c0] 24) = w3 at *
  generalize w2.heap.size = ub at *
  obtain ⟨s0, s1, s2, s3, s4, s5, s6⟩ := U0.out.all
  go_quiet (fail)
  have LB4 := Lib.hid (bel_dn LB3.out nq)
  have R0 := Lib.hid (show Box (w3.drewN nq) rb 0 0 (.slice none 0 0) from R0.out)
  generalize w3.drewN nq = w4 at *
  obtain ⟨q0, q1, q2, q3, q4, q5, q6⟩ := R0.out.all
  have hrr := HW.out
  go_wp2
  refine bodyPost_ret (v := .tuple #[.agg #[.int .i64 0, .int .i64 0, .slice none 0 0], .int .i64 4]) (by simp [results, Try.results53, go_sem, q0, q1, q2, q3, q4, q5]) rfl ?_
  exact fin_err (by omega) LB4.out
end Go.Proofs.Ytngjcekjboedjaa
