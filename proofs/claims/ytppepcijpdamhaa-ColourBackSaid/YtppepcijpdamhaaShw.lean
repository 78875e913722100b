/- ColourShows: the walk. -/
import Derived.Test.YtppepcijpdamhaaCbk
import Derived.Test.YtppepcijpdamhaaReq
import Derived.Test.YtppepcijpdamhaaRbk
import Derived.Test.YtppepcijpdamhaaCsm
namespace Go.Proofs.Ytppepcijpdamhaa
open Go.RowKit
set_option maxRecDepth 100000
set_option linter.unusedVariables false
set_option linter.unusedSimpArgs false

theorem rsame_b {W H : Int} {A B : Option Addr} {n c d : Nat} {f g : Nat → Bool} (hn : n ≤ 5000) (e : ∀ i, i < n → f i = g i) (w : World) (hr : Holds w w.heap.size A n f) (hs : Holds w w.heap.size B n g) :
    Calls Try.prog 20 #[.agg #[.int .i64 W, .int .i64 H, .slice A n c], .agg #[.int .i64 W, .int .i64 H, .slice B n d]] w fun e w' => e = .returned (.bool true) ∧ Below w.heap.size w w' := by
  have h := rsame_loop W H W H A B n c d f g w hn rfl rfl hr hs
  rw [decide_eq_true e] at h
  exact h
theorem risame_b {W H : Int} {A B : Option Addr} {n c d : Nat} {f g : Nat → Int} (hn : n ≤ 5000) (e : ∀ i, i < n → f i = g i) (w : World) (hr : L2.Holds w w.heap.size A n f) (hs : L2.Holds w w.heap.size B n g) :
    Calls Try.prog 19 #[.agg #[.int .i64 W, .int .i64 H, .slice A n c], .agg #[.int .i64 W, .int .i64 H, .slice B n d]] w fun e w' => e = .returned (.bool true) ∧ Below w.heap.size w w' := by
  have h := risame_any W H W H A B n n c d f g w hn hr hs
  rw [sameB_yes e] at h
  exact h
section
variable {W H : Int} {A B C : Option Addr} {n c m d k e : Nat} {f : Nat → Bool} {a b : Nat → Int} {w : World}
theorem front_pair (hn : n ≤ 4200) (hm1 : m ≤ 5000) (hk1 : k ≤ 5000) (hf : Holds w w.heap.size A n f) (ha : L2.Holds w w.heap.size B m a) (hb1 : L2.Holds w w.heap.size C k b) : ∃ (P Q : Int) (N : Nat) (F : Nat → Int) (z : Int), N ≤ 5000 ∧
    (∀ u A1 c1, Below w.heap.size w u → Holds u u.heap.size A1 n f → Calls Try.prog 13 #[.agg #[.int .i64 W, .int .i64 H, .slice A1 n c1], .slice B m d, .slice C k e] u (RI u P Q N F z)) ∧ ∀ u, Below w.heap.size w u → Calls Try.prog 14 #[.agg #[.int .i64 W, .int .i64 H, .slice A n c], .slice B m d, .slice C k e] u (RI u P Q N F z) := by
  by_cases hz : thE W H n m k a b = 0
  · obtain ⟨P, Q, rfl, rfl, rfl, rfl, rfl, p0, p1, q0, q1, hx, hy⟩ := thE_zero hz
    have := Nat.mul_le_mul p1 q1
    exact ⟨_, _, _, shF m f a b, 0, by omega, fun u A1 c1 hu h1 => front_ok m k A1 B C c1 d e f a b u h1 ((ha.below hu).more hu.size) ((hb1.below hu).more hu.size) p0 p1 q0 q1 hx hy,
      fun u hu => rfront_ok m k A B C c d e f a b u ((hf.below hu).more hu.size) ((ha.below hu).more hu.size) ((hb1.below hu).more hu.size) p0 p1 q0 q1 hx hy⟩
  · exact ⟨0, 0, 0, (fun _ => 0), thE W H n m k a b, Nat.zero_le _, fun u A1 c1 hu h1 => front_err W H A1 B C n c1 m d k e a b u _ hn hm1 hk1 ((ha.below hu).more hu.size) ((hb1.below hu).more hu.size) rfl hz,
      fun u hu => rfront_err W H A B C n c m d k e a b u _ hn hm1 hk1 ((ha.below hu).more hu.size) ((hb1.below hu).more hu.size) rfl hz⟩
theorem back_pair (hn : n ≤ 4200) (hm1 : m ≤ 5000) (hk1 : k ≤ 5000) (hf : Holds w w.heap.size A n f) (ha : L2.Holds w w.heap.size B m a) (hb1 : L2.Holds w w.heap.size C k b) : ∃ (P Q : Int) (N : Nat) (F : Nat → Int) (z : Int), N ≤ 5000 ∧
    (∀ u A1 c1, Below w.heap.size w u → Holds u u.heap.size A1 n f → Calls Try.prog 15 #[.agg #[.int .i64 W, .int .i64 H, .slice A1 n c1], .slice B m d, .slice C k e] u (RI u P Q N F z)) ∧ ∀ u, Below w.heap.size w u → Calls Try.prog 16 #[.agg #[.int .i64 W, .int .i64 H, .slice A n c], .slice B m d, .slice C k e] u (RI u P Q N F z) := by
  by_cases hz : thE W H n m k a b = 0
  · obtain ⟨P, Q, rfl, rfl, rfl, rfl, rfl, p0, p1, q0, q1, hx, hy⟩ := thE_zero hz
    have := Nat.mul_le_mul p1 q1
    exact ⟨_, _, _, bkF m f a b, 0, by omega, fun u A1 c1 hu h1 => back_ok m k A1 B C c1 d e f a b u h1 ((ha.below hu).more hu.size) ((hb1.below hu).more hu.size) p0 p1 q0 q1 hx hy,
      fun u hu => rback_ok m k A B C c d e f a b u ((hf.below hu).more hu.size) ((ha.below hu).more hu.size) ((hb1.below hu).more hu.size) p0 p1 q0 q1 hx hy⟩
  · exact ⟨0, 0, 0, (fun _ => 0), thE W H n m k a b, Nat.zero_le _, fun u A1 c1 hu h1 => back_err W H A1 B C n c1 m d k e a b u f _ hn hm1 hk1 h1 ((ha.below hu).more hu.size) ((hb1.below hu).more hu.size) rfl hz,
      fun u hu => rback_err W H A B C n c m d k e a b u _ hn hm1 hk1 ((ha.below hu).more hu.size) ((hb1.below hu).more hu.size) rfl hz⟩
theorem equal_pair (hm1 : m ≤ 5000) (hk1 : k ≤ 5000) (ha : L2.Holds w w.heap.size B m a) (hb1 : L2.Holds w w.heap.size C k b) : ∃ (P Q : Int) (N : Nat) (F : Nat → Bool) (z : Int), N ≤ 5000 ∧
    (∀ u, Below w.heap.size w u → Calls Try.prog 17 #[.slice B m d, .slice C k e] u (RG u P Q N F z)) ∧ ∀ u, Below w.heap.size w u → Calls Try.prog 18 #[.slice B m d, .slice C k e] u (RG u P Q N F z) := by
  by_cases hz : eqE m k a b = 0
  · obtain ⟨p0, p1, q0, q1, hx, hy⟩ := eqE_zero hz
    have := Nat.mul_le_mul p1 q1
    exact ⟨_, _, _, eqF m a b, 0, by omega, fun u hu => equal_ok B C m d k e a b u p0 p1 q0 q1 ((ha.below hu).more hu.size) ((hb1.below hu).more hu.size) hx hy,
      fun u hu => requal_ok B C m d k e a b u p0 p1 q0 q1 ((ha.below hu).more hu.size) ((hb1.below hu).more hu.size) hx hy⟩
  · exact ⟨0, 0, 0, (fun _ => false), eqE m k a b, Nat.zero_le _, fun u hu => equal_err B C m d k e a b u _ hm1 hk1 ((ha.below hu).more hu.size) ((hb1.below hu).more hu.size) rfl hz,
      fun u hu => requal_err B C m d k e a b u _ hm1 hk1 ((ha.below hu).more hu.size) ((hb1.below hu).more hu.size) rfl hz⟩
end
theorem shows_g0 (W H : Int) (A B C : Option Addr) (n c m d k e : Nat) (w : World) (h0 : 4200 < n) : Calls Try.prog 3 #[.agg #[.int .i64 W, .int .i64 H, .slice A n c], .slice B m d, .slice C k e] w fun e w' => e = .returned (.bool true) ∧ Below w.heap.size w w' := by
  have HG0 := Lib.hid (fun u => ggreat_any W H A n c u)
  rw [decide_eq_true h0] at HG0
  clear h0
  have LB0 := Lib.hid (Below.refl w.heap.size w)
  have X1 := Box.new w W H (.slice A n c)
  have X1 := Lib.hid X1
  have LB0 := Lib.hid (LB0.out.alloc LB0.out.size (.cells #[.int .i64 W, .int .i64 H, .slice A n c] 24))
  go_enter Try.func3, Try.ntmps3
  go_upto_region 1 with (fail)
  generalize w.alloc (.cells #[.int .i64 W, .int .i64 H, .slice A n c] 24) = w0 at *
  obtain ⟨q0, q1, q2, q3, q4, q5, q6⟩ := X1.out.all
  go_wp2_with fail
  clear q0 q1 q2 q3 q4 q5 q6
  with_reducible refine Calls.mono (HG0.out _) ?_
  rintro e w1 ⟨rfl, hb⟩
  have LB1 := Lib.hid (LB0.out.trans (hb.mono LB0.out.size))
  have X1 := Lib.hid (X1.out.below hb X1.out.lt)
  clear hb LB0 
  go_wp2
  go_ret
  exact ⟨rfl, LB1.out⟩
theorem shows_g1 (W H : Int) (A B C : Option Addr) (n c m d k e : Nat) (w : World) (h0 : ¬ 4200 < n) (h1 : 100 < m) : Calls Try.prog 3 #[.agg #[.int .i64 W, .int .i64 H, .slice A n c], .slice B m d, .slice C k e] w fun e w' => e = .returned (.bool true) ∧ Below w.heap.size w w' := by
  have HG0 := Lib.hid (fun u => ggreat_any W H A n c u)
  rw [decide_eq_false h0] at HG0
  have z1 : (100 : Int) < (m : Int) := by omega
  clear h0 h1
  have LB0 := Lib.hid (Below.refl w.heap.size w)
  have X1 := Box.new w W H (.slice A n c)
  have X1 := Lib.hid X1
  have LB0 := Lib.hid (LB0.out.alloc LB0.out.size (.cells #[.int .i64 W, .int .i64 H, .slice A n c] 24))
  go_enter Try.func3, Try.ntmps3
  go_upto_region 1 with (fail)
  generalize w.alloc (.cells #[.int .i64 W, .int .i64 H, .slice A n c] 24) = w0 at *
  obtain ⟨q0, q1, q2, q3, q4, q5, q6⟩ := X1.out.all
  go_wp2_with fail
  clear q0 q1 q2 q3 q4 q5 q6
  with_reducible refine Calls.mono (HG0.out _) ?_
  rintro e w1 ⟨rfl, hb⟩
  have LB1 := Lib.hid (LB0.out.trans (hb.mono LB0.out.size))
  have X1 := Lib.hid (X1.out.below hb X1.out.lt)
  clear hb LB0 
  go_wp2
  go_ret
  exact ⟨rfl, LB1.out⟩
theorem shows_g2 (W H : Int) (A B C : Option Addr) (n c m d k e : Nat) (w : World) (h0 : ¬ 4200 < n) (h1 : ¬ 100 < m) (h2 : 100 < k) : Calls Try.prog 3 #[.agg #[.int .i64 W, .int .i64 H, .slice A n c], .slice B m d, .slice C k e] w fun e w' => e = .returned (.bool true) ∧ Below w.heap.size w w' := by
  have HG0 := Lib.hid (fun u => ggreat_any W H A n c u)
  rw [decide_eq_false h0] at HG0
  have z1 : ¬ (100 : Int) < (m : Int) := by omega
  have z2 : (100 : Int) < (k : Int) := by omega
  clear h0 h1 h2
  have LB0 := Lib.hid (Below.refl w.heap.size w)
  have X1 := Box.new w W H (.slice A n c)
  have X1 := Lib.hid X1
  have LB0 := Lib.hid (LB0.out.alloc LB0.out.size (.cells #[.int .i64 W, .int .i64 H, .slice A n c] 24))
  go_enter Try.func3, Try.ntmps3
  go_upto_region 1 with (fail)
  generalize w.alloc (.cells #[.int .i64 W, .int .i64 H, .slice A n c] 24) = w0 at *
  obtain ⟨q0, q1, q2, q3, q4, q5, q6⟩ := X1.out.all
  go_wp2_with fail
  clear q0 q1 q2 q3 q4 q5 q6
  with_reducible refine Calls.mono (HG0.out _) ?_
  rintro e w1 ⟨rfl, hb⟩
  have LB1 := Lib.hid (LB0.out.trans (hb.mono LB0.out.size))
  have X1 := Lib.hid (X1.out.below hb X1.out.lt)
  clear hb LB0 
  go_wp2
  go_ret
  exact ⟨rfl, LB1.out⟩
set_option maxHeartbeats 3200000 in
theorem shows_core (W H : Int) (A B C : Option Addr) (n c m d k e : Nat) (f : Nat → Bool) (a b : Nat → Int) (w : World) (hf : Holds w w.heap.size A n f) (ha : L2.Holds w w.heap.size B m a) (hb1 : L2.Holds w w.heap.size C k b) (hn : ¬ 4200 < n) (hm : ¬ 100 < m) (hk : ¬ 100 < k)
    (P1 Q1 : Int) (N1 : Nat) (F1 : Nat → Int) (r1 : Int) (P2 Q2 : Int) (N2 : Nat) (F2 : Nat → Int) (r2 : Int) (P3 Q3 : Int) (N3 : Nat) (F3 : Nat → Bool) (r3 : Int) (l1 : N1 ≤ 5000) (l2 : N2 ≤ 5000) (l3 : N3 ≤ 5000)
    (p1 : ∀ u A1 c1, Below w.heap.size w u → Holds u u.heap.size A1 n f → Calls Try.prog 13 #[.agg #[.int .i64 W, .int .i64 H, .slice A1 n c1], .slice B m d, .slice C k e] u (RI u P1 Q1 N1 F1 r1)) (p2 : ∀ u, Below w.heap.size w u → Calls Try.prog 14 #[.agg #[.int .i64 W, .int .i64 H, .slice A n c], .slice B m d, .slice C k e] u (RI u P1 Q1 N1 F1 r1))
    (p3 : ∀ u A1 c1, Below w.heap.size w u → Holds u u.heap.size A1 n f → Calls Try.prog 15 #[.agg #[.int .i64 W, .int .i64 H, .slice A1 n c1], .slice B m d, .slice C k e] u (RI u P2 Q2 N2 F2 r2)) (p4 : ∀ u, Below w.heap.size w u → Calls Try.prog 16 #[.agg #[.int .i64 W, .int .i64 H, .slice A n c], .slice B m d, .slice C k e] u (RI u P2 Q2 N2 F2 r2))
    (p5 : ∀ u, Below w.heap.size w u → Calls Try.prog 17 #[.slice B m d, .slice C k e] u (RG u P3 Q3 N3 F3 r3)) (p6 : ∀ u, Below w.heap.size w u → Calls Try.prog 18 #[.slice B m d, .slice C k e] u (RG u P3 Q3 N3 F3 r3)) :
    Calls Try.prog 3 #[.agg #[.int .i64 W, .int .i64 H, .slice A n c], .slice B m d, .slice C k e] w fun e w' => e = .returned (.bool true) ∧ Below w.heap.size w w' := by
  have HG0 := Lib.hid (fun u => ggreat_any W H A n c u)
  rw [decide_eq_false hn] at HG0
  have z1 : ¬ (100 : Int) < (m : Int) := by omega
  have z2 : ¬ (100 : Int) < (k : Int) := by omega
  have HT := Lib.hid (fun u (hb : Below w.heap.size w u) => twin_all (W := W) (H := H) (c := c) u (show n ≤ 4200 by omega) ((hf.below hb).more hb.size))
  have HS := Lib.hid (fun u A' c' (hb : Below w.heap.size w u) (h2 : Holds u u.heap.size A' n f) => rsame_b (W := W) (H := H) (c := c') (d := c) (show n ≤ 5000 by omega) (fun _ _ => rfl) u h2 ((hf.below hb).more hb.size))
  have HE1 := Lib.hid (fun u A1 A2 c1 c2 (h1 : L2.Holds u u.heap.size A1 N1 F1) (h2 : L2.Holds u u.heap.size A2 N1 F1) => risame_b (W := P1) (H := Q1) (c := c1) (d := c2) l1 (fun _ _ => rfl) u h1 h2)
  have HE2 := Lib.hid (fun u A1 A2 c1 c2 (h1 : L2.Holds u u.heap.size A1 N2 F2) (h2 : L2.Holds u u.heap.size A2 N2 F2) => risame_b (W := P2) (H := Q2) (c := c1) (d := c2) l2 (fun _ _ => rfl) u h1 h2)
  have HE3 := Lib.hid (fun u A1 A2 c1 c2 (h1 : Holds u u.heap.size A1 N3 F3) (h2 : Holds u u.heap.size A2 N3 F3) => rsame_b (W := P3) (H := Q3) (c := c1) (d := c2) l3 (fun _ _ => rfl) u h1 h2)
  have HP1 := Lib.hid p1
  have HP2 := Lib.hid p2
  have HP3 := Lib.hid p3
  have HP4 := Lib.hid p4
  have HP5 := Lib.hid p5
  have HP6 := Lib.hid p6
  have y1 : (r1 == r1) = true := by simp
  have y2 : (r2 == r2) = true := by simp
  have y3 : (r3 == r3) = true := by simp
  clear hf ha hb1 hn hm hk p1 p2 p3 p4 p5 p6
  have LB0 := Lib.hid (Below.refl w.heap.size w)
  have X1 := Box.new w W H (.slice A n c)
  have X1 := Lib.hid X1
  have LB0 := Lib.hid (LB0.out.alloc LB0.out.size (.cells #[.int .i64 W, .int .i64 H, .slice A n c] 24))
  go_enter Try.func3, Try.ntmps3
  go_upto_region 1 with (fail)
  generalize w.alloc (.cells #[.int .i64 W, .int .i64 H, .slice A n c] 24) = w0 at *
  obtain ⟨q0, q1, q2, q3, q4, q5, q6⟩ := X1.out.all
  go_wp2_with fail
  clear q0 q1 q2 q3 q4 q5 q6
  with_reducible refine Calls.mono (HG0.out _) ?_
  rintro e w1 ⟨rfl, hb⟩
  have LB1 := Lib.hid (LB0.out.trans (hb.mono LB0.out.size))
  have X1 := Lib.hid (X1.out.below hb X1.out.lt)
  clear hb LB0 
  obtain ⟨q0, q1, q2, q3, q4, q5, q6⟩ := X1.out.all
  go_wp2_with fail
  clear q0 q1 q2 q3 q4 q5 q6
  with_reducible refine Calls.mono (HT.out _ LB1.out) ?_
  rintro e w2 ⟨A1, c1, rfl, hh, hb⟩
  have LB2 := Lib.hid (LB1.out.trans (hb.mono LB1.out.size))
  have X1 := Lib.hid (X1.out.below hb X1.out.lt)
  have H1 := Lib.hid hh
  clear hb LB1 hh
  have hb := ((Below.refl w2.heap.size w2).alloc (by simp; try omega) (.cells #[.int .i64 W, .int .i64 H, .slice A1 n c1] 24))
  have LB3 := Lib.hid (LB2.out.trans (hb.mono LB2.out.size))
  have X1 := Lib.hid (X1.out.below hb X1.out.lt)
  have H1 := Lib.hid ((H1.out.below hb).more hb.size)
  have XT := Box.new w2 W H (.slice A1 n c1)
  have XT := Lib.hid XT
  clear hb LB2
  go_upto_region 4 with (fail)
  obtain ⟨tb, htb⟩ : ∃ z, w2.heap.size = z := ⟨_, rfl⟩
  rw [htb] at XT
  try rw [htb]
  clear htb
  generalize w2.alloc (.cells #[.int .i64 W, .int .i64 H, .slice A1 n c1] 24) = w3 at *
  obtain ⟨q0, q1, q2, q3, q4, q5, q6⟩ := XT.out.all
  go_wp2_with fail
  clear q0 q1 q2 q3 q4 q5 q6
  with_reducible refine Calls.mono (HP1.out _ _ _ LB3.out H1.out) ?_
  rintro e w4 ⟨A2, c2, rfl, hh, hb⟩
  have LB4 := Lib.hid (LB3.out.trans (hb.mono LB3.out.size))
  have X1 := Lib.hid (X1.out.below hb X1.out.lt)
  have H1 := Lib.hid ((H1.out.below hb).more hb.size)
  have XT := Lib.hid (XT.out.below hb XT.out.lt)
  have H2 := Lib.hid hh
  clear hb LB3 hh
  have hb := ((Below.refl w4.heap.size w4).alloc (by simp; try omega) (.cells #[.int .i64 P1, .int .i64 Q1, .slice A2 N1 c2] 29))
  have LB5 := Lib.hid (LB4.out.trans (hb.mono LB4.out.size))
  have X1 := Lib.hid (X1.out.below hb X1.out.lt)
  have H1 := Lib.hid ((H1.out.below hb).more hb.size)
  have XT := Lib.hid (XT.out.below hb XT.out.lt)
  have H2 := Lib.hid ((H2.out.below hb).more hb.size)
  have B2 := IBox.new w4 P1 Q1 (.slice A2 N1 c2)
  have B2 := Lib.hid B2
  clear hb LB4
  go_upto_region 5 with (fail)
  obtain ⟨b2, hb2⟩ : ∃ z, w4.heap.size = z := ⟨_, rfl⟩
  rw [hb2] at B2
  try rw [hb2]
  clear hb2
  generalize w4.alloc (.cells #[.int .i64 P1, .int .i64 Q1, .slice A2 N1 c2] 29) = w5 at *
  obtain ⟨q0, q1, q2, q3, q4, q5, q6⟩ := X1.out.all
  go_wp2_with fail
  clear q0 q1 q2 q3 q4 q5 q6
  with_reducible refine Calls.mono (HP2.out _ LB5.out) ?_
  rintro e w6 ⟨A3, c3, rfl, hh, hb⟩
  have LB6 := Lib.hid (LB5.out.trans (hb.mono LB5.out.size))
  have X1 := Lib.hid (X1.out.below hb X1.out.lt)
  have H1 := Lib.hid ((H1.out.below hb).more hb.size)
  have XT := Lib.hid (XT.out.below hb XT.out.lt)
  have H2 := Lib.hid ((H2.out.below hb).more hb.size)
  have B2 := Lib.hid (B2.out.below hb B2.out.lt)
  have H3 := Lib.hid hh
  clear hb LB5 hh
  have hb := ((Below.refl w6.heap.size w6).alloc (by simp; try omega) (.cells #[.int .i64 P1, .int .i64 Q1, .slice A3 N1 c3] 29))
  have LB7 := Lib.hid (LB6.out.trans (hb.mono LB6.out.size))
  have X1 := Lib.hid (X1.out.below hb X1.out.lt)
  have H1 := Lib.hid ((H1.out.below hb).more hb.size)
  have XT := Lib.hid (XT.out.below hb XT.out.lt)
  have H2 := Lib.hid ((H2.out.below hb).more hb.size)
  have B2 := Lib.hid (B2.out.below hb B2.out.lt)
  have H3 := Lib.hid ((H3.out.below hb).more hb.size)
  have B3 := IBox.new w6 P1 Q1 (.slice A3 N1 c3)
  have B3 := Lib.hid B3
  clear hb LB6
  go_upto_region 6 with (fail)
  obtain ⟨b3, hb3⟩ : ∃ z, w6.heap.size = z := ⟨_, rfl⟩
  rw [hb3] at B3
  try rw [hb3]
  clear hb3
  generalize w6.alloc (.cells #[.int .i64 P1, .int .i64 Q1, .slice A3 N1 c3] 29) = w7 at *
  obtain ⟨q0, q1, q2, q3, q4, q5, q6⟩ := XT.out.all
  go_wp2_with fail
  clear q0 q1 q2 q3 q4 q5 q6
  with_reducible refine Calls.mono (HP3.out _ _ _ LB7.out H1.out) ?_
  rintro e w8 ⟨A4, c4, rfl, hh, hb⟩
  have LB8 := Lib.hid (LB7.out.trans (hb.mono LB7.out.size))
  have X1 := Lib.hid (X1.out.below hb X1.out.lt)
  have H1 := Lib.hid ((H1.out.below hb).more hb.size)
  have XT := Lib.hid (XT.out.below hb XT.out.lt)
  have H2 := Lib.hid ((H2.out.below hb).more hb.size)
  have B2 := Lib.hid (B2.out.below hb B2.out.lt)
  have H3 := Lib.hid ((H3.out.below hb).more hb.size)
  have B3 := Lib.hid (B3.out.below hb B3.out.lt)
  have H4 := Lib.hid hh
  clear hb LB7 hh
  have hb := ((Below.refl w8.heap.size w8).alloc (by simp; try omega) (.cells #[.int .i64 P2, .int .i64 Q2, .slice A4 N2 c4] 29))
  have LB9 := Lib.hid (LB8.out.trans (hb.mono LB8.out.size))
  have X1 := Lib.hid (X1.out.below hb X1.out.lt)
  have H1 := Lib.hid ((H1.out.below hb).more hb.size)
  have XT := Lib.hid (XT.out.below hb XT.out.lt)
  have H2 := Lib.hid ((H2.out.below hb).more hb.size)
  have B2 := Lib.hid (B2.out.below hb B2.out.lt)
  have H3 := Lib.hid ((H3.out.below hb).more hb.size)
  have B3 := Lib.hid (B3.out.below hb B3.out.lt)
  have H4 := Lib.hid ((H4.out.below hb).more hb.size)
  have B4 := IBox.new w8 P2 Q2 (.slice A4 N2 c4)
  have B4 := Lib.hid B4
  clear hb LB8
  go_upto_region 7 with (fail)
  obtain ⟨b4, hb4⟩ : ∃ z, w8.heap.size = z := ⟨_, rfl⟩
  rw [hb4] at B4
  try rw [hb4]
  clear hb4
  generalize w8.alloc (.cells #[.int .i64 P2, .int .i64 Q2, .slice A4 N2 c4] 29) = w9 at *
  obtain ⟨q0, q1, q2, q3, q4, q5, q6⟩ := X1.out.all
  go_wp2_with fail
  clear q0 q1 q2 q3 q4 q5 q6
  with_reducible refine Calls.mono (HP4.out _ LB9.out) ?_
  rintro e w10 ⟨A5, c5, rfl, hh, hb⟩
  have LB10 := Lib.hid (LB9.out.trans (hb.mono LB9.out.size))
  have X1 := Lib.hid (X1.out.below hb X1.out.lt)
  have H1 := Lib.hid ((H1.out.below hb).more hb.size)
  have XT := Lib.hid (XT.out.below hb XT.out.lt)
  have H2 := Lib.hid ((H2.out.below hb).more hb.size)
  have B2 := Lib.hid (B2.out.below hb B2.out.lt)
  have H3 := Lib.hid ((H3.out.below hb).more hb.size)
  have B3 := Lib.hid (B3.out.below hb B3.out.lt)
  have H4 := Lib.hid ((H4.out.below hb).more hb.size)
  have B4 := Lib.hid (B4.out.below hb B4.out.lt)
  have H5 := Lib.hid hh
  clear hb LB9 hh
  have hb := ((Below.refl w10.heap.size w10).alloc (by simp; try omega) (.cells #[.int .i64 P2, .int .i64 Q2, .slice A5 N2 c5] 29))
  have LB11 := Lib.hid (LB10.out.trans (hb.mono LB10.out.size))
  have X1 := Lib.hid (X1.out.below hb X1.out.lt)
  have H1 := Lib.hid ((H1.out.below hb).more hb.size)
  have XT := Lib.hid (XT.out.below hb XT.out.lt)
  have H2 := Lib.hid ((H2.out.below hb).more hb.size)
  have B2 := Lib.hid (B2.out.below hb B2.out.lt)
  have H3 := Lib.hid ((H3.out.below hb).more hb.size)
  have B3 := Lib.hid (B3.out.below hb B3.out.lt)
  have H4 := Lib.hid ((H4.out.below hb).more hb.size)
  have B4 := Lib.hid (B4.out.below hb B4.out.lt)
  have H5 := Lib.hid ((H5.out.below hb).more hb.size)
  have B5 := IBox.new w10 P2 Q2 (.slice A5 N2 c5)
  have B5 := Lib.hid B5
  clear hb LB10
  go_upto_region 8 with (fail)
  obtain ⟨b5, hb5⟩ : ∃ z, w10.heap.size = z := ⟨_, rfl⟩
  rw [hb5] at B5
  try rw [hb5]
  clear hb5
  generalize w10.alloc (.cells #[.int .i64 P2, .int .i64 Q2, .slice A5 N2 c5] 29) = w11 at *
  go_wp2_with fail
  with_reducible refine Calls.mono (HP5.out _ LB11.out) ?_
  rintro e w12 ⟨A6, c6, rfl, hh, hb⟩
  have LB12 := Lib.hid (LB11.out.trans (hb.mono LB11.out.size))
  have X1 := Lib.hid (X1.out.below hb X1.out.lt)
  have H1 := Lib.hid ((H1.out.below hb).more hb.size)
  have XT := Lib.hid (XT.out.below hb XT.out.lt)
  have H2 := Lib.hid ((H2.out.below hb).more hb.size)
  have B2 := Lib.hid (B2.out.below hb B2.out.lt)
  have H3 := Lib.hid ((H3.out.below hb).more hb.size)
  have B3 := Lib.hid (B3.out.below hb B3.out.lt)
  have H4 := Lib.hid ((H4.out.below hb).more hb.size)
  have B4 := Lib.hid (B4.out.below hb B4.out.lt)
  have H5 := Lib.hid ((H5.out.below hb).more hb.size)
  have B5 := Lib.hid (B5.out.below hb B5.out.lt)
  have H6 := Lib.hid hh
  clear hb LB11 hh
  have hb := ((Below.refl w12.heap.size w12).alloc (by simp; try omega) (.cells #[.int .i64 P3, .int .i64 Q3, .slice A6 N3 c6] 24))
  have LB13 := Lib.hid (LB12.out.trans (hb.mono LB12.out.size))
  have X1 := Lib.hid (X1.out.below hb X1.out.lt)
  have H1 := Lib.hid ((H1.out.below hb).more hb.size)
  have XT := Lib.hid (XT.out.below hb XT.out.lt)
  have H2 := Lib.hid ((H2.out.below hb).more hb.size)
  have B2 := Lib.hid (B2.out.below hb B2.out.lt)
  have H3 := Lib.hid ((H3.out.below hb).more hb.size)
  have B3 := Lib.hid (B3.out.below hb B3.out.lt)
  have H4 := Lib.hid ((H4.out.below hb).more hb.size)
  have B4 := Lib.hid (B4.out.below hb B4.out.lt)
  have H5 := Lib.hid ((H5.out.below hb).more hb.size)
  have B5 := Lib.hid (B5.out.below hb B5.out.lt)
  have H6 := Lib.hid ((H6.out.below hb).more hb.size)
  have B6 := Box.new w12 P3 Q3 (.slice A6 N3 c6)
  have B6 := Lib.hid B6
  clear hb LB12
  go_upto_region 9 with (fail)
  obtain ⟨b6, hb6⟩ : ∃ z, w12.heap.size = z := ⟨_, rfl⟩
  rw [hb6] at B6
  try rw [hb6]
  clear hb6
  generalize w12.alloc (.cells #[.int .i64 P3, .int .i64 Q3, .slice A6 N3 c6] 24) = w13 at *
  go_wp2_with fail
  with_reducible refine Calls.mono (HP6.out _ LB13.out) ?_
  rintro e w14 ⟨A7, c7, rfl, hh, hb⟩
  have LB14 := Lib.hid (LB13.out.trans (hb.mono LB13.out.size))
  have X1 := Lib.hid (X1.out.below hb X1.out.lt)
  have H1 := Lib.hid ((H1.out.below hb).more hb.size)
  have XT := Lib.hid (XT.out.below hb XT.out.lt)
  have H2 := Lib.hid ((H2.out.below hb).more hb.size)
  have B2 := Lib.hid (B2.out.below hb B2.out.lt)
  have H3 := Lib.hid ((H3.out.below hb).more hb.size)
  have B3 := Lib.hid (B3.out.below hb B3.out.lt)
  have H4 := Lib.hid ((H4.out.below hb).more hb.size)
  have B4 := Lib.hid (B4.out.below hb B4.out.lt)
  have H5 := Lib.hid ((H5.out.below hb).more hb.size)
  have B5 := Lib.hid (B5.out.below hb B5.out.lt)
  have H6 := Lib.hid ((H6.out.below hb).more hb.size)
  have B6 := Lib.hid (B6.out.below hb B6.out.lt)
  have H7 := Lib.hid hh
  clear hb LB13 hh
  have hb := ((Below.refl w14.heap.size w14).alloc (by simp; try omega) (.cells #[.int .i64 P3, .int .i64 Q3, .slice A7 N3 c7] 24))
  have LB15 := Lib.hid (LB14.out.trans (hb.mono LB14.out.size))
  have X1 := Lib.hid (X1.out.below hb X1.out.lt)
  have H1 := Lib.hid ((H1.out.below hb).more hb.size)
  have XT := Lib.hid (XT.out.below hb XT.out.lt)
  have H2 := Lib.hid ((H2.out.below hb).more hb.size)
  have B2 := Lib.hid (B2.out.below hb B2.out.lt)
  have H3 := Lib.hid ((H3.out.below hb).more hb.size)
  have B3 := Lib.hid (B3.out.below hb B3.out.lt)
  have H4 := Lib.hid ((H4.out.below hb).more hb.size)
  have B4 := Lib.hid (B4.out.below hb B4.out.lt)
  have H5 := Lib.hid ((H5.out.below hb).more hb.size)
  have B5 := Lib.hid (B5.out.below hb B5.out.lt)
  have H6 := Lib.hid ((H6.out.below hb).more hb.size)
  have B6 := Lib.hid (B6.out.below hb B6.out.lt)
  have H7 := Lib.hid ((H7.out.below hb).more hb.size)
  have B7 := Box.new w14 P3 Q3 (.slice A7 N3 c7)
  have B7 := Lib.hid B7
  clear hb LB14
  go_upto_region 10 with (fail)
  obtain ⟨b7, hb7⟩ : ∃ z, w14.heap.size = z := ⟨_, rfl⟩
  rw [hb7] at B7
  try rw [hb7]
  clear hb7
  generalize w14.alloc (.cells #[.int .i64 P3, .int .i64 Q3, .slice A7 N3 c7] 24) = w15 at *
  obtain ⟨q0, q1, q2, q3, q4, q5, q6⟩ := B2.out.all
  obtain ⟨q7, q8, q9, q10, q11, q12, q13⟩ := B3.out.all
  go_wp2_with fail
  clear q0 q1 q2 q3 q4 q5 q6 q7 q8 q9 q10 q11 q12 q13
  with_reducible refine Calls.mono (HE1.out _ _ _ _ _ H2.out H3.out) ?_
  rintro e w16 ⟨rfl, hb⟩
  have LB16 := Lib.hid (LB15.out.trans (hb.mono LB15.out.size))
  have X1 := Lib.hid (X1.out.below hb X1.out.lt)
  have H1 := Lib.hid ((H1.out.below hb).more hb.size)
  have XT := Lib.hid (XT.out.below hb XT.out.lt)
  have H2 := Lib.hid ((H2.out.below hb).more hb.size)
  have B2 := Lib.hid (B2.out.below hb B2.out.lt)
  have H3 := Lib.hid ((H3.out.below hb).more hb.size)
  have B3 := Lib.hid (B3.out.below hb B3.out.lt)
  have H4 := Lib.hid ((H4.out.below hb).more hb.size)
  have B4 := Lib.hid (B4.out.below hb B4.out.lt)
  have H5 := Lib.hid ((H5.out.below hb).more hb.size)
  have B5 := Lib.hid (B5.out.below hb B5.out.lt)
  have H6 := Lib.hid ((H6.out.below hb).more hb.size)
  have B6 := Lib.hid (B6.out.below hb B6.out.lt)
  have H7 := Lib.hid ((H7.out.below hb).more hb.size)
  have B7 := Lib.hid (B7.out.below hb B7.out.lt)
  clear hb LB15 
  clear H2 H3 B2 B3
  obtain ⟨q0, q1, q2, q3, q4, q5, q6⟩ := B4.out.all
  obtain ⟨q7, q8, q9, q10, q11, q12, q13⟩ := B5.out.all
  go_wp2_with fail
  clear q0 q1 q2 q3 q4 q5 q6 q7 q8 q9 q10 q11 q12 q13
  with_reducible refine Calls.mono (HE2.out _ _ _ _ _ H4.out H5.out) ?_
  rintro e w17 ⟨rfl, hb⟩
  have LB17 := Lib.hid (LB16.out.trans (hb.mono LB16.out.size))
  have X1 := Lib.hid (X1.out.below hb X1.out.lt)
  have H1 := Lib.hid ((H1.out.below hb).more hb.size)
  have XT := Lib.hid (XT.out.below hb XT.out.lt)
  have H4 := Lib.hid ((H4.out.below hb).more hb.size)
  have B4 := Lib.hid (B4.out.below hb B4.out.lt)
  have H5 := Lib.hid ((H5.out.below hb).more hb.size)
  have B5 := Lib.hid (B5.out.below hb B5.out.lt)
  have H6 := Lib.hid ((H6.out.below hb).more hb.size)
  have B6 := Lib.hid (B6.out.below hb B6.out.lt)
  have H7 := Lib.hid ((H7.out.below hb).more hb.size)
  have B7 := Lib.hid (B7.out.below hb B7.out.lt)
  clear hb LB16 
  clear H4 H5 B4 B5
  obtain ⟨q0, q1, q2, q3, q4, q5, q6⟩ := B6.out.all
  obtain ⟨q7, q8, q9, q10, q11, q12, q13⟩ := B7.out.all
  go_wp2_with fail
  clear q0 q1 q2 q3 q4 q5 q6 q7 q8 q9 q10 q11 q12 q13
  with_reducible refine Calls.mono (HE3.out _ _ _ _ _ H6.out H7.out) ?_
  rintro e w18 ⟨rfl, hb⟩
  have LB18 := Lib.hid (LB17.out.trans (hb.mono LB17.out.size))
  have X1 := Lib.hid (X1.out.below hb X1.out.lt)
  have H1 := Lib.hid ((H1.out.below hb).more hb.size)
  have XT := Lib.hid (XT.out.below hb XT.out.lt)
  have H6 := Lib.hid ((H6.out.below hb).more hb.size)
  have B6 := Lib.hid (B6.out.below hb B6.out.lt)
  have H7 := Lib.hid ((H7.out.below hb).more hb.size)
  have B7 := Lib.hid (B7.out.below hb B7.out.lt)
  clear hb LB17 
  clear H6 H7 B6 B7
  obtain ⟨q0, q1, q2, q3, q4, q5, q6⟩ := XT.out.all
  obtain ⟨q7, q8, q9, q10, q11, q12, q13⟩ := X1.out.all
  go_wp2_with fail
  clear q0 q1 q2 q3 q4 q5 q6 q7 q8 q9 q10 q11 q12 q13
  with_reducible refine Calls.mono (HS.out _ _ _ LB18.out H1.out) ?_
  rintro e w19 ⟨rfl, hb⟩
  have LB19 := Lib.hid (LB18.out.trans (hb.mono LB18.out.size))
  have X1 := Lib.hid (X1.out.below hb X1.out.lt)
  have H1 := Lib.hid ((H1.out.below hb).more hb.size)
  have XT := Lib.hid (XT.out.below hb XT.out.lt)
  clear hb LB18 
  go_wp2
  go_ret
  exact ⟨rfl, LB19.out⟩
theorem shows14_any (W H : Int) (A B C : Option Addr) (n c m d k e : Nat) (f : Nat → Bool) (a b : Nat → Int) (w : World) (hf : Holds w w.heap.size A n f) (ha : L2.Holds w w.heap.size B m a) (hb1 : L2.Holds w w.heap.size C k b) : Calls Try.prog 3 #[.agg #[.int .i64 W, .int .i64 H, .slice A n c], .slice B m d, .slice C k e] w fun e w' => e = .returned (.bool true) ∧ Below w.heap.size w w' := by
  by_cases h0 : 4200 < n
  · exact shows_g0 W H A B C n c m d k e w h0
  by_cases h1 : 100 < m
  · exact shows_g1 W H A B C n c m d k e w h0 h1
  by_cases h2 : 100 < k
  · exact shows_g2 W H A B C n c m d k e w h0 h1 h2
  obtain ⟨P1, Q1, N1, F1, r1, l1, p1, p2⟩ := front_pair (W := W) (H := H) (c := c) (d := d) (e := e) (show n ≤ 4200 by omega) (show m ≤ 5000 by omega) (show k ≤ 5000 by omega) hf ha hb1
  obtain ⟨P2, Q2, N2, F2, r2, l2, p3, p4⟩ := back_pair (W := W) (H := H) (c := c) (d := d) (e := e) (show n ≤ 4200 by omega) (show m ≤ 5000 by omega) (show k ≤ 5000 by omega) hf ha hb1
  obtain ⟨P3, Q3, N3, F3, r3, l3, p5, p6⟩ := equal_pair (d := d) (e := e) (show m ≤ 5000 by omega) (show k ≤ 5000 by omega) ha hb1
  exact shows_core W H A B C n c m d k e f a b w hf ha hb1 h0 h1 h2 P1 Q1 N1 F1 r1 P2 Q2 N2 F2 r2 P3 Q3 N3 F3 r3 l1 l2 l3 p1 p2 p3 p4 p5 p6
end Go.Proofs.Ytppepcijpdamhaa
