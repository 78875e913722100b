/- The reference's And and Or. -/
import Derived.Test.YtnamjpdbadjgpaaRefa
import Derived.Test.YtnamjpdbadjgpaaSame
namespace Go.Proofs.Ytnamjpdbadjgpaa
open Go.RowKit
set_option linter.unusedVariables false
set_option linter.unusedSimpArgs false

set_option maxHeartbeats 800000 in
theorem both_err (W H X Y : Int) (A D : Option Addr) (n m c d : Nat) (w : World) (err : Int) (hn : n ≤ 4200) (hx : chk W H n = err) (hne : (err != 0) = true) :
    Calls Try.prog 75 #[.agg #[.int .i64 W, .int .i64 H, .slice A n c], .agg #[.int .i64 X, .int .i64 Y, .slice D m d]] w fun e w' => e = .returned (.int .i64 err) ∧ Below w.heap.size w w' := by
  have HC := Lib.hid (rchk_err (A := A) (c := c) hn hx)
  have B0 := Lib.hid (boxes2 w W H X Y (.slice A n c) (.slice D m d))
  clear hx
  go_enter Try.func75, Try.ntmps75
  go_wp2_with fail
  refine (HC.out _).mono ?_
  rintro e w1 ⟨rfl, hb1⟩
  obtain ⟨q0, q1, q2, q3, q4, q5, q6⟩ := (B0.out.1.below hb1 B0.out.1.lt).all
  have hbel1 := B0.out.2.2.trans (hb1.mono B0.out.2.2.size)
  clear hb1
  go_wp2_with fail
  refine (HC.out _).mono ?_
  rintro e w2 ⟨rfl, hb2⟩
  go_wp2
  go_ret
  exact ⟨rfl, hbel1.trans (hb2.mono hbel1.size)⟩

set_option maxHeartbeats 800000 in
theorem both_snd (W H X Y : Int) (A D : Option Addr) (n m c d : Nat) (w : World) (err : Int) (hn : n ≤ 4200) (h0 : chk W H n = 0) (hm : m ≤ 4200) (hx : chk X Y m = err) :
    Calls Try.prog 75 #[.agg #[.int .i64 W, .int .i64 H, .slice A n c], .agg #[.int .i64 X, .int .i64 Y, .slice D m d]] w fun e w' => e = .returned (.int .i64 err) ∧ Below w.heap.size w w' := by
  have HC0 := Lib.hid (rchk_err (A := A) (c := c) hn h0)
  have HC := Lib.hid (rchk_err (A := D) (c := d) hm hx)
  have B0 := Lib.hid (boxes2 w W H X Y (.slice A n c) (.slice D m d))
  clear hx h0
  go_enter Try.func75, Try.ntmps75
  go_wp2_with fail
  refine (HC0.out _).mono ?_
  rintro e w1 ⟨rfl, hb1⟩
  obtain ⟨q0, q1, q2, q3, q4, q5, q6⟩ := (B0.out.2.1.below hb1 B0.out.2.1.lt).all
  have hbel1 := B0.out.2.2.trans (hb1.mono B0.out.2.2.size)
  clear hb1
  go_wp2_with fail
  refine (HC.out _).mono ?_
  rintro e w2 ⟨rfl, hb2⟩
  go_wp2
  go_ret
  exact ⟨rfl, hbel1.trans (hb2.mono hbel1.size)⟩

theorem after3 {w w1 : World} {W H X Y : Int} {v u : Value} (hb : Below (((w.alloc (.cells #[.int .i64 W, .int .i64 H, v] 24)).alloc (.cells #[.int .i64 X, .int .i64 Y, u] 24)).alloc (.cells #[.int .i64 0, .int .i64 0, .slice none 0 0] 24)).heap.size
      (((w.alloc (.cells #[.int .i64 W, .int .i64 H, v] 24)).alloc (.cells #[.int .i64 X, .int .i64 Y, u] 24)).alloc (.cells #[.int .i64 0, .int .i64 0, .slice none 0 0] 24)) w1) :
    Box w1 w.heap.size W H v ∧ Box w1 (w.heap.size + 1) X Y u ∧ Box w1 (w.heap.size + 2) 0 0 (.slice none 0 0) ∧ Below w.heap.size w w1 ∧ w.heap.size + 3 ≤ w1.heap.size := by
  have h1 := (((Box.new w W H v).alloc (.cells #[.int .i64 X, .int .i64 Y, u] 24)).alloc (.cells #[.int .i64 0, .int .i64 0, .slice none 0 0] 24)).below hb (by simp; omega)
  have h1' := ((Box.new (w.alloc (.cells #[.int .i64 W, .int .i64 H, v] 24)) X Y u).alloc (.cells #[.int .i64 0, .int .i64 0, .slice none 0 0] 24)).below hb (by simp)
  have h2 := (Box.new ((w.alloc (.cells #[.int .i64 W, .int .i64 H, v] 24)).alloc (.cells #[.int .i64 X, .int .i64 Y, u] 24)) 0 0 (.slice none 0 0)).below hb (by simp)
  have h3 : Below w.heap.size w w1 := ((((Below.refl _ _).alloc (Nat.le_refl _) _).alloc (by simp) _).alloc (by simp; omega) _).trans (hb.mono (by simp; omega))
  have h4 := hb.size
  simp at h1' h2 h4
  exact ⟨h1, h1', h2, h3, by omega⟩

set_option maxHeartbeats 800000 in
/-- The grids are refused by 'Both'. -/
theorem join_err (W H X Y : Int) (A D : Option Addr) (n m c d : Nat) (o : Bool) (w : World) (err : Int) (hne : (err != 0) = true)
    (hC : ∀ w, Calls Try.prog 75 #[.agg #[.int .i64 W, .int .i64 H, .slice A n c], .agg #[.int .i64 X, .int .i64 Y, .slice D m d]] w fun e w' => e = .returned (.int .i64 err) ∧ Below w.heap.size w w') :
    Calls Try.prog 70 #[.agg #[.int .i64 W, .int .i64 H, .slice A n c], .agg #[.int .i64 X, .int .i64 Y, .slice D m d], .bool o] w (ErrGrid w err) := by
  have HC := Lib.hid hC
  clear hC
  go_enter Try.func70, Try.ntmps70
  go_wp2_with fail
  refine (HC.out _).mono ?_
  rintro e w1 ⟨rfl, hb1⟩
  obtain ⟨hbox1, hbox2, hbox3, hbel1, hsz1⟩ := after3 hb1
  clear hb1
  obtain ⟨q0, q1, q2, q3, q4, q5, q6⟩ := hbox1.all
  obtain ⟨r0, r1, r2, r3, r4, r5, r6⟩ := hbox2.all
  go_wp2_with fail
  refine (HC.out _).mono ?_
  rintro e w2 ⟨rfl, hb2⟩
  have hbox4 := hbox3.below hb2 (by omega)
  have hbel2 := hbel1.trans (hb2.mono hbel1.size)
  clear hb2 q0 q1 q2 q3 q4 q5 q6 r0 r1 r2 r3 r4 r5 r6
  obtain ⟨p0, p1, p2, p3, p4, p5, p6⟩ := hbox4.all
  go_wp2
  refine bodyPost_ret (v := .tuple #[.agg #[.int .i64 0, .int .i64 0, .slice none 0 0], .int .i64 err]) (by simp [results, Try.results70, go_sem, p0, p1, p2]) rfl ?_
  exact fin_err (by omega) hbel2

set_option maxHeartbeats 800000 in
/-- The two grids are not of one size. -/
theorem join_arg (W H X Y : Int) (A D : Option Addr) (n m c d : Nat) (o : Bool) (w : World) (hn : n ≤ 4200) (h0 : chk W H n = 0) (hm : m ≤ 4200) (hx : chk X Y m = 0) (hne : ¬ (W = X ∧ H = Y)) :
    Calls Try.prog 70 #[.agg #[.int .i64 W, .int .i64 H, .slice A n c], .agg #[.int .i64 X, .int .i64 Y, .slice D m d], .bool o] w (ErrGrid w 2) := by
  have HC := Lib.hid (fun w => both_snd W H X Y A D n m c d w 0 hn h0 hm hx)
  clear hx h0
  have hcase : ((W != X) = true) ∨ ((W != X) = false ∧ (H != Y) = true) := by
    by_cases e : W = X
    · refine .inr ⟨by simp [e], ?_⟩
      simp
      exact fun h => hne ⟨e, h⟩
    · exact .inl (by simp [e])
  clear hne
  go_enter Try.func70, Try.ntmps70
  go_wp2_with fail
  refine (HC.out _).mono ?_
  rintro e w1 ⟨rfl, hb1⟩
  obtain ⟨hbox1, hbox2, hbox3, hbel1, hsz1⟩ := after3 hb1
  clear hb1
  obtain ⟨q0, q1, q2, q3, q4, q5, q6⟩ := hbox1.all
  obtain ⟨r0, r1, r2, r3, r4, r5, r6⟩ := hbox2.all
  obtain ⟨p0, p1, p2, p3, p4, p5, p6⟩ := hbox3.all
  rcases hcase with h | ⟨h, h'⟩
  all_goals
    go_wp2
    refine bodyPost_ret (v := .tuple #[.agg #[.int .i64 0, .int .i64 0, .slice none 0 0], .int .i64 2]) (by simp [results, Try.results70, go_sem, p0, p1, p2]) rfl ?_
    exact fin_err (by omega) hbel1

/-- What the loop of 'joined' keeps. -/
structure JoinRel (w wr : World) (W H : Nat) (A D : Option Addr) (c d : Nat) (f g h : Nat → Bool) (o k e : Nat) (m : Nat) : Prop where
  a : Box wr w.heap.size W H (.slice A (W * H) c)
  b : Box wr (w.heap.size + 1) W H (.slice D (W * H) d)
  res : Box wr (w.heap.size + 2) 0 0 (.slice none 0 0)
  out : Box wr o W H (.slice (some ⟨k, 0, none⟩) (W * H) e)
  row : Row wr k (W * H) (fun i => if i < m then h i else f i)
  ca : Holds wr w.heap.size A (W * H) f
  cb : Holds wr w.heap.size D (W * H) g
  bel : Below w.heap.size w wr

set_option maxHeartbeats 800000 in
theorem rand_of_err (W H X Y : Int) (A D : Option Addr) (n m c d : Nat) (w : World) (err : Int) (hC : ∀ w', Below w.heap.size w w' → Calls Try.prog 70 #[.agg #[.int .i64 W, .int .i64 H, .slice A n c], .agg #[.int .i64 X, .int .i64 Y, .slice D m d], .bool false] w' (ErrGrid w' err)) :
    Calls Try.prog 41 #[.agg #[.int .i64 W, .int .i64 H, .slice A n c], .agg #[.int .i64 X, .int .i64 Y, .slice D m d]] w (ErrGrid w err) := by
  have HC := Lib.hid hC
  clear hC
  have hbel0 : Below w.heap.size w (((w.alloc (.cells #[.int .i64 W, .int .i64 H, .slice A n c] 24)).alloc (.cells #[.int .i64 X, .int .i64 Y, .slice D m d] 24)).alloc (.cells #[.int .i64 0, .int .i64 0, .slice none 0 0] 24)) :=
    (((Below.refl _ _).alloc (Nat.le_refl _) _).alloc (by simp) _).alloc (by simp; omega) _
  have hbox0 := Box.new ((w.alloc (.cells #[.int .i64 W, .int .i64 H, .slice A n c] 24)).alloc (.cells #[.int .i64 X, .int .i64 Y, .slice D m d] 24)) 0 0 (.slice none 0 0)
  have HB := Lib.hid hbel0
  have HX := Lib.hid hbox0
  clear hbel0 hbox0
  go_enter Try.func41, Try.ntmps41
  go_wp2_with fail
  refine (HC.out _ HB.out).mono ?_
  rintro e w1 ⟨rfl, hb1⟩
  have hbox1 := HX.out.below hb1 (by simp)
  have hbel1 := HB.out.trans (hb1.mono HB.out.size)
  have hs1 := hb1.size
  simp at hbox1 hs1
  clear hb1
  obtain ⟨p0, p1, p2, p3, p4, p5, p6⟩ := hbox1.all
  go_wp2
  refine bodyPost_ret (v := .tuple #[.agg #[.int .i64 0, .int .i64 0, .slice none 0 0], .int .i64 err]) (by simp [results, Try.results41, go_sem, p0, p1, p2]) rfl ?_
  exact fin_err (by omega) hbel1

set_option maxHeartbeats 800000 in
theorem rand_of_ok (W H X Y : Int) (A D : Option Addr) (n m c d : Nat) (w : World) (V U : Nat) (F : Nat → Bool) (hC : ∀ w', Below w.heap.size w w' → Calls Try.prog 70 #[.agg #[.int .i64 W, .int .i64 H, .slice A n c], .agg #[.int .i64 X, .int .i64 Y, .slice D m d], .bool false] w' (OkRef w' V U F)) :
    Calls Try.prog 41 #[.agg #[.int .i64 W, .int .i64 H, .slice A n c], .agg #[.int .i64 X, .int .i64 Y, .slice D m d]] w (OkRef w V U F) := by
  have HC := Lib.hid hC
  clear hC
  have hbel0 : Below w.heap.size w (((w.alloc (.cells #[.int .i64 W, .int .i64 H, .slice A n c] 24)).alloc (.cells #[.int .i64 X, .int .i64 Y, .slice D m d] 24)).alloc (.cells #[.int .i64 0, .int .i64 0, .slice none 0 0] 24)) :=
    (((Below.refl _ _).alloc (Nat.le_refl _) _).alloc (by simp) _).alloc (by simp; omega) _
  have hbox0 := Box.new ((w.alloc (.cells #[.int .i64 W, .int .i64 H, .slice A n c] 24)).alloc (.cells #[.int .i64 X, .int .i64 Y, .slice D m d] 24)) 0 0 (.slice none 0 0)
  have HB := Lib.hid hbel0
  have HX := Lib.hid hbox0
  clear hbel0 hbox0
  go_enter Try.func41, Try.ntmps41
  go_wp2_with fail
  refine (HC.out _ HB.out).mono ?_
  rintro e w1 ⟨k, u, rfl, hk, hrow, hb1⟩
  have hbox1 := HX.out.below hb1 (by simp)
  have hbel1 := HB.out.trans (hb1.mono HB.out.size)
  have hs1 := hb1.size
  simp at hbox1 hs1 hk
  clear hb1
  obtain ⟨p0, p1, p2, p3, p4, p5, p6⟩ := hbox1.all
  go_wp2
  refine bodyPost_ret (v := .tuple #[.agg #[.int .i64 V, .int .i64 U, .slice (some ⟨k, 0, none⟩) (V * U) u], .int .i64 0]) (by simp [results, Try.results41, go_sem, p0, p1, p2]) rfl ?_
  exact fin_ref (by omega) (by omega) hrow hbel1

set_option maxHeartbeats 800000 in
theorem ror_of_err (W H X Y : Int) (A D : Option Addr) (n m c d : Nat) (w : World) (err : Int) (hC : ∀ w', Below w.heap.size w w' → Calls Try.prog 70 #[.agg #[.int .i64 W, .int .i64 H, .slice A n c], .agg #[.int .i64 X, .int .i64 Y, .slice D m d], .bool true] w' (ErrGrid w' err)) :
    Calls Try.prog 42 #[.agg #[.int .i64 W, .int .i64 H, .slice A n c], .agg #[.int .i64 X, .int .i64 Y, .slice D m d]] w (ErrGrid w err) := by
  have HC := Lib.hid hC
  clear hC
  have hbel0 : Below w.heap.size w (((w.alloc (.cells #[.int .i64 W, .int .i64 H, .slice A n c] 24)).alloc (.cells #[.int .i64 X, .int .i64 Y, .slice D m d] 24)).alloc (.cells #[.int .i64 0, .int .i64 0, .slice none 0 0] 24)) :=
    (((Below.refl _ _).alloc (Nat.le_refl _) _).alloc (by simp) _).alloc (by simp; omega) _
  have hbox0 := Box.new ((w.alloc (.cells #[.int .i64 W, .int .i64 H, .slice A n c] 24)).alloc (.cells #[.int .i64 X, .int .i64 Y, .slice D m d] 24)) 0 0 (.slice none 0 0)
  have HB := Lib.hid hbel0
  have HX := Lib.hid hbox0
  clear hbel0 hbox0
  go_enter Try.func42, Try.ntmps42
  go_wp2_with fail
  refine (HC.out _ HB.out).mono ?_
  rintro e w1 ⟨rfl, hb1⟩
  have hbox1 := HX.out.below hb1 (by simp)
  have hbel1 := HB.out.trans (hb1.mono HB.out.size)
  have hs1 := hb1.size
  simp at hbox1 hs1
  clear hb1
  obtain ⟨p0, p1, p2, p3, p4, p5, p6⟩ := hbox1.all
  go_wp2
  refine bodyPost_ret (v := .tuple #[.agg #[.int .i64 0, .int .i64 0, .slice none 0 0], .int .i64 err]) (by simp [results, Try.results42, go_sem, p0, p1, p2]) rfl ?_
  exact fin_err (by omega) hbel1

set_option maxHeartbeats 800000 in
theorem ror_of_ok (W H X Y : Int) (A D : Option Addr) (n m c d : Nat) (w : World) (V U : Nat) (F : Nat → Bool) (hC : ∀ w', Below w.heap.size w w' → Calls Try.prog 70 #[.agg #[.int .i64 W, .int .i64 H, .slice A n c], .agg #[.int .i64 X, .int .i64 Y, .slice D m d], .bool true] w' (OkRef w' V U F)) :
    Calls Try.prog 42 #[.agg #[.int .i64 W, .int .i64 H, .slice A n c], .agg #[.int .i64 X, .int .i64 Y, .slice D m d]] w (OkRef w V U F) := by
  have HC := Lib.hid hC
  clear hC
  have hbel0 : Below w.heap.size w (((w.alloc (.cells #[.int .i64 W, .int .i64 H, .slice A n c] 24)).alloc (.cells #[.int .i64 X, .int .i64 Y, .slice D m d] 24)).alloc (.cells #[.int .i64 0, .int .i64 0, .slice none 0 0] 24)) :=
    (((Below.refl _ _).alloc (Nat.le_refl _) _).alloc (by simp) _).alloc (by simp; omega) _
  have hbox0 := Box.new ((w.alloc (.cells #[.int .i64 W, .int .i64 H, .slice A n c] 24)).alloc (.cells #[.int .i64 X, .int .i64 Y, .slice D m d] 24)) 0 0 (.slice none 0 0)
  have HB := Lib.hid hbel0
  have HX := Lib.hid hbox0
  clear hbel0 hbox0
  go_enter Try.func42, Try.ntmps42
  go_wp2_with fail
  refine (HC.out _ HB.out).mono ?_
  rintro e w1 ⟨k, u, rfl, hk, hrow, hb1⟩
  have hbox1 := HX.out.below hb1 (by simp)
  have hbel1 := HB.out.trans (hb1.mono HB.out.size)
  have hs1 := hb1.size
  simp at hbox1 hs1 hk
  clear hb1
  obtain ⟨p0, p1, p2, p3, p4, p5, p6⟩ := hbox1.all
  go_wp2
  refine bodyPost_ret (v := .tuple #[.agg #[.int .i64 V, .int .i64 U, .slice (some ⟨k, 0, none⟩) (V * U) u], .int .i64 0]) (by simp [results, Try.results42, go_sem, p0, p1, p2]) rfl ?_
  exact fin_ref (by omega) (by omega) hrow hbel1
end Go.Proofs.Ytnamjpdbadjgpaa
