/- The function value that 'combine' hands to 'build', for 'and' and for 'or'. -/
import Derived.Test.YtmcdfnhpaneanaaGc
namespace Go.Proofs.Ytmcdfnhpaneanaa
open Go.RowKit
set_option maxRecDepth 100000
set_option linter.unusedVariables false
set_option linter.unusedSimpArgs false

set_option maxHeartbeats 400000 in
theorem and_clo (p q : Bool) (w : World) : Calls Try.prog 76 #[.bool p, .bool q] w fun e w' => e = .returned (.bool (p && q)) ∧ w' = w := by
  cases p <;> cases q <;> (go_enter Try.func76, Try.ntmps76; go_wp2; go_ret; exact ⟨rfl, rfl⟩)
set_option maxHeartbeats 400000 in
theorem or_clo (p q : Bool) (w : World) : Calls Try.prog 77 #[.bool p, .bool q] w fun e w' => e = .returned (.bool (p || q)) ∧ w' = w := by
  cases p <;> cases q <;> (go_enter Try.func77, Try.ntmps77; go_wp2; go_ret; exact ⟨rfl, rfl⟩)

set_option maxHeartbeats 800000 in
theorem comb_and {w : World} {ga gb go W H c d : Nat} {A D : Option Addr} {f g : Nat → Bool} (ha : Grid w ga W H A c f) (hb : Grid w gb W H D d g) (ho : FnAt w go 76) :
    Gives 83 #[.pointer (some ⟨go, 0, none⟩), .pointer (some ⟨ga, 0, none⟩), .pointer (some ⟨gb, 0, none⟩)] w W H (fun x y => (f (y * W + x) && g (y * W + x))) := by
  intro w1 x y hb1 hx hy
  have ha1 := ha.below hb1
  have hb1' := hb.below hb1
  have ho1 := ho.below hb1
  have HA := Lib.hid (fun w' (h : Below w1.heap.size w1 w') => (cell_nat W H A c x y f w' (ha1.below h).cells ha.w1 ha.h1 x y rfl rfl hx hy).mono fun e w2 hh => (⟨hh.1, h.trans (hh.2.mono h.size)⟩ : e = _ ∧ Below w1.heap.size w1 w2))
  have HB := Lib.hid (fun w' (h : Below w1.heap.size w1 w') => (cell_nat W H D d x y g w' (hb1'.below h).cells ha.w1 ha.h1 x y rfl rfl hx hy).mono fun e w2 hh => (⟨hh.1, h.trans (hh.2.mono h.size)⟩ : e = _ ∧ Below w1.heap.size w1 w2))
  have HK := Lib.hid (fun w' (h : Below w1.heap.size w1 w') => comb_keep ha1 hb1' ho1 h)
  have h0 := comb_keep ha1 hb1' ho1 (Below.refl _ _)
  clear ha hb ho hb1 ha1 hb1' ho1
  obtain ⟨h1, h2, h3, h4, h5, h6, h7⟩ := h0
  go_enter Try.func83, Try.ntmps83
  go_wp2
  go_region_held3 (fun w' => w'.cell? ⟨go, 0, none⟩ = some (.func (.func 76) #[] #[]) ∧ w'.cell? ⟨ga, 0, none⟩ = some (.int .i64 W) ∧ w'.cell? ⟨ga, 1, none⟩ = some (.int .i64 H) ∧ w'.cell? ⟨ga, 2, none⟩ = some (.slice A (W * H) c) ∧
    w'.cell? ⟨gb, 0, none⟩ = some (.int .i64 W) ∧ w'.cell? ⟨gb, 1, none⟩ = some (.int .i64 H) ∧ w'.cell? ⟨gb, 2, none⟩ = some (.slice D (W * H) d))
    (exact HK.out _ (by first | assumption | exact (Below.refl _ _).drew))
    (first
      | (go_at_call_of 84 (Value.slice A (W * H) c); refine (HA.out _ ?_).mono ?_; (first | assumption | exact (Below.refl _ _).drew); rintro e w2 ⟨rfl, hb2⟩)
      | (go_at_call_of 84 (Value.slice D (W * H) d); refine (HB.out _ ?_).mono ?_; (first | assumption | exact (Below.refl _ _).drew); rintro e w2 ⟨rfl, hb2⟩)
      | (go_at_call 76; refine (and_clo _ _ _).mono ?_; rintro e w2 ⟨rfl, rfl⟩))
  all_goals go_wp2
  all_goals go_ret
  all_goals exact ⟨rfl, by assumption⟩

set_option maxHeartbeats 800000 in
theorem comb_or {w : World} {ga gb go W H c d : Nat} {A D : Option Addr} {f g : Nat → Bool} (ha : Grid w ga W H A c f) (hb : Grid w gb W H D d g) (ho : FnAt w go 77) :
    Gives 83 #[.pointer (some ⟨go, 0, none⟩), .pointer (some ⟨ga, 0, none⟩), .pointer (some ⟨gb, 0, none⟩)] w W H (fun x y => (f (y * W + x) || g (y * W + x))) := by
  intro w1 x y hb1 hx hy
  have ha1 := ha.below hb1
  have hb1' := hb.below hb1
  have ho1 := ho.below hb1
  have HA := Lib.hid (fun w' (h : Below w1.heap.size w1 w') => (cell_nat W H A c x y f w' (ha1.below h).cells ha.w1 ha.h1 x y rfl rfl hx hy).mono fun e w2 hh => (⟨hh.1, h.trans (hh.2.mono h.size)⟩ : e = _ ∧ Below w1.heap.size w1 w2))
  have HB := Lib.hid (fun w' (h : Below w1.heap.size w1 w') => (cell_nat W H D d x y g w' (hb1'.below h).cells ha.w1 ha.h1 x y rfl rfl hx hy).mono fun e w2 hh => (⟨hh.1, h.trans (hh.2.mono h.size)⟩ : e = _ ∧ Below w1.heap.size w1 w2))
  have HK := Lib.hid (fun w' (h : Below w1.heap.size w1 w') => comb_keep ha1 hb1' ho1 h)
  have h0 := comb_keep ha1 hb1' ho1 (Below.refl _ _)
  clear ha hb ho hb1 ha1 hb1' ho1
  obtain ⟨h1, h2, h3, h4, h5, h6, h7⟩ := h0
  go_enter Try.func83, Try.ntmps83
  go_wp2
  go_region_held3 (fun w' => w'.cell? ⟨go, 0, none⟩ = some (.func (.func 77) #[] #[]) ∧ w'.cell? ⟨ga, 0, none⟩ = some (.int .i64 W) ∧ w'.cell? ⟨ga, 1, none⟩ = some (.int .i64 H) ∧ w'.cell? ⟨ga, 2, none⟩ = some (.slice A (W * H) c) ∧
    w'.cell? ⟨gb, 0, none⟩ = some (.int .i64 W) ∧ w'.cell? ⟨gb, 1, none⟩ = some (.int .i64 H) ∧ w'.cell? ⟨gb, 2, none⟩ = some (.slice D (W * H) d))
    (exact HK.out _ (by first | assumption | exact (Below.refl _ _).drew))
    (first
      | (go_at_call_of 84 (Value.slice A (W * H) c); refine (HA.out _ ?_).mono ?_; (first | assumption | exact (Below.refl _ _).drew); rintro e w2 ⟨rfl, hb2⟩)
      | (go_at_call_of 84 (Value.slice D (W * H) d); refine (HB.out _ ?_).mono ?_; (first | assumption | exact (Below.refl _ _).drew); rintro e w2 ⟨rfl, hb2⟩)
      | (go_at_call 77; refine (or_clo _ _ _).mono ?_; rintro e w2 ⟨rfl, rfl⟩))
  all_goals go_wp2
  all_goals go_ret
  all_goals exact ⟨rfl, by assumption⟩


theorem FnAt.new (w : World) (k : Nat) : FnAt (w.alloc (.cells #[.func (.func k) #[] #[]] 104)) w.heap.size k := by
  refine ⟨?_, by simp⟩
  simp
/-- The parameters of 'combine' in boxes of their own, and the result's box, behind the first call. -/
theorem afterc {w w1 : World} {W H X Y : Int} {v u : Value} {k : Nat} (hb : Below ((((w.alloc (.cells #[.int .i64 W, .int .i64 H, v] 27)).alloc (.cells #[.int .i64 X, .int .i64 Y, u] 27)).alloc (.cells #[.func (.func k) #[] #[]] 104)).alloc (.cells #[.int .i64 0, .int .i64 0, .slice none 0 0] 27)).heap.size
      ((((w.alloc (.cells #[.int .i64 W, .int .i64 H, v] 27)).alloc (.cells #[.int .i64 X, .int .i64 Y, u] 27)).alloc (.cells #[.func (.func k) #[] #[]] 104)).alloc (.cells #[.int .i64 0, .int .i64 0, .slice none 0 0] 27)) w1) :
    Box w1 w.heap.size W H v ∧ Box w1 (w.heap.size + 1) X Y u ∧ FnAt w1 (w.heap.size + 2) k ∧ Box w1 (w.heap.size + 3) 0 0 (.slice none 0 0) ∧ Below w.heap.size w w1 ∧ w.heap.size + 4 ≤ w1.heap.size := by
  have h1 := ((((Box.new w W H v).alloc (.cells #[.int .i64 X, .int .i64 Y, u] 27)).alloc (.cells #[.func (.func k) #[] #[]] 104)).alloc (.cells #[.int .i64 0, .int .i64 0, .slice none 0 0] 27)).below hb (by simp; omega)
  have h1' := (((Box.new (w.alloc (.cells #[.int .i64 W, .int .i64 H, v] 27)) X Y u).alloc (.cells #[.func (.func k) #[] #[]] 104)).alloc (.cells #[.int .i64 0, .int .i64 0, .slice none 0 0] 27)).below hb (by simp)
  have h2 := (Box.new (((w.alloc (.cells #[.int .i64 W, .int .i64 H, v] 27)).alloc (.cells #[.int .i64 X, .int .i64 Y, u] 27)).alloc (.cells #[.func (.func k) #[] #[]] 104)) 0 0 (.slice none 0 0)).below hb (by simp)
  have n2 := ((FnAt.new ((w.alloc (.cells #[.int .i64 W, .int .i64 H, v] 27)).alloc (.cells #[.int .i64 X, .int .i64 Y, u] 27)) k).below ((Below.refl _ _).alloc (Nat.le_refl _) (.cells #[.int .i64 0, .int .i64 0, .slice none 0 0] 27))).below hb
  have h3 : Below w.heap.size w w1 := (((((Below.refl _ _).alloc (Nat.le_refl _) _).alloc (by simp) _).alloc (by simp; omega) _).alloc (by simp; omega) _).trans (hb.mono (by simp; omega))
  have h4 := hb.size
  simp at h1' h2 h4 n2
  exact ⟨h1, h1', n2, h2, h3, by omega⟩

set_option maxHeartbeats 800000 in
/-- The first grid is refused. -/
theorem comb_err1 (W H X Y : Int) (A D : Option Addr) (n m c d k : Nat) (w : World) (err : Int) (hn : n ≤ 4200) (hx : chk W H n = err) (hne : (err != 0) = true) :
    Calls Try.prog 75 #[.agg #[.int .i64 W, .int .i64 H, .slice A n c], .agg #[.int .i64 X, .int .i64 Y, .slice D m d], .func (.func k) #[] #[]] w (ErrGrid w err) := by
  have HC := Lib.hid (chk_err (A := A) (c := c) hn hx)
  clear hx
  go_enter Try.func75, Try.ntmps75
  go_wp2_with fail
  refine (HC.out _).mono ?_
  rintro e w1 ⟨rfl, hb1⟩
  obtain ⟨hbox1, hbox2, hfn, hbox3, hbel1, hsz1⟩ := afterc hb1
  clear hb1
  obtain ⟨p0, p1, p2, p3, p4, p5, p6⟩ := hbox3.all
  go_wp2
  refine bodyPost_ret (v := .tuple #[.agg #[.int .i64 0, .int .i64 0, .slice none 0 0], .int .i64 err]) (by simp [results, Try.results75, go_sem, p0, p1, p2]) rfl ?_
  exact fin_err (by omega) hbel1

set_option maxHeartbeats 800000 in
/-- The second grid is refused. -/
theorem comb_err2 (W H X Y : Int) (A D : Option Addr) (n m c d k : Nat) (w : World) (err : Int) (hn : n ≤ 4200) (h0 : chk W H n = 0) (hm : m ≤ 4200) (hx : chk X Y m = err) (hne : (err != 0) = true) :
    Calls Try.prog 75 #[.agg #[.int .i64 W, .int .i64 H, .slice A n c], .agg #[.int .i64 X, .int .i64 Y, .slice D m d], .func (.func k) #[] #[]] w (ErrGrid w err) := by
  have HC0 := Lib.hid (chk_err (A := A) (c := c) hn h0)
  have HC := Lib.hid (chk_err (A := D) (c := d) hm hx)
  clear hx h0
  go_enter Try.func75, Try.ntmps75
  go_wp2_with fail
  refine (HC0.out _).mono ?_
  rintro e w1 ⟨rfl, hb1⟩
  obtain ⟨hbox1, hbox2, hfn, hbox3, hbel1, hsz1⟩ := afterc hb1
  clear hb1
  obtain ⟨q0, q1, q2, q3, q4, q5, q6⟩ := hbox2.all
  go_wp2_with fail
  refine (HC.out _).mono ?_
  rintro e w2 ⟨rfl, hb2⟩
  have hbox4 := hbox3.below hb2 (by omega)
  have hbel2 := hbel1.trans (hb2.mono hbel1.size)
  clear hb2
  obtain ⟨p0, p1, p2, p3, p4, p5, p6⟩ := hbox4.all
  go_wp2
  refine bodyPost_ret (v := .tuple #[.agg #[.int .i64 0, .int .i64 0, .slice none 0 0], .int .i64 err]) (by simp [results, Try.results75, go_sem, p0, p1, p2]) rfl ?_
  exact fin_err (by omega) hbel2

set_option maxHeartbeats 800000 in
/-- The two grids are not of one size. -/
theorem comb_arg (W H X Y : Int) (A D : Option Addr) (n m c d k : Nat) (w : World) (hn : n ≤ 4200) (h0 : chk W H n = 0) (hm : m ≤ 4200) (hx : chk X Y m = 0) (hne : ¬ (W = X ∧ H = Y)) :
    Calls Try.prog 75 #[.agg #[.int .i64 W, .int .i64 H, .slice A n c], .agg #[.int .i64 X, .int .i64 Y, .slice D m d], .func (.func k) #[] #[]] w (ErrGrid w 2) := by
  have HC0 := Lib.hid (chk_err (A := A) (c := c) hn h0)
  have HC := Lib.hid (chk_err (A := D) (c := d) hm hx)
  clear hx h0
  have hcase : ((W != X) = true) ∨ ((W != X) = false ∧ (H != Y) = true) := by
    by_cases e : W = X
    · refine .inr ⟨by simp [e], ?_⟩
      simp
      exact fun h => hne ⟨e, h⟩
    · exact .inl (by simp [e])
  clear hne
  go_enter Try.func75, Try.ntmps75
  go_wp2_with fail
  refine (HC0.out _).mono ?_
  rintro e w1 ⟨rfl, hb1⟩
  obtain ⟨hbox1, hbox2, hfn, hbox3, hbel1, hsz1⟩ := afterc hb1
  clear hb1
  obtain ⟨q0, q1, q2, q3, q4, q5, q6⟩ := hbox2.all
  go_wp2_with fail
  refine (HC.out _).mono ?_
  rintro e w2 ⟨rfl, hb2⟩
  have hbox4 := hbox3.below hb2 (by omega)
  have hbox5 := hbox2.below hb2 (by omega)
  have hbox6 := hbox1.below hb2 (by omega)
  have hbel2 := hbel1.trans (hb2.mono hbel1.size)
  clear hb2 q0 q1 q2 q3 q4 q5 q6
  obtain ⟨p0, p1, p2, p3, p4, p5, p6⟩ := hbox4.all
  obtain ⟨q0, q1, q2, q3, q4, q5, q6⟩ := hbox5.all
  obtain ⟨r0, r1, r2, r3, r4, r5, r6⟩ := hbox6.all
  rcases hcase with h | ⟨h, h'⟩
  all_goals
    go_wp2
    refine bodyPost_ret (v := .tuple #[.agg #[.int .i64 0, .int .i64 0, .slice none 0 0], .int .i64 2]) (by simp [results, Try.results75, go_sem, p0, p1, p2]) rfl ?_
    exact fin_err (by omega) hbel2

set_option maxHeartbeats 1600000 in
theorem comb_and_ok (W H : Nat) (A D : Option Addr) (c d : Nat) (f g : Nat → Bool) (w : World) (hr : Holds w w.heap.size A (W * H) f) (hs : Holds w w.heap.size D (W * H) g) (hW0 : 1 ≤ W) (hW : W ≤ 64) (hH0 : 1 ≤ H) (hH : H ≤ 64) :
    Calls Try.prog 75 #[.agg #[.int .i64 W, .int .i64 H, .slice A (W * H) c], .agg #[.int .i64 W, .int .i64 H, .slice D (W * H) d], .func (.func 76) #[] #[]] w (OkGrid w W H fun i => (f i && g i)) := by
  have hmf := mk_fn
  have HR := Lib.hid hr
  have HS := Lib.hid hs
  clear hr hs
  have z1 : ((W : Int) != (W : Int)) = false := by simp
  have z2 : ((H : Int) != (H : Int)) = false := by simp
  go_enter Try.func75, Try.ntmps75
  go_wp2_with fail
  refine (chk_valid A c _ hW0 hW hH0 hH).mono ?_
  rintro e w1 ⟨rfl, hb1⟩
  obtain ⟨hbox1, hbox2, hfn, hbox3, hbel1, hsz1⟩ := afterc hb1
  clear hb1
  obtain ⟨q0, q1, q2, q3, q4, q5, q6⟩ := hbox2.all
  go_wp2_with fail
  refine (chk_valid D d _ hW0 hW hH0 hH).mono ?_
  rintro e w2 ⟨rfl, hb2⟩
  have hbox4 := hbox3.below hb2 (by omega)
  have hbox5 := hbox2.below hb2 (by omega)
  have hbox6 := hbox1.below hb2 (by omega)
  have hfn2 := hfn.below hb2
  have hbel2 := hbel1.trans (hb2.mono hbel1.size)
  have hsz2 := hb2.size
  clear hb2 q0 q1 q2 q3 q4 q5 q6
  obtain ⟨q0, q1, q2, q3, q4, q5, q6⟩ := hbox5.all
  obtain ⟨r0, r1, r2, r3, r4, r5, r6⟩ := hbox6.all
  go_wp2_with fail
  refine (build_any W H hW0 hW hH0 hH 83 _ _ _ (comb_and ⟨hbox6, (HR.out.below hbel2).more hbel2.size, hW0, hW, hH0, hH⟩ ⟨hbox5, (HS.out.below hbel2).more hbel2.size, hW0, hW, hH0, hH⟩ hfn2) (Go.Proofs.enters_of Try.func83 (by kernel_rfl) rfl)).mono ?_
  rintro e w3 ⟨k, rfl, hk, hrow, hb3⟩
  have hbox7 := hbox4.below hb3 (by omega)
  obtain ⟨p0, p1, p2, p3, p4, p5, p6⟩ := hbox7.all
  go_wp2
  refine bodyPost_ret (v := .tuple #[.agg #[.int .i64 W, .int .i64 H, .slice (some ⟨k, 0, none⟩) (W * H) (W * H)], .int .i64 0]) (by simp [results, Try.results75, go_sem, p0, p1, p2]) rfl ?_
  exact fin_ok (by omega) (by omega) (hrow.congr fun i hi => by rw [nat_div_mod]) (hbel2.trans (hb3.mono hbel2.size))

set_option maxHeartbeats 800000 in
theorem and_of_err (W H X Y : Int) (A D : Option Addr) (n m c d : Nat) (w : World) (err : Int) (hC : ∀ w', Below w.heap.size w w' → Calls Try.prog 75 #[.agg #[.int .i64 W, .int .i64 H, .slice A n c], .agg #[.int .i64 X, .int .i64 Y, .slice D m d], .func (.func 76) #[] #[]] w' (ErrGrid w' err)) :
    Calls Try.prog 48 #[.agg #[.int .i64 W, .int .i64 H, .slice A n c], .agg #[.int .i64 X, .int .i64 Y, .slice D m d]] w (ErrGrid w err) := by
  have HC := Lib.hid hC
  clear hC
  have hbel0 : Below w.heap.size w (((w.alloc (.cells #[.int .i64 W, .int .i64 H, .slice A n c] 27)).alloc (.cells #[.int .i64 X, .int .i64 Y, .slice D m d] 27)).alloc (.cells #[.int .i64 0, .int .i64 0, .slice none 0 0] 27)) :=
    (((Below.refl _ _).alloc (Nat.le_refl _) _).alloc (by simp) _).alloc (by simp; omega) _
  have hbox0 := Box.new ((w.alloc (.cells #[.int .i64 W, .int .i64 H, .slice A n c] 27)).alloc (.cells #[.int .i64 X, .int .i64 Y, .slice D m d] 27)) 0 0 (.slice none 0 0)
  have HB := Lib.hid hbel0
  have HX := Lib.hid hbox0
  clear hbel0 hbox0
  go_enter Try.func48, Try.ntmps48
  go_wp2_with fail
  refine (HC.out _ HB.out).mono ?_
  rintro e w1 ⟨rfl, hb1⟩
  have hbox1 := HX.out.below hb1 (by simp)
  have hbel1 := HB.out.trans (hb1.mono HB.out.size)
  have hs1 := hb1.size
  simp at hbox1 hs1
  clear hb1
  obtain ⟨p0, p1, p2, p3, p4, p5, p6⟩ := hbox1.all
  go_wp2
  refine bodyPost_ret (v := .tuple #[.agg #[.int .i64 0, .int .i64 0, .slice none 0 0], .int .i64 err]) (by simp [results, Try.results48, go_sem, p0, p1, p2]) rfl ?_
  exact fin_err (by omega) hbel1

set_option maxHeartbeats 800000 in
theorem and_of_ok (W H X Y : Int) (A D : Option Addr) (n m c d : Nat) (w : World) (V U : Nat) (F : Nat → Bool) (hC : ∀ w', Below w.heap.size w w' → Calls Try.prog 75 #[.agg #[.int .i64 W, .int .i64 H, .slice A n c], .agg #[.int .i64 X, .int .i64 Y, .slice D m d], .func (.func 76) #[] #[]] w' (OkGrid w' V U F)) :
    Calls Try.prog 48 #[.agg #[.int .i64 W, .int .i64 H, .slice A n c], .agg #[.int .i64 X, .int .i64 Y, .slice D m d]] w (OkGrid w V U F) := by
  have HC := Lib.hid hC
  clear hC
  have hbel0 : Below w.heap.size w (((w.alloc (.cells #[.int .i64 W, .int .i64 H, .slice A n c] 27)).alloc (.cells #[.int .i64 X, .int .i64 Y, .slice D m d] 27)).alloc (.cells #[.int .i64 0, .int .i64 0, .slice none 0 0] 27)) :=
    (((Below.refl _ _).alloc (Nat.le_refl _) _).alloc (by simp) _).alloc (by simp; omega) _
  have hbox0 := Box.new ((w.alloc (.cells #[.int .i64 W, .int .i64 H, .slice A n c] 27)).alloc (.cells #[.int .i64 X, .int .i64 Y, .slice D m d] 27)) 0 0 (.slice none 0 0)
  have HB := Lib.hid hbel0
  have HX := Lib.hid hbox0
  clear hbel0 hbox0
  go_enter Try.func48, Try.ntmps48
  go_wp2_with fail
  refine (HC.out _ HB.out).mono ?_
  rintro e w1 ⟨k, rfl, hk, hrow, hb1⟩
  have hbox1 := HX.out.below hb1 (by simp)
  have hbel1 := HB.out.trans (hb1.mono HB.out.size)
  have hs1 := hb1.size
  simp at hbox1 hs1 hk
  clear hb1
  obtain ⟨p0, p1, p2, p3, p4, p5, p6⟩ := hbox1.all
  go_wp2
  refine bodyPost_ret (v := .tuple #[.agg #[.int .i64 V, .int .i64 U, .slice (some ⟨k, 0, none⟩) (V * U) (V * U)], .int .i64 0]) (by simp [results, Try.results48, go_sem, p0, p1, p2]) rfl ?_
  exact fin_ok (by omega) (by omega) hrow hbel1

set_option maxHeartbeats 1600000 in
theorem comb_or_ok (W H : Nat) (A D : Option Addr) (c d : Nat) (f g : Nat → Bool) (w : World) (hr : Holds w w.heap.size A (W * H) f) (hs : Holds w w.heap.size D (W * H) g) (hW0 : 1 ≤ W) (hW : W ≤ 64) (hH0 : 1 ≤ H) (hH : H ≤ 64) :
    Calls Try.prog 75 #[.agg #[.int .i64 W, .int .i64 H, .slice A (W * H) c], .agg #[.int .i64 W, .int .i64 H, .slice D (W * H) d], .func (.func 77) #[] #[]] w (OkGrid w W H fun i => (f i || g i)) := by
  have hmf := mk_fn
  have HR := Lib.hid hr
  have HS := Lib.hid hs
  clear hr hs
  have z1 : ((W : Int) != (W : Int)) = false := by simp
  have z2 : ((H : Int) != (H : Int)) = false := by simp
  go_enter Try.func75, Try.ntmps75
  go_wp2_with fail
  refine (chk_valid A c _ hW0 hW hH0 hH).mono ?_
  rintro e w1 ⟨rfl, hb1⟩
  obtain ⟨hbox1, hbox2, hfn, hbox3, hbel1, hsz1⟩ := afterc hb1
  clear hb1
  obtain ⟨q0, q1, q2, q3, q4, q5, q6⟩ := hbox2.all
  go_wp2_with fail
  refine (chk_valid D d _ hW0 hW hH0 hH).mono ?_
  rintro e w2 ⟨rfl, hb2⟩
  have hbox4 := hbox3.below hb2 (by omega)
  have hbox5 := hbox2.below hb2 (by omega)
  have hbox6 := hbox1.below hb2 (by omega)
  have hfn2 := hfn.below hb2
  have hbel2 := hbel1.trans (hb2.mono hbel1.size)
  have hsz2 := hb2.size
  clear hb2 q0 q1 q2 q3 q4 q5 q6
  obtain ⟨q0, q1, q2, q3, q4, q5, q6⟩ := hbox5.all
  obtain ⟨r0, r1, r2, r3, r4, r5, r6⟩ := hbox6.all
  go_wp2_with fail
  refine (build_any W H hW0 hW hH0 hH 83 _ _ _ (comb_or ⟨hbox6, (HR.out.below hbel2).more hbel2.size, hW0, hW, hH0, hH⟩ ⟨hbox5, (HS.out.below hbel2).more hbel2.size, hW0, hW, hH0, hH⟩ hfn2) (Go.Proofs.enters_of Try.func83 (by kernel_rfl) rfl)).mono ?_
  rintro e w3 ⟨k, rfl, hk, hrow, hb3⟩
  have hbox7 := hbox4.below hb3 (by omega)
  obtain ⟨p0, p1, p2, p3, p4, p5, p6⟩ := hbox7.all
  go_wp2
  refine bodyPost_ret (v := .tuple #[.agg #[.int .i64 W, .int .i64 H, .slice (some ⟨k, 0, none⟩) (W * H) (W * H)], .int .i64 0]) (by simp [results, Try.results75, go_sem, p0, p1, p2]) rfl ?_
  exact fin_ok (by omega) (by omega) (hrow.congr fun i hi => by rw [nat_div_mod]) (hbel2.trans (hb3.mono hbel2.size))

set_option maxHeartbeats 800000 in
theorem or_of_err (W H X Y : Int) (A D : Option Addr) (n m c d : Nat) (w : World) (err : Int) (hC : ∀ w', Below w.heap.size w w' → Calls Try.prog 75 #[.agg #[.int .i64 W, .int .i64 H, .slice A n c], .agg #[.int .i64 X, .int .i64 Y, .slice D m d], .func (.func 77) #[] #[]] w' (ErrGrid w' err)) :
    Calls Try.prog 49 #[.agg #[.int .i64 W, .int .i64 H, .slice A n c], .agg #[.int .i64 X, .int .i64 Y, .slice D m d]] w (ErrGrid w err) := by
  have HC := Lib.hid hC
  clear hC
  have hbel0 : Below w.heap.size w (((w.alloc (.cells #[.int .i64 W, .int .i64 H, .slice A n c] 27)).alloc (.cells #[.int .i64 X, .int .i64 Y, .slice D m d] 27)).alloc (.cells #[.int .i64 0, .int .i64 0, .slice none 0 0] 27)) :=
    (((Below.refl _ _).alloc (Nat.le_refl _) _).alloc (by simp) _).alloc (by simp; omega) _
  have hbox0 := Box.new ((w.alloc (.cells #[.int .i64 W, .int .i64 H, .slice A n c] 27)).alloc (.cells #[.int .i64 X, .int .i64 Y, .slice D m d] 27)) 0 0 (.slice none 0 0)
  have HB := Lib.hid hbel0
  have HX := Lib.hid hbox0
  clear hbel0 hbox0
  go_enter Try.func49, Try.ntmps49
  go_wp2_with fail
  refine (HC.out _ HB.out).mono ?_
  rintro e w1 ⟨rfl, hb1⟩
  have hbox1 := HX.out.below hb1 (by simp)
  have hbel1 := HB.out.trans (hb1.mono HB.out.size)
  have hs1 := hb1.size
  simp at hbox1 hs1
  clear hb1
  obtain ⟨p0, p1, p2, p3, p4, p5, p6⟩ := hbox1.all
  go_wp2
  refine bodyPost_ret (v := .tuple #[.agg #[.int .i64 0, .int .i64 0, .slice none 0 0], .int .i64 err]) (by simp [results, Try.results49, go_sem, p0, p1, p2]) rfl ?_
  exact fin_err (by omega) hbel1

set_option maxHeartbeats 800000 in
theorem or_of_ok (W H X Y : Int) (A D : Option Addr) (n m c d : Nat) (w : World) (V U : Nat) (F : Nat → Bool) (hC : ∀ w', Below w.heap.size w w' → Calls Try.prog 75 #[.agg #[.int .i64 W, .int .i64 H, .slice A n c], .agg #[.int .i64 X, .int .i64 Y, .slice D m d], .func (.func 77) #[] #[]] w' (OkGrid w' V U F)) :
    Calls Try.prog 49 #[.agg #[.int .i64 W, .int .i64 H, .slice A n c], .agg #[.int .i64 X, .int .i64 Y, .slice D m d]] w (OkGrid w V U F) := by
  have HC := Lib.hid hC
  clear hC
  have hbel0 : Below w.heap.size w (((w.alloc (.cells #[.int .i64 W, .int .i64 H, .slice A n c] 27)).alloc (.cells #[.int .i64 X, .int .i64 Y, .slice D m d] 27)).alloc (.cells #[.int .i64 0, .int .i64 0, .slice none 0 0] 27)) :=
    (((Below.refl _ _).alloc (Nat.le_refl _) _).alloc (by simp) _).alloc (by simp; omega) _
  have hbox0 := Box.new ((w.alloc (.cells #[.int .i64 W, .int .i64 H, .slice A n c] 27)).alloc (.cells #[.int .i64 X, .int .i64 Y, .slice D m d] 27)) 0 0 (.slice none 0 0)
  have HB := Lib.hid hbel0
  have HX := Lib.hid hbox0
  clear hbel0 hbox0
  go_enter Try.func49, Try.ntmps49
  go_wp2_with fail
  refine (HC.out _ HB.out).mono ?_
  rintro e w1 ⟨k, rfl, hk, hrow, hb1⟩
  have hbox1 := HX.out.below hb1 (by simp)
  have hbel1 := HB.out.trans (hb1.mono HB.out.size)
  have hs1 := hb1.size
  simp at hbox1 hs1 hk
  clear hb1
  obtain ⟨p0, p1, p2, p3, p4, p5, p6⟩ := hbox1.all
  go_wp2
  refine bodyPost_ret (v := .tuple #[.agg #[.int .i64 V, .int .i64 U, .slice (some ⟨k, 0, none⟩) (V * U) (V * U)], .int .i64 0]) (by simp [results, Try.results49, go_sem, p0, p1, p2]) rfl ?_
  exact fin_ok (by omega) (by omega) hrow hbel1
end Go.Proofs.Ytmcdfnhpaneanaa
