/- Same of images, of both sides. -/
import Derived.Test.YtmcdfnhpaneanaaCfr
import Derived.BigQuiet
namespace Go.Proofs.Ytmcdfnhpaneanaa
open Go.RowKit
set_option maxRecDepth 100000
set_option linter.unusedVariables false
set_option linter.unusedSimpArgs false

theorem iequal_len (A D : Option Addr) (n m c d : Nat) (w : World) (h : ¬ n = m) :
    Calls Try.prog 78 #[.slice A n c, .slice D m d] w fun e w' => e = .returned (.bool false) ∧ w' = w := by
  have z : ((n : Int) != (m : Int)) = true := by simp; omega
  clear h
  go_enter Try.func78, Try.ntmps78
  go_wp2
  go_ret
  exact ⟨rfl, rfl⟩

set_option maxHeartbeats 1600000 in
theorem iequal_any (A D : Option Addr) (n c d : Nat) (f g : Nat → Int) (w : World) (hn : n ≤ 5000) (hr : L2.Holds w w.heap.size A n f) (hs : L2.Holds w w.heap.size D n g) :
    Calls Try.prog 78 #[.slice A n c, .slice D n d] w fun e w' => e = .returned (.bool (decide (∀ i, i < n → f i = g i))) ∧ Below w.heap.size w w' := by
  have z3 : ((n : Int) != (n : Int)) = false := by simp
  have HR := Lib.hid hr
  have HS := Lib.hid hs
  clear hr hs
  go_enter Try.func78, Try.ntmps78
  go_wp2
  go_loopw [13] (fun i wr => ∃ k : Nat, k ≤ n ∧ i = .int .i64 k ∧ Hid (∀ i, i < k → f i = g i) ∧ Below w.heap.size w wr) (fun i _ => n - (intOf i).toNat)
  case atStart => exact ⟨0, Nat.zero_le _, rfl, fun i hi => absurd hi (by omega), Below.refl _ _⟩
  case round =>
    obtain ⟨k, hk, rfl, hall, hbel⟩ := hrel
    by_cases hlt : k < n
    · obtain ⟨b, o, rfl, hbl, hc⟩ := (HR.out.below hbel) (by omega)
      obtain ⟨b', o', rfl, hbl', hc'⟩ := (HS.out.below hbel) (by omega)
      have c1 := hc k hlt
      have c2 := hc' k hlt
      clear hc hc'
      have hbs := hbel.size
      have B1 := Lib.hid hbel
      clear hbel
      have y1 : (0 : Int) ≤ (k : Int) := by omega
      have y2 : (k : Int) < (n : Int) := by omega
      obtain ⟨u, hu⟩ : ∃ u, f k = u := ⟨_, rfl⟩
      obtain ⟨v, hv⟩ : ∃ v, g k = v := ⟨_, rfl⟩
      rw [hu] at c1
      rw [hv] at c2
      have HU := Lib.hid hu
      have HV := Lib.hid hv
      clear hu hv
      by_cases e : u = v
      · have E := Lib.hid (show f k = g k by rw [HU.out, HV.out, e])
        subst e
        have z : (u != u) = false := by simp
        go_wp2
        go_quiet (fail)
        go_wp2
        refine ⟨⟨k + 1, by omega, by go_num, fun i hi => ?_, Go.Proofs.below_drewN' B1.out _⟩, by simp [intOf]; omega⟩
        rcases Nat.lt_succ_iff_lt_or_eq.1 hi with h | rfl
        · exact hall.out i h
        · exact E.out
      · have E := Lib.hid (show ¬ f k = g k by rw [HU.out, HV.out]; exact e)
        have z : (u != v) = true := by simp [e]
        clear e
        go_wp2
        go_quiet (fail)
        go_wp2
        go_ret
        exact ⟨ret_bool (by symm; rw [decide_eq_false_iff_not]; exact fun h => E.out (h k hlt)), Go.Proofs.below_drewN' B1.out _⟩
    · have e : k = n := by omega
      subst e
      go_wp2
      go_ret
      exact ⟨ret_bool (by symm; rw [decide_eq_true_iff]; exact hall.out), hbel⟩
/-- The two images that are compared: their boxes and their cells. -/
structure TwoI (w : World) (ga gb : Nat) (W H : Int) (A : Option Addr) (n c : Nat) (f : Nat → Int) (X Y : Int) (D : Option Addr) (m d : Nat) (g : Nat → Int) : Prop where
  boxa : IBox w ga W H (.slice A n c)
  boxb : IBox w gb X Y (.slice D m d)
  ca : L2.Holds w w.heap.size A n f
  cb : L2.Holds w w.heap.size D m g

theorem TwoI.below {w w' : World} {ga gb n c m d : Nat} {W H X Y : Int} {A D : Option Addr} {f g : Nat → Int} (h : TwoI w ga gb W H A n c f X Y D m d g) (hb : Below w.heap.size w w') : TwoI w' ga gb W H A n c f X Y D m d g :=
  ⟨h.boxa.below hb h.boxa.lt, h.boxb.below hb h.boxb.lt, (h.ca.below hb).more hb.size, (h.cb.below hb).more hb.size⟩

theorem boxesI (w : World) (W H X Y : Int) (v u : Value) :
    IBox ((w.alloc (.cells #[.int .i64 W, .int .i64 H, v] 24)).alloc (.cells #[.int .i64 X, .int .i64 Y, u] 24)) w.heap.size W H v ∧
    IBox ((w.alloc (.cells #[.int .i64 W, .int .i64 H, v] 24)).alloc (.cells #[.int .i64 X, .int .i64 Y, u] 24)) (w.heap.size + 1) X Y u ∧
    Below w.heap.size w ((w.alloc (.cells #[.int .i64 W, .int .i64 H, v] 24)).alloc (.cells #[.int .i64 X, .int .i64 Y, u] 24)) := by
  have h2 := IBox.new (w.alloc (.cells #[.int .i64 W, .int .i64 H, v] 24)) X Y u
  simp only [World.size_alloc] at h2
  exact ⟨(IBox.new w W H v).alloc _, h2, ((Below.refl _ _).alloc (Nat.le_refl _) _).alloc (by simp) _⟩

set_option maxHeartbeats 800000 in
theorem risame_no0 (W H X Y : Int) (A D : Option Addr) (n m c d : Nat) (w : World) (h : ¬ (W = X ∧ H = Y ∧ n = m)) :
    Calls Try.prog 21 #[.agg #[.int .i64 W, .int .i64 H, .slice A n c], .agg #[.int .i64 X, .int .i64 Y, .slice D m d]] w fun e w' => e = .returned (.bool false) ∧ Below w.heap.size w w' := by
  have hcase : ((W != X) = true) ∨ ((W != X) = false ∧ (H != Y) = true) ∨ ((W != X) = false ∧ (H != Y) = false ∧ ((n : Int) != (m : Int)) = true) := by
    by_cases e : W = X
    · by_cases e' : H = Y
      · refine .inr (.inr ⟨by simp [e], by simp [e'], ?_⟩)
        simp
        intro h'
        exact h ⟨e, e', by omega⟩
      · exact .inr (.inl ⟨by simp [e], by simp [e']⟩)
    · exact .inl (by simp [e])
  clear h
  have hb := Lib.hid (boxesI w W H X Y (.slice A n c) (.slice D m d)).2.2
  rcases hcase with h | ⟨h, h'⟩ | ⟨h, h', h''⟩
  all_goals
    go_enter Try.func21, Try.ntmps21
    go_wp2
    go_ret
    exact ⟨rfl, hb.out⟩

set_option maxHeartbeats 1600000 in
theorem risame_loop (W H X Y : Int) (A D : Option Addr) (n c d : Nat) (f g : Nat → Int) (w : World) (hn : n ≤ 5000) (eW : W = X) (eH : H = Y) (hr : L2.Holds w w.heap.size A n f) (hs : L2.Holds w w.heap.size D n g) :
    Calls Try.prog 21 #[.agg #[.int .i64 W, .int .i64 H, .slice A n c], .agg #[.int .i64 X, .int .i64 Y, .slice D n d]] w fun e w' => e = .returned (.bool (decide (∀ i, i < n → f i = g i))) ∧ Below w.heap.size w w' := by
  subst eW eH
  obtain ⟨hb1, hb2, hb3⟩ := boxesI w W H W H (.slice A n c) (.slice D n d)
  have T0 := Lib.hid (⟨hb1, hb2, (hr.below hb3).more hb3.size, (hs.below hb3).more hb3.size⟩ : TwoI _ w.heap.size (w.heap.size + 1) W H A n c f W H D n d g)
  have B0 := Lib.hid hb3
  clear hb1 hb2 hb3 hr hs
  have z1 : (W != W) = false := by simp
  have z2 : (H != H) = false := by simp
  have z3 : ((n : Int) != (n : Int)) = false := by simp
  go_enter Try.func21, Try.ntmps21
  go_wp2
  go_loopw [5] (fun i wr => ∃ k : Nat, k ≤ n ∧ i = .int .i64 k ∧ Hid (∀ i, i < k → f i = g i) ∧ TwoI wr w.heap.size (w.heap.size + 1) W H A n c f W H D n d g ∧ Below w.heap.size w wr) (fun i _ => n - (intOf i).toNat)
  case atStart => exact ⟨0, Nat.zero_le _, rfl, fun i hi => absurd hi (by omega), T0.out, B0.out⟩
  case round =>
    obtain ⟨k, hk, rfl, hall, T, hbel⟩ := hrel
    obtain ⟨q0, q1, q2, q3, q4, q5, q6⟩ := T.boxa.all
    obtain ⟨p0, p1, p2, p3, p4, p5, p6⟩ := T.boxb.all
    by_cases hlt : k < n
    · obtain ⟨b, o, rfl, hbl, hc⟩ := T.ca (by omega)
      obtain ⟨b', o', rfl, hbl', hc'⟩ := T.cb (by omega)
      have c1 := hc k hlt
      have c2 := hc' k hlt
      clear hc hc'
      have hT := Lib.hid T
      clear T
      have y1 : (0 : Int) ≤ (k : Int) := by omega
      have y2 : (k : Int) < (n : Int) := by omega
      obtain ⟨u, hu⟩ : ∃ u, f k = u := ⟨_, rfl⟩
      obtain ⟨v, hv⟩ : ∃ v, g k = v := ⟨_, rfl⟩
      rw [hu] at c1
      rw [hv] at c2
      have HU := Lib.hid hu
      have HV := Lib.hid hv
      clear hu hv
      by_cases e : u = v
      · have E : f k = g k := by rw [HU.out, HV.out, e]
        have E := Lib.hid E
        subst e
        have z : (u != u) = false := by simp
        all_goals
          go_wp2
          go_quiet (fail)
          go_wp2
          refine ⟨⟨k + 1, by omega, by go_num, fun i hi => ?_, hT.out.below (Go.Proofs.below_drewN' (Below.refl _ _) _), Go.Proofs.below_drewN' hbel _⟩, by simp [intOf]; omega⟩
          rcases Nat.lt_succ_iff_lt_or_eq.1 hi with h | rfl
          · exact hall.out i h
          · exact E.out
      · have E : ¬ f k = g k := by rw [HU.out, HV.out]; exact e
        have E := Lib.hid E
        have z : (u != v) = true := by simp [e]
        all_goals
          clear e
          go_wp2
          go_quiet (fail)
          go_wp2
          go_ret
          exact ⟨ret_bool (by symm; rw [decide_eq_false_iff_not]; exact fun h => E.out (h k hlt)), Go.Proofs.below_drewN' hbel _⟩
    · have e : k = n := by omega
      subst e
      go_wp2
      go_ret
      exact ⟨ret_bool (by symm; rw [decide_eq_true_iff]; exact hall.out), hbel⟩
/-- Whether two images are equal. -/
def sameB (W H X Y : Int) (n m : Nat) (f g : Nat → Int) : Bool := decide (W = X ∧ H = Y ∧ n = m ∧ ∀ i, i < n → f i = g i)
theorem sameB_no {W H X Y : Int} {n m : Nat} {f g : Nat → Int} (h : ¬ (W = X ∧ H = Y ∧ n = m)) : sameB W H X Y n m f g = false := decide_eq_false fun q => h ⟨q.1, q.2.1, q.2.2.1⟩
theorem sameB_all {W H : Int} {n : Nat} {f g : Nat → Int} : sameB W H W H n n f g = decide (∀ i, i < n → f i = g i) := by unfold sameB; simp
theorem sameB_yes {W H : Int} {n : Nat} {f g : Nat → Int} (h : ∀ i, i < n → f i = g i) : sameB W H W H n n f g = true := by rw [sameB_all]; exact decide_eq_true h
theorem risame_any (W H X Y : Int) (A D : Option Addr) (n m c d : Nat) (f g : Nat → Int) (w : World) (hn : n ≤ 5000) (hr : L2.Holds w w.heap.size A n f) (hs : L2.Holds w w.heap.size D m g) :
    Calls Try.prog 21 #[.agg #[.int .i64 W, .int .i64 H, .slice A n c], .agg #[.int .i64 X, .int .i64 Y, .slice D m d]] w fun e w' => e = .returned (.bool (sameB W H X Y n m f g)) ∧ Below w.heap.size w w' := by
  by_cases h : W = X ∧ H = Y ∧ n = m
  · obtain ⟨rfl, rfl, rfl⟩ := h
    rw [sameB_all]
    exact risame_loop W H W H A D n c d f g w hn rfl rfl hr hs
  · rw [sameB_no h]
    exact risame_no0 W H X Y A D n m c d w h
set_option maxHeartbeats 800000 in
theorem isame_any (W H X Y : Int) (A D : Option Addr) (n m c d : Nat) (f g : Nat → Int) (w : World) (hn : n ≤ 5000) (hr : L2.Holds w w.heap.size A n f) (hs : L2.Holds w w.heap.size D m g) :
    Calls Try.prog 52 #[.agg #[.int .i64 W, .int .i64 H, .slice A n c], .agg #[.int .i64 X, .int .i64 Y, .slice D m d]] w fun e w' => e = .returned (.bool (sameB W H X Y n m f g)) ∧ Below w.heap.size w w' := by
  have hb := Lib.hid (boxesI w W H X Y (.slice A n c) (.slice D m d)).2.2
  by_cases h1 : W = X
  · by_cases h2 : H = Y
    · by_cases h3 : n = m
      · subst h1 h2 h3
        rw [sameB_all]
        have HE := Lib.hid (fun u (hb : Below w.heap.size w u) => iequal_any A D n c d f g u hn ((hr.below hb).more hb.size) ((hs.below hb).more hb.size))
        have z1 : (W == W) = true := by simp
        have z2 : (H == H) = true := by simp
        clear hr hs hb
        generalize decide (∀ i, i < n → f i = g i) = bv at *
        have LB0 := Lib.hid (Below.refl w.heap.size w)
        have X1 := IBox.new w W H (.slice A n c)
        have X1 := Lib.hid X1
        have LB0 := Lib.hid (LB0.out.alloc LB0.out.size (.cells #[.int .i64 W, .int .i64 H, .slice A n c] 24))
        have X1 := Lib.hid (X1.out.alloc (.cells #[.int .i64 W, .int .i64 H, .slice D n d] 24))
        have X2 := IBox.new (w.alloc (.cells #[.int .i64 W, .int .i64 H, .slice A n c] 24)) W H (.slice D n d)
        rw [show ((w.alloc (.cells #[.int .i64 W, .int .i64 H, .slice A n c] 24))).heap.size = w.heap.size + 1 by simp] at X2
        have X2 := Lib.hid X2
        have LB0 := Lib.hid (LB0.out.alloc LB0.out.size (.cells #[.int .i64 W, .int .i64 H, .slice D n d] 24))
        go_enter Try.func52, Try.ntmps52
        go_upto_region 1 with (fail)
        generalize (w.alloc (.cells #[.int .i64 W, .int .i64 H, .slice A n c] 24)).alloc (.cells #[.int .i64 W, .int .i64 H, .slice D n d] 24) = w0 at *
        obtain ⟨q0, q1, q2, q3, q4, q5, q6⟩ := X1.out.all
        obtain ⟨q7, q8, q9, q10, q11, q12, q13⟩ := X2.out.all
        go_wp2_with fail
        clear q0 q1 q2 q3 q4 q5 q6 q7 q8 q9 q10 q11 q12 q13
        with_reducible refine Calls.mono (HE.out _ LB0.out) ?_
        rintro e w1 ⟨rfl, hb⟩
        have LB1 := Lib.hid (LB0.out.trans (hb.mono LB0.out.size))
        have X1 := Lib.hid (X1.out.below hb X1.out.lt)
        have X2 := Lib.hid (X2.out.below hb X2.out.lt)
        clear hb LB0 
        go_wp2
        go_ret
        exact ⟨rfl, LB1.out⟩
      · have HE := Lib.hid (fun u => iequal_len A D n m c d u h3)
        subst h1 h2
        rw [sameB_no (fun q => h3 q.2.2)]
        have z1 : (W == W) = true := by simp
        have z2 : (H == H) = true := by simp
        clear hr hs hb h3
        have LB0 := Lib.hid (Below.refl w.heap.size w)
        have X1 := IBox.new w W H (.slice A n c)
        have X1 := Lib.hid X1
        have LB0 := Lib.hid (LB0.out.alloc LB0.out.size (.cells #[.int .i64 W, .int .i64 H, .slice A n c] 24))
        have X1 := Lib.hid (X1.out.alloc (.cells #[.int .i64 W, .int .i64 H, .slice D m d] 24))
        have X2 := IBox.new (w.alloc (.cells #[.int .i64 W, .int .i64 H, .slice A n c] 24)) W H (.slice D m d)
        rw [show ((w.alloc (.cells #[.int .i64 W, .int .i64 H, .slice A n c] 24))).heap.size = w.heap.size + 1 by simp] at X2
        have X2 := Lib.hid X2
        have LB0 := Lib.hid (LB0.out.alloc LB0.out.size (.cells #[.int .i64 W, .int .i64 H, .slice D m d] 24))
        go_enter Try.func52, Try.ntmps52
        go_upto_region 1 with (fail)
        generalize (w.alloc (.cells #[.int .i64 W, .int .i64 H, .slice A n c] 24)).alloc (.cells #[.int .i64 W, .int .i64 H, .slice D m d] 24) = w0 at *
        obtain ⟨q0, q1, q2, q3, q4, q5, q6⟩ := X1.out.all
        obtain ⟨q7, q8, q9, q10, q11, q12, q13⟩ := X2.out.all
        go_wp2_with fail
        with_reducible refine Calls.mono (HE.out _) ?_
        rintro e wx ⟨rfl, hwx⟩
        subst hwx
        go_wp2
        go_ret
        exact ⟨rfl, LB0.out⟩
    · subst h1
      rw [sameB_no (fun q => h2 q.2.1)]
      have z1 : (W == W) = true := by simp
      have z2 : (H == Y) = false := by simp [h2]
      clear hr hs h2
      go_enter Try.func52, Try.ntmps52
      go_wp2
      go_ret
      exact ⟨rfl, hb.out⟩
  · rw [sameB_no (fun q => h1 q.1)]
    have z1 : (W == X) = false := by simp [h1]
    clear hr hs h1
    go_enter Try.func52, Try.ntmps52
    go_wp2
    go_ret
    exact ⟨rfl, hb.out⟩
end Go.Proofs.Ytmcdfnhpaneanaa
