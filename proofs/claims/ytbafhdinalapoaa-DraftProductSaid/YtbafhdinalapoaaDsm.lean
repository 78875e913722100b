/- Whether two drafts are the same, by the program and by the reference. -/
import Derived.Test.YtbafhdinalapoaaEq
import Derived.Test.YtbafhdinalapoaaISame
import Derived.Test.YtbafhdinalapoaaDck
namespace Go.Proofs.Ytbafhdinalapoaa
open Go.RowKit
set_option linter.unusedVariables false
set_option linter.unusedSimpArgs false
set_option maxRecDepth 100000

set_option maxHeartbeats 400000 in
theorem iequal_len (A D : Option Addr) (n m c d : Nat) (w : World) (h : ¬ n = m) :
    Calls Try.prog 63 #[.slice A n c, .slice D m d] w fun e w' => e = .returned (.bool false) ∧ w' = w := by
  have z : ((n : Int) != (m : Int)) = true := by simp; omega
  clear h
  go_enter Try.func63, Try.ntmps63
  go_wp2
  go_ret
  exact ⟨rfl, rfl⟩

set_option maxHeartbeats 1600000 in
theorem iequal_any (A D : Option Addr) (n c d : Nat) (f g : Nat → Int) (w : World) (hn : n ≤ 5000) (hr : L2.Holds w w.heap.size A n f) (hs : L2.Holds w w.heap.size D n g) :
    Calls Try.prog 63 #[.slice A n c, .slice D n d] w fun e w' => e = .returned (.bool (decide (∀ i, i < n → f i = g i))) ∧ Below w.heap.size w w' := by
  have z3 : ((n : Int) != (n : Int)) = false := by simp
  have HR := Lib.hid hr
  have HS := Lib.hid hs
  clear hr hs
  go_enter Try.func63, Try.ntmps63
  go_wp2
  go_loopw [13] (fun i wr => ∃ k : Nat, k ≤ n ∧ i = .int .i64 k ∧ Hid (∀ i, i < k → f i = g i) ∧ Below w.heap.size w wr) (fun i _ => n - (intOf i).toNat)
  case atStart => exact ⟨0, Nat.zero_le _, rfl, fun i hi => absurd hi (by omega), Below.refl _ _⟩
  case round =>
    obtain ⟨k, hk, rfl, hall, hbel⟩ := hrel
    by_cases hlt : k < n
    · obtain ⟨b, o, rfl, hbl, hc⟩ := (HR.out.below hbel) (by omega)
      obtain ⟨b', o', rfl, hbl', hc'⟩ := (HS.out.below hbel) (by omega)
      have c1 := hc k hlt
      have c2 := hc' k hlt
      clear hc hc'
      have hbs := hbel.size
      have B1 := Lib.hid hbel
      clear hbel
      have y1 : (0 : Int) ≤ (k : Int) := by omega
      have y2 : (k : Int) < (n : Int) := by omega
      obtain ⟨u, hu⟩ : ∃ u, f k = u := ⟨_, rfl⟩
      obtain ⟨v, hv⟩ : ∃ v, g k = v := ⟨_, rfl⟩
      rw [hu] at c1
      rw [hv] at c2
      have HU := Lib.hid hu
      have HV := Lib.hid hv
      clear hu hv
      by_cases e : u = v
      · have E : f k = g k := by rw [HU.out, HV.out, e]
        have E := Lib.hid E
        subst e
        have z : (u != u) = false := by simp
        all_goals
          go_wp2
          go_quiet (fail)
          go_wp2
          refine ⟨⟨k + 1, by omega, by go_num, fun i hi => ?_, Go.Proofs.below_drewN' B1.out _⟩, by simp [intOf]; omega⟩
          rcases Nat.lt_succ_iff_lt_or_eq.1 hi with h | rfl
          · exact hall.out i h
          · exact E.out
      · have E : ¬ f k = g k := by rw [HU.out, HV.out]; exact e
        have E := Lib.hid E
        have z : (u != v) = true := by simp [e]
        all_goals
          clear e
          go_wp2
          go_quiet (fail)
          go_wp2
          go_ret
          exact ⟨ret_bool (by symm; rw [decide_eq_false_iff_not]; exact fun h => E.out (h k hlt)), Go.Proofs.below_drewN' B1.out _⟩
    · have e : k = n := by omega
      subst e
      go_wp2
      go_ret
      exact ⟨ret_bool (by symm; rw [decide_eq_true_iff]; exact hall.out), hbel⟩


/-- Two lists have the same elements. -/
def lsm (n : Nat) (f : Nat → Int) (m : Nat) (g : Nat → Int) : Bool := decide (n = m ∧ ∀ i, i < n → f i = g i)
/-- Two grids have the same sides and cells. -/
def gsm (W H : Int) (n : Nat) (f : Nat → Bool) (X Y : Int) (m : Nat) (g : Nat → Bool) : Bool := decide (W = X ∧ H = Y ∧ n = m ∧ ∀ i, i < n → f i = g i)
/-- What Same answers of two drafts. -/
def dsm (D E : Dr) : Bool := decide (D.S = E.S) && decide (D.T = E.T) && lsm D.n D.f E.n E.f && lsm D.m D.g E.m E.g && gsm D.W D.H D.k D.b E.W E.H E.k E.b
theorem ieq_any (A D : Option Addr) (n m c d : Nat) (f g : Nat → Int) (w : World) (hn : n ≤ 5000) (hr : L2.Holds w w.heap.size A n f) (hs : L2.Holds w w.heap.size D m g) :
    Calls Try.prog 63 #[.slice A n c, .slice D m d] w fun e w' => e = .returned (.bool (lsm n f m g)) ∧ Below w.heap.size w w' := by
  by_cases h : n = m
  · subst h
    refine (iequal_any A D n c d f g w hn hr hs).mono fun e w' ⟨he, hb⟩ => ⟨?_, hb⟩
    rw [he]; exact ret_bool (by unfold lsm; simp)
  · refine (iequal_len A D n m c d w h).mono fun e w' ⟨he, hb⟩ => ⟨?_, hb ▸ Below.refl _ _⟩
    rw [he]; exact ret_bool (by unfold lsm; simp [h])
theorem rieq_any (A D : Option Addr) (n m c d : Nat) (f g : Nat → Int) (w : World) (hn : n ≤ 5000) (hr : L2.Holds w w.heap.size A n f) (hs : L2.Holds w w.heap.size D m g) :
    Calls Try.prog 19 #[.slice A n c, .slice D m d] w fun e w' => e = .returned (.bool (lsm n f m g)) ∧ Below w.heap.size w w' := by
  by_cases h : n = m
  · subst h
    refine (L2.rsame_any A D n c d f g w hn hr hs).mono fun e w' ⟨he, hb⟩ => ⟨?_, hb⟩
    rw [he]; exact ret_bool (by unfold lsm; simp)
  · refine (L2.rsame_len A D n m c d w h).mono fun e w' ⟨he, hb⟩ => ⟨?_, hb ▸ Below.refl _ _⟩
    rw [he]; exact ret_bool (by unfold lsm; simp [h])
theorem rgsm_any (W H X Y : Int) (A D : Option Addr) (n m c d : Nat) (f g : Nat → Bool) (w : World) (hn : n ≤ 5000) (hr : Holds w w.heap.size A n f) (hs : Holds w w.heap.size D m g) :
    Calls Try.prog 31 #[.agg #[.int .i64 W, .int .i64 H, .slice A n c], .agg #[.int .i64 X, .int .i64 Y, .slice D m d]] w fun e w' => e = .returned (.bool (gsm W H n f X Y m g)) ∧ Below w.heap.size w w' := by
  by_cases h : W = X ∧ H = Y ∧ n = m
  · obtain ⟨rfl, rfl, rfl⟩ := h
    refine (rsame_loop W H W H A D n c d f g w hn rfl rfl hr hs).mono fun e w' ⟨he, hb⟩ => ⟨?_, hb⟩
    rw [he]; exact ret_bool (by unfold gsm; simp)
  · refine (rsame_no0 W H X Y A D n m c d w h).mono fun e w' ⟨he, hb⟩ => ⟨?_, hb⟩
    rw [he]; exact ret_bool (by unfold gsm; symm; rw [decide_eq_false_iff_not]; rintro ⟨a, b, c, _⟩; exact h ⟨a, b, c⟩)
theorem gsm_any (W H X Y : Int) (A D : Option Addr) (n m c d : Nat) (f g : Nat → Bool) (w : World) (hn : n ≤ 5000) (hr : Holds w w.heap.size A n f) (hs : Holds w w.heap.size D m g) :
    Calls Try.prog 64 #[.agg #[.int .i64 W, .int .i64 H, .slice A n c], .agg #[.int .i64 X, .int .i64 Y, .slice D m d]] w fun e w' => e = .returned (.bool (gsm W H n f X Y m g)) ∧ Below w.heap.size w w' := same_any W H X Y A D n m c d f g w hn hr hs
/-- The boxes of two drafts. -/
theorem dboxes2 (w : World) (D E : Dr) :
    DBox ((w.alloc (.cells #[.int .i64 D.S, .int .i64 D.T, .slice D.A D.n D.c, .slice D.B D.m D.d, .int .i64 D.W, .int .i64 D.H, .slice D.C D.k D.e] 30)).alloc (.cells #[.int .i64 E.S, .int .i64 E.T, .slice E.A E.n E.c, .slice E.B E.m E.d, .int .i64 E.W, .int .i64 E.H, .slice E.C E.k E.e] 30)) w.heap.size D ∧ DBox ((w.alloc (.cells #[.int .i64 D.S, .int .i64 D.T, .slice D.A D.n D.c, .slice D.B D.m D.d, .int .i64 D.W, .int .i64 D.H, .slice D.C D.k D.e] 30)).alloc (.cells #[.int .i64 E.S, .int .i64 E.T, .slice E.A E.n E.c, .slice E.B E.m E.d, .int .i64 E.W, .int .i64 E.H, .slice E.C E.k E.e] 30)) (w.heap.size + 1) E ∧
    Below w.heap.size w ((w.alloc (.cells #[.int .i64 D.S, .int .i64 D.T, .slice D.A D.n D.c, .slice D.B D.m D.d, .int .i64 D.W, .int .i64 D.H, .slice D.C D.k D.e] 30)).alloc (.cells #[.int .i64 E.S, .int .i64 E.T, .slice E.A E.n E.c, .slice E.B E.m E.d, .int .i64 E.W, .int .i64 E.H, .slice E.C E.k E.e] 30)) := by
  have h2 := DBox.new (w.alloc (.cells #[.int .i64 D.S, .int .i64 D.T, .slice D.A D.n D.c, .slice D.B D.m D.d, .int .i64 D.W, .int .i64 D.H, .slice D.C D.k D.e] 30)) E
  simp only [World.size_alloc] at h2
  exact ⟨(DBox.new w D).alloc _, h2, ((Below.refl _ _).alloc (Nat.le_refl _) _).alloc (by simp) _⟩
set_option maxHeartbeats 1000000 in
theorem dsame_S (D E : Dr) (w : World) (hs : D.Small) (hd : D.In w w.heap.size) (he : E.In w w.heap.size) (h0 : ¬ D.S = E.S) :
    Calls Try.prog 22 #[.agg #[.int .i64 D.S, .int .i64 D.T, .slice D.A D.n D.c, .slice D.B D.m D.d, .int .i64 D.W, .int .i64 D.H, .slice D.C D.k D.e], .agg #[.int .i64 E.S, .int .i64 E.T, .slice E.A E.n E.c, .slice E.B E.m E.d, .int .i64 E.W, .int .i64 E.H, .slice E.C E.k E.e]] w fun e w' => e = .returned (.bool false) ∧ Below w.heap.size w w' := by
  obtain ⟨hx, hy, hbb⟩ := dboxes2 w D E
  obtain ⟨s0, s1', s2⟩ := hs
  have HD := Lib.hid (hd.next hbb)
  have HE := Lib.hid (he.next hbb)
  have X0 := Lib.hid hx
  have Y0 := Lib.hid hy
  have L0 := Lib.hid hbb
  clear hx hy hbb hd he
  have b0 : (D.S == E.S) = false := by simp [h0]
  have K0 := Lib.hid h0
  clear h0
  go_enter Try.func22, Try.ntmps22
  go_wp2
  go_ret
  exact ⟨rfl, L0.out⟩

set_option maxHeartbeats 1000000 in
theorem dsame_T (D E : Dr) (w : World) (hs : D.Small) (hd : D.In w w.heap.size) (he : E.In w w.heap.size) (h0 : D.S = E.S) (h1 : ¬ D.T = E.T) :
    Calls Try.prog 22 #[.agg #[.int .i64 D.S, .int .i64 D.T, .slice D.A D.n D.c, .slice D.B D.m D.d, .int .i64 D.W, .int .i64 D.H, .slice D.C D.k D.e], .agg #[.int .i64 E.S, .int .i64 E.T, .slice E.A E.n E.c, .slice E.B E.m E.d, .int .i64 E.W, .int .i64 E.H, .slice E.C E.k E.e]] w fun e w' => e = .returned (.bool false) ∧ Below w.heap.size w w' := by
  obtain ⟨hx, hy, hbb⟩ := dboxes2 w D E
  obtain ⟨s0, s1', s2⟩ := hs
  have HD := Lib.hid (hd.next hbb)
  have HE := Lib.hid (he.next hbb)
  have X0 := Lib.hid hx
  have Y0 := Lib.hid hy
  have L0 := Lib.hid hbb
  clear hx hy hbb hd he
  have b0 : (D.S == E.S) = true := by simp [h0]
  have b1 : (D.T == E.T) = false := by simp [h1]
  have K0 := Lib.hid h0
  have K1 := Lib.hid h1
  clear h0 h1
  go_enter Try.func22, Try.ntmps22
  go_wp2
  go_ret
  exact ⟨rfl, L0.out⟩

set_option maxHeartbeats 1000000 in
theorem dsame_th (D E : Dr) (w : World) (hs : D.Small) (hd : D.In w w.heap.size) (he : E.In w w.heap.size) (h0 : D.S = E.S) (h1 : D.T = E.T) (h2 : lsm D.n D.f E.n E.f = false) :
    Calls Try.prog 22 #[.agg #[.int .i64 D.S, .int .i64 D.T, .slice D.A D.n D.c, .slice D.B D.m D.d, .int .i64 D.W, .int .i64 D.H, .slice D.C D.k D.e], .agg #[.int .i64 E.S, .int .i64 E.T, .slice E.A E.n E.c, .slice E.B E.m E.d, .int .i64 E.W, .int .i64 E.H, .slice E.C E.k E.e]] w fun e w' => e = .returned (.bool false) ∧ Below w.heap.size w w' := by
  obtain ⟨hx, hy, hbb⟩ := dboxes2 w D E
  obtain ⟨s0, s1', s2⟩ := hs
  have HD := Lib.hid (hd.next hbb)
  have HE := Lib.hid (he.next hbb)
  have X0 := Lib.hid hx
  have Y0 := Lib.hid hy
  have L0 := Lib.hid hbb
  clear hx hy hbb hd he
  have b0 : (D.S == E.S) = true := by simp [h0]
  have b1 : (D.T == E.T) = true := by simp [h1]
  have K0 := Lib.hid h0
  have K1 := Lib.hid h1
  have K2 := Lib.hid h2
  clear h0 h1 h2
  go_enter Try.func22, Try.ntmps22
  go_wp2_with fail
  have hc := (ieq_any D.A E.A D.n E.n D.c E.c D.f E.f _ (by omega) HD.out.th HE.out.th)
  rw [K2.out] at hc
  refine hc.mono ?_
  clear hc
  rintro e w1 ⟨rfl, hb⟩
  have HD' := Lib.hid (HD.out.next hb)
  have HE' := Lib.hid (HE.out.next hb)
  have X0' := Lib.hid (X0.out.next hb)
  have Y0' := Lib.hid (Y0.out.next hb)
  have L0' := Lib.hid (L0.out.trans (hb.mono L0.out.size))
  clear hb HD HE X0 Y0 L0 
  have HD := HD'
  have HE := HE'
  have X0 := X0'
  have Y0 := Y0'
  have L0 := L0'
  clear HD' HE' X0' Y0' L0'
  obtain ⟨x0, x1, x2, x3, x4, x5, x6, x7⟩ := X0.out.all
  obtain ⟨y0, y1, y2, y3, y4, y5, y6, y7⟩ := Y0.out.all
  go_wp2
  go_ret
  exact ⟨rfl, L0.out⟩

set_option maxHeartbeats 1000000 in
theorem dsame_tr (D E : Dr) (w : World) (hs : D.Small) (hd : D.In w w.heap.size) (he : E.In w w.heap.size) (h0 : D.S = E.S) (h1 : D.T = E.T) (h2 : lsm D.n D.f E.n E.f = true) (h3 : lsm D.m D.g E.m E.g = false) :
    Calls Try.prog 22 #[.agg #[.int .i64 D.S, .int .i64 D.T, .slice D.A D.n D.c, .slice D.B D.m D.d, .int .i64 D.W, .int .i64 D.H, .slice D.C D.k D.e], .agg #[.int .i64 E.S, .int .i64 E.T, .slice E.A E.n E.c, .slice E.B E.m E.d, .int .i64 E.W, .int .i64 E.H, .slice E.C E.k E.e]] w fun e w' => e = .returned (.bool false) ∧ Below w.heap.size w w' := by
  obtain ⟨hx, hy, hbb⟩ := dboxes2 w D E
  obtain ⟨s0, s1', s2⟩ := hs
  have HD := Lib.hid (hd.next hbb)
  have HE := Lib.hid (he.next hbb)
  have X0 := Lib.hid hx
  have Y0 := Lib.hid hy
  have L0 := Lib.hid hbb
  clear hx hy hbb hd he
  have b0 : (D.S == E.S) = true := by simp [h0]
  have b1 : (D.T == E.T) = true := by simp [h1]
  have K0 := Lib.hid h0
  have K1 := Lib.hid h1
  have K2 := Lib.hid h2
  have K3 := Lib.hid h3
  clear h0 h1 h2 h3
  go_enter Try.func22, Try.ntmps22
  go_wp2_with fail
  have hc := (ieq_any D.A E.A D.n E.n D.c E.c D.f E.f _ (by omega) HD.out.th HE.out.th)
  rw [K2.out] at hc
  refine hc.mono ?_
  clear hc
  rintro e w1 ⟨rfl, hb⟩
  have HD' := Lib.hid (HD.out.next hb)
  have HE' := Lib.hid (HE.out.next hb)
  have X0' := Lib.hid (X0.out.next hb)
  have Y0' := Lib.hid (Y0.out.next hb)
  have L0' := Lib.hid (L0.out.trans (hb.mono L0.out.size))
  clear hb HD HE X0 Y0 L0 
  have HD := HD'
  have HE := HE'
  have X0 := X0'
  have Y0 := Y0'
  have L0 := L0'
  clear HD' HE' X0' Y0' L0'
  obtain ⟨x0, x1, x2, x3, x4, x5, x6, x7⟩ := X0.out.all
  obtain ⟨y0, y1, y2, y3, y4, y5, y6, y7⟩ := Y0.out.all
  go_wp2_with fail
  have hc := (ieq_any D.B E.B D.m E.m D.d E.d D.g E.g _ (by omega) HD.out.tr HE.out.tr)
  rw [K3.out] at hc
  refine hc.mono ?_
  clear hc
  rintro e w2 ⟨rfl, hb⟩
  have HD' := Lib.hid (HD.out.next hb)
  have HE' := Lib.hid (HE.out.next hb)
  have X0' := Lib.hid (X0.out.next hb)
  have Y0' := Lib.hid (Y0.out.next hb)
  have L0' := Lib.hid (L0.out.trans (hb.mono L0.out.size))
  clear hb HD HE X0 Y0 L0 x0 x1 x2 x3 x4 x5 x6 x7 y0 y1 y2 y3 y4 y5 y6 y7
  have HD := HD'
  have HE := HE'
  have X0 := X0'
  have Y0 := Y0'
  have L0 := L0'
  clear HD' HE' X0' Y0' L0'
  obtain ⟨x0, x1, x2, x3, x4, x5, x6, x7⟩ := X0.out.all
  obtain ⟨y0, y1, y2, y3, y4, y5, y6, y7⟩ := Y0.out.all
  go_wp2
  go_ret
  exact ⟨rfl, L0.out⟩

set_option maxHeartbeats 1000000 in
theorem dsame_g (D E : Dr) (w : World) (hs : D.Small) (hd : D.In w w.heap.size) (he : E.In w w.heap.size) (h0 : D.S = E.S) (h1 : D.T = E.T) (h2 : lsm D.n D.f E.n E.f = true) (h3 : lsm D.m D.g E.m E.g = true) (u : Bool) (h4 : gsm D.W D.H D.k D.b E.W E.H E.k E.b = u) :
    Calls Try.prog 22 #[.agg #[.int .i64 D.S, .int .i64 D.T, .slice D.A D.n D.c, .slice D.B D.m D.d, .int .i64 D.W, .int .i64 D.H, .slice D.C D.k D.e], .agg #[.int .i64 E.S, .int .i64 E.T, .slice E.A E.n E.c, .slice E.B E.m E.d, .int .i64 E.W, .int .i64 E.H, .slice E.C E.k E.e]] w fun e w' => e = .returned (.bool u) ∧ Below w.heap.size w w' := by
  obtain ⟨hx, hy, hbb⟩ := dboxes2 w D E
  obtain ⟨s0, s1', s2⟩ := hs
  have HD := Lib.hid (hd.next hbb)
  have HE := Lib.hid (he.next hbb)
  have X0 := Lib.hid hx
  have Y0 := Lib.hid hy
  have L0 := Lib.hid hbb
  clear hx hy hbb hd he
  have b0 : (D.S == E.S) = true := by simp [h0]
  have b1 : (D.T == E.T) = true := by simp [h1]
  have K0 := Lib.hid h0
  have K1 := Lib.hid h1
  have K2 := Lib.hid h2
  have K3 := Lib.hid h3
  have K4 := Lib.hid h4
  clear h0 h1 h2 h3 h4
  go_enter Try.func22, Try.ntmps22
  go_wp2_with fail
  have hc := (ieq_any D.A E.A D.n E.n D.c E.c D.f E.f _ (by omega) HD.out.th HE.out.th)
  rw [K2.out] at hc
  refine hc.mono ?_
  clear hc
  rintro e w1 ⟨rfl, hb⟩
  have HD' := Lib.hid (HD.out.next hb)
  have HE' := Lib.hid (HE.out.next hb)
  have X0' := Lib.hid (X0.out.next hb)
  have Y0' := Lib.hid (Y0.out.next hb)
  have L0' := Lib.hid (L0.out.trans (hb.mono L0.out.size))
  clear hb HD HE X0 Y0 L0 
  have HD := HD'
  have HE := HE'
  have X0 := X0'
  have Y0 := Y0'
  have L0 := L0'
  clear HD' HE' X0' Y0' L0'
  obtain ⟨x0, x1, x2, x3, x4, x5, x6, x7⟩ := X0.out.all
  obtain ⟨y0, y1, y2, y3, y4, y5, y6, y7⟩ := Y0.out.all
  go_wp2_with fail
  have hc := (ieq_any D.B E.B D.m E.m D.d E.d D.g E.g _ (by omega) HD.out.tr HE.out.tr)
  rw [K3.out] at hc
  refine hc.mono ?_
  clear hc
  rintro e w2 ⟨rfl, hb⟩
  have HD' := Lib.hid (HD.out.next hb)
  have HE' := Lib.hid (HE.out.next hb)
  have X0' := Lib.hid (X0.out.next hb)
  have Y0' := Lib.hid (Y0.out.next hb)
  have L0' := Lib.hid (L0.out.trans (hb.mono L0.out.size))
  clear hb HD HE X0 Y0 L0 x0 x1 x2 x3 x4 x5 x6 x7 y0 y1 y2 y3 y4 y5 y6 y7
  have HD := HD'
  have HE := HE'
  have X0 := X0'
  have Y0 := Y0'
  have L0 := L0'
  clear HD' HE' X0' Y0' L0'
  obtain ⟨x0, x1, x2, x3, x4, x5, x6, x7⟩ := X0.out.all
  obtain ⟨y0, y1, y2, y3, y4, y5, y6, y7⟩ := Y0.out.all
  go_wp2_with fail
  have hc := (gsm_any D.W D.H E.W E.H D.C E.C D.k E.k D.e E.e D.b E.b _ (by omega) HD.out.ti HE.out.ti)
  rw [K4.out] at hc
  refine hc.mono ?_
  clear hc
  rintro e w3 ⟨rfl, hb⟩
  have HD' := Lib.hid (HD.out.next hb)
  have HE' := Lib.hid (HE.out.next hb)
  have X0' := Lib.hid (X0.out.next hb)
  have Y0' := Lib.hid (Y0.out.next hb)
  have L0' := Lib.hid (L0.out.trans (hb.mono L0.out.size))
  clear hb HD HE X0 Y0 L0 x0 x1 x2 x3 x4 x5 x6 x7 y0 y1 y2 y3 y4 y5 y6 y7
  have HD := HD'
  have HE := HE'
  have X0 := X0'
  have Y0 := Y0'
  have L0 := L0'
  clear HD' HE' X0' Y0' L0'
  obtain ⟨x0, x1, x2, x3, x4, x5, x6, x7⟩ := X0.out.all
  obtain ⟨y0, y1, y2, y3, y4, y5, y6, y7⟩ := Y0.out.all
  go_wp2
  go_ret
  exact ⟨rfl, L0.out⟩


theorem dsame_any (D E : Dr) (w : World) (hs : D.Small) (hd : D.In w w.heap.size) (he : E.In w w.heap.size) :
    Calls Try.prog 22 #[.agg #[.int .i64 D.S, .int .i64 D.T, .slice D.A D.n D.c, .slice D.B D.m D.d, .int .i64 D.W, .int .i64 D.H, .slice D.C D.k D.e], .agg #[.int .i64 E.S, .int .i64 E.T, .slice E.A E.n E.c, .slice E.B E.m E.d, .int .i64 E.W, .int .i64 E.H, .slice E.C E.k E.e]] w fun e w' => e = .returned (.bool (dsm D E)) ∧ Below w.heap.size w w' := by
  have key : ∀ (z : Bool), dsm D E = z → Calls Try.prog 22 #[.agg #[.int .i64 D.S, .int .i64 D.T, .slice D.A D.n D.c, .slice D.B D.m D.d, .int .i64 D.W, .int .i64 D.H, .slice D.C D.k D.e], .agg #[.int .i64 E.S, .int .i64 E.T, .slice E.A E.n E.c, .slice E.B E.m E.d, .int .i64 E.W, .int .i64 E.H, .slice E.C E.k E.e]] w (fun e w' => e = .returned (.bool z) ∧ Below w.heap.size w w') → Calls Try.prog 22 #[.agg #[.int .i64 D.S, .int .i64 D.T, .slice D.A D.n D.c, .slice D.B D.m D.d, .int .i64 D.W, .int .i64 D.H, .slice D.C D.k D.e], .agg #[.int .i64 E.S, .int .i64 E.T, .slice E.A E.n E.c, .slice E.B E.m E.d, .int .i64 E.W, .int .i64 E.H, .slice E.C E.k E.e]] w (fun e w' => e = .returned (.bool (dsm D E)) ∧ Below w.heap.size w w') := fun z hz h => by rw [hz]; exact h
  by_cases h0 : D.S = E.S
  · by_cases h1 : D.T = E.T
    · cases h2 : lsm D.n D.f E.n E.f
      · exact key false (by unfold dsm; simp [h2]) (dsame_th D E w hs hd he h0 h1 h2)
      · cases h3 : lsm D.m D.g E.m E.g
        · exact key false (by unfold dsm; simp [h3]) (dsame_tr D E w hs hd he h0 h1 h2 h3)
        · exact key _ (by unfold dsm; simp [h0, h1, h2, h3]) (dsame_g D E w hs hd he h0 h1 h2 h3 _ rfl)
    · exact key false (by unfold dsm; simp [h1]) (dsame_T D E w hs hd he h0 h1)
  · exact key false (by unfold dsm; simp [h0]) (dsame_S D E w hs hd he h0)
set_option maxHeartbeats 1000000 in
theorem rdsame_S (D E : Dr) (w : World) (hs : D.Small) (hd : D.In w w.heap.size) (he : E.In w w.heap.size) (h0 : ¬ D.S = E.S) :
    Calls Try.prog 30 #[.agg #[.int .i64 D.S, .int .i64 D.T, .slice D.A D.n D.c, .slice D.B D.m D.d, .int .i64 D.W, .int .i64 D.H, .slice D.C D.k D.e], .agg #[.int .i64 E.S, .int .i64 E.T, .slice E.A E.n E.c, .slice E.B E.m E.d, .int .i64 E.W, .int .i64 E.H, .slice E.C E.k E.e]] w fun e w' => e = .returned (.bool false) ∧ Below w.heap.size w w' := by
  obtain ⟨hx, hy, hbb⟩ := dboxes2 w D E
  obtain ⟨s0, s1', s2⟩ := hs
  have HD := Lib.hid (hd.next hbb)
  have HE := Lib.hid (he.next hbb)
  have X0 := Lib.hid hx
  have Y0 := Lib.hid hy
  have L0 := Lib.hid hbb
  clear hx hy hbb hd he
  have b0 : (D.S == E.S) = false := by simp [h0]
  have K0 := Lib.hid h0
  clear h0
  go_enter Try.func30, Try.ntmps30
  go_wp2
  go_ret
  exact ⟨rfl, L0.out⟩

set_option maxHeartbeats 1000000 in
theorem rdsame_T (D E : Dr) (w : World) (hs : D.Small) (hd : D.In w w.heap.size) (he : E.In w w.heap.size) (h0 : D.S = E.S) (h1 : ¬ D.T = E.T) :
    Calls Try.prog 30 #[.agg #[.int .i64 D.S, .int .i64 D.T, .slice D.A D.n D.c, .slice D.B D.m D.d, .int .i64 D.W, .int .i64 D.H, .slice D.C D.k D.e], .agg #[.int .i64 E.S, .int .i64 E.T, .slice E.A E.n E.c, .slice E.B E.m E.d, .int .i64 E.W, .int .i64 E.H, .slice E.C E.k E.e]] w fun e w' => e = .returned (.bool false) ∧ Below w.heap.size w w' := by
  obtain ⟨hx, hy, hbb⟩ := dboxes2 w D E
  obtain ⟨s0, s1', s2⟩ := hs
  have HD := Lib.hid (hd.next hbb)
  have HE := Lib.hid (he.next hbb)
  have X0 := Lib.hid hx
  have Y0 := Lib.hid hy
  have L0 := Lib.hid hbb
  clear hx hy hbb hd he
  have b0 : (D.S == E.S) = true := by simp [h0]
  have b1 : (D.T == E.T) = false := by simp [h1]
  have K0 := Lib.hid h0
  have K1 := Lib.hid h1
  clear h0 h1
  go_enter Try.func30, Try.ntmps30
  go_wp2
  go_ret
  exact ⟨rfl, L0.out⟩

set_option maxHeartbeats 1000000 in
theorem rdsame_th (D E : Dr) (w : World) (hs : D.Small) (hd : D.In w w.heap.size) (he : E.In w w.heap.size) (h0 : D.S = E.S) (h1 : D.T = E.T) (h2 : lsm D.n D.f E.n E.f = false) :
    Calls Try.prog 30 #[.agg #[.int .i64 D.S, .int .i64 D.T, .slice D.A D.n D.c, .slice D.B D.m D.d, .int .i64 D.W, .int .i64 D.H, .slice D.C D.k D.e], .agg #[.int .i64 E.S, .int .i64 E.T, .slice E.A E.n E.c, .slice E.B E.m E.d, .int .i64 E.W, .int .i64 E.H, .slice E.C E.k E.e]] w fun e w' => e = .returned (.bool false) ∧ Below w.heap.size w w' := by
  obtain ⟨hx, hy, hbb⟩ := dboxes2 w D E
  obtain ⟨s0, s1', s2⟩ := hs
  have HD := Lib.hid (hd.next hbb)
  have HE := Lib.hid (he.next hbb)
  have X0 := Lib.hid hx
  have Y0 := Lib.hid hy
  have L0 := Lib.hid hbb
  clear hx hy hbb hd he
  have b0 : (D.S == E.S) = true := by simp [h0]
  have b1 : (D.T == E.T) = true := by simp [h1]
  have K0 := Lib.hid h0
  have K1 := Lib.hid h1
  have K2 := Lib.hid h2
  clear h0 h1 h2
  go_enter Try.func30, Try.ntmps30
  go_wp2_with fail
  have hc := (rieq_any D.A E.A D.n E.n D.c E.c D.f E.f _ (by omega) HD.out.th HE.out.th)
  rw [K2.out] at hc
  refine hc.mono ?_
  clear hc
  rintro e w1 ⟨rfl, hb⟩
  have HD' := Lib.hid (HD.out.next hb)
  have HE' := Lib.hid (HE.out.next hb)
  have X0' := Lib.hid (X0.out.next hb)
  have Y0' := Lib.hid (Y0.out.next hb)
  have L0' := Lib.hid (L0.out.trans (hb.mono L0.out.size))
  clear hb HD HE X0 Y0 L0 
  have HD := HD'
  have HE := HE'
  have X0 := X0'
  have Y0 := Y0'
  have L0 := L0'
  clear HD' HE' X0' Y0' L0'
  obtain ⟨x0, x1, x2, x3, x4, x5, x6, x7⟩ := X0.out.all
  obtain ⟨y0, y1, y2, y3, y4, y5, y6, y7⟩ := Y0.out.all
  go_wp2
  go_ret
  exact ⟨rfl, L0.out⟩

set_option maxHeartbeats 1000000 in
theorem rdsame_tr (D E : Dr) (w : World) (hs : D.Small) (hd : D.In w w.heap.size) (he : E.In w w.heap.size) (h0 : D.S = E.S) (h1 : D.T = E.T) (h2 : lsm D.n D.f E.n E.f = true) (h3 : lsm D.m D.g E.m E.g = false) :
    Calls Try.prog 30 #[.agg #[.int .i64 D.S, .int .i64 D.T, .slice D.A D.n D.c, .slice D.B D.m D.d, .int .i64 D.W, .int .i64 D.H, .slice D.C D.k D.e], .agg #[.int .i64 E.S, .int .i64 E.T, .slice E.A E.n E.c, .slice E.B E.m E.d, .int .i64 E.W, .int .i64 E.H, .slice E.C E.k E.e]] w fun e w' => e = .returned (.bool false) ∧ Below w.heap.size w w' := by
  obtain ⟨hx, hy, hbb⟩ := dboxes2 w D E
  obtain ⟨s0, s1', s2⟩ := hs
  have HD := Lib.hid (hd.next hbb)
  have HE := Lib.hid (he.next hbb)
  have X0 := Lib.hid hx
  have Y0 := Lib.hid hy
  have L0 := Lib.hid hbb
  clear hx hy hbb hd he
  have b0 : (D.S == E.S) = true := by simp [h0]
  have b1 : (D.T == E.T) = true := by simp [h1]
  have K0 := Lib.hid h0
  have K1 := Lib.hid h1
  have K2 := Lib.hid h2
  have K3 := Lib.hid h3
  clear h0 h1 h2 h3
  go_enter Try.func30, Try.ntmps30
  go_wp2_with fail
  have hc := (rieq_any D.A E.A D.n E.n D.c E.c D.f E.f _ (by omega) HD.out.th HE.out.th)
  rw [K2.out] at hc
  refine hc.mono ?_
  clear hc
  rintro e w1 ⟨rfl, hb⟩
  have HD' := Lib.hid (HD.out.next hb)
  have HE' := Lib.hid (HE.out.next hb)
  have X0' := Lib.hid (X0.out.next hb)
  have Y0' := Lib.hid (Y0.out.next hb)
  have L0' := Lib.hid (L0.out.trans (hb.mono L0.out.size))
  clear hb HD HE X0 Y0 L0 
  have HD := HD'
  have HE := HE'
  have X0 := X0'
  have Y0 := Y0'
  have L0 := L0'
  clear HD' HE' X0' Y0' L0'
  obtain ⟨x0, x1, x2, x3, x4, x5, x6, x7⟩ := X0.out.all
  obtain ⟨y0, y1, y2, y3, y4, y5, y6, y7⟩ := Y0.out.all
  go_wp2_with fail
  have hc := (rieq_any D.B E.B D.m E.m D.d E.d D.g E.g _ (by omega) HD.out.tr HE.out.tr)
  rw [K3.out] at hc
  refine hc.mono ?_
  clear hc
  rintro e w2 ⟨rfl, hb⟩
  have HD' := Lib.hid (HD.out.next hb)
  have HE' := Lib.hid (HE.out.next hb)
  have X0' := Lib.hid (X0.out.next hb)
  have Y0' := Lib.hid (Y0.out.next hb)
  have L0' := Lib.hid (L0.out.trans (hb.mono L0.out.size))
  clear hb HD HE X0 Y0 L0 x0 x1 x2 x3 x4 x5 x6 x7 y0 y1 y2 y3 y4 y5 y6 y7
  have HD := HD'
  have HE := HE'
  have X0 := X0'
  have Y0 := Y0'
  have L0 := L0'
  clear HD' HE' X0' Y0' L0'
  obtain ⟨x0, x1, x2, x3, x4, x5, x6, x7⟩ := X0.out.all
  obtain ⟨y0, y1, y2, y3, y4, y5, y6, y7⟩ := Y0.out.all
  go_wp2
  go_ret
  exact ⟨rfl, L0.out⟩

set_option maxHeartbeats 1000000 in
theorem rdsame_g (D E : Dr) (w : World) (hs : D.Small) (hd : D.In w w.heap.size) (he : E.In w w.heap.size) (h0 : D.S = E.S) (h1 : D.T = E.T) (h2 : lsm D.n D.f E.n E.f = true) (h3 : lsm D.m D.g E.m E.g = true) (u : Bool) (h4 : gsm D.W D.H D.k D.b E.W E.H E.k E.b = u) :
    Calls Try.prog 30 #[.agg #[.int .i64 D.S, .int .i64 D.T, .slice D.A D.n D.c, .slice D.B D.m D.d, .int .i64 D.W, .int .i64 D.H, .slice D.C D.k D.e], .agg #[.int .i64 E.S, .int .i64 E.T, .slice E.A E.n E.c, .slice E.B E.m E.d, .int .i64 E.W, .int .i64 E.H, .slice E.C E.k E.e]] w fun e w' => e = .returned (.bool u) ∧ Below w.heap.size w w' := by
  obtain ⟨hx, hy, hbb⟩ := dboxes2 w D E
  obtain ⟨s0, s1', s2⟩ := hs
  have HD := Lib.hid (hd.next hbb)
  have HE := Lib.hid (he.next hbb)
  have X0 := Lib.hid hx
  have Y0 := Lib.hid hy
  have L0 := Lib.hid hbb
  clear hx hy hbb hd he
  have b0 : (D.S == E.S) = true := by simp [h0]
  have b1 : (D.T == E.T) = true := by simp [h1]
  have K0 := Lib.hid h0
  have K1 := Lib.hid h1
  have K2 := Lib.hid h2
  have K3 := Lib.hid h3
  have K4 := Lib.hid h4
  clear h0 h1 h2 h3 h4
  go_enter Try.func30, Try.ntmps30
  go_wp2_with fail
  have hc := (rieq_any D.A E.A D.n E.n D.c E.c D.f E.f _ (by omega) HD.out.th HE.out.th)
  rw [K2.out] at hc
  refine hc.mono ?_
  clear hc
  rintro e w1 ⟨rfl, hb⟩
  have HD' := Lib.hid (HD.out.next hb)
  have HE' := Lib.hid (HE.out.next hb)
  have X0' := Lib.hid (X0.out.next hb)
  have Y0' := Lib.hid (Y0.out.next hb)
  have L0' := Lib.hid (L0.out.trans (hb.mono L0.out.size))
  clear hb HD HE X0 Y0 L0 
  have HD := HD'
  have HE := HE'
  have X0 := X0'
  have Y0 := Y0'
  have L0 := L0'
  clear HD' HE' X0' Y0' L0'
  obtain ⟨x0, x1, x2, x3, x4, x5, x6, x7⟩ := X0.out.all
  obtain ⟨y0, y1, y2, y3, y4, y5, y6, y7⟩ := Y0.out.all
  go_wp2_with fail
  have hc := (rieq_any D.B E.B D.m E.m D.d E.d D.g E.g _ (by omega) HD.out.tr HE.out.tr)
  rw [K3.out] at hc
  refine hc.mono ?_
  clear hc
  rintro e w2 ⟨rfl, hb⟩
  have HD' := Lib.hid (HD.out.next hb)
  have HE' := Lib.hid (HE.out.next hb)
  have X0' := Lib.hid (X0.out.next hb)
  have Y0' := Lib.hid (Y0.out.next hb)
  have L0' := Lib.hid (L0.out.trans (hb.mono L0.out.size))
  clear hb HD HE X0 Y0 L0 x0 x1 x2 x3 x4 x5 x6 x7 y0 y1 y2 y3 y4 y5 y6 y7
  have HD := HD'
  have HE := HE'
  have X0 := X0'
  have Y0 := Y0'
  have L0 := L0'
  clear HD' HE' X0' Y0' L0'
  obtain ⟨x0, x1, x2, x3, x4, x5, x6, x7⟩ := X0.out.all
  obtain ⟨y0, y1, y2, y3, y4, y5, y6, y7⟩ := Y0.out.all
  go_wp2_with fail
  have hc := (rgsm_any D.W D.H E.W E.H D.C E.C D.k E.k D.e E.e D.b E.b _ (by omega) HD.out.ti HE.out.ti)
  rw [K4.out] at hc
  refine hc.mono ?_
  clear hc
  rintro e w3 ⟨rfl, hb⟩
  have HD' := Lib.hid (HD.out.next hb)
  have HE' := Lib.hid (HE.out.next hb)
  have X0' := Lib.hid (X0.out.next hb)
  have Y0' := Lib.hid (Y0.out.next hb)
  have L0' := Lib.hid (L0.out.trans (hb.mono L0.out.size))
  clear hb HD HE X0 Y0 L0 x0 x1 x2 x3 x4 x5 x6 x7 y0 y1 y2 y3 y4 y5 y6 y7
  have HD := HD'
  have HE := HE'
  have X0 := X0'
  have Y0 := Y0'
  have L0 := L0'
  clear HD' HE' X0' Y0' L0'
  obtain ⟨x0, x1, x2, x3, x4, x5, x6, x7⟩ := X0.out.all
  obtain ⟨y0, y1, y2, y3, y4, y5, y6, y7⟩ := Y0.out.all
  go_wp2
  go_ret
  exact ⟨rfl, L0.out⟩


theorem rdsame_any (D E : Dr) (w : World) (hs : D.Small) (hd : D.In w w.heap.size) (he : E.In w w.heap.size) :
    Calls Try.prog 30 #[.agg #[.int .i64 D.S, .int .i64 D.T, .slice D.A D.n D.c, .slice D.B D.m D.d, .int .i64 D.W, .int .i64 D.H, .slice D.C D.k D.e], .agg #[.int .i64 E.S, .int .i64 E.T, .slice E.A E.n E.c, .slice E.B E.m E.d, .int .i64 E.W, .int .i64 E.H, .slice E.C E.k E.e]] w fun e w' => e = .returned (.bool (dsm D E)) ∧ Below w.heap.size w w' := by
  have key : ∀ (z : Bool), dsm D E = z → Calls Try.prog 30 #[.agg #[.int .i64 D.S, .int .i64 D.T, .slice D.A D.n D.c, .slice D.B D.m D.d, .int .i64 D.W, .int .i64 D.H, .slice D.C D.k D.e], .agg #[.int .i64 E.S, .int .i64 E.T, .slice E.A E.n E.c, .slice E.B E.m E.d, .int .i64 E.W, .int .i64 E.H, .slice E.C E.k E.e]] w (fun e w' => e = .returned (.bool z) ∧ Below w.heap.size w w') → Calls Try.prog 30 #[.agg #[.int .i64 D.S, .int .i64 D.T, .slice D.A D.n D.c, .slice D.B D.m D.d, .int .i64 D.W, .int .i64 D.H, .slice D.C D.k D.e], .agg #[.int .i64 E.S, .int .i64 E.T, .slice E.A E.n E.c, .slice E.B E.m E.d, .int .i64 E.W, .int .i64 E.H, .slice E.C E.k E.e]] w (fun e w' => e = .returned (.bool (dsm D E)) ∧ Below w.heap.size w w') := fun z hz h => by rw [hz]; exact h
  by_cases h0 : D.S = E.S
  · by_cases h1 : D.T = E.T
    · cases h2 : lsm D.n D.f E.n E.f
      · exact key false (by unfold dsm; simp [h2]) (rdsame_th D E w hs hd he h0 h1 h2)
      · cases h3 : lsm D.m D.g E.m E.g
        · exact key false (by unfold dsm; simp [h3]) (rdsame_tr D E w hs hd he h0 h1 h2 h3)
        · exact key _ (by unfold dsm; simp [h0, h1, h2, h3]) (rdsame_g D E w hs hd he h0 h1 h2 h3 _ rfl)
    · exact key false (by unfold dsm; simp [h1]) (rdsame_T D E w hs hd he h0 h1)
  · exact key false (by unfold dsm; simp [h0]) (rdsame_S D E w hs hd he h0)

theorem dsm_is {D E : Dr} {P Q : PD} (hD : D.Is P) (hE : E.Is Q) (hP : P.Ok) : dsm D E = true ↔ P.Eqv Q := by
  obtain ⟨a1, a2, a3, a4, a5, a6, a7, a8, a9, a10⟩ := hD
  obtain ⟨b1, b2, b3, b4, b5, b6, b7, b8, b9, b10⟩ := hE
  unfold dsm lsm gsm
  simp only [Bool.and_eq_true, decide_eq_true_eq]
  constructor
  · rintro ⟨⟨⟨⟨h1, h2⟩, h3, h3'⟩, h4, h4'⟩, h5, h6, h7, h8⟩
    have e1 : P.S = Q.S := by omega
    have e2 : P.T = Q.T := by omega
    refine ⟨e1, e2, by omega, by omega, fun i hi => ?_, fun i hi => ?_, fun t s ht hs => ?_⟩
    · have := h3' i (by omega); rw [a8 i hi, b8 i (by omega)] at this; omega
    · have := h4' i (by omega); rw [a9 i hi, b9 i (by omega)] at this; omega
    · have h9 := ix_bd ht hs
      have := h8 (s * P.T + t) (by rw [a7]; exact h9)
      rw [a10 t s ht hs] at this
      rw [e2] at this ht
      rw [e1] at hs
      rw [b10 t s ht hs] at this
      exact this
  · rintro ⟨h1, h2, h3, h4, h5, h6, h7⟩
    refine ⟨⟨⟨⟨by omega, by omega⟩, by omega, fun i hi => ?_⟩, by omega, fun i hi => ?_⟩, by omega, by omega, by rw [a7, b7, h1, h2], fun i hi => ?_⟩
    · rw [a8 i (by omega), b8 i (by omega), h5 i (by omega)]
    · rw [a9 i (by omega), b9 i (by omega), h6 i (by omega)]
    · rw [a7] at hi
      have hT : 1 ≤ P.T := hP.t0
      have hm : i % P.T < P.T := Nat.mod_lt _ (by omega)
      have hd : i / P.T < P.S := Nat.div_lt_of_lt_mul hi
      have e : i = i / P.T * P.T + i % P.T := (nat_div_mod P.T i).symm
      have x1 := a10 _ _ hm hd
      have x2 := b10 (i % P.T) (i / P.T) (by rw [← h2]; exact hm) (by rw [← h1]; exact hd)
      rw [← e] at x1
      rw [← h2, ← e] at x2
      rw [x1, x2, h7 _ _ hm hd]
end Go.Proofs.Ytbafhdinalapoaa
