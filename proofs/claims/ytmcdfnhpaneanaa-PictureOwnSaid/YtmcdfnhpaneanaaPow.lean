/- PictureOwn: the walk. -/
import Derived.Test.YtmcdfnhpaneanaaPho
import Derived.Test.YtmcdfnhpaneanaaPav
import Derived.Test.YtmcdfnhpaneanaaPrf
import Derived.Test.YtmcdfnhpaneanaaReq
import Derived.BigQuiet
namespace Go.Proofs.Ytmcdfnhpaneanaa
open Go.RowKit
set_option maxRecDepth 100000
set_option linter.unusedVariables false
set_option linter.unusedSimpArgs false

set_option maxHeartbeats 800000 in
theorem own_no (W H : Int) (A B C : Option Addr) (n c m d k e : Nat) (s : Nat → Bool) (a b : Nat → Int) (w : World) (hg : Holds w w.heap.size A n s) (ha : L2.Holds w w.heap.size B m a) (hb1 : L2.Holds w w.heap.size C k b) (hz : 4200 < n ∨ thE W H n m k a b ≠ 0) :
    Calls Try.prog 7 #[.agg #[.int .i64 W, .int .i64 H, .slice A n c], .slice B m d, .slice C k e] w fun e w' => e = .returned (.bool true) ∧ Below w.heap.size w w' := by
  have HG := Lib.hid (fun u => ggreat_any W H A n c u)
  have HT := Lib.hid (fun u (hb : Below w.heap.size w u) => rth_all W H A B C n c m d k e a b u ((ha.below hb).more hb.size) ((hb1.below hb).more hb.size))
  clear hg ha hb1
  by_cases h1 : 4200 < n
  · rw [decide_eq_true h1] at HG
    clear h1 hz
    have LB0 := Lib.hid (Below.refl w.heap.size w)
    have X1 := Box.new w W H (.slice A n c)
    have X1 := Lib.hid X1
    have LB0 := Lib.hid (LB0.out.alloc LB0.out.size (.cells #[.int .i64 W, .int .i64 H, .slice A n c] 27))
    go_enter Try.func7, Try.ntmps7
    go_upto_region 1 with (fail)
    generalize w.alloc (.cells #[.int .i64 W, .int .i64 H, .slice A n c] 27) = w0 at *
    go_wp2_with fail
    with_reducible refine Calls.mono (alive15_any _) ?_
    rintro e w1 ⟨rfl, hb⟩
    have LB1 := Lib.hid (LB0.out.trans (hb.mono LB0.out.size))
    have X1 := Lib.hid (X1.out.below hb X1.out.lt)
    clear hb LB0 
    obtain ⟨q0, q1, q2, q3, q4, q5, q6⟩ := X1.out.all
    go_wp2_with fail
    clear q0 q1 q2 q3 q4 q5 q6
    with_reducible refine Calls.mono (HG.out _) ?_
    rintro e w2 ⟨rfl, hb⟩
    have LB2 := Lib.hid (LB1.out.trans (hb.mono LB1.out.size))
    have X1 := Lib.hid (X1.out.below hb X1.out.lt)
    clear hb LB1 
    obtain ⟨q0, q1, q2, q3, q4, q5, q6⟩ := X1.out.all
    go_wp2
    go_ret
    exact ⟨rfl, LB2.out⟩
  · rw [decide_eq_false h1] at HG
    have hz := hz.resolve_left h1
    obtain ⟨z, hz1⟩ : ∃ z, thE W H n m k a b = z := ⟨_, rfl⟩
    rw [hz1] at HT hz
    have y1 : (z != 0) = true := by simp [hz]
    clear hz1 hz h1
    have LB0 := Lib.hid (Below.refl w.heap.size w)
    have X1 := Box.new w W H (.slice A n c)
    have X1 := Lib.hid X1
    have LB0 := Lib.hid (LB0.out.alloc LB0.out.size (.cells #[.int .i64 W, .int .i64 H, .slice A n c] 27))
    go_enter Try.func7, Try.ntmps7
    go_upto_region 1 with (fail)
    generalize w.alloc (.cells #[.int .i64 W, .int .i64 H, .slice A n c] 27) = w0 at *
    go_wp2_with fail
    with_reducible refine Calls.mono (alive15_any _) ?_
    rintro e w1 ⟨rfl, hb⟩
    have LB1 := Lib.hid (LB0.out.trans (hb.mono LB0.out.size))
    have X1 := Lib.hid (X1.out.below hb X1.out.lt)
    clear hb LB0 
    obtain ⟨q0, q1, q2, q3, q4, q5, q6⟩ := X1.out.all
    go_wp2_with fail
    clear q0 q1 q2 q3 q4 q5 q6
    with_reducible refine Calls.mono (HG.out _) ?_
    rintro e w2 ⟨rfl, hb⟩
    have LB2 := Lib.hid (LB1.out.trans (hb.mono LB1.out.size))
    have X1 := Lib.hid (X1.out.below hb X1.out.lt)
    clear hb LB1 
    obtain ⟨q0, q1, q2, q3, q4, q5, q6⟩ := X1.out.all
    go_wp2_with fail
    clear q0 q1 q2 q3 q4 q5 q6
    with_reducible refine Calls.mono (HT.out _ LB2.out) ?_
    rintro e w3 ⟨rfl, hb⟩
    have LB3 := Lib.hid (LB2.out.trans (hb.mono LB2.out.size))
    have X1 := Lib.hid (X1.out.below hb X1.out.lt)
    clear hb LB2 
    obtain ⟨q0, q1, q2, q3, q4, q5, q6⟩ := X1.out.all
    go_wp2
    go_ret
    exact ⟨rfl, LB3.out⟩
theorem holds_ne {w : World} {B n : Nat} {A : Option Addr} {f : Nat → Int} (h : L2.Holds w B A n f) (hn : 0 < n) (c : Nat) : A = none → c = 0 := fun e => by
  obtain ⟨b, o, e1, _⟩ := h hn
  rw [e] at e1
  cases e1
set_option maxHeartbeats 6400000 in
theorem own_law (W H : Nat) (A B C : Option Addr) (c d e : Nat) (s : Nat → Bool) (a b : Nat → Int) (w : World) (hg : Holds w w.heap.size A (W * H) s) (ha : L2.Holds w w.heap.size B W a) (hb1 : L2.Holds w w.heap.size C H b) (W0 : 1 ≤ W) (W1 : W ≤ 64) (H0 : 1 ≤ H) (H1 : H ≤ 64) (hx : fine W a = true) (hy : fine H b = true) :
    Calls Try.prog 7 #[.agg #[.int .i64 (W : Nat), .int .i64 (H : Nat), .slice A (W * H) c], .slice B W d, .slice C H e] w fun e w' => e = .returned (.bool true) ∧ Below w.heap.size w w' := by
  have hM : W * H ≤ 4096 := Nat.mul_le_mul W1 H1
  have HG := Lib.hid (fun u => ggreat_any (W : Nat) (H : Nat) A (W * H) c u)
  rw [decide_eq_false (by omega)] at HG
  have HT := Lib.hid (fun u (hb : Below w.heap.size w u) => rth_all (W : Nat) (H : Nat) A B C (W * H) c W d H e a b u ((ha.below hb).more hb.size) ((hb1.below hb).more hb.size))
  rw [thE_ok (chk_zero W0 W1 H0 H1) ⟨rfl, rfl⟩ ⟨hx, hy⟩] at HT
  have HR := Lib.hid (fun u (hb : Below w.heap.size w u) => front_ok W H A B C c d e s a b u ((hg.below hb).more hb.size) ((ha.below hb).more hb.size) ((hb1.below hb).more hb.size) W0 W1 H0 H1 hx hy)
  have hff := front_fine (s := s) W0 hx hy
  have hcl := own_fits (s := s) hx hy
  have HIC := Lib.hid (fun u A2 c2 (hl : L2.Holds u u.heap.size A2 (W * H) (shF W s a b)) => rick_any (W : Nat) (H : Nat) A2 (W * H) c2 _ u hl)
  rw [ick_zero W0 W1 H0 H1 hff] at HIC
  have HS := Lib.hid (fun u A2 c2 (hb : Below w.heap.size w u) (hl : L2.Holds u u.heap.size A2 (W * H) (shF W s a b)) => shows_ok A c s W H A2 B C c2 d e _ a b u hl ((ha.below hb).more hb.size) ((hb1.below hb).more hb.size) W0 W1 H0 H1 hff hx hy ((hg.below hb).more hb.size))
  rw [sameB_yes (fun _ _ => rfl)] at HS
  have HWA := Lib.hid (fun u (hb : Below w.heap.size w u) => (ha.below hb))
  have HWB := Lib.hid (fun u (hb : Below w.heap.size w u) => (hb1.below hb))
  have HNA := Lib.hid (holds_ne ha W0 d)
  have HNB := Lib.hid (holds_ne hb1 H0 e)
  obtain ⟨F, hF⟩ : ∃ z, shF W s a b = z := ⟨_, rfl⟩
  rw [hF] at HR hff hcl HS HIC
  have HFI := Lib.hid (fun u A2 c2 (hl : L2.Holds u u.heap.size A2 (W * H) F) => (first_ok W H A2 c2 F u W0 W1 H0 H1 hl hff).mono fun e w' h => (show ∃ p A1 c1 A2 c2, e = .returned (.tuple #[.slice A1 W c1, .slice A2 H c2, .int .i64 0]) ∧ Fst W H F p ∧ L2.Holds w' w'.heap.size A1 W p ∧ L2.Holds w' w'.heap.size A2 H (fun i => p (W + i)) ∧ Below u.heap.size u w' from h.elim id (fun q => absurd hcl.2 (q.2.1 _ hcl.1))))
  have HRP := Lib.hid (fun (p : Nat → Int) (hp : Fst W H F p) u A2 c2 A3 c3 A4 c4 (hl : L2.Holds u u.heap.size A2 (W * H) F) (h3 : L2.Holds u u.heap.size A3 W p) (h4 : L2.Holds u u.heap.size A4 H (fun i => p (W + i))) => (show Calls Try.prog 34 #[.agg #[.int .i64 (W : Nat), .int .i64 (H : Nat), .slice A2 (W * H) c2], .slice A3 W c3, .slice A4 H c4] u fun e w' => e = .returned (.int .i64 0) ∧ Below u.heap.size u w' from by
    have h := rpc_any (W : Nat) (H : Nat) A2 A3 A4 (W * H) c2 W c3 H c4 F p (fun i => p (W + i)) u hl h3 h4
    rw [pcE_ok (m := 0) (k := 0) W0 W1 H0 H1 hff (fine_yes fun i hi => hp.cols i (by omega)) (fine_yes fun i hi => hp.cols (W + i) (by omega))] at h
    exact h))
  have HRF := Lib.hid (fun (p : Nat → Int) (hp : Fst W H F p) u A2 c2 A3 c3 A4 c4 (hl : L2.Holds u u.heap.size A2 (W * H) F) (h3 : L2.Holds u u.heap.size A3 W p) (h4 : L2.Holds u u.heap.size A4 H (fun i => p (W + i))) => (show Calls Try.prog 39 #[.agg #[.int .i64 (W : Nat), .int .i64 (H : Nat), .slice A2 (W * H) c2], .slice A3 W c3, .slice A4 H c4] u fun e w' => e = .returned (.bool true) ∧ Below u.heap.size u w' from by
    have h := rfits_any W H A2 A3 A4 c2 c3 c4 F p (fun i => p (W + i)) u hl h3 h4 W0 W1 H0 H1
    rw [allB_yes (allF_xy fun x hx y hy => hp.fits x y hx hy)] at h
    exact h))
  obtain ⟨q, hq⟩ : ∃ z, (fun i => if i < W then a i else b (i - W)) = z := ⟨_, rfl⟩
  have HQ := Lib.hid hq
  have HLT := Lib.hid (fun (p : Nat → Int) (hp : Fst W H F p) t (ht : t < W + H) (h1 : ∀ j, j < t → p j = q j) (h2 : p t ≠ q t) => (show p t < q t from by
    rw [hq] at hcl
    rcases hp.lex q hcl.1 hcl.2 with h | ⟨s, hs, hj, hl⟩
    · exact absurd (h t ht).symm h2
    · rcases Nat.lt_trichotomy s t with h3 | h3 | h3
      · rw [h1 s h3] at hl; omega
      · rw [← h3]; exact hl
      · exact absurd (hj t h3).symm h2))
  have z0 : ((0 : Int) != 0) = false := rfl
  have yw : ((W : Int) != (W : Int)) = false := by simp
  have yh : ((H : Int) != (H : Int)) = false := by simp
  clear hg ha hb1 hx hy hff hcl hF hq
  obtain ⟨M, hMe⟩ : ∃ M, W * H = M := ⟨_, rfl⟩
  rw [hMe] at HG HT HR HFI HS HIC HRP HRF hM ⊢
  clear hMe
  have LB0 := Lib.hid (Below.refl w.heap.size w)
  have X1 := Box.new w (W : Nat) (H : Nat) (.slice A M c)
  have X1 := Lib.hid X1
  have LB0 := Lib.hid (LB0.out.alloc LB0.out.size (.cells #[.int .i64 (W : Nat), .int .i64 (H : Nat), .slice A M c] 27))
  go_enter Try.func7, Try.ntmps7
  go_upto_region 1 with (fail)
  generalize w.alloc (.cells #[.int .i64 (W : Nat), .int .i64 (H : Nat), .slice A M c] 27) = w0 at *
  go_wp2_with fail
  with_reducible refine Calls.mono (alive15_any _) ?_
  rintro e w1 ⟨rfl, hb⟩
  have LB1 := Lib.hid (LB0.out.trans (hb.mono LB0.out.size))
  have X1 := Lib.hid (X1.out.below hb X1.out.lt)
  clear hb LB0 
  obtain ⟨q0, q1, q2, q3, q4, q5, q6⟩ := X1.out.all
  go_wp2_with fail
  clear q0 q1 q2 q3 q4 q5 q6
  with_reducible refine Calls.mono (HG.out _) ?_
  rintro e w2 ⟨rfl, hb⟩
  have LB2 := Lib.hid (LB1.out.trans (hb.mono LB1.out.size))
  have X1 := Lib.hid (X1.out.below hb X1.out.lt)
  clear hb LB1 
  obtain ⟨q0, q1, q2, q3, q4, q5, q6⟩ := X1.out.all
  go_wp2_with fail
  clear q0 q1 q2 q3 q4 q5 q6
  with_reducible refine Calls.mono (HT.out _ LB2.out) ?_
  rintro e w3 ⟨rfl, hb⟩
  have LB3 := Lib.hid (LB2.out.trans (hb.mono LB2.out.size))
  have X1 := Lib.hid (X1.out.below hb X1.out.lt)
  clear hb LB2 
  obtain ⟨q0, q1, q2, q3, q4, q5, q6⟩ := X1.out.all
  go_wp2_with fail
  clear q0 q1 q2 q3 q4 q5 q6
  with_reducible refine Calls.mono (HR.out _ LB3.out) ?_
  rintro e w4 ⟨A3, c3, rfl, hh, hb⟩
  have LB4 := Lib.hid (LB3.out.trans (hb.mono LB3.out.size))
  have X1 := Lib.hid (X1.out.below hb X1.out.lt)
  have H3 := Lib.hid hh
  clear hb LB3 hh
  have hb := ((Below.refl w4.heap.size w4).alloc (by simp; try omega) (.cells #[.int .i64 (W : Nat), .int .i64 (H : Nat), .slice A3 M c3] 24))
  have LB5 := Lib.hid (LB4.out.trans (hb.mono LB4.out.size))
  have X1 := Lib.hid (X1.out.below hb X1.out.lt)
  have H3 := Lib.hid ((H3.out.below hb).more hb.size)
  have B8 := IBox.new w4 (W : Nat) (H : Nat) (.slice A3 M c3)
  have B8 := Lib.hid B8
  clear hb LB4
  go_upto_region 5 with (fail)
  obtain ⟨b8, hb8⟩ : ∃ z, w4.heap.size = z := ⟨_, rfl⟩
  rw [hb8] at B8
  try rw [hb8]
  clear hb8
  generalize w4.alloc (.cells #[.int .i64 (W : Nat), .int .i64 (H : Nat), .slice A3 M c3] 24) = w5 at *
  obtain ⟨q0, q1, q2, q3, q4, q5, q6⟩ := B8.out.all
  go_wp2_with fail
  clear q0 q1 q2 q3 q4 q5 q6
  with_reducible refine Calls.mono (HIC.out _ _ _ H3.out) ?_
  rintro e w6 ⟨rfl, hb⟩
  have LB6 := Lib.hid (LB5.out.trans (hb.mono LB5.out.size))
  have X1 := Lib.hid (X1.out.below hb X1.out.lt)
  have H3 := Lib.hid ((H3.out.below hb).more hb.size)
  have B8 := Lib.hid (B8.out.below hb B8.out.lt)
  clear hb LB5 
  obtain ⟨p0, p1, p2, p3, p4, p5, p6⟩ := X1.out.all
  obtain ⟨q0, q1, q2, q3, q4, q5, q6⟩ := B8.out.all
  go_wp2_with fail
  clear q0 q1 q2 q3 q4 q5 q6
  with_reducible refine Calls.mono (HS.out _ _ _ LB6.out H3.out) ?_
  rintro e w7 ⟨rfl, hb⟩
  have LB7 := Lib.hid (LB6.out.trans (hb.mono LB6.out.size))
  have X1 := Lib.hid (X1.out.below hb X1.out.lt)
  have H3 := Lib.hid ((H3.out.below hb).more hb.size)
  have B8 := Lib.hid (B8.out.below hb B8.out.lt)
  clear hb LB6 
  clear p0 p1 p2 p3 p4 p5 p6
  clear X1
  obtain ⟨q0, q1, q2, q3, q4, q5, q6⟩ := B8.out.all
  go_wp2_with fail
  clear q0 q1 q2 q3 q4 q5 q6
  with_reducible refine Calls.mono (HFI.out _ _ _ H3.out) ?_
  rintro e w8 ⟨p, A4, c4, A5, c5, rfl, hp, hh4, hh5, hb⟩
  have HP := Lib.hid hp
  clear hp
  have LB8 := Lib.hid (LB7.out.trans (hb.mono LB7.out.size))
  have H3 := Lib.hid ((H3.out.below hb).more hb.size)
  have B8 := Lib.hid (B8.out.below hb B8.out.lt)
  have H4 := Lib.hid hh4
  have H5 := Lib.hid hh5
  clear hb LB7 hh4 hh5
  obtain ⟨q0, q1, q2, q3, q4, q5, q6⟩ := B8.out.all
  go_wp2_with fail
  clear q0 q1 q2 q3 q4 q5 q6
  with_reducible refine Calls.mono (HRP.out p HP.out _ _ _ _ _ _ _ H3.out H4.out H5.out) ?_
  rintro e w9 ⟨rfl, hb⟩
  have LB9 := Lib.hid (LB8.out.trans (hb.mono LB8.out.size))
  have H3 := Lib.hid ((H3.out.below hb).more hb.size)
  have B8 := Lib.hid (B8.out.below hb B8.out.lt)
  have H4 := Lib.hid ((H4.out.below hb).more hb.size)
  have H5 := Lib.hid ((H5.out.below hb).more hb.size)
  clear hb LB8 
  obtain ⟨q0, q1, q2, q3, q4, q5, q6⟩ := B8.out.all
  go_wp2_with fail
  clear q0 q1 q2 q3 q4 q5 q6
  with_reducible refine Calls.mono (HRF.out p HP.out _ _ _ _ _ _ _ H3.out H4.out H5.out) ?_
  rintro e w10 ⟨rfl, hb⟩
  have LB10 := Lib.hid (LB9.out.trans (hb.mono LB9.out.size))
  have H3 := Lib.hid ((H3.out.below hb).more hb.size)
  have B8 := Lib.hid (B8.out.below hb B8.out.lt)
  have H4 := Lib.hid ((H4.out.below hb).more hb.size)
  have H5 := Lib.hid ((H5.out.below hb).more hb.size)
  clear hb LB9 
  have HA4 := Lib.hid (holds_ne H4.out W0 c4)
  have HA5 := Lib.hid (holds_ne H5.out H0 c5)
  have HO1 := Lib.hid (L2.Own.empty w10 (Nat.le_refl _) (fun _ => 0))
  have E1 := Lib.hid (bel_alloc w10 (.cells #[] 3))
  have H4 := Lib.hid (H4.out.below E1.out)
  go_wp2_with (first
    | (at_builtin
       refine L2.appN _ rfl _ _ (by rfl) w10.heap.size (by rfl) HO1.out (by rfl) HA4.out H4.out (by omega) (by omega) (by simp) ?_
       intro v2 x2 hown hb
       have HO2 := Lib.hid hown
       have E2 := Lib.hid (E1.out.trans hb)
       have H5 := Lib.hid (H5.out.below E2.out)
       clear hown hb HO1)
    | (at_builtin
       refine L2.appN _ rfl _ _ (by rfl) w10.heap.size (by rfl) HO2.out (by rfl) HA5.out H5.out (by omega) (by omega) E2.out.size ?_
       intro v3 x3 hown hb
       have HO3 := Lib.hid hown
       have E3 := Lib.hid (E2.out.trans hb)
       have HO4 := Lib.hid (L2.Own.empty x3 (Nat.le_refl _) (fun _ => 0))
       have E4 := Lib.hid (bel_alloc x3 (.cells #[] 3))
       have LBx := Lib.hid (LB10.out.trans (E3.out.mono LB10.out.size))
       have HW1 := Lib.hid (HWA.out _ (LBx.out.trans (E4.out.mono LBx.out.size)))
       clear hown hb HO2)
    | (at_builtin
       refine L2.appN _ rfl _ _ (by rfl) x3.heap.size (by rfl) HO4.out (by rfl) HNA.out HW1.out (by omega) (by omega) (by simp) ?_
       intro v5 x5 hown hb
       have HO5 := Lib.hid hown
       have E5 := Lib.hid (E4.out.trans hb)
       have HW2 := Lib.hid (HWB.out _ (LBx.out.trans (E5.out.mono LBx.out.size)))
       clear hown hb HO4)
    | (at_builtin
       refine L2.appN _ rfl _ _ (by rfl) x3.heap.size (by rfl) HO5.out (by rfl) HNB.out HW2.out (by omega) (by omega) E5.out.size ?_
       intro v6 x6 hown hb
       have HO6 := Lib.hid hown
       have E6 := Lib.hid (E5.out.trans hb)
       clear hown hb HO5))
  have HO3 := Lib.hid (show L2.Own x3 w10.heap.size v3 (W + H) p from by
    have h := HO3.out.congr (g := p) (fun i hi => by
      unfold L2.both
      by_cases h1 : i < 0 + W
      · rw [if_pos h1, if_neg (by omega)]; rfl
      · rw [if_neg h1]; show p (W + (i - (0 + W))) = p i; rw [show W + (i - (0 + W)) = i by omega])
    rw [show 0 + W + H = W + H by omega] at h
    exact h)
  have HO6 := Lib.hid (show L2.Own x6 x3.heap.size v6 (W + H) q from by
    have h := HO6.out.congr (g := q) (fun i hi => by
      rw [← HQ.out]
      unfold L2.both
      by_cases h1 : i < 0 + W
      · rw [if_pos h1, if_neg (by omega)]; show _ = if i < W then a i else b (i - W); rw [if_pos (by omega)]; rfl
      · rw [if_neg h1]; show b (i - (0 + W)) = if i < W then a i else b (i - W); rw [if_neg (by omega), Nat.zero_add])
    rw [show 0 + W + H = W + H by omega] at h
    exact h)
  have HO3 := Lib.hid (HO3.out.below E6.out)
  obtain ⟨P1, d1, rfl, _, _⟩ := HO3.out.out
  obtain ⟨P2, d2, rfl, _, _⟩ := HO6.out.out
  have K1 := Lib.hid HO3.out.holds
  have K2 := Lib.hid HO6.out.holds
  have LBy := Lib.hid (LBx.out.trans (E6.out.mono LBx.out.size))
  have HLT := Lib.hid (HLT.out p HP.out)
  obtain ⟨N, hN⟩ : ∃ z, W + H = z := ⟨_, rfl⟩
  rw [hN] at K1 K2 HLT
  rw [hN]
  have hN2 : N ≤ 128 := by omega
  have hN0 : 1 ≤ N := by omega
  clear HO3 HO6 E1 E2 E3 E4 E5 E6 H3 H4 H5 HW1 HW2 HA4 HA5 HNA HNB HWA HWB HQ HRF HRP HFI HS HIC HR HT HG B8 HP LBx LB10 hN
  try go_wp2
  go_loopw [17] (fun i wr => ∃ t : Nat, t ≤ N ∧ i = .int .i64 (t : Nat) ∧ Hid (∀ j, j < t → p j = q j) ∧ Hid (Below x6.heap.size x6 wr)) (fun i _ => N - (intOf i).toNat)
  case atStart => exact ⟨0, Nat.zero_le _, rfl, Lib.hid (fun j h => absurd h (by omega)), Lib.hid (Below.refl _ _)⟩
  case round =>
    obtain ⟨t, ht, rfl, HE, HB⟩ := hrel
    by_cases hlt : t < N
    · have y1 : (t : Int) < (N : Int) := by omega
      have y2 : (0 : Int) ≤ (t : Int) := by omega
      obtain ⟨bx, ox, ex, lx, cx⟩ := (K1.out.below HB.out) (by omega)
      obtain ⟨by1, oy, ey, ly, cy⟩ := (K2.out.below HB.out) (by omega)
      have k1 := cx t hlt
      have k2 := cy t hlt
      clear cx cy lx ly
      have HL1 := Lib.hid (HLT.out t hlt HE.out)
      have HE2 := Lib.hid (fun (h : p t = q t) => (show ∀ j, j < t + 1 → p j = q j from fun j hj => if e : j = t then by rw [e]; exact h else HE.out j (by omega)))
      obtain ⟨pv, hpv⟩ : ∃ z, p t = z := ⟨_, rfl⟩
      obtain ⟨qv, hqv⟩ : ∃ z, q t = z := ⟨_, rfl⟩
      rw [hpv] at k1
      rw [hqv] at k2
      rw [hpv, hqv] at HL1
      simp only [hpv, hqv] at HE2
      clear hpv hqv
      subst ex ey
      by_cases h1 : pv = qv
      · have y3 : (pv != qv) = false := by simp [h1]
        have HG := Lib.hid (HE2.out h1)
        clear h1
        go_wp2
        have hSw : (fun u : World => u.cell? ⟨bx, ox + t, none⟩ = some (.int .i64 pv) ∧ u.cell? ⟨by1, oy + t, none⟩ = some (.int .i64 qv)) wr.drew := ⟨k1, k2⟩
        refine wp_region_held (S := fun u : World => u.cell? ⟨bx, ox + t, none⟩ = some (.int .i64 pv) ∧ u.cell? ⟨by1, oy + t, none⟩ = some (.int .i64 qv)) (by kernel_rfl) ?_
        try (change wpAnyH _ _ _ _ _ _ _ _ (World.drew _))
        refine wpAnyH_take (i := 0) (v := ?_) rfl (by kernel_rfl) (by kernel_rfl) (by kernel_rfl) (fun _ _ _ h => h) (Or.inl ⟨by kernel_rfl, ?_⟩) hSw ?_
        rotate_left
        · (intro u hu; obtain ⟨h0, h1⟩ := hu; first | (go_simp; done) | (go_simp; with_reducible rfl))
        try simp only [Act.put, List.getElem_toArray, List.getElem_cons_succ, List.getElem_cons_zero, List.setIfInBounds_toArray, List.set_cons_zero, List.set_cons_succ]
        refine wpAnyH_take (i := 1) (v := ?_) rfl (by kernel_rfl) (by kernel_rfl) (by kernel_rfl) (fun _ _ _ h => h) (Or.inl ⟨by kernel_rfl, ?_⟩) hSw ?_
        rotate_left
        · (intro u hu; obtain ⟨h0, h1⟩ := hu; first | (go_simp; done) | (go_simp; with_reducible rfl))
        try simp only [Act.put, List.getElem_toArray, List.getElem_cons_succ, List.getElem_cons_zero, List.setIfInBounds_toArray, List.set_cons_zero, List.set_cons_succ]
        refine wpAnyH_take (i := 2) (v := ?_) rfl (by kernel_rfl) (by kernel_rfl) (by kernel_rfl) (fun _ _ _ h => h) (Or.inl ⟨by kernel_rfl, ?_⟩) hSw ?_
        rotate_left
        · (intro u hu; obtain ⟨h0, h1⟩ := hu; first | (go_simp; done) | (go_simp; with_reducible rfl))
        try simp only [Act.put, List.getElem_toArray, List.getElem_cons_succ, List.getElem_cons_zero, List.setIfInBounds_toArray, List.set_cons_zero, List.set_cons_succ]
        refine wpAnyH_take (i := 3) (v := ?_) rfl (by kernel_rfl) (by kernel_rfl) (by kernel_rfl) (fun _ _ _ h => h) (Or.inl ⟨by kernel_rfl, ?_⟩) hSw ?_
        rotate_left
        · (intro u hu; obtain ⟨h0, h1⟩ := hu; first | (go_simp; done) | (go_simp; with_reducible rfl))
        try simp only [Act.put, List.getElem_toArray, List.getElem_cons_succ, List.getElem_cons_zero, List.setIfInBounds_toArray, List.set_cons_zero, List.set_cons_succ]
        refine wpAnyH_take (i := 4) (v := ?_) rfl (by kernel_rfl) (by kernel_rfl) (by kernel_rfl) (fun _ _ _ h => h) (Or.inl ⟨by kernel_rfl, ?_⟩) hSw ?_
        rotate_left
        · (intro u hu; obtain ⟨h0, h1⟩ := hu; first | (go_simp; done) | (go_simp; with_reducible rfl))
        try simp only [Act.put, List.getElem_toArray, List.getElem_cons_succ, List.getElem_cons_zero, List.setIfInBounds_toArray, List.set_cons_zero, List.set_cons_succ]
        refine wpAnyH_take (i := 5) (v := ?_) rfl (by kernel_rfl) (by kernel_rfl) (by kernel_rfl) (fun _ _ _ h => h) (Or.inl ⟨by kernel_rfl, ?_⟩) hSw ?_
        rotate_left
        · (intro u hu; obtain ⟨h0, h1⟩ := hu; first | (go_simp; done) | (go_simp; with_reducible rfl))
        try simp only [Act.put, List.getElem_toArray, List.getElem_cons_succ, List.getElem_cons_zero, List.setIfInBounds_toArray, List.set_cons_zero, List.set_cons_succ]
        refine wpAnyH_take (i := 6) (v := ?_) rfl (by kernel_rfl) (by kernel_rfl) (by kernel_rfl) (fun _ _ _ h => h) (Or.inl ⟨by kernel_rfl, ?_⟩) hSw ?_
        rotate_left
        · (intro u hu; obtain ⟨h0, h1⟩ := hu; first | (go_simp; done) | (go_simp; with_reducible rfl))
        try simp only [Act.put, List.getElem_toArray, List.getElem_cons_succ, List.getElem_cons_zero, List.setIfInBounds_toArray, List.set_cons_zero, List.set_cons_succ]
        refine wpAnyH_take (i := 7) (v := ?_) rfl (by kernel_rfl) (by kernel_rfl) (by kernel_rfl) (fun _ _ _ h => h) (Or.inl ⟨by kernel_rfl, ?_⟩) hSw ?_
        rotate_left
        · (intro u hu; obtain ⟨h0, h1⟩ := hu; first | (go_simp; done) | (go_simp; with_reducible rfl))
        try simp only [Act.put, List.getElem_toArray, List.getElem_cons_succ, List.getElem_cons_zero, List.setIfInBounds_toArray, List.set_cons_zero, List.set_cons_succ]
        refine wpAnyH_take (i := 8) (v := ?_) rfl (by kernel_rfl) (by kernel_rfl) (by kernel_rfl) (fun _ _ _ h => h) (Or.inl ⟨by kernel_rfl, ?_⟩) hSw ?_
        rotate_left
        · (intro u hu; obtain ⟨h0, h1⟩ := hu; first | (go_simp; done) | (go_simp; with_reducible rfl))
        try simp only [Act.put, List.getElem_toArray, List.getElem_cons_succ, List.getElem_cons_zero, List.setIfInBounds_toArray, List.set_cons_zero, List.set_cons_succ]
        refine wpAnyH_done (by kernel_rfl) ?_ _
        clear hSw
        go_wp2
        go_roundw
        case rel => exact ⟨t + 1, by omega, by go_num, HG, Lib.hid HB.out.drew⟩
        case measure => simp [intOf]; omega
      · have y3 : (pv != qv) = true := by simp [h1]
        have y4 : pv < qv := HL1.out h1
        clear h1
        go_wp2
        have hSw : (fun u : World => u.cell? ⟨bx, ox + t, none⟩ = some (.int .i64 pv) ∧ u.cell? ⟨by1, oy + t, none⟩ = some (.int .i64 qv)) wr.drew := ⟨k1, k2⟩
        refine wp_region_held (S := fun u : World => u.cell? ⟨bx, ox + t, none⟩ = some (.int .i64 pv) ∧ u.cell? ⟨by1, oy + t, none⟩ = some (.int .i64 qv)) (by kernel_rfl) ?_
        try (change wpAnyH _ _ _ _ _ _ _ _ (World.drew _))
        refine wpAnyH_take (i := 0) (v := ?_) rfl (by kernel_rfl) (by kernel_rfl) (by kernel_rfl) (fun _ _ _ h => h) (Or.inl ⟨by kernel_rfl, ?_⟩) hSw ?_
        rotate_left
        · (intro u hu; obtain ⟨h0, h1⟩ := hu; first | (go_simp; done) | (go_simp; with_reducible rfl))
        try simp only [Act.put, List.getElem_toArray, List.getElem_cons_succ, List.getElem_cons_zero, List.setIfInBounds_toArray, List.set_cons_zero, List.set_cons_succ]
        refine wpAnyH_take (i := 1) (v := ?_) rfl (by kernel_rfl) (by kernel_rfl) (by kernel_rfl) (fun _ _ _ h => h) (Or.inl ⟨by kernel_rfl, ?_⟩) hSw ?_
        rotate_left
        · (intro u hu; obtain ⟨h0, h1⟩ := hu; first | (go_simp; done) | (go_simp; with_reducible rfl))
        try simp only [Act.put, List.getElem_toArray, List.getElem_cons_succ, List.getElem_cons_zero, List.setIfInBounds_toArray, List.set_cons_zero, List.set_cons_succ]
        refine wpAnyH_take (i := 2) (v := ?_) rfl (by kernel_rfl) (by kernel_rfl) (by kernel_rfl) (fun _ _ _ h => h) (Or.inl ⟨by kernel_rfl, ?_⟩) hSw ?_
        rotate_left
        · (intro u hu; obtain ⟨h0, h1⟩ := hu; first | (go_simp; done) | (go_simp; with_reducible rfl))
        try simp only [Act.put, List.getElem_toArray, List.getElem_cons_succ, List.getElem_cons_zero, List.setIfInBounds_toArray, List.set_cons_zero, List.set_cons_succ]
        refine wpAnyH_take (i := 3) (v := ?_) rfl (by kernel_rfl) (by kernel_rfl) (by kernel_rfl) (fun _ _ _ h => h) (Or.inl ⟨by kernel_rfl, ?_⟩) hSw ?_
        rotate_left
        · (intro u hu; obtain ⟨h0, h1⟩ := hu; first | (go_simp; done) | (go_simp; with_reducible rfl))
        try simp only [Act.put, List.getElem_toArray, List.getElem_cons_succ, List.getElem_cons_zero, List.setIfInBounds_toArray, List.set_cons_zero, List.set_cons_succ]
        refine wpAnyH_take (i := 4) (v := ?_) rfl (by kernel_rfl) (by kernel_rfl) (by kernel_rfl) (fun _ _ _ h => h) (Or.inl ⟨by kernel_rfl, ?_⟩) hSw ?_
        rotate_left
        · (intro u hu; obtain ⟨h0, h1⟩ := hu; first | (go_simp; done) | (go_simp; with_reducible rfl))
        try simp only [Act.put, List.getElem_toArray, List.getElem_cons_succ, List.getElem_cons_zero, List.setIfInBounds_toArray, List.set_cons_zero, List.set_cons_succ]
        refine wpAnyH_take (i := 5) (v := ?_) rfl (by kernel_rfl) (by kernel_rfl) (by kernel_rfl) (fun _ _ _ h => h) (Or.inl ⟨by kernel_rfl, ?_⟩) hSw ?_
        rotate_left
        · (intro u hu; obtain ⟨h0, h1⟩ := hu; first | (go_simp; done) | (go_simp; with_reducible rfl))
        try simp only [Act.put, List.getElem_toArray, List.getElem_cons_succ, List.getElem_cons_zero, List.setIfInBounds_toArray, List.set_cons_zero, List.set_cons_succ]
        refine wpAnyH_take (i := 6) (v := ?_) rfl (by kernel_rfl) (by kernel_rfl) (by kernel_rfl) (fun _ _ _ h => h) (Or.inl ⟨by kernel_rfl, ?_⟩) hSw ?_
        rotate_left
        · (intro u hu; obtain ⟨h0, h1⟩ := hu; first | (go_simp; done) | (go_simp; with_reducible rfl))
        try simp only [Act.put, List.getElem_toArray, List.getElem_cons_succ, List.getElem_cons_zero, List.setIfInBounds_toArray, List.set_cons_zero, List.set_cons_succ]
        refine wpAnyH_take (i := 7) (v := ?_) rfl (by kernel_rfl) (by kernel_rfl) (by kernel_rfl) (fun _ _ _ h => h) (Or.inl ⟨by kernel_rfl, ?_⟩) hSw ?_
        rotate_left
        · (intro u hu; obtain ⟨h0, h1⟩ := hu; first | (go_simp; done) | (go_simp; with_reducible rfl))
        try simp only [Act.put, List.getElem_toArray, List.getElem_cons_succ, List.getElem_cons_zero, List.setIfInBounds_toArray, List.set_cons_zero, List.set_cons_succ]
        refine wpAnyH_take (i := 8) (v := ?_) rfl (by kernel_rfl) (by kernel_rfl) (by kernel_rfl) (fun _ _ _ h => h) (Or.inl ⟨by kernel_rfl, ?_⟩) hSw ?_
        rotate_left
        · (intro u hu; obtain ⟨h0, h1⟩ := hu; first | (go_simp; done) | (go_simp; with_reducible rfl))
        try simp only [Act.put, List.getElem_toArray, List.getElem_cons_succ, List.getElem_cons_zero, List.setIfInBounds_toArray, List.set_cons_zero, List.set_cons_succ]
        refine wpAnyH_done (by kernel_rfl) ?_ _
        go_wp2
        have hSw2 : (fun u : World => u.cell? ⟨bx, ox + t, none⟩ = some (.int .i64 pv) ∧ u.cell? ⟨by1, oy + t, none⟩ = some (.int .i64 qv)) wr.drew.drew := hSw
        refine wp_region_held (S := fun u : World => u.cell? ⟨bx, ox + t, none⟩ = some (.int .i64 pv) ∧ u.cell? ⟨by1, oy + t, none⟩ = some (.int .i64 qv)) (by kernel_rfl) ?_
        try (change wpAnyH _ _ _ _ _ _ _ _ (World.drew _))
        refine wpAnyH_take (i := 0) (v := ?_) rfl (by kernel_rfl) (by kernel_rfl) (by kernel_rfl) (fun _ _ _ h => h) (Or.inl ⟨by kernel_rfl, ?_⟩) hSw2 ?_
        rotate_left
        · (intro u hu; obtain ⟨h0, h1⟩ := hu; first | (go_simp; done) | (go_simp; with_reducible rfl))
        try simp only [Act.put, List.getElem_toArray, List.getElem_cons_succ, List.getElem_cons_zero, List.setIfInBounds_toArray, List.set_cons_zero, List.set_cons_succ]
        refine wpAnyH_take (i := 1) (v := ?_) rfl (by kernel_rfl) (by kernel_rfl) (by kernel_rfl) (fun _ _ _ h => h) (Or.inl ⟨by kernel_rfl, ?_⟩) hSw2 ?_
        rotate_left
        · (intro u hu; obtain ⟨h0, h1⟩ := hu; first | (go_simp; done) | (go_simp; with_reducible rfl))
        try simp only [Act.put, List.getElem_toArray, List.getElem_cons_succ, List.getElem_cons_zero, List.setIfInBounds_toArray, List.set_cons_zero, List.set_cons_succ]
        refine wpAnyH_take (i := 2) (v := ?_) rfl (by kernel_rfl) (by kernel_rfl) (by kernel_rfl) (fun _ _ _ h => h) (Or.inl ⟨by kernel_rfl, ?_⟩) hSw2 ?_
        rotate_left
        · (intro u hu; obtain ⟨h0, h1⟩ := hu; first | (go_simp; done) | (go_simp; with_reducible rfl))
        try simp only [Act.put, List.getElem_toArray, List.getElem_cons_succ, List.getElem_cons_zero, List.setIfInBounds_toArray, List.set_cons_zero, List.set_cons_succ]
        refine wpAnyH_take (i := 3) (v := ?_) rfl (by kernel_rfl) (by kernel_rfl) (by kernel_rfl) (fun _ _ _ h => h) (Or.inl ⟨by kernel_rfl, ?_⟩) hSw2 ?_
        rotate_left
        · (intro u hu; obtain ⟨h0, h1⟩ := hu; first | (go_simp; done) | (go_simp; with_reducible rfl))
        try simp only [Act.put, List.getElem_toArray, List.getElem_cons_succ, List.getElem_cons_zero, List.setIfInBounds_toArray, List.set_cons_zero, List.set_cons_succ]
        refine wpAnyH_take (i := 4) (v := ?_) rfl (by kernel_rfl) (by kernel_rfl) (by kernel_rfl) (fun _ _ _ h => h) (Or.inl ⟨by kernel_rfl, ?_⟩) hSw2 ?_
        rotate_left
        · (intro u hu; obtain ⟨h0, h1⟩ := hu; first | (go_simp; done) | (go_simp; with_reducible rfl))
        try simp only [Act.put, List.getElem_toArray, List.getElem_cons_succ, List.getElem_cons_zero, List.setIfInBounds_toArray, List.set_cons_zero, List.set_cons_succ]
        refine wpAnyH_take (i := 5) (v := ?_) rfl (by kernel_rfl) (by kernel_rfl) (by kernel_rfl) (fun _ _ _ h => h) (Or.inl ⟨by kernel_rfl, ?_⟩) hSw2 ?_
        rotate_left
        · (intro u hu; obtain ⟨h0, h1⟩ := hu; first | (go_simp; done) | (go_simp; with_reducible rfl))
        try simp only [Act.put, List.getElem_toArray, List.getElem_cons_succ, List.getElem_cons_zero, List.setIfInBounds_toArray, List.set_cons_zero, List.set_cons_succ]
        refine wpAnyH_take (i := 6) (v := ?_) rfl (by kernel_rfl) (by kernel_rfl) (by kernel_rfl) (fun _ _ _ h => h) (Or.inl ⟨by kernel_rfl, ?_⟩) hSw2 ?_
        rotate_left
        · (intro u hu; obtain ⟨h0, h1⟩ := hu; first | (go_simp; done) | (go_simp; with_reducible rfl))
        try simp only [Act.put, List.getElem_toArray, List.getElem_cons_succ, List.getElem_cons_zero, List.setIfInBounds_toArray, List.set_cons_zero, List.set_cons_succ]
        refine wpAnyH_take (i := 7) (v := ?_) rfl (by kernel_rfl) (by kernel_rfl) (by kernel_rfl) (fun _ _ _ h => h) (Or.inl ⟨by kernel_rfl, ?_⟩) hSw2 ?_
        rotate_left
        · (intro u hu; obtain ⟨h0, h1⟩ := hu; first | (go_simp; done) | (go_simp; with_reducible rfl))
        try simp only [Act.put, List.getElem_toArray, List.getElem_cons_succ, List.getElem_cons_zero, List.setIfInBounds_toArray, List.set_cons_zero, List.set_cons_succ]
        refine wpAnyH_take (i := 8) (v := ?_) rfl (by kernel_rfl) (by kernel_rfl) (by kernel_rfl) (fun _ _ _ h => h) (Or.inl ⟨by kernel_rfl, ?_⟩) hSw2 ?_
        rotate_left
        · (intro u hu; obtain ⟨h0, h1⟩ := hu; first | (go_simp; done) | (go_simp; with_reducible rfl))
        try simp only [Act.put, List.getElem_toArray, List.getElem_cons_succ, List.getElem_cons_zero, List.setIfInBounds_toArray, List.set_cons_zero, List.set_cons_succ]
        refine wpAnyH_take (i := 9) (v := ?_) rfl (by kernel_rfl) (by kernel_rfl) (by kernel_rfl) (fun _ _ _ h => h) (Or.inl ⟨by kernel_rfl, ?_⟩) hSw2 ?_
        rotate_left
        · (intro u hu; obtain ⟨h0, h1⟩ := hu; first | (go_simp; done) | (go_simp; with_reducible rfl))
        try simp only [Act.put, List.getElem_toArray, List.getElem_cons_succ, List.getElem_cons_zero, List.setIfInBounds_toArray, List.set_cons_zero, List.set_cons_succ]
        refine wpAnyH_take (i := 10) (v := ?_) rfl (by kernel_rfl) (by kernel_rfl) (by kernel_rfl) (fun _ _ _ h => h) (Or.inl ⟨by kernel_rfl, ?_⟩) hSw2 ?_
        rotate_left
        · (intro u hu; obtain ⟨h0, h1⟩ := hu; first | (go_simp; done) | (go_simp; with_reducible rfl))
        try simp only [Act.put, List.getElem_toArray, List.getElem_cons_succ, List.getElem_cons_zero, List.setIfInBounds_toArray, List.set_cons_zero, List.set_cons_succ]
        refine wpAnyH_take (i := 11) (v := ?_) rfl (by kernel_rfl) (by kernel_rfl) (by kernel_rfl) (fun _ _ _ h => h) (Or.inl ⟨by kernel_rfl, ?_⟩) hSw2 ?_
        rotate_left
        · (intro u hu; obtain ⟨h0, h1⟩ := hu; first | (go_simp; done) | (go_simp; with_reducible rfl))
        try simp only [Act.put, List.getElem_toArray, List.getElem_cons_succ, List.getElem_cons_zero, List.setIfInBounds_toArray, List.set_cons_zero, List.set_cons_succ]
        refine wpAnyH_take (i := 12) (v := ?_) rfl (by kernel_rfl) (by kernel_rfl) (by kernel_rfl) (fun _ _ _ h => h) (Or.inl ⟨by kernel_rfl, ?_⟩) hSw2 ?_
        rotate_left
        · (intro u hu; obtain ⟨h0, h1⟩ := hu; first | (go_simp; done) | (go_simp; with_reducible rfl))
        try simp only [Act.put, List.getElem_toArray, List.getElem_cons_succ, List.getElem_cons_zero, List.setIfInBounds_toArray, List.set_cons_zero, List.set_cons_succ]
        refine wpAnyH_done (by kernel_rfl) ?_ _
        clear hSw hSw2
        go_wp2
        go_ret
        exact ⟨rfl, LBy.out.trans (HB.out.drew.drew.mono LBy.out.size)⟩
    · have y1 : ¬ (t : Int) < (N : Int) := by omega
      go_wp2
      go_ret
      exact ⟨rfl, LBy.out.trans (HB.out.mono LBy.out.size)⟩
theorem own15_any (W H : Int) (A B C : Option Addr) (n c m d k e : Nat) (s : Nat → Bool) (a b : Nat → Int) (w : World) (hg : Holds w w.heap.size A n s) (ha : L2.Holds w w.heap.size B m a) (hb1 : L2.Holds w w.heap.size C k b) :
    Calls Try.prog 7 #[.agg #[.int .i64 W, .int .i64 H, .slice A n c], .slice B m d, .slice C k e] w fun e w' => e = .returned (.bool true) ∧ Below w.heap.size w w' := by
  by_cases hz : 4200 < n ∨ thE W H n m k a b ≠ 0
  · exact own_no W H A B C n c m d k e s a b w hg ha hb1 hz
  · have h1 : thE W H n m k a b = 0 := Classical.byContradiction fun q => hz (.inr q)
    clear hz
    obtain ⟨P, Q, rfl, rfl, rfl, rfl, rfl, p0, p1, q0, q1, hx, hy⟩ := thE_zero h1
    exact own_law m k A B C c d e s a b w hg ha hb1 p0 p1 q0 q1 hx hy
end Go.Proofs.Ytmcdfnhpaneanaa
