/- PictureTurns: the walk. -/
import Derived.Test.YtmcdfnhpaneanaaPtm
import Derived.Test.YtmcdfnhpaneanaaPsl
import Derived.Test.YtmcdfnhpaneanaaPav
import Derived.Test.YtmcdfnhpaneanaaPrf
namespace Go.Proofs.Ytmcdfnhpaneanaa
open Go.RowKit
set_option maxRecDepth 100000
set_option linter.unusedVariables false
set_option linter.unusedSimpArgs false

theorem LLo.congr {w : World} {A : Option Addr} {n : Nat} {L L' : Nat → List Nat} (h : LLo w A n L) (e : ∀ i, i < n → L i = L' i) : LLo w A n L' := fun h0 => by
  obtain ⟨b, e1, hl, hc⟩ := h h0
  exact ⟨b, e1, hl, fun i hi => by rw [← e i hi]; exact hc i hi⟩
set_option maxHeartbeats 800000 in
theorem turns_no (W H : Int) (A : Option Addr) (n c : Nat) (f : Nat → Int) (w : World) (hf : L2.Holds w w.heap.size A n f) (hz : ick W H n f ≠ 0 ∨ 100 < n) : Calls Try.prog 8 #[.agg #[.int .i64 W, .int .i64 H, .slice A n c]] w fun e w' => e = .returned (.bool true) ∧ Below w.heap.size w w' := by
  have HI := Lib.hid (fun u (hb : Below w.heap.size w u) => rick_any W H A n c f u ((hf.below hb).more hb.size))
  have z0 : ((0 : Int) != 0) = false := rfl
  clear hf
  obtain ⟨z, hz1⟩ : ∃ z, ick W H n f = z := ⟨_, rfl⟩
  rw [hz1] at HI hz
  clear hz1
  by_cases h1 : z = 0
  · subst h1
    have y1 : (100 : Int) < (n : Int) := by
      rcases hz with h | h
      · exact absurd rfl h
      · omega
    clear hz
    have LB0 := Lib.hid (Below.refl w.heap.size w)
    have X1 := IBox.new w W H (.slice A n c)
    have X1 := Lib.hid X1
    have LB0 := Lib.hid (LB0.out.alloc LB0.out.size (.cells #[.int .i64 W, .int .i64 H, .slice A n c] 24))
    go_enter Try.func8, Try.ntmps8
    go_upto_region 1 with (fail)
    generalize w.alloc (.cells #[.int .i64 W, .int .i64 H, .slice A n c] 24) = w0 at *
    go_wp2_with fail
    with_reducible refine Calls.mono (alive15_any _) ?_
    rintro e w1 ⟨rfl, hb⟩
    have LB1 := Lib.hid (LB0.out.trans (hb.mono LB0.out.size))
    have X1 := Lib.hid (X1.out.below hb X1.out.lt)
    clear hb LB0 
    obtain ⟨q0, q1, q2, q3, q4, q5, q6⟩ := X1.out.all
    go_wp2_with fail
    clear q0 q1 q2 q3 q4 q5 q6
    with_reducible refine Calls.mono (HI.out _ LB1.out) ?_
    rintro e w2 ⟨rfl, hb⟩
    have LB2 := Lib.hid (LB1.out.trans (hb.mono LB1.out.size))
    have X1 := Lib.hid (X1.out.below hb X1.out.lt)
    clear hb LB1 
    obtain ⟨q0, q1, q2, q3, q4, q5, q6⟩ := X1.out.all
    go_wp2
    go_ret
    exact ⟨rfl, LB2.out⟩
  · have y1 : (z != 0) = true := by simp [h1]
    clear h1 hz
    have LB0 := Lib.hid (Below.refl w.heap.size w)
    have X1 := IBox.new w W H (.slice A n c)
    have X1 := Lib.hid X1
    have LB0 := Lib.hid (LB0.out.alloc LB0.out.size (.cells #[.int .i64 W, .int .i64 H, .slice A n c] 24))
    go_enter Try.func8, Try.ntmps8
    go_upto_region 1 with (fail)
    generalize w.alloc (.cells #[.int .i64 W, .int .i64 H, .slice A n c] 24) = w0 at *
    go_wp2_with fail
    with_reducible refine Calls.mono (alive15_any _) ?_
    rintro e w1 ⟨rfl, hb⟩
    have LB1 := Lib.hid (LB0.out.trans (hb.mono LB0.out.size))
    have X1 := Lib.hid (X1.out.below hb X1.out.lt)
    clear hb LB0 
    obtain ⟨q0, q1, q2, q3, q4, q5, q6⟩ := X1.out.all
    go_wp2_with fail
    clear q0 q1 q2 q3 q4 q5 q6
    with_reducible refine Calls.mono (HI.out _ LB1.out) ?_
    rintro e w2 ⟨rfl, hb⟩
    have LB2 := Lib.hid (LB1.out.trans (hb.mono LB1.out.size))
    have X1 := Lib.hid (X1.out.below hb X1.out.lt)
    clear hb LB1 
    obtain ⟨q0, q1, q2, q3, q4, q5, q6⟩ := X1.out.all
    go_wp2
    go_ret
    exact ⟨rfl, LB2.out⟩
set_option maxHeartbeats 1600000 in
theorem turns_none (W H : Nat) (A : Option Addr) (c : Nat) (f : Nat → Int) (w : World) (hf : L2.Holds w w.heap.size A (W * H) f) (W0 : 1 ≤ W) (W1 : W ≤ 64) (H0 : 1 ≤ H) (H1 : H ≤ 64) (hff : fine (W * H) f = true) (hN : W * H ≤ 100) (hno : NoFit W H f) : Calls Try.prog 8 #[.agg #[.int .i64 (W : Nat), .int .i64 (H : Nat), .slice A (W * H) c]] w fun e w' => e = .returned (.bool true) ∧ Below w.heap.size w w' := by
  have hN2 : H * W ≤ 100 := by rw [Nat.mul_comm]; exact hN
  have hft : fine (H * W) (tuF W H f) = true := fine_yes fun i hi => by
    unfold tuF
    exact fine_of hff _ (in_grid (div_bd hi) (Nat.mod_lt _ H0))
  have HI := Lib.hid (fun u (hb : Below w.heap.size w u) => rick_any (W : Nat) (H : Nat) A (W * H) c f u ((hf.below hb).more hb.size))
  rw [ick_zero W0 W1 H0 H1 hff] at HI
  have HT := Lib.hid (fun u (hb : Below w.heap.size w u) => (show Calls Try.prog 40 #[.agg #[.int .i64 (W : Nat), .int .i64 (H : Nat), .slice A (W * H) c]] u (RI u (H : Nat) (W : Nat) (H * W) (tuF W H f) 0) from iturn_ok W H A c f u ((hf.below hb).more hb.size) W0 W1 H0 H1 hff))
  have HJ := Lib.hid (fun u A2 c2 (hl : L2.Holds u u.heap.size A2 (H * W) (tuF W H f)) => rick_any (H : Nat) (W : Nat) A2 (H * W) c2 _ u hl)
  rw [ick_zero H0 H1 W0 W1 hft] at HJ
  have z0 : ((0 : Int) != 0) = false := rfl
  have z6 : ((6 : Int) != 0) = true := rfl
  have z66 : ((6 : Int) != 6) = false := rfl
  have yw : ((W : Int) != (W : Int)) = false := by simp
  have yh : ((H : Int) != (H : Int)) = false := by simp
  have yN : ¬ (100 : Int) < ((W * H : Nat) : Int) := by omega
  have HF1 := Lib.hid (fun u (hb : Below w.heap.size w u) => (first_ok W H A c f u W0 W1 H0 H1 ((hf.below hb).more hb.size) hff).mono fun e w' h => (show e = .returned (.tuple #[.slice none 0 0, .slice none 0 0, .int .i64 6]) ∧ Below u.heap.size u w' from h.elim (fun ⟨p, _, _, _, _, _, q, _⟩ => absurd hno q.some_) (fun q => ⟨q.1, q.2.2⟩)))
  have HF2 := Lib.hid (fun u A2 c2 (hl : L2.Holds u u.heap.size A2 (H * W) (tuF W H f)) => (first_ok H W A2 c2 _ u H0 H1 W0 W1 hl hft).mono fun e w' h => (show e = .returned (.tuple #[.slice none 0 0, .slice none 0 0, .int .i64 6]) ∧ Below u.heap.size u w' from h.elim (fun ⟨p, _, _, _, _, _, q, _⟩ => absurd (nofit_turn.2 hno) q.some_) (fun q => ⟨q.1, q.2.2⟩)))
  have HC1 := Lib.hid (fun u (hb : Below w.heap.size w u) => (choices_ok W H A c f u W0 W1 H0 H1 ((hf.below hb).more hb.size) hff).mono fun e w' h => (show e = .returned (.tuple #[.slice none 0 0, .slice none 0 0, .int .i64 6]) ∧ Below u.heap.size u w' from h.elim (fun ⟨p, _, _, _, _, _, q, _⟩ => absurd hno q.some_) (fun q => ⟨q.1, q.2.2⟩)))
  have HC2 := Lib.hid (fun u A2 c2 (hl : L2.Holds u u.heap.size A2 (H * W) (tuF W H f)) => (choices_ok H W A2 c2 _ u H0 H1 W0 W1 hl hft).mono fun e w' h => (show e = .returned (.tuple #[.slice none 0 0, .slice none 0 0, .int .i64 6]) ∧ Below u.heap.size u w' from h.elim (fun ⟨p, _, _, _, _, _, q, _⟩ => absurd (nofit_turn.2 hno) q.some_) (fun q => ⟨q.1, q.2.2⟩)))
  clear hf hff hft hno
  obtain ⟨M, hMe⟩ : ∃ M, W * H = M := ⟨_, rfl⟩
  obtain ⟨M2, hMe2⟩ : ∃ M, H * W = M := ⟨_, rfl⟩
  rw [hMe] at HI HT HF1 HC1 yN ⊢
  rw [hMe2] at HT HJ HF2 HC2
  clear hMe hMe2 hN hN2
  have LB0 := Lib.hid (Below.refl w.heap.size w)
  have X1 := IBox.new w (W : Nat) (H : Nat) (.slice A M c)
  have X1 := Lib.hid X1
  have LB0 := Lib.hid (LB0.out.alloc LB0.out.size (.cells #[.int .i64 (W : Nat), .int .i64 (H : Nat), .slice A M c] 24))
  go_enter Try.func8, Try.ntmps8
  go_upto_region 1 with (fail)
  generalize w.alloc (.cells #[.int .i64 (W : Nat), .int .i64 (H : Nat), .slice A M c] 24) = w0 at *
  go_wp2_with fail
  with_reducible refine Calls.mono (alive15_any _) ?_
  rintro e w1 ⟨rfl, hb⟩
  have LB1 := Lib.hid (LB0.out.trans (hb.mono LB0.out.size))
  have X1 := Lib.hid (X1.out.below hb X1.out.lt)
  clear hb LB0 
  obtain ⟨q0, q1, q2, q3, q4, q5, q6⟩ := X1.out.all
  go_wp2_with fail
  clear q0 q1 q2 q3 q4 q5 q6
  with_reducible refine Calls.mono (HI.out _ LB1.out) ?_
  rintro e w2 ⟨rfl, hb⟩
  have LB2 := Lib.hid (LB1.out.trans (hb.mono LB1.out.size))
  have X1 := Lib.hid (X1.out.below hb X1.out.lt)
  clear hb LB1 
  obtain ⟨q0, q1, q2, q3, q4, q5, q6⟩ := X1.out.all
  go_wp2_with fail
  clear q0 q1 q2 q3 q4 q5 q6
  with_reducible refine Calls.mono (HT.out _ LB2.out) ?_
  rintro e w3 ⟨A3, c3, rfl, hh, hb⟩
  have LB3 := Lib.hid (LB2.out.trans (hb.mono LB2.out.size))
  have X1 := Lib.hid (X1.out.below hb X1.out.lt)
  have H3 := Lib.hid hh
  clear hb LB2 hh
  have hb := ((Below.refl w3.heap.size w3).alloc (by simp; try omega) (.cells #[.int .i64 (H : Nat), .int .i64 (W : Nat), .slice A3 M2 c3] 24))
  have LB4 := Lib.hid (LB3.out.trans (hb.mono LB3.out.size))
  have X1 := Lib.hid (X1.out.below hb X1.out.lt)
  have H3 := Lib.hid ((H3.out.below hb).more hb.size)
  have B8 := IBox.new w3 (H : Nat) (W : Nat) (.slice A3 M2 c3)
  have B8 := Lib.hid B8
  clear hb LB3
  go_upto_region 5 with (fail)
  obtain ⟨b8, hb8⟩ : ∃ z, w3.heap.size = z := ⟨_, rfl⟩
  rw [hb8] at B8
  try rw [hb8]
  clear hb8
  generalize w3.alloc (.cells #[.int .i64 (H : Nat), .int .i64 (W : Nat), .slice A3 M2 c3] 24) = w4 at *
  obtain ⟨q0, q1, q2, q3, q4, q5, q6⟩ := B8.out.all
  go_wp2_with fail
  clear q0 q1 q2 q3 q4 q5 q6
  with_reducible refine Calls.mono (HJ.out _ _ _ H3.out) ?_
  rintro e w5 ⟨rfl, hb⟩
  have LB5 := Lib.hid (LB4.out.trans (hb.mono LB4.out.size))
  have X1 := Lib.hid (X1.out.below hb X1.out.lt)
  have H3 := Lib.hid ((H3.out.below hb).more hb.size)
  have B8 := Lib.hid (B8.out.below hb B8.out.lt)
  clear hb LB4 
  obtain ⟨p0, p1, p2, p3, p4, p5, p6⟩ := B8.out.all
  obtain ⟨q0, q1, q2, q3, q4, q5, q6⟩ := X1.out.all
  go_wp2_with fail
  clear q0 q1 q2 q3 q4 q5 q6
  with_reducible refine Calls.mono (HF1.out _ LB5.out) ?_
  rintro e w6 ⟨rfl, hb⟩
  have LB6 := Lib.hid (LB5.out.trans (hb.mono LB5.out.size))
  have X1 := Lib.hid (X1.out.below hb X1.out.lt)
  have H3 := Lib.hid ((H3.out.below hb).more hb.size)
  have B8 := Lib.hid (B8.out.below hb B8.out.lt)
  clear hb LB5 
  clear p0 p1 p2 p3 p4 p5 p6
  obtain ⟨q0, q1, q2, q3, q4, q5, q6⟩ := B8.out.all
  go_wp2_with fail
  clear q0 q1 q2 q3 q4 q5 q6
  with_reducible refine Calls.mono (HF2.out _ _ _ H3.out) ?_
  rintro e w7 ⟨rfl, hb⟩
  have LB7 := Lib.hid (LB6.out.trans (hb.mono LB6.out.size))
  have X1 := Lib.hid (X1.out.below hb X1.out.lt)
  have H3 := Lib.hid ((H3.out.below hb).more hb.size)
  have B8 := Lib.hid (B8.out.below hb B8.out.lt)
  clear hb LB6 
  obtain ⟨q0, q1, q2, q3, q4, q5, q6⟩ := X1.out.all
  go_wp2_with fail
  clear q0 q1 q2 q3 q4 q5 q6
  with_reducible refine Calls.mono (HC1.out _ LB7.out) ?_
  rintro e w8 ⟨rfl, hb⟩
  have LB8 := Lib.hid (LB7.out.trans (hb.mono LB7.out.size))
  have X1 := Lib.hid (X1.out.below hb X1.out.lt)
  have H3 := Lib.hid ((H3.out.below hb).more hb.size)
  have B8 := Lib.hid (B8.out.below hb B8.out.lt)
  clear hb LB7 
  obtain ⟨q0, q1, q2, q3, q4, q5, q6⟩ := B8.out.all
  go_wp2_with fail
  clear q0 q1 q2 q3 q4 q5 q6
  with_reducible refine Calls.mono (HC2.out _ _ _ H3.out) ?_
  rintro e w9 ⟨rfl, hb⟩
  have LB9 := Lib.hid (LB8.out.trans (hb.mono LB8.out.size))
  have X1 := Lib.hid (X1.out.below hb X1.out.lt)
  have H3 := Lib.hid ((H3.out.below hb).more hb.size)
  have B8 := Lib.hid (B8.out.below hb B8.out.lt)
  clear hb LB8 
  go_wp2
  go_ret
  exact ⟨rfl, LB9.out⟩
set_option maxHeartbeats 3200000 in
theorem turns_some (W H : Nat) (A : Option Addr) (c : Nat) (f : Nat → Int) (w : World) (hf : L2.Holds w w.heap.size A (W * H) f) (W0 : 1 ≤ W) (W1 : W ≤ 64) (H0 : 1 ≤ H) (H1 : H ≤ 64) (hff : fine (W * H) f = true) (hN : W * H ≤ 100) (hno : ¬ NoFit W H f) : Calls Try.prog 8 #[.agg #[.int .i64 (W : Nat), .int .i64 (H : Nat), .slice A (W * H) c]] w fun e w' => e = .returned (.bool true) ∧ Below w.heap.size w w' := by
  have hN2 : H * W ≤ 100 := by rw [Nat.mul_comm]; exact hN
  have hft : fine (H * W) (tuF W H f) = true := fine_yes fun i hi => by
    unfold tuF
    exact fine_of hff _ (in_grid (div_bd hi) (Nat.mod_lt _ H0))
  have HI := Lib.hid (fun u (hb : Below w.heap.size w u) => rick_any (W : Nat) (H : Nat) A (W * H) c f u ((hf.below hb).more hb.size))
  rw [ick_zero W0 W1 H0 H1 hff] at HI
  have HT := Lib.hid (fun u (hb : Below w.heap.size w u) => (show Calls Try.prog 40 #[.agg #[.int .i64 (W : Nat), .int .i64 (H : Nat), .slice A (W * H) c]] u (RI u (H : Nat) (W : Nat) (H * W) (tuF W H f) 0) from iturn_ok W H A c f u ((hf.below hb).more hb.size) W0 W1 H0 H1 hff))
  have HJ := Lib.hid (fun u A2 c2 (hl : L2.Holds u u.heap.size A2 (H * W) (tuF W H f)) => rick_any (H : Nat) (W : Nat) A2 (H * W) c2 _ u hl)
  rw [ick_zero H0 H1 W0 W1 hft] at HJ
  have z0 : ((0 : Int) != 0) = false := rfl
  have z6 : ((6 : Int) != 0) = true := rfl
  have z66 : ((6 : Int) != 6) = false := rfl
  have yw : ((W : Int) != (W : Int)) = false := by simp
  have yh : ((H : Int) != (H : Int)) = false := by simp
  have yN : ¬ (100 : Int) < ((W * H : Nat) : Int) := by omega
  have HF1 := Lib.hid (fun u (hb : Below w.heap.size w u) => (first_ok W H A c f u W0 W1 H0 H1 ((hf.below hb).more hb.size) hff).mono fun e w' h => (show ∃ p A1 c1 A2 c2, e = .returned (.tuple #[.slice A1 W c1, .slice A2 H c2, .int .i64 0]) ∧ Fst W H f p ∧ L2.Holds w' w'.heap.size A1 W p ∧ L2.Holds w' w'.heap.size A2 H (fun i => p (W + i)) ∧ Below u.heap.size u w' from h.elim id (fun q => absurd q.2.1 hno)))
  have HF2 := Lib.hid (fun u A2 c2 (hl : L2.Holds u u.heap.size A2 (H * W) (tuF W H f)) => (first_ok H W A2 c2 _ u H0 H1 W0 W1 hl hft).mono fun e w' h => (show ∃ p A1 c1 A2 c2, e = .returned (.tuple #[.slice A1 H c1, .slice A2 W c2, .int .i64 0]) ∧ Fst H W (tuF W H f) p ∧ L2.Holds w' w'.heap.size A1 H p ∧ L2.Holds w' w'.heap.size A2 W (fun i => p (H + i)) ∧ Below u.heap.size u w' from h.elim id (fun q => absurd (nofit_turn.1 q.2.1) hno)))
  have HC1 := Lib.hid (fun u (hb : Below w.heap.size w u) => (choices_ok W H A c f u W0 W1 H0 H1 ((hf.below hb).more hb.size) hff).mono fun e w' h => (show ∃ A1 c1 A2 c2, e = .returned (.tuple #[.slice A1 W c1, .slice A2 H c2, .int .i64 0]) ∧ LLo w' A1 W (fun x => chl W H f x 16) ∧ LLo w' A2 H (fun y => chl W H f (W + y) 16) ∧ Below u.heap.size u w' from h.elim (fun ⟨_, A1, c1, A2, c2, q, _, r⟩ => ⟨A1, c1, A2, c2, q, r⟩) (fun q => absurd q.2.1 hno)))
  have HC2 := Lib.hid (fun u A2 c2 (hl : L2.Holds u u.heap.size A2 (H * W) (tuF W H f)) => (choices_ok H W A2 c2 _ u H0 H1 W0 W1 hl hft).mono fun e w' h => (show ∃ A1 c1 A2 c2, e = .returned (.tuple #[.slice A1 H c1, .slice A2 W c2, .int .i64 0]) ∧ LLo w' A1 H (fun y => chl W H f (W + y) 16) ∧ LLo w' A2 W (fun x => chl W H f x 16) ∧ Below u.heap.size u w' from h.elim (fun ⟨_, A1, c1, A2, c2, q, _, r1, r2, r3⟩ => ⟨A1, c1, A2, c2, q, r1.congr fun i hi => chl_lo hi, r2.congr fun i hi => chl_hi hi, r3⟩) (fun q => absurd (nofit_turn.1 q.2.1) hno)))
  have HR1 := Lib.hid (fun (p : Nat → Int) (hp : Fst W H f p) u A2 c2 A3 c3 A4 c4 (hl : L2.Holds u u.heap.size A2 (W * H) f) (h3 : L2.Holds u u.heap.size A3 W p) (h4 : L2.Holds u u.heap.size A4 H (fun i => p (W + i))) => (show Calls Try.prog 34 #[.agg #[.int .i64 (W : Nat), .int .i64 (H : Nat), .slice A2 (W * H) c2], .slice A3 W c3, .slice A4 H c4] u fun e w' => e = .returned (.int .i64 0) ∧ Below u.heap.size u w' from by
    have h := rpc_any (W : Nat) (H : Nat) A2 A3 A4 (W * H) c2 W c3 H c4 f p (fun i => p (W + i)) u hl h3 h4
    rw [pcE_ok (m := 0) (k := 0) W0 W1 H0 H1 hff (fine_yes fun i hi => hp.cols i (by omega)) (fine_yes fun i hi => hp.cols (W + i) (by omega))] at h
    exact h))
  have HR2 := Lib.hid (fun (p : Nat → Int) (hp : Fst H W (tuF W H f) p) u A2 c2 A3 c3 A4 c4 (hl : L2.Holds u u.heap.size A2 (H * W) (tuF W H f)) (h3 : L2.Holds u u.heap.size A3 H p) (h4 : L2.Holds u u.heap.size A4 W (fun i => p (H + i))) => (show Calls Try.prog 34 #[.agg #[.int .i64 (H : Nat), .int .i64 (W : Nat), .slice A2 (H * W) c2], .slice A3 H c3, .slice A4 W c4] u fun e w' => e = .returned (.int .i64 0) ∧ Below u.heap.size u w' from by
    have h := rpc_any (H : Nat) (W : Nat) A2 A3 A4 (H * W) c2 H c3 W c4 (tuF W H f) p (fun i => p (H + i)) u hl h3 h4
    rw [pcE_ok (m := 0) (k := 0) H0 H1 W0 W1 hft (fine_yes fun i hi => hp.cols i (by omega)) (fine_yes fun i hi => hp.cols (H + i) (by omega))] at h
    exact h))
  have HX1 := Lib.hid (fun (p : Nat → Int) (hp : Fst W H f p) u A2 c2 A3 c3 A4 c4 (hl : L2.Holds u u.heap.size A2 (H * W) (tuF W H f)) (h3 : L2.Holds u u.heap.size A3 H (fun i => p (W + i))) (h4 : L2.Holds u u.heap.size A4 W p) => (show Calls Try.prog 39 #[.agg #[.int .i64 (H : Nat), .int .i64 (W : Nat), .slice A2 (H * W) c2], .slice A3 H c3, .slice A4 W c4] u fun e w' => e = .returned (.bool true) ∧ Below u.heap.size u w' from by
    have h := rfits_any H W A2 A3 A4 c2 c3 c4 (tuF W H f) (fun i => p (W + i)) p u hl h3 h4 H0 H1 W0 W1
    rw [allB_yes (allF_xy fun x hx y hy => by have k := fits_turn hp.fits x y hx hy; rw [xch_lo hx, xch_hi] at k; exact k)] at h
    exact h))
  have HX2 := Lib.hid (fun (p : Nat → Int) (hp : Fst H W (tuF W H f) p) u A2 c2 A3 c3 A4 c4 (hl : L2.Holds u u.heap.size A2 (W * H) f) (h3 : L2.Holds u u.heap.size A3 W (fun i => p (H + i))) (h4 : L2.Holds u u.heap.size A4 H p) => (show Calls Try.prog 39 #[.agg #[.int .i64 (W : Nat), .int .i64 (H : Nat), .slice A2 (W * H) c2], .slice A3 W c3, .slice A4 H c4] u fun e w' => e = .returned (.bool true) ∧ Below u.heap.size u w' from by
    have h := rfits_any W H A2 A3 A4 c2 c3 c4 f (fun i => p (H + i)) p u hl h3 h4 W0 W1 H0 H1
    rw [allB_yes (allF_xy fun x hx y hy => by have k := turn_fits hp.fits x y hx hy; rw [xch_lo hx, xch_hi] at k; exact k)] at h
    exact h))
  have HS1 := Lib.hid (fun u A2 c2 A3 c3 (h1 : LLo u A2 W (fun x => chl W H f x 16)) (h2 : LLo u A3 W (fun x => chl W H f x 16)) => lists_same A2 A3 W c2 c3 _ u W1 W0 (fun i => chl_len 16) h1 h2)
  have HS2 := Lib.hid (fun u A2 c2 A3 c3 (h1 : LLo u A2 H (fun y => chl W H f (W + y) 16)) (h2 : LLo u A3 H (fun y => chl W H f (W + y) 16)) => lists_same A2 A3 H c2 c3 _ u H1 H0 (fun i => chl_len 16) h1 h2)
  have HFM := Lib.hid (fun u (hb : Below w.heap.size w u) => ((hf.below hb).more hb.size))
  clear hf hff hft hno
  obtain ⟨M, hMe⟩ : ∃ M, W * H = M := ⟨_, rfl⟩
  obtain ⟨M2, hMe2⟩ : ∃ M, H * W = M := ⟨_, rfl⟩
  rw [hMe] at HI HT HF1 HC1 HR1 HX2 HFM yN ⊢
  rw [hMe2] at HT HJ HF2 HC2 HR2 HX1
  clear hMe hMe2 hN hN2
  have LB0 := Lib.hid (Below.refl w.heap.size w)
  have X1 := IBox.new w (W : Nat) (H : Nat) (.slice A M c)
  have X1 := Lib.hid X1
  have LB0 := Lib.hid (LB0.out.alloc LB0.out.size (.cells #[.int .i64 (W : Nat), .int .i64 (H : Nat), .slice A M c] 24))
  go_enter Try.func8, Try.ntmps8
  go_upto_region 1 with (fail)
  generalize w.alloc (.cells #[.int .i64 (W : Nat), .int .i64 (H : Nat), .slice A M c] 24) = w0 at *
  go_wp2_with fail
  with_reducible refine Calls.mono (alive15_any _) ?_
  rintro e w1 ⟨rfl, hb⟩
  have LB1 := Lib.hid (LB0.out.trans (hb.mono LB0.out.size))
  have X1 := Lib.hid (X1.out.below hb X1.out.lt)
  clear hb LB0 
  obtain ⟨q0, q1, q2, q3, q4, q5, q6⟩ := X1.out.all
  go_wp2_with fail
  clear q0 q1 q2 q3 q4 q5 q6
  with_reducible refine Calls.mono (HI.out _ LB1.out) ?_
  rintro e w2 ⟨rfl, hb⟩
  have LB2 := Lib.hid (LB1.out.trans (hb.mono LB1.out.size))
  have X1 := Lib.hid (X1.out.below hb X1.out.lt)
  clear hb LB1 
  obtain ⟨q0, q1, q2, q3, q4, q5, q6⟩ := X1.out.all
  go_wp2_with fail
  clear q0 q1 q2 q3 q4 q5 q6
  with_reducible refine Calls.mono (HT.out _ LB2.out) ?_
  rintro e w3 ⟨A3, c3, rfl, hh, hb⟩
  have LB3 := Lib.hid (LB2.out.trans (hb.mono LB2.out.size))
  have X1 := Lib.hid (X1.out.below hb X1.out.lt)
  have H3 := Lib.hid hh
  clear hb LB2 hh
  have hb := ((Below.refl w3.heap.size w3).alloc (by simp; try omega) (.cells #[.int .i64 (H : Nat), .int .i64 (W : Nat), .slice A3 M2 c3] 24))
  have LB4 := Lib.hid (LB3.out.trans (hb.mono LB3.out.size))
  have X1 := Lib.hid (X1.out.below hb X1.out.lt)
  have H3 := Lib.hid ((H3.out.below hb).more hb.size)
  have B8 := IBox.new w3 (H : Nat) (W : Nat) (.slice A3 M2 c3)
  have B8 := Lib.hid B8
  clear hb LB3
  go_upto_region 5 with (fail)
  obtain ⟨b8, hb8⟩ : ∃ z, w3.heap.size = z := ⟨_, rfl⟩
  rw [hb8] at B8
  try rw [hb8]
  clear hb8
  generalize w3.alloc (.cells #[.int .i64 (H : Nat), .int .i64 (W : Nat), .slice A3 M2 c3] 24) = w4 at *
  obtain ⟨q0, q1, q2, q3, q4, q5, q6⟩ := B8.out.all
  go_wp2_with fail
  clear q0 q1 q2 q3 q4 q5 q6
  with_reducible refine Calls.mono (HJ.out _ _ _ H3.out) ?_
  rintro e w5 ⟨rfl, hb⟩
  have LB5 := Lib.hid (LB4.out.trans (hb.mono LB4.out.size))
  have X1 := Lib.hid (X1.out.below hb X1.out.lt)
  have H3 := Lib.hid ((H3.out.below hb).more hb.size)
  have B8 := Lib.hid (B8.out.below hb B8.out.lt)
  clear hb LB4 
  obtain ⟨p0, p1, p2, p3, p4, p5, p6⟩ := B8.out.all
  obtain ⟨q0, q1, q2, q3, q4, q5, q6⟩ := X1.out.all
  go_wp2_with fail
  clear q0 q1 q2 q3 q4 q5 q6
  with_reducible refine Calls.mono (HF1.out _ LB5.out) ?_
  rintro e w6 ⟨p, P1, d1, P2, d2, rfl, hp, hh4, hh5, hb⟩
  have HP := Lib.hid hp
  clear hp
  have LB6 := Lib.hid (LB5.out.trans (hb.mono LB5.out.size))
  have X1 := Lib.hid (X1.out.below hb X1.out.lt)
  have H3 := Lib.hid ((H3.out.below hb).more hb.size)
  have B8 := Lib.hid (B8.out.below hb B8.out.lt)
  have H4 := Lib.hid hh4
  have H5 := Lib.hid hh5
  clear hb LB5 hh4 hh5
  clear p0 p1 p2 p3 p4 p5 p6
  obtain ⟨q0, q1, q2, q3, q4, q5, q6⟩ := B8.out.all
  go_wp2_with fail
  clear q0 q1 q2 q3 q4 q5 q6
  with_reducible refine Calls.mono (HF2.out _ _ _ H3.out) ?_
  rintro e w7 ⟨r, Q1, d3, Q2, d4, rfl, hp, hh6, hh7, hb⟩
  have HQ := Lib.hid hp
  clear hp
  have LB7 := Lib.hid (LB6.out.trans (hb.mono LB6.out.size))
  have X1 := Lib.hid (X1.out.below hb X1.out.lt)
  have H3 := Lib.hid ((H3.out.below hb).more hb.size)
  have B8 := Lib.hid (B8.out.below hb B8.out.lt)
  have H4 := Lib.hid ((H4.out.below hb).more hb.size)
  have H5 := Lib.hid ((H5.out.below hb).more hb.size)
  have H6 := Lib.hid hh6
  have H7 := Lib.hid hh7
  clear hb LB6 hh6 hh7
  obtain ⟨q0, q1, q2, q3, q4, q5, q6⟩ := X1.out.all
  go_wp2_with fail
  clear q0 q1 q2 q3 q4 q5 q6
  with_reducible refine Calls.mono (HC1.out _ LB7.out) ?_
  rintro e w8 ⟨R1, g1, R2, g2, rfl, hl1, hl2, hb⟩
  have LB8 := Lib.hid (LB7.out.trans (hb.mono LB7.out.size))
  have X1 := Lib.hid (X1.out.below hb X1.out.lt)
  have H3 := Lib.hid ((H3.out.below hb).more hb.size)
  have B8 := Lib.hid (B8.out.below hb B8.out.lt)
  have H4 := Lib.hid ((H4.out.below hb).more hb.size)
  have H5 := Lib.hid ((H5.out.below hb).more hb.size)
  have H6 := Lib.hid ((H6.out.below hb).more hb.size)
  have H7 := Lib.hid ((H7.out.below hb).more hb.size)
  have L1 := Lib.hid hl1
  have L2 := Lib.hid hl2
  clear hb LB7 hl1 hl2
  obtain ⟨q0, q1, q2, q3, q4, q5, q6⟩ := B8.out.all
  go_wp2_with fail
  clear q0 q1 q2 q3 q4 q5 q6
  with_reducible refine Calls.mono (HC2.out _ _ _ H3.out) ?_
  rintro e w9 ⟨R3, g3, R4, g4, rfl, hl3, hl4, hb⟩
  have LB9 := Lib.hid (LB8.out.trans (hb.mono LB8.out.size))
  have X1 := Lib.hid (X1.out.below hb X1.out.lt)
  have H3 := Lib.hid ((H3.out.below hb).more hb.size)
  have B8 := Lib.hid (B8.out.below hb B8.out.lt)
  have H4 := Lib.hid ((H4.out.below hb).more hb.size)
  have H5 := Lib.hid ((H5.out.below hb).more hb.size)
  have H6 := Lib.hid ((H6.out.below hb).more hb.size)
  have H7 := Lib.hid ((H7.out.below hb).more hb.size)
  have L1 := Lib.hid (L1.out.below hb)
  have L2 := Lib.hid (L2.out.below hb)
  have L3 := Lib.hid hl3
  have L4 := Lib.hid hl4
  clear hb LB8 hl3 hl4
  obtain ⟨q0, q1, q2, q3, q4, q5, q6⟩ := X1.out.all
  go_wp2_with fail
  clear q0 q1 q2 q3 q4 q5 q6
  with_reducible refine Calls.mono (HR1.out p HP.out _ _ _ _ _ _ _ (HFM.out _ LB9.out) H4.out H5.out) ?_
  rintro e w10 ⟨rfl, hb⟩
  have LB10 := Lib.hid (LB9.out.trans (hb.mono LB9.out.size))
  have X1 := Lib.hid (X1.out.below hb X1.out.lt)
  have H3 := Lib.hid ((H3.out.below hb).more hb.size)
  have B8 := Lib.hid (B8.out.below hb B8.out.lt)
  have H4 := Lib.hid ((H4.out.below hb).more hb.size)
  have H5 := Lib.hid ((H5.out.below hb).more hb.size)
  have H6 := Lib.hid ((H6.out.below hb).more hb.size)
  have H7 := Lib.hid ((H7.out.below hb).more hb.size)
  have L1 := Lib.hid (L1.out.below hb)
  have L2 := Lib.hid (L2.out.below hb)
  have L3 := Lib.hid (L3.out.below hb)
  have L4 := Lib.hid (L4.out.below hb)
  clear hb LB9 
  obtain ⟨q0, q1, q2, q3, q4, q5, q6⟩ := B8.out.all
  go_wp2_with fail
  clear q0 q1 q2 q3 q4 q5 q6
  with_reducible refine Calls.mono (HR2.out r HQ.out _ _ _ _ _ _ _ H3.out H6.out H7.out) ?_
  rintro e w11 ⟨rfl, hb⟩
  have LB11 := Lib.hid (LB10.out.trans (hb.mono LB10.out.size))
  have X1 := Lib.hid (X1.out.below hb X1.out.lt)
  have H3 := Lib.hid ((H3.out.below hb).more hb.size)
  have B8 := Lib.hid (B8.out.below hb B8.out.lt)
  have H4 := Lib.hid ((H4.out.below hb).more hb.size)
  have H5 := Lib.hid ((H5.out.below hb).more hb.size)
  have H6 := Lib.hid ((H6.out.below hb).more hb.size)
  have H7 := Lib.hid ((H7.out.below hb).more hb.size)
  have L1 := Lib.hid (L1.out.below hb)
  have L2 := Lib.hid (L2.out.below hb)
  have L3 := Lib.hid (L3.out.below hb)
  have L4 := Lib.hid (L4.out.below hb)
  clear hb LB10 
  obtain ⟨q0, q1, q2, q3, q4, q5, q6⟩ := B8.out.all
  go_wp2_with fail
  clear q0 q1 q2 q3 q4 q5 q6
  with_reducible refine Calls.mono (HX1.out p HP.out _ _ _ _ _ _ _ H3.out H5.out H4.out) ?_
  rintro e w12 ⟨rfl, hb⟩
  have LB12 := Lib.hid (LB11.out.trans (hb.mono LB11.out.size))
  have X1 := Lib.hid (X1.out.below hb X1.out.lt)
  have H3 := Lib.hid ((H3.out.below hb).more hb.size)
  have B8 := Lib.hid (B8.out.below hb B8.out.lt)
  have H4 := Lib.hid ((H4.out.below hb).more hb.size)
  have H5 := Lib.hid ((H5.out.below hb).more hb.size)
  have H6 := Lib.hid ((H6.out.below hb).more hb.size)
  have H7 := Lib.hid ((H7.out.below hb).more hb.size)
  have L1 := Lib.hid (L1.out.below hb)
  have L2 := Lib.hid (L2.out.below hb)
  have L3 := Lib.hid (L3.out.below hb)
  have L4 := Lib.hid (L4.out.below hb)
  clear hb LB11 
  obtain ⟨q0, q1, q2, q3, q4, q5, q6⟩ := X1.out.all
  go_wp2_with fail
  clear q0 q1 q2 q3 q4 q5 q6
  with_reducible refine Calls.mono (HX2.out r HQ.out _ _ _ _ _ _ _ (HFM.out _ LB12.out) H7.out H6.out) ?_
  rintro e w13 ⟨rfl, hb⟩
  have LB13 := Lib.hid (LB12.out.trans (hb.mono LB12.out.size))
  have X1 := Lib.hid (X1.out.below hb X1.out.lt)
  have H3 := Lib.hid ((H3.out.below hb).more hb.size)
  have B8 := Lib.hid (B8.out.below hb B8.out.lt)
  have H4 := Lib.hid ((H4.out.below hb).more hb.size)
  have H5 := Lib.hid ((H5.out.below hb).more hb.size)
  have H6 := Lib.hid ((H6.out.below hb).more hb.size)
  have H7 := Lib.hid ((H7.out.below hb).more hb.size)
  have L1 := Lib.hid (L1.out.below hb)
  have L2 := Lib.hid (L2.out.below hb)
  have L3 := Lib.hid (L3.out.below hb)
  have L4 := Lib.hid (L4.out.below hb)
  clear hb LB12 
  go_wp2_with fail
  with_reducible refine Calls.mono (HS1.out _ _ _ _ _ L1.out L4.out) ?_
  rintro e w14 ⟨rfl, hb⟩
  have LB14 := Lib.hid (LB13.out.trans (hb.mono LB13.out.size))
  have X1 := Lib.hid (X1.out.below hb X1.out.lt)
  have H3 := Lib.hid ((H3.out.below hb).more hb.size)
  have B8 := Lib.hid (B8.out.below hb B8.out.lt)
  have H4 := Lib.hid ((H4.out.below hb).more hb.size)
  have H5 := Lib.hid ((H5.out.below hb).more hb.size)
  have H6 := Lib.hid ((H6.out.below hb).more hb.size)
  have H7 := Lib.hid ((H7.out.below hb).more hb.size)
  have L1 := Lib.hid (L1.out.below hb)
  have L2 := Lib.hid (L2.out.below hb)
  have L3 := Lib.hid (L3.out.below hb)
  have L4 := Lib.hid (L4.out.below hb)
  clear hb LB13 
  go_wp2_with fail
  with_reducible refine Calls.mono (HS2.out _ _ _ _ _ L2.out L3.out) ?_
  rintro e w15 ⟨rfl, hb⟩
  have LB15 := Lib.hid (LB14.out.trans (hb.mono LB14.out.size))
  have X1 := Lib.hid (X1.out.below hb X1.out.lt)
  have H3 := Lib.hid ((H3.out.below hb).more hb.size)
  have B8 := Lib.hid (B8.out.below hb B8.out.lt)
  have H4 := Lib.hid ((H4.out.below hb).more hb.size)
  have H5 := Lib.hid ((H5.out.below hb).more hb.size)
  have H6 := Lib.hid ((H6.out.below hb).more hb.size)
  have H7 := Lib.hid ((H7.out.below hb).more hb.size)
  have L1 := Lib.hid (L1.out.below hb)
  have L2 := Lib.hid (L2.out.below hb)
  have L3 := Lib.hid (L3.out.below hb)
  have L4 := Lib.hid (L4.out.below hb)
  clear hb LB14 
  go_wp2
  go_ret
  exact ⟨rfl, LB15.out⟩
theorem turns15_any (W H : Int) (A : Option Addr) (n c : Nat) (f : Nat → Int) (w : World) (hf : L2.Holds w w.heap.size A n f) : Calls Try.prog 8 #[.agg #[.int .i64 W, .int .i64 H, .slice A n c]] w fun e w' => e = .returned (.bool true) ∧ Below w.heap.size w w' := by
  by_cases hz : ick W H n f ≠ 0 ∨ 100 < n
  · exact turns_no W H A n c f w hf hz
  · have h1 : ick W H n f = 0 := Classical.byContradiction fun q => hz (.inl q)
    have h2 : n ≤ 100 := Nat.le_of_not_lt fun q => hz (.inr q)
    clear hz
    obtain ⟨P, Q, rfl, rfl, rfl, p0, p1, q0, q1, hx⟩ := ick_nat h1
    by_cases hno : NoFit P Q f
    · exact turns_none P Q A c f w hf p0 p1 q0 q1 hx h2 hno
    · exact turns_some P Q A c f w hf p0 p1 q0 q1 hx h2 hno
end Go.Proofs.Ytmcdfnhpaneanaa
