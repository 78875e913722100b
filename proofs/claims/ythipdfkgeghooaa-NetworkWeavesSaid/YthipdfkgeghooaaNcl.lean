/- The nearest shaft: the closures, MinFunc, nearest. -/
import Derived.Test.YthipdfkgeghooaaNpl
namespace Go.Proofs.Ythipdfkgeghooaa
open Go.RowKit
set_option maxRecDepth 100000
set_option linter.unusedVariables false
set_option linter.unusedSimpArgs false

/-- What Compare answers. -/
def cp3 (a b : Int) : Int := if a < b then -1 else if b < a then 1 else 0
theorem nan_any (a : Int) (w : World) : Calls Try.prog 59 #[.int .i64 a] w fun e w' => e = .returned (.bool false) ∧ w' = w := by
  have z : (a != a) = false := by simp
  go_enter Try.func59, Try.ntmps59
  go_wp2
  go_ret
  exact ⟨rfl, rfl⟩
theorem cmp_any (a b : Int) (w : World) : Calls Try.prog 56 #[.int .i64 a, .int .i64 b] w fun e w' => e = .returned (.int .i64 (cp3 a b)) ∧ w' = w := by
  have HA := Lib.hid (nan_any a w)
  have HB := Lib.hid (nan_any b w)
  by_cases h1 : a < b
  · have Hr := Lib.hid (show cp3 a b = -1 from if_pos h1)
    have y1 : decide (a < b) = true := decide_eq_true h1
    go_enter Try.func56, Try.ntmps56
    go_wp2_with (first | (go_at_call 59; with_reducible refine Calls.mono HA.out ?_; rintro e w1 ⟨rfl, rfl⟩) | (go_at_call 59; with_reducible refine Calls.mono HB.out ?_; rintro e w2 ⟨rfl, rfl⟩))
    go_ret
    exact ⟨by rw [Hr.out]; rfl, rfl⟩
  · have y1 : decide (a < b) = false := decide_eq_false h1
    by_cases h2 : b < a
    · have Hr := Lib.hid (show cp3 a b = 1 by unfold cp3; rw [if_neg h1, if_pos h2])
      have y2 : decide (b < a) = true := decide_eq_true h2
      go_enter Try.func56, Try.ntmps56
      go_wp2_with (first | (go_at_call 59; with_reducible refine Calls.mono HA.out ?_; rintro e w1 ⟨rfl, rfl⟩) | (go_at_call 59; with_reducible refine Calls.mono HB.out ?_; rintro e w2 ⟨rfl, rfl⟩))
      go_ret
      exact ⟨by rw [Hr.out]; rfl, rfl⟩
    · have Hr := Lib.hid (show cp3 a b = 0 by unfold cp3; rw [if_neg h1, if_neg h2])
      have y2 : decide (b < a) = false := decide_eq_false h2
      go_enter Try.func56, Try.ntmps56
      go_wp2_with (first | (go_at_call 59; with_reducible refine Calls.mono HA.out ?_; rintro e w1 ⟨rfl, rfl⟩) | (go_at_call 59; with_reducible refine Calls.mono HB.out ?_; rintro e w2 ⟨rfl, rfl⟩))
      go_ret
      exact ⟨by rw [Hr.out]; rfl, rfl⟩
/-- What 'Draw' measures: the line's variable, the end's, and the height that lies there. -/
structure Hg (w : World) (lb xb : Nat) (h : Int) : Prop where
  c : ∃ D b o m d x, D = some ⟨b, o, none⟩ ∧ SBox w lb (.slice D m d) ∧ w.cell? ⟨xb, 0, none⟩ = some (.int .i64 ((x : Nat) : Int)) ∧ xb < w.heap.size ∧ b < w.heap.size ∧ x < m ∧ w.cell? ⟨b, o + x, none⟩ = some (.int .i64 h)
  h0 : 0 ≤ h
  h1 : h ≤ 1000
theorem Hg.next {w w' : World} {lb xb : Nat} {h : Int} (g : Hg w lb xb h) (hb : Below w.heap.size w w') : Hg w' lb xb h := by
  obtain ⟨D, b, o, m, d, x, e, h1, h2, h3, h4, h5, h6⟩ := g.c
  exact ⟨⟨D, b, o, m, d, x, e, h1.below hb h1.lt, (hb.cell (p := ⟨xb, 0, none⟩) h3).trans h2, Nat.lt_of_lt_of_le h3 hb.size, Nat.lt_of_lt_of_le h4 hb.size, h5, (hb.cell (p := ⟨b, o + x, none⟩) h4).trans h6⟩, g.h0, g.h1⟩
theorem aw_max (s h : Int) : max (s - h) (h - s) = aw s h := by unfold aw; split <;> omega
set_option maxHeartbeats 400000 in
theorem dr1_any (s : Nat) (lb xb : Nat) (h : Int) (w : World) (hs : s ≤ 100) (hg : Hg w lb xb h) :
    Calls Try.prog 41 #[.int .i64 (s : Nat), .pointer (some ⟨lb, 0, none⟩), .pointer (some ⟨xb, 0, none⟩)] w fun e w' => e = .returned (.int .i64 (aw (s : Nat) h)) ∧ Below w.heap.size w w' := by
  obtain ⟨⟨D, b, o, m, d, x, rfl, h1, h2, h3, h4, h5, h6⟩, g0, g1⟩ := hg
  obtain ⟨p0, p1, p2⟩ := h1.all
  have y1 : (x : Int) < (m : Int) := by omega
  have y2 : (0 : Int) ≤ (x : Int) := by omega
  have z1 : IntKind.i64.wrap ((s : Int) - h) = (s : Int) - h := IntWalk.i64_in _ (by omega)
  have z2 : IntKind.i64.wrap (h - (s : Int)) = h - (s : Int) := IntWalk.i64_in _ (by omega)
  have Hr := Lib.hid (aw_max (s : Int) h)
  go_enter Try.func41, Try.ntmps41
  go_wp2
  go_quiet (fail)
  go_wp2
  go_ret
  exact ⟨by rw [← Hr.out]; rfl, Go.Proofs.below_drewN' (Below.refl _ _) _⟩
/-- The variable that holds the measuring function. -/
def FB (w : World) (fb lb xb : Nat) : Prop := Boxed w fb 74 (.func (.func 41) #[] #[.pointer (some ⟨lb, 0, none⟩), .pointer (some ⟨xb, 0, none⟩)])
set_option maxHeartbeats 800000 in
theorem nr1_any (s t fb lb xb : Nat) (h : Int) (w : World) (hs : s ≤ 100) (ht : t ≤ 100) (hf : FB w fb lb xb) (hg : Hg w lb xb h) :
    Calls Try.prog 55 #[.int .i64 (s : Nat), .int .i64 (t : Nat), .pointer (some ⟨fb, 0, none⟩)] w fun e w' => e = .returned (.int .i64 (cp3 (aw (s : Nat) h) (aw (t : Nat) h))) ∧ Below w.heap.size w w' := by
  have HS := Lib.hid (fun u (hb : Below w.heap.size w u) => dr1_any s lb xb h u hs (hg.next hb))
  have HT := Lib.hid (fun u (hb : Below w.heap.size w u) => dr1_any t lb xb h u ht (hg.next hb))
  have HC := Lib.hid (fun u => cmp_any (aw (s : Nat) h) (aw (t : Nat) h) u)
  have HF := Lib.hid hf
  clear hf hg hs ht
  generalize aw (s : Nat) h = p at *
  generalize aw (t : Nat) h = q at *
  go_enter Try.func55, Try.ntmps55
  go_wp2
  obtain ⟨I, Wf, i0, h0f, hbf, hcf⟩ := family w
  have C1 := Lib.hid (fun n' => (HS.out (Wf n') (hbf n')).mono fun e w2 h => (⟨h.1, hcf n' _ h.2⟩ : _ ∧ ∃ m, w2 = Wf m))
  have C2 := Lib.hid (fun n' => (HT.out (Wf n') (hbf n')).mono fun e w2 h => (⟨h.1, hcf n' _ h.2⟩ : _ ∧ ∃ m, w2 = Wf m))
  have C3 := Lib.hid (fun n' => (HC.out (Wf n')).mono fun e w2 h => (⟨h.1, n', h.2⟩ : _ ∧ ∃ m, w2 = Wf m))
  have x1 := fun n' => ((hbf n').cell (p := ⟨fb, 0, none⟩) HF.out.lt).trans HF.out.cell
  have BF := Lib.hid hbf
  clear hbf hcf
  refine wp_region_fam Wf i0 h0f (by kernel_rfl) (by kernel_rfl) ?_
  clear h0f
  try dsimp only [List.append]
  repeat (go_big_quiet_step (first | exact rfl | (go_at_call 41; first | with_reducible exact C1.out _ | with_reducible exact C2.out _) | (go_at_call 56; with_reducible exact C3.out _)))
  refine wpQuiet_nil ?_
  rintro _ ⟨nq, rfl⟩
  have HBp := Lib.hid (BF.out nq)
  clear x1 C1 C2 C3 BF
  go_wp2
  go_ret
  exact ⟨rfl, HBp.out⟩
/-- The first of the least far ones of the first i of a class. -/
structure Lst (N r : Nat) (h : Int) (i j : Nat) : Prop where
  lt : j < i
  le : ∀ t, t < i → aw (cls N r j) h ≤ aw (cls N r t) h
  fst : ∀ t, t < j → aw (cls N r j) h < aw (cls N r t) h
theorem Lst.one (N r : Nat) (h : Int) : Lst N r h 1 0 := by
  refine ⟨by omega, fun t ht => ?_, fun t ht => by omega⟩
  have e : t = 0 := by omega
  subst e
  exact Int.le_refl _
set_option maxHeartbeats 1600000 in
theorem min_any (N r K fb lb xb : Nat) (A : Option Addr) (c : Nat) (h : Int) (w : World) (hK : 1 ≤ K) (hb : ∀ j, j < K → r + N * j ≤ 100) (hK2 : K ≤ 100) (hA : L2.Holds w w.heap.size A K (cls N r)) (hf : FB w fb lb xb) (hg : Hg w lb xb h) :
    Calls Try.prog 54 #[.slice A K c, .func (.func 55) #[] #[.pointer (some ⟨fb, 0, none⟩)]] w fun e w' => ∃ j, e = .returned (.int .i64 (cls N r j)) ∧ Lst N r h K j ∧ Below w.heap.size w w' := by
  have HC := Lib.hid (fun u (hu : Below w.heap.size w u) (s t : Nat) (hs : s ≤ 100) (ht : t ≤ 100) => nr1_any s t fb lb xb h u hs ht (bxb hf hu) (hg.next hu))
  have HB := Lib.hid hb
  obtain ⟨bb, o, rfl, hl, hc⟩ := hA (by omega)
  have a0 : w.cell? ⟨bb, o, none⟩ = some (.int .i64 (cls N r 0)) := hc 0 hK
  have HL := Lib.hid hc
  clear hA hf hg hb hc
  have y0 : decide ((K : Int) < 1) = false := by simp; omega
  have y1 : (0 : Int) < (K : Int) := by omega
  go_enter Try.func54, Try.ntmps54
  go_wp2
  go_loopw [5, 6] (fun v i wr => ∃ n j : Nat, n ≤ K ∧ i = .int .i64 (n : Nat) ∧ v = .int .i64 (cls N r j) ∧ Hid (Lst N r h n j) ∧ Hid (Below w.heap.size w wr)) (fun _ i _ => K - (intOf i).toNat)
  case atStart => exact ⟨1, 0, hK, rfl, rfl, Lib.hid (Lst.one N r h), Lib.hid (Below.refl _ _)⟩
  case round =>
    obtain ⟨n, j, hn, rfl, rfl, HT, HW⟩ := hrel
    by_cases hlt : n < K
    · have y2 : (n : Int) < (K : Int) := by omega
      have y3 : (0 : Int) ≤ (n : Int) := by omega
      have a1 : wr.cell? ⟨bb, o + n, none⟩ = some (.int .i64 (cls N r n)) := (HW.out.cell (p := ⟨bb, o + n, none⟩) hl).trans (HL.out n hlt)
      have HX := Lib.hid (HC.out wr HW.out (r + N * n) (r + N * j) (HB.out n hlt) (HB.out j (by have := HT.out.lt; omega)))
      have HX : Hid (Calls Try.prog 55 #[.int .i64 (cls N r n), .int .i64 (cls N r j), .pointer (some ⟨fb, 0, none⟩)] wr fun e w' => e = .returned (.int .i64 (cp3 (aw (cls N r n) h) (aw (cls N r j) h))) ∧ Below wr.heap.size wr w') := HX
      have HS1 := Lib.hid (show aw (cls N r n) h < aw (cls N r j) h → Lst N r h (n + 1) n from fun hh => ⟨by omega, fun t ht => by
        rcases Nat.lt_or_ge t n with h1 | h1
        · have := HT.out.le t h1; omega
        · obtain rfl : t = n := by omega
          exact Int.le_refl _, fun t ht => by have := HT.out.le t ht; omega⟩)
      have HS2 := Lib.hid (show ¬ aw (cls N r n) h < aw (cls N r j) h → Lst N r h (n + 1) j from fun hh => ⟨by have := HT.out.lt; omega, fun t ht => by
        rcases Nat.lt_or_ge t n with h1 | h1
        · exact HT.out.le t h1
        · obtain rfl : t = n := by omega
          omega, HT.out.fst⟩)
      have HN := Lib.hid (show aw (cls N r n) h < aw (cls N r j) h ∧ cp3 (aw (cls N r n) h) (aw (cls N r j) h) < 0 ∨ ¬ aw (cls N r n) h < aw (cls N r j) h ∧ ¬ cp3 (aw (cls N r n) h) (aw (cls N r j) h) < 0 by
        unfold cp3
        by_cases q : aw (cls N r n) h < aw (cls N r j) h
        · exact .inl ⟨q, by rw [if_pos q]; omega⟩
        · refine .inr ⟨q, ?_⟩
          rw [if_neg q]
          split <;> omega)
      generalize cp3 (aw (cls N r n) h) (aw (cls N r j) h) = cc at *
      generalize hcn : cls N r n = cn at *
      rcases HN.out with ⟨q1, q2⟩ | ⟨q1, q2⟩
      · have HS := Lib.hid (HS1.out q1)
        have y4 : decide (cc < 0) = true := decide_eq_true q2
        clear q1 q2 HS1 HS2 HN
        go_wp2_with (go_at_call 55; with_reducible refine Calls.mono HX.out ?_; rintro e w2 ⟨rfl, hb2⟩; have HB2 := Lib.hid (HW.out.trans (hb2.mono HW.out.size)); have a2 : w2.cell? ⟨bb, o + n, none⟩ = some (.int .i64 cn) := (hb2.cell (p := ⟨bb, o + n, none⟩) (Nat.lt_of_lt_of_le hl HW.out.size)).trans a1)
        go_roundw
        case rel => exact ⟨n + 1, n, by omega, by go_num, by rw [hcn], HS, HB2⟩
        case measure => simp [intOf]; omega
      · have HS := Lib.hid (HS2.out q1)
        have y4 : decide (cc < 0) = false := decide_eq_false q2
        clear q1 q2 HS1 HS2 HN
        go_wp2_with (go_at_call 55; with_reducible refine Calls.mono HX.out ?_; rintro e w2 ⟨rfl, hb2⟩; have HB2 := Lib.hid (HW.out.trans (hb2.mono HW.out.size)))
        go_roundw
        case rel => exact ⟨n + 1, j, by omega, by go_num, rfl, HS, HB2⟩
        case measure => simp [intOf]; omega
    · obtain rfl : n = K := by omega
      have y2 : ¬ (n : Int) < (n : Int) := by omega
      go_wp2
      go_ret
      exact ⟨j, rfl, HT.out, HW.out⟩
set_option maxHeartbeats 800000 in
theorem nrs_any (N r K lb xb : Nat) (A : Option Addr) (c : Nat) (h : Int) (w : World) (hK : 1 ≤ K) (hb : ∀ j, j < K → r + N * j ≤ 100) (hK2 : K ≤ 100) (hA : L2.Holds w w.heap.size A K (cls N r)) (hg : Hg w lb xb h) :
    Calls Try.prog 39 #[.slice A K c, .func (.func 41) #[] #[.pointer (some ⟨lb, 0, none⟩), .pointer (some ⟨xb, 0, none⟩)]] w fun e w' => ∃ j, e = .returned (.int .i64 (cls N r j)) ∧ Lst N r h K j ∧ Below w.heap.size w w' := by
  have hmf := mk_fn
  have hb0 := bel_alloc w (.cells #[.func (.func 41) #[] #[.pointer (some ⟨lb, 0, none⟩), .pointer (some ⟨xb, 0, none⟩)]] 74)
  have HB := Lib.hid (min_any N r K w.heap.size lb xb A c h _ hK hb hK2 ((hA.below hb0).more hb0.size) (show FB _ w.heap.size lb xb from Boxed.new w 74 _) (hg.next hb0))
  have HL := Lib.hid hb0
  clear hb hA hg hb0
  go_enter Try.func39, Try.ntmps39
  go_wp2_with (go_at_call 54; with_reducible refine Calls.mono HB.out ?_; rintro e w2 ⟨j, rfl, hl, hb2⟩)
  go_ret
  exact ⟨j, rfl, hl, HL.out.trans (hb2.mono HL.out.size)⟩
end Go.Proofs.Ythipdfkgeghooaa
