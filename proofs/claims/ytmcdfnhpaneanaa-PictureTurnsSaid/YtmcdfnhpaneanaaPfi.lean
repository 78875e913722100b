/- noneKnown, leastAt, First of the program. -/
import Derived.Test.YtmcdfnhpaneanaaFol
import Derived.Test.YtmcdfnhpaneanaaCck
namespace Go.Proofs.Ytmcdfnhpaneanaa
open Go.RowKit
set_option maxRecDepth 100000
set_option linter.unusedVariables false
set_option linter.unusedSimpArgs false

theorem follow_h (W H : Nat) (A B : Option Addr) (c kc : Nat) (f K : Nat → Int) (t : Nat) (c' : Int) (w : World) (hW0 : 1 ≤ W) (hW : W ≤ 64) (hH0 : 1 ≤ H) (hH : H ≤ 64) (hf : L2.Holds w w.heap.size A (W * H) f)
    (hp : Pos W H f) (hK : L2.Holds w w.heap.size B (W + H) K) (ht : t < W + H) (h0 : K t = -1) (c0 : 0 ≤ c') (c1 : c' ≤ 15) (hcl : Closed W H f K) (hrg : ∀ u, u < W + H → K u = -1 ∨ (0 ≤ K u ∧ K u ≤ 15)) :
    Calls Try.prog 81 #[.agg #[.int .i64 (W : Nat), .int .i64 (H : Nat), .slice A (W * H) c], .slice B (W + H) kc, .int .i64 (t : Nat), .int .i64 c'] w (FolR W H f K t c' w) := by
  obtain ⟨b, o, rfl, hb, hc⟩ := hf (Nat.mul_pos hW0 hH0)
  exact follow_any W H b o c kc B f K t c' w hW0 hW hH0 hH hb hc hp hK ht h0 c0 c1 hcl hrg
set_option maxHeartbeats 800000 in
theorem none_any (W H : Nat) (A : Option Addr) (n c : Nat) (w : World) (hW0 : 1 ≤ W) (hW : W ≤ 64) (hH0 : 1 ≤ H) (hH : H ≤ 64) :
    Calls Try.prog 55 #[.agg #[.int .i64 (W : Nat), .int .i64 (H : Nat), .slice A n c]] w fun e w' => ∃ k, e = .returned (.slice (some ⟨k, 0, none⟩) (W + H) (W + H)) ∧ L2.Row w' k (W + H) non ∧ Below w.heap.size w w' := by
  have e1 : IntKind.i64.wrap ((W : Int) + (H : Int)) = ((W + H : Nat) : Int) := by rw [IntWalk.i64_in _ (by omega)]; simp
  have HR := Lib.hid (fun u bx cx (hx : u.cell? ⟨bx, 0, none⟩ = some (.int .i64 (-1))) (hl : bx < u.heap.size) => L2.repeat_any bx cx (W + H) (-1) u hx hl (by omega) (by omega))
  simp only [Int.natCast_add] at HR
  have LB0 := Lib.hid (Below.refl w.heap.size w)
  have X1 := IBox.new w (W : Nat) (H : Nat) (.slice A n c)
  have X1 := Lib.hid X1
  have LB0 := Lib.hid (LB0.out.alloc LB0.out.size (.cells #[.int .i64 (W : Nat), .int .i64 (H : Nat), .slice A n c] 24))
  go_enter Try.func55, Try.ntmps55
  go_upto_region 1 with (fail)
  generalize w.alloc (.cells #[.int .i64 (W : Nat), .int .i64 (H : Nat), .slice A n c] 24) = w0 at *
  have hb := bel_alloc w0 (.cells #[.int .i64 (-1)] 3)
  have LB1 := Lib.hid (LB0.out.trans (hb.mono LB0.out.size))
  have hc : (w0.alloc (.cells #[.int .i64 (-1)] 3)).cell? ⟨w0.heap.size, 0, none⟩ = some (.int .i64 (-1)) := (Lib.cell_of_heap (World.alloc_heap_new w0 (.cells #[.int .i64 (-1)] 3)) 0).trans rfl
  have hl : w0.heap.size < (w0.alloc (.cells #[.int .i64 (-1)] 3)).heap.size := by simp
  have HC := Lib.hid (HR.out _ w0.heap.size 1 hc hl)
  clear hc hl hb
  obtain ⟨q0, q1, q2, q3, q4, q5, q6⟩ := X1.out.all
  go_wp2_with fail
  with_reducible refine Calls.mono HC.out ?_
  rintro e w2 ⟨k, rfl, hk, hrow, hb⟩
  have LB2 := Lib.hid (LB1.out.trans (hb.mono LB1.out.size))
  have HROW := Lib.hid hrow
  clear q0 q1 q2 q3 q4 q5 q6 hb hrow LB1
  go_wp2
  go_ret
  exact ⟨k, rfl, HROW.out, LB2.out⟩
/-- What 'leastAt' hands back. -/
def LeaR (W H : Nat) (f K : Nat → Int) (t : Nat) (w : World) (e : Ending) (w' : World) : Prop :=
  (∃ k kb kc c, e = .returned (.tuple #[.slice (some ⟨kb, 0, none⟩) (W + H) kc, .bool true]) ∧ Fol W H f K t c k ∧ 0 ≤ c ∧ (∀ d, 0 ≤ d → d < c → NoFol W H f K t d) ∧ L2.Row w' kb (W + H) k ∧ Below w.heap.size w w' ∧ W + H ≤ kc) ∨
  (e = .returned (.tuple #[.slice none 0 0, .bool false]) ∧ (∀ d, 0 ≤ d → d ≤ 15 → NoFol W H f K t d) ∧ Below w.heap.size w w')
set_option maxHeartbeats 1600000 in
theorem least_any (W H : Nat) (A B : Option Addr) (c kc : Nat) (f K : Nat → Int) (t : Nat) (w : World) (hW0 : 1 ≤ W) (hW : W ≤ 64) (hH0 : 1 ≤ H) (hH : H ≤ 64) (hf : L2.Holds w w.heap.size A (W * H) f)
    (hp : Pos W H f) (hK : L2.Holds w w.heap.size B (W + H) K) (ht : t < W + H) (h0 : K t = -1) (hcl : Closed W H f K) (hrg : ∀ u, u < W + H → K u = -1 ∨ (0 ≤ K u ∧ K u ≤ 15)) :
    Calls Try.prog 56 #[.agg #[.int .i64 (W : Nat), .int .i64 (H : Nat), .slice A (W * H) c], .slice B (W + H) kc, .int .i64 (t : Nat)] w (LeaR W H f K t w) := by
  have HF := Lib.hid (fun u (hb : Below w.heap.size w u) (d : Nat) (hd : d ≤ 15) => follow_h W H A B c kc f K t (d : Nat) u hW0 hW hH0 hH ((hf.below hb).more hb.size) hp ((hK.below hb).more hb.size) ht h0 (by omega) (by omega) hcl hrg)
  clear hf hp hK hcl hrg
  have LB0 := Lib.hid (Below.refl w.heap.size w)
  have X1 := IBox.new w (W : Nat) (H : Nat) (.slice A (W * H) c)
  have X1 := Lib.hid X1
  have LB0 := Lib.hid (LB0.out.alloc LB0.out.size (.cells #[.int .i64 (W : Nat), .int .i64 (H : Nat), .slice A (W * H) c] 24))
  go_enter Try.func56, Try.ntmps56
  go_upto_region 1 with (fail)
  generalize w.alloc (.cells #[.int .i64 (W : Nat), .int .i64 (H : Nat), .slice A (W * H) c] 24) = w0 at *
  go_wp2
  go_loopw [11] (fun i wr => ∃ d : Nat, d ≤ 16 ∧ i = .int .i64 (d : Nat) ∧ Hid (∀ e : Int, 0 ≤ e → e < (d : Nat) → NoFol W H f K t e) ∧ Hid (IBox wr w.heap.size (W : Nat) (H : Nat) (.slice A (W * H) c)) ∧ Hid (Below w.heap.size w wr)) (fun i _ => 16 - (intOf i).toNat)
  case atStart => exact ⟨0, by omega, rfl, Lib.hid (fun e h1 h2 => by omega), X1, LB0⟩
  case round =>
    obtain ⟨d, hd, rfl, HN, HX, HB⟩ := hrel
    clear X1 LB0
    by_cases hlt : d < 16
    · have y1 : (d : Int) < 16 := by omega
      have HC := Lib.hid (HF.out _ HB.out d (by omega))
      obtain ⟨q0, q1, q2, q3, q4, q5, q6⟩ := HX.out.all
      go_wp2_with fail
      clear q0 q1 q2 q3 q4 q5 q6
      with_reducible refine Calls.mono HC.out ?_
      clear HC
      rintro e w5 (⟨k, kb, kc2, rfl, hfol, hrow, hb, hcp⟩ | ⟨rfl, hno, hb⟩)
      · have LB := Lib.hid (HB.out.trans (hb.mono HB.out.size))
        have HR := Lib.hid hrow
        have HFO := Lib.hid hfol
        clear hrow hfol hb
        go_wp2
        refine bodyPost_ret (v := .tuple #[.slice (some ⟨kb, 0, none⟩) (W + H) kc2, .bool true]) (by simp [results, Try.results56, go_sem]) rfl ?_
        exact .inl ⟨k, kb, kc2, _, rfl, HFO.out, by omega, fun e h1 h2 => HN.out e h1 h2, HR.out, LB.out, hcp⟩
      · have LB := Lib.hid (HB.out.trans (hb.mono HB.out.size))
        have HX2 := Lib.hid (HX.out.below hb HX.out.lt)
        have HNO := Lib.hid hno
        clear hb hno
        go_wp2
        go_roundw
        case rel => exact ⟨d + 1, by omega, by go_num, Lib.hid (fun e h1 h2 => if h : e = (d : Int) then by rw [h]; exact HNO.out else HN.out e h1 (by omega)), HX2, LB⟩
        case measure => simp [intOf]; omega
    · have e : d = 16 := by omega
      subst e
      go_wp2
      refine bodyPost_ret (v := .tuple #[.slice none 0 0, .bool false]) (by simp [results, Try.results56, go_sem]) rfl ?_
      exact .inr ⟨rfl, fun e h1 h2 => HN.out e h1 (by omega), HB.out⟩
theorem row_ne_ib {w : World} {k g n : Nat} {f : Nat → Int} {X Y : Int} {v : Value} (h : L2.Row w k n f) (hx : IBox w g X Y v) : k ≠ g := by
  rintro rfl
  obtain ⟨cs, h1, _⟩ := h
  unfold IBox at hx
  rw [h1] at hx
  cases hx
/-- What 'First' hands back. -/
def FstR (W H : Nat) (f : Nat → Int) (w : World) (e : Ending) (w' : World) : Prop :=
  (∃ p A1 c1 A2 c2, e = .returned (.tuple #[.slice A1 W c1, .slice A2 H c2, .int .i64 0]) ∧ Fst W H f p ∧ L2.Holds w' w'.heap.size A1 W p ∧ L2.Holds w' w'.heap.size A2 H (fun i => p (W + i)) ∧ Below w.heap.size w w') ∨
  (e = .returned (.tuple #[.slice none 0 0, .slice none 0 0, .int .i64 6]) ∧ NoFit W H f ∧ Below w.heap.size w w')
set_option maxHeartbeats 800000 in
theorem first_err (W H : Int) (A : Option Addr) (n c : Nat) (f : Nat → Int) (w : World) (hf : L2.Holds w w.heap.size A n f) (hz : ick W H n f = 8) :
    Calls Try.prog 23 #[.agg #[.int .i64 W, .int .i64 H, .slice A n c]] w fun e w' => e = .returned (.tuple #[.slice none 0 0, .slice none 0 0, .int .i64 8]) ∧ Below w.heap.size w w' := by
  have HC := Lib.hid (fun u (hb : Below w.heap.size w u) => ick_any W H A n c f u ((hf.below hb).more hb.size))
  rw [hz] at HC
  clear hf hz
  have LB0 := Lib.hid (Below.refl w.heap.size w)
  have X1 := IBox.new w W H (.slice A n c)
  have X1 := Lib.hid X1
  have LB0 := Lib.hid (LB0.out.alloc LB0.out.size (.cells #[.int .i64 W, .int .i64 H, .slice A n c] 24))
  go_enter Try.func23, Try.ntmps23
  go_upto_region 1 with (fail)
  generalize w.alloc (.cells #[.int .i64 W, .int .i64 H, .slice A n c] 24) = w0 at *
  obtain ⟨q0, q1, q2, q3, q4, q5, q6⟩ := X1.out.all
  go_wp2_with fail
  clear q0 q1 q2 q3 q4 q5 q6
  with_reducible refine Calls.mono (HC.out _ LB0.out) ?_
  rintro e w1 ⟨rfl, hb⟩
  have LB1 := Lib.hid (LB0.out.trans (hb.mono LB0.out.size))
  have X1 := Lib.hid (X1.out.below hb X1.out.lt)
  clear hb LB0 
  go_wp2
  refine bodyPost_ret (v := .tuple #[.slice none 0 0, .slice none 0 0, .int .i64 8]) (by simp [results, Try.results23, go_sem]) rfl ?_
  exact ⟨rfl, LB1.out⟩
set_option maxHeartbeats 3200000 in
theorem first_ok (W H : Nat) (A : Option Addr) (c : Nat) (f : Nat → Int) (w : World) (hW0 : 1 ≤ W) (hW : W ≤ 64) (hH0 : 1 ≤ H) (hH : H ≤ 64) (hf : L2.Holds w w.heap.size A (W * H) f) (hfi : fine (W * H) f = true) :
    Calls Try.prog 23 #[.agg #[.int .i64 (W : Nat), .int .i64 (H : Nat), .slice A (W * H) c]] w (FstR W H f w) := by
  have hp : Pos W H f := fun i hi => fine_of hfi i hi
  have HC := Lib.hid (fun u (hb : Below w.heap.size w u) => ick_any (W : Nat) (H : Nat) A (W * H) c f u ((hf.below hb).more hb.size))
  rw [ick_zero hW0 hW hH0 hH hfi] at HC
  have HN := Lib.hid (fun u => none_any W H A (W * H) c u hW0 hW hH0 hH)
  have HL := Lib.hid (fun u B kc K t (hb : Below w.heap.size w u) (hK : L2.Holds u u.heap.size B (W + H) K) (ht : t < W + H) (h0 : K t = -1) (hr : FR W H f t K) => least_any W H A B c kc f K t u hW0 hW hH0 hH ((hf.below hb).more hb.size) hp hK ht h0 hr.clo hr.rng)
  have HP := Lib.hid hp
  clear hf hp hfi
  have z0 : ((0 : Int) != 0) = false := rfl
  have e1 : IntKind.i64.wrap ((W : Int) + (H : Int)) = (W : Int) + (H : Int) := IntWalk.i64_in _ (by omega)
  have LB0 := Lib.hid (Below.refl w.heap.size w)
  have X1 := IBox.new w (W : Nat) (H : Nat) (.slice A (W * H) c)
  have X1 := Lib.hid X1
  have LB0 := Lib.hid (LB0.out.alloc LB0.out.size (.cells #[.int .i64 (W : Nat), .int .i64 (H : Nat), .slice A (W * H) c] 24))
  go_enter Try.func23, Try.ntmps23
  go_upto_region 1 with (fail)
  generalize w.alloc (.cells #[.int .i64 (W : Nat), .int .i64 (H : Nat), .slice A (W * H) c] 24) = w0 at *
  obtain ⟨q0, q1, q2, q3, q4, q5, q6⟩ := X1.out.all
  go_wp2_with fail
  clear q0 q1 q2 q3 q4 q5 q6
  with_reducible refine Calls.mono (HC.out _ LB0.out) ?_
  rintro e w1 ⟨rfl, hb⟩
  have LB1 := Lib.hid (LB0.out.trans (hb.mono LB0.out.size))
  have X1 := Lib.hid (X1.out.below hb X1.out.lt)
  clear hb LB0 
  obtain ⟨q0, q1, q2, q3, q4, q5, q6⟩ := X1.out.all
  go_wp2_with fail
  clear q0 q1 q2 q3 q4 q5 q6
  with_reducible refine Calls.mono (HN.out _) ?_
  rintro e w2 ⟨kn, rfl, hrow, hb⟩
  have LB2 := Lib.hid (LB1.out.trans (hb.mono LB1.out.size))
  have X1 := Lib.hid (X1.out.below hb X1.out.lt)
  have HR := Lib.hid hrow
  clear hb LB1 hrow
  obtain ⟨q0, q1, q2, q3, q4, q5, q6⟩ := X1.out.all
  have HR0 := Lib.hid (FR.start (W := W) (H := H) (f := f))
  go_wp2
  clear q0 q1 q2 q3 q4 q5 q6
  go_loopw [6, 22] (fun vk i wr => ∃ (t : Nat) (kb kc : Nat) (k : Nat → Int), t ≤ W + H ∧ i = .int .i64 (t : Nat) ∧ vk = .slice (some ⟨kb, 0, none⟩) (W + H) kc ∧ Hid (W + H ≤ kc) ∧ Hid (FR W H f t k) ∧ Hid (L2.Row wr kb (W + H) k) ∧ Hid (IBox wr w.heap.size (W : Nat) (H : Nat) (.slice A (W * H) c)) ∧ Hid (Below w.heap.size w wr)) (fun _ i _ => W + H - (intOf i).toNat)
  
  case atStart => exact ⟨0, kn, W + H, non, Nat.zero_le _, rfl, rfl, Lib.hid (Nat.le_refl _), HR0, HR, X1, LB2⟩
  case round =>
    obtain ⟨t, kb, kc, k, ht, rfl, rfl, HCP, HFR, HRW, HX, HB⟩ := hrel
    clear X1 LB2 HR HR0
    by_cases hlt : t < W + H
    · have y1 : (t : Int) < (W : Int) + (H : Int) := by omega
      have y3 : (t : Int) < ((W + H : Nat) : Int) := by omega
      have y4 : (0 : Int) ≤ (t : Int) := by omega
      have c1 := HRW.out.cell hlt
      obtain ⟨kt, hkt⟩ : ∃ z, k t = z := ⟨_, rfl⟩
      rw [hkt] at c1
      have HKT := Lib.hid hkt
      clear hkt
      by_cases hu : kt = -1
      · have y5 : (kt != -1) = false := by simp [hu]
        have HC := Lib.hid (HL.out wr (some ⟨kb, 0, none⟩) kc k t HB.out (HRW.out.holds HRW.out.lt) hlt (by rw [HKT.out]; exact hu) HFR.out)
        clear hu
        obtain ⟨q0, q1, q2, q3, q4, q5, q6⟩ := HX.out.all
        go_wp2_with fail
        clear q0 q1 q2 q3 q4 q5 q6 c1
        with_reducible refine Calls.mono HC.out ?_
        clear HC
        rintro e w5 (⟨k2, kb2, kc2, c2, rfl, hfol, hc0, hno, hrow, hb, hcp⟩ | ⟨rfl, hno, hb⟩)
        · have LB := Lib.hid (HB.out.trans (hb.mono HB.out.size))
          have HX2 := Lib.hid (HX.out.below hb HX.out.lt)
          have HR2 := Lib.hid hrow
          have HCP2 := Lib.hid hcp
          have HFR2 := Lib.hid (HFR.out.next hlt (by rw [HKT.out]; simpa using y5) hc0 hfol hno)
          clear hrow hfol hb hcp hno hc0
          go_wp2
          go_roundw
          case rel => exact ⟨t + 1, kb2, kc2, k2, by omega, by go_num, rfl, HCP2, HFR2, HR2, HX2, LB⟩
          case measure => simp [intOf]; omega
        · have LB := Lib.hid (HB.out.trans (hb.mono HB.out.size))
          have HNO := Lib.hid (HFR.out.none_ HP.out hlt (by rw [HKT.out]; simpa using y5) hno)
          clear hb hno
          go_wp2
          refine bodyPost_ret (v := .tuple #[.slice none 0 0, .slice none 0 0, .int .i64 6]) (by simp [results, Try.results23, go_sem]) rfl ?_
          exact .inr ⟨rfl, HNO.out, LB.out⟩
      · have y5 : (kt != -1) = true := by simp [hu]
        have HFR2 := Lib.hid (HFR.out.known (by rw [HKT.out]; exact hu))
        clear hu
        have hkl := HRW.out.lt
        obtain ⟨q0, q1, q2, q3, q4, q5, q6⟩ := HX.out.all
        go_wp2
        clear q0 q1 q2 q3 q4 q5 q6 c1
        go_roundw
        case rel => exact ⟨t + 1, kb, kc, k, by omega, by go_num, rfl, HCP, HFR2, HRW, HX, HB⟩
        case measure => simp [intOf]; omega
    · have e : t = W + H := by omega
      have y1 : ¬ (t : Int) < (W : Int) + (H : Int) := by omega
      have HFS := Lib.hid (show Fst W H f k from by have := HFR.out; rw [e] at this; exact this.fst)
      have hcp := HCP.out
      have y5 : (0 : Int) ≤ (W : Int) := by omega
      have y6 : (W : Int) ≤ (kc : Int) := by omega
      have y7 : (W : Int) ≤ (W : Int) + (H : Int) := by omega
      have y8 : (W : Int) + (H : Int) ≤ (kc : Int) := by omega
      have y9 : ((W + H : Nat) : Int) ≤ (kc : Int) := by omega
      have y10 : (W : Int) ≤ ((W + H : Nat) : Int) := by omega
      have e3 : W + H - W = H := by omega
      clear HFR
      obtain ⟨q0, q1, q2, q3, q4, q5, q6⟩ := HX.out.all
      go_wp2
      have HSS := Lib.hid (fun u (h : Below wr.heap.size wr u) => (HX.out.below h HX.out.lt).c0)
      have HA := Lib.hid (fun u (h : Below wr.heap.size wr u) cc => clone_any (some ⟨kb, 0, none⟩) W cc k wr.heap.size u (by omega) (by omega) (fun _ => ⟨kb, 0, rfl, HRW.out.lt, fun i hi => by rw [Nat.zero_add]; exact (HRW.out.below h HRW.out.lt).cell (by omega)⟩))
      have HBB := Lib.hid (fun u (h : Below wr.heap.size wr u) cc => clone_any (some ⟨kb, W, none⟩) H cc (fun i => k (W + i)) wr.heap.size u (by omega) (by omega) (fun _ => ⟨kb, W, rfl, HRW.out.lt, fun i hi => (HRW.out.below h HRW.out.lt).cell (by omega)⟩))
      clear q0 q1 q2 q3 q4 q5 q6
      go_region_held3 (fun u => u.cell? ⟨w.heap.size, 0, none⟩ = some (.int .i64 (W : Nat)))
        (exact HSS.out _ (by first | assumption | exact (Below.refl _ _).drew))
        (first
          | (go_at_call 57
             with_reducible refine Calls.mono (HA.out _ (by first | assumption | exact (Below.refl _ _).drew) _) ?_
             rintro e ua ⟨ka, ca, rfl, hka, hra, hba, hca⟩
             have hxa := (show Below wr.heap.size wr _ from by first | assumption | exact (Below.refl _ _).drew).trans (hba.mono (show Below wr.heap.size wr _ from by first | assumption | exact (Below.refl _ _).drew).size)
             have HRA := Lib.hid hra)
          | (go_at_call 57
             try rw [e3]
             with_reducible refine Calls.mono (HBB.out _ (by first | assumption | exact (Below.refl _ _).drew) _) ?_
             rintro e ub ⟨kb2, cb, rfl, hkb2, hrb, hbb, hcb⟩
             have hxb := (show Below wr.heap.size wr _ from by assumption).trans (hbb.mono (show Below wr.heap.size wr _ from by assumption).size)
             have HRB := Lib.hid hrb))
      go_wp2
      refine bodyPost_ret (v := .tuple #[.slice (some ⟨ka, 0, none⟩) W ca, .slice (some ⟨kb2, 0, none⟩) H cb, .int .i64 0]) (by simp [results, Try.results23, go_sem]) rfl ?_
      have h1 := HRA.out.below hbb HRA.out.lt
      exact .inl ⟨k, _, _, _, _, rfl, HFS.out, h1.holds h1.lt, HRB.out.holds HRB.out.lt, HB.out.trans (hxb.mono HB.out.size)⟩
end Go.Proofs.Ytmcdfnhpaneanaa
