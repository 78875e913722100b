/- isSet, comesOff, Off of the program. -/
import Derived.Test.YtgmcbdnfgdmmaaaHse
namespace Go.Proofs.Ytgmcbdnfgdmmaaa
open Go.RowKit
set_option maxRecDepth 100000
set_option linter.unusedVariables false
set_option linter.unusedSimpArgs false

/-- The i-th number of a list is as a set wants it. -/
def okS (N : Nat) (f : Nat → Int) (k : Nat) : Prop := (0 ≤ f k ∧ f k < (N : Int)) ∧ (0 < k → f (k - 1) < f k)
theorem setB_zero (N : Nat) (f : Nat → Int) : setB N 0 f = true := by unfold setB; rw [decide_eq_true_iff]; intro i hi; omega
theorem setB_yes {N k : Nat} {f : Nat → Int} (h : setB N k f = true) (ho : okS N f k) : setB N (k + 1) f = true := by
  unfold setB at h ⊢
  rw [decide_eq_true_iff] at h ⊢
  intro i hi
  rcases Nat.lt_succ_iff_lt_or_eq.1 hi with c | c
  · exact h i c
  · rw [c]; exact ho
theorem setB_no {N n k : Nat} {f : Nat → Int} (hk : k < n) (ho : ¬ okS N f k) : setB N n f = false := by
  unfold setB
  rw [decide_eq_false_iff_not]
  exact fun h => ho (h k hk)
theorem setB_len {N n : Nat} {f : Nat → Int} (h : setB N n f = true) : n ≤ N := by
  unfold setB at h
  rw [decide_eq_true_iff] at h
  have mono : ∀ d i, i + d < n → f i + (d : Nat) ≤ f (i + d) := by
    intro d
    induction d with
    | zero => intro i _; simp
    | succ d ih =>
      intro i hi
      have h1 := ih i (by omega)
      have h2 := (h (i + (d + 1)) hi).2 (by omega)
      rw [show i + (d + 1) - 1 = i + d by omega] at h2
      omega
  refine pigeon N n (fun i => (f i).toNat) (fun i hi => by have := (h i hi).1; show (f i).toNat < N; omega) fun i j hi hj e => ?_
  have e' : (f i).toNat = (f j).toNat := e
  have a1 := (h i hi).1
  have a2 := (h j hj).1
  rcases Nat.lt_trichotomy i j with c | c | c
  · have := mono (j - i) i (by omega); rw [show i + (j - i) = j by omega] at this; omega
  · exact c
  · have := mono (i - j) j (by omega); rw [show j + (i - j) = i by omega] at this; omega
set_option maxHeartbeats 800000 in
theorem isset_any (W H : Nat) (A : Option Addr) (N c : Nat) (D : Option Addr) (n d : Nat) (f : Nat → Int) (w : World) (hW : W ≤ 64) (hH : H ≤ 64) (hn : n ≤ 30000) (hr : L2.Holds w w.heap.size D n f) :
    Calls Try.prog 85 #[.agg #[.int .i64 (W : Nat), .int .i64 (H : Nat), .slice A N c], .slice D n d] w fun e w' => e = .returned (.bool (setB (W + H) n f)) ∧ Below w.heap.size w w' := by
  have HR := Lib.hid hr
  have HT := Lib.hid (fun u t => isthr_any W H A N c t u hW hH)
  have X0 := Lib.hid (Box.new w (W : Nat) (H : Nat) (.slice A N c))
  have LB0 := Lib.hid (show Below w.heap.size w (w.alloc (.cells #[.int .i64 (W : Nat), .int .i64 (H : Nat), (.slice A N c)] 24)) from (Below.refl _ _).alloc (Nat.le_refl _) _)
  clear hr
  go_enter Try.func85, Try.ntmps85
  go_wp2_with fail
  generalize w.alloc (.cells #[.int .i64 (W : Nat), .int .i64 (H : Nat), .slice A N c] 24) = w0 at *
  go_wp2
  go_loopw [9] (fun i wr => ∃ k : Nat, k ≤ n ∧ i = .int .i64 k ∧ Hid (setB (W + H) k f = true) ∧ Hid (Box wr w.heap.size (W : Nat) (H : Nat) (.slice A N c)) ∧ Hid (Below w.heap.size w wr)) (fun i _ => n - (intOf i).toNat)
  case atStart => exact ⟨0, Nat.zero_le _, rfl, Lib.hid (setB_zero _ _), X0, LB0⟩
  case round =>
    obtain ⟨k, hk, rfl, HS, HX, HL⟩ := hrel
    by_cases hlt : k < n
    · obtain ⟨b, o, rfl, hbl, hc⟩ := (HR.out.below HL.out) (by omega)
      have c1 := hc k hlt
      have c2 : 0 < k → wr.cell? ⟨b, o + (k - 1), none⟩ = some (.int .i64 (f (k - 1))) := fun _ => hc (k - 1) (by omega)
      clear hc
      have hbs := HL.out.size
      have y1 : (0 : Int) ≤ (k : Int) := by omega
      have y2 : (k : Int) < (n : Int) := by omega
      obtain ⟨u, hu⟩ : ∃ u, f k = u := ⟨_, rfl⟩
      rw [hu] at c1
      have HU := Lib.hid hu
      clear hu
      by_cases ht : 0 ≤ u ∧ u < ((W + H : Nat) : Int)
      · have HTu := Lib.hid (fun v => HT.out v u)
        rw [decide_eq_true ht] at HTu
        have HTT := Lib.hid ht
        clear ht
        obtain ⟨q0, q1, q2, q3, q4, q5, q6⟩ := HX.out.all
        by_cases hk0 : k = 0
        · have y3 : ¬ (0 : Int) < (k : Int) := by omega
          have E := Lib.hid (show setB (W + H) (k + 1) f = true from setB_yes HS.out ⟨by rw [HU.out]; exact HTT.out, fun h => absurd h (by omega)⟩)
          clear c2 hk0
          go_wp2_with fail
          clear q0 q1 q2 q3 q4 q5
          with_reducible refine Calls.mono (HTu.out _) ?_
          rintro e w1 ⟨rfl, hb⟩
          have HX1 := Lib.hid (HX.out.below hb HX.out.lt)
          have HL1 := Lib.hid (HL.out.trans (hb.mono HL.out.size))
          clear hb HX HL HTu HT
          go_wp2
          go_roundw
          case rel => exact ⟨k + 1, by omega, by go_num, E, HX1, HL1⟩
          case measure => simp [intOf]; omega
        · have c3 := c2 (by omega)
          obtain ⟨p, hp⟩ : ∃ p, f (k - 1) = p := ⟨_, rfl⟩
          rw [hp] at c3
          have HP := Lib.hid hp
          have ek : ((k - 1 : Nat) : Int) = (k : Int) - 1 := by omega
          have y3 : (0 : Int) < (k : Int) := by omega
          have ea : ((k : Int) - 1).toNat = k - 1 := by omega
          have y4 : 1 ≤ k := by omega
          clear c2 hp ek
          by_cases hup : p < u
          · have z : decide (u ≤ p) = false := by simp; omega
            have E := Lib.hid (show setB (W + H) (k + 1) f = true from setB_yes HS.out ⟨by rw [HU.out]; exact HTT.out, fun _ => by rw [HU.out, HP.out]; exact hup⟩)
            go_wp2_with fail
            clear q0 q1 q2 q3 q4 q5
            with_reducible refine Calls.mono (HTu.out _) ?_
            rintro e w1 ⟨rfl, hb⟩
            have HX1 := Lib.hid (HX.out.below hb HX.out.lt)
            have HL1 := Lib.hid (HL.out.trans (hb.mono HL.out.size))
            have c4 := (hb.cell (p := ⟨b, o + (k - 1), none⟩) (by show b < _; omega)).trans c3
            clear hb HX HL HTu HT c3 c1
            go_wp2
            go_roundw
            case rel => exact ⟨k + 1, by omega, by go_num, E, HX1, HL1⟩
            case measure => simp [intOf]; omega
          · have z : decide (u ≤ p) = true := by simp; omega
            have E := Lib.hid (show setB (W + H) n f = false from setB_no hlt (fun h => by have := h.2 (by omega); rw [HU.out, HP.out] at this; omega))
            go_wp2_with fail
            clear q0 q1 q2 q3 q4 q5
            with_reducible refine Calls.mono (HTu.out _) ?_
            rintro e w1 ⟨rfl, hb⟩
            have HL1 := Lib.hid (HL.out.trans (hb.mono HL.out.size))
            have c4 := (hb.cell (p := ⟨b, o + (k - 1), none⟩) (by show b < _; omega)).trans c3
            clear hb HX HL HTu HT c3 c1
            go_wp2
            go_ret
            exact ⟨ret_bool E.out.symm, HL1.out⟩
      · have HTu := Lib.hid (fun v => HT.out v u)
        rw [decide_eq_false ht] at HTu
        have E := Lib.hid (show setB (W + H) n f = false from setB_no hlt (fun h => ht (by have := h.1; rwa [HU.out] at this)))
        clear ht c2
        obtain ⟨q0, q1, q2, q3, q4, q5, q6⟩ := HX.out.all
        go_wp2_with fail
        clear q0 q1 q2 q3 q4 q5
        with_reducible refine Calls.mono (HTu.out _) ?_
        rintro e w1 ⟨rfl, hb⟩
        have HL1 := Lib.hid (HL.out.trans (hb.mono HL.out.size))
        clear hb HX HL HTu HT c1
        go_wp2
        go_ret
        exact ⟨ret_bool E.out.symm, HL1.out⟩
    · have e : k = n := by omega
      subst e
      go_wp2
      go_ret
      exact ⟨ret_bool HS.out.symm, HL.out⟩
/-- What the thread a asks of a set that comes off. -/
def off1 (R : Nat → Nat → Bool) (n : Nat) (f : Nat → Int) (a : Nat) : Bool := mem n f a || !anyP n (fun i => R a (f i).toNat)
def offk (R : Nat → Nat → Bool) (n : Nat) (f : Nat → Int) (k : Nat) : Bool := (List.range k).all (off1 R n f)
theorem offk_succ {R : Nat → Nat → Bool} {n k : Nat} {f : Nat → Int} : offk R n f (k + 1) = (offk R n f k && off1 R n f k) := by
  unfold offk
  rw [List.range_succ, List.all_append]
  simp
theorem offB_eq {R : Nat → Nat → Bool} {N n : Nat} {f : Nat → Int} : offB R N n f = (decide (0 < n) && decide (n < N) && offk R n f N) := by
  unfold offB offk off1 anyP
  congr 1
  congr 1
  funext a
  rw [List.not_any_eq_all_not]
theorem offk_no {R : Nat → Nat → Bool} {N n k : Nat} {f : Nat → Int} (hk : k < N) (h : off1 R n f k = false) : offB R N n f = false := by
  rw [offB_eq]
  have : offk R n f N = false := by
    unfold offk
    rw [List.all_eq_false]
    exact ⟨k, List.mem_range.2 hk, by rw [h]; simp⟩
  rw [this, Bool.and_false]
set_option maxHeartbeats 1600000 in
theorem comes_any (W H : Nat) (A : Option Addr) (c : Nat) (g : Nat → Bool) (D : Option Addr) (n d : Nat) (f : Nat → Int) (w : World) (hg : Holds w w.heap.size A (W * H) g) (hW0 : 1 ≤ W) (hW : W ≤ 64) (hH0 : 1 ≤ H) (hH : H ≤ 64) (hn : n ≤ 30000) (hr : L2.Holds w w.heap.size D n f) (hs : setB (W + H) n f = true) :
    Calls Try.prog 86 #[.agg #[.int .i64 (W : Nat), .int .i64 (H : Nat), .slice A (W * H) c], .slice D n d] w fun e w' => e = .returned (.bool (offB (ov W g) (W + H) n f)) ∧ Below w.heap.size w w' := by
  have HR := Lib.hid hr
  have HC := Lib.hid (fun u (h : Below w.heap.size w u) (a : Nat) => contains_any D n d f a u hn ((hr.below h).more h.size))
  have HF := Lib.hid (fun u (h : Below w.heap.size w u) gb (hx : Box u gb (W : Nat) (H : Nat) (.slice A (W * H) c)) ta a (na : Num u ta (a : Nat)) (ha : a < W + H) =>
    containsf_any D n d f 126 #[.pointer (some ⟨gb, 0, none⟩), .pointer (some ⟨ta, 0, none⟩)] (fun i => ov W g a (f i).toNat) u hn ((hr.below h).more h.size)
      (fun v i hv hi => by
        obtain ⟨b, hb, e⟩ := setB_at hs hi
        show Calls Try.prog 126 _ v fun e w' => e = .returned (.bool (ov W g a (f i).toNat)) ∧ Below v.heap.size v w'
        rw [e, Int.toNat_natCast]
        exact over_clo ⟨hx.below hv hx.lt, (hg.below (h.trans (hv.mono h.size))).more (Nat.le_trans h.size hv.size), hW0, hW, hH0, hH⟩ (na.below hv) ha b hb 126 (.inl rfl)) (Go.Proofs.enters_of Try.func126 (by kernel_rfl) rfl))
  have X0 := Lib.hid (Box.new w (W : Nat) (H : Nat) (.slice A (W * H) c))
  have LB0 := Lib.hid (show Below w.heap.size w (w.alloc (.cells #[.int .i64 (W : Nat), .int .i64 (H : Nat), (.slice A (W * H) c)] 24)) from (Below.refl _ _).alloc (Nat.le_refl _) _)
  clear hr hg hs
  generalize W * H = M at *
  go_enter Try.func86, Try.ntmps86
  go_wp2_with fail
  generalize w.alloc (.cells #[.int .i64 (W : Nat), .int .i64 (H : Nat), .slice A M c] 24) = w0 at *
  obtain ⟨q0, q1, q2, q3, q4, q5, q6⟩ := X0.out.all
  go_wp2
  clear q0 q1 q2 q3 q4 q5 q6
  go_loopw [11] (fun i wr => ∃ k : Nat, k ≤ W + H ∧ i = .int .i64 k ∧ Hid (offk (ov W g) n f k = true) ∧ Hid (Box wr w.heap.size (W : Nat) (H : Nat) (.slice A M c)) ∧ Hid (Below w.heap.size w wr)) (fun i _ => (W + H) - (intOf i).toNat)
  case atStart => exact ⟨0, Nat.zero_le _, rfl, Lib.hid rfl, X0, LB0⟩
  case round =>
    obtain ⟨k, hk, rfl, HS, HX, HL⟩ := hrel
    by_cases hlt : k < W + H
    · have y1 : (k : Int) < (W : Int) + (H : Int) := by omega
      have HN := Lib.hid (show Num (wr.alloc (.cells #[.int .i64 (k : Nat)] 3)) wr.heap.size (k : Nat) from ⟨by simp, by simp⟩)
      have HX1 := Lib.hid (HX.out.alloc (.cells #[.int .i64 (k : Nat)] 3))
      have HL1 := Lib.hid (HL.out.alloc HL.out.size (.cells #[.int .i64 (k : Nat)] 3))
      obtain ⟨t, ht⟩ : ∃ t, wr.heap.size = t := ⟨_, rfl⟩
      clear HX HL
      go_wp2_with fail
      rw [ht] at HN
      generalize wr.alloc (.cells #[.int .i64 (k : Nat)] 3) = w1 at *
      clear ht
      obtain ⟨n0, n1⟩ := HN.out
      go_wp2_with fail
      clear n0 n1
      with_reducible refine Calls.mono (HC.out _ HL1.out k) ?_
      rintro e w2 ⟨rfl, hb⟩
      have HN2 := Lib.hid (HN.out.below hb)
      have HX2 := Lib.hid (HX1.out.below hb HX1.out.lt)
      have HL2 := Lib.hid (HL1.out.trans (hb.mono HL1.out.size))
      clear hb HN HX1 HL1
      cases hm : mem n f k
      · have HM := Lib.hid hm
        clear hm
        go_wp2_with fail
        with_reducible refine Calls.mono (HF.out _ HL2.out _ HX2.out _ k HN2.out hlt) ?_
        rintro e w3 ⟨rfl, hb⟩
        have HX3 := Lib.hid (HX2.out.below hb HX2.out.lt)
        have HL3 := Lib.hid (HL2.out.trans (hb.mono HL2.out.size))
        clear hb HN2 HX2 HL2
        cases hp : anyP n (fun i => ov W g k (f i).toNat)
        · have E := Lib.hid (show offk (ov W g) n f (k + 1) = true by rw [offk_succ, HS.out]; unfold off1; rw [HM.out, hp]; rfl)
          clear hp
          go_wp2
          go_roundw
          case rel => exact ⟨k + 1, by omega, by go_num, E, HX3, HL3⟩
          case measure => simp [intOf]; omega
        · have E := Lib.hid (show offB (ov W g) (W + H) n f = false from offk_no hlt (by unfold off1; rw [HM.out, hp]; rfl))
          clear hp
          go_wp2
          go_ret
          exact ⟨ret_bool E.out.symm, HL3.out⟩
      · have E := Lib.hid (show offk (ov W g) n f (k + 1) = true by rw [offk_succ, HS.out]; unfold off1; rw [hm]; rfl)
        clear hm
        go_wp2
        go_roundw
        case rel => exact ⟨k + 1, by omega, by go_num, E, HX2, HL2⟩
        case measure => simp [intOf]; omega
    · have e : k = W + H := by omega
      subst e
      have E := Lib.hid (show offB (ov W g) (W + H) n f = (decide (0 < n) && decide (n < W + H)) by rw [offB_eq, HS.out, Bool.and_true])
      obtain ⟨q0, q1, q2, q3, q4, q5, q6⟩ := HX.out.all
      by_cases h0 : 0 < n
      · have z0 : (0 : Int) < (n : Int) := by omega
        by_cases h1 : n < W + H
        · have z1 : (n : Int) < (W : Int) + (H : Int) := by omega
          go_wp2
          go_ret
          exact ⟨ret_bool (by rw [E.out]; simp; omega), HL.out⟩
        · have z1 : ¬ (n : Int) < (W : Int) + (H : Int) := by omega
          go_wp2
          go_ret
          exact ⟨ret_bool (by rw [E.out]; simp; omega), HL.out⟩
      · have z0 : ¬ (0 : Int) < (n : Int) := by omega
        go_wp2
        go_ret
        exact ⟨ret_bool (by rw [E.out]; simp; omega), HL.out⟩
/-- A bool and an error came back. -/
def BRet (w : World) (b : Bool) (z : Int) (e : Ending) (w' : World) : Prop := e = .returned (.tuple #[.bool b, .int .i64 z]) ∧ Below w.heap.size w w'
end Go.Proofs.Ytgmcbdnfgdmmaaa
