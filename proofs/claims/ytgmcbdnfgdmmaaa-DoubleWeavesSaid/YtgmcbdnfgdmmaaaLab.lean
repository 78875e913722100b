/- allAbove of the program: for each thread, those that lie over it. -/
import Derived.Test.YtgmcbdnfgdmmaaaLpx
import Derived.Test.YtgmcbdnfgdmmaaaHpz
namespace Go.Proofs.Ytgmcbdnfgdmmaaa
open Go.RowKit
set_option maxRecDepth 100000
set_option linter.unusedVariables false
set_option linter.unusedSimpArgs false

theorem ofl_add {A B : Nat → Bool} {x : Nat} : ∀ {N : Nat}, x < N → B x = true → A x = false → (∀ a, a < N → A a = true → a < x) → (∀ a, a < N → a ≠ x → B a = A a) → ofl B N = ofl A N ++ [x] := by
  intro N
  induction N with
  | zero => intro h; omega
  | succ N ih =>
    intro hx h1 h0 hA h
    by_cases e : x = N
    · subst e
      rw [ofl_yes h1, ofl_no h0, ofl_congr fun a ha => h a (by omega) (by omega)]
    · have hBN := h N (by omega) (by omega)
      have hAN : A N = false := by
        cases k : A N
        · rfl
        · have := hA N (by omega) k; omega
      rw [ofl_no (by rw [hBN, hAN]), ofl_no hAN]
      exact ih (by omega) h1 h0 (fun a ha => hA a (by omega)) fun a ha => h a (by omega)
/-- Of an end and a pick, the one has been put into the other one's row. -/
def asT (W e p t a : Nat) : Bool := if t < W then decide (t < e ∨ (t = e ∧ a < p)) else decide (a < e ∨ (a = e ∧ t < p))
/-- The rows when the pick p comes, at the end e. -/
def asL (W N : Nat) (g : Nat → Bool) (e p t : Nat) : List Nat := ofl (fun a => ov W g a t && asT W e p t a) N
theorem ov_kind {W a b : Nat} {g : Nat → Bool} (h : ov W g a b = true) : (a < W ∧ ¬ b < W) ∨ (¬ a < W ∧ b < W) := by
  by_cases h1 : a < W <;> by_cases h2 : b < W
  · rw [ov_ee h1 h2] at h; cases h
  · exact .inl ⟨h1, h2⟩
  · exact .inr ⟨h1, h2⟩
  · rw [ov_pp h1 h2] at h; cases h
theorem and_congr_l {b c d : Bool} (h : b = true → c = d) : (b && c) = (b && d) := by cases b <;> simp_all
theorem asL_zero (W N : Nat) (g : Nat → Bool) (t : Nat) : asL W N g 0 W t = [] := by
  unfold asL ofl
  rw [List.filter_eq_nil_iff]
  intro a _
  cases h : ov W g a t
  · simp
  · have := ov_kind h
    unfold asT
    simp
    split <;> simp <;> omega
theorem asL_next (W N : Nat) (g : Nat → Bool) (e t : Nat) (ht : t < N) : asL W N g e N t = asL W N g (e + 1) W t := by
  unfold asL
  refine ofl_congr fun a ha => and_congr_l fun h => ?_
  have := ov_kind h
  unfold asT
  split
  · rw [decide_eq_decide]; omega
  · rw [decide_eq_decide]; omega
theorem asL_all (W N : Nat) (g : Nat → Bool) (t : Nat) : asL W N g W W t = LA W N g t := by
  unfold asL LA
  refine ofl_congr fun a ha => ?_
  cases h : ov W g a t
  · rfl
  · have := ov_kind h
    unfold asT
    rw [Bool.true_and]
    split
    · exact decide_eq_true (by omega)
    · exact decide_eq_true (by omega)
theorem asL_up {W N e p : Nat} {g : Nat → Bool} (he : e < W) (hp : ¬ p < W) (hN : p < N) (h : ov W g e p = true) (t : Nat) (ht : t < N) : asL W N g e (p + 1) t = if t = p then asL W N g e p t ++ [e] else asL W N g e p t := by
  by_cases k : t = p
  · subst k
    rw [if_pos rfl]
    unfold asL asT
    refine ofl_add (by omega) ?_ ?_ (fun a ha hA => ?_) fun a ha hne => ?_
    · simp [h, hp]
    · simp [hp]
    · simp [hp] at hA
      omega
    · simp only [hp, if_false]
      refine and_congr_l fun _ => ?_
      rw [decide_eq_decide]; omega
  · rw [if_neg k]
    unfold asL
    refine ofl_congr fun a ha => and_congr_l fun ho => ?_
    have hk := ov_kind ho
    unfold asT
    split
    · rw [decide_eq_decide]
      refine ⟨fun hh => ?_, fun hh => by omega⟩
      rcases hh with hh | ⟨rfl, hh⟩
      · exact .inl hh
      · refine .inr ⟨rfl, ?_⟩
        rcases Nat.lt_or_ge a p with c | c
        · exact c
        · have : a = p := by omega
          subst this
          rw [ov_turn he hp, h] at ho; cases ho
    · rw [decide_eq_decide]; omega
theorem asL_dn {W N e p : Nat} {g : Nat → Bool} (he : e < W) (hp : ¬ p < W) (hN : p < N) (h : ov W g e p = false) (t : Nat) (ht : t < N) : asL W N g e (p + 1) t = if t = e then asL W N g e p t ++ [p] else asL W N g e p t := by
  by_cases k : t = e
  · subst k
    rw [if_pos rfl]
    unfold asL asT
    refine ofl_add hN ?_ ?_ (fun a ha hA => ?_) fun a ha hne => ?_
    · simp [he, ov_turn he hp, h]
    · simp [he]
    · simp [he] at hA
      exact hA.2
    · simp only [he, if_true]
      refine and_congr_l fun _ => ?_
      rw [decide_eq_decide]
      have e1 : a < p + 1 ↔ a < p := by omega
      rw [e1]
  · rw [if_neg k]
    unfold asL
    refine ofl_congr fun a ha => and_congr_l fun ho => ?_
    have hk := ov_kind ho
    unfold asT
    split
    · rw [decide_eq_decide]; omega
    · rw [decide_eq_decide]
      refine ⟨fun hh => ?_, fun hh => by omega⟩
      rcases hh with hh | ⟨rfl, hh⟩
      · exact .inl hh
      · refine .inr ⟨rfl, ?_⟩
        rcases Nat.lt_or_ge t p with c | c
        · exact c
        · have : t = p := by omega
          subst this
          rw [h] at ho; cases ho
/-- Rows that grow, one for each thread. -/
structure Rws (w : World) (sb N base : Nat) (F : Nat → Value) (L : Nat → List Nat) : Prop where
  vr : VR w sb 45 N F
  own : ∀ t, t < N → L2.Own w base (F t) (L t).length (lf (L t))
  apt : ∀ s t, s < N → t < N → s ≠ t → Apt (F s) (F t)
  sb : sb < base
  bs : base ≤ w.heap.size
section
variable {w w' : World} {sb N base : Nat} {F : Nat → Value} {L : Nat → List Nat}
theorem Rws.below (h : Rws w sb N base F L) (hb : Below w.heap.size w w') : Rws w' sb N base F L :=
  ⟨h.vr.below hb h.vr.lt, fun t ht => (h.own t ht).below hb, h.apt, h.sb, Nat.le_trans h.bs hb.size⟩
theorem Rws.congr {L' : Nat → List Nat} (h : Rws w sb N base F L) (e : ∀ t, t < N → L t = L' t) : Rws w sb N base F L' :=
  ⟨h.vr, fun t ht => by rw [← e t ht]; exact h.own t ht, h.apt, h.sb, h.bs⟩
theorem Rws.made (w : World) (N : Nat) : Rws (w.alloc (.cells (madeCells #[.slice none 0 0] N) 45)) w.heap.size N (w.heap.size + 1) (fun _ => .slice none 0 0) (fun _ => []) :=
  ⟨VR.made w N _ 45, fun t ht => L2.Own.nil _ _ _, fun s t _ _ _ => Apt.nil _, by omega, by simp⟩
theorem Rws.app (h : Rws w sb N base F L) {t x : Nat} (ht : t < N) {v' : Value} (h1 : L2.Own w' base v' ((L t).length + 1) (lf (L t ++ [x]))) (hb : Below base w w') (hk : ∀ z m g, L2.Own w base z m g → Apt z (F t) → L2.Own w' base z m g ∧ Apt z v') :
    Rws (w'.setCell ⟨sb, t, none⟩ v') sb N base (fun j => if j = t then v' else F j) (fun j => if j = t then L j ++ [x] else L j) := by
  have hk' := fun s (hs : s < N) (hne : s ≠ t) => hk (F s) _ _ (h.own s hs) (h.apt s t hs ht hne)
  refine ⟨(h.vr.below hb h.sb).set_ t v', fun s hs => ?_, fun s r hs hr hne => ?_, h.sb, by simpa using Nat.le_trans h.bs hb.size⟩
  · by_cases e : s = t
    · subst e
      simp only [if_true]
      have := h1.far (p := ⟨sb, s, none⟩) h.sb v'
      rw [List.length_append]
      exact this
    · simp only [if_neg e]
      exact (hk' s hs e).1.far (p := ⟨sb, t, none⟩) h.sb v'
  · by_cases e1 : s = t
    · by_cases e2 : r = t
      · omega
      · simp only [e1, if_true, if_neg e2]
        exact (hk' r hr e2).2.symm
    · by_cases e2 : r = t
      · simp only [e2, if_true, if_neg e1]
        exact (hk' s hs e1).2
      · simp only [if_neg e1, if_neg e2]
        exact h.apt s r hs hr hne
theorem Rws.lls (h : Rws w sb N base F L) : LLs w (some ⟨sb, 0, none⟩) N L := fun _ => ⟨sb, 0, rfl, h.vr.lt, fun i hi => by
  obtain ⟨A, c, e1, e2, e3⟩ := (h.own i hi).out
  have ho := h.own i hi
  rw [e1] at ho
  refine ⟨A, c, by rw [Nat.zero_add, h.vr.cell hi, e1], ⟨e2, ?_⟩, (own_tt ho).ll⟩
  rcases ho with ⟨hl, ⟨hv, hn⟩ | ⟨g, cap, cur, hv, _, _, hcap, _⟩⟩
  · omega
  · cases hv; exact hcap⟩
end
theorem over_nn (W H : Nat) (A : Option Addr) (c : Nat) (g : Nat → Bool) (a b : Nat) (w : World) (hg : Holds w w.heap.size A (W * H) g) (hW0 : 1 ≤ W) (hW : W ≤ 64) (hH0 : 1 ≤ H) (hH : H ≤ 64) (ha : a < W + H) (hb : b < W + H) :
    Calls Try.prog 164 #[.agg #[.int .i64 (W : Nat), .int .i64 (H : Nat), .slice A (W * H) c], .int .i64 (a : Nat), .int .i64 (b : Nat)] w (BRet w (ov W g a b) 0) := by
  have := pover_t W H A c g a b w hg hW0 hW hH0 hH ⟨by omega, by omega⟩ ⟨by omega, by omega⟩
  rwa [Int.toNat_natCast, Int.toNat_natCast] at this
set_option maxHeartbeats 3200000 in
theorem aboves_n (W H N : Nat) (hNN : W + H = N) (A : Option Addr) (c : Nat) (g : Nat → Bool) (w : World) (hg : Holds w w.heap.size A (W * H) g) (hW0 : 1 ≤ W) (hW : W ≤ 64) (hH0 : 1 ≤ H) (hH : H ≤ 64) :
    Calls Try.prog 157 #[.agg #[.int .i64 (W : Nat), .int .i64 (H : Nat), .slice A (W * H) c]] w fun e w' => ∃ k, e = .returned (.slice (some ⟨k, 0, none⟩) N N) ∧ LLs w' (some ⟨k, 0, none⟩) N (LA W N g) ∧ Below w.heap.size w w' := by
  have HOV := Lib.hid (fun u (h : Below w.heap.size w u) a b (ha : a < N) (hb : b < N) => over_nn W H A c g a b u ((hg.below h).more h.size) hW0 hW hH0 hH (by omega) (by omega))
  have hN : N ≤ 128 := by omega
  have hmk := mks_run N (by omega)
  rw [show ((N : Nat) : Int) = (W : Int) + (H : Int) by omega] at hmk
  have X0 := Lib.hid (Box.new w (W : Nat) (H : Nat) (.slice A (W * H) c))
  have LB0 := Lib.hid (show Below w.heap.size w (w.alloc (.cells #[.int .i64 (W : Nat), .int .i64 (H : Nat), (.slice A (W * H) c)] 24)) from (Below.refl _ _).alloc (Nat.le_refl _) _)
  have HNN := Lib.hid hNN
  clear hg
  generalize W * H = M at *
  have hw0 : (w.alloc (.cells #[.int .i64 (W : Nat), .int .i64 (H : Nat), .slice A M c] 24)).heap.size = w.heap.size + 1 := by simp
  have R0 := Rws.made (w.alloc (.cells #[.int .i64 (W : Nat), .int .i64 (H : Nat), .slice A M c] 24)) N
  rw [hw0] at R0
  have R0 := Lib.hid R0
  have X1 := Lib.hid (X0.out.alloc (.cells (madeCells #[.slice none 0 0] N) 45))
  have LB1 := Lib.hid (LB0.out.alloc LB0.out.size (.cells (madeCells #[.slice none 0 0] N) 45))
  clear X0 LB0 hw0
  go_enter Try.func157, Try.ntmps157
  go_wp2
  clear hmk
  obtain ⟨sb, hsbe⟩ : ∃ sb, w.heap.size + 1 = sb := ⟨_, rfl⟩
  have hsb : w.heap.size < sb := by omega
  rw [hsbe] at R0 ⊢
  clear hsbe
  generalize (w.alloc (.cells #[.int .i64 (W : Nat), .int .i64 (H : Nat), .slice A M c] 24)).alloc (.cells (madeCells #[.slice none 0 0] N) 45) = w1 at *
  go_loopw [20] (fun i wr => ∃ (e : Nat) (F : Nat → Value), e ≤ W ∧ i = .int .i64 e ∧ Hid (Rws wr sb N (sb + 1) F (asL W N g e W)) ∧ Hid (Box wr w.heap.size (W : Nat) (H : Nat) (.slice A M c)) ∧ Hid (Below w.heap.size w wr)) (fun i _ => W - (intOf i).toNat)
  case atStart => exact ⟨0, _, Nat.zero_le _, rfl, Lib.hid (R0.out.congr fun t ht => (asL_zero W N g t).symm), X1, LB1⟩
  case round =>
    obtain ⟨e, F, he, rfl, HR, HX, HL⟩ := hrel
    clear R0 X1 LB1
    by_cases he2 : e < W
    · have y1 : (e : Int) < (W : Int) := by omega
      obtain ⟨q0, q1, q2, q3, q4, q5, q6⟩ := HX.out.all
      go_wp2
      clear q0 q1 q2 q3 q4 q5 q6
      go_loopw [6] (fun i wr => ∃ (p : Nat) (F : Nat → Value), W ≤ p ∧ p ≤ N ∧ i = .int .i64 p ∧ Hid (Rws wr sb N (sb + 1) F (asL W N g e p)) ∧ Hid (Box wr w.heap.size (W : Nat) (H : Nat) (.slice A M c)) ∧ Hid (Below w.heap.size w wr)) (fun i _ => N - (intOf i).toNat)
      case atStart => exact ⟨W, _, Nat.le_refl _, by omega, rfl, HR, HX, HL⟩
      case round =>
        obtain ⟨p, F2, hp, hpN, rfl, HR2, HX2, HL2⟩ := hrel
        clear HR HX HL
        by_cases hlt : p < N
        · have y2 : (p : Int) < (W : Int) + (H : Int) := by omega
          have hp2 : ¬ p < W := by omega
          have y3 : (0 : Int) ≤ (p : Int) := by omega
          have y4 : (0 : Int) ≤ (e : Int) := by omega
          have y5 : (p : Int) < (N : Int) := by omega
          have y6 : (e : Int) < (N : Int) := by omega
          have HC := Lib.hid (HOV.out _ HL2.out e p (by omega) hlt)
          obtain ⟨b, hb⟩ : ∃ b, ov W g e p = b := ⟨_, rfl⟩
          rw [hb] at HC
          have HB := Lib.hid hb
          clear hb
          obtain ⟨q0, q1, q2, q3, q4, q5, q6⟩ := HX2.out.all
          go_wp2_with fail
          clear q0 q1 q2 q3 q4 q5 q6
          with_reducible refine Calls.mono HC.out ?_
          rintro e5 w5 ⟨rfl, hbl⟩
          have R5 := Lib.hid (HR2.out.below hbl)
          have X5 := Lib.hid (HX2.out.below hbl HX2.out.lt)
          have L5 := Lib.hid (HL2.out.trans (hbl.mono HL2.out.size))
          clear hbl HR2 HX2 HL2 HC
          cases b
          · have hlw : e < N := by omega
            have E := Lib.hid (fun t (ht : t < N) => asL_dn he2 hp2 hlt HB.out t ht)
            have HO := Lib.hid (own_app (R5.out.own e hlw) p)
            have HY := Lib.hid (lf_last (asL W N g e p e) p)
            have hlen : (asL W N g e p e).length ≤ N := ofl_len _ _
            have HAPP := Lib.hid (fun (v' : Value) (w' : World) h1 h2 h3 => (R5.out.app (x := p) (v' := v') (w' := w') hlw h1 h2 h3).congr (fun t ht => (E.out t ht).symm))
            have c1 := R5.out.vr.cell hlw
            have hbs := R5.out.bs
            have HVR := Lib.hid R5.out.vr
            obtain ⟨A1, d1, hF, _, _⟩ := (R5.out.own e hlw).out
            obtain ⟨n0, hn0⟩ : ∃ x, (asL W N g e p e).length = x := ⟨_, rfl⟩
            rw [hn0] at hF HO HY hlen HAPP
            rw [hF] at c1
            rw [hF] at HO
            have HF := Lib.hid hF
            clear hF hn0 R5 E
            obtain ⟨fx, hfx⟩ : ∃ x, lf (asL W N g e p e ++ [p]) = x := ⟨_, rfl⟩
            rw [hfx] at HO HY HAPP
            clear hfx
            go_wp2_with ((at_builtin; refine app1k _ rfl _ _ (by rfl) (sb + 1) (by rfl) HO.out (p : Int) (by rfl) HY.out (by omega) hbs ?_; intro v' w6 hown6 hb6 hk6; obtain ⟨A6, d6, rfl⟩ := orow_shape hown6; have HR6 := Lib.hid (HAPP.out _ _ hown6 hb6 (by rw [HF.out]; exact hk6)); have HV6 := HVR.out.below hb6 (by omega); have c6 := HV6.cell hlw; have c7 := HV6.free e; have HB6 := Lib.hid hb6; clear hown6 hb6 hk6 HV6))
            have X6 := Lib.hid ((X5.out.below HB6.out (by omega)).far (p := ⟨sb, e, none⟩) (by show w.heap.size ≠ sb; omega) (.slice A6 (n0 + 1) d6))
            have L6 := Lib.hid ((L5.out.trans (HB6.out.mono (by omega))).setCell (p := ⟨sb, e, none⟩) (by show w.heap.size ≤ sb; omega) (.slice A6 (n0 + 1) d6))
            go_roundw
            case rel => exact ⟨p + 1, _, by omega, by omega, by go_num, HR6, X6, L6⟩
            case measure => simp [intOf]; omega
          · have hlw : p < N := by omega
            have E := Lib.hid (fun t (ht : t < N) => asL_up he2 hp2 hlt HB.out t ht)
            have HO := Lib.hid (own_app (R5.out.own p hlw) e)
            have HY := Lib.hid (lf_last (asL W N g e p p) e)
            have hlen : (asL W N g e p p).length ≤ N := ofl_len _ _
            have HAPP := Lib.hid (fun (v' : Value) (w' : World) h1 h2 h3 => (R5.out.app (x := e) (v' := v') (w' := w') hlw h1 h2 h3).congr (fun t ht => (E.out t ht).symm))
            have c1 := R5.out.vr.cell hlw
            have hbs := R5.out.bs
            have HVR := Lib.hid R5.out.vr
            obtain ⟨A1, d1, hF, _, _⟩ := (R5.out.own p hlw).out
            obtain ⟨n0, hn0⟩ : ∃ x, (asL W N g e p p).length = x := ⟨_, rfl⟩
            rw [hn0] at hF HO HY hlen HAPP
            rw [hF] at c1
            rw [hF] at HO
            have HF := Lib.hid hF
            clear hF hn0 R5 E
            obtain ⟨fx, hfx⟩ : ∃ x, lf (asL W N g e p p ++ [e]) = x := ⟨_, rfl⟩
            rw [hfx] at HO HY HAPP
            clear hfx
            go_wp2_with ((at_builtin; refine app1k _ rfl _ _ (by rfl) (sb + 1) (by rfl) HO.out (e : Int) (by rfl) HY.out (by omega) hbs ?_; intro v' w6 hown6 hb6 hk6; obtain ⟨A6, d6, rfl⟩ := orow_shape hown6; have HR6 := Lib.hid (HAPP.out _ _ hown6 hb6 (by rw [HF.out]; exact hk6)); have HV6 := HVR.out.below hb6 (by omega); have c6 := HV6.cell hlw; have c7 := HV6.free p; have HB6 := Lib.hid hb6; clear hown6 hb6 hk6 HV6))
            have X6 := Lib.hid ((X5.out.below HB6.out (by omega)).far (p := ⟨sb, p, none⟩) (by show w.heap.size ≠ sb; omega) (.slice A6 (n0 + 1) d6))
            have L6 := Lib.hid ((L5.out.trans (HB6.out.mono (by omega))).setCell (p := ⟨sb, p, none⟩) (by show w.heap.size ≤ sb; omega) (.slice A6 (n0 + 1) d6))
            go_roundw
            case rel => exact ⟨p + 1, _, by omega, by omega, by go_num, HR6, X6, L6⟩
            case measure => simp [intOf]; omega
        · have hpe : p = N := by omega
          have y2 : ¬ (p : Int) < (W : Int) + (H : Int) := by omega
          have HR3 := Lib.hid (HR2.out.congr (L' := asL W N g (e + 1) W) fun t ht => by rw [hpe]; exact asL_next W N g e t ht)
          clear HR2 hpe
          go_wp2
          go_roundw
          case rel => exact ⟨e + 1, _, by omega, by go_num, HR3, HX2, HL2⟩
          case measure => simp [intOf]; omega
    · have heq : e = W := by omega
      have y1 : ¬ (e : Int) < (W : Int) := by omega
      have HE := Lib.hid (HR.out.congr (L' := LA W N g) fun t ht => by rw [heq]; exact asL_all W N g t)
      clear HR heq
      go_wp2
      go_ret
      exact ⟨sb, rfl, HE.out.lls, HL.out⟩
end Go.Proofs.Ytgmcbdnfgdmmaaa
