/- allHolders, threads, partOf and topPart of the program. -/
import Derived.Test.YtgmcbdnfgdmmaaaLho
namespace Go.Proofs.Ytgmcbdnfgdmmaaa
open Go.RowKit
set_option maxRecDepth 100000
set_option linter.unusedVariables false
set_option linter.unusedSimpArgs false

theorem Try.info22s : (Try.prog.info? 22).map (fun i => (i.zero, i.size, i.bytes)) = some (some (.slice none 0 0), 1, 24) := by kernel_rfl
theorem mkbs_run (N : Nat) (hN : N ≤ 4096) (w : World) :
    (Instr.makeSlice 147 (.int .i64 (N : Nat)) (.int .i64 (N : Nat))).run Try.prog w = .ok (.slice (some ⟨w.heap.size, 0, none⟩) N N) (w.alloc (.cells (madeCells #[.slice none 0 0] N) 22)) :=
  run_make_row' (P := Try.prog) 147 22 (.slice none 0 0) 24 Try.underlying147 Try.info22s rfl .i64 .i64 N (by omega) (by omega) w
/-- A slice of rows of bools. -/
def BBs (w : World) (D : Option Addr) (n : Nat) (U : Nat → Nat → Bool) : Prop :=
  0 < n → ∃ b o, D = some ⟨b, o, none⟩ ∧ b < w.heap.size ∧ ∀ i, i < n → ∃ k, w.cell? ⟨b, o + i, none⟩ = some (.slice (some ⟨k, 0, none⟩) n n) ∧ Row w k n (U i)
theorem BBs.below {w w' : World} {D : Option Addr} {n : Nat} {U : Nat → Nat → Bool} (h : BBs w D n U) (hb : Below w.heap.size w w') : BBs w' D n U := fun hn => by
  obtain ⟨b, o, e, h1, h2⟩ := h hn
  refine ⟨b, o, e, Nat.lt_of_lt_of_le h1 hb.size, fun i hi => ?_⟩
  obtain ⟨k, h3, h4⟩ := h2 i hi
  exact ⟨k, (hb.cell (p := ⟨b, o + i, none⟩) h1).trans h3, h4.below hb h4.lt⟩
/-- The rows so far. -/
def BRows (w : World) (N : Nat) (U : Nat → Nat → Bool) (F : Nat → Value) (k : Nat) : Prop := ∀ t, t < k → ∃ kb, F t = .slice (some ⟨kb, 0, none⟩) N N ∧ Row w kb N (U t)
theorem row_ne {w : World} {sb kb N n : Nat} {t : TypeId} {F : Nat → Value} {f : Nat → Bool} (h : VR w sb t n F) (ht : t ≠ 4) (k : Row w kb N f) : kb ≠ sb := by
  obtain ⟨cs, h1, _⟩ := h
  obtain ⟨cs2, h2, _⟩ := k
  intro e
  rw [e, h1] at h2
  cases h2
  exact ht rfl
set_option maxHeartbeats 1600000 in
theorem allh_n (W H N : Nat) (hNN : W + H = N) (A : Option Addr) (c : Nat) (g : Nat → Bool) (w : World) (hg : Holds w w.heap.size A (W * H) g) (hW0 : 1 ≤ W) (hW : W ≤ 64) (hH0 : 1 ≤ H) (hH : H ≤ 64) :
    Calls Try.prog 137 #[.agg #[.int .i64 (W : Nat), .int .i64 (H : Nat), .slice A (W * H) c]] w fun e w' => ∃ k, e = .returned (.slice (some ⟨k, 0, none⟩) N N) ∧ BBs w' (some ⟨k, 0, none⟩) N (up (ov W g) N) ∧ Below w.heap.size w w' := by
  have HAB := Lib.hid (fun u (h : Below w.heap.size w u) => aboves_n W H N hNN A c g u ((hg.below h).more h.size) hW0 hW hH0 hH)
  have hN : N ≤ 128 := by omega
  have HHO := Lib.hid (fun u D t (hl : LLs u D N (LA W N g)) (ht : t < N) => holders_n (ov W g) N D N (LA W N g) (fun _ _ => rfl) t u hl ht hN)
  have hmk := mkbs_run N (by omega)
  have X0 := Lib.hid (Box.new w (W : Nat) (H : Nat) (.slice A (W * H) c))
  have LB0 := Lib.hid (show Below w.heap.size w (w.alloc (.cells #[.int .i64 (W : Nat), .int .i64 (H : Nat), (.slice A (W * H) c)] 24)) from (Below.refl _ _).alloc (Nat.le_refl _) _)
  clear hg hNN
  generalize W * H = M at *
  go_enter Try.func137, Try.ntmps137
  go_wp2_with fail
  generalize w.alloc (.cells #[.int .i64 (W : Nat), .int .i64 (H : Nat), .slice A M c] 24) = w0 at *
  obtain ⟨q0, q1, q2, q3, q4, q5, q6⟩ := X0.out.all
  go_wp2_with fail
  clear q0 q1 q2 q3 q4 q5 q6 X0
  with_reducible refine Calls.mono (HAB.out _ LB0.out) ?_
  rintro e w2 ⟨ka, rfl, hla, hb⟩
  have LB2 := Lib.hid (LB0.out.trans (hb.mono LB0.out.size))
  have HLA := Lib.hid hla
  clear hb hla LB0 HAB
  have HV0 := Lib.hid (VR.made w2 N (.slice none 0 0) 22)
  have LB3 := Lib.hid (LB2.out.alloc LB2.out.size (.cells (madeCells #[.slice none 0 0] N) 22))
  have HLA3 := Lib.hid (HLA.out.below ((Below.refl w2.heap.size w2).alloc (Nat.le_refl _) (.cells (madeCells #[.slice none 0 0] N) 22)))
  have hsb : w.heap.size ≤ w2.heap.size := LB2.out.size
  have HB2 := Lib.hid ((Below.refl w2.heap.size w2).alloc (Nat.le_refl _) (.cells (madeCells #[.slice none 0 0] N) 22))
  go_wp2
  clear hmk
  obtain ⟨sb, hsbe⟩ : ∃ sb, w2.heap.size = sb := ⟨_, rfl⟩
  have HSB := Lib.hid hsbe
  rw [hsbe] at HV0 hsb HB2 ⊢
  clear hsbe
  generalize w2.alloc (.cells (madeCells #[.slice none 0 0] N) 22) = w3 at *
  go_loopw [13] (fun i wr => ∃ (k : Nat) (F : Nat → Value), k ≤ N ∧ i = .int .i64 k ∧ Hid (VR wr sb 22 N F) ∧ Hid (BRows wr N (up (ov W g) N) F k) ∧ Hid (Below sb w2 wr) ∧ Hid (Below w.heap.size w wr)) (fun i _ => N - (intOf i).toNat)
  case atStart => exact ⟨0, _, Nat.zero_le _, rfl, HV0, Lib.hid (fun t ht => by omega), HB2, LB3⟩
  case round =>
    obtain ⟨k, F, hk, rfl, HV, HS, HB, HL⟩ := hrel
    clear HV0 LB3 HLA3 HB2
    have HLAk := Lib.hid (HLA.out.below (by rw [HSB.out]; exact HB.out))
    by_cases hlt : k < N
    · have y1 : (k : Int) < (N : Int) := by omega
      have y2 : (0 : Int) ≤ (k : Int) := by omega
      have HHOk := Lib.hid (HHO.out wr (some ⟨ka, 0, none⟩) k HLAk.out hlt)
      go_wp2_with fail
      with_reducible refine Calls.mono HHOk.out ?_
      rintro e w5 ⟨E, rfl, hE, htt, hb⟩
      have HV5 := Lib.hid (HV.out.below hb HV.out.lt)
      have HS5 := Lib.hid (show BRows w5 N (up (ov W g) N) F k from fun t ht => by obtain ⟨kb, h1, h2⟩ := HS.out t ht; exact ⟨kb, h1, h2.below hb h2.lt⟩)
      have HB5 := Lib.hid (HB.out.trans (hb.mono (by have := HV.out.lt; omega)))
      have HL5 := Lib.hid (HL.out.trans (hb.mono HL.out.size))
      have HTT := Lib.hid htt
      clear hb htt HV HS HB HL HLAk HHOk hE
      have c1 := HV5.out.cell hlt
      have c2 := HV5.out.free k
      have HV6 := Lib.hid (HV5.out.set_ k (.slice (some ⟨E, 0, none⟩) N N))
      have HS6 := Lib.hid (show BRows (w5.setCell ⟨sb, k, none⟩ (.slice (some ⟨E, 0, none⟩) N N)) N (up (ov W g) N) (fun j => if j = k then .slice (some ⟨E, 0, none⟩) N N else F j) (k + 1) from fun t ht => by
        by_cases e : t = k
        · rw [e]
          exact ⟨E, if_pos rfl, HTT.out.far (p := ⟨sb, k, none⟩) (row_ne HV5.out (by decide) HTT.out) _⟩
        · obtain ⟨kb, h1, h2⟩ := HS5.out t (by omega)
          exact ⟨kb, (by show (if t = k then _ else F t) = _; rw [if_neg e]; exact h1), h2.far (p := ⟨sb, k, none⟩) (row_ne HV5.out (by decide) h2) _⟩)
      have HB6 := Lib.hid (HB5.out.setCell (p := ⟨sb, k, none⟩) (Nat.le_refl _) (.slice (some ⟨E, 0, none⟩) N N))
      have HL6 := Lib.hid (HL5.out.setCell (p := ⟨sb, k, none⟩) (by exact hsb) (.slice (some ⟨E, 0, none⟩) N N))
      clear HV5 HS5 HB5 HL5
      go_wp2
      go_roundw
      case rel => exact ⟨k + 1, _, by omega, by go_num, HV6, HS6, HB6, HL6⟩
      case measure => simp [intOf]; omega
    · have e : k = N := by omega
      have y1 : ¬ (k : Int) < (N : Int) := by omega
      have HSN := HS.out
      rw [e] at HSN
      have HLS := Lib.hid (show BBs wr (some ⟨sb, 0, none⟩) N (up (ov W g) N) from fun _ => ⟨sb, 0, rfl, HV.out.lt, fun i hi => by
        obtain ⟨kb, h1, h2⟩ := HSN i hi
        exact ⟨kb, by rw [Nat.zero_add, HV.out.cell hi, h1], h2⟩⟩)
      clear HSN HS HV e
      go_wp2
      go_ret
      exact ⟨sb, rfl, HLS.out, HL.out⟩
/-- A row has just so many cells. -/
def Szr (w : World) (g N : Nat) : Prop := ∃ cs : Array Value, w.heap[g]? = some (.cells cs 3 (0, 0)) ∧ cs.size = N
theorem Szr.set_ {w : World} {g N : Nat} (h : Szr w g N) (i : Nat) (v : Value) : Szr (w.setCell ⟨g, i, none⟩ v) g N := by
  obtain ⟨cs, h1, h2⟩ := h
  exact ⟨cs.setIfInBounds i v, by simp [World.setCell, Array.getElem?_modify, h1], by simpa using h2⟩
theorem Szr.made (w : World) (N : Nat) (z : Value) : Szr (w.alloc (.cells (madeCells #[z] N) 3)) w.heap.size N :=
  ⟨_, World.alloc_heap_new _ _, size_madeCells _ _⟩
theorem own_row_x {w : World} {k N base : Nat} {f : Nat → Int} (h : L2.Row w k N f) (hz : Szr w k N) (hb : base ≤ k) (hN : N ≤ 4096) : L2.Own w base (.slice (some ⟨k, 0, none⟩) N N) N f := by
  obtain ⟨cs, h1, h2, h3⟩ := h
  obtain ⟨cs2, h4, h5⟩ := hz
  have e : cs2 = cs := by rw [h1] at h4; cases h4; rfl
  subst e
  refine ⟨by rw [L2.news_length, Nat.mul_one], .inr ⟨k, N, cs2, rfl, hb, h1, Nat.le_refl _, by unfold maxLen; omega, by rw [Nat.mul_one]; exact h5, ?_⟩⟩
  rw [Nat.mul_one]
  refine List.ext_getElem? fun i => ?_
  rw [List.getElem?_take]
  split
  · rename_i hi
    rw [Array.getElem?_toList, h3 i hi]
    unfold L2.news
    rw [List.getElem?_map, List.getElem?_range hi]; rfl
  · rename_i hi
    rw [List.getElem?_eq_none (by rw [L2.news_length]; omega)]
set_option maxHeartbeats 800000 in
theorem lthreads_n (W H N : Nat) (hNN : W + H = N) (A : Option Addr) (n c : Nat) (w : World) (hW : W ≤ 64) (hH : H ≤ 64) :
    Calls Try.prog 138 #[.agg #[.int .i64 (W : Nat), .int .i64 (H : Nat), .slice A n c]] w fun e w' => ∃ k, e = .returned (.slice (some ⟨k, 0, none⟩) N N) ∧ w.heap.size ≤ k ∧ L2.Own w' k (.slice (some ⟨k, 0, none⟩) N N) N (lf (List.range N)) ∧ Below w.heap.size w w' := by
  have hN : N ≤ 128 := by omega
  have hmk := mki_run N (by omega)
  rw [show ((N : Nat) : Int) = (W : Int) + (H : Int) by omega] at hmk
  have LB0 := Lib.hid (show Below w.heap.size w (w.alloc (.cells #[.int .i64 (W : Nat), .int .i64 (H : Nat), (.slice A n c)] 24)) from (Below.refl _ _).alloc (Nat.le_refl _) _)
  have hw0 : (w.alloc (.cells #[.int .i64 (W : Nat), .int .i64 (H : Nat), .slice A n c] 24)).heap.size = w.heap.size + 1 := by simp
  have R0 := VR.made (w.alloc (.cells #[.int .i64 (W : Nat), .int .i64 (H : Nat), .slice A n c] 24)) N (.int .i64 0) 3
  rw [hw0] at R0
  have R0 := Lib.hid R0
  have Z0 := Szr.made (w.alloc (.cells #[.int .i64 (W : Nat), .int .i64 (H : Nat), .slice A n c] 24)) N (.int .i64 0)
  rw [hw0] at Z0
  have Z0 := Lib.hid Z0
  have LB1 := Lib.hid (LB0.out.alloc LB0.out.size (.cells (madeCells #[.int .i64 0] N) 3))
  clear LB0 hw0
  go_enter Try.func138, Try.ntmps138
  go_wp2
  clear hmk
  obtain ⟨sb, hsbe⟩ : ∃ sb, w.heap.size + 1 = sb := ⟨_, rfl⟩
  have hsb : w.heap.size < sb := by omega
  rw [hsbe] at R0 Z0 ⊢
  clear hsbe
  generalize (w.alloc (.cells #[.int .i64 (W : Nat), .int .i64 (H : Nat), .slice A n c] 24)).alloc (.cells (madeCells #[.int .i64 0] N) 3) = w1 at *
  go_loopw [13] (fun i wr => ∃ k : Nat, k ≤ N ∧ i = .int .i64 k ∧ Hid (L2.Row wr sb N (fun j => if j < k then (j : Nat) else 0)) ∧ Hid (Szr wr sb N) ∧ Hid (Below w.heap.size w wr)) (fun i _ => N - (intOf i).toNat)
  case atStart => exact ⟨0, Nat.zero_le _, rfl, Lib.hid (by obtain ⟨cs, a1, a2, a3⟩ := R0.out; exact ⟨cs, a1, a2, fun i hi => by rw [a3 i hi]; rfl⟩), Z0, LB1⟩
  case round =>
    obtain ⟨k, hk, rfl, HW, HZ, HL⟩ := hrel
    clear R0 LB1 Z0
    by_cases hlt : k < N
    · have y1 : (k : Int) < (N : Int) := by omega
      have y2 : (0 : Int) ≤ (k : Int) := by omega
      have c1 := HW.out.cell hlt
      have c2 := HW.out.free k
      have HW1 := Lib.hid ((HW.out.set_ k (k : Nat)).congr (f' := fun j => if j < k + 1 then (j : Nat) else 0) fun j _ => by
        show (if j = k then ((k : Nat) : Int) else if j < k then (j : Nat) else 0) = _
        by_cases e : j = k
        · rw [if_pos e, if_pos (by omega), e]
        · rw [if_neg e]
          by_cases e2 : j < k
          · rw [if_pos e2, if_pos (by omega)]
          · rw [if_neg e2, if_neg (by omega)])
      have HL1 := Lib.hid (HL.out.setCell (p := ⟨sb, k, none⟩) (by show w.heap.size ≤ sb; omega) (.int .i64 (k : Nat)))
      have HZ1 := Lib.hid (HZ.out.set_ k (.int .i64 (k : Nat)))
      clear HW HL HZ
      go_wp2
      go_roundw
      case rel => exact ⟨k + 1, by omega, by go_num, HW1, HZ1, HL1⟩
      case measure => simp [intOf]; omega
    · have e : k = N := by omega
      have y1 : ¬ (k : Int) < (N : Int) := by omega
      have E := Lib.hid (HW.out.congr (f' := lf (List.range N)) fun i hi => by
        show (if i < k then ((i : Nat) : Int) else 0) = (((List.range N).getD i 0 : Nat) : Int)
        rw [if_pos (by omega), List.getD_eq_getElem?_getD, List.getElem?_range hi]; rfl)
      clear e HW
      go_wp2
      go_ret
      exact ⟨sb, rfl, by omega, own_row_x E.out HZ.out (Nat.le_refl _) (by omega), HL.out⟩
end Go.Proofs.Ytgmcbdnfgdmmaaa
