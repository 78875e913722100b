/- Merged: Lla Lsm Lly. -/
import Derived.Test.YtgmcbdnfgdmmaaaLpp

/- The columns and rows of some threads: layer of the program. -/
namespace Go.Proofs.Ytgmcbdnfgdmmaaa
open Go.RowKit
set_option maxRecDepth 100000
set_option linter.unusedVariables false
set_option linter.unusedSimpArgs false

/-- The ends among some threads, and the rows of the picks. -/
def lEn (W : Nat) (l : List Nat) : List Nat := l.filter fun t => decide (t < W)
def lPi (W : Nat) (l : List Nat) : List Nat := (l.filter fun t => !decide (t < W)).map fun t => t - W
theorem len_take {W : Nat} {l : List Nat} {k : Nat} (hk : k < l.length) : (l.getD k 0 < W → lEn W (l.take (k + 1)) = lEn W (l.take k) ++ [l.getD k 0] ∧ lPi W (l.take (k + 1)) = lPi W (l.take k)) ∧ (¬ l.getD k 0 < W → lEn W (l.take (k + 1)) = lEn W (l.take k) ∧ lPi W (l.take (k + 1)) = lPi W (l.take k) ++ [l.getD k 0 - W]) := by
  unfold lEn lPi
  constructor
  · intro h
    have h1 := fil_step (P := fun t => decide (t < W)) hk true (decide_eq_true h)
    have h2 := fil_step (P := fun t => !decide (t < W)) hk false (by show (!decide (l.getD k 0 < W)) = false; rw [decide_eq_true h]; rfl)
    rw [h1, h2]
    simp
  · intro h
    have h1 := fil_step (P := fun t => decide (t < W)) hk false (decide_eq_false h)
    have h2 := fil_step (P := fun t => !decide (t < W)) hk true (by show (!decide (l.getD k 0 < W)) = true; rw [decide_eq_false h]; rfl)
    rw [h1, h2]
    simp
theorem lEn_len (W : Nat) (l : List Nat) : (lEn W l).length ≤ l.length := List.length_filter_le _ _
theorem lPi_len (W : Nat) (l : List Nat) : (lPi W l).length ≤ l.length := by unfold lPi; rw [List.length_map]; exact List.length_filter_le _ _
/-- Two lists that grow in a variable of the type Layer. -/
structure Ly (w : World) (lb base : Nat) (v1 v2 : Value) (l1 l2 : List Nat) : Prop where
  cell : w.heap[lb]? = some (.cells #[v1, v2] 79 (0, 0))
  o1 : L2.Own w base v1 l1.length (lf l1)
  o2 : L2.Own w base v2 l2.length (lf l2)
  ap : Apt v1 v2
  lb : lb < base
  bs : base ≤ w.heap.size
theorem setCell_lb {w : World} {lb i : Nat} {v1 v2 v : Value} (h : w.heap[lb]? = some (.cells #[v1, v2] 79 (0, 0))) : (w.setCell ⟨lb, i, none⟩ v).heap[lb]? = some (.cells ((#[v1, v2] : Array Value).setIfInBounds i v) 79 (0, 0)) := by
  simp [World.setCell, Array.getElem?_modify, h]
section
variable {w w' : World} {lb base : Nat} {v1 v2 v' : Value} {l1 l2 : List Nat} {x : Nat}
theorem Ly.below (h : Ly w lb base v1 v2 l1 l2) (hb : Below w.heap.size w w') : Ly w' lb base v1 v2 l1 l2 :=
  ⟨(hb.block lb (Nat.lt_of_lt_of_le h.lb h.bs)).trans h.cell, h.o1.below hb, h.o2.below hb, h.ap, h.lb, Nat.le_trans h.bs hb.size⟩
theorem Ly.cells (h : Ly w lb base v1 v2 l1 l2) : w.cell? ⟨lb, 0, none⟩ = some v1 ∧ w.cell? ⟨lb, 1, none⟩ = some v2 ∧ w.frozen? ⟨lb, 0, none⟩ = false ∧ w.frozen? ⟨lb, 1, none⟩ = false :=
  ⟨by rw [Lib.cell_of_heap h.cell]; rfl, by rw [Lib.cell_of_heap h.cell]; rfl, Lib.frozen_of_heap h.cell 0, Lib.frozen_of_heap h.cell 1⟩
theorem Ly.start (w : World) : Ly (w.alloc (.cells #[.slice none 0 0, .slice none 0 0] 79)) w.heap.size (w.heap.size + 1) (.slice none 0 0) (.slice none 0 0) [] [] :=
  ⟨World.alloc_heap_new _ _, L2.Own.nil _ _ _, L2.Own.nil _ _ _, Apt.nil _, by omega, by simp⟩
theorem Ly.far (h : Ly w lb base v1 v2 l1 l2) {p : Addr} (h1 : p.block ≠ lb) (h2 : p.block < base) (u : Value) : Ly (w.setCell p u) lb base v1 v2 l1 l2 :=
  ⟨(Below.heap_setCell w p u lb (fun e => h1 e.symm)).trans h.cell, h.o1.far h2 u, h.o2.far h2 u, h.ap, h.lb, by simpa using h.bs⟩
/-- Behind the append to the one, before the store. -/
theorem Ly.mid (h : Ly w lb base v1 v2 l1 l2) (hb : Below base w w') : w'.heap[lb]? = some (.cells #[v1, v2] 79 (0, 0)) := (hb.block lb h.lb).trans h.cell
theorem Ly.app1 (h : Ly w lb base v1 v2 l1 l2) (h1 : L2.Own w' base v' (l1.length + 1) (lf (l1 ++ [x]))) (hb : Below base w w') (hk : ∀ z m g, L2.Own w base z m g → Apt z v1 → L2.Own w' base z m g ∧ Apt z v') : Ly (w'.setCell ⟨lb, 0, none⟩ v') lb base v' v2 (l1 ++ [x]) l2 := by
  have h2 := hk _ _ _ h.o2 h.ap.symm
  refine ⟨setCell_lb (h.mid hb), ?_, h2.1.far (p := ⟨lb, 0, none⟩) h.lb _, h2.2.symm, h.lb, by simpa using Nat.le_trans h.bs hb.size⟩
  rw [List.length_append]
  exact h1.far (p := ⟨lb, 0, none⟩) h.lb _
theorem Ly.app2 (h : Ly w lb base v1 v2 l1 l2) (h1 : L2.Own w' base v' (l2.length + 1) (lf (l2 ++ [x]))) (hb : Below base w w') (hk : ∀ z m g, L2.Own w base z m g → Apt z v2 → L2.Own w' base z m g ∧ Apt z v') : Ly (w'.setCell ⟨lb, 1, none⟩ v') lb base v1 v' l1 (l2 ++ [x]) := by
  have h2 := hk _ _ _ h.o1 h.ap
  refine ⟨setCell_lb (h.mid hb), h2.1.far (p := ⟨lb, 1, none⟩) h.lb _, ?_, h2.2, h.lb, by simpa using Nat.le_trans h.bs hb.size⟩
  rw [List.length_append]
  exact h1.far (p := ⟨lb, 1, none⟩) h.lb _
end
/-- A layer came back. -/
def LyR (w : World) (l1 l2 : List Nat) (e : Ending) (w' : World) : Prop :=
  ∃ D1 c1 D2 c2, e = .returned (.agg #[.slice D1 l1.length c1, .slice D2 l2.length c2]) ∧ (Cp D1 l1.length c1 ∧ TT w' D1 l1) ∧ (Cp D2 l2.length c2 ∧ TT w' D2 l2) ∧ Below w.heap.size w w'
theorem Ly.out {w0 w : World} {lb base : Nat} {v1 v2 : Value} {l1 l2 : List Nat} (h : Ly w lb base v1 v2 l1 l2) (hb : Below w0.heap.size w0 w) : LyR w0 l1 l2 (.returned (.agg #[v1, v2])) w := by
  obtain ⟨A1, c1, e1, _, _⟩ := h.o1.out
  obtain ⟨A2, c2, e2, _, _⟩ := h.o2.out
  have o1 := h.o1
  have o2 := h.o2
  subst e1 e2
  exact ⟨A1, c1, A2, c2, rfl, ⟨own_cp o1, own_tt o1⟩, ⟨own_cp o2, own_tt o2⟩, hb⟩
set_option maxHeartbeats 1600000 in
theorem layer_n (W H : Nat) (A : Option Addr) (M c : Nat) (l : List Nat) (D : Option Addr) (d : Nat) (w : World) (hl : LL w D l) (hn : l.length ≤ 128) (hlN : ∀ b, b ∈ l → b < 128) :
    Calls Try.prog 104 #[.agg #[.int .i64 (W : Nat), .int .i64 (H : Nat), .slice A M c], .slice D l.length d] w (LyR w (lEn W l) (lPi W l)) := by
  have HL := Lib.hid hl
  have HLM := Lib.hid (fun k (h : k < l.length) => hlN _ (mem_getD h))
  have HT := Lib.hid (fun k (h : k < l.length) => len_take (W := W) (l := l) (k := k) h)
  clear hl hlN
  obtain ⟨n, hnl⟩ : ∃ n, l.length = n := ⟨_, rfl⟩
  have HNL := Lib.hid hnl
  rw [hnl] at hn HLM HT ⊢
  clear hnl
  have X0 := Lib.hid (Box.new w (W : Nat) (H : Nat) (.slice A M c))
  have LB0 := Lib.hid (show Below w.heap.size w (w.alloc (.cells #[.int .i64 (W : Nat), .int .i64 (H : Nat), (.slice A M c)] 24)) from (Below.refl _ _).alloc (Nat.le_refl _) _)
  have X1 := Lib.hid (X0.out.alloc (.cells #[.slice none 0 0, .slice none 0 0] 79))
  have LB1 := Lib.hid (LB0.out.alloc LB0.out.size (.cells #[.slice none 0 0, .slice none 0 0] 79))
  have X2 := Lib.hid (X1.out.alloc (.cells #[.slice none 0 0, .slice none 0 0] 79))
  have LB2 := Lib.hid (LB1.out.alloc LB1.out.size (.cells #[.slice none 0 0, .slice none 0 0] 79))
  have L0 := Ly.start ((w.alloc (.cells #[.int .i64 (W : Nat), .int .i64 (H : Nat), (.slice A M c)] 24)).alloc (.cells #[.slice none 0 0, .slice none 0 0] 79))
  rw [show ((w.alloc (.cells #[.int .i64 (W : Nat), .int .i64 (H : Nat), (.slice A M c)] 24)).alloc (.cells #[.slice none 0 0, .slice none 0 0] 79)).heap.size = w.heap.size + 2 by simp] at L0
  have L0 := Lib.hid L0
  have hr0 : (((w.alloc (.cells #[.int .i64 (W : Nat), .int .i64 (H : Nat), (.slice A M c)] 24)).alloc (.cells #[.slice none 0 0, .slice none 0 0] 79)).alloc (.cells #[.slice none 0 0, .slice none 0 0] 79)).heap[w.heap.size + 1]? = some (.cells #[.slice none 0 0, .slice none 0 0] 79 (0, 0)) := by
    rw [Below.heap_alloc _ _ _ (by simp)]
    have := World.alloc_heap_new (w.alloc (.cells #[.int .i64 (W : Nat), .int .i64 (H : Nat), (.slice A M c)] 24)) (.cells #[.slice none 0 0, .slice none 0 0] 79)
    rw [World.size_alloc] at this
    exact this
  have HR0 := Lib.hid hr0
  clear X0 LB0 X1 LB1 hr0
  go_enter Try.func104, Try.ntmps104
  go_wp2
  obtain ⟨lb, hlb⟩ : ∃ lb, w.heap.size + 2 = lb := ⟨_, rfl⟩
  obtain ⟨rb, hrb⟩ : ∃ rb, w.heap.size + 1 = rb := ⟨_, rfl⟩
  have hlw : w.heap.size < rb ∧ rb < lb := by omega
  rw [hlb] at L0 ⊢
  rw [hrb] at HR0 ⊢
  clear hlb hrb
  generalize ((w.alloc (.cells #[.int .i64 (W : Nat), .int .i64 (H : Nat), (.slice A M c)] 24)).alloc (.cells #[.slice none 0 0, .slice none 0 0] 79)).alloc (.cells #[.slice none 0 0, .slice none 0 0] 79) = w0 at *
  go_loopw [10] (fun i wr => ∃ (k : Nat) (v1 v2 : Value), k ≤ n ∧ i = .int .i64 k ∧ Hid (Ly wr lb (lb + 1) v1 v2 (lEn W (l.take k)) (lPi W (l.take k))) ∧ Hid (Box wr w.heap.size (W : Nat) (H : Nat) (.slice A M c)) ∧ Hid (Below lb w0 wr) ∧ Hid (Below w.heap.size w wr)) (fun i _ => n - (intOf i).toNat)
  case atStart => exact ⟨0, _, _, Nat.zero_le _, rfl, L0, X2, Lib.hid (Below.refl _ _), LB2⟩
  case round =>
    obtain ⟨k, v1, v2, hk, rfl, HY, HX, HB, HW⟩ := hrel
    clear L0 X2 LB2
    by_cases hlt : k < n
    · have y1 : (k : Int) < (n : Int) := by omega
      have y2 : (0 : Int) ≤ (k : Int) := by omega
      obtain ⟨bl, ol, rfl, hbl, hcl⟩ := (HL.out.below HW.out) (by rw [HNL.out]; omega)
      have c0 := hcl k (by rw [HNL.out]; exact hlt)
      clear hcl hbl
      have hxN := HLM.out k hlt
      have HTk := HT.out k hlt
      have hlx : lf l k = ((l.getD k 0 : Nat) : Int) := rfl
      rw [hlx] at c0
      obtain ⟨x, hx⟩ : ∃ x, l.getD k 0 = x := ⟨_, rfl⟩
      rw [hx] at c0 hxN HTk
      clear hx hlx
      obtain ⟨q0, q1, q2, q3, q4, q5, q6⟩ := HX.out.all
      obtain ⟨m0, m1, m2, m3⟩ := HY.out.cells
      have hbs := HY.out.bs
      have hl1 := Nat.le_trans (lEn_len W (l.take k)) (List.length_take_le k l)
      have hl2 := Nat.le_trans (lPi_len W (l.take k)) (List.length_take_le k l)
      by_cases hxW : x < W
      · obtain ⟨e1, e2⟩ := HTk.1 hxW
        have d1 : (x : Int) < (W : Int) := by omega
        have HO := Lib.hid (own_app HY.out.o1 x)
        have HQ := Lib.hid (lf_last (lEn W (l.take k)) x)
        have HAPP := Lib.hid (fun (v' : Value) (w' : World) h1 h2 h3 => HY.out.app1 (x := x) (v' := v') (w' := w') h1 h2 h3)
        have HMID := Lib.hid (fun (w' : World) (hb : Below (lb + 1) wr w') => (show w'.cell? ⟨lb, 0, none⟩ = some v1 ∧ w'.frozen? ⟨lb, 0, none⟩ = false from ⟨by rw [Lib.cell_of_heap (HY.out.mid hb)]; rfl, Lib.frozen_of_heap (HY.out.mid hb) 0⟩))
        have E1 := Lib.hid e1
        have E2 := Lib.hid e2
        rw [← E1.out, ← E2.out] at HAPP
        rw [← E1.out] at HO HQ
        obtain ⟨n0, hn0⟩ : ∃ y, (lEn W (l.take k)).length = y := ⟨_, rfl⟩
        rw [hn0] at HO HQ HAPP hl1
        clear e1 e2 HTk hn0 hxW
        obtain ⟨f, hf⟩ : ∃ f, lf (lEn W (l.take (k + 1))) = f := ⟨_, rfl⟩
        rw [hf] at HO HQ HAPP
        clear hf
        go_wp2_with (at_builtin; refine app1k _ rfl _ _ (by rfl) (lb + 1) (by rfl) HO.out (x : Int) (by rfl) HQ.out (by omega) hbs ?_; intro v' w6 hown6 hb6 hk6; obtain ⟨A6, d6, rfl⟩ := orow_shape hown6; have HY6 := Lib.hid (HAPP.out _ _ hown6 hb6 hk6); obtain ⟨m4, m5⟩ := HMID.out w6 hb6; have HB6 := Lib.hid hb6; clear hown6 hb6 hk6)
        have X6 := Lib.hid ((HX.out.below HB6.out (by omega)).far (p := ⟨lb, 0, none⟩) (by show w.heap.size ≠ lb; omega) (.slice A6 (n0 + 1) d6))
        have B6 := Lib.hid ((HB.out.trans (HB6.out.mono (by omega))).setCell (p := ⟨lb, 0, none⟩) (by show lb ≤ lb; omega) (.slice A6 (n0 + 1) d6))
        have L6 := Lib.hid ((HW.out.trans (HB6.out.mono (by omega))).setCell (p := ⟨lb, 0, none⟩) (by show w.heap.size ≤ lb; omega) (.slice A6 (n0 + 1) d6))
        go_roundw
        case rel => exact ⟨k + 1, _, _, by omega, by go_num, HY6, X6, B6, L6⟩
        case measure => simp [intOf]; omega
      · obtain ⟨e1, e2⟩ := HTk.2 hxW
        have d1 : ¬ (x : Int) < (W : Int) := by omega
        have d2 : IntKind.i64.wrap ((x : Int) - (W : Int)) = ((x - W : Nat) : Int) := by rw [IntWalk.i64_in _ (by omega)]; omega
        obtain ⟨z, hz⟩ : ∃ z, x - W = z := ⟨_, rfl⟩
        rw [hz] at d2 e2
        have HO := Lib.hid (own_app HY.out.o2 z)
        have HQ := Lib.hid (lf_last (lPi W (l.take k)) z)
        have HAPP := Lib.hid (fun (v' : Value) (w' : World) h1 h2 h3 => HY.out.app2 (x := z) (v' := v') (w' := w') h1 h2 h3)
        have HMID := Lib.hid (fun (w' : World) (hb : Below (lb + 1) wr w') => (show w'.cell? ⟨lb, 1, none⟩ = some v2 ∧ w'.frozen? ⟨lb, 1, none⟩ = false from ⟨by rw [Lib.cell_of_heap (HY.out.mid hb)]; rfl, Lib.frozen_of_heap (HY.out.mid hb) 1⟩))
        have E1 := Lib.hid e1
        have E2 := Lib.hid e2
        rw [← E1.out, ← E2.out] at HAPP
        rw [← E2.out] at HO HQ
        obtain ⟨n0, hn0⟩ : ∃ y, (lPi W (l.take k)).length = y := ⟨_, rfl⟩
        rw [hn0] at HO HQ HAPP hl2
        clear e1 e2 HTk hn0 hz hxW
        obtain ⟨f, hf⟩ : ∃ f, lf (lPi W (l.take (k + 1))) = f := ⟨_, rfl⟩
        rw [hf] at HO HQ HAPP
        clear hf
        go_wp2_with (at_builtin; refine app1k _ rfl _ _ (by rfl) (lb + 1) (by rfl) HO.out (z : Int) (by rfl) HQ.out (by omega) hbs ?_; intro v' w6 hown6 hb6 hk6; obtain ⟨A6, d6, rfl⟩ := orow_shape hown6; have HY6 := Lib.hid (HAPP.out _ _ hown6 hb6 hk6); obtain ⟨m4, m5⟩ := HMID.out w6 hb6; have HB6 := Lib.hid hb6; clear hown6 hb6 hk6)
        have X6 := Lib.hid ((HX.out.below HB6.out (by omega)).far (p := ⟨lb, 1, none⟩) (by show w.heap.size ≠ lb; omega) (.slice A6 (n0 + 1) d6))
        have B6 := Lib.hid ((HB.out.trans (HB6.out.mono (by omega))).setCell (p := ⟨lb, 1, none⟩) (by show lb ≤ lb; omega) (.slice A6 (n0 + 1) d6))
        have L6 := Lib.hid ((HW.out.trans (HB6.out.mono (by omega))).setCell (p := ⟨lb, 1, none⟩) (by show w.heap.size ≤ lb; omega) (.slice A6 (n0 + 1) d6))
        go_roundw
        case rel => exact ⟨k + 1, _, _, by omega, by go_num, HY6, X6, B6, L6⟩
        case measure => simp [intOf]; omega
    · have e : k = n := by omega
      have y1 : ¬ (k : Int) < (n : Int) := by omega
      rw [show l.take k = l from List.take_of_length_le (by rw [HNL.out]; omega)] at HY
      have HR := (HB.out.block rb (by omega)).trans HR0.out
      have c1 : wr.cell? ⟨rb, 0, none⟩ = some (.slice none 0 0) := by rw [Lib.cell_of_heap HR]; rfl
      have c2 : wr.cell? ⟨rb, 1, none⟩ = some (.slice none 0 0) := by rw [Lib.cell_of_heap HR]; rfl
      have c3 := Lib.frozen_of_heap HR 0
      have c4 := Lib.frozen_of_heap HR 1
      obtain ⟨m0, m1, m2, m3⟩ := HY.out.cells
      have HYF := Lib.hid (((HY.out.far (p := ⟨rb, 0, none⟩) (by show rb ≠ lb; omega) (by show rb < lb + 1; omega) v1).far (p := ⟨rb, 1, none⟩) (by show rb ≠ lb; omega) (by show rb < lb + 1; omega) v2).out ((HW.out.setCell (p := ⟨rb, 0, none⟩) (by show _ ≤ rb; omega) v1).setCell (p := ⟨rb, 1, none⟩) (by show _ ≤ rb; omega) v2))
      obtain ⟨A1, d1, rfl⟩ := orow_shape HY.out.o1
      obtain ⟨A2, d2, rfl⟩ := orow_shape HY.out.o2
      have hrlt : rb < wr.heap.size := (Array.getElem?_eq_some_iff.1 HR).1
      clear e HR HY
      generalize (lEn W l).length = n1 at *
      generalize (lPi W l).length = n2 at *
      go_wp2
      refine bodyPost_ret (v := .agg #[.slice A1 n1 d1, .slice A2 n2 d2]) (by simp [results, Try.results104, go_sem, m0, m1, m2, m3, c1, c2, c3, c4]) rfl ?_
      exact HYF.out
end Go.Proofs.Ytgmcbdnfgdmmaaa

/- The reference's comparison of lists, of parts and of layers. -/
namespace Go.Proofs.Ytgmcbdnfgdmmaaa.L2
open Go.RowKit
set_option maxRecDepth 100000
set_option linter.unusedVariables false
set_option linter.unusedSimpArgs false

end Go.Proofs.Ytgmcbdnfgdmmaaa.L2
namespace Go.Proofs.Ytgmcbdnfgdmmaaa
open Go.RowKit
set_option maxRecDepth 100000
set_option linter.unusedVariables false
set_option linter.unusedSimpArgs false

/-- A slice of layers. -/
def LYs (w : World) (D : Option Addr) (n : Nat) (E P : Nat → List Nat) : Prop :=
  0 < n → ∃ b o, D = some ⟨b, o, none⟩ ∧ b < w.heap.size ∧ ∀ i, i < n → ∃ D1 c1 D2 c2, w.cell? ⟨b, o + i * 2, none⟩ = some (.slice D1 (E i).length c1) ∧ w.cell? ⟨b, o + i * 2 + 1, none⟩ = some (.slice D2 (P i).length c2) ∧ LL w D1 (E i) ∧ LL w D2 (P i)
theorem LYs.below {w w' : World} {D : Option Addr} {n : Nat} {E P : Nat → List Nat} (h : LYs w D n E P) (hb : Below w.heap.size w w') : LYs w' D n E P := fun hn => by
  obtain ⟨b, o, e, h1, h2⟩ := h hn
  refine ⟨b, o, e, Nat.lt_of_lt_of_le h1 hb.size, fun i hi => ?_⟩
  obtain ⟨D1, c1, D2, c2, h3, h4, h5, h6⟩ := h2 i hi
  exact ⟨D1, c1, D2, c2, (hb.cell (p := ⟨b, o + i * 2, none⟩) h1).trans h3, (hb.cell (p := ⟨b, o + i * 2 + 1, none⟩) h1).trans h4, h5.below hb, h6.below hb⟩
end Go.Proofs.Ytgmcbdnfgdmmaaa

/- Layers of the program. -/
namespace Go.Proofs.Ytgmcbdnfgdmmaaa
open Go.RowKit
set_option maxRecDepth 100000
set_option linter.unusedVariables false
set_option linter.unusedSimpArgs false

theorem Try.info92 : (Try.prog.info? 79).map (fun i => (i.zero, i.size, i.bytes)) = some (some (.agg #[.slice none 0 0, .slice none 0 0]), 2, 48) := by kernel_rfl
/-- 'append(s, y)' onto a slice of layers. -/
theorem ly_app {ops : Array Oper} {rest : List Oper} {o : Oper} {a : Act} {Q : Exit → Act → World → Prop} (w : World) (hgd : o.guard = none) (s x : Operand)
    (ho : o.op = .call { callee := .builtin .append, args := #[s, x], argTypes := #[74, 74] }) (base : Nat) {v : Value} {n : Nat} {xs : List Value} (hs : a.eval s = v) (hown : w.ownsRow base 79 2 v n xs)
    (D1 : Option Addr) (m1 c1 : Nat) (D2 : Option Addr) (m2 c2 : Nat) (hx : a.eval x = .slice (some ⟨w.heap.size, 0, none⟩) 1 1) (hn : n ≤ 100000) (hb : base ≤ w.heap.size)
    (h : ∀ v' w', w'.ownsRow base 79 2 v' (n + 1) (xs ++ [.slice D1 m1 c1, .slice D2 m2 c2]) → (w.alloc (.cells #[.slice D1 m1 c1, .slice D2 m2 c2] 79)).grownBy w' v.ownBlock → wpList Try.prog ops Q rest (a.put o.dst v') w') :
    wpList Try.prog ops Q (o :: rest) a (w.alloc (.cells #[.slice D1 m1 c1, .slice D2 m2 c2] 79)) := by
  obtain ⟨i0, hi, hz0, hz1, hz2⟩ := info_parts Try.info92
  refine wpList_append_own _ hgd s x 74 ho base 79 i0 (.agg #[.slice none 0 0, .slice none 0 0]) 2 48 Try.underlying74 hi hz0 hz1 hz2 rfl (by decide) v n xs hs (orow_keep hown fun k _ hk => Below.heap_alloc w _ k (orow_block hown hk).2.1) ⟨w.heap.size, 0, none⟩ 1 1 [.slice D1 m1 c1, .slice D2 m2 c2] hx (by simp) ?_ (by intro u hu; simp at hu; rcases hu with rfl | rfl <;> rfl)
    (by unfold maxLen; omega) (by omega) (by simp; omega) ?_
  · intro j u hu
    match j, hu with
    | 0, hu => (simp at hu; subst hu; simp [Addr.add])
    | 1, hu => (simp at hu; subst hu; simp [Addr.add])
  · intro v' w' h1 h2 _
    exact h v' w' h1 h2
/-- An element of a slice of layers. -/
def LyE (w : World) (xs : List Value) (j : Nat) (l1 l2 : List Nat) : Prop := ∃ D1 c1 D2 c2, xs[j * 2]? = some (.slice D1 l1.length c1) ∧ xs[j * 2 + 1]? = some (.slice D2 l2.length c2) ∧ TT w D1 l1 ∧ TT w D2 l2
theorem LyE.keep {w w' : World} {xs ys : List Value} {j : Nat} {l1 l2 : List Nat} (h : LyE w xs j l1 l2) (hb : ∀ (b : Nat) (cs : Array Value), w.heap[b]? = some (Obj.cells cs 3 (0, 0)) → w'.heap[b]? = w.heap[b]?) : LyE w' (xs ++ ys) j l1 l2 := by
  obtain ⟨D1, c1, D2, c2, h1, h2, h3, h4⟩ := h
  exact ⟨D1, c1, D2, c2, by rw [List.getElem?_append_left (by exact (List.getElem?_eq_some_iff.1 h1).1)]; exact h1, by rw [List.getElem?_append_left (by exact (List.getElem?_eq_some_iff.1 h2).1)]; exact h2, h3.keep hb, h4.keep hb⟩
/-- The parts that are layers. -/
def bigP (R : Nat → Nat → Bool) (N i : Nat) : Bool := decide (1 < (prt R N i).length)
def lix (R : Nat → Nat → Bool) (N : Nat) : List Nat := ofl (bigP R N) (pno R N)
def lyE (R : Nat → Nat → Bool) (W N j : Nat) : List Nat := lEn W (prt R N ((lix R N).getD j 0))
def lyP (R : Nat → Nat → Bool) (W N j : Nat) : List Nat := lPi W (prt R N ((lix R N).getD j 0))
/-- Layers and an error came back. -/
def LsR (w : World) (E P : Nat → List Nat) (m : Nat) (z : Int) (e : Ending) (w' : World) : Prop :=
  ∃ D c, e = .returned (.tuple #[.slice D m c, .int .i64 z]) ∧ LYs w' D m E P ∧ Below w.heap.size w w'
theorem lys_of {w : World} {base n : Nat} {v : Value} {xs : List Value} {E P : Nat → List Nat} (h : w.ownsRow base 79 2 v n xs) (he : ∀ i, i < n → LyE w xs i (E i) (P i)) : ∃ D c, v = .slice D n c ∧ LYs w D n E P := by
  rcases h with ⟨hl, ⟨hv, hn⟩ | ⟨g, cap, cur, hv, hg, hc, hcap, hm, hsz, ht⟩⟩
  · subst hv hn
    exact ⟨none, 0, rfl, fun h => by omega⟩
  · subst hv
    refine ⟨some ⟨g, 0, none⟩, cap, rfl, fun h0 => ⟨g, 0, rfl, (Array.getElem?_eq_some_iff.1 hc).1, fun i hi => ?_⟩⟩
    obtain ⟨D1, c1, D2, c2, h1, h2, h3, h4⟩ := he i hi
    have hget : ∀ j u, xs[j]? = some u → cur[j]? = some u := fun j u hu => by
      rw [← ht, List.getElem?_take] at hu
      split at hu
      · simpa using hu
      · cases hu
    refine ⟨D1, c1, D2, c2, ?_, ?_, h3.ll, h4.ll⟩
    · rw [Lib.cell_of_heap hc, Nat.zero_add]; exact hget _ _ h1
    · rw [Lib.cell_of_heap hc, Nat.zero_add]; exact hget _ _ h2
theorem players_err {W H : Int} {A : Option Addr} {N c : Nat} (z : Int) (hN : N ≤ 4200) (hz : chk W H N = z) (hne : (z != 0) = true) (w : World) :
    Calls Try.prog 61 #[.agg #[.int .i64 W, .int .i64 H, .slice A N c]] w (LsR w (fun _ => []) (fun _ => []) 0 z) := by
  have HK := Lib.hid (fun u => parts_err (A := A) (c := c) z hN hz hne u)
  have LB0 := Lib.hid (show Below w.heap.size w (w.alloc (.cells #[.int .i64 W, .int .i64 H, (.slice A N c)] 24)) from (Below.refl _ _).alloc (Nat.le_refl _) _)
  clear hz
  go_enter Try.func61, Try.ntmps61
  go_wp2_with fail
  with_reducible refine Calls.mono (HK.out _) ?_
  rintro e w1 ⟨D, d, rfl, _, _, hb⟩
  have LB1 := Lib.hid (LB0.out.trans (hb.mono LB0.out.size))
  clear hb LB0
  go_wp2
  go_ret2
  exact ⟨none, 0, rfl, fun h => by omega, LB1.out⟩
theorem prt_mem {R : Nat → Nat → Bool} {N k b : Nat} (h : b ∈ prt R N k) : b < N := lef_lt (List.mem_filter.1 h).1
theorem prt_len (R : Nat → Nat → Bool) (N k : Nat) : (prt R N k).length ≤ N := by
  refine Nat.le_trans (List.length_filter_le _ _) ?_
  rw [lef_eq]
  exact ofl_len _ _
theorem ofl_app {B : Nat → Bool} {k : Nat} {E : Nat → List Nat} {w : World} {xs : List Value} {D1 D2 : Option Addr} {c1 c2 : Nat} {F : Nat → List Nat} (hB : B k = true) (hx : xs.length = (ofl B k).length * 2)
    (he : ∀ j, j < (ofl B k).length → LyE w (xs ++ [.slice D1 (E k).length c1, .slice D2 (F k).length c2]) j (E ((ofl B k).getD j 0)) (F ((ofl B k).getD j 0))) (h1 : TT w D1 (E k)) (h2 : TT w D2 (F k)) :
    ∀ j, j < (ofl B (k + 1)).length → LyE w (xs ++ [.slice D1 (E k).length c1, .slice D2 (F k).length c2]) j (E ((ofl B (k + 1)).getD j 0)) (F ((ofl B (k + 1)).getD j 0)) := by
  intro j hj
  rw [ofl_yes hB] at hj ⊢
  rw [List.length_append] at hj
  by_cases e : j = (ofl B k).length
  · have hg : (ofl B k ++ [k]).getD j 0 = k := by rw [List.getD_eq_getElem?_getD, List.getElem?_append_right (by omega), e, Nat.sub_self]; rfl
    rw [hg]
    refine ⟨D1, c1, D2, c2, ?_, ?_, h1, h2⟩
    · rw [List.getElem?_append_right (by omega), show j * 2 - xs.length = 0 by omega]; rfl
    · rw [List.getElem?_append_right (by omega), show j * 2 + 1 - xs.length = 1 by omega]; rfl
  · have hj2 : j < (ofl B k).length := by simp at hj; omega
    have hg : (ofl B k ++ [k]).getD j 0 = (ofl B k).getD j 0 := by rw [List.getD_eq_getElem?_getD, List.getElem?_append_left hj2, ← List.getD_eq_getElem?_getD]
    rw [hg]
    exact he j hj2
set_option maxHeartbeats 3200000 in
theorem players_n (W H N : Nat) (hNN : W + H = N) (A : Option Addr) (c : Nat) (g : Nat → Bool) (w : World) (hg : Holds w w.heap.size A (W * H) g) (hW0 : 1 ≤ W) (hW : W ≤ 64) (hH0 : 1 ≤ H) (hH : H ≤ 64) :
    Calls Try.prog 61 #[.agg #[.int .i64 (W : Nat), .int .i64 (H : Nat), .slice A (W * H) c]] w (LsR w (lyE (ov W g) W N) (lyP (ov W g) W N) (lix (ov W g) N).length 0) := by
  have hN : N ≤ 128 := by omega
  have HPA := Lib.hid (fun u (h : Below w.heap.size w u) => parts_n W H N hNN A c g u ((hg.below h).more h.size) hW0 hW hH0 hH)
  generalize hR : ov W g = R at *
  clear hR
  have HLA := Lib.hid (fun u l D d (hl : LL u D l) (hn : l.length ≤ 128) (hlN : ∀ b, b ∈ l → b < 128) => layer_n W H A (W * H) c l D d u hl hn hlN)
  have X0 := Lib.hid (Box.new w (W : Nat) (H : Nat) (.slice A (W * H) c))
  have LB0 := Lib.hid (show Below w.heap.size w (w.alloc (.cells #[.int .i64 (W : Nat), .int .i64 (H : Nat), (.slice A (W * H) c)] 24)) from (Below.refl _ _).alloc (Nat.le_refl _) _)
  have hm0 := (pno_all R N).1
  clear hg hNN
  generalize W * H = M at *
  go_enter Try.func61, Try.ntmps61
  go_wp2_with fail
  generalize w.alloc (.cells #[.int .i64 (W : Nat), .int .i64 (H : Nat), .slice A M c] 24) = w0 at *
  obtain ⟨q0, q1, q2, q3, q4, q5, q6⟩ := X0.out.all
  go_wp2_with fail
  clear q0 q1 q2 q3 q4 q5 q6
  with_reducible refine Calls.mono (HPA.out _ LB0.out) ?_
  rintro e w2 ⟨D, d, rfl, _, hlls, hb⟩
  have X2 := Lib.hid (X0.out.below hb X0.out.lt)
  have LB2 := Lib.hid (LB0.out.trans (hb.mono LB0.out.size))
  have HLS := Lib.hid hlls
  have hx2 := X2.out.lt
  clear hb hlls X0 LB0 HPA
  obtain ⟨m, hme⟩ : ∃ m, pno R N = m := ⟨_, rfl⟩
  have HME := Lib.hid hme
  rw [hme] at HLS hm0 ⊢
  clear hme
  go_wp2
  go_loopw [6, 19] (fun v i wr => ∃ (k : Nat) (xs : List Value), k ≤ m ∧ i = .int .i64 k ∧ Hid (wr.ownsRow w2.heap.size 79 2 v (ofl (bigP R N) k).length xs) ∧ Hid (∀ j, j < (ofl (bigP R N) k).length → LyE wr xs j (lEn W (prt R N ((ofl (bigP R N) k).getD j 0))) (lPi W (prt R N ((ofl (bigP R N) k).getD j 0)))) ∧ Hid (Below w2.heap.size w2 wr)) (fun _ i _ => m - (intOf i).toNat)
  case atStart => exact ⟨0, [], Nat.zero_le _, rfl, Lib.hid ⟨rfl, .inl ⟨rfl, rfl⟩⟩, Lib.hid (fun j hj => by simp [ofl] at hj), Lib.hid (Below.refl _ _)⟩
  case round =>
    obtain ⟨k, xs, hk, rfl, HO, HE, HB⟩ := hrel
    by_cases hlt : k < m
    · have y1 : (k : Int) < (m : Int) := by omega
      have y2 : (0 : Int) ≤ (k : Int) := by omega
      obtain ⟨b1, o1, rfl, hb1, hc1⟩ := (HLS.out.below HB.out) (by omega)
      obtain ⟨E1, d1, a1, _, l1⟩ := hc1 k hlt
      have hpl := prt_len R N k
      have HLk := Lib.hid (HLA.out wr (prt R N k) E1 d1 l1 (by omega) (fun b hb => Nat.lt_of_lt_of_le (prt_mem hb) hN))
      clear hc1 l1 hb1
      by_cases hbig : bigP R N k = true
      · have hgt : 1 < (prt R N k).length := of_decide_eq_true hbig
        have y3 : ((prt R N k).length : Int) > 1 := by omega
        have y4 : (1 : Int) < ((prt R N k).length : Int) := by omega
        have HBG := Lib.hid hbig
        obtain ⟨n0, hn0⟩ : ∃ x, (prt R N k).length = x := ⟨_, rfl⟩
        rw [hn0] at a1 y3 y4 hgt HLk
        clear hn0 hbig
        have X3 := Lib.hid (X2.out.below HB.out hx2)
        obtain ⟨q0, q1, q2, q3, q4, q5, q6⟩ := X3.out.all
        go_wp2_with fail
        clear q0 q1 q2 q3 q4 q5 q6 X3
        with_reducible refine Calls.mono HLk.out ?_
        rintro e w5 ⟨F1, f1, F2, f2, rfl, ⟨hp1, ht1⟩, ⟨hp2, ht2⟩, hb⟩
        have hop := HO.out
        have HO5 := Lib.hid (orow_keep hop fun b _ hk => hb.block b (orow_block hop hk).2.1)
        have HE5 := Lib.hid (show ∀ j, j < (ofl (bigP R N) k).length → LyE w5 xs j (lEn W (prt R N ((ofl (bigP R N) k).getD j 0))) (lPi W (prt R N ((ofl (bigP R N) k).getD j 0))) from fun j hj => by
          have := (HE.out j hj).keep (w' := w5) (ys := []) fun b cs hc => hb.block b (Array.getElem?_eq_some_iff.1 hc).1
          rwa [List.append_nil] at this)
        have HB5 := Lib.hid (HB.out.trans (hb.mono HB.out.size))
        have HT1 := Lib.hid ht1
        have HT2 := Lib.hid ht2
        have hs5 := HB5.out.size
        have hcnt := ofl_len (bigP R N) k
        have HXL := Lib.hid (show xs.length = (ofl (bigP R N) k).length * 2 from hop.1)
        have HFIN := Lib.hid (fun (w6 : World) (h2 : (w5.alloc (.cells #[.slice F1 (lEn W (prt R N k)).length f1, .slice F2 (lPi W (prt R N k)).length f2] 79)).grownBy w6 u6.ownBlock) => (show (∀ (b : Nat) (cs : Array Value), w5.heap[b]? = some (Obj.cells cs 3 (0, 0)) → w6.heap[b]? = w5.heap[b]?) from fun b cs hc => by
          have hb : b < w5.heap.size := (Array.getElem?_eq_some_iff.1 hc).1
          rw [h2.block b (by simp; omega) fun e => by
            obtain ⟨cs2, hc2⟩ := orow_type HO5.out e.symm
            rw [hc] at hc2
            cases hc2]
          exact Below.heap_alloc _ _ b hb))
        have HFIN2 := Lib.hid (fun (w6 : World) h2 => ofl_app (E := fun i => lEn W (prt R N i)) (F := fun i => lPi W (prt R N i)) (D1 := F1) (D2 := F2) (c1 := f1) (c2 := f2) HBG.out HXL.out (fun j hj => (HE5.out j hj).keep (HFIN.out w6 h2)) (HT1.out.keep (HFIN.out w6 h2)) (HT2.out.keep (HFIN.out w6 h2)))
        have HCN := Lib.hid (show (ofl (bigP R N) (k + 1)).length = (ofl (bigP R N) k).length + 1 by rw [ofl_yes HBG.out]; simp)
        clear hop hb ht1 ht2 hp1 hp2 HO HE HB HLk a1
        have HOW := Lib.hid (fun b hb => (show w2.heap.size ≤ b from (orow_block HO5.out (k := b) hb).1))
        obtain ⟨cn, hcn⟩ : ∃ x, (ofl (bigP R N) k).length = x := ⟨_, rfl⟩
        rw [hcn] at HO5 hcnt HCN
        clear hcn
        obtain ⟨n1, hn1⟩ : ∃ x, (lEn W (prt R N k)).length = x := ⟨_, rfl⟩
        obtain ⟨n2, hn2⟩ : ∃ x, (lPi W (prt R N k)).length = x := ⟨_, rfl⟩
        have HN1 := Lib.hid hn1
        have HN2 := Lib.hid hn2
        rw [hn1, hn2]
        clear hn1 hn2
        go_wp2_with (at_builtin; refine ly_app _ rfl _ _ (by rfl) w2.heap.size (by rfl) HO5.out F1 n1 f1 F2 n2 f2 (by rfl) (by omega) hs5 ?_; intro v6 w6 h1 h2; have H1 := Lib.hid h1; have H2 := Lib.hid h2; clear h1 h2)
        have H2' : Hid ((w5.alloc (.cells #[.slice F1 (lEn W (prt R N k)).length f1, .slice F2 (lPi W (prt R N k)).length f2] 79)).grownBy w6 u6.ownBlock) := Lib.hid (by rw [HN1.out, HN2.out]; exact H2.out)
        have HB6 := Lib.hid ((HB5.out.alloc hs5 (.cells #[.slice F1 n1 f1, .slice F2 n2 f2] 79)).grown H2.out (by simp; omega) fun b hb => HOW.out b hb)
        go_roundw
        case rel => exact ⟨k + 1, _, by omega, by go_num, by rw [HCN.out]; exact H1.out, Lib.hid (by have := HFIN2.out w6 H2'.out; rw [HN1.out, HN2.out] at this; exact this), HB6⟩
        case measure => simp [intOf]; omega
      · have hbf : bigP R N k = false := by simpa using hbig
        have hgt : ¬ 1 < (prt R N k).length := of_decide_eq_false hbf
        have y3 : ¬ ((prt R N k).length : Int) > 1 := by omega
        have y4 : ¬ (1 : Int) < ((prt R N k).length : Int) := by omega
        have HS2 := Lib.hid (ofl_no hbf)
        obtain ⟨n0, hn0⟩ : ∃ x, (prt R N k).length = x := ⟨_, rfl⟩
        rw [hn0] at a1 y3 y4 hgt
        clear hn0 hbig hbf HLk
        go_wp2
        go_roundw
        case rel => exact ⟨k + 1, xs, by omega, by go_num, by rw [HS2.out]; exact HO, by rw [HS2.out]; exact HE, HB⟩
        case measure => simp [intOf]; omega
    · have e : k = m := by omega
      have y1 : ¬ (k : Int) < (m : Int) := by omega
      have hop := HO.out
      obtain ⟨D6, c6, e6, hly⟩ := lys_of hop HE.out
      have HLY := Lib.hid hly
      subst e6
      have HW6 := Lib.hid (LB2.out.trans (HB.out.mono LB2.out.size))
      have HCE := Lib.hid (show ofl (bigP R N) k = lix R N by unfold lix; rw [HME.out, e])
      clear hop hly e HO HE
      obtain ⟨cn, hcn⟩ : ∃ x, (ofl (bigP R N) k).length = x := ⟨_, rfl⟩
      have HCN := Lib.hid hcn
      rw [hcn]
      clear hcn
      go_wp2
      go_ret2
      have h1 := HLY.out
      have h2 := HCN.out
      rw [HCE.out] at h1 h2
      rw [h2] at h1 ⊢
      exact ⟨D6, c6, rfl, h1, HW6.out⟩
end Go.Proofs.Ytgmcbdnfgdmmaaa
