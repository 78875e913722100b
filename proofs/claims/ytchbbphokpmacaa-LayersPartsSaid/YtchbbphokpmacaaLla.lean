/- The columns and rows of some threads: layer of the program. -/
import Derived.Test.YtchbbphokpmacaaLhe
namespace Go.Proofs.Ytchbbphokpmacaa
open Go.RowKit
set_option maxRecDepth 100000
set_option linter.unusedVariables false
set_option linter.unusedSimpArgs false

/-- The ends among some threads, and the rows of the picks. -/
def lEn (W : Nat) (l : List Nat) : List Nat := l.filter fun t => decide (t < W)
def lPi (W : Nat) (l : List Nat) : List Nat := (l.filter fun t => !decide (t < W)).map fun t => t - W
theorem len_take {W : Nat} {l : List Nat} {k : Nat} (hk : k < l.length) : (l.getD k 0 < W → lEn W (l.take (k + 1)) = lEn W (l.take k) ++ [l.getD k 0] ∧ lPi W (l.take (k + 1)) = lPi W (l.take k)) ∧ (¬ l.getD k 0 < W → lEn W (l.take (k + 1)) = lEn W (l.take k) ∧ lPi W (l.take (k + 1)) = lPi W (l.take k) ++ [l.getD k 0 - W]) := by
  unfold lEn lPi
  constructor
  · intro h
    have h1 := fil_step (P := fun t => decide (t < W)) hk true (decide_eq_true h)
    have h2 := fil_step (P := fun t => !decide (t < W)) hk false (by show (!decide (l.getD k 0 < W)) = false; rw [decide_eq_true h]; rfl)
    rw [h1, h2]
    simp
  · intro h
    have h1 := fil_step (P := fun t => decide (t < W)) hk false (decide_eq_false h)
    have h2 := fil_step (P := fun t => !decide (t < W)) hk true (by show (!decide (l.getD k 0 < W)) = true; rw [decide_eq_false h]; rfl)
    rw [h1, h2]
    simp
theorem lEn_len (W : Nat) (l : List Nat) : (lEn W l).length ≤ l.length := List.length_filter_le _ _
theorem lPi_len (W : Nat) (l : List Nat) : (lPi W l).length ≤ l.length := by unfold lPi; rw [List.length_map]; exact List.length_filter_le _ _
/-- Two lists that grow in a variable of the type Layer. -/
structure Ly (w : World) (lb base : Nat) (v1 v2 : Value) (l1 l2 : List Nat) : Prop where
  cell : w.heap[lb]? = some (.cells #[v1, v2] 92 (0, 0))
  o1 : L2.Own w base v1 l1.length (lf l1)
  o2 : L2.Own w base v2 l2.length (lf l2)
  ap : Apt v1 v2
  lb : lb < base
  bs : base ≤ w.heap.size
theorem setCell_lb {w : World} {lb i : Nat} {v1 v2 v : Value} (h : w.heap[lb]? = some (.cells #[v1, v2] 92 (0, 0))) : (w.setCell ⟨lb, i, none⟩ v).heap[lb]? = some (.cells ((#[v1, v2] : Array Value).setIfInBounds i v) 92 (0, 0)) := by
  simp [World.setCell, Array.getElem?_modify, h]
section
variable {w w' : World} {lb base : Nat} {v1 v2 v' : Value} {l1 l2 : List Nat} {x : Nat}
theorem Ly.below (h : Ly w lb base v1 v2 l1 l2) (hb : Below w.heap.size w w') : Ly w' lb base v1 v2 l1 l2 :=
  ⟨(hb.block lb (Nat.lt_of_lt_of_le h.lb h.bs)).trans h.cell, h.o1.below hb, h.o2.below hb, h.ap, h.lb, Nat.le_trans h.bs hb.size⟩
theorem Ly.cells (h : Ly w lb base v1 v2 l1 l2) : w.cell? ⟨lb, 0, none⟩ = some v1 ∧ w.cell? ⟨lb, 1, none⟩ = some v2 ∧ w.frozen? ⟨lb, 0, none⟩ = false ∧ w.frozen? ⟨lb, 1, none⟩ = false :=
  ⟨by rw [Lib.cell_of_heap h.cell]; rfl, by rw [Lib.cell_of_heap h.cell]; rfl, Lib.frozen_of_heap h.cell 0, Lib.frozen_of_heap h.cell 1⟩
theorem Ly.start (w : World) : Ly (w.alloc (.cells #[.slice none 0 0, .slice none 0 0] 92)) w.heap.size (w.heap.size + 1) (.slice none 0 0) (.slice none 0 0) [] [] :=
  ⟨World.alloc_heap_new _ _, L2.Own.nil _ _ _, L2.Own.nil _ _ _, Apt.nil _, by omega, by simp⟩
theorem Ly.far (h : Ly w lb base v1 v2 l1 l2) {p : Addr} (h1 : p.block ≠ lb) (h2 : p.block < base) (u : Value) : Ly (w.setCell p u) lb base v1 v2 l1 l2 :=
  ⟨(Below.heap_setCell w p u lb (fun e => h1 e.symm)).trans h.cell, h.o1.far h2 u, h.o2.far h2 u, h.ap, h.lb, by simpa using h.bs⟩
/-- Behind the append to the one, before the store. -/
theorem Ly.mid (h : Ly w lb base v1 v2 l1 l2) (hb : Below base w w') : w'.heap[lb]? = some (.cells #[v1, v2] 92 (0, 0)) := (hb.block lb h.lb).trans h.cell
theorem Ly.app1 (h : Ly w lb base v1 v2 l1 l2) (h1 : L2.Own w' base v' (l1.length + 1) (lf (l1 ++ [x]))) (hb : Below base w w') (hk : ∀ z m g, L2.Own w base z m g → Apt z v1 → L2.Own w' base z m g ∧ Apt z v') : Ly (w'.setCell ⟨lb, 0, none⟩ v') lb base v' v2 (l1 ++ [x]) l2 := by
  have h2 := hk _ _ _ h.o2 h.ap.symm
  refine ⟨setCell_lb (h.mid hb), ?_, h2.1.far (p := ⟨lb, 0, none⟩) h.lb _, h2.2.symm, h.lb, by simpa using Nat.le_trans h.bs hb.size⟩
  rw [List.length_append]
  exact h1.far (p := ⟨lb, 0, none⟩) h.lb _
theorem Ly.app2 (h : Ly w lb base v1 v2 l1 l2) (h1 : L2.Own w' base v' (l2.length + 1) (lf (l2 ++ [x]))) (hb : Below base w w') (hk : ∀ z m g, L2.Own w base z m g → Apt z v2 → L2.Own w' base z m g ∧ Apt z v') : Ly (w'.setCell ⟨lb, 1, none⟩ v') lb base v1 v' l1 (l2 ++ [x]) := by
  have h2 := hk _ _ _ h.o1 h.ap
  refine ⟨setCell_lb (h.mid hb), h2.1.far (p := ⟨lb, 1, none⟩) h.lb _, ?_, h2.2, h.lb, by simpa using Nat.le_trans h.bs hb.size⟩
  rw [List.length_append]
  exact h1.far (p := ⟨lb, 1, none⟩) h.lb _
end
/-- A layer came back. -/
def LyR (w : World) (l1 l2 : List Nat) (e : Ending) (w' : World) : Prop :=
  ∃ D1 c1 D2 c2, e = .returned (.agg #[.slice D1 l1.length c1, .slice D2 l2.length c2]) ∧ (Cp D1 l1.length c1 ∧ TT w' D1 l1) ∧ (Cp D2 l2.length c2 ∧ TT w' D2 l2) ∧ Below w.heap.size w w'
theorem Ly.out {w0 w : World} {lb base : Nat} {v1 v2 : Value} {l1 l2 : List Nat} (h : Ly w lb base v1 v2 l1 l2) (hb : Below w0.heap.size w0 w) : LyR w0 l1 l2 (.returned (.agg #[v1, v2])) w := by
  obtain ⟨A1, c1, e1, _, _⟩ := h.o1.out
  obtain ⟨A2, c2, e2, _, _⟩ := h.o2.out
  have o1 := h.o1
  have o2 := h.o2
  subst e1 e2
  exact ⟨A1, c1, A2, c2, rfl, ⟨own_cp o1, own_tt o1⟩, ⟨own_cp o2, own_tt o2⟩, hb⟩
set_option maxHeartbeats 1600000 in
theorem layer_n (W H : Nat) (A : Option Addr) (M c : Nat) (l : List Nat) (D : Option Addr) (d : Nat) (w : World) (hl : LL w D l) (hn : l.length ≤ 128) (hlN : ∀ b, b ∈ l → b < 128) :
    Calls Try.prog 95 #[.agg #[.int .i64 (W : Nat), .int .i64 (H : Nat), .slice A M c], .slice D l.length d] w (LyR w (lEn W l) (lPi W l)) := by
  have HL := Lib.hid hl
  have HLM := Lib.hid (fun k (h : k < l.length) => hlN _ (mem_getD h))
  have HT := Lib.hid (fun k (h : k < l.length) => len_take (W := W) (l := l) (k := k) h)
  clear hl hlN
  obtain ⟨n, hnl⟩ : ∃ n, l.length = n := ⟨_, rfl⟩
  have HNL := Lib.hid hnl
  rw [hnl] at hn HLM HT ⊢
  clear hnl
  have X0 := Lib.hid (Box.new w (W : Nat) (H : Nat) (.slice A M c))
  have LB0 := Lib.hid (show Below w.heap.size w (w.alloc (.cells #[.int .i64 (W : Nat), .int .i64 (H : Nat), (.slice A M c)] 24)) from (Below.refl _ _).alloc (Nat.le_refl _) _)
  have X1 := Lib.hid (X0.out.alloc (.cells #[.slice none 0 0, .slice none 0 0] 92))
  have LB1 := Lib.hid (LB0.out.alloc LB0.out.size (.cells #[.slice none 0 0, .slice none 0 0] 92))
  have X2 := Lib.hid (X1.out.alloc (.cells #[.slice none 0 0, .slice none 0 0] 92))
  have LB2 := Lib.hid (LB1.out.alloc LB1.out.size (.cells #[.slice none 0 0, .slice none 0 0] 92))
  have L0 := Ly.start ((w.alloc (.cells #[.int .i64 (W : Nat), .int .i64 (H : Nat), (.slice A M c)] 24)).alloc (.cells #[.slice none 0 0, .slice none 0 0] 92))
  rw [show ((w.alloc (.cells #[.int .i64 (W : Nat), .int .i64 (H : Nat), (.slice A M c)] 24)).alloc (.cells #[.slice none 0 0, .slice none 0 0] 92)).heap.size = w.heap.size + 2 by simp] at L0
  have L0 := Lib.hid L0
  have hr0 : (((w.alloc (.cells #[.int .i64 (W : Nat), .int .i64 (H : Nat), (.slice A M c)] 24)).alloc (.cells #[.slice none 0 0, .slice none 0 0] 92)).alloc (.cells #[.slice none 0 0, .slice none 0 0] 92)).heap[w.heap.size + 1]? = some (.cells #[.slice none 0 0, .slice none 0 0] 92 (0, 0)) := by
    rw [Below.heap_alloc _ _ _ (by simp)]
    have := World.alloc_heap_new (w.alloc (.cells #[.int .i64 (W : Nat), .int .i64 (H : Nat), (.slice A M c)] 24)) (.cells #[.slice none 0 0, .slice none 0 0] 92)
    rw [World.size_alloc] at this
    exact this
  have HR0 := Lib.hid hr0
  clear X0 LB0 X1 LB1 hr0
  go_enter Try.func95, Try.ntmps95
  go_wp2
  obtain ⟨lb, hlb⟩ : ∃ lb, w.heap.size + 2 = lb := ⟨_, rfl⟩
  obtain ⟨rb, hrb⟩ : ∃ rb, w.heap.size + 1 = rb := ⟨_, rfl⟩
  have hlw : w.heap.size < rb ∧ rb < lb := by omega
  rw [hlb] at L0 ⊢
  rw [hrb] at HR0 ⊢
  clear hlb hrb
  generalize ((w.alloc (.cells #[.int .i64 (W : Nat), .int .i64 (H : Nat), (.slice A M c)] 24)).alloc (.cells #[.slice none 0 0, .slice none 0 0] 92)).alloc (.cells #[.slice none 0 0, .slice none 0 0] 92) = w0 at *
  go_loopw [10] (fun i wr => ∃ (k : Nat) (v1 v2 : Value), k ≤ n ∧ i = .int .i64 k ∧ Hid (Ly wr lb (lb + 1) v1 v2 (lEn W (l.take k)) (lPi W (l.take k))) ∧ Hid (Box wr w.heap.size (W : Nat) (H : Nat) (.slice A M c)) ∧ Hid (Below lb w0 wr) ∧ Hid (Below w.heap.size w wr)) (fun i _ => n - (intOf i).toNat)
  case atStart => exact ⟨0, _, _, Nat.zero_le _, rfl, L0, X2, Lib.hid (Below.refl _ _), LB2⟩
  case round =>
    obtain ⟨k, v1, v2, hk, rfl, HY, HX, HB, HW⟩ := hrel
    clear L0 X2 LB2
    by_cases hlt : k < n
    · have y1 : (k : Int) < (n : Int) := by omega
      have y2 : (0 : Int) ≤ (k : Int) := by omega
      obtain ⟨bl, ol, rfl, hbl, hcl⟩ := (HL.out.below HW.out) (by rw [HNL.out]; omega)
      have c0 := hcl k (by rw [HNL.out]; exact hlt)
      clear hcl hbl
      have hxN := HLM.out k hlt
      have HTk := HT.out k hlt
      have hlx : lf l k = ((l.getD k 0 : Nat) : Int) := rfl
      rw [hlx] at c0
      obtain ⟨x, hx⟩ : ∃ x, l.getD k 0 = x := ⟨_, rfl⟩
      rw [hx] at c0 hxN HTk
      clear hx hlx
      obtain ⟨q0, q1, q2, q3, q4, q5, q6⟩ := HX.out.all
      obtain ⟨m0, m1, m2, m3⟩ := HY.out.cells
      have hbs := HY.out.bs
      have hl1 := Nat.le_trans (lEn_len W (l.take k)) (List.length_take_le k l)
      have hl2 := Nat.le_trans (lPi_len W (l.take k)) (List.length_take_le k l)
      by_cases hxW : x < W
      · obtain ⟨e1, e2⟩ := HTk.1 hxW
        have d1 : (x : Int) < (W : Int) := by omega
        have HO := Lib.hid (own_app HY.out.o1 x)
        have HQ := Lib.hid (lf_last (lEn W (l.take k)) x)
        have HAPP := Lib.hid (fun (v' : Value) (w' : World) h1 h2 h3 => HY.out.app1 (x := x) (v' := v') (w' := w') h1 h2 h3)
        have HMID := Lib.hid (fun (w' : World) (hb : Below (lb + 1) wr w') => (show w'.cell? ⟨lb, 0, none⟩ = some v1 ∧ w'.frozen? ⟨lb, 0, none⟩ = false from ⟨by rw [Lib.cell_of_heap (HY.out.mid hb)]; rfl, Lib.frozen_of_heap (HY.out.mid hb) 0⟩))
        have E1 := Lib.hid e1
        have E2 := Lib.hid e2
        rw [← E1.out, ← E2.out] at HAPP
        rw [← E1.out] at HO HQ
        obtain ⟨n0, hn0⟩ : ∃ y, (lEn W (l.take k)).length = y := ⟨_, rfl⟩
        rw [hn0] at HO HQ HAPP hl1
        clear e1 e2 HTk hn0 hxW
        obtain ⟨f, hf⟩ : ∃ f, lf (lEn W (l.take (k + 1))) = f := ⟨_, rfl⟩
        rw [hf] at HO HQ HAPP
        clear hf
        go_wp2_with (at_builtin; refine app1k _ rfl _ _ (by rfl) (lb + 1) (by rfl) HO.out (x : Int) (by rfl) HQ.out (by omega) hbs ?_; intro v' w6 hown6 hb6 hk6; obtain ⟨A6, d6, rfl⟩ := orow_shape hown6; have HY6 := Lib.hid (HAPP.out _ _ hown6 hb6 hk6); obtain ⟨m4, m5⟩ := HMID.out w6 hb6; have HB6 := Lib.hid hb6; clear hown6 hb6 hk6)
        have X6 := Lib.hid ((HX.out.below HB6.out (by omega)).far (p := ⟨lb, 0, none⟩) (by show w.heap.size ≠ lb; omega) (.slice A6 (n0 + 1) d6))
        have B6 := Lib.hid ((HB.out.trans (HB6.out.mono (by omega))).setCell (p := ⟨lb, 0, none⟩) (by show lb ≤ lb; omega) (.slice A6 (n0 + 1) d6))
        have L6 := Lib.hid ((HW.out.trans (HB6.out.mono (by omega))).setCell (p := ⟨lb, 0, none⟩) (by show w.heap.size ≤ lb; omega) (.slice A6 (n0 + 1) d6))
        go_roundw
        case rel => exact ⟨k + 1, _, _, by omega, by go_num, HY6, X6, B6, L6⟩
        case measure => simp [intOf]; omega
      · obtain ⟨e1, e2⟩ := HTk.2 hxW
        have d1 : ¬ (x : Int) < (W : Int) := by omega
        have d2 : IntKind.i64.wrap ((x : Int) - (W : Int)) = ((x - W : Nat) : Int) := by rw [IntWalk.i64_in _ (by omega)]; omega
        obtain ⟨z, hz⟩ : ∃ z, x - W = z := ⟨_, rfl⟩
        rw [hz] at d2 e2
        have HO := Lib.hid (own_app HY.out.o2 z)
        have HQ := Lib.hid (lf_last (lPi W (l.take k)) z)
        have HAPP := Lib.hid (fun (v' : Value) (w' : World) h1 h2 h3 => HY.out.app2 (x := z) (v' := v') (w' := w') h1 h2 h3)
        have HMID := Lib.hid (fun (w' : World) (hb : Below (lb + 1) wr w') => (show w'.cell? ⟨lb, 1, none⟩ = some v2 ∧ w'.frozen? ⟨lb, 1, none⟩ = false from ⟨by rw [Lib.cell_of_heap (HY.out.mid hb)]; rfl, Lib.frozen_of_heap (HY.out.mid hb) 1⟩))
        have E1 := Lib.hid e1
        have E2 := Lib.hid e2
        rw [← E1.out, ← E2.out] at HAPP
        rw [← E2.out] at HO HQ
        obtain ⟨n0, hn0⟩ : ∃ y, (lPi W (l.take k)).length = y := ⟨_, rfl⟩
        rw [hn0] at HO HQ HAPP hl2
        clear e1 e2 HTk hn0 hz hxW
        obtain ⟨f, hf⟩ : ∃ f, lf (lPi W (l.take (k + 1))) = f := ⟨_, rfl⟩
        rw [hf] at HO HQ HAPP
        clear hf
        go_wp2_with (at_builtin; refine app1k _ rfl _ _ (by rfl) (lb + 1) (by rfl) HO.out (z : Int) (by rfl) HQ.out (by omega) hbs ?_; intro v' w6 hown6 hb6 hk6; obtain ⟨A6, d6, rfl⟩ := orow_shape hown6; have HY6 := Lib.hid (HAPP.out _ _ hown6 hb6 hk6); obtain ⟨m4, m5⟩ := HMID.out w6 hb6; have HB6 := Lib.hid hb6; clear hown6 hb6 hk6)
        have X6 := Lib.hid ((HX.out.below HB6.out (by omega)).far (p := ⟨lb, 1, none⟩) (by show w.heap.size ≠ lb; omega) (.slice A6 (n0 + 1) d6))
        have B6 := Lib.hid ((HB.out.trans (HB6.out.mono (by omega))).setCell (p := ⟨lb, 1, none⟩) (by show lb ≤ lb; omega) (.slice A6 (n0 + 1) d6))
        have L6 := Lib.hid ((HW.out.trans (HB6.out.mono (by omega))).setCell (p := ⟨lb, 1, none⟩) (by show w.heap.size ≤ lb; omega) (.slice A6 (n0 + 1) d6))
        go_roundw
        case rel => exact ⟨k + 1, _, _, by omega, by go_num, HY6, X6, B6, L6⟩
        case measure => simp [intOf]; omega
    · have e : k = n := by omega
      have y1 : ¬ (k : Int) < (n : Int) := by omega
      rw [show l.take k = l from List.take_of_length_le (by rw [HNL.out]; omega)] at HY
      have HR := (HB.out.block rb (by omega)).trans HR0.out
      have c1 : wr.cell? ⟨rb, 0, none⟩ = some (.slice none 0 0) := by rw [Lib.cell_of_heap HR]; rfl
      have c2 : wr.cell? ⟨rb, 1, none⟩ = some (.slice none 0 0) := by rw [Lib.cell_of_heap HR]; rfl
      have c3 := Lib.frozen_of_heap HR 0
      have c4 := Lib.frozen_of_heap HR 1
      obtain ⟨m0, m1, m2, m3⟩ := HY.out.cells
      have HYF := Lib.hid (((HY.out.far (p := ⟨rb, 0, none⟩) (by show rb ≠ lb; omega) (by show rb < lb + 1; omega) v1).far (p := ⟨rb, 1, none⟩) (by show rb ≠ lb; omega) (by show rb < lb + 1; omega) v2).out ((HW.out.setCell (p := ⟨rb, 0, none⟩) (by show _ ≤ rb; omega) v1).setCell (p := ⟨rb, 1, none⟩) (by show _ ≤ rb; omega) v2))
      obtain ⟨A1, d1, rfl⟩ := orow_shape HY.out.o1
      obtain ⟨A2, d2, rfl⟩ := orow_shape HY.out.o2
      have hrlt : rb < wr.heap.size := (Array.getElem?_eq_some_iff.1 HR).1
      clear e HR HY
      generalize (lEn W l).length = n1 at *
      generalize (lPi W l).length = n2 at *
      go_wp2
      refine bodyPost_ret (v := .agg #[.slice A1 n1 d1, .slice A2 n2 d2]) (by simp [results, Try.results95, go_sem, m0, m1, m2, m3, c1, c2, c3, c4]) rfl ?_
      exact HYF.out
end Go.Proofs.Ytchbbphokpmacaa
