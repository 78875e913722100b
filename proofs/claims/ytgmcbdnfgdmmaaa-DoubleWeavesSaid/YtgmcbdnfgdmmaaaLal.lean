/- The examples of alive; valid. -/
import Derived.Test.YtgmcbdnfgdmmaaaLyx
import Derived.Test.YtgmcbdnfgdmmaaaOpl
import Derived.Test.YtgmcbdnfgdmmaaaTa
import Derived.Test.YtgmcbdnfgdmmaaaHak
namespace Go.Proofs.Ytgmcbdnfgdmmaaa
open Go.RowKit
set_option maxRecDepth 100000
set_option linter.unusedVariables false
set_option linter.unusedSimpArgs false

/-- A grid of a text. -/
def CG (w : World) (W H : Int) (n : Nat) (f : Nat → Bool) (e : Ending) (w' : World) : Prop := ∃ k, e = .returned (.agg #[.int .i64 W, .int .i64 H, .slice (some ⟨k, 0, none⟩) n n]) ∧ w.heap.size ≤ k ∧ Row w' k n f ∧ Below w.heap.size w w'
def PG (w : World) (W H : Int) (n : Nat) (f : Nat → Bool) (e : Ending) (w' : World) : Prop := ∃ k, e = .returned (.tuple #[.agg #[.int .i64 W, .int .i64 H, .slice (some ⟨k, 0, none⟩) n n], .int .i64 0]) ∧ w.heap.size ≤ k ∧ Row w' k n f ∧ Below w.heap.size w w'
set_option maxHeartbeats 800000 in
theorem cloth_any (s : ByteArray) (W H : Int) (n : Nat) (f : Nat → Bool) (hp : ∀ v, Calls Try.prog 65 #[.string s] v (PG v W H n f)) (w : World) : Calls Try.prog 43 #[.string s] w (CG w W H n f) := by
  have HP := Lib.hid hp
  have L0 := Lib.hid (show Below w.heap.size w (w.alloc (.cells #[.int .i64 0, .int .i64 0, .slice none 0 0] 24)) from (Below.refl _ _).alloc (Nat.le_refl _) _)
  have R0 := Lib.hid (Box.new w 0 0 (.slice none 0 0))
  have hs0 : (w.alloc (.cells #[.int .i64 0, .int .i64 0, .slice none 0 0] 24)).heap.size = w.heap.size + 1 := by simp
  clear hp
  go_enter Try.func43, Try.ntmps43
  go_wp2_with fail
  generalize w.alloc (.cells #[.int .i64 0, .int .i64 0, .slice none 0 0] 24) = v0 at *
  refine (HP.out _).mono ?_
  rintro e w1 ⟨k, rfl, hk, hrow, hb⟩
  have hkl := hrow.lt
  have R1 := Lib.hid ((R0.out.below hb R0.out.lt).alloc (.cells #[.int .i64 W, .int .i64 H, .slice (some ⟨k, 0, none⟩) n n] 24))
  have HW := Lib.hid (hrow.alloc (.cells #[.int .i64 W, .int .i64 H, .slice (some ⟨k, 0, none⟩) n n] 24))
  have LB := Lib.hid ((L0.out.trans (hb.mono L0.out.size)).alloc (Nat.le_trans L0.out.size hb.size) (.cells #[.int .i64 W, .int .i64 H, .slice (some ⟨k, 0, none⟩) n n] 24))
  obtain ⟨q0, q1, q2, q3, q4, q5, q6⟩ := R1.out.all
  obtain ⟨r0, r1, r2, r3, r4, r5, r6⟩ := (Box.new w1 W H (.slice (some ⟨k, 0, none⟩) n n)).all
  have hk2 : w.heap.size < k := by omega
  clear hrow hb
  go_wp2
  refine bodyPost_ret (v := .agg #[.int .i64 W, .int .i64 H, .slice (some ⟨k, 0, none⟩) n n]) (by simp [results, Try.results43, go_sem, q0, q1, q2]) rfl ⟨k, rfl, by omega, ?_, ?_⟩
  · exact ((HW.out.far (by simp; omega) _).far (by simp; omega) _).far (by simp; omega) _
  · exact ((LB.out.setCell (by simp) _).setCell (by simp) _).setCell (by simp) _
def tf (i : Nat) : Bool := [true, false, false, false, false, true, false, false, true, true, false, true, true, true, true, false].getD i false
theorem parse_tf (w : World) : Calls Try.prog 65 #[.string ⟨#[120, 120, 120, 46, 10, 120, 120, 46, 120, 10, 46, 120, 46, 46, 10, 120, 46, 46, 46, 10]⟩] w (PG w 4 4 16 tf) := by
  refine (parse_ok ⟨#[120, 120, 120, 46, 10, 120, 120, 46, 120, 10, 46, 120, 46, 46, 10, 120, 46, 46, 46, 10]⟩ 4 4 w (by decide) (by omega) (by omega) (by omega) (by omega) (by decide) ⟨by decide, ?_⟩ (fun W' => ?_)).mono fun e w' ⟨k, he, hk, hr, hb⟩ => ⟨k, he, hk, hr.congr ?_, hb⟩
  · have key : ∀ i (h : i < 20), okAt ⟨#[120, 120, 120, 46, 10, 120, 120, 46, 120, 10, 46, 120, 46, 46, 10, 120, 46, 46, 46, 10]⟩ 4 i h := by unfold okAt; decide +kernel
    exact key
  · exact (Try.strings_IndexByte _ 10 W').mono fun e w' h => by
      refine ⟨?_, h.2⟩
      rw [h.1]
      rfl
  · decide
theorem cl_tf (w : World) : Calls Try.prog 43 #[.string ⟨#[120, 120, 120, 46, 10, 120, 120, 46, 120, 10, 46, 120, 46, 46, 10, 120, 46, 46, 46, 10]⟩] w (CG w 4 4 16 tf) := cloth_any _ _ _ _ _ parse_tf w
def xd (i : Nat) : Bool := [true, false].getD i false
theorem parse_xd (w : World) : Calls Try.prog 65 #[.string ⟨#[120, 46, 10]⟩] w (PG w 2 1 2 xd) := by
  refine (parse_ok ⟨#[120, 46, 10]⟩ 2 1 w (by decide) (by omega) (by omega) (by omega) (by omega) (by decide) ⟨by decide, ?_⟩ (fun W' => ?_)).mono fun e w' ⟨k, he, hk, hr, hb⟩ => ⟨k, he, hk, hr.congr ?_, hb⟩
  · have key : ∀ i (h : i < 3), okAt ⟨#[120, 46, 10]⟩ 2 i h := by unfold okAt; decide +kernel
    exact key
  · exact (Try.strings_IndexByte _ 10 W').mono fun e w' h => by
      refine ⟨?_, h.2⟩
      rw [h.1]
      rfl
  · decide
theorem cl_xd (w : World) : Calls Try.prog 43 #[.string ⟨#[120, 46, 10]⟩] w (CG w 2 1 2 xd) := cloth_any _ _ _ _ _ parse_xd w
/-- Parts came back, with no error. -/
def PaV (w : World) (m : Nat) (L : List (List Nat)) (e : Ending) (w' : World) : Prop := ∃ D c, e = .returned (.tuple #[.slice D m c, .int .i64 0]) ∧ LLs w' D m (fun i => L.getD i []) ∧ Below w.heap.size w w'
theorem LLs.congr {w : World} {D : Option Addr} {n : Nat} {L L' : Nat → List Nat} (h : LLs w D n L) (e : ∀ i, i < n → L i = L' i) : LLs w D n L' := fun h0 => by
  obtain ⟨b, o, e1, h1, h2⟩ := h h0
  refine ⟨b, o, e1, h1, fun i hi => ?_⟩
  obtain ⟨E, c, a1, a2, a3⟩ := h2 i hi
  rw [e i hi] at a1 a2 a3
  exact ⟨E, c, a1, a2, a3⟩
theorem PaR.pav {w : World} {R : Nat → Nat → Bool} {N m : Nat} {L : List (List Nat)} (hm : pno R N = m) (hL : ∀ i, i < m → prt R N i = L.getD i []) {e : Ending} {w' : World} (h : PaR w (prt R N) (pno R N) 0 e w') : PaV w m L e w' := by
  obtain ⟨D, c, he, _, hl, hb⟩ := h
  subst hm
  exact ⟨D, c, he, hl.congr hL, hb⟩
/-- Layers came back, with no error. -/
def LyV (w : World) (m : Nat) (E P : List (List Nat)) (e : Ending) (w' : World) : Prop := ∃ D c, e = .returned (.tuple #[.slice D m c, .int .i64 0]) ∧ LYs w' D m (fun i => E.getD i []) (fun i => P.getD i []) ∧ Below w.heap.size w w'
theorem LYs.congr {w : World} {D : Option Addr} {n : Nat} {E P E' P' : Nat → List Nat} (h : LYs w D n E P) (e1 : ∀ i, i < n → E i = E' i) (e2 : ∀ i, i < n → P i = P' i) : LYs w D n E' P' := fun h0 => by
  obtain ⟨b, o, e, h1, h2⟩ := h h0
  refine ⟨b, o, e, h1, fun i hi => ?_⟩
  obtain ⟨D1, c1, D2, c2, h3, h4, h5, h6⟩ := h2 i hi
  rw [e1 i hi] at h3 h5
  rw [e2 i hi] at h4 h6
  exact ⟨D1, c1, D2, c2, h3, h4, h5, h6⟩
theorem LsR.lyv {w : World} {R : Nat → Nat → Bool} {W N m : Nat} {E P : List (List Nat)} (hm : (lix R N).length = m) (h1 : ∀ i, i < m → lyE R W N i = E.getD i []) (h2 : ∀ i, i < m → lyP R W N i = P.getD i []) {e : Ending} {w' : World} (h : LsR w (lyE R W N) (lyP R W N) (lix R N).length 0 e w') : LyV w m E P e w' := by
  obtain ⟨D, c, he, hl, hb⟩ := h
  subst hm
  exact ⟨D, c, he, hl.congr h1 h2, hb⟩
theorem pt_tf (w : World) (k c : Nat) (h : Row w k 16 tf) : Calls Try.prog 103 #[.agg #[.int .i64 4, .int .i64 4, .slice (some ⟨k, 0, none⟩) 16 c]] w (PaV w 2 [[0, 1, 4, 5], [2, 3, 6, 7]]) :=
  (parts_n 4 4 8 rfl (some ⟨k, 0, none⟩) c tf w (h.holds h.lt) (by omega) (by omega) (by omega) (by omega)).mono fun e w' z => z.pav (by decide +kernel) (by decide +kernel)
theorem pt_xd (w : World) (k c : Nat) (h : Row w k 2 xd) : Calls Try.prog 103 #[.agg #[.int .i64 2, .int .i64 1, .slice (some ⟨k, 0, none⟩) 2 c]] w (PaV w 3 [[0], [2], [1]]) :=
  (parts_n 2 1 3 rfl (some ⟨k, 0, none⟩) c xd w (h.holds h.lt) (by omega) (by omega) (by omega) (by omega)).mono fun e w' z => z.pav (by decide +kernel) (by decide +kernel)
theorem lt_tf (w : World) (k c : Nat) (h : Row w k 16 tf) : Calls Try.prog 61 #[.agg #[.int .i64 4, .int .i64 4, .slice (some ⟨k, 0, none⟩) 16 c]] w (LyV w 2 [[0, 1], [2, 3]] [[0, 1], [2, 3]]) :=
  (players_n 4 4 8 rfl (some ⟨k, 0, none⟩) c tf w (h.holds h.lt) (by omega) (by omega) (by omega) (by omega)).mono fun e w' z => z.lyv (by decide +kernel) (by decide +kernel) (by decide +kernel)
theorem lt_xd (w : World) (k c : Nat) (h : Row w k 2 xd) : Calls Try.prog 61 #[.agg #[.int .i64 2, .int .i64 1, .slice (some ⟨k, 0, none⟩) 2 c]] w (LyV w 0 [] []) :=
  (players_n 2 1 3 rfl (some ⟨k, 0, none⟩) c xd w (h.holds h.lt) (by omega) (by omega) (by omega) (by omega)).mono fun e w' z => z.lyv (by decide +kernel) (by decide +kernel) (by decide +kernel)
theorem ll_lit (w : World) (l : List Nat) (cs : Array Value) (hc : cs = (l.map fun (x : Nat) => Value.int .i64 (x : Nat)).toArray) : LL (w.alloc (.cells cs 3)) (some ⟨w.heap.size, 0, none⟩) l := by
  subst hc
  refine fun h0 => ⟨w.heap.size, 0, rfl, by simp, fun i hi => ?_⟩
  rw [Lib.cell_of_heap (World.alloc_heap_new _ _)]
  simp [lf, hi]
theorem bel_alloc (w : World) (o : Obj) : Below w.heap.size w (w.alloc o) := (Below.refl _ _).alloc (Nat.le_refl _) _
/-- Two lists, written. -/
theorem lls_lit2 (w : World) (l1 l2 : List Nat) (c1 c2 : Array Value) (h1 : c1 = (l1.map fun (x : Nat) => Value.int .i64 (x : Nat)).toArray) (h2 : c2 = (l2.map fun (x : Nat) => Value.int .i64 (x : Nat)).toArray) :
    LLs (((w.alloc (.cells c1 3)).alloc (.cells c2 3)).alloc (.cells #[.slice (some ⟨w.heap.size, 0, none⟩) l1.length l1.length, .slice (some ⟨w.heap.size + 1, 0, none⟩) l2.length l2.length] 45)) (some ⟨w.heap.size + 2, 0, none⟩) 2 (fun i => [l1, l2].getD i []) := by
  have a1 := ((ll_lit w l1 c1 h1).below (bel_alloc _ (.cells c2 3))).below (bel_alloc _ (.cells #[.slice (some ⟨w.heap.size, 0, none⟩) l1.length l1.length, .slice (some ⟨w.heap.size + 1, 0, none⟩) l2.length l2.length] 45))
  have a2 := (ll_lit (w.alloc (.cells c1 3)) l2 c2 h2).below (bel_alloc _ (.cells #[.slice (some ⟨w.heap.size, 0, none⟩) l1.length l1.length, .slice (some ⟨w.heap.size + 1, 0, none⟩) l2.length l2.length] 45))
  rw [World.size_alloc] at a2
  have hn := World.alloc_heap_new ((w.alloc (.cells c1 3)).alloc (.cells c2 3)) (.cells #[.slice (some ⟨w.heap.size, 0, none⟩) l1.length l1.length, .slice (some ⟨w.heap.size + 1, 0, none⟩) l2.length l2.length] 45)
  rw [World.size_alloc, World.size_alloc] at hn
  refine fun _ => ⟨w.heap.size + 2, 0, rfl, by simp, fun i hi => ?_⟩
  match i, hi with
  | 0, _ => exact ⟨_, _, (by rw [Lib.cell_of_heap hn]; rfl), ⟨(fun h => by cases h), Nat.le_refl _⟩, a1⟩
  | 1, _ => exact ⟨_, _, (by rw [Lib.cell_of_heap hn]; rfl), ⟨(fun h => by cases h), Nat.le_refl _⟩, a2⟩
/-- Three lists, written. -/
theorem lls_lit3 (w : World) (l1 l2 l3 : List Nat) (c1 c2 c3 : Array Value) (h1 : c1 = (l1.map fun (x : Nat) => Value.int .i64 (x : Nat)).toArray) (h2 : c2 = (l2.map fun (x : Nat) => Value.int .i64 (x : Nat)).toArray) (h3 : c3 = (l3.map fun (x : Nat) => Value.int .i64 (x : Nat)).toArray) :
    LLs ((((w.alloc (.cells c1 3)).alloc (.cells c2 3)).alloc (.cells c3 3)).alloc (.cells #[.slice (some ⟨w.heap.size, 0, none⟩) l1.length l1.length, .slice (some ⟨w.heap.size + 1, 0, none⟩) l2.length l2.length, .slice (some ⟨w.heap.size + 2, 0, none⟩) l3.length l3.length] 45)) (some ⟨w.heap.size + 3, 0, none⟩) 3 (fun i => [l1, l2, l3].getD i []) := by
  have z := bel_alloc (((w.alloc (.cells c1 3)).alloc (.cells c2 3)).alloc (.cells c3 3)) (.cells #[.slice (some ⟨w.heap.size, 0, none⟩) l1.length l1.length, .slice (some ⟨w.heap.size + 1, 0, none⟩) l2.length l2.length, .slice (some ⟨w.heap.size + 2, 0, none⟩) l3.length l3.length] 45)
  have a1 := (((ll_lit w l1 c1 h1).below (bel_alloc _ (.cells c2 3))).below (bel_alloc _ (.cells c3 3))).below z
  have a2 := ((ll_lit (w.alloc (.cells c1 3)) l2 c2 h2).below (bel_alloc _ (.cells c3 3))).below z
  have a3 := (ll_lit ((w.alloc (.cells c1 3)).alloc (.cells c2 3)) l3 c3 h3).below z
  rw [World.size_alloc] at a2
  rw [World.size_alloc, World.size_alloc] at a3
  have hn := World.alloc_heap_new (((w.alloc (.cells c1 3)).alloc (.cells c2 3)).alloc (.cells c3 3)) (.cells #[.slice (some ⟨w.heap.size, 0, none⟩) l1.length l1.length, .slice (some ⟨w.heap.size + 1, 0, none⟩) l2.length l2.length, .slice (some ⟨w.heap.size + 2, 0, none⟩) l3.length l3.length] 45)
  rw [World.size_alloc, World.size_alloc, World.size_alloc] at hn
  refine fun _ => ⟨w.heap.size + 3, 0, rfl, by simp, fun i hi => ?_⟩
  match i, hi with
  | 0, _ => exact ⟨_, _, (by rw [Lib.cell_of_heap hn]; rfl), ⟨(fun h => by cases h), Nat.le_refl _⟩, a1⟩
  | 1, _ => exact ⟨_, _, (by rw [Lib.cell_of_heap hn]; rfl), ⟨(fun h => by cases h), Nat.le_refl _⟩, a2⟩
  | 2, _ => exact ⟨_, _, (by rw [Lib.cell_of_heap hn]; rfl), ⟨(fun h => by cases h), Nat.le_refl _⟩, a3⟩
/-- Two layers, written. -/
theorem lys_lit2 (w : World) (l1 l2 l3 l4 : List Nat) (c1 c2 c3 c4 : Array Value) (h1 : c1 = (l1.map fun (x : Nat) => Value.int .i64 (x : Nat)).toArray) (h2 : c2 = (l2.map fun (x : Nat) => Value.int .i64 (x : Nat)).toArray) (h3 : c3 = (l3.map fun (x : Nat) => Value.int .i64 (x : Nat)).toArray) (h4 : c4 = (l4.map fun (x : Nat) => Value.int .i64 (x : Nat)).toArray) :
    LYs (((((w.alloc (.cells c1 3)).alloc (.cells c2 3)).alloc (.cells c3 3)).alloc (.cells c4 3)).alloc (.cells #[.slice (some ⟨w.heap.size, 0, none⟩) l1.length l1.length, .slice (some ⟨w.heap.size + 1, 0, none⟩) l2.length l2.length, .slice (some ⟨w.heap.size + 2, 0, none⟩) l3.length l3.length, .slice (some ⟨w.heap.size + 3, 0, none⟩) l4.length l4.length] 79)) (some ⟨w.heap.size + 4, 0, none⟩) 2 (fun i => [l1, l3].getD i []) (fun i => [l2, l4].getD i []) := by
  have z := bel_alloc ((((w.alloc (.cells c1 3)).alloc (.cells c2 3)).alloc (.cells c3 3)).alloc (.cells c4 3)) (.cells #[.slice (some ⟨w.heap.size, 0, none⟩) l1.length l1.length, .slice (some ⟨w.heap.size + 1, 0, none⟩) l2.length l2.length, .slice (some ⟨w.heap.size + 2, 0, none⟩) l3.length l3.length, .slice (some ⟨w.heap.size + 3, 0, none⟩) l4.length l4.length] 79)
  have a1 := ((((ll_lit w l1 c1 h1).below (bel_alloc _ (.cells c2 3))).below (bel_alloc _ (.cells c3 3))).below (bel_alloc _ (.cells c4 3))).below z
  have a2 := (((ll_lit (w.alloc (.cells c1 3)) l2 c2 h2).below (bel_alloc _ (.cells c3 3))).below (bel_alloc _ (.cells c4 3))).below z
  have a3 := ((ll_lit ((w.alloc (.cells c1 3)).alloc (.cells c2 3)) l3 c3 h3).below (bel_alloc _ (.cells c4 3))).below z
  have a4 := (ll_lit (((w.alloc (.cells c1 3)).alloc (.cells c2 3)).alloc (.cells c3 3)) l4 c4 h4).below z
  rw [World.size_alloc] at a2
  rw [World.size_alloc, World.size_alloc] at a3
  rw [World.size_alloc, World.size_alloc, World.size_alloc] at a4
  have hn := World.alloc_heap_new ((((w.alloc (.cells c1 3)).alloc (.cells c2 3)).alloc (.cells c3 3)).alloc (.cells c4 3)) (.cells #[.slice (some ⟨w.heap.size, 0, none⟩) l1.length l1.length, .slice (some ⟨w.heap.size + 1, 0, none⟩) l2.length l2.length, .slice (some ⟨w.heap.size + 2, 0, none⟩) l3.length l3.length, .slice (some ⟨w.heap.size + 3, 0, none⟩) l4.length l4.length] 79)
  rw [World.size_alloc, World.size_alloc, World.size_alloc, World.size_alloc] at hn
  refine fun _ => ⟨w.heap.size + 4, 0, rfl, by simp, fun i hi => ?_⟩
  match i, hi with
  | 0, _ => exact ⟨_, _, _, _, (by rw [Lib.cell_of_heap hn]; rfl), (by rw [Lib.cell_of_heap hn]; rfl), a1, a2⟩
  | 1, _ => exact ⟨_, _, _, _, (by rw [Lib.cell_of_heap hn]; rfl), (by rw [Lib.cell_of_heap hn]; rfl), a3, a4⟩
end Go.Proofs.Ytgmcbdnfgdmmaaa
