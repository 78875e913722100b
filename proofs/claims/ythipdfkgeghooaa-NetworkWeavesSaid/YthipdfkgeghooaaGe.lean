/- Merged: rows of values; slices.Repeat; slices.Clone; queues that lose their head. -/
import Derived.Test.YthipdfkgeghooaaKow
import Derived.Test.YthipdfkgeghooaaCim
import Derived.BigRegion
import Derived.Deep.AppendSrc
import Derived.Deep.LoopGhost
import Derived.Laws.CopyOwn
import Derived.Lib.Builder
import Derived.RangeFuncBox
/- Rows of values that a call has made. -/
namespace Go.Proofs.Ythipdfkgeghooaa
open Go.RowKit
set_option maxRecDepth 100000
set_option linter.unusedVariables false
set_option linter.unusedSimpArgs false

/-- A row of values of the call's own. -/
def VR (w : World) (g : Nat) (t : TypeId) (n : Nat) (F : Nat → Value) : Prop := ∃ cs : Array Value, w.heap[g]? = some (.cells cs t (0, 0)) ∧ n ≤ cs.size ∧ ∀ i, i < n → cs[i]? = some (F i)
section
variable {w w' : World} {g n B : Nat} {t : TypeId} {F : Nat → Value}
theorem VR.lt (h : VR w g t n F) : g < w.heap.size := by obtain ⟨cs, h, _⟩ := h; exact (Array.getElem?_eq_some_iff.1 h).1
theorem VR.cell (h : VR w g t n F) {i : Nat} (hi : i < n) : w.cell? ⟨g, i, none⟩ = some (F i) := by
  obtain ⟨cs, h1, _, h3⟩ := h
  rw [Lib.cell_of_heap h1]
  exact h3 i hi
theorem VR.free (h : VR w g t n F) (i : Nat) : w.frozen? ⟨g, i, none⟩ = false := by
  obtain ⟨cs, h1, _⟩ := h
  exact Lib.frozen_of_heap h1 i
theorem VR.below (h : VR w g t n F) (hb : Below B w w') (hg : g < B) : VR w' g t n F := by
  obtain ⟨cs, h1, h2⟩ := h
  exact ⟨cs, (hb.block g hg).trans h1, h2⟩
theorem VR.alloc (h : VR w g t n F) (o : Obj) : VR (w.alloc o) g t n F := by
  have hl := h.lt
  obtain ⟨cs, h1, h2⟩ := h
  exact ⟨cs, (Below.heap_alloc w o g hl).trans h1, h2⟩
theorem VR.far (h : VR w g t n F) {p : Addr} (hp : g ≠ p.block) (u : Value) : VR (w.setCell p u) g t n F := by
  obtain ⟨cs, h1, h2⟩ := h
  exact ⟨cs, (Below.heap_setCell w p u g hp).trans h1, h2⟩
theorem VR.set_ (h : VR w g t n F) (i : Nat) (v : Value) : VR (w.setCell ⟨g, i, none⟩ v) g t n (fun j => if j = i then v else F j) := by
  obtain ⟨cs, h1, h2, h3⟩ := h
  refine ⟨cs.setIfInBounds i v, by simp [World.setCell, Array.getElem?_modify, h1], by simpa using h2, fun j hj => ?_⟩
  rw [Array.getElem?_setIfInBounds]
  by_cases e : i = j
  · subst e; simp; omega
  · have e' : ¬ j = i := fun h => e h.symm
    simp [e, e', h3 j hj]
theorem VR.congr {F' : Nat → Value} (h : VR w g t n F) (e : ∀ i, i < n → F i = F' i) : VR w g t n F' := by
  obtain ⟨cs, h1, h2, h3⟩ := h
  exact ⟨cs, h1, h2, fun i hi => by rw [h3 i hi, e i hi]⟩
end
theorem VR.made (w : World) (n : Nat) (z : Value) (t : TypeId) : VR (w.alloc (.cells (madeCells #[z] n) t)) w.heap.size t n (fun _ => z) := by
  refine ⟨madeCells #[z] n, World.alloc_heap_new w _, Nat.le_of_eq (size_madeCells _ _).symm, fun i hi => ?_⟩
  simp [madeCells, hi, Nat.mod_one]
theorem Try.info3i : (Try.prog.info? 3).map (fun i => (i.zero, i.size, i.bytes)) = some (some (.int .i64 0), 1, 8) := by kernel_rfl
theorem mki_run (N : Nat) (hN : N ≤ 4096) (w : World) :
    (Instr.makeSlice 22 (.int .i64 (N : Nat)) (.int .i64 (N : Nat))).run Try.prog w = .ok (.slice (some ⟨w.heap.size, 0, none⟩) N N) (w.alloc (.cells (madeCells #[.int .i64 0] N) 3)) :=
  run_make_row' (P := Try.prog) 22 3 (.int .i64 0) 8 Try.underlying22 Try.info3i rfl .i64 .i64 N (by omega) (by omega) w
end Go.Proofs.Ythipdfkgeghooaa
namespace Go.Proofs.Ythipdfkgeghooaa.L2
open Go.RowKit
set_option linter.unusedVariables false
set_option linter.unusedSimpArgs false

/-- The block g is a row of N elements, known whole. -/
def RowL (w : World) (g N : Nat) (F : Nat → Int) : Prop := ∃ cur : List Value, w.heap[g]? = some (.cells cur.toArray 3 (0, 0)) ∧ cur.length = N ∧ ∀ i, i < N → cur[i]? = some (.int .i64 (F i))
theorem RowL.row {w : World} {g N : Nat} {F : Nat → Int} (h : RowL w g N F) : Row w g N F := by
  obtain ⟨cur, h1, h2, h3⟩ := h
  exact ⟨cur.toArray, h1, by simp; omega, fun i hi => by simpa using h3 i hi⟩
theorem RowL.made (w : World) (n : Nat) : RowL (w.alloc (.cells (madeCells #[.int .i64 0] n) 3)) w.heap.size n (fun _ => 0) := by
  refine ⟨(madeCells #[.int .i64 0] n).toList, ?_, by simp [size_madeCells], fun i hi => ?_⟩
  · show (w.heap.push _)[w.heap.size]? = _
    rw [Array.getElem?_push, if_pos rfl]
  · simp [madeCells, hi, Nat.mod_one]
theorem splice_get {cur : List Value} {off L N k : Nat} {v z : Int} (hl : cur.length = N) (hc : ∀ i, i < N → cur[i]? = some (.int .i64 (if i < k then v else z))) (ho : off = k) (hL : off + L ≤ N) :
    (splice cur off (List.replicate L (.int .i64 v))).length = N ∧ ∀ i, i < N → (splice cur off (List.replicate L (.int .i64 v)))[i]? = some (.int .i64 (if i < k + L then v else z)) := by
  subst ho
  refine ⟨by rw [length_splice _ _ _ (by simp; omega), hl], fun i hi => ?_⟩
  unfold splice
  by_cases h1 : i < off
  · rw [List.getElem?_append_left (by simp; omega), List.getElem?_take, if_pos h1, hc i hi, if_pos h1, if_pos (by omega)]
  · rw [List.getElem?_append_right (by simp; omega)]
    have e : (cur.take off).length = off := by simp; omega
    rw [e]
    by_cases h2 : i < off + L
    · rw [List.getElem?_append_left (by simp; omega), List.getElem?_replicate, if_pos (by omega), if_pos h2]
    · rw [List.getElem?_append_right (by simp; omega), List.length_replicate, List.getElem?_drop, if_neg h2]
      rw [show off + L + (i - off - L) = i by omega, hc i hi, if_neg h1]

theorem info1 : (Try.prog.info? 3).map (·.size) = some 1 := by kernel_rfl

end Go.Proofs.Ythipdfkgeghooaa.L2
namespace Go.Proofs.Ythipdfkgeghooaa
open Go.RowKit
/-- The i-th number of a list. -/
def lf (l : List Nat) (i : Nat) : Int := ((l.getD i 0 : Nat) : Int)
theorem lf_app {l r : List Nat} {i : Nat} (h : i < l.length) : lf l i = lf (l ++ r) i := by
  unfold lf
  rw [List.getD_eq_getElem?_getD, List.getD_eq_getElem?_getD, List.getElem?_append_left h]
theorem lf_last (l : List Nat) (k : Nat) : lf (l ++ [k]) l.length = (k : Int) := by
  unfold lf
  rw [List.getD_eq_getElem?_getD, List.getElem?_append_right (Nat.le_refl _)]
  simp
end Go.Proofs.Ythipdfkgeghooaa
/- The search of the program: steps, reached; queues that lose their head. -/
namespace Go.Proofs.Ythipdfkgeghooaa
open Go.RowKit
set_option maxRecDepth 100000
set_option linter.unusedVariables false
set_option linter.unusedSimpArgs false

/-- A list of natural numbers lies in a row of the call's own, from some place on. -/
def Tl (w : World) (base : Nat) (v : Value) (l : List Nat) : Prop :=
  ∃ g o cap cur, v = .slice (some ⟨g, o, none⟩) l.length cap ∧ base ≤ g ∧ w.heap[g]? = some (.cells cur 3 (0, 0)) ∧ l.length ≤ cap ∧ o + cap ≤ cur.size ∧ ∀ i, i < l.length → cur[o + i]? = some (.int .i64 (lf l i))
section
variable {w w' : World} {base B : Nat} {v : Value} {l : List Nat}
theorem Tl.keep (h : Tl w base v l) (hb : ∀ k, base ≤ k → k < w.heap.size → w'.heap[k]? = w.heap[k]?) : Tl w' base v l := by
  obtain ⟨g, o, cap, cur, e, hg, hc, r⟩ := h
  refine ⟨g, o, cap, cur, e, hg, (hb g hg ?_).trans hc, r⟩
  exact (Array.getElem?_eq_some_iff.1 hc).1
theorem Tl.below (h : Tl w base v l) (hb : Below w.heap.size w w') : Tl w' base v l := h.keep fun k _ hk => hb.block k hk
theorem Tl.far (h : Tl w base v l) {p : Addr} (hp : p.block < base) (u : Value) : Tl (w.setCell p u) base v l := h.keep fun k hk _ => Below.heap_setCell w p u k (by omega)
end
theorem tl_one (w : World) {base : Nat} (hb : base ≤ w.heap.size) (y : Nat) : Tl (w.alloc (.cells #[.int .i64 (y : Nat)] 3)) base (.slice (some ⟨w.heap.size, 0, none⟩) 1 1) [y] :=
  ⟨w.heap.size, 0, 1, #[.int .i64 (y : Nat)], rfl, hb, World.alloc_heap_new w _, Nat.le_refl _, Nat.le_refl _, fun i hi => by
    obtain rfl : i = 0 := by simp at hi; exact hi
    rfl⟩
end Go.Proofs.Ythipdfkgeghooaa
namespace Go.Proofs.Ythipdfkgeghooaa
open Go.RowKit
set_option maxRecDepth 100000
set_option linter.unusedVariables false
set_option linter.unusedSimpArgs false
end Go.Proofs.Ythipdfkgeghooaa
