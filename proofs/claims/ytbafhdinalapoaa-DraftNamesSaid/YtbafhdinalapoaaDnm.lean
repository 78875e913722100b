/- DraftNames: its calls, one by one. -/
import Derived.Test.YtbafhdinalapoaaKpm
import Derived.Test.YtbafhdinalapoaaAlv
import Derived.Test.YtbafhdinalapoaaFrf
import Derived.Test.YtbafhdinalapoaaParse
import Derived.Test.YtbafhdinalapoaaIxb
namespace Go.Proofs.Ytbafhdinalapoaa
open Go.RowKit
set_option linter.unusedVariables false
set_option linter.unusedSimpArgs false
set_option maxRecDepth 100000

open L2 (nd ren)
/-- The elements of a list, by their places. -/
def at0 (l : List Int) : Nat → Int := fun i => l.getD i 0
theorem irow_lit (w : World) (l : List Int) : L2.Row (w.alloc (.cells (l.map (Value.int .i64)).toArray 3)) w.heap.size l.length (at0 l) := by
  refine ⟨(l.map (Value.int .i64)).toArray, heap_new w _, by simp, fun i hi => ?_⟩
  simp [at0, List.getD, hi]
/-- The lifts of the example. -/
def lf (i : Nat) : Bool := i == 0 || i == 1 || i == 4 || i == 6 || i == 7
theorem parse1 (w : World) : Calls Try.prog 12 #[.string ⟨#[120, 120, 46, 10, 46, 120, 46, 10, 120, 120, 46, 10]⟩] w fun e w' => ∃ k, e = .returned (.tuple #[.agg #[.int .i64 3, .int .i64 3, .slice (some ⟨k, 0, none⟩) 9 9], .int .i64 0]) ∧ w.heap.size ≤ k ∧ Row w' k 9 lf ∧ Below w.heap.size w w' := by
  refine (parse_ok ⟨#[120, 120, 46, 10, 46, 120, 46, 10, 120, 120, 46, 10]⟩ 3 3 w (by decide) (by omega) (by omega) (by omega) (by omega) (by decide) ⟨by decide, ?_⟩ (fun W' => ?_)).mono fun e w' ⟨k, he, hk, hr, hb⟩ => ⟨k, he, hk, hr.congr ?_, hb⟩
  · have key : ∀ i (h : i < 12), okAt ⟨#[120, 120, 46, 10, 46, 120, 46, 10, 120, 120, 46, 10]⟩ 3 i h := by unfold okAt; decide +kernel
    exact key
  · exact (Try.strings_IndexByte _ 10 W').mono fun e w' h => by
      refine ⟨?_, h.2⟩
      rw [h.1]
      rfl
  · decide
/-- The draft of the example. -/
def pd : PD := ⟨3, 2, 4, 3, fun i => if i = 0 then 2 else if i = 1 then 1 else 0, fun i => if i = 1 then 1 else 0, fun t s => s == 1 || (t == 0 && s == 0)⟩
theorem pd_ok : pd.Ok := ⟨by decide, by decide, by decide, by decide, by decide, by decide, by decide, by decide, by decide, by decide⟩
theorem all2 {T S : Nat} {P : Nat → Nat → Prop} (h : ∀ t, t < T → ∀ s, s < S → P t s) : ∀ t s, t < T → s < S → P t s := fun t s ht hs => h t ht s hs
theorem pd_eqv : (flp 3 3 4 (at0 [2, 1, 0, 0]) lf).Eqv pd := ⟨rfl, by decide, rfl, rfl, by decide, by decide, all2 (by decide)⟩
theorem fl1 (t k : Nat) (w : World) (ht : L2.Holds w w.heap.size (some ⟨t, 0, none⟩) 4 (at0 [2, 1, 0, 0])) (hr : Holds w w.heap.size (some ⟨k, 0, none⟩) 9 lf) :
    Calls Try.prog 13 #[.slice (some ⟨t, 0, none⟩) 4 4, .agg #[.int .i64 3, .int .i64 3, .slice (some ⟨k, 0, none⟩) 9 9]] w fun e w' => ∃ a ca b cb c cc, e = .returned (.tuple #[.agg #[.int .i64 3, .int .i64 2, .slice (some ⟨a, 0, none⟩) 4 ca, .slice (some ⟨b, 0, none⟩) 3 cb, .int .i64 2, .int .i64 3, .slice (some ⟨c, 0, none⟩) 6 cc], .int .i64 0]) ∧ (pd.dr a ca b cb c cc).In w' w'.heap.size ∧ Below w.heap.size w w' := by
  refine (fromlift_ok (some ⟨t, 0, none⟩) 4 4 (at0 [2, 1, 0, 0]) 3 3 k 0 9 lf w ht hr (by omega) (by omega) (by omega) (by omega) (by omega) (by decide) (by omega) (by decide)).mono fun e w' ⟨a, ca, b, cb, c, cc, he, hrw, hb⟩ => ⟨a, ca, b, cb, c, cc, ?_, (hrw.eqv pd_eqv).dr ca cb cc, hb⟩
  rw [he]
  have e1 : (flp 3 3 4 (at0 [2, 1, 0, 0]) lf).T = 2 := by decide
  have e2 : (flp 3 3 4 (at0 [2, 1, 0, 0]) lf).S = 3 := rfl
  rw [e1, e2]
  rfl
theorem wv1 (a ca b cb c cc : Nat) (w : World) (hd : (pd.dr a ca b cb c cc).In w w.heap.size) :
    Calls Try.prog 14 #[.agg #[.int .i64 3, .int .i64 2, .slice (some ⟨a, 0, none⟩) 4 ca, .slice (some ⟨b, 0, none⟩) 3 cb, .int .i64 2, .int .i64 3, .slice (some ⟨c, 0, none⟩) 6 cc]] w fun e w' => ∃ k, e = .returned (.tuple #[.agg #[.int .i64 4, .int .i64 3, .slice (some ⟨k, 0, none⟩) 12 12], .int .i64 0]) ∧ w.heap.size ≤ k ∧ Row w' k 12 pd.wv ∧ Below w.heap.size w w' :=
  weave_ok (pd.dr_is a ca b cb c cc) pd_ok w hd
theorem rd1 (k : Nat) (w : World) (hr : Holds w w.heap.size (some ⟨k, 0, none⟩) 12 pd.wv) :
    Calls Try.prog 20 #[.agg #[.int .i64 4, .int .i64 3, .slice (some ⟨k, 0, none⟩) 12 12], .int .i64 0, .string ⟨#[46, 120, 120, 120, 10, 46, 120, 46, 46, 10, 46, 120, 120, 120, 10]⟩] w fun e w' => e = .returned (.bool true) ∧ Below w.heap.size w w' :=
  reads_yes 4 3 (some ⟨k, 0, none⟩) 12 pd.wv _ w hr (by omega) (by omega) (by omega) (by omega) (by decide)
/-- The draft that is pruned. -/
def pq : PD := ⟨4, 3, 2, 1, fun i => if i = 0 then 3 else 1, fun _ => 2, fun t s => s == 0 || s == 2 || (t == 2 && s == 1)⟩
theorem pq_ok : pq.Ok := ⟨by decide, by decide, by decide, by decide, by decide, by decide, by decide, by decide, by decide, by decide⟩
/-- .. and what is left of it. -/
def pp : PD := ⟨2, 1, 2, 1, fun i => if i = 0 then 1 else 0, fun _ => 0, fun _ s => s == 0⟩
theorem pp_ok : pp.Ok := ⟨by decide, by decide, by decide, by decide, by decide, by decide, by decide, by decide, by decide, by decide⟩
theorem pp_eqv : pq.prune.Eqv pp := ⟨by decide, by decide, rfl, rfl, by decide, by decide, all2 (by decide)⟩
def bl12 : List Bool := [true, true, true, false, false, true, true, true, true, false, false, false]
theorem pr1 (t r k : Nat) (w : World) (h1 : L2.Holds w w.heap.size (some ⟨t, 0, none⟩) 2 (at0 [3, 1])) (h2 : L2.Holds w w.heap.size (some ⟨r, 0, none⟩) 1 (at0 [2])) (h3 : Holds w w.heap.size (some ⟨k, 0, none⟩) 12 (fun i => bl12.getD i false)) :
    Calls Try.prog 15 #[.agg #[.int .i64 4, .int .i64 3, .slice (some ⟨t, 0, none⟩) 2 2, .slice (some ⟨r, 0, none⟩) 1 1, .int .i64 3, .int .i64 4, .slice (some ⟨k, 0, none⟩) 12 12]] w fun e w' => ∃ a ca b cb c cc, e = .returned (.tuple #[.agg #[.int .i64 2, .int .i64 1, .slice (some ⟨a, 0, none⟩) 2 ca, .slice (some ⟨b, 0, none⟩) 1 cb, .int .i64 1, .int .i64 2, .slice (some ⟨c, 0, none⟩) 2 cc], .int .i64 0]) ∧ (pp.dr a ca b cb c cc).In w' w'.heap.size ∧ Below w.heap.size w w' := by
  have hI : (⟨4, 3, some ⟨t, 0, none⟩, 2, 2, some ⟨r, 0, none⟩, 1, 1, 3, 4, some ⟨k, 0, none⟩, 12, 12, at0 [3, 1], at0 [2], fun i => bl12.getD i false⟩ : Dr).Is pq := ⟨rfl, rfl, rfl, rfl, rfl, rfl, rfl, (by decide : ∀ i, i < 2 → at0 [3, 1] i = (pq.F i : Nat)), (by decide : ∀ i, i < 1 → at0 [2] i = (pq.G i : Nat)), all2 (by decide : ∀ t, t < 3 → ∀ s, s < 4 → bl12.getD (s * 3 + t) false = pq.L t s)⟩
  refine (prune_ok hI pq_ok w ⟨h1, h2, h3⟩).mono fun e w' ⟨a, ca, b, cb, c, cc, he, hrw, hb⟩ => ⟨a, ca, b, cb, c, cc, ?_, (hrw.eqv pp_eqv).dr ca cb cc, hb⟩
  rw [he]
  have e1 : pq.prune.T = 1 := by decide
  have e2 : pq.prune.S = 2 := by decide
  rw [e1, e2]
  rfl
theorem rd2 (k cc : Nat) (w : World) (hr : Holds w w.heap.size (some ⟨k, 0, none⟩) 2 (fun i => pp.L (i % 1) (i / 1))) :
    Calls Try.prog 20 #[.agg #[.int .i64 1, .int .i64 2, .slice (some ⟨k, 0, none⟩) 2 cc], .int .i64 0, .string ⟨#[46, 10, 120, 10]⟩] w fun e w' => e = .returned (.bool true) ∧ Below w.heap.size w w' :=
  reads_yes 1 2 (some ⟨k, 0, none⟩) cc _ _ w hr (by omega) (by omega) (by omega) (by omega) (by decide)
/-- The draft of the examples, renumbered. -/
def gn : PD := ⟨2, 2, 3, 2, fun i => if i = 1 then 0 else 1, fun i => if i = 1 then 1 else 0, fun t s => decide (t ≠ s)⟩
theorem gn_eqv : (gv.rnm (at0 [1, 0]) (at0 [0, 1])).Eqv gn := ⟨rfl, rfl, rfl, rfl, by decide, by decide, all2 (by decide)⟩
theorem rn1 (t r a2 ca2 b2 cb2 c2 cc2 : Nat) (w : World) (hd : (gv.dr a2 ca2 b2 cb2 c2 cc2).In w w.heap.size) (h1 : L2.Holds w w.heap.size (some ⟨t, 0, none⟩) 2 (at0 [1, 0])) (h2 : L2.Holds w w.heap.size (some ⟨r, 0, none⟩) 2 (at0 [0, 1])) :
    Calls Try.prog 16 #[.agg #[.int .i64 2, .int .i64 2, .slice (some ⟨a2, 0, none⟩) 3 ca2, .slice (some ⟨b2, 0, none⟩) 2 cb2, .int .i64 2, .int .i64 2, .slice (some ⟨c2, 0, none⟩) 4 cc2], .slice (some ⟨t, 0, none⟩) 2 2, .slice (some ⟨r, 0, none⟩) 2 2] w fun e w' => ∃ a ca b cb c cc, e = .returned (.tuple #[.agg #[.int .i64 2, .int .i64 2, .slice (some ⟨a, 0, none⟩) 3 ca, .slice (some ⟨b, 0, none⟩) 2 cb, .int .i64 2, .int .i64 2, .slice (some ⟨c, 0, none⟩) 4 cc], .int .i64 0]) ∧ (gn.dr a ca b cb c cc).In w' w'.heap.size ∧ Below w.heap.size w w' :=
  (renumber_ok (gv.dr_is a2 ca2 b2 cb2 c2 cc2) gv_ok _ _ 2 2 2 2 _ _ (by decide) (by decide) w hd h1 h2).mono fun e w' ⟨a, ca, b, cb, c, cc, he, hrw, hb⟩ => ⟨a, ca, b, cb, c, cc, he, (hrw.eqv gn_eqv).dr ca cb cc, hb⟩
theorem rd3 (k cc : Nat) (w : World) (hr : Holds w w.heap.size (some ⟨k, 0, none⟩) 4 (fun i => gn.L (i % 2) (i / 2))) :
    Calls Try.prog 20 #[.agg #[.int .i64 2, .int .i64 2, .slice (some ⟨k, 0, none⟩) 4 cc], .int .i64 0, .string ⟨#[120, 46, 10, 46, 120, 10]⟩] w fun e w' => e = .returned (.bool true) ∧ Below w.heap.size w w' :=
  reads_yes 2 2 (some ⟨k, 0, none⟩) cc _ _ w hr (by omega) (by omega) (by omega) (by omega) (by decide)
theorem rn_no (t r a2 ca2 b2 cb2 c2 cc2 : Nat) (w : World) (hd : (gv.dr a2 ca2 b2 cb2 c2 cc2).In w w.heap.size) (h1 : L2.Holds w w.heap.size (some ⟨t, 0, none⟩) 2 (at0 [0, 0])) (h2 : L2.Holds w w.heap.size (some ⟨r, 0, none⟩) 2 (at0 [0, 1])) :
    Calls Try.prog 16 #[.agg #[.int .i64 2, .int .i64 2, .slice (some ⟨a2, 0, none⟩) 3 ca2, .slice (some ⟨b2, 0, none⟩) 2 cb2, .int .i64 2, .int .i64 2, .slice (some ⟨c2, 0, none⟩) 4 cc2], .slice (some ⟨t, 0, none⟩) 2 2, .slice (some ⟨r, 0, none⟩) 2 2] w (ErrDr w 2) :=
  renumber_s (gv.dr_is a2 ca2 b2 cb2 c2 cc2) gv_ok _ _ 2 2 2 2 _ _ (by decide) w hd h1 h2
theorem rn_no3 (t r a2 ca2 b2 cb2 c2 cc2 : Nat) (w : World) (hd : (gv.dr a2 ca2 b2 cb2 c2 cc2).In w w.heap.size) (h1 : L2.Holds w w.heap.size (some ⟨t, 0, none⟩) 2 (at0 [0, 1])) (h2 : L2.Holds w w.heap.size (some ⟨r, 0, none⟩) 3 (at0 [0, 1, 2])) :
    Calls Try.prog 16 #[.agg #[.int .i64 2, .int .i64 2, .slice (some ⟨a2, 0, none⟩) 3 ca2, .slice (some ⟨b2, 0, none⟩) 2 cb2, .int .i64 2, .int .i64 2, .slice (some ⟨c2, 0, none⟩) 4 cc2], .slice (some ⟨t, 0, none⟩) 2 2, .slice (some ⟨r, 0, none⟩) 3 3] w (ErrDr w 2) :=
  renumber_t (gv.dr_is a2 ca2 b2 cb2 c2 cc2) gv_ok _ _ 2 3 2 3 _ _ (by decide) (by decide) w hd h1 h2
theorem tn1 (a2 ca2 b2 cb2 c2 cc2 : Nat) (w : World) (hd : (gv.dr a2 ca2 b2 cb2 c2 cc2).In w w.heap.size) :
    Calls Try.prog 18 #[.agg #[.int .i64 2, .int .i64 2, .slice (some ⟨a2, 0, none⟩) 3 ca2, .slice (some ⟨b2, 0, none⟩) 2 cb2, .int .i64 2, .int .i64 2, .slice (some ⟨c2, 0, none⟩) 4 cc2]] w fun e w' => ∃ a ca b cb c cc, e = .returned (.tuple #[.agg #[.int .i64 2, .int .i64 2, .slice (some ⟨a, 0, none⟩) 2 ca, .slice (some ⟨b, 0, none⟩) 3 cb, .int .i64 2, .int .i64 2, .slice (some ⟨c, 0, none⟩) 4 cc], .int .i64 0]) ∧ (gv.turn.dr a ca b cb c cc).In w' w'.heap.size ∧ Below w.heap.size w w' :=
  (dturn_ok (gv.dr_is a2 ca2 b2 cb2 c2 cc2) gv_ok w hd).mono fun e w' ⟨a, ca, b, cb, c, cc, he, hrw, hb⟩ => ⟨a, ca, b, cb, c, cc, he, hrw.dr ca cb cc, hb⟩
theorem fl_nil (k : Nat) (w : World) (hr : Holds w w.heap.size (some ⟨k, 0, none⟩) 9 lf) :
    Calls Try.prog 13 #[.slice none 0 0, .agg #[.int .i64 3, .int .i64 3, .slice (some ⟨k, 0, none⟩) 9 9]] w (ErrDr w 8) :=
  fromlift_h none 0 0 (fun _ => 0) 3 3 k 0 9 lf w L2.Holds.none_ hr (by omega) (by omega) (by omega) (by omega) (by omega) (by omega) (by omega) (by omega) (by decide) (by decide)
theorem fl_3 (t k : Nat) (w : World) (ht : L2.Holds w w.heap.size (some ⟨t, 0, none⟩) 1 (at0 [3])) (hr : Holds w w.heap.size (some ⟨k, 0, none⟩) 9 lf) :
    Calls Try.prog 13 #[.slice (some ⟨t, 0, none⟩) 1 1, .agg #[.int .i64 3, .int .i64 3, .slice (some ⟨k, 0, none⟩) 9 9]] w (ErrDr w 8) :=
  fromlift_h _ 1 1 (at0 [3]) 3 3 k 0 9 lf w ht hr (by omega) (by omega) (by omega) (by omega) (by omega) (by omega) (by omega) (by omega) (by decide) (by decide)
theorem fl_65 (t k : Nat) (w : World) (ht : L2.Holds w w.heap.size (some ⟨t, 0, none⟩) 65 (fun _ => 0)) (hr : Holds w w.heap.size (some ⟨k, 0, none⟩) 9 lf) :
    Calls Try.prog 13 #[.slice (some ⟨t, 0, none⟩) 65 65, .agg #[.int .i64 3, .int .i64 3, .slice (some ⟨k, 0, none⟩) 9 9]] w (ErrDr w 4) :=
  fromlift_n _ 65 65 (fun _ => 0) 3 3 k 0 9 lf w ht hr (by omega) (by omega) (by omega) (by omega) (by omega) (by omega) (by omega)
theorem fl_41 (t k : Nat) (w : World) (ht : L2.Holds w w.heap.size (some ⟨t, 0, none⟩) 1 (at0 [0])) (hr : Holds w w.heap.size (some ⟨k, 0, none⟩) 41 (fun _ => false)) :
    Calls Try.prog 13 #[.slice (some ⟨t, 0, none⟩) 1 1, .agg #[.int .i64 41, .int .i64 1, .slice (some ⟨k, 0, none⟩) 41 41]] w (ErrDr w 4) :=
  fromlift_W _ 1 1 (at0 [0]) 41 1 k 0 41 (fun _ => false) w ht hr (by omega) (by omega) (by omega) (by omega) (by omega) (by omega) (by omega) (by omega)
theorem fl_0 (t : Nat) (w : World) :
    Calls Try.prog 13 #[.slice (some ⟨t, 0, none⟩) 1 1, .agg #[.int .i64 0, .int .i64 0, .slice none 0 0]] w (ErrDr w 8) :=
  fromlift_g _ 1 1 0 0 none 0 0 8 w (by omega) (by decide) (by decide)
theorem heap_new' : True := trivial
end Go.Proofs.Ytbafhdinalapoaa
