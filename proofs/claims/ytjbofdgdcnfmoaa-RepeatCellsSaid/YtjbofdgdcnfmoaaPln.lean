/- plane: the rows of a grid's plane, each twice. -/
import Derived.Test.YtjbofdgdcnfmoaaChn
import Derived.Test.YtjbofdgdcnfmoaaSym
namespace Go.Proofs.Ytjbofdgdcnfmoaa
open Go.RowKit Go.Shelf
set_option maxRecDepth 100000
set_option linter.unusedVariables false
set_option linter.unusedSimpArgs false

theorem chunk_any (A : Option Addr) (n c W : Nat) (w : World) (hW : 1 ≤ W) :
    Calls Try.prog 131 #[.slice A n c, .int .i64 (W : Nat)] w fun e w' => e = .returned (.func (.func 143) #[] #[.pointer (some ⟨w.heap.size, 0, none⟩), .pointer (some ⟨w.heap.size + 1, 0, none⟩)]) ∧ w' = (w.alloc (.cells #[.slice A n c] 22)).alloc (.cells #[.int .i64 (W : Nat)] 3) := by
  have hmf := mk_fn
  have x1 : decide ((W : Int) < 1) = false := by simp; omega
  go_enter Try.func131, Try.ntmps131
  go_wp2
  go_ret
  exact ⟨rfl, rfl⟩
/-- The cells of some rows, each twice. -/
def rws (W : Nat) (f : Nat → Bool) {H : Nat} (l : List (Fin H)) : List Value := l.flatMap fun x => news W (fun i => f (x.1 * W + i)) ++ news W (fun i => f (x.1 * W + i))
theorem rws_snoc (W : Nat) (f : Nat → Bool) {H : Nat} (l : List (Fin H)) (x : Fin H) : rws W f (l ++ [x]) = rws W f l ++ (news W (fun i => f (x.1 * W + i)) ++ news W (fun i => f (x.1 * W + i))) := by simp [rws]
theorem rws_len (W : Nat) (f : Nat → Bool) {H : Nat} (l : List (Fin H)) : (rws W f l).length = l.length * (2 * W) := by
  induction l with
  | nil => simp [rws]
  | cons x l ih =>
    have : rws W f (x :: l) = (news W (fun i => f (x.1 * W + i)) ++ news W (fun i => f (x.1 * W + i))) ++ rws W f l := by simp [rws]
    have e : (l.length + 1) * (2 * W) = l.length * (2 * W) + 2 * W := by rw [Nat.add_mul, Nat.one_mul]
    rw [this, List.length_append, ih, List.length_append, news_length, List.length_cons, e]
    omega
/-- The cells of the plane's rows, each twice. -/
def tw2 (W : Nat) (f : Nat → Bool) (i : Nat) : Bool := f (i / (2 * W) * W + i % (2 * W) % W)
theorem news_add (n m : Nat) (f : Nat → Bool) : news (n + m) f = news n f ++ news m (fun i => f (n + i)) := by
  unfold news
  rw [List.range_add, List.map_append, List.map_map]
  rfl
theorem news_congr {n : Nat} {f g : Nat → Bool} (h : ∀ i, i < n → f i = g i) : news n f = news n g := by
  unfold news
  apply List.map_congr_left
  intro i hi
  rw [h i (List.mem_range.1 hi)]
theorem rws_fr (W : Nat) (hW : 1 ≤ W) (f : Nat → Bool) {H : Nat} : ∀ k, k ≤ H → rws W f (fr H k) = news (k * (2 * W)) (tw2 W f)
  | 0, _ => by simp [fr, rws, news]
  | k + 1, h => by
    have e : (k + 1) * (2 * W) = k * (2 * W) + W + W := by rw [Nat.add_mul, Nat.one_mul]; omega
    rw [fr_succ (show k < H by omega), rws_snoc, rws_fr W hW f k (by omega), e, news_add, news_add, List.append_assoc]
    congr 2
    · refine news_congr fun i hi => ?_
      show _ = tw2 W f (k * (2 * W) + i)
      unfold tw2
      rw [Nat.mul_comm k (2 * W), Nat.mul_add_div (by omega), Nat.mul_add_mod, Nat.div_eq_of_lt (by omega), Nat.mod_eq_of_lt (show i < 2 * W by omega), Nat.mod_eq_of_lt hi]
      rfl
    · refine news_congr fun i hi => ?_
      show _ = tw2 W f (k * (2 * W) + W + i)
      unfold tw2
      rw [Nat.add_assoc, Nat.mul_comm k (2 * W), Nat.mul_add_div (by omega), Nat.mul_add_mod, Nat.div_eq_of_lt (by omega), Nat.mod_eq_of_lt (show W + i < 2 * W by omega), Nat.add_mod_left, Nat.mod_eq_of_lt hi]
      rfl
attribute [local go_sem] Oper.semAt_some
theorem mk2_run (W H : Nat) (hN : W * H ≤ 100000) (w : World) : (Instr.makeSlice 22 (.int .i64 0) (.int .i64 (2 * ((W : Int) * (H : Int))))).run Try.prog w = .ok (.slice (some ⟨w.heap.size, 0, none⟩) 0 (2 * (W * H))) (w.alloc (.cells (madeCells #[.bool false] (2 * (W * H))) 4)) := by
  obtain ⟨i0, hi, hz0, hz1, hz2⟩ := info_parts Try.info4
  have h := run_make (P := Try.prog) w 22 4 i0 (.bool false) Try.underlying22 hi hz0 .i64 .i64 0 ((2 * (W * H) : Nat) : Int) (Int.le_refl _) (by omega) (by rw [hz2]; omega) (by omega)
  simp only [Int.toNat_zero, Int.toNat_natCast, hz1, Nat.mul_one] at h
  rw [Int.natCast_mul, Int.natCast_mul] at h
  exact h
/-- What a plane's function has captured. -/
structure PL (v : World) (lo g t W H k d : Nat) (s : Value) (f : Nat → Bool) : Prop where
  box : Box v g (W : Nat) (H : Nat) s
  var : v.cell? ⟨t, 0, none⟩ = some (.slice (some ⟨k, 0, none⟩) (H * (2 * W)) d)
  row : Row v k (H * (2 * W)) (tw2 W f)
  dd : H * (2 * W) ≤ d
  g0 : lo ≤ g
  t0 : lo ≤ t
  k0 : lo ≤ k
  tl : t < v.heap.size
theorem PL.next {v v' : World} {lo g t W H k d : Nat} {s : Value} {f : Nat → Bool} (h : PL v lo g t W H k d s f) (hb : Below v.heap.size v v') : PL v' lo g t W H k d s f :=
  ⟨h.box.below hb h.box.lt, (hb.cell (p := ⟨t, 0, none⟩) h.tl).trans h.var, h.row.below hb h.row.lt, h.dd, h.g0, h.t0, h.k0, Nat.lt_of_lt_of_le h.tl hb.size⟩
theorem box_own {β : Type} (g : Nat) (W H : Int) (s : Value) : Own (fun (_ : β) v => Box v g W H s) := by
  intro _ X Y row h hg hrow
  exact (hg.block g h.lt (fun e => by obtain ⟨o, ho, hc⟩ := hrow g e.symm; rw [show X.heap[g]? = _ from h] at ho; cases ho; cases hc)).trans h
/-- What lies while the rows are laid behind one another: the heap's size was s at the call. -/
structure PI (w W5 : World) (s W H b off cap : Nat) (f : Nat → Bool) (l : List (Fin H)) (X : World) : Prop where
  bx : ∃ v, Boxed X (s + 2) 22 v ∧ X.ownsRow (s + 1) 4 1 v (rws W f l).length (rws W f l) ∧ True
  gx : Box X s (W : Nat) (H : Nat) (.slice (some ⟨b, off, none⟩) (W * H) cap)
  b2 : Boxed X (s + 3) 22 (.slice (some ⟨b, off, none⟩) (W * H) cap)
  b3 : Boxed X (s + 4) 3 (.int .i64 (W : Nat))
  bel : Below s w X
/-- The blocks that the iterator reads. -/
def PB (s : Nat) (b : Nat) : Prop := b < s ∨ b = s + 3 ∨ b = s + 4
theorem boxed_own {β : Type} (B : Nat) (t : TypeId) (v : Value) : Own (fun (_ : β) X => Boxed X B t v) := by
  intro _ X Y row h hg hrow
  exact h.kept hg (fun e => by obtain ⟨o, ho, hc⟩ := hrow B e.symm; rw [show X.heap[B]? = _ from h] at ho; cases ho; cases hc)
theorem pi_own (w W5 : World) (s W H b off cap : Nat) (f : Nat → Bool) (hs : s ≤ w.heap.size) (B : Nat) (hB : s ≤ B) : OwnFrom B (PI w W5 s W H b off cap f) := by
  have h1 := OwnFrom.and (OwnFrom.and (OwnFrom.and (OwnFrom.and (Own.from (holdsRow_own (β := List (Fin H)) (s + 1) (s + 2) 22 4 1 (fun l => (rws W f l).length) (fun l => rws W f l) (fun _ _ => True)) B) (Own.from (box_own (β := List (Fin H)) s (W : Nat) (H : Nat) (.slice (some ⟨b, off, none⟩) (W * H) cap)) B)) (Own.from (boxed_own (β := List (Fin H)) (s + 3) 22 (.slice (some ⟨b, off, none⟩) (W * H) cap)) B)) (Own.from (boxed_own (β := List (Fin H)) (s + 4) 3 (.int .i64 (W : Nat))) B)) (ownFrom_below (β := List (Fin H)) (w₀ := w) hs hB)
  intro l X Y row h hg hr
  obtain ⟨⟨⟨⟨r1, r2⟩, r3⟩, r4⟩, r5⟩ := h1 l X Y row ⟨⟨⟨⟨h.bx, h.gx⟩, h.b2⟩, h.b3⟩, h.bel⟩ hg hr
  exact ⟨r1, r2, r3, r4, r5⟩
/-- One row is laid behind the others. -/
theorem ap_step {w X w1 : World} {s W H b off cap : Nat} {v v' : Value} {k : Nat} {xs ys : List Value} (hs : s ≤ X.heap.size) (hv : Boxed X (s + 2) 22 v) (hrow : X.ownsRow (s + 1) 4 1 v k xs) (hgx : Box X s (W : Nat) (H : Nat) (.slice (some ⟨b, off, none⟩) (W * H) cap))
    (h2 : Boxed X (s + 3) 22 (.slice (some ⟨b, off, none⟩) (W * H) cap)) (h3 : Boxed X (s + 4) 3 (.int .i64 (W : Nat))) (hb : Below s w X) (hown : w1.ownsRow (s + 1) 4 1 v' (k + W) (xs ++ ys)) (hg : X.grownBy w1 v.ownBlock) :
    Boxed w1 (s + 2) 22 v ∧ Boxed (w1.setCell ⟨s + 2, 0, none⟩ v') (s + 2) 22 v' ∧ (w1.setCell ⟨s + 2, 0, none⟩ v').ownsRow (s + 1) 4 1 v' (k + W) (xs ++ ys) ∧ Box (w1.setCell ⟨s + 2, 0, none⟩ v') s (W : Nat) (H : Nat) (.slice (some ⟨b, off, none⟩) (W * H) cap) ∧
    Boxed (w1.setCell ⟨s + 2, 0, none⟩ v') (s + 3) 22 (.slice (some ⟨b, off, none⟩) (W * H) cap) ∧ Boxed (w1.setCell ⟨s + 2, 0, none⟩ v') (s + 4) 3 (.int .i64 (W : Nat)) ∧ Below s w (w1.setCell ⟨s + 2, 0, none⟩ v') ∧ KeepsOthers X (w1.setCell ⟨s + 2, 0, none⟩ v') ∧ KB (PB s) X (w1.setCell ⟨s + 2, 0, none⟩ v') := by
  have hv1 : Boxed w1 (s + 2) 22 v := hv.kept hg (hv.not_row (by decide) hrow)
  have k2 : Boxed w1 (s + 3) 22 (.slice (some ⟨b, off, none⟩) (W * H) cap) := h2.kept hg (h2.not_row (by decide) hrow)
  have k3 : Boxed w1 (s + 4) 3 (.int .i64 (W : Nat)) := h3.kept hg (h3.not_row (by decide) hrow)
  have hgb : ∀ g, v.ownBlock = some g → s + 1 ≤ g ∧ ∃ cur, X.heap[g]? = some (.cells cur 4 (0, 0)) := by
    intro g e
    rcases hrow.2 with ⟨rfl, _⟩ | ⟨g', c', cur, rfl, h5, h6, _⟩
    · simp [Value.ownBlock] at e
    · obtain rfl : g' = g := by simpa [Value.ownBlock] using e
      exact ⟨h5, cur, h6⟩
  have hbx : Box w1 s (W : Nat) (H : Nat) (.slice (some ⟨b, off, none⟩) (W * H) cap) := (hg.block s hgx.lt (fun e => by have := (hgb s e.symm).1; omega)).trans hgx
  have hbl : Below s X w1 := (Below.refl s X).grown hg hs (fun g e => by have := (hgb g e).1; omega)
  have hkb : KB (PB s) X w1 := fun p hp => by
    by_cases hlt : p < X.heap.size
    · refine hg.block p hlt (fun e => ?_)
      obtain ⟨h5, cur, h6⟩ := hgb p e.symm
      rcases hp with hp | rfl | rfl
      · omega
      · have := (show X.heap[s + 3]? = _ from h2).symm.trans h6; simp at this
      · have := (show X.heap[s + 4]? = _ from h3).symm.trans h6; simp at this
    · have := h3.lt
      rcases hp with hp | rfl | rfl <;> omega
  refine ⟨hv1, hv1.set v', hown.kept (grownBy_setCell' w1 (s + 2) v') (.inr (hv1.not_row (by decide) hown).symm), hbx.far (by simp) _, ?_, ?_, ((hb.trans hbl).setCell (by simp) _), (KeepsOthers.of_grownBy hg fun j o ej hj => ?_).trans (KeepsOthers.setCell _ _ _), hkb.t fun p hp => ?_⟩
  · exact (Below.heap_setCell w1 ⟨s + 2, 0, none⟩ v' (s + 3) (by simp)).trans k2
  · exact (Below.heap_setCell w1 ⟨s + 2, 0, none⟩ v' (s + 4) (by simp)).trans k3
  · obtain ⟨_, cur, h6⟩ := hgb j ej
    rw [h6] at hj; cases hj; rfl
  · refine Below.heap_setCell w1 ⟨s + 2, 0, none⟩ v' p ?_
    rcases hp with hp | rfl | rfl <;> simp <;> omega
end Go.Proofs.Ytjbofdgdcnfmoaa
