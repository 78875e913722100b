/- Merged: Chn Pln Pla Plb Plc Pld. -/
import Derived.RangeFuncBox
import Derived.RangeFuncLeaves
import Derived.RangeFuncNested
import Derived.Shelf.Abstract
import Derived.Shelf.RegionOpen
import Derived.WalkKit
import Derived.OwnWalkIn
import Derived.TacticsInMore
import Derived.LoopNIn
import Derived.LoopIn
import Derived.BigRegionIn
import Derived.Sort.CutIn
import Derived.Test.YtmakjdfkldacaaaSa
import Derived.RangeFuncFrom
import Derived.Test.YtmakjdfkldacaaaGb

/- slices.Chunk of a row of cells, by the width of a grid: the iterator's contract. -/
namespace Go.Proofs.Ytmakjdfkldacaaa
open Go.RowKit Go.Shelf
set_option maxRecDepth 100000
set_option linter.unusedVariables false
set_option linter.unusedSimpArgs false

attribute [local go_sem] Oper.semAt_some
/-- The blocks of which P speaks lie as they lay. -/
def KB (P : Nat → Prop) (W W' : World) : Prop := ∀ b, P b → W'.heap[b]? = W.heap[b]?
theorem KB.refl (P : Nat → Prop) (W : World) : KB P W W := fun _ _ => rfl
theorem KB.t {P : Nat → Prop} {A B C : World} (h : KB P A B) (k : KB P B C) : KB P A C := fun b hb => (k b hb).trans (h b hb)
theorem KB.b {P : Nat → Prop} {w : World} (hn : ∀ b, P b → b < w.heap.size) (W : World) (l : Nat) (o o' : Obj) (hl : w.heap.size ≤ l) (h : W.heap[l]? = some o) (h1 : o.isCells = false) (h2 : o.isWalk = false) : KB P W (W.putObj l o') :=
  fun b hb => (belowK_b (Nat.le_refl w.heap.size) W l o o' hl h h1 h2).block b (hn b hb)
theorem KB.cell {P : Nat → Prop} {W W' : World} (h : KB P W W') (b o : Nat) (h1 : P b) : W'.cell? ⟨b, o, none⟩ = W.cell? ⟨b, o, none⟩ := by
  simp [World.cell?, h b h1]
/-- The first k numbers below H. -/
def fr (H k : Nat) : List (Fin H) := (List.finRange H).take k
theorem fr_len {H k : Nat} (h : k ≤ H) : (fr H k).length = k := by simp [fr]; omega
theorem fr_succ {H k : Nat} (h : k < H) : fr H (k + 1) = fr H k ++ [⟨k, h⟩] := by
  unfold fr
  rw [List.take_add_one]
  simp [h]
theorem fr_all (H : Nat) : fr H H = List.finRange H := by
  unfold fr
  exact List.take_of_length_le (by simp)
set_option maxHeartbeats 800000 in
theorem chunk1_in (F : Fence) (n : Nat) (h143 : F.fn 88) (hro : F.round = none) (hn : 1 ≤ n) (P : Nat → Prop) (l B2 B3 b off W H cap : Nat) (hW0 : 1 ≤ W) (hW : W ≤ 64) (hH : H ≤ 64) (hcap : W * H ≤ cap) (hb : P b) (h2 : P B2) (h3 : P B3) (J Jx : List (Fin H) → World → Prop) (W0 : World) (hJ : AbidesFrom W0.heap.size J)
    (hY : ∀ pre x W1, J pre W1 → pre.length < H → YieldAt F (n - 1) Try.prog l #[.slice (some ⟨b, off + x.1 * W, none⟩) W W] W1 fun e W' =>
      (e = .returned (.bool true) ∧ J (pre ++ [x]) W' ∧ KB P W1 W') ∨ (e = .returned (.bool false) ∧ Jx (pre ++ [x]) W'))
    (hB2 : W0.cell? ⟨B2, 0, none⟩ = some (.slice (some ⟨b, off, none⟩) (W * H) cap)) (hB3 : W0.cell? ⟨B3, 0, none⟩ = some (.int .i64 (W : Nat))) (h0 : J [] W0) :
    CallsIn F n Try.prog 88 #[.func (.yield l) #[] #[], .pointer (some ⟨B2, 0, none⟩), .pointer (some ⟨B3, 0, none⟩)] W0 fun e W' => (∃ v, e = .returned v) ∧
      ((∃ ys, ys = List.finRange H ∧ J ys W') ∨ (∃ pre, (∃ k, k ≤ H ∧ pre = fr H k) ∧ Jx pre W')) := by
  refine callsIn_of_wp Try.func88 rfl h143 ?_ hro
  simp only [Try.ntmps88, List.size_toArray, List.length_cons, List.length_nil, Nat.reduceAdd, Nat.reduceSub, Array.replicate_succ, Array.replicate_zero, List.push_toArray, List.append_toArray, List.nil_append, List.cons_append]
  gi_wp2
  gi_loopw [4] (fun i wr => ∃ k : Nat, k ≤ H ∧ i = .int .i64 ((k * W : Nat) : Int) ∧ J (fr H k) wr ∧ KB P W0 wr)
    (fun i _ => W * H - (intOf i).toNat)
  case atStart => exact ⟨0, Nat.zero_le _, by simp, by simpa [fr] using h0, KB.refl _ _⟩
  case round =>
    obtain ⟨k, hk, rfl, hJs, hkb⟩ := hrel
    have c2 := (hkb.cell B2 0 h2).trans hB2
    have c3 := (hkb.cell B3 0 h3).trans hB3
    have hWH : W * H ≤ 4096 := Nat.mul_le_mul hW hH
    by_cases hlt : k < H
    · have e1 : k * W + W ≤ W * H := by rw [← Nat.succ_mul, Nat.mul_comm W H]; exact Nat.mul_le_mul_right W hlt
      obtain ⟨p, hp⟩ : ∃ p, k * W = p := ⟨_, rfl⟩
      rw [hp] at e1 ⊢
      have x1 : decide (((p : Nat) : Int) < ((W * H : Nat) : Int)) = true := by simp; omega
      have x2 : (p : Int) ≤ ((W * H : Nat) : Int) := by omega
      have x3 : (0 : Int) ≤ (p : Int) := by omega
      have x4 : ((W * H : Nat) : Int) ≤ (cap : Int) := by omega
      have hmin : min (W : Int) ((W * H - p : Nat) : Int) = (W : Int) := by omega
      have x5 : (p : Int) + (W : Int) ≤ (cap : Int) := by omega
      have x6 : IntKind.i64.wrap ((p : Int) + (W : Int)) = (p : Int) + (W : Int) := IntWalk.i64_in _ (by omega)
      obtain ⟨fn, tmps, assign, body, hy, hR⟩ := hY _ ⟨k, hlt⟩ wr.drew (hJ _ wr wr.drew none hJs ⟨rfl, rfl, rfl, Nat.le_refl _, fun _ _ _ => rfl⟩ (fun r e => by cases e)) (by rw [fr_len hk]; exact hlt)
      dsimp only at hy
      rw [hp] at hy
      gi_wp2
      gi_cut [5] from 6 (fun s5 wc => s5 = .int .i64 (W : Nat) ∧ wc = wr.drew)
      case first =>
        gi_region
        all_goals
          gi_wp2_with fail
          gi_meet
          case rel => exact ⟨rfl, rfl⟩
      case rest =>
        obtain ⟨rfl, rfl⟩ := hcut
        have hkd := hkb.t (show KB P wr wr.drew from fun _ _ => rfl)
        have c4 : wr.drew.cell? ⟨B2, 0, none⟩ = some (.slice (some ⟨b, off, none⟩) (W * H) cap) := c2
        generalize wr.drew = wv at *
        gi_wp2
        refine hR.mono ?_
        rintro e W3 (⟨rfl, hJ3, hk3⟩ | ⟨rfl, hJx3⟩)
        · have c2' := (hkd.t hk3).cell B2 0 h2
          have c3' := (hkd.t hk3).cell B3 0 h3
          rw [hB2] at c2'
          rw [hB3] at c3'
          gi_wp2
          go_roundw
          case rel => exact ⟨k + 1, by omega, by rw [Nat.succ_mul, hp]; simp, by rw [fr_succ hlt]; exact hJ3, hkd.t hk3⟩
          case measure => simp [intOf]; omega
        · gi_wp2
          refine bodyPost_ret (results_none rfl _ _ _) rfl ?_
          exact ⟨⟨_, rfl⟩, .inr ⟨_, ⟨k + 1, by omega, (fr_succ hlt).symm⟩, hJx3⟩⟩
    · obtain rfl : k = H := by omega
      have e2 : k * W = W * k := Nat.mul_comm _ _
      have x1 : decide (((k * W : Nat) : Int) < ((W * k : Nat) : Int)) = false := by rw [e2]; simp
      gi_wp2
      go_end0
      exact ⟨⟨_, rfl⟩, .inl ⟨_, fr_all k, hJs⟩⟩
theorem chunk_stops (F : Fence) (n : Nat) (h143 : F.fn 88) (hro : F.round = none) (hn : 1 ≤ n) (P : Nat → Prop) (B2 B3 b off W H cap : Nat) (hW0 : 1 ≤ W) (hW : W ≤ 64) (hH : H ≤ 64) (hcap : W * H ≤ cap) (hb : P b) (h2 : P B2) (h3 : P B3)
    (w : World) (hn0 : ∀ b, P b → b < w.heap.size) (hB2 : w.cell? ⟨B2, 0, none⟩ = some (.slice (some ⟨b, off, none⟩) (W * H) cap)) (hB3 : w.cell? ⟨B3, 0, none⟩ = some (.int .i64 (W : Nat))) :
    SeqStopsK F n Try.prog 88 #[.pointer (some ⟨B2, 0, none⟩), .pointer (some ⟨B3, 0, none⟩)] (fun x : Fin H => #[Value.slice (some ⟨b, off + x.1 * W, none⟩) W W]) (KB P) (fun ys => ys = List.finRange H) (fun pre => ∃ k, k ≤ H ∧ pre = fr H k) H w :=
  fun l J Jx W0 hW0' hJ _ hY h0 => chunk1_in F n h143 hro hn P l B2 B3 b off W H cap hW0 hW hH hcap hb h2 h3 J Jx W0 hJ hY ((hW0'.cell (p := ⟨B2, 0, none⟩) (hn0 _ h2)).trans hB2) ((hW0'.cell (p := ⟨B3, 0, none⟩) (hn0 _ h3)).trans hB3) h0
end Go.Proofs.Ytmakjdfkldacaaa

/- plane: the rows of a grid's plane, each twice. -/
namespace Go.Proofs.Ytmakjdfkldacaaa
open Go.RowKit Go.Shelf
set_option maxRecDepth 100000
set_option linter.unusedVariables false
set_option linter.unusedSimpArgs false

theorem chunk_any (A : Option Addr) (n c W : Nat) (w : World) (hW : 1 ≤ W) :
    Calls Try.prog 85 #[.slice A n c, .int .i64 (W : Nat)] w fun e w' => e = .returned (.func (.func 88) #[] #[.pointer (some ⟨w.heap.size, 0, none⟩), .pointer (some ⟨w.heap.size + 1, 0, none⟩)]) ∧ w' = (w.alloc (.cells #[.slice A n c] 22)).alloc (.cells #[.int .i64 (W : Nat)] 3) := by
  have hmf := mk_fn
  have x1 : decide ((W : Int) < 1) = false := by simp; omega
  go_enter Try.func85, Try.ntmps85
  go_wp2
  go_ret
  exact ⟨rfl, rfl⟩
/-- The cells of some rows, each twice. -/
def rws (W : Nat) (f : Nat → Bool) {H : Nat} (l : List (Fin H)) : List Value := l.flatMap fun x => news W (fun i => f (x.1 * W + i)) ++ news W (fun i => f (x.1 * W + i))
theorem rws_snoc (W : Nat) (f : Nat → Bool) {H : Nat} (l : List (Fin H)) (x : Fin H) : rws W f (l ++ [x]) = rws W f l ++ (news W (fun i => f (x.1 * W + i)) ++ news W (fun i => f (x.1 * W + i))) := by simp [rws]
theorem rws_len (W : Nat) (f : Nat → Bool) {H : Nat} (l : List (Fin H)) : (rws W f l).length = l.length * (2 * W) := by
  induction l with
  | nil => simp [rws]
  | cons x l ih =>
    have : rws W f (x :: l) = (news W (fun i => f (x.1 * W + i)) ++ news W (fun i => f (x.1 * W + i))) ++ rws W f l := by simp [rws]
    have e : (l.length + 1) * (2 * W) = l.length * (2 * W) + 2 * W := by rw [Nat.add_mul, Nat.one_mul]
    rw [this, List.length_append, ih, List.length_append, news_length, List.length_cons, e]
    omega
/-- The cells of the plane's rows, each twice. -/
def tw2 (W : Nat) (f : Nat → Bool) (i : Nat) : Bool := f (i / (2 * W) * W + i % (2 * W) % W)
theorem news_add (n m : Nat) (f : Nat → Bool) : news (n + m) f = news n f ++ news m (fun i => f (n + i)) := by
  unfold news
  rw [List.range_add, List.map_append, List.map_map]
  rfl
theorem news_congr {n : Nat} {f g : Nat → Bool} (h : ∀ i, i < n → f i = g i) : news n f = news n g := by
  unfold news
  apply List.map_congr_left
  intro i hi
  rw [h i (List.mem_range.1 hi)]
theorem rws_fr (W : Nat) (hW : 1 ≤ W) (f : Nat → Bool) {H : Nat} : ∀ k, k ≤ H → rws W f (fr H k) = news (k * (2 * W)) (tw2 W f)
  | 0, _ => by simp [fr, rws, news]
  | k + 1, h => by
    have e : (k + 1) * (2 * W) = k * (2 * W) + W + W := by rw [Nat.add_mul, Nat.one_mul]; omega
    rw [fr_succ (show k < H by omega), rws_snoc, rws_fr W hW f k (by omega), e, news_add, news_add, List.append_assoc]
    congr 2
    · refine news_congr fun i hi => ?_
      show _ = tw2 W f (k * (2 * W) + i)
      unfold tw2
      rw [Nat.mul_comm k (2 * W), Nat.mul_add_div (by omega), Nat.mul_add_mod, Nat.div_eq_of_lt (by omega), Nat.mod_eq_of_lt (show i < 2 * W by omega), Nat.mod_eq_of_lt hi]
      rfl
    · refine news_congr fun i hi => ?_
      show _ = tw2 W f (k * (2 * W) + W + i)
      unfold tw2
      rw [Nat.add_assoc, Nat.mul_comm k (2 * W), Nat.mul_add_div (by omega), Nat.mul_add_mod, Nat.div_eq_of_lt (by omega), Nat.mod_eq_of_lt (show W + i < 2 * W by omega), Nat.add_mod_left, Nat.mod_eq_of_lt hi]
      rfl
attribute [local go_sem] Oper.semAt_some
theorem mk2_run (W H : Nat) (hN : W * H ≤ 100000) (w : World) : (Instr.makeSlice 22 (.int .i64 0) (.int .i64 (2 * ((W : Int) * (H : Int))))).run Try.prog w = .ok (.slice (some ⟨w.heap.size, 0, none⟩) 0 (2 * (W * H))) (w.alloc (.cells (madeCells #[.bool false] (2 * (W * H))) 4)) := by
  obtain ⟨i0, hi, hz0, hz1, hz2⟩ := info_parts Try.info4
  have h := run_make (P := Try.prog) w 22 4 i0 (.bool false) Try.underlying22 hi hz0 .i64 .i64 0 ((2 * (W * H) : Nat) : Int) (Int.le_refl _) (by omega) (by rw [hz2]; omega) (by omega)
  simp only [Int.toNat_zero, Int.toNat_natCast, hz1, Nat.mul_one] at h
  rw [Int.natCast_mul, Int.natCast_mul] at h
  exact h
/-- What a plane's function has captured. -/
structure PL (v : World) (lo g t W H k d : Nat) (s : Value) (f : Nat → Bool) : Prop where
  box : Box v g (W : Nat) (H : Nat) s
  var : v.cell? ⟨t, 0, none⟩ = some (.slice (some ⟨k, 0, none⟩) (H * (2 * W)) d)
  row : Row v k (H * (2 * W)) (tw2 W f)
  dd : H * (2 * W) ≤ d
  g0 : lo ≤ g
  t0 : lo ≤ t
  k0 : lo ≤ k
  tl : t < v.heap.size
theorem PL.next {v v' : World} {lo g t W H k d : Nat} {s : Value} {f : Nat → Bool} (h : PL v lo g t W H k d s f) (hb : Below v.heap.size v v') : PL v' lo g t W H k d s f :=
  ⟨h.box.below hb h.box.lt, (hb.cell (p := ⟨t, 0, none⟩) h.tl).trans h.var, h.row.below hb h.row.lt, h.dd, h.g0, h.t0, h.k0, Nat.lt_of_lt_of_le h.tl hb.size⟩
theorem box_own {β : Type} (g : Nat) (W H : Int) (s : Value) : Own (fun (_ : β) v => Box v g W H s) := by
  intro _ X Y row h hg hrow
  exact (hg.block g h.lt (fun e => by obtain ⟨o, ho, hc⟩ := hrow g e.symm; rw [show X.heap[g]? = _ from h] at ho; cases ho; cases hc)).trans h
/-- What lies while the rows are laid behind one another: the heap's size was s at the call. -/
structure PI (w W5 : World) (s W H b off cap : Nat) (f : Nat → Bool) (l : List (Fin H)) (X : World) : Prop where
  bx : ∃ v, Boxed X (s + 2) 22 v ∧ X.ownsRow (s + 1) 4 1 v (rws W f l).length (rws W f l) ∧ True
  gx : Box X s (W : Nat) (H : Nat) (.slice (some ⟨b, off, none⟩) (W * H) cap)
  b2 : Boxed X (s + 3) 22 (.slice (some ⟨b, off, none⟩) (W * H) cap)
  b3 : Boxed X (s + 4) 3 (.int .i64 (W : Nat))
  bel : Below s w X
/-- The blocks that the iterator reads. -/
def PB (s : Nat) (b : Nat) : Prop := b < s ∨ b = s + 3 ∨ b = s + 4
theorem boxed_own {β : Type} (B : Nat) (t : TypeId) (v : Value) : Own (fun (_ : β) X => Boxed X B t v) := by
  intro _ X Y row h hg hrow
  exact h.kept hg (fun e => by obtain ⟨o, ho, hc⟩ := hrow B e.symm; rw [show X.heap[B]? = _ from h] at ho; cases ho; cases hc)
theorem pi_own (w W5 : World) (s W H b off cap : Nat) (f : Nat → Bool) (hs : s ≤ w.heap.size) (B : Nat) (hB : s ≤ B) : OwnFrom B (PI w W5 s W H b off cap f) := by
  have h1 := OwnFrom.and (OwnFrom.and (OwnFrom.and (OwnFrom.and (Own.from (holdsRow_own (β := List (Fin H)) (s + 1) (s + 2) 22 4 1 (fun l => (rws W f l).length) (fun l => rws W f l) (fun _ _ => True)) B) (Own.from (box_own (β := List (Fin H)) s (W : Nat) (H : Nat) (.slice (some ⟨b, off, none⟩) (W * H) cap)) B)) (Own.from (boxed_own (β := List (Fin H)) (s + 3) 22 (.slice (some ⟨b, off, none⟩) (W * H) cap)) B)) (Own.from (boxed_own (β := List (Fin H)) (s + 4) 3 (.int .i64 (W : Nat))) B)) (ownFrom_below (β := List (Fin H)) (w₀ := w) hs hB)
  intro l X Y row h hg hr
  obtain ⟨⟨⟨⟨r1, r2⟩, r3⟩, r4⟩, r5⟩ := h1 l X Y row ⟨⟨⟨⟨h.bx, h.gx⟩, h.b2⟩, h.b3⟩, h.bel⟩ hg hr
  exact ⟨r1, r2, r3, r4, r5⟩
/-- One row is laid behind the others. -/
theorem ap_step {w X w1 : World} {s W H b off cap : Nat} {v v' : Value} {k : Nat} {xs ys : List Value} (hs : s ≤ X.heap.size) (hv : Boxed X (s + 2) 22 v) (hrow : X.ownsRow (s + 1) 4 1 v k xs) (hgx : Box X s (W : Nat) (H : Nat) (.slice (some ⟨b, off, none⟩) (W * H) cap))
    (h2 : Boxed X (s + 3) 22 (.slice (some ⟨b, off, none⟩) (W * H) cap)) (h3 : Boxed X (s + 4) 3 (.int .i64 (W : Nat))) (hb : Below s w X) (hown : w1.ownsRow (s + 1) 4 1 v' (k + W) (xs ++ ys)) (hg : X.grownBy w1 v.ownBlock) :
    Boxed w1 (s + 2) 22 v ∧ Boxed (w1.setCell ⟨s + 2, 0, none⟩ v') (s + 2) 22 v' ∧ (w1.setCell ⟨s + 2, 0, none⟩ v').ownsRow (s + 1) 4 1 v' (k + W) (xs ++ ys) ∧ Box (w1.setCell ⟨s + 2, 0, none⟩ v') s (W : Nat) (H : Nat) (.slice (some ⟨b, off, none⟩) (W * H) cap) ∧
    Boxed (w1.setCell ⟨s + 2, 0, none⟩ v') (s + 3) 22 (.slice (some ⟨b, off, none⟩) (W * H) cap) ∧ Boxed (w1.setCell ⟨s + 2, 0, none⟩ v') (s + 4) 3 (.int .i64 (W : Nat)) ∧ Below s w (w1.setCell ⟨s + 2, 0, none⟩ v') ∧ KeepsOthers X (w1.setCell ⟨s + 2, 0, none⟩ v') ∧ KB (PB s) X (w1.setCell ⟨s + 2, 0, none⟩ v') := by
  have hv1 : Boxed w1 (s + 2) 22 v := hv.kept hg (hv.not_row (by decide) hrow)
  have k2 : Boxed w1 (s + 3) 22 (.slice (some ⟨b, off, none⟩) (W * H) cap) := h2.kept hg (h2.not_row (by decide) hrow)
  have k3 : Boxed w1 (s + 4) 3 (.int .i64 (W : Nat)) := h3.kept hg (h3.not_row (by decide) hrow)
  have hgb : ∀ g, v.ownBlock = some g → s + 1 ≤ g ∧ ∃ cur, X.heap[g]? = some (.cells cur 4 (0, 0)) := by
    intro g e
    rcases hrow.2 with ⟨rfl, _⟩ | ⟨g', c', cur, rfl, h5, h6, _⟩
    · simp [Value.ownBlock] at e
    · obtain rfl : g' = g := by simpa [Value.ownBlock] using e
      exact ⟨h5, cur, h6⟩
  have hbx : Box w1 s (W : Nat) (H : Nat) (.slice (some ⟨b, off, none⟩) (W * H) cap) := (hg.block s hgx.lt (fun e => by have := (hgb s e.symm).1; omega)).trans hgx
  have hbl : Below s X w1 := (Below.refl s X).grown hg hs (fun g e => by have := (hgb g e).1; omega)
  have hkb : KB (PB s) X w1 := fun p hp => by
    by_cases hlt : p < X.heap.size
    · refine hg.block p hlt (fun e => ?_)
      obtain ⟨h5, cur, h6⟩ := hgb p e.symm
      rcases hp with hp | rfl | rfl
      · omega
      · have := (show X.heap[s + 3]? = _ from h2).symm.trans h6; simp at this
      · have := (show X.heap[s + 4]? = _ from h3).symm.trans h6; simp at this
    · have := h3.lt
      rcases hp with hp | rfl | rfl <;> omega
  refine ⟨hv1, hv1.set v', hown.kept (grownBy_setCell' w1 (s + 2) v') (.inr (hv1.not_row (by decide) hown).symm), hbx.far (by simp) _, ?_, ?_, ((hb.trans hbl).setCell (by simp) _), (KeepsOthers.of_grownBy hg fun j o ej hj => ?_).trans (KeepsOthers.setCell _ _ _), hkb.t fun p hp => ?_⟩
  · exact (Below.heap_setCell w1 ⟨s + 2, 0, none⟩ v' (s + 3) (by simp)).trans k2
  · exact (Below.heap_setCell w1 ⟨s + 2, 0, none⟩ v' (s + 4) (by simp)).trans k3
  · obtain ⟨_, cur, h6⟩ := hgb j ej
    rw [h6] at hj; cases hj; rfl
  · refine Below.heap_setCell w1 ⟨s + 2, 0, none⟩ v' p ?_
    rcases hp with hp | rfl | rfl <;> simp <;> omega
end Go.Proofs.Ytmakjdfkldacaaa

/- plane: the function's call. -/
namespace Go.Proofs.Ytmakjdfkldacaaa
open Go.RowKit Go.Shelf
set_option maxRecDepth 100000
set_option linter.unusedVariables false
set_option linter.unusedSimpArgs false
attribute [local go_sem] Oper.semAt_some
theorem own_pos {w : World} {base size k : Nat} {e : TypeId} {v : Value} {xs : List Value} (h : w.ownsRow base e size v k xs) (hk : 0 < k) : ∃ g c, v = .slice (some ⟨g, 0, none⟩) k c ∧ k ≤ c ∧ base ≤ g := by
  rcases h.2 with ⟨_, h1⟩ | ⟨g, c, cur, h1, h2, _, h3, _⟩
  · omega
  · exact ⟨g, c, h1, h3, h2⟩
set_option maxHeartbeats 1600000 in
theorem plane_any (w : World) (W H b off cap : Nat) (f : Nat → Bool) (hW0 : 1 ≤ W) (hW : W ≤ 64) (hH0 : 1 ≤ H) (hH : H ≤ 64) (hcap : W * H ≤ cap) (hc : ∀ i, i < W * H → w.cell? ⟨b, off + i, none⟩ = some (.bool (f i))) (hb : b < w.heap.size) :
    Calls Try.prog 79 #[.agg #[.int .i64 (W : Nat), .int .i64 (H : Nat), .slice (some ⟨b, off, none⟩) (W * H) cap]] w fun e w' => ∃ g t k d, e = .returned (.func (.func 86) #[] #[.pointer (some ⟨g, 0, none⟩), .pointer (some ⟨t, 0, none⟩)]) ∧
      PL w' w.heap.size g t W H k d (.slice (some ⟨b, off, none⟩) (W * H) cap) f ∧ Below w.heap.size w w' := by
  have hWH : W * H ≤ 4096 := Nat.mul_le_mul hW hH
  have hmf := mk_fn
  have hmk := mk2_run W H (by omega)
  have e1 : IntKind.i64.wrap (2 * ((W : Int) * (H : Int))) = 2 * ((W : Int) * (H : Int)) := by
    rw [← Int.natCast_mul]; exact IntWalk.i64_in _ (by omega)
  obtain ⟨i0, hi, hz0, hz1, hz2⟩ := info_parts Try.info4
  refine (callsIn_wide (n := 4)).1 ?_
  refine callsIn_of_wp_marks Try.func79 rfl trivial ?_ rfl
  simp only [Try.ntmps79, List.size_toArray, List.length_cons, List.length_nil, Nat.reduceAdd, Nat.reduceSub, Array.replicate_succ, Array.replicate_zero, List.push_toArray, List.append_toArray, List.nil_append, List.cons_append]
  gi_wp2_with (refine ⟨trivial, ?_⟩; gi_at_call 85; refine (callsIn_wide.2 (chunk_any _ _ _ W _ hW0)).mono ?_; rintro e w' ⟨rfl, rfl⟩)
  have hfree : ∀ X, Below w.heap.size w X → ∀ (x : Fin H) j u, (news W (fun i => f (x.1 * W + i)))[j]? = some u → X.cell? (Addr.add ⟨b, off + x.1 * W, none⟩ j) = some u := by
    intro X hX x j u hj
    obtain ⟨h1, rfl⟩ := news_get hj
    have h4 : x.1 * W + W ≤ W * H := by rw [← Nat.succ_mul, Nat.mul_comm W H]; exact Nat.mul_le_mul_right W x.2
    rw [Addr.add_lit, Nat.add_assoc]
    exact (hX.cell (p := ⟨b, off + (x.1 * W + j), none⟩) hb).trans (hc _ (by omega))
  generalize hU : World.alloc _ (Obj.cells #[Value.int IntKind.i64 ↑W] 3) = wU
  have hPI : PI w wU w.heap.size W H b off cap f [] wU := by
    subst hU
    have bO := (((((Box.new w (W : Nat) (H : Nat) (.slice (some ⟨b, off, none⟩) (W * H) cap)).alloc (.cells (madeCells #[.bool false] (2 * (W * H))) 4)).alloc (.cells #[.slice (some ⟨w.heap.size + 1, 0, none⟩) 0 (2 * (W * H))] 22)).alloc (.cells #[.slice (some ⟨b, off, none⟩) (W * H) cap] 22)).alloc (.cells #[.int .i64 (W : Nat)] 3))
    refine ⟨⟨.slice (some ⟨w.heap.size + 1, 0, none⟩) 0 (2 * (W * H)), ?_, ?_, trivial⟩, bO, ?_, ?_, ?_⟩
    · exact ((by simpa using Boxed.new ((w.alloc (.cells #[.int .i64 (W : Nat), .int .i64 (H : Nat), .slice (some ⟨b, off, none⟩) (W * H) cap] 24)).alloc (.cells (madeCells #[.bool false] (2 * (W * H))) 4)) 22 (.slice (some ⟨w.heap.size + 1, 0, none⟩) 0 (2 * (W * H))) : Boxed _ (w.heap.size + 2) 22 _).alloc _).alloc _
    · have h := World.ownsRow_made (size := 1) (e := 4) (base := w.heap.size + 1) (w.alloc (.cells #[.int .i64 (W : Nat), .int .i64 (H : Nat), .slice (some ⟨b, off, none⟩) (W * H) cap] 24)) (madeCells #[.bool false] (2 * (W * H))) (2 * (W * H)) (by simp) (by unfold maxLen; omega) (by simp [size_madeCells])
      have h' := ((h.alloc (.cells #[.slice (some ⟨w.heap.size + 1, 0, none⟩) 0 (2 * (W * H))] 22)).alloc (.cells #[.slice (some ⟨b, off, none⟩) (W * H) cap] 22)).alloc (.cells #[.int .i64 (W : Nat)] 3)
      simpa [rws] using h'
    · refine (Boxed.alloc ?_ _)
      simpa using Boxed.new (((w.alloc (.cells #[.int .i64 (W : Nat), .int .i64 (H : Nat), .slice (some ⟨b, off, none⟩) (W * H) cap] 24)).alloc (.cells (madeCells #[.bool false] (2 * (W * H))) 4)).alloc (.cells #[.slice (some ⟨w.heap.size + 1, 0, none⟩) 0 (2 * (W * H))] 22)) 22 (.slice (some ⟨b, off, none⟩) (W * H) cap)
    · simpa using Boxed.new ((((w.alloc (.cells #[.int .i64 (W : Nat), .int .i64 (H : Nat), .slice (some ⟨b, off, none⟩) (W * H) cap] 24)).alloc (.cells (madeCells #[.bool false] (2 * (W * H))) 4)).alloc (.cells #[.slice (some ⟨w.heap.size + 1, 0, none⟩) 0 (2 * (W * H))] 22)).alloc (.cells #[.slice (some ⟨b, off, none⟩) (W * H) cap] 22)) 3 (.int .i64 (W : Nat))
    · exact (((((Below.refl _ w).alloc (Nat.le_refl _) _).alloc (by simp) _).alloc (by simp; omega) _).alloc (by simp; omega) _).alloc (by simp; omega) _
  have hsz : wU.heap.size = w.heap.size + 5 := by rw [← hU]; simp
  clear hU
  have hn0 : ∀ p, PB w.heap.size p → p < wU.heap.size := by
    rintro p (h | rfl | rfl) <;> omega
  refine wpIn_rangeFunc_ownF (F := Fence.wide) rfl (by omega) (gf := 88) (lb := #[.pointer (some ⟨w.heap.size + 3, 0, none⟩), .pointer (some ⟨w.heap.size + 4, 0, none⟩)]) rfl trivial (enters_of Try.func88 (by kernel_rfl) rfl)
    (chunk_stops Fence.wide 3 trivial rfl (by omega) (PB w.heap.size) (w.heap.size + 3) (w.heap.size + 4) b off W H cap hW0 hW hH hcap (.inl hb) (.inr (.inl rfl)) (.inr (.inr rfl)) wU hn0 hPI.b2.cell hPI.b3.cell)
    (fun h k => KB.t h k) (fun X l o o' hl h h1 h2 => KB.b (w := wU) hn0 X l o o' hl h h1 h2) (Below.refl _ _) (fun _ => rfl)
    (PI w wU w.heap.size W H b off cap f) (fun _ _ _ => False) (pi_own w wU w.heap.size W H b off cap f (Nat.le_refl _) _ (by omega)) (fun _ _ _ _ _ hs _ _ => hs) hPI
    (fun x => { tmps := #[.agg #[.int .i64 (W : Nat), .int .i64 (H : Nat), .slice (some ⟨b, off, none⟩) (W * H) cap], .pointer (some ⟨w.heap.size, 0, none⟩), .nilFunc, .pointer (some ⟨w.heap.size + 2, 0, none⟩), .slice (some ⟨b, off + x.1 * W, none⟩) W W, .pointer (some ⟨w.heap.size, 2, none⟩), .slice (some ⟨b, off, none⟩) (W * H) cap, .int .i64 ((W : Int) * (H : Int)), .int .i64 (2 * ((W : Int) * (H : Int))), .slice (some ⟨w.heap.size + 1, 0, none⟩) 0 (2 * (W * H)), .pointer (some ⟨w.heap.size, 2, none⟩), .slice (some ⟨b, off, none⟩) (W * H) cap, .pointer (some ⟨w.heap.size, 0, none⟩), .int .i64 (W : Nat), .func (.func 88) #[] #[.pointer (some ⟨w.heap.size + 3, 0, none⟩), .pointer (some ⟨w.heap.size + 4, 0, none⟩)], .slice (some ⟨b, off + x.1 * W, none⟩) W W, undef, undef, undef, undef, undef, undef, undef], defers := [] }) ?assign ?body ?done ?stop
  case assign =>
    intro l x X K hK
    gi_wp2
    exact hK
  case body =>
    rintro l pre x X ⟨⟨v, hv, hrow, _⟩, hgx, h2, h3, hbel⟩ hlt
    have hlen : (rws W f pre).length ≤ 8192 := by
      rw [rws_len]
      exact Nat.mul_le_mul (show pre.length ≤ 64 by omega) (show 2 * W ≤ 128 by omega)
    have hko : KeepsOthers X X := KeepsOthers.refl X
    have hkb : KB (PB w.heap.size) X X := KB.refl _ _
    have hcv := hv.cell
    gi_wp2_with (gi_at_builtin; refine wpListIn_append_own _ rfl _ _ 22 rfl (w.heap.size + 1) 4 i0 (.bool false) 1 1 Try.underlying22 hi hz0 hz1 hz2 rfl (by decide) _ _ _ rfl hrow ⟨b, off + x.1 * W, none⟩ W W (news W (fun i => f (x.1 * W + i))) rfl (by simp [news_length]) (hfree _ hbel x) news_one (by unfold maxLen; omega) (by omega) (by have := h3.lt; omega) ?_; intro v' w1 hown hg _; obtain ⟨g', c', rfl, _, _⟩ := own_pos hown (by omega); obtain ⟨hv1, hv, hrow, hgx, h2, h3, hbel, hko', hkb'⟩ := ap_step (by have := h3.lt; omega) hv hrow hgx h2 h3 hbel hown hg; have hko := hko.trans hko'; have hkb := hkb.t hkb'; have hc1 := hv1.cell; have hf1 := hv1.frozen; have hc2 := hv.cell)
    have er : rws W f (pre ++ [x]) = rws W f pre ++ news W (fun i => f (x.1 * W + i)) ++ news W (fun i => f (x.1 * W + i)) := by rw [rws_snoc, List.append_assoc]
    have el : (rws W f (pre ++ [x])).length = (rws W f pre).length + W + W := by rw [er, List.length_append, List.length_append, news_length]
    exact ⟨hko, hkb, ⟨⟨_, hv, by rw [el, er]; exact hrow, trivial⟩, hgx, h2, h3, hbel⟩⟩
  case done =>
    rintro D ys X hD rfl ⟨⟨v, hv, hrow, _⟩, hgx, h2, h3, hbel⟩ hK
    have hcv := hv.cell
    have er : rws W f (List.finRange H) = news (H * (2 * W)) (tw2 W f) := by
      have h := rws_fr W hW0 f H (Nat.le_refl H)
      rwa [fr_all] at h
    rw [er, news_length] at hrow
    have hp0 : 0 < H * (2 * W) := Nat.mul_pos (by omega) (by omega)
    obtain ⟨k, d, rfl, hd, hk⟩ := own_pos hrow hp0
    gi_wp2
    have hbK : Below wU.heap.size X (X.putObj D (.deferred none)) := belowK_b (w := wU) (Nat.le_refl _) X D _ _ hD hK rfl rfl
    refine ⟨by simp, .inl ⟨_, _, rfl, run_takeDeferred hK, ?_⟩⟩
    refine ⟨_, results_tmp rfl _ _ _, w.heap.size, w.heap.size + 2, k, d, rfl, ⟨?_, ?_, ?_, hd, Nat.le_refl _, by omega, by omega, ?_⟩, ?_⟩
    · exact (hbK.block _ (by omega)).trans hgx
    · exact (hbK.cell (p := ⟨w.heap.size + 2, 0, none⟩) (by show w.heap.size + 2 < wU.heap.size; omega)).trans hcv
    · exact Row.of_own (ownsRow_putObj hrow _ hK rfl) hp0
    · exact Nat.lt_of_lt_of_le hv.lt hbK.size
    · exact hbel.trans (hbK.mono (by omega))
  case stop =>
    rintro D c pre X _ _ h _
    exact h.elim
end Go.Proofs.Ytmakjdfkldacaaa

/- plane$1: a row of the plane; modulo. -/
namespace Go.Proofs.Ytmakjdfkldacaaa
open Go.RowKit
set_option maxRecDepth 100000
set_option linter.unusedVariables false
set_option linter.unusedSimpArgs false

set_option maxHeartbeats 800000 in
theorem plane1_any {v : World} {lo g t W H k d : Nat} {s : Value} {f : Nat → Bool} (h : PL v lo g t W H k d s f) (hW0 : 1 ≤ W) (hW : W ≤ 64) (hH0 : 1 ≤ H) (hH : H ≤ 64) (x y n : Nat) (hx : x ≤ 1000) (hy : y ≤ 1000) (hn0 : 1 ≤ n) (hn : n ≤ W) :
    Calls Try.prog 86 #[.int .i64 (x : Nat), .int .i64 (y : Nat), .int .i64 (n : Nat), .pointer (some ⟨g, 0, none⟩), .pointer (some ⟨t, 0, none⟩)] v fun e w' => e = .returned (.slice (some ⟨k, 2 * W * (y % H) + x % W, none⟩) n n) ∧ ∃ m, w' = v.drewN m := by
  obtain ⟨q0, q1, -⟩ := h.box.all
  have q2 := h.var
  have m1 : y % H < H := Nat.mod_lt _ (by omega)
  have m2 : x % W < W := Nat.mod_lt _ (by omega)
  have z1 : ¬ H = 0 := by omega
  have z2 : ¬ W = 0 := by omega
  have z3 : (y : Int).tmod (H : Int) = ((y % H : Nat) : Int) := by rw [Int.tmod_eq_emod_of_nonneg (by omega)]; simp
  have z4 : (x : Int).tmod (W : Int) = ((x % W : Nat) : Int) := by rw [Int.tmod_eq_emod_of_nonneg (by omega)]; simp
  have e0 : 2 * W * (y % H) + 2 * W ≤ H * (2 * W) := by
    rw [← Nat.mul_succ, Nat.mul_comm H]; exact Nat.mul_le_mul_left _ m1
  have e1 : H * (2 * W) ≤ 64 * 128 := Nat.mul_le_mul hH (by omega)
  have hd := h.dd
  generalize y % H = r at *
  generalize x % W = c at *
  obtain ⟨p, hp⟩ : ∃ p, 2 * W * r = p := ⟨_, rfl⟩
  have z5 : IntKind.i64.wrap (2 * (W : Int)) = 2 * (W : Int) := IntWalk.i64_in _ (by omega)
  have z6 : IntKind.i64.wrap (2 * (W : Int) * (r : Int)) = (p : Int) := by
    have : 2 * (W : Int) * (r : Int) = (p : Int) := by rw [← hp]; simp
    rw [this]; exact IntWalk.i64_in _ (by omega)
  have z7 : IntKind.i64.wrap ((p : Int) + (c : Int)) = ((p + c : Nat) : Int) := by rw [IntWalk.i64_in _ (by omega)]; simp
  rw [hp] at e0 ⊢
  clear hp
  generalize H * (2 * W) = L at *
  go_enter Try.func86, Try.ntmps86
  go_wp2
  go_quiet (fail)
  go_wp2
  go_ret
  exact ⟨by show Ending.returned (.slice (some ⟨k, p + c, none⟩) (p + c + n - (p + c)) (p + c + n - (p + c))) = _; rw [Nat.add_sub_cancel_left], _, rfl⟩
set_option maxHeartbeats 400000 in
theorem modulo6_any (v n : Int) (w : World) (h0 : 1 ≤ n) (h1 : n ≤ 64) (hv0 : -9223372036854775808 ≤ v) (hv1 : v ≤ 9223372036854775807) :
    Calls Try.prog 71 #[.int .i64 v, .int .i64 n] w fun e w' => e = .returned (.int .i64 (v % n)) ∧ w' = w := by
  have b1 : v.tmod n < n := Int.tmod_lt_of_pos v (by omega)
  have b2 : -n < v.tmod n := by
    have h := Int.tmod_lt_of_pos (-v) (show 0 < n by omega)
    rw [Int.neg_tmod] at h
    omega
  have hm := Lib.hid (mod_eq v n h0)
  go_enter Try.func71, Try.ntmps71
  go_wp2
  go_ret
  exact ⟨ret_i64 hm.out, rfl⟩
end Go.Proofs.Ytmakjdfkldacaaa

/- Equal without writing; a row of the plane; fits$1. -/
namespace Go.Proofs.Ytmakjdfkldacaaa
open Go.RowKit
set_option maxRecDepth 100000
set_option linter.unusedVariables false
set_option linter.unusedSimpArgs false

set_option maxHeartbeats 1600000 in
theorem equal_quiet (b o b' o' n c d : Nat) (f g : Nat → Bool) (w : World) (hn : n ≤ 5000) (hr : ∀ i, i < n → w.cell? ⟨b, o + i, none⟩ = some (.bool (f i))) (hs : ∀ i, i < n → w.cell? ⟨b', o' + i, none⟩ = some (.bool (g i))) :
    Calls Try.prog 81 #[.slice (some ⟨b, o, none⟩) n c, .slice (some ⟨b', o', none⟩) n d] w fun e w' => e = .returned (.bool (decide (∀ i, i < n → f i = g i))) ∧ ∃ m, w' = w.drewN m := by
  have z3 : ((n : Int) != (n : Int)) = false := by simp
  have HR := Lib.hid hr
  have HS := Lib.hid hs
  clear hr hs
  go_enter Try.func81, Try.ntmps81
  go_wp2
  go_loopw [13] (fun i wr => ∃ k : Nat, k ≤ n ∧ i = .int .i64 k ∧ Hid (∀ i, i < k → f i = g i) ∧ ∃ m, wr = w.drewN m) (fun i _ => n - (intOf i).toNat)
  case atStart => exact ⟨0, Nat.zero_le _, rfl, fun i hi => absurd hi (by omega), 0, by first | rfl | exact (World.drewN_zero _).symm⟩
  case round =>
    obtain ⟨k, hk, rfl, hall, m, rfl⟩ := hrel
    by_cases hlt : k < n
    · have c1 : (w.drewN m).cell? ⟨b, o + k, none⟩ = some (.bool (f k)) := HR.out k hlt
      have c2 : (w.drewN m).cell? ⟨b', o' + k, none⟩ = some (.bool (g k)) := HS.out k hlt
      have y1 : (0 : Int) ≤ (k : Int) := by omega
      have y2 : (k : Int) < (n : Int) := by omega
      obtain ⟨u, hu⟩ : ∃ u, f k = u := ⟨_, rfl⟩
      obtain ⟨v, hv⟩ : ∃ v, g k = v := ⟨_, rfl⟩
      rw [hu] at c1
      rw [hv] at c2
      have HU := Lib.hid hu
      have HV := Lib.hid hv
      clear hu hv
      obtain ⟨w1, hw1⟩ : ∃ w1, w.drewN m = w1 := ⟨_, rfl⟩
      rw [hw1] at c1 c2 ⊢
      have HW := Lib.hid hw1
      clear hw1
      by_cases e : u = v
      · have E : f k = g k := by rw [HU.out, HV.out, e]
        have E := Lib.hid E
        subst e
        cases u
        all_goals
          go_wp2
          go_quiet (fail)
          go_wp2
          refine ⟨⟨k + 1, by omega, by go_num, fun i hi => ?_, _, by rw [← HW.out, World.drewN_drewN]⟩, by simp [intOf]; omega⟩
          rcases Nat.lt_succ_iff_lt_or_eq.1 hi with h | rfl
          · exact hall.out i h
          · exact E.out
      · have E : ¬ f k = g k := by rw [HU.out, HV.out]; exact e
        have E := Lib.hid E
        cases u <;> cases v <;> first | exact absurd rfl e | skip
        all_goals
          clear e
          go_wp2
          go_quiet (fail)
          go_wp2
          go_ret
          exact ⟨ret_bool (by symm; rw [decide_eq_false_iff_not]; exact fun h => E.out (h k hlt)), _, by rw [← HW.out, World.drewN_drewN]⟩
    · have e : k = n := by omega
      subst e
      go_wp2
      go_ret
      exact ⟨ret_bool (by symm; rw [decide_eq_true_iff]; exact hall.out), m, rfl⟩
/-- A cell of a plane. -/
def pc (W H : Nat) (f : Nat → Bool) (x y : Nat) : Bool := f (y % H * W + x % W)
theorem PL.cells {v : World} {lo g t W H k d : Nat} {s : Value} {f : Nat → Bool} (h : PL v lo g t W H k d s f) (hW0 : 1 ≤ W) (hH0 : 1 ≤ H) (x y n : Nat) (hn : n ≤ W) : ∀ i, i < n → v.cell? ⟨k, 2 * W * (y % H) + x % W + i, none⟩ = some (.bool (pc W H f (x + i) y)) := by
  intro i hi
  have m1 : y % H < H := Nat.mod_lt _ (by omega)
  have m2 : x % W < W := Nat.mod_lt _ (by omega)
  have e0 : 2 * W * (y % H) + 2 * W ≤ H * (2 * W) := by
    rw [← Nat.mul_succ, Nat.mul_comm H]; exact Nat.mul_le_mul_left _ m1
  rw [h.row.cell (by omega)]
  congr 2
  unfold tw2 pc
  rw [Nat.add_assoc, Nat.mul_add_div (by omega), Nat.mul_add_mod, Nat.div_eq_of_lt (by omega), Nat.mod_eq_of_lt (show x % W + i < 2 * W by omega), Nat.mod_add_mod]
  rfl
end Go.Proofs.Ytmakjdfkldacaaa

/- fits$1. -/
namespace Go.Proofs.Ytmakjdfkldacaaa
open Go.RowKit
set_option maxRecDepth 100000
set_option linter.unusedVariables false
set_option linter.unusedSimpArgs false

/-- A plane and where it lies. -/
structure PV where
  (g t W H k d : Nat)
  s : Value
  f : Nat → Bool
structure PV.At (P : PV) (v : World) (lo : Nat) : Prop where
  pl : PL v lo P.g P.t P.W P.H P.k P.d P.s P.f
  w0 : 1 ≤ P.W
  w1 : P.W ≤ 64
  h0 : 1 ≤ P.H
  h1 : P.H ≤ 64
/-- The function value of a plane. -/
def PV.fn (P : PV) : Value := .func (.func 86) #[] #[.pointer (some ⟨P.g, 0, none⟩), .pointer (some ⟨P.t, 0, none⟩)]
def PV.c (P : PV) (x y : Nat) : Bool := pc P.W P.H P.f x y
theorem PV.At.next {P : PV} {v v' : World} {lo : Nat} (h : P.At v lo) (hb : Below v.heap.size v v') : P.At v' lo := ⟨h.pl.next hb, h.w0, h.w1, h.h0, h.h1⟩
theorem PV.At.drewN {P : PV} {v : World} {lo : Nat} (h : P.At v lo) (m : Nat) : P.At (v.drewN m) lo := ⟨⟨h.pl.box, h.pl.var, h.pl.row, h.pl.dd, h.pl.g0, h.pl.t0, h.pl.k0, h.pl.tl⟩, h.w0, h.w1, h.h0, h.h1⟩
/-- What fits has captured. -/
structure FT (v : World) (lo ph pf pw pt h w : Nat) (A B : PV) : Prop where
  ch : v.cell? ⟨ph, 0, none⟩ = some (.int .i64 (h : Nat))
  cf : v.cell? ⟨pf, 0, none⟩ = some A.fn
  cw : v.cell? ⟨pw, 0, none⟩ = some (.int .i64 (w : Nat))
  ct : v.cell? ⟨pt, 0, none⟩ = some B.fn
  pa : A.At v lo
  pb : B.At v lo
  lh : ph < v.heap.size
  lf : pf < v.heap.size
  lw : pw < v.heap.size
  lt : pt < v.heap.size
theorem FT.drewN {v : World} {lo ph pf pw pt h w : Nat} {A B : PV} (F : FT v lo ph pf pw pt h w A B) (m : Nat) : FT (v.drewN m) lo ph pf pw pt h w A B := ⟨F.ch, F.cf, F.cw, F.ct, F.pa.drewN m, F.pb.drewN m, F.lh, F.lf, F.lw, F.lt⟩
theorem FT.next {v v' : World} {lo ph pf pw pt h w : Nat} {A B : PV} (F : FT v lo ph pf pw pt h w A B) (hb : Below v.heap.size v v') : FT v' lo ph pf pw pt h w A B :=
  ⟨(hb.cell (p := ⟨ph, 0, none⟩) F.lh).trans F.ch, (hb.cell (p := ⟨pf, 0, none⟩) F.lf).trans F.cf, (hb.cell (p := ⟨pw, 0, none⟩) F.lw).trans F.cw, (hb.cell (p := ⟨pt, 0, none⟩) F.lt).trans F.ct, F.pa.next hb, F.pb.next hb, Nat.lt_of_lt_of_le F.lh hb.size, Nat.lt_of_lt_of_le F.lf hb.size, Nat.lt_of_lt_of_le F.lw hb.size, Nat.lt_of_lt_of_le F.lt hb.size⟩
set_option maxHeartbeats 1600000 in
theorem fits1_any {v : World} {lo ph pf pw pt h w : Nat} {A B : PV} (F : FT v lo ph pf pw pt h w A B) (hh : h ≤ 64) (hw0 : 1 ≤ w) (hwa : w ≤ A.W) (hwb : w ≤ B.W) (dx dy : Nat) (hx : dx ≤ 900) (hy : dy ≤ 900) :
    Calls Try.prog 80 #[.int .i64 (dx : Nat), .int .i64 (dy : Nat), .pointer (some ⟨ph, 0, none⟩), .pointer (some ⟨pf, 0, none⟩), .pointer (some ⟨pw, 0, none⟩), .pointer (some ⟨pt, 0, none⟩)] v fun e w' =>
      e = .returned (.bool (decide (∀ y, y < h → ∀ i, i < w → A.c i y = B.c (dx + i) (y + dy)))) ∧ ∃ m, w' = v.drewN m := by
  have HF := Lib.hid F
  have HX := Lib.hid (And.intro hwa hwb)
  have q0 := F.ch
  clear F hwa hwb
  go_enter Try.func80, Try.ntmps80
  go_wp2
  go_loopw [11] (fun i wr => ∃ k : Nat, k ≤ h ∧ i = .int .i64 k ∧ Hid (∀ y, y < k → ∀ i, i < w → A.c i y = B.c (dx + i) (y + dy)) ∧ ∃ m, wr = v.drewN m) (fun i _ => h - (intOf i).toNat)
  case atStart => exact ⟨0, Nat.zero_le _, rfl, fun i hi => absurd hi (by omega), 0, by first | rfl | exact (World.drewN_zero _).symm⟩
  case round =>
    obtain ⟨y, hk, rfl, hall, m, rfl⟩ := hrel
    by_cases hlt : y < h
    · have HF1 := HF.out.drewN m
      obtain ⟨w1, hw1⟩ : ∃ w1, v.drewN m = w1 := ⟨_, rfl⟩
      rw [hw1] at HF1 ⊢
      have HW := Lib.hid hw1
      clear hw1
      have c1 := HF1.cf
      have c2 := HF1.cw
      have c3 := HF1.ct
      have z1 : IntKind.i64.wrap ((y : Int) + (dy : Int)) = (y : Int) + (dy : Int) := IntWalk.i64_in _ (by omega)
      unfold PV.fn at c1 c3
      have HA : ∀ q, Calls Try.prog 86 #[.int .i64 0, .int .i64 (y : Nat), .int .i64 (w : Nat), .pointer (some ⟨A.g, 0, none⟩), .pointer (some ⟨A.t, 0, none⟩)] (w1.drewN q) fun e w' => e = .returned (.slice (some ⟨A.k, 2 * A.W * (y % A.H) + 0 % A.W, none⟩) w w) ∧ ∃ m, w' = (w1.drewN q).drewN m :=
        fun q => plane1_any (HF1.pa.drewN q).pl HF1.pa.w0 HF1.pa.w1 HF1.pa.h0 HF1.pa.h1 0 y w (by omega) (by omega) hw0 HX.out.1
      have HB : ∀ q, Calls Try.prog 86 #[.int .i64 (dx : Nat), .int .i64 ((y : Int) + (dy : Int)), .int .i64 (w : Nat), .pointer (some ⟨B.g, 0, none⟩), .pointer (some ⟨B.t, 0, none⟩)] (w1.drewN q) fun e w' => e = .returned (.slice (some ⟨B.k, 2 * B.W * ((y + dy) % B.H) + dx % B.W, none⟩) w w) ∧ ∃ m, w' = (w1.drewN q).drewN m :=
        fun q => by
          have h := plane1_any (HF1.pb.drewN q).pl HF1.pb.w0 HF1.pb.w1 HF1.pb.h0 HF1.pb.h1 dx (y + dy) w (by omega) (by omega) hw0 HX.out.2
          rwa [Int.natCast_add] at h
      have HE : ∀ q, Calls Try.prog 81 #[.slice (some ⟨A.k, 2 * A.W * (y % A.H) + 0 % A.W, none⟩) w w, .slice (some ⟨B.k, 2 * B.W * ((y + dy) % B.H) + dx % B.W, none⟩) w w] (w1.drewN q) fun e w' => e = .returned (.bool (decide (∀ i, i < w → A.c i y = B.c (dx + i) (y + dy)))) ∧ ∃ m, w' = (w1.drewN q).drewN m := by
        intro q
        have k1 := (HF1.pa.drewN q).pl.cells HF1.pa.w0 HF1.pa.h0 0 y w HX.out.1
        have k2 := (HF1.pb.drewN q).pl.cells HF1.pb.w0 HF1.pb.h0 dx (y + dy) w HX.out.2
        simp only [Nat.zero_add] at k1
        exact equal_quiet _ _ _ _ w w w _ _ _ (by have := HX.out.1; have := HF1.pa.w1; omega) k1 k2
      generalize 2 * A.W * (y % A.H) + 0 % A.W = oA at HA HE
      generalize 2 * B.W * ((y + dy) % B.H) + dx % B.W = oB at HB HE
      by_cases e : ∀ i, i < w → A.c i y = B.c (dx + i) (y + dy)
      · have E := Lib.hid e
        rw [decide_eq_true e] at HE
        clear e
        go_wp2
        go_quiet ((first | (go_at_call 86; with_reducible exact Calls.quiet_of (HA _)) | (go_at_call 86; with_reducible exact Calls.quiet_of (HB _)) | (go_at_call 81; with_reducible exact Calls.quiet_of (HE _))))
        go_wp2
        refine ⟨⟨y + 1, by omega, by go_num, fun i hi => ?_, _, by rw [← HW.out, World.drewN_drewN]⟩, by simp [intOf]; omega⟩
        rcases Nat.lt_succ_iff_lt_or_eq.1 hi with h | rfl
        · exact hall.out i h
        · exact E.out
      · have E := Lib.hid e
        rw [decide_eq_false e] at HE
        clear e
        go_wp2
        go_quiet ((first | (go_at_call 86; with_reducible exact Calls.quiet_of (HA _)) | (go_at_call 86; with_reducible exact Calls.quiet_of (HB _)) | (go_at_call 81; with_reducible exact Calls.quiet_of (HE _))))
        go_wp2
        go_ret
        exact ⟨ret_bool (by symm; rw [decide_eq_false_iff_not]; exact fun h => E.out (h y hlt)), _, by rw [← HW.out, World.drewN_drewN]⟩
    · have e : y = h := by omega
      subst e
      go_wp2
      go_ret
      exact ⟨ret_bool (by symm; rw [decide_eq_true_iff]; exact hall.out), m, rfl⟩
end Go.Proofs.Ytmakjdfkldacaaa
