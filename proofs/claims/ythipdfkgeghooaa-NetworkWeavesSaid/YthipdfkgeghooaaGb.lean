/- Merged: Twin Same Eq Refa Refm Rturn Rmir Rpart Rshift Rshf Co. -/
import Derived.Test.YthipdfkgeghooaaGa
import Derived.Deep.RegionHeld3
import Derived.Deep.RegionLawGrows
import Derived.Deep.AppendLies
import Derived.Deep.QuietTactic
import Derived.BigQuiet
import Derived.StillTailTactics
import Derived.Deep.DeepCutAuto

/- The reference's copy of a grid. -/
namespace Go.Proofs.Ythipdfkgeghooaa
open Go.RowKit
set_option maxRecDepth 100000
set_option linter.unusedVariables false
set_option linter.unusedSimpArgs false

def news (n : Nat) (f : Nat → Bool) : List Value := (List.range n).map fun i => .bool (f i)
theorem news_length (n : Nat) (f : Nat → Bool) : (news n f).length = n := by simp [news]
theorem news_get {n : Nat} {f : Nat → Bool} {j : Nat} {u : Value} (h : (news n f)[j]? = some u) : j < n ∧ u = .bool (f j) := by
  have hj : j < n := by
    have := (List.getElem?_eq_some_iff.1 h).1
    rwa [news_length] at this
  refine ⟨hj, ?_⟩
  unfold news at h
  rw [List.getElem?_map, List.getElem?_range hj] at h
  exact (Option.some.inj h).symm
theorem news_one {n : Nat} {f : Nat → Bool} : ∀ u ∈ news n f, u.oneCell' = true := by
  intro u hu
  simp [news] at hu
  obtain ⟨i, _, rfl⟩ := hu
  rfl

theorem Row.of_own {w : World} {base g n cap : Nat} {f : Nat → Bool} (h : w.ownsRow base 4 1 (.slice (some ⟨g, 0, none⟩) n cap) n (news n f)) (hn : 0 < n) : Row w g n f := by
  rcases h.2 with ⟨h0, _⟩ | ⟨g', cap', cur, hv, _, hg, hc, _, hs, ht⟩
  · cases h0
  · cases hv
    refine ⟨cur, hg, by omega, fun i hi => ?_⟩
    have e : (cur.toList.take (n * 1))[i]? = some (.bool (f i)) := by
      rw [ht, news, List.getElem?_map, List.getElem?_range hi]; rfl
    rw [List.getElem?_take] at e
    rw [if_pos (by omega)] at e
    simpa using e

/-- append of nothing onto an empty slice that is not nil. -/
theorem append_none (g : Nat) (A : Option Addr) (c : Nat) (ty : TypeId) (w : World) : (Builtin.append_ #[55, 55] ty #[.slice (some ⟨g, 0, none⟩) 0 0, .slice A 0 c]).run Try.prog w = .ok (.slice (some ⟨g, 0, none⟩) 0 0) w := by
  obtain ⟨i0, hi, hz0, hz1, hz2⟩ := info_parts Try.info4
  cases A <;> simp [Builtin.append_, run_underlying Try.underlying55, sizeOf, typeInfo, hi, Builtin.lenOf, Builtin.firstCells, storeCells, loadCells, loadCellsFrom]

/-- .. at a step of a region that draws its order. -/
theorem step_none {ops : Array Oper} {o : Oper} {a : Act} {w : World} {K : Act → World → Prop} {Q : Exit → Act → World → Prop} {E : Prop} (hgd : o.guard = none) (s x : Operand)
    (ho : o.op = .call { callee := .builtin .append, args := #[s, x], argTypes := #[55, 55] }) (g : Nat) (A : Option Addr) (c : Nat) (hs : a.eval s = .slice (some ⟨g, 0, none⟩) 0 0) (hx : a.eval x = .slice A 0 c)
    (h : ∀ w', w = w' → K (a.put o.dst (.slice (some ⟨g, 0, none⟩) 0 0)) w') : if Region.wanted o (yielded ops a.tmps) = true then Oper.wp Try.prog o a w K Q else E := by
  have hw : Region.wanted o (yielded ops a.tmps) = true := by simp [Region.wanted, hgd]
  rw [if_pos hw]
  have hr := append_none g A c o.type w
  unfold Oper.wp execOp
  simp only [ho, resolve, invoke, builtin, Sem.run_bind, Sem.run_pure, Result.andThen_ok, List.map_toArray, List.map_cons, List.map_nil, hs, hx, hr]
  exact h w rfl

theorem twin_keep {W2 w' : World} {g : Nat} {W H : Int} {v : Value} (hb : Box W2 g W H v) (h : Below (g + 1) W2 w') :
    w'.cell? ⟨g, 0, none⟩ = some (.int .i64 W) ∧ w'.cell? ⟨g, 1, none⟩ = some (.int .i64 H) ∧ w'.cell? ⟨g, 2, none⟩ = some v :=
  have hx := hb.below h (by omega)
  ⟨hx.c0, hx.c1, hx.c2⟩

end Go.Proofs.Ythipdfkgeghooaa

/- Whether two grids are the same: by the reference. -/
namespace Go.Proofs.Ythipdfkgeghooaa
open Go.RowKit
set_option maxRecDepth 100000
set_option linter.unusedVariables false
set_option linter.unusedSimpArgs false

/-- The two grids that are compared: their boxes and their cells. -/
structure Two (w : World) (ga gb : Nat) (W H : Int) (A : Option Addr) (n c : Nat) (f : Nat → Bool) (X Y : Int) (D : Option Addr) (m d : Nat) (g : Nat → Bool) : Prop where
  boxa : Box w ga W H (.slice A n c)
  boxb : Box w gb X Y (.slice D m d)
  ca : Holds w w.heap.size A n f
  cb : Holds w w.heap.size D m g

theorem Two.below {w w' : World} {ga gb n c m d : Nat} {W H X Y : Int} {A D : Option Addr} {f g : Nat → Bool} (h : Two w ga gb W H A n c f X Y D m d g) (hb : Below w.heap.size w w') : Two w' ga gb W H A n c f X Y D m d g :=
  ⟨h.boxa.below hb h.boxa.lt, h.boxb.below hb h.boxb.lt, (h.ca.below hb).more hb.size, (h.cb.below hb).more hb.size⟩

theorem boxes2 (w : World) (W H X Y : Int) (v u : Value) :
    Box ((w.alloc (.cells #[.int .i64 W, .int .i64 H, v] 57)).alloc (.cells #[.int .i64 X, .int .i64 Y, u] 57)) w.heap.size W H v ∧
    Box ((w.alloc (.cells #[.int .i64 W, .int .i64 H, v] 57)).alloc (.cells #[.int .i64 X, .int .i64 Y, u] 57)) (w.heap.size + 1) X Y u ∧
    Below w.heap.size w ((w.alloc (.cells #[.int .i64 W, .int .i64 H, v] 57)).alloc (.cells #[.int .i64 X, .int .i64 Y, u] 57)) := by
  have h2 := Box.new (w.alloc (.cells #[.int .i64 W, .int .i64 H, v] 57)) X Y u
  simp only [World.size_alloc] at h2
  exact ⟨(Box.new w W H v).alloc _, h2, ((Below.refl _ _).alloc (Nat.le_refl _) _).alloc (by simp) _⟩

end Go.Proofs.Ythipdfkgeghooaa

/- slices.Equal of two rows of cells, and the program's Same. -/
namespace Go.Proofs.Ythipdfkgeghooaa
open Go.RowKit
set_option maxRecDepth 100000
set_option linter.unusedVariables false
set_option linter.unusedSimpArgs false

end Go.Proofs.Ythipdfkgeghooaa

/- The reference's Not, And and Or. -/
namespace Go.Proofs.Ythipdfkgeghooaa
open Go.RowKit
set_option maxRecDepth 100000
set_option linter.unusedVariables false
set_option linter.unusedSimpArgs false

/-- A grid came back, in a new row, with no error (its capacity is open). -/
def OkRef (w : World) (W H : Nat) (F : Nat → Bool) (e : Ending) (w' : World) : Prop :=
  ∃ k d, e = .returned (.tuple #[.agg #[.int .i64 W, .int .i64 H, .slice (some ⟨k, 0, none⟩) (W * H) d], .int .i64 0]) ∧ w.heap.size ≤ k ∧ Row w' k (W * H) F ∧ Below w.heap.size w w'
theorem fin_ref {w w2 : World} {W H k r d : Nat} {F : Nat → Bool} {a b u : Value} (hr : w.heap.size ≤ r) (hk : r < k) (hrow : Row w2 k (W * H) F) (hb : Below w.heap.size w w2) :
    OkRef w W H F (.returned (.tuple #[.agg #[.int .i64 W, .int .i64 H, .slice (some ⟨k, 0, none⟩) (W * H) d], .int .i64 0])) (((w2.setCell ⟨r, 0, none⟩ a).setCell ⟨r, 1, none⟩ b).setCell ⟨r, 2, none⟩ u) :=
  ⟨k, d, rfl, by omega, ((hrow.far (by simp; omega) _).far (by simp; omega) _).far (by simp; omega) _, ((hb.setCell hr _).setCell hr _).setCell hr _⟩

theorem rchk_valid {W H : Nat} (A : Option Addr) (c : Nat) (w : World) (hW0 : 1 ≤ W) (hW : W ≤ 64) (hH0 : 1 ≤ H) (hH : H ≤ 64) :
    Calls Try.prog 34 #[.agg #[.int .i64 W, .int .i64 H, .slice A (W * H) c]] w fun e w' => e = .returned (.int .i64 0) ∧ Below w.heap.size w w' := by
  have h := rchk_any W H A (W * H) c w (by have := Nat.mul_le_mul hW hH; omega)
  rw [chk_zero hW0 hW hH0 hH] at h
  exact h
theorem rchk_err {W H : Int} {A : Option Addr} {n c : Nat} {err : Int} (hn : n ≤ 4200) (hx : chk W H n = err) (w : World) :
    Calls Try.prog 34 #[.agg #[.int .i64 W, .int .i64 H, .slice A n c]] w fun e w' => e = .returned (.int .i64 err) ∧ Below w.heap.size w w' := by
  have h := rchk_any W H A n c w hn
  rw [hx] at h
  exact h

/-- The reference's Not behind k rounds. -/
structure NotRel (w wr : World) (W H : Nat) (f : Nat → Bool) (r o k d : Nat) (m : Nat) : Prop where
  out : Box wr o W H (.slice (some ⟨k, 0, none⟩) (W * H) d)
  res : Box wr r 0 0 (.slice none 0 0)
  row : Row wr k (W * H) (fun i => if i < m then !f i else f i)
  bel : Below w.heap.size w wr

end Go.Proofs.Ythipdfkgeghooaa

/- The reference's Zero and Set, and what its double loops keep. -/
namespace Go.Proofs.Ythipdfkgeghooaa
open Go.RowKit
set_option maxRecDepth 100000
set_option linter.unusedVariables false
set_option linter.unusedSimpArgs false

/-- Of what was there, block k alone may have turned. -/
structure But (k : Nat) (w w' : World) : Prop where
  os : w'.os = w.os
  tape : w'.tape = w.tape
  output : w'.output = w.output
  size : w.heap.size ≤ w'.heap.size
  block : ∀ b, b < w.heap.size → b ≠ k → w'.heap[b]? = w.heap[b]?
section
variable {w w' : World} {k g n : Nat} {A : Option Addr} {f : Nat → Bool} {W H : Int} {v : Value}
theorem But.below {w0 : World} (hb : But k w w') (h : Below w0.heap.size w0 w) (hk : w0.heap.size ≤ k) : Below w0.heap.size w0 w' :=
  h.trans ⟨hb.os, hb.tape, hb.output, hb.size, fun i hi => hb.block i (Nat.lt_of_lt_of_le hi h.size) (by omega)⟩
theorem But.box (hb : But k w w') (h : Box w g W H v) (hg : g ≠ k) : Box w' g W H v := (hb.block g h.lt hg).trans h
theorem But.holds {B : Nat} (hb : But k w w') (h : Holds w B A n f) (hB : B ≤ k) (hw : B ≤ w.heap.size) : Holds w' B A n f := fun hn => by
  obtain ⟨b, o, e, hlt, hc⟩ := h hn
  exact ⟨b, o, e, hlt, fun i hi => (World.cell?_of_block (w := w) (hb.block b (by omega) (by omega))).trans (hc i hi)⟩
end

theorem at_nat (W H : Nat) (A : Option Addr) (c : Nat) (x y : Int) (f : Nat → Bool) (w : World) (B : Nat) (hr : Holds w B A (W * H) f) (hB : B ≤ w.heap.size)
    (hW : W ≤ 64) (hH : H ≤ 64) (i j : Nat) (hx : x = i) (hy : y = j) (hi : i < W) (hj : j < H) :
    Calls Try.prog 35 #[.agg #[.int .i64 W, .int .i64 H, .slice A (W * H) c], .int .i64 x, .int .i64 y] w fun e w' => e = .returned (.bool (f (j * W + i))) ∧ Below w.heap.size w w' := by
  subst hx hy
  have h1 := ix_bd hi hj
  have h2 : W * H ≤ 4096 := Nat.mul_le_mul hW hH
  have e : ((j : Int) * (W : Int) + (i : Int)).toNat = j * W + i := by
    have : ((j : Int) * (W : Int) + (i : Int)) = ((j * W + i : Nat) : Int) := by simp
    rw [this, Int.toNat_natCast]
  have h := at_any W H A (W * H) c i j f B w hr hB (by omega) (by omega) (by omega) (by omega) (by omega) (by omega) (by omega) (by rw [e]; exact h1)
  rw [e] at h
  exact h

/-- What a double loop of the reference has written behind x columns and y cells: 'ax', 'ay' say for a cell from which round it comes. -/
def cp (ax ay : Nat → Nat) (G : Nat → Nat → Bool) (x y : Nat) : Nat → Bool := fun i => if ax i < x ∨ ax i = x ∧ ay i < y then G (ax i) (ay i) else false
theorem cp_zero (ax ay : Nat → Nat) (G : Nat → Nat → Bool) : cp ax ay G 0 0 = fun _ => false := by funext i; simp [cp]
theorem cp_succ {ax ay : Nat → Nat} {G : Nat → Nat → Bool} {x y t j : Nat} (h : j = t ↔ ax j = x ∧ ay j = y) : (if j = t then G x y else cp ax ay G x y j) = cp ax ay G x (y + 1) j := by
  unfold cp
  by_cases e : j = t
  · obtain ⟨e1, e2⟩ := h.1 e
    rw [if_pos e, if_pos (Or.inr ⟨e1, by omega⟩), e1, e2]
  · rw [if_neg e]
    have h' : ¬ (ax j = x ∧ ay j = y) := fun hh => e (h.2 hh)
    by_cases h1 : ax j < x ∨ ax j = x ∧ ay j < y
    · rw [if_pos h1, if_pos (by omega)]
    · rw [if_neg h1, if_neg (by omega)]
theorem cp_next {ax ay : Nat → Nat} {G : Nat → Nat → Bool} {x m j : Nat} (h : ay j < m) : cp ax ay G x m j = cp ax ay G (x + 1) 0 j := by
  unfold cp
  by_cases h1 : ax j < x ∨ ax j = x ∧ ay j < m
  · rw [if_pos h1, if_pos (by omega)]
  · rw [if_neg h1, if_neg (by omega)]
theorem cp_all {ax ay : Nat → Nat} {G : Nat → Nat → Bool} {m j : Nat} (h : ax j < m) : cp ax ay G m 0 j = G (ax j) (ay j) := by
  unfold cp; rw [if_pos (Or.inl h)]
theorem plain_at {W H x y j : Nat} (hx : x < W) (hj : j < W * H) : j = y * W + x ↔ j % W = x ∧ j / W = y := by
  constructor
  · rintro rfl
    exact ⟨by rw [Nat.mul_comm, Nat.mul_add_mod, Nat.mod_eq_of_lt hx], by rw [Nat.mul_comm, Nat.mul_add_div (by omega), Nat.div_eq_of_lt hx]; omega⟩
  · rintro ⟨rfl, rfl⟩
    exact (nat_div_mod W j).symm
theorem div_bd {W H j : Nat} (hj : j < W * H) : j / W < H := Nat.div_lt_of_lt_mul hj

/-- What a double loop keeps: the parameter, the grid that is written, the result's box. -/
structure DR (w wr : World) (W H : Nat) (A : Option Addr) (c : Nat) (f : Nat → Bool) (r o k V U : Nat) (F : Nat → Bool) : Prop where
  g : Box wr w.heap.size W H (.slice A (W * H) c)
  res : Box wr r 0 0 (.slice none 0 0)
  out : Box wr o V U (.slice (some ⟨k, 0, none⟩) (V * U) (V * U))
  row : Row wr k (V * U) F
  cells : Holds wr w.heap.size A (W * H) f
  bel : Below w.heap.size w wr
  s0 : w.heap.size < r
  s1 : r < k
  s2 : k < o
section
variable {w wr w' : World} {W H : Nat} {A : Option Addr} {c : Nat} {f : Nat → Bool} {r o k V U : Nat} {F F' : Nat → Bool}
theorem DR.next (h : DR w wr W H A c f r o k V U F) (hb : Below wr.heap.size wr w') : DR w w' W H A c f r o k V U F :=
  ⟨h.g.below hb h.g.lt, h.res.below hb h.res.lt, h.out.below hb h.out.lt, h.row.below hb h.row.lt, h.cells.below (hb.mono h.bel.size), h.bel.trans (hb.mono h.bel.size), h.s0, h.s1, h.s2⟩
theorem DR.but (h : DR w wr W H A c f r o k V U F) (hb : But k wr w') (hr : Row w' k (V * U) F') : DR w w' W H A c f r o k V U F' := by
  have s0 := h.s0
  have s1 := h.s1
  have s2 := h.s2
  exact ⟨hb.box h.g (by omega), hb.box h.res (by omega), hb.box h.out (by omega), hr, hb.holds h.cells (by omega) h.bel.size, hb.below h.bel (by omega), s0, s1, s2⟩
theorem DR.congr (h : DR w wr W H A c f r o k V U F) (e : ∀ i, i < V * U → F i = F' i) : DR w wr W H A c f r o k V U F' :=
  ⟨h.g, h.res, h.out, h.row.congr e, h.cells, h.bel, h.s0, h.s1, h.s2⟩
/-- The cells that a round reads. -/
theorem DR.six (h : DR w wr W H A c f r o k V U F) :
    wr.cell? ⟨w.heap.size, 0, none⟩ = some (.int .i64 W) ∧ wr.cell? ⟨w.heap.size, 1, none⟩ = some (.int .i64 H) ∧ wr.cell? ⟨w.heap.size, 2, none⟩ = some (.slice A (W * H) c) ∧
    wr.cell? ⟨o, 0, none⟩ = some (.int .i64 V) ∧ wr.cell? ⟨o, 1, none⟩ = some (.int .i64 U) ∧ wr.cell? ⟨o, 2, none⟩ = some (.slice (some ⟨k, 0, none⟩) (V * U) (V * U)) :=
  ⟨h.g.c0, h.g.c1, h.g.c2, h.out.c0, h.out.c1, h.out.c2⟩
end
end Go.Proofs.Ythipdfkgeghooaa

/- The reference's Turn. -/
namespace Go.Proofs.Ythipdfkgeghooaa
open Go.RowKit
set_option maxRecDepth 100000
set_option linter.unusedVariables false
set_option linter.unusedSimpArgs false

end Go.Proofs.Ythipdfkgeghooaa

/- The reference's Mirror. -/
namespace Go.Proofs.Ythipdfkgeghooaa
open Go.RowKit
set_option maxRecDepth 100000
set_option linter.unusedVariables false
set_option linter.unusedSimpArgs false

end Go.Proofs.Ythipdfkgeghooaa

/- The reference's Part. -/
namespace Go.Proofs.Ythipdfkgeghooaa
open Go.RowKit
set_option maxRecDepth 100000
set_option linter.unusedVariables false
set_option linter.unusedSimpArgs false

end Go.Proofs.Ythipdfkgeghooaa

/- Shift, by the program; Turn and Shift, by the reference. -/
namespace Go.Proofs.Ythipdfkgeghooaa
open Go.RowKit
set_option maxRecDepth 100000
set_option linter.unusedVariables false
set_option linter.unusedSimpArgs false

theorem mod_lo {v W : Int} (h0 : 0 ≤ v) (h1 : v < W) : v % W = v := Int.emod_eq_of_lt h0 h1
theorem mod_hi {v W : Int} (h0 : W ≤ v) (h1 : v < W + W) : v % W = v - W := by
  have e : v % W = ((v - W) + W) % W := by rw [Int.sub_add_cancel]
  rw [e, Int.add_emod_right, mod_lo (by omega) (by omega)]
theorem mod_neg {v W : Int} (h0 : -W ≤ v) (h1 : v < 0) : v % W = v + W := by
  have e : v % W = (v + W) % W := by rw [Int.add_emod_right]
  rw [e, mod_lo (by omega) (by omega)]
theorem shift1 {W a x : Nat} {r : Int} (ha : a < W) (hx : x < W) (h0 : 0 ≤ r) (h1 : r < W) : a = (((x : Int) + r) % (W : Int)).toNat ↔ (((a : Int) - r) % (W : Int)).toNat = x := by
  rcases Int.lt_or_le ((x : Int) + r) W with hc | hc
  · rw [mod_lo (by omega) hc]
    rcases Int.lt_or_le (a : Int) r with hd | hd
    · rw [mod_neg (by omega) (by omega)]; omega
    · rw [mod_lo (by omega) (by omega)]; omega
  · rw [mod_hi hc (by omega)]
    rcases Int.lt_or_le (a : Int) r with hd | hd
    · rw [mod_neg (by omega) (by omega)]; omega
    · rw [mod_lo (by omega) (by omega)]; omega
/-- From which round a cell of the shifted grid comes. -/
def ax (W : Nat) (r : Int) (j : Nat) : Nat := ((((j % W : Nat) : Int) - r) % (W : Int)).toNat
def ay (W H : Nat) (u : Int) (j : Nat) : Nat := ((((j / W : Nat) : Int) - u) % (H : Int)).toNat
theorem mod_bd {v W : Int} (h : 1 ≤ W) : 0 ≤ v % W ∧ v % W < W := ⟨Int.emod_nonneg _ (by omega), Int.emod_lt_of_pos _ (by omega)⟩
theorem ax_lt {W : Nat} {r : Int} (j : Nat) (h : 1 ≤ W) : ax W r j < W := by
  have := mod_bd (v := ((j % W : Nat) : Int) - r) (W := (W : Int)) (by omega)
  unfold ax; omega
theorem ay_lt {W H : Nat} {u : Int} (j : Nat) (h : 1 ≤ H) : ay W H u j < H := by
  have := mod_bd (v := ((j / W : Nat) : Int) - u) (W := (H : Int)) (by omega)
  unfold ay; omega
theorem shift_at {W H x y j : Nat} {r u : Int} (hx : x < W) (hy : y < H) (r0 : 0 ≤ r) (r1 : r < W) (u0 : 0 ≤ u) (u1 : u < H) (hj : j < W * H) :
    j = (((y : Int) + u) % (H : Int)).toNat * W + (((x : Int) + r) % (W : Int)).toNat ↔ ax W r j = x ∧ ay W H u j = y := by
  have b1 := mod_bd (v := (x : Int) + r) (W := (W : Int)) (by omega)
  rw [plain_at (by omega) hj, shift1 (Nat.mod_lt _ (by omega)) hx r0 r1, shift1 (div_bd hj) hy u0 u1]
  rfl

end Go.Proofs.Ythipdfkgeghooaa

/- Shift, by the program and by the reference. -/
namespace Go.Proofs.Ythipdfkgeghooaa
open Go.RowKit
set_option maxRecDepth 100000
set_option linter.unusedVariables false
set_option linter.unusedSimpArgs false

theorem shift_num {w1 : World} (a b : Int) : Num ((w1.alloc (.cells #[.int .i64 a] 3)).alloc (.cells #[.int .i64 b] 3)).drew w1.heap.size a ∧ Num ((w1.alloc (.cells #[.int .i64 a] 3)).alloc (.cells #[.int .i64 b] 3)).drew (w1.heap.size + 1) b ∧
    Below w1.heap.size w1 ((w1.alloc (.cells #[.int .i64 a] 3)).alloc (.cells #[.int .i64 b] 3)).drew := by
  have h1 := (Num.new w1 a).below ((Below.refl _ _).alloc (Nat.le_refl _) (.cells #[.int .i64 b] 3))
  have h2 := Num.new (w1.alloc (.cells #[.int .i64 a] 3)) b
  simp only [World.size_alloc] at h2
  exact ⟨h1, h2, (((Below.refl _ _).alloc (Nat.le_refl _) _).alloc (by simp) _).drew⟩

end Go.Proofs.Ythipdfkgeghooaa

/- What the operations of place do to a cell, by its column and row; and that they undo one another. -/
namespace Go.Proofs.Ythipdfkgeghooaa
set_option maxRecDepth 100000
set_option linter.unusedVariables false
set_option linter.unusedSimpArgs false

theorem co {W x : Nat} (y : Nat) (hx : x < W) : (y * W + x) / W = y ∧ (y * W + x) % W = x := by
  have h : 0 < W := by omega
  constructor
  · rw [Nat.mul_comm, Nat.mul_add_div h, Nat.div_eq_of_lt hx]; omega
  · rw [Nat.mul_comm, Nat.mul_add_mod, Nat.mod_eq_of_lt hx]
theorem cells_all {W H : Nat} {F G : Nat → Bool} (h : ∀ x y, x < W → y < H → F (y * W + x) = G (y * W + x)) : ∀ i, i < W * H → F i = G i := by
  intro i hi
  have hW : 0 < W := by rcases Nat.eq_zero_or_pos W with h | h; · subst h; simp at hi
                        · exact h
  have e := h (i % W) (i / W) (Nat.mod_lt _ hW) (Nat.div_lt_of_lt_mul hi)
  have e2 : i / W * W + i % W = i := by rw [Nat.mul_comm, Nat.div_add_mod]
  rw [e2] at e
  exact e
theorem in_grid {W H x y : Nat} (hx : x < W) (hy : y < H) : y * W + x < W * H := by
  have : (y + 1) * W ≤ H * W := Nat.mul_le_mul_right W hy
  rw [Nat.succ_mul] at this
  rw [Nat.mul_comm W H]
  omega

def fTurn (W H : Nat) (f : Nat → Bool) : Nat → Bool := fun i => f (i % H * W + i / H)
def fMir0 (W : Nat) (f : Nat → Bool) : Nat → Bool := fun i => f (i / W * W + (W - 1 - i % W))
def fMir1 (W H : Nat) (f : Nat → Bool) : Nat → Bool := fun i => f ((H - 1 - i / W) * W + i % W)
def fShift (W H : Nat) (dx dy : Int) (f : Nat → Bool) : Nat → Bool := fun i => f (ay W H (dy % H) i * W + ax W (dx % W) i)
def fTile (P : Nat) (W H : Nat) (f : Nat → Bool) : Nat → Bool := fun i => f (i / P % H * W + i % P % W)
def fPart (W pw px py : Nat) (f : Nat → Bool) : Nat → Bool := fun i => f ((py + i / pw) * W + (px + i % pw))
/-- Where a shift by d along an axis of N cells takes the cell at z from. -/
def sh (N : Nat) (d : Int) (z : Nat) : Nat := (((z : Int) - d) % (N : Int)).toNat

section
variable {W H x y : Nat} {f : Nat → Bool}
theorem at_turn (hx : x < H) : fTurn W H f (y * H + x) = f (x * W + y) := by
  obtain ⟨e1, e2⟩ := co y hx
  simp only [fTurn, e1, e2]
theorem at_mir0 (hx : x < W) : fMir0 W f (y * W + x) = f (y * W + (W - 1 - x)) := by
  obtain ⟨e1, e2⟩ := co y hx
  simp only [fMir0, e1, e2]
theorem at_mir1 (hx : x < W) : fMir1 W H f (y * W + x) = f ((H - 1 - y) * W + x) := by
  obtain ⟨e1, e2⟩ := co y hx
  simp only [fMir1, e1, e2]
theorem at_shift {dx dy : Int} (hx : x < W) : fShift W H dx dy f (y * W + x) = f (sh H dy y * W + sh W dx x) := by
  obtain ⟨e1, e2⟩ := co y hx
  simp only [fShift, ax, ay, sh, e1, e2, Int.sub_emod_emod]
theorem at_tile {P : Nat} (hx : x < P) : fTile P W H f (y * P + x) = f (y % H * W + x % W) := by
  obtain ⟨e1, e2⟩ := co y hx
  simp only [fTile, e1, e2]
theorem at_part {pw px py : Nat} (hx : x < pw) : fPart W pw px py f (y * pw + x) = f ((py + y) * W + (px + x)) := by
  obtain ⟨e1, e2⟩ := co y hx
  simp only [fPart, e1, e2]
end
theorem sh_lt {N : Nat} {d : Int} {z : Nat} (hN : 1 ≤ N) : sh N d z < N := by
  have := mod_bd (v := (z : Int) - d) (W := (N : Int)) (by omega)
  unfold sh; omega
theorem sh_int {N : Nat} {d : Int} {z : Nat} (hN : 1 ≤ N) : ((sh N d z : Nat) : Int) = ((z : Int) - d) % (N : Int) := by
  have := mod_bd (v := (z : Int) - d) (W := (N : Int)) (by omega)
  unfold sh; omega
theorem sh_back {N : Nat} {d : Int} {z : Nat} (hz : z < N) : sh N (-d) (sh N d z) = z := by
  have h := sh_int (N := N) (d := d) (z := z) (by omega)
  have h2 := sh_int (N := N) (d := -d) (z := sh N d z) (by omega)
  rw [h, Int.sub_neg, Int.emod_add_emod, Int.sub_add_cancel, Int.emod_eq_of_lt (by omega) (by omega)] at h2
  omega
theorem sh_back' {N : Nat} {d : Int} {z : Nat} (hz : z < N) : sh N d (sh N (-d) z) = z := by
  have h := sh_back (d := -d) hz
  rwa [Int.neg_neg] at h
theorem sh_mirror {N : Nat} {d : Int} {z : Nat} (hz : z < N) : sh N d (N - 1 - z) = N - 1 - sh N (-d) z := by
  have hN : 1 ≤ N := by omega
  have h := sh_int (d := d) (z := N - 1 - z) hN
  have h2 := sh_int (d := -d) (z := z) hN
  have l2 := sh_lt (d := -d) (z := z) hN
  have e : ((N - 1 - z : Nat) : Int) - d = (N : Int) - 1 - ((z : Int) - -d) := by omega
  rw [e] at h
  have h3 : ((N : Int) - 1 - ((z : Int) - -d)) % (N : Int) = (N : Int) - 1 - ((z : Int) - -d) % (N : Int) := by
    have q := Int.emod_add_mul_ediv ((z : Int) - -d) (N : Int)
    generalize ((z : Int) - -d) % (N : Int) = r at *
    generalize ((z : Int) - -d) / (N : Int) = t at *
    rw [← q]
    have e2 : (N : Int) - 1 - (r + (N : Int) * t) = ((N : Int) - 1 - r) + (N : Int) * (-t) := by
      rw [Int.mul_neg]; omega
    rw [e2, Int.add_mul_emod_self_left, Int.emod_eq_of_lt (by omega) (by omega)]
  omega
theorem sh_mod {N M : Nat} {d : Int} {z : Nat} (hM : 1 ≤ M) (hd : (M : Int) ∣ d) (hN : 1 ≤ N) (hMN : M ∣ N) : sh N d z % M = z % M := by
  have h := sh_int (d := d) (z := z) hN
  have hMN' : (M : Int) ∣ (N : Int) := Int.natCast_dvd_natCast.2 hMN
  have e : ((sh N d z % M : Nat) : Int) = ((z % M : Nat) : Int) := by
    rw [Int.natCast_emod, h, Int.emod_emod_of_dvd _ hMN', Int.natCast_emod]
    obtain ⟨t, rfl⟩ := hd
    rw [Int.sub_mul_emod_self_left]
  omega

section
variable {W H : Nat} {f : Nat → Bool}
theorem turn_turn : ∀ i, i < W * H → fTurn H W (fTurn W H f) i = f i :=
  cells_all fun x y hx hy => by rw [at_turn hx, at_turn hy]
theorem not_not_ : ∀ i, i < W * H → (!(!f i)) = f i := fun i _ => by simp
theorem mir0_mir0 : ∀ i, i < W * H → fMir0 W (fMir0 W f) i = f i :=
  cells_all fun x y hx hy => by rw [at_mir0 hx, at_mir0 (by omega), show W - 1 - (W - 1 - x) = x by omega]
theorem mir1_mir1 : ∀ i, i < W * H → fMir1 W H (fMir1 W H f) i = f i :=
  cells_all fun x y hx hy => by rw [at_mir1 hx, at_mir1 (by omega), show H - 1 - (H - 1 - y) = y by omega]
theorem shift_back {dx dy : Int} : ∀ i, i < W * H → fShift W H (-dx) (-dy) (fShift W H dx dy f) i = f i :=
  cells_all fun x y hx hy => by rw [at_shift hx, at_shift (sh_lt (by omega)), sh_back' hx, sh_back' hy]
theorem part_tile0 {nx : Nat} (hn : 1 ≤ nx) : ∀ i, i < W * H → fPart (nx * W) W 0 0 (fTile (nx * W) W H f) i = f i :=
  cells_all fun x y hx hy => by
    have : 1 * W ≤ nx * W := Nat.mul_le_mul_right W hn
    rw [at_part hx, at_tile (by omega), Nat.zero_add, Nat.zero_add, Nat.mod_eq_of_lt hx, Nat.mod_eq_of_lt hy]
theorem part_tile1 {nx ny : Nat} (hn : 1 ≤ nx) (hm : 1 ≤ ny) : ∀ i, i < W * H → fPart (nx * W) W (nx * W - W) (ny * H - H) (fTile (nx * W) W H f) i = f i :=
  cells_all fun x y hx hy => by
    obtain ⟨n, rfl⟩ : ∃ n, nx = n + 1 := ⟨nx - 1, by omega⟩
    obtain ⟨m, rfl⟩ : ∃ m, ny = m + 1 := ⟨ny - 1, by omega⟩
    rw [at_part hx, at_tile (by rw [Nat.succ_mul]; omega), Nat.succ_mul, Nat.succ_mul, Nat.add_sub_cancel, Nat.add_sub_cancel, Nat.mul_comm n W, Nat.mul_add_mod, Nat.mul_comm m H, Nat.mul_add_mod, Nat.mod_eq_of_lt hx, Nat.mod_eq_of_lt hy]
theorem shift_tile {nx ny : Nat} (hn : 1 ≤ nx) (hm : 1 ≤ ny) : ∀ i, i < nx * W * (ny * H) → fShift (nx * W) (ny * H) W (-(H : Int)) (fTile (nx * W) W H f) i = fTile (nx * W) W H f i :=
  cells_all fun x y hx hy => by
    have hW : 0 < nx * W := by omega
    have hH : 0 < ny * H := by omega
    have hW1 : 1 ≤ W := Nat.pos_of_mul_pos_left hW
    have hH1 : 1 ≤ H := Nat.pos_of_mul_pos_left hH
    rw [at_shift hx, at_tile (sh_lt hW), at_tile hx, sh_mod hH1 (Int.dvd_neg.2 (Int.dvd_refl _)) hH (Nat.dvd_mul_left _ _), sh_mod hW1 (Int.dvd_refl _) hW (Nat.dvd_mul_left _ _)]
end
end Go.Proofs.Ythipdfkgeghooaa
