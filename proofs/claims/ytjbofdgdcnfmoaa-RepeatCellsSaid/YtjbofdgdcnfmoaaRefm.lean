/- The reference's Zero and Set, and what its double loops keep. -/
import Derived.Test.YtjbofdgdcnfmoaaRefa
import Derived.Test.YtjbofdgdcnfmoaaOpt
namespace Go.Proofs.Ytjbofdgdcnfmoaa
open Go.RowKit
set_option maxRecDepth 100000
set_option linter.unusedVariables false
set_option linter.unusedSimpArgs false

/-- Of what was there, block k alone may have turned. -/
structure But (k : Nat) (w w' : World) : Prop where
  os : w'.os = w.os
  tape : w'.tape = w.tape
  output : w'.output = w.output
  size : w.heap.size ≤ w'.heap.size
  block : ∀ b, b < w.heap.size → b ≠ k → w'.heap[b]? = w.heap[b]?
section
variable {w w' : World} {k g n : Nat} {A : Option Addr} {f : Nat → Bool} {W H : Int} {v : Value}
theorem But.below {w0 : World} (hb : But k w w') (h : Below w0.heap.size w0 w) (hk : w0.heap.size ≤ k) : Below w0.heap.size w0 w' :=
  h.trans ⟨hb.os, hb.tape, hb.output, hb.size, fun i hi => hb.block i (Nat.lt_of_lt_of_le hi h.size) (by omega)⟩
theorem But.box (hb : But k w w') (h : Box w g W H v) (hg : g ≠ k) : Box w' g W H v := (hb.block g h.lt hg).trans h
theorem But.holds {B : Nat} (hb : But k w w') (h : Holds w B A n f) (hB : B ≤ k) (hw : B ≤ w.heap.size) : Holds w' B A n f := fun hn => by
  obtain ⟨b, o, e, hlt, hc⟩ := h hn
  exact ⟨b, o, e, hlt, fun i hi => (World.cell?_of_block (w := w) (hb.block b (by omega) (by omega))).trans (hc i hi)⟩
end

set_option maxHeartbeats 400000 in
theorem set_any (W H : Int) (k n c : Nat) (x y : Int) (u : Bool) (F : Nat → Bool) (w : World) (hr : Row w k n F) (hm : n ≤ 5000) (hW0 : 0 ≤ W) (hW : W ≤ 64) (hx0 : 0 ≤ x) (hx : x < 64) (hy0 : 0 ≤ y) (hy : y < 64) (hi : (y * W + x).toNat < n) :
    Calls Try.prog 80 #[.agg #[.int .i64 W, .int .i64 H, .slice (some ⟨k, 0, none⟩) n c], .int .i64 x, .int .i64 y, .bool u] w fun e w' => e = .returned (.tuple #[]) ∧ Row w' k n (fun j => if j = (y * W + x).toNat then u else F j) ∧ But k w w' := by
  obtain ⟨h1, h2⟩ := mul_bd hW0 hW hy0 hy
  have h3 : y * W + x < (n : Int) := by omega
  have hc := hr.cell hi
  have hf := hr.free (y * W + x).toNat
  have hl := hr.lt
  have HR := Lib.hid hr
  clear hr
  go_enter Try.func80, Try.ntmps80
  go_wp2
  go_end0
  refine ⟨rfl, ?_, ?_⟩
  · exact (HR.out.set_ _ _).alloc _
  · refine ⟨rfl, rfl, rfl, by simp [World.setCell], fun b hb hne => ?_⟩
    rw [Below.heap_alloc _ _ _ (by simpa [World.setCell] using hb), Below.heap_setCell _ _ _ _ hne]

theorem set_nat (W H : Nat) (k c : Nat) (x y : Int) (u : Bool) (F : Nat → Bool) (w : World) (hr : Row w k (W * H) F) (hW : W ≤ 64) (hH : H ≤ 64) (i j : Nat) (hx : x = i) (hy : y = j) (hi : i < W) (hj : j < H) :
    Calls Try.prog 80 #[.agg #[.int .i64 W, .int .i64 H, .slice (some ⟨k, 0, none⟩) (W * H) c], .int .i64 x, .int .i64 y, .bool u] w fun e w' => e = .returned (.tuple #[]) ∧ Row w' k (W * H) (fun l => if l = j * W + i then u else F l) ∧ But k w w' := by
  subst hx hy
  have h1 := ix_bd hi hj
  have h2 : W * H ≤ 4096 := Nat.mul_le_mul hW hH
  have e : ((j : Int) * (W : Int) + (i : Int)).toNat = j * W + i := by
    have : ((j : Int) * (W : Int) + (i : Int)) = ((j * W + i : Nat) : Int) := by simp
    rw [this, Int.toNat_natCast]
  have h := set_any W H k (W * H) c i j u F w hr (by omega) (by omega) (by omega) (by omega) (by omega) (by omega) (by omega) (by rw [e]; exact h1)
  rw [e] at h
  exact h

theorem at_nat (W H : Nat) (A : Option Addr) (c : Nat) (x y : Int) (f : Nat → Bool) (w : World) (B : Nat) (hr : Holds w B A (W * H) f) (hB : B ≤ w.heap.size)
    (hW : W ≤ 64) (hH : H ≤ 64) (i j : Nat) (hx : x = i) (hy : y = j) (hi : i < W) (hj : j < H) :
    Calls Try.prog 116 #[.agg #[.int .i64 W, .int .i64 H, .slice A (W * H) c], .int .i64 x, .int .i64 y] w fun e w' => e = .returned (.bool (f (j * W + i))) ∧ Below w.heap.size w w' := by
  subst hx hy
  have h1 := ix_bd hi hj
  have h2 : W * H ≤ 4096 := Nat.mul_le_mul hW hH
  have e : ((j : Int) * (W : Int) + (i : Int)).toNat = j * W + i := by
    have : ((j : Int) * (W : Int) + (i : Int)) = ((j * W + i : Nat) : Int) := by simp
    rw [this, Int.toNat_natCast]
  have h := at_any W H A (W * H) c i j f B w hr hB (by omega) (by omega) (by omega) (by omega) (by omega) (by omega) (by omega) (by rw [e]; exact h1)
  rw [e] at h
  exact h

set_option maxHeartbeats 400000 in
theorem zero_int (Wi Hi : Int) (W H : Nat) (eW : Wi = W) (eH : Hi = H) (hW : W ≤ 64) (hH : H ≤ 64) (w : World) :
    Calls Try.prog 79 #[.int .i64 Wi, .int .i64 Hi] w fun e w' => ∃ k, e = .returned (.agg #[.int .i64 W, .int .i64 H, .slice (some ⟨k, 0, none⟩) (W * H) (W * H)]) ∧ w.heap.size ≤ k ∧ Row w' k (W * H) (fun _ => false) ∧ Below w.heap.size w w' := by
  subst eW eH
  have hN : W * H ≤ 4096 := Nat.mul_le_mul hW hH
  have hNi : (W : Int) * (H : Int) ≤ 4096 := by have := Int.ofNat_le.2 hN; simpa using this
  have hNi0 : 0 ≤ (W : Int) * (H : Int) := by have := Int.natCast_nonneg (W * H); simpa using this
  have hmk := make_run W H hN
  go_enter Try.func79, Try.ntmps79
  go_wp2
  refine bodyPost_ret (v := .agg #[.int .i64 W, .int .i64 H, .slice (some ⟨w.heap.size + 1, 0, none⟩) (W * H) (W * H)]) (by simp [results, Try.results79, go_sem]) rfl ⟨_, rfl, by omega, ?_, ?_⟩
  · have h := Row.made (w.alloc (.cells #[.int .i64 W, .int .i64 H, .slice (some ⟨w.heap.size + 1, 0, none⟩) (W * H) (W * H)] 24)) (W * H)
    simpa using h
  · exact ((Below.refl _ _).alloc (Nat.le_refl _) _).alloc (by simp) _

/-- What a double loop of the reference has written behind x columns and y cells: 'ax', 'ay' say for a cell from which round it comes. -/
def cp (ax ay : Nat → Nat) (G : Nat → Nat → Bool) (x y : Nat) : Nat → Bool := fun i => if ax i < x ∨ ax i = x ∧ ay i < y then G (ax i) (ay i) else false
theorem cp_zero (ax ay : Nat → Nat) (G : Nat → Nat → Bool) : cp ax ay G 0 0 = fun _ => false := by funext i; simp [cp]
theorem cp_succ {ax ay : Nat → Nat} {G : Nat → Nat → Bool} {x y t j : Nat} (h : j = t ↔ ax j = x ∧ ay j = y) : (if j = t then G x y else cp ax ay G x y j) = cp ax ay G x (y + 1) j := by
  unfold cp
  by_cases e : j = t
  · obtain ⟨e1, e2⟩ := h.1 e
    rw [if_pos e, if_pos (Or.inr ⟨e1, by omega⟩), e1, e2]
  · rw [if_neg e]
    have h' : ¬ (ax j = x ∧ ay j = y) := fun hh => e (h.2 hh)
    by_cases h1 : ax j < x ∨ ax j = x ∧ ay j < y
    · rw [if_pos h1, if_pos (by omega)]
    · rw [if_neg h1, if_neg (by omega)]
theorem cp_next {ax ay : Nat → Nat} {G : Nat → Nat → Bool} {x m j : Nat} (h : ay j < m) : cp ax ay G x m j = cp ax ay G (x + 1) 0 j := by
  unfold cp
  by_cases h1 : ax j < x ∨ ax j = x ∧ ay j < m
  · rw [if_pos h1, if_pos (by omega)]
  · rw [if_neg h1, if_neg (by omega)]
theorem cp_all {ax ay : Nat → Nat} {G : Nat → Nat → Bool} {m j : Nat} (h : ax j < m) : cp ax ay G m 0 j = G (ax j) (ay j) := by
  unfold cp; rw [if_pos (Or.inl h)]
theorem plain_at {W H x y j : Nat} (hx : x < W) (hj : j < W * H) : j = y * W + x ↔ j % W = x ∧ j / W = y := by
  constructor
  · rintro rfl
    exact ⟨by rw [Nat.mul_comm, Nat.mul_add_mod, Nat.mod_eq_of_lt hx], by rw [Nat.mul_comm, Nat.mul_add_div (by omega), Nat.div_eq_of_lt hx]; omega⟩
  · rintro ⟨rfl, rfl⟩
    exact (nat_div_mod W j).symm
theorem div_bd {W H j : Nat} (hj : j < W * H) : j / W < H := Nat.div_lt_of_lt_mul hj

/-- What a double loop keeps: the parameter, the grid that is written, the result's box. -/
structure DR (w wr : World) (W H : Nat) (A : Option Addr) (c : Nat) (f : Nat → Bool) (r o k V U : Nat) (F : Nat → Bool) : Prop where
  g : Box wr w.heap.size W H (.slice A (W * H) c)
  res : Box wr r 0 0 (.slice none 0 0)
  out : Box wr o V U (.slice (some ⟨k, 0, none⟩) (V * U) (V * U))
  row : Row wr k (V * U) F
  cells : Holds wr w.heap.size A (W * H) f
  bel : Below w.heap.size w wr
  s0 : w.heap.size < r
  s1 : r < k
  s2 : k < o
section
variable {w wr w' : World} {W H : Nat} {A : Option Addr} {c : Nat} {f : Nat → Bool} {r o k V U : Nat} {F F' : Nat → Bool}
theorem DR.next (h : DR w wr W H A c f r o k V U F) (hb : Below wr.heap.size wr w') : DR w w' W H A c f r o k V U F :=
  ⟨h.g.below hb h.g.lt, h.res.below hb h.res.lt, h.out.below hb h.out.lt, h.row.below hb h.row.lt, h.cells.below (hb.mono h.bel.size), h.bel.trans (hb.mono h.bel.size), h.s0, h.s1, h.s2⟩
theorem DR.but (h : DR w wr W H A c f r o k V U F) (hb : But k wr w') (hr : Row w' k (V * U) F') : DR w w' W H A c f r o k V U F' := by
  have s0 := h.s0
  have s1 := h.s1
  have s2 := h.s2
  exact ⟨hb.box h.g (by omega), hb.box h.res (by omega), hb.box h.out (by omega), hr, hb.holds h.cells (by omega) h.bel.size, hb.below h.bel (by omega), s0, s1, s2⟩
theorem DR.congr (h : DR w wr W H A c f r o k V U F) (e : ∀ i, i < V * U → F i = F' i) : DR w wr W H A c f r o k V U F' :=
  ⟨h.g, h.res, h.out, h.row.congr e, h.cells, h.bel, h.s0, h.s1, h.s2⟩
/-- The cells that a round reads. -/
theorem DR.six (h : DR w wr W H A c f r o k V U F) :
    wr.cell? ⟨w.heap.size, 0, none⟩ = some (.int .i64 W) ∧ wr.cell? ⟨w.heap.size, 1, none⟩ = some (.int .i64 H) ∧ wr.cell? ⟨w.heap.size, 2, none⟩ = some (.slice A (W * H) c) ∧
    wr.cell? ⟨o, 0, none⟩ = some (.int .i64 V) ∧ wr.cell? ⟨o, 1, none⟩ = some (.int .i64 U) ∧ wr.cell? ⟨o, 2, none⟩ = some (.slice (some ⟨k, 0, none⟩) (V * U) (V * U)) :=
  ⟨h.g.c0, h.g.c1, h.g.c2, h.out.c0, h.out.c1, h.out.c2⟩
end
end Go.Proofs.Ytjbofdgdcnfmoaa
