/- The map whose keys are the rows of a grid. -/
import Derived.Test.YtbafhdinalapoaaDoorKa
import Derived.Maps.OwnSet
import Derived.DeepKeys4
namespace Go.Proofs.YtbafhdinalapoaaDoor
open Go.RowKit Go.Maps
set_option linter.unusedVariables false
set_option linter.unusedSimpArgs false
set_option maxRecDepth 100000

open L2 (nd ren fst fst_le fst_keep fst_succ_hit fst_succ_miss fst_end nd_le)
/-- A row as an array: its cells, and behind them cells that are down. -/
def rowl (W : Nat) (f : Nat → Bool) (y : Nat) : List Value := (List.range 64).map fun i => Value.bool (decide (i < W) && f (y * W + i))
def rowv (W : Nat) (f : Nat → Bool) (y : Nat) : Value := .agg (rowl W f y).toArray
theorem rowl_len (W : Nat) (f : Nat → Bool) (y : Nat) : (rowl W f y).length = 64 := by simp [rowl]
theorem rowl_get (W : Nat) (f : Nat → Bool) (y i : Nat) (hi : i < 64) : (rowl W f y)[i]? = some (.bool (decide (i < W) && f (y * W + i))) := by
  simp [rowl, hi]
theorem rowv_eq {W : Nat} (hW : W ≤ 64) (f : Nat → Bool) (y z : Nat) : rowv W f y = rowv W f z ↔ rc W f y = rc W f z := by
  rw [rc_eq, rsm, decide_eq_true_eq]
  unfold rowv
  constructor
  · intro h i hi
    have h' : rowl W f y = rowl W f z := by simpa using h
    have e1 := rowl_get W f y i (by omega)
    have e2 := rowl_get W f z i (by omega)
    rw [h', e2] at e1
    simpa [hi] using e1.symm
  · intro h
    have e : rowl W f y = rowl W f z := by
      unfold rowl
      refine List.map_congr_left fun i _ => ?_
      by_cases hi : i < W
      · simp [hi, h i hi]
      · simp [hi]
    rw [e]
theorem mapM_is {α β : Type} (l : List α) (g : α → Option β) (F : α → β) (h : ∀ x ∈ l, g x = some (F x)) : l.mapM g = some (l.map F) := by
  induction l with
  | nil => rfl
  | cons x l ih =>
    have hx := h x (by simp)
    have hl := ih fun z hz => h z (by simp [hz])
    simp [hx, hl]
theorem flatten_one {α β : Type} (l : List α) (F : α → β) : (l.map fun x => [F x]).flatten = l.map F := by
  induction l with
  | nil => rfl
  | cons x l ih => simp [ih]
theorem cells156 : Tryd.prog.cellsOf 114 = 64 := by kernel_rfl
theorem mlaid : laidOutB Tryd.prog = true := by kernel_rfl
theorem law156 : Keyed Tryd.prog 114 := Keyed.of_law (deep_law_laid mlaid (m := 2) (by omega) (of_decide_eq_true (by kernel_rfl)) (by kernel_rfl) (by rw [Tryd.underlying114]))
/-- A row's key, as a map's entries are read. -/
def rkey (W : Nat) (f : Nat → Bool) (y : Nat) : Lit := .string (keyBytes ((List.range 64).map fun i => Lit.bool (decide (i < W) && f (y * W + i))))
theorem rkey_is (W : Nat) (f : Nat → Bool) (y : Nat) : keyOf Tryd.prog 114 (rowv W f y) = some (rkey W f y) := by
  have h1 : Tryd.prog.keyType 114 = true := by kernel_rfl
  have h2 : (rowv W f y).formed Tryd.prog 114 = true := by simp [rowv, Value.formed, Tryd.underlying114, cells156, rowl_len]
  obtain ⟨n, hn⟩ : ∃ n, Tryd.prog.types.size = n + 1 := ⟨Tryd.prog.types.size - 1, by have : 0 < Tryd.prog.types.size := of_decide_eq_true (by kernel_rfl); omega⟩
  have hys := mapM_is (List.range 64) (fun i => Tryd.prog.keyLits Tryd.prog.types.size 4 (((rowl W f y).drop (i * Tryd.prog.cellsOf 4)).take (Tryd.prog.cellsOf 4))) (fun i => [Lit.bool (decide (i < W) && f (y * W + i))]) (by
    intro i hi
    have hi' : i < 64 := by simpa using hi
    have hl : i < (rowl W f y).length := by rw [rowl_len]; exact hi'
    show Tryd.prog.keyLits Tryd.prog.types.size 4 _ = _
    rw [cells4, Nat.mul_one, List.drop_eq_getElem_cons hl, hn]
    have e : (rowl W f y)[i] = .bool (decide (i < W) && f (y * W + i)) := by
      have := rowl_get W f y i hi'
      rw [List.getElem?_eq_getElem hl] at this
      exact Option.some.inj this
    rw [e]
    simp [Program.keyLits, Tryd.underlying4])
  unfold keyOf
  rw [Tryd.underlying114]
  simp only [h1, h2, Bool.and_self, if_true]
  have hc : (rowv W f y).cells.toList = rowl W f y := by simp [rowv, Value.cells]
  simp only [Program.keyLits, Tryd.underlying114, hc]
  rw [if_pos (by rw [rowl_len, cells156]), hys, Option.map_some, flatten_one]
  rfl
theorem rkey_key (W : Nat) (f : Nat → Bool) (y : Nat) : WideAt.IsKeyLit (rkey W f y) := law156.key (rkey_is W f y)
theorem rkey_eq {W : Nat} (hW : W ≤ 64) (f : Nat → Bool) (y z : Nat) : rkey W f y = rkey W f z ↔ rc W f y = rc W f z := by
  rw [← rowv_eq hW]
  constructor
  · intro h
    exact law156.inj (rkey_is W f y) (h ▸ rkey_is W f z)
  · intro h
    have h1 := rkey_is W f y
    rw [h, rkey_is W f z] at h1
    exact (Option.some.inj h1).symm

/-- D is the map behind k rows: of each kind its number. -/
structure MapR (D : DataW Unit) (W : Nat) (f : Nat → Bool) (k : Nat) : Prop where
  tidy : Tidy D
  has : ∀ y, Maps.has D (rkey W f y) = decide (fst (rc W f) (rc W f y) k < k)
  val : ∀ y, fst (rc W f) (rc W f y) k < k → D.atKey (rkey W f y) (.lit (.int .i64 0)) = .lit (.int .i64 (nd (rc W f) (fst (rc W f) (rc W f y) k) : Nat))
  size : Maps.size D = nd (rc W f) k
section
variable {D : DataW Unit} {W : Nat} {f : Nat → Bool} {k : Nat}
theorem MapR.zero (W : Nat) (f : Nat → Bool) : MapR (.map []) W f 0 :=
  ⟨tidy_empty, fun x => by simp [Maps.has], fun x h => absurd h (by omega), rfl⟩
theorem MapR.seen (h : MapR D W f k) (hs : fst (rc W f) (rc W f k) k < k) : MapR D W f (k + 1) := by
  have e : ∀ y, fst (rc W f) (rc W f y) (k + 1) < k + 1 ↔ fst (rc W f) (rc W f y) k < k := by
    intro y
    by_cases h1 : fst (rc W f) (rc W f y) k < k
    · rw [fst_keep h1]; omega
    · have h2 : ¬ rc W f k = rc W f y := fun e => h1 (e ▸ hs)
      rw [fst_succ_miss h1 h2]; omega
  refine ⟨h.tidy, fun y => by rw [h.has y]; simp only [e y], fun y hy => ?_, ?_⟩
  · have h1 := (e y).1 hy
    rw [fst_keep h1]
    exact h.val y h1
  · rw [h.size, nd, if_pos hs]; rfl
theorem MapR.new (hW : W ≤ 64) (h : MapR D W f k) (hs : ¬ fst (rc W f) (rc W f k) k < k) : MapR (D.put (rkey W f k) (.lit (.int .i64 (nd (rc W f) k : Nat)))) W f (k + 1) := by
  have hk := rkey_key W f k
  have he := fst_end hs
  refine ⟨h.tidy.put hk _, fun y => ?_, fun y hy => ?_, ?_⟩
  · by_cases e : rc W f y = rc W f k
    · rw [(rkey_eq hW f y k).2 e, has_put_same h.tidy.isMap hk, e, fst_succ_hit hs rfl]
      simp
    · rw [has_put_other (fun e' => e ((rkey_eq hW f y k).1 e')), h.has y]
      by_cases h1 : fst (rc W f) (rc W f y) k < k
      · rw [fst_keep h1]; simp; omega
      · rw [fst_succ_miss h1 (fun e' => e e'.symm)]; simp; omega
  · by_cases e : rc W f y = rc W f k
    · rw [(rkey_eq hW f y k).2 e, atKey_put_same h.tidy.isMap hk, e, fst_succ_hit hs rfl]
    · rw [atKey_put_other (fun e' => e ((rkey_eq hW f y k).1 e'))]
      by_cases h1 : fst (rc W f) (rc W f y) k < k
      · rw [fst_keep h1]; exact h.val y h1
      · rw [fst_succ_miss h1 (fun e' => e e'.symm)] at hy; omega
  · rw [size_put h.tidy, h.has, if_neg (by simpa using hs), h.size, nd, if_neg hs]
end
/-- Block B is the map behind k rows. -/
def RowSt (w : World) (B W : Nat) (f : Nat → Bool) (k : Nat) : Prop := ∃ D : DataW Unit, w.ownsMap Tryd.prog 114 (plainElem Tryd.prog 3) B k D ∧ MapR D W f k
section
variable {w w' : World} {B W k : Nat} {f : Nat → Bool}
theorem RowSt.lt (h : RowSt w B W f k) : B < w.heap.size := by
  obtain ⟨D, ho, _⟩ := h
  exact ho.lt
theorem RowSt.zero (w : World) (W : Nat) (f : Nat → Bool) : RowSt (w.alloc (.map #[] 0)) w.heap.size W f 0 := ⟨_, World.ownsMap_made _ _ _ _, MapR.zero W f⟩
theorem RowSt.block (h : RowSt w B W f k) (e : w'.heap[B]? = w.heap[B]?) : RowSt w' B W f k := by
  obtain ⟨D, ⟨es, clock, hb, r⟩, hM⟩ := h
  exact ⟨D, ⟨es, clock, e.trans hb, r⟩, hM⟩
end
end Go.Proofs.YtbafhdinalapoaaDoor
