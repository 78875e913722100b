/- The least rectangles of a plane by the program (rectangles). -/
import Derived.Test.YtjbofdgdcnfmoaaFtw
import Derived.Test.YtjbofdgdcnfmoaaCb
namespace Go.Proofs.Ytjbofdgdcnfmoaa
open Go.RowKit
set_option maxRecDepth 100000
set_option linter.unusedVariables false
set_option linter.unusedSimpArgs false

def fcl (F : GD) : List Value := [.int .i64 (F.W : Nat), .int .i64 (F.H : Nat), .string ⟨(fby F).toArray⟩]
def fnews (n : Nat) (F : Nat → GD) : List Value := (List.range n).flatMap fun i => fcl (F i)
theorem fnews_succ (n : Nat) (F : Nat → GD) : fnews (n + 1) F = fnews n F ++ fcl (F n) := by
  unfold fnews
  rw [List.range_succ, List.flatMap_append]
  simp
theorem fnews_length (n : Nat) (F : Nat → GD) : (fnews n F).length = n * 3 := by
  induction n with
  | zero => rfl
  | succ n ih => rw [fnews_succ, List.length_append, ih]; show n * 3 + 3 = _; omega
theorem fnews_get (n : Nat) (F : Nat → GD) (i j : Nat) (hi : i < n) (hj : j < 3) : (fnews n F)[i * 3 + j]? = (fcl (F i))[j]? := by
  induction n with
  | zero => omega
  | succ n ih =>
    rw [fnews_succ]
    rcases Nat.lt_succ_iff_lt_or_eq.1 hi with h | rfl
    · rw [List.getElem?_append_left (by rw [fnews_length]; omega)]
      exact ih h
    · rw [List.getElem?_append_right (by rw [fnews_length]; omega), fnews_length]
      congr 1
      omega
theorem fnews_congr {n : Nat} {F G : Nat → GD} (h : ∀ i, i < n → F i = G i) : fnews n F = fnews n G := by
  induction n with
  | zero => rfl
  | succ n ih => rw [fnews_succ, fnews_succ, ih fun i hi => h i (by omega), h n (by omega)]
/-- A slice of forms that a call appends to. -/
def FOwn (w : World) (base : Nat) (v : Value) (n : Nat) (F : Nat → GD) : Prop := w.ownsRow base 116 3 v n (fnews n F)
theorem FOwn.keep {w w' : World} {base n : Nat} {v : Value} {F : Nat → GD} (h : FOwn w base v n F) (hb : ∀ k, base ≤ k → k < w.heap.size → w'.heap[k]? = w.heap[k]?) : FOwn w' base v n F := by
  rcases h with ⟨hl, ⟨hv, hn⟩ | ⟨g, cap, cur, hv, hg, hc, r⟩⟩
  · exact ⟨hl, .inl ⟨hv, hn⟩⟩
  · refine ⟨hl, .inr ⟨g, cap, cur, hv, hg, (hb g hg ?_).trans hc, r⟩⟩
    rcases Nat.lt_or_ge g w.heap.size with h | h
    · exact h
    · rw [Array.getElem?_eq_none h] at hc; cases hc
theorem FOwn.below {w w' : World} {base n : Nat} {v : Value} {F : Nat → GD} (h : FOwn w base v n F) (hb : Below w.heap.size w w') : FOwn w' base v n F := h.keep fun k _ hk => hb.block k hk
theorem FOwn.alloc {w : World} {base n : Nat} {v : Value} {F : Nat → GD} (h : FOwn w base v n F) (o : Obj) : FOwn (w.alloc o) base v n F := h.keep fun k _ hk => Below.heap_alloc w o k hk
theorem FOwn.congr {w : World} {base n : Nat} {v : Value} {F G : Nat → GD} (h : FOwn w base v n F) (e : ∀ i, i < n → F i = G i) : FOwn w base v n G := by
  unfold FOwn at *
  rwa [← fnews_congr e]
theorem FOwn.out {w : World} {base n : Nat} {v : Value} {F : Nat → GD} (h : FOwn w base v n F) : ∃ A c, v = .slice A n c ∧ (0 < n → ∃ k, A = some ⟨k, 0, none⟩ ∧ base ≤ k ∧ k < w.heap.size ∧ FRow w k n F) := by
  rcases h with ⟨hl, ⟨rfl, rfl⟩ | ⟨g, cap, cur, rfl, hg, hc, hcap, _, hs, ht⟩⟩
  · exact ⟨none, 0, rfl, fun h => absurd h (by omega)⟩
  · refine ⟨_, _, rfl, fun _ => ⟨g, rfl, hg, (Array.getElem?_eq_some_iff.1 hc).1, fun i hi => ?_⟩⟩
    have key : ∀ j, j < 3 → w.cell? ⟨g, i * 3 + j, none⟩ = (fcl (F i))[j]? := by
      intro j hj
      rw [Lib.cell_of_heap hc, ← fnews_get n F i j hi hj, ← ht, List.getElem?_take, if_pos (by omega)]
      exact Array.getElem?_toList.symm
    exact ⟨key 0 (by omega), key 1 (by omega), key 2 (by omega)⟩
theorem Try.info116 : (Try.prog.info? 116).map (fun i => (i.zero, i.size, i.bytes)) = some (some (.agg #[.int .i64 0, .int .i64 0, .string ⟨#[]⟩]), 3, 32) := by kernel_rfl
/-- append of a form. -/
theorem appF {ops : Array Oper} {rest : List Oper} {o : Oper} {a : Act} {Q : Exit → Act → World → Prop} (w : World) (hgd : o.guard = none) (s x : Operand)
    (ho : o.op = .call { callee := .builtin .append, args := #[s, x], argTypes := #[118, 118] }) (base : Nat) {v : Value} {n : Nat} {F : Nat → GD} (hs : a.eval s = v) (hown : FOwn w base v n F)
    (A R : Nat) (l : List UInt8) (hx : a.eval x = .slice (some ⟨w.heap.size, 0, none⟩) 1 1) (hy : fcl (F n) = [.int .i64 (A : Nat), .int .i64 (R : Nat), .string ⟨l.toArray⟩]) (hn : n ≤ 100000) (hb : base ≤ w.heap.size)
    (h : ∀ v' w', FOwn w' base v' (n + 1) F → Below base w w' → wpList Try.prog ops Q rest (a.put o.dst v') w') :
    wpList Try.prog ops Q (o :: rest) a (w.alloc (.cells #[.int .i64 (A : Nat), .int .i64 (R : Nat), .string ⟨l.toArray⟩] 116)) := by
  obtain ⟨i0, hi, hz0, hz1, hz2⟩ := info_parts Try.info116
  have hnew := Fb.new w (A : Nat) (R : Nat) (.string ⟨l.toArray⟩)
  refine wpList_append_own _ hgd s x 118 ho base 116 i0 (.agg #[.int .i64 0, .int .i64 0, .string ⟨#[]⟩]) 3 32 Try.underlying118 hi hz0 hz1 hz2 rfl (by decide) v n _ hs (hown.alloc _) ⟨w.heap.size, 0, none⟩ 1 1 (fcl (F n)) hx (by rw [hy]; rfl) (fun j u hj => ?_) (fun u hu => ?_)
    (by unfold maxLen; omega) (by omega) (by simp; omega) ?_
  · rw [addr_add0]
    rw [hy] at hj
    obtain ⟨a0, a1, a2, _⟩ := hnew.all
    match j, hj with
    | 0, hj => simp at hj; subst hj; exact a0
    | 1, hj => simp at hj; subst hj; exact a1
    | 2, hj => simp at hj; subst hj; exact a2
  · rw [hy] at hu
    simp at hu
    rcases hu with rfl | rfl | rfl <;> rfl
  intro v' w' ho' hg _
  refine h v' w' ?_ ?_
  · unfold FOwn
    rw [fnews_succ]
    exact ho'
  · refine Below.grown ((Below.refl _ _).alloc hb _) hg (by simp; omega) fun k hk => (World.ownsRow.lt hown k hk).1
theorem ext_cells (l : List UInt8) (x A : Nat) : Lib.strCells ((⟨l.toArray⟩ : ByteArray).extract x (x + A)) = Lib.byteCells ((l.drop x).take A) := by
  rw [Lib.strCells_eq]
  congr 1
  rw [ByteArray.data_extract]
  simp [List.extract_eq_drop_take']
theorem ext_size (l : List UInt8) (x A : Nat) (h : x + A ≤ l.length) : ((⟨l.toArray⟩ : ByteArray).extract x (x + A)).size = A := by
  rw [ByteArray.size_extract]
  show min (x + A) l.toArray.size - x = A
  rw [List.size_toArray]
  omega
theorem take_two (A : Nat) (l : Nat → UInt8) (x : Nat) (hx : x < A) : ((((List.range A).map l) ++ ((List.range A).map l)).drop x).take A = (List.range A).map fun i => l ((x + i) % A) := by
  apply List.ext_getElem?
  intro i
  rw [List.getElem?_take]
  by_cases hi : i < A
  · rw [if_pos hi, List.getElem?_drop, List.getElem?_map, List.getElem?_range hi]
    by_cases k : x + i < A
    · rw [List.getElem?_append_left (by simpa using k), List.getElem?_map, List.getElem?_range k]
      show some (l (x + i)) = some (l ((x + i) % A))
      rw [Nat.mod_eq_of_lt k]
    · rw [List.getElem?_append_right (by simp; omega), List.length_map, List.length_range, List.getElem?_map, List.getElem?_range (by omega)]
      show some (l (x + i - A)) = some (l ((x + i) % A))
      rw [Nat.mod_eq_sub_mod (by omega), Nat.mod_eq_of_lt (by omega)]
  · rw [if_neg hi, List.getElem?_eq_none (by simp; omega)]
/-- The cells of the first k rows of a rectangle. -/
def seg (A : Nat) (l : Nat → Nat → UInt8) (k : Nat) : List UInt8 := (List.range k).flatMap fun j => (List.range A).map (l j)
theorem seg_succ (A : Nat) (l : Nat → Nat → UInt8) (k : Nat) : seg A l (k + 1) = seg A l k ++ (List.range A).map (l k) := by
  unfold seg
  rw [List.range_succ, List.flatMap_append]
  simp
theorem seg_len (A : Nat) (l : Nat → Nat → UInt8) (k : Nat) : (seg A l k).length = k * A := by
  induction k with
  | zero => simp [seg]
  | succ k ih => rw [seg_succ, List.length_append, ih, List.length_map, List.length_range, Nat.add_mul, Nat.one_mul]
theorem seg_all (A : Nat) (l : Nat → Nat → UInt8) (ha : 1 ≤ A) (k : Nat) : seg A l k = (List.range (A * k)).map fun i => l (i / A) (i % A) := by
  induction k with
  | zero => simp [seg]
  | succ k ih =>
    rw [seg_succ, ih, Nat.mul_add, Nat.mul_one, List.range_add, List.map_append, List.map_map]
    congr 1
    apply List.map_congr_left
    intro i hi
    have hi := List.mem_range.1 hi
    show l k i = l ((A * k + i) / A) ((A * k + i) % A)
    rw [Nat.mul_add_div (by omega), Nat.div_eq_of_lt hi, Nat.mul_add_mod, Nat.mod_eq_of_lt hi, Nat.add_zero]
theorem rec_seg {W H A B C : Nat} {f : Nat → Bool} (hL : IsL W H f A B C) (hH : rh A B C ≤ H) (hH0 : 1 ≤ H) (x y : Nat) : seg A (fun j i => mkc (f ((y + j) % rh A B C * W + (x + i) % A))) (rh A B C) = fby (rec_ ⟨W, H, f⟩ A (rh A B C) x y) := by
  rw [seg_all _ _ hL.a0]
  unfold fby rec_
  apply List.map_congr_left
  intro i _
  dsimp only
  congr 1
  have r0 := rh_pos (B := B) hL.a0 hL.c0
  rw [← hL.per hH0 (x + i % A) (y + i / A)]
  unfold pc
  have m1 : (y + i / A) % rh A B C < H := Nat.lt_of_lt_of_le (Nat.mod_lt _ r0) hH
  have m2 : (x + i % A) % A < W := Nat.lt_of_lt_of_le (Nat.mod_lt _ hL.a0) hL.aw
  rw [Nat.mod_eq_of_lt m1, Nat.mod_eq_of_lt m2]
/-- What lies while the rectangles are written: the lines at gl. -/
structure LS2 (w wr : World) (W H : Nat) (sa : Value) (gl B0 A R : Nat) (f : Nat → Bool) : Prop where
  ls : ∀ j, j < 2 * R → wr.cell? ⟨gl, j, none⟩ = some (tw W A f (j % R))
  gl0 : gl < B0
  sz : B0 ≤ wr.heap.size
  bel : Below w.heap.size w wr
  wb : w.heap.size ≤ B0
theorem LS2.step {w wr w' : World} {W H : Nat} {sa : Value} {gl B0 A R : Nat} {f : Nat → Bool} (h : LS2 w wr W H sa gl B0 A R f) (hb : Below B0 wr w') : LS2 w w' W H sa gl B0 A R f :=
  ⟨fun j hj => (hb.cell (p := ⟨gl, j, none⟩) h.gl0).trans (h.ls j hj), h.gl0, Nat.le_trans h.sz hb.size, h.bel.trans (hb.mono h.wb), h.wb⟩
theorem LS2.next {w wr w' : World} {W H : Nat} {sa : Value} {gl B0 A R : Nat} {f : Nat → Bool} (h : LS2 w wr W H sa gl B0 A R f) (hb : Below wr.heap.size wr w') : LS2 w w' W H sa gl B0 A R f := h.step (hb.mono h.sz)
theorem tw_at {W A R : Nat} {f : Nat → Bool} (r0 : 1 ≤ R) : ∀ j v, ((List.range R).map (tw W A f) ++ (List.range R).map (tw W A f))[j]? = some v → j < 2 * R := by
  intro j v h
  have := (List.getElem?_eq_some_iff.1 h).1
  rw [List.length_append, List.length_map, List.length_range] at this
  omega
theorem tw_get {W A R : Nat} {f : Nat → Bool} (j : Nat) (hj : j < 2 * R) : ((List.range R).map (tw W A f) ++ (List.range R).map (tw W A f))[j]? = some (tw W A f (j % R)) := by
  by_cases k : j < R
  · rw [List.getElem?_append_left (by simpa using k), List.getElem?_map, List.getElem?_range k, Nat.mod_eq_of_lt k]; rfl
  · rw [List.getElem?_append_right (by simp; omega), List.length_map, List.length_range, List.getElem?_map, List.getElem?_range (by omega)]
    show some (tw W A f (j - R)) = _
    rw [Nat.mod_eq_sub_mod (by omega), Nat.mod_eq_of_lt (by omega)]
set_option maxHeartbeats 3200000 in
theorem rects_any {W H A B C : Nat} {f : Nat → Bool} (hL : IsL W H f A B C) (b o d : Nat) (w : World) (lb : b < w.heap.size) (hcs : ∀ i, i < W * H → w.cell? ⟨b, o + i, none⟩ = some (.bool (f i))) (hcp : W * H ≤ d) (hW : W ≤ 64) (hH0 : 1 ≤ H) (hH : H ≤ 64) :
    Calls Try.prog 96 #[.agg #[.int .i64 (W : Nat), .int .i64 (H : Nat), .slice (some ⟨b, o, none⟩) (W * H) d]] w fun e w' => ∃ k c, e = .returned (.slice (some ⟨k, 0, none⟩) (A * rh A B C) c) ∧ k < w'.heap.size ∧ FRow w' k (A * rh A B C) (fun i => rec_ ⟨W, H, f⟩ A (rh A B C) (i % A) (i / A)) ∧ Below w.heap.size w w' := by
  have HA : ∀ v, Below w.heap.size w v → ∀ i, i < W * H → v.cell? ⟨b, o + i, none⟩ = some (.bool (f i)) := fun v h i hi => (h.cell (p := ⟨b, o + i, none⟩) lb).trans (hcs i hi)
  have r0 := rh_pos (B := B) hL.a0 hL.c0
  have rH : rh A B C ≤ H := Nat.le_of_dvd hH0 (Nat.dvd_of_mod_eq_zero (rh_div hL hH0))
  have a0 := hL.a0
  have aw := hL.aw
  have HR := Lib.hid (fun v (h : Below w.heap.size w v) => prect_at hL (some ⟨b, o, none⟩) d v (fun _ => ⟨b, o, rfl, Nat.lt_of_lt_of_le lb h.size, HA v h⟩) hcp hW hH0 hH)
  have HT := Lib.hid (fun v (h : Below w.heap.size w v) => twice_any W H b o d A (rh A B C) f v (Nat.lt_of_lt_of_le lb h.size) (HA v h) hW hH a0 aw r0 rH)
  have HS := Lib.hid (fun x y => rec_seg hL rH hH0 x y)
  generalize rh A B C = R at *
  obtain ⟨N, hN⟩ : ∃ N, W * H = N := ⟨_, rfl⟩
  rw [hN] at HR HT ⊢
  have X0 := Lib.hid (Box.new w (W : Nat) (H : Nat) (.slice (some ⟨b, o, none⟩) N d))
  have L0 := Lib.hid (show Below w.heap.size w (w.alloc (.cells #[.int .i64 (W : Nat), .int .i64 (H : Nat), .slice (some ⟨b, o, none⟩) N d] 24)) from blA (Below.refl _ _) (Nat.le_refl _) _)
  clear hL HA hcs hcp hN
  go_enter Try.func96, Try.ntmps96
  obtain ⟨q0, q1, q2, q3, q4, q5, q6⟩ := X0.out.all
  go_wp2_with fail
  clear q0 q1 q2 q3 q4 q5 q6
  refine (HR.out _ L0.out).mono ?_
  rintro e w1 ⟨rfl, hb⟩
  have X1 := Lib.hid (X0.out.below hb X0.out.lt)
  have L1 := Lib.hid (L0.out.trans (hb.mono L0.out.size))
  clear hb X0 L0 HR
  obtain ⟨q0, q1, q2, q3, q4, q5, q6⟩ := X1.out.all
  go_wp2_with fail
  clear q0 q1 q2 q3 q4 q5 q6
  refine (HT.out _ L1.out).mono ?_
  rintro e w2 ⟨gl, rfl, hg, hh, hb⟩
  have hgl : gl < w2.heap.size := (Array.getElem?_eq_some_iff.1 hh).1
  have S2 : Hid (LS2 w w2 W H (.slice (some ⟨b, o, none⟩) N d) gl w2.heap.size A R f) := Lib.hid ⟨fun j hj => by rw [Lib.cell_of_heap hh]; show _ = _; rw [List.getElem?_toArray]; exact tw_get j hj, hgl, Nat.le_refl _, L1.out.trans (hb.mono L1.out.size), Nat.le_trans L1.out.size hb.size⟩
  clear hb hh hg HT X1 L1
  obtain ⟨B0, hB0⟩ : ∃ B0, w2.heap.size = B0 := ⟨_, rfl⟩
  rw [hB0] at S2 hgl
  have FN : Hid (FOwn w2 B0 (.slice none 0 0) 0 (fun i => rec_ ⟨W, H, f⟩ A R (i % A) (i / A))) := Lib.hid (World.ownsRow_nil _ _ _ _)
  clear hB0
  go_wp2
  go_loopw [7, 23] (fun l v wr => ∃ y : Nat, y ≤ R ∧ v = .int .i64 y ∧ Hid (FOwn wr B0 l (y * A) (fun i => rec_ ⟨W, H, f⟩ A R (i % A) (i / A))) ∧ Hid (LS2 w wr W H (.slice (some ⟨b, o, none⟩) N d) gl B0 A R f)) (fun _ v _ => R - (intOf v).toNat)
  case atStart => exact ⟨0, by omega, rfl, by rw [Nat.zero_mul]; exact FN, S2⟩
  case round =>
    obtain ⟨y, hy, rfl, HO, HL⟩ := hrel
    by_cases hly : y < R
    · go_wp2
      go_loopw [7, 27] (fun l v wr => ∃ x : Nat, x ≤ A ∧ v = .int .i64 x ∧ Hid (FOwn wr B0 l (y * A + x) (fun i => rec_ ⟨W, H, f⟩ A R (i % A) (i / A))) ∧ Hid (LS2 w wr W H (.slice (some ⟨b, o, none⟩) N d) gl B0 A R f)) (fun _ v _ => A - (intOf v).toNat)
      case atStart => exact ⟨0, by omega, rfl, HO, HL⟩
      case round =>
        obtain ⟨x, hx, rfl, HO, HL⟩ := hrel
        by_cases hlx : x < A
        · obtain ⟨gb, hgb⟩ : ∃ gb, wr.heap.size = gb := ⟨_, rfl⟩
          have BD : Hid (Lib.IsBuilderF 124 5 gb gb (Lib.byteCells []) (wr.alloc (.cells #[.pointer none, .slice none 0 0] 124))) := Lib.hid (by rw [← hgb]; exact Lib.IsBuilderF.of (Lib.fresh_isBuilder 124 5 wr))
          have hsz := HL.out.sz
          obtain ⟨wo, rfl⟩ : ∃ wo : World, wo = wr := ⟨_, rfl⟩
          have HB0 := Lib.hid (show Below gb wo (wo.alloc (.cells #[.pointer none, .slice none 0 0] 124)) from by rw [← hgb]; exact blA (Below.refl _ _) (Nat.le_refl _) _)
          go_wp2
          go_loopw [31] (fun v wr => ∃ k : Nat, k ≤ R ∧ v = .int .i64 k ∧ Hid (Lib.IsBuilderF 124 5 gb gb (Lib.byteCells (seg A (fun j i => mkc (f ((y + j) % R * W + (x + i) % A))) k)) wr) ∧ Hid (Below gb wo wr)) (fun v _ => R - (intOf v).toNat)
          case atStart => exact ⟨0, by omega, rfl, BD, HB0⟩
          case round =>
            obtain ⟨k, hk, rfl, HD, HB⟩ := hrel
            have hle : gb ≤ wr.heap.size := by have := HB.out.size; omega
            by_cases hlk : k < R
            · have HL2 := Lib.hid (HL.out.next (HB.out.mono (by omega)))
              have hyk : y + k < 2 * R := by omega
              have e1 : IntKind.i64.wrap ((y : Int) + (k : Int)) = ((y + k : Nat) : Int) := by rw [Int.natCast_add]; exact IntWalk.i64_in _ (by omega)
              have e2 : IntKind.i64.wrap ((x : Int) + (A : Int)) = ((x + A : Nat) : Int) := by rw [Int.natCast_add]; exact IntWalk.i64_in _ (by omega)
              have ce := HL2.out.ls (y + k) hyk
              unfold tw at ce
              have hs1 : (⟨(ln W A f ((y + k) % R) ++ ln W A f ((y + k) % R)).toArray⟩ : ByteArray).size = 2 * A := by
                show (ln W A f ((y + k) % R) ++ ln W A f ((y + k) % R)).toArray.size = _
                rw [List.size_toArray, List.length_append]; unfold ln; rw [List.length_map, List.length_range]; omega
              have HE := Lib.hid (show Lib.strCells ((⟨(ln W A f ((y + k) % R) ++ ln W A f ((y + k) % R)).toArray⟩ : ByteArray).extract x (x + A)) = Lib.byteCells ((List.range A).map fun i => mkc (f ((y + k) % R * W + (x + i) % A))) by
                rw [ext_cells]
                unfold ln
                rw [take_two A (fun i => mkc (f ((y + k) % R * W + i))) x hlx])
              have HZ := Lib.hid (show ((⟨(ln W A f ((y + k) % R) ++ ln W A f ((y + k) % R)).toArray⟩ : ByteArray).extract x (x + A)).size = A from ext_size _ _ _ (by
                rw [List.length_append]; unfold ln; rw [List.length_map, List.length_range]; omega))
              have HC := Lib.hid (seg_succ A (fun j i => mkc (f ((y + j) % R * W + (x + i) % A))) k)
              generalize (⟨(ln W A f ((y + k) % R) ++ ln W A f ((y + k) % R)).toArray⟩ : ByteArray) = s at *
              have hlen : (Lib.byteCells (seg A (fun j i => mkc (f ((y + j) % R * W + (x + i) % A))) k)).length + (s.extract x (x + A)).size ≤ 140737488355328 := by
                have hkA : k * A ≤ 64 * 64 := Nat.mul_le_mul (by omega) (by omega)
                rw [Lib.byteCells_length, seg_len, HZ.out]; omega
              have HW := Lib.hid (wstr_any gb gb _ (s.extract x (x + A)) wr HD.out hlen hle)
              clear hlen
              obtain ⟨yk, hyk2⟩ : ∃ yk, y + k = yk := ⟨_, rfl⟩
              rw [hyk2] at e1 ce hyk
              obtain ⟨xa, hxa⟩ : ∃ xa, x + A = xa := ⟨_, rfl⟩
              rw [hxa] at e2 HW HE HZ
              have b1 : (yk : Int) < ((2 * R : Nat) : Int) := by omega
              have b2 : (x : Int) ≤ (xa : Int) := by omega
              have b3 : (xa : Int) ≤ (s.size : Int) := by omega
              have b4 : x ≤ xa := by omega
              have b5 : xa ≤ s.size := by omega
              have b6 : yk < 2 * R := hyk
              clear hyk2 hxa
              go_wp2_with fail
              refine HW.out.mono ?_
              rintro e w3 ⟨rfl, h1, hb⟩
              have hD3 := Lib.hid (show Lib.IsBuilderF 124 5 gb gb (Lib.byteCells (seg A (fun j i => mkc (f ((y + j) % R * W + (x + i) % A))) (k + 1))) w3 from .inr (by rw [HC.out, Lib.byteCells_append, ← HE.out]; exact h1))
              have hB3 := Lib.hid (HB.out.trans hb)
              clear hb h1 HW HE HZ HC ce hs1 b3 b5
              go_wp2
              exact ⟨⟨k + 1, by omega, by go_num, hD3, hB3⟩, by simp [intOf]; omega⟩
            · have e : k = R := by omega
              subst e
              rw [HS.out x y] at HD
              have HL2 := Lib.hid (HL.out.next (HB.out.mono (by omega)))
              have HO2 := Lib.hid (HO.out.below (HB.out.mono (by omega)))
              have hF : (fun i => rec_ ⟨W, H, f⟩ A k (i % A) (i / A)) (y * A + x) = rec_ ⟨W, H, f⟩ A k x y := by
                show rec_ _ A k ((y * A + x) % A) ((y * A + x) / A) = _
                rw [(co y hlx).1, (co y hlx).2]
              have HY := Lib.hid (show fcl ((fun i => rec_ ⟨W, H, f⟩ A k (i % A) (i / A)) (y * A + x)) = [.int .i64 (A : Nat), .int .i64 (k : Nat), .string ⟨(fby (rec_ ⟨W, H, f⟩ A k x y)).toArray⟩] by rw [hF]; rfl)
              have hn2 : y * A + x ≤ 100000 := by
                have := Nat.mul_le_mul (show y ≤ 64 by omega) (show A ≤ 64 by omega); omega
              have HDo := HD.out
              clear hF HS
              go_wp2_with fail
              refine (Try.Builder_String_any_f gb gb (fby (rec_ ⟨W, H, f⟩ A k x y)) wr HDo hle).mono ?_
              rintro e w4 ⟨rfl, _, hb⟩
              have HL4 := Lib.hid (HL2.out.step (hb.mono (by omega)))
              have HO4 := Lib.hid (HO.out.below ((HB.out.trans hb).mono (by omega)))
              have hsz4 : B0 ≤ w4.heap.size := HL4.out.sz
              clear hb HL2 HO2 HD HDo HB
              generalize fby (rec_ ⟨W, H, f⟩ A k x y) = l at *
              go_wp2_with (at_builtin; refine appF _ rfl _ _ (by rfl) B0 (by rfl) HO4.out A k l (by rfl) HY.out hn2 hsz4 ?_; intro v' w5 hown5 hb5; have HO5 := Lib.hid hown5; have HB5 := Lib.hid hb5; clear hown5 hb5)
              exact ⟨⟨x + 1, by omega, by go_num, HO5, Lib.hid (HL4.out.step HB5.out)⟩, by simp [intOf]; omega⟩
        · have e : x = A := by omega
          subst e
          go_wp2
          exact ⟨⟨y + 1, by omega, by go_num, by rw [Nat.add_mul, Nat.one_mul]; exact HO, HL⟩, by simp [intOf]; omega⟩
    · have e : y = R := by omega
      subst e
      have hp : 0 < y * A := Nat.mul_pos r0 a0
      obtain ⟨D, c, rfl, hr⟩ := HO.out.out
      obtain ⟨k, rfl, hk, hkl, hfr⟩ := hr hp
      rw [Nat.mul_comm y A] at hfr ⊢
      have HF := Lib.hid hfr
      have HBe := HL.out.bel
      clear hfr hr HO
      go_wp2
      go_ret
      exact ⟨k, c, rfl, hkl, HF.out, HBe⟩
end Go.Proofs.Ytjbofdgdcnfmoaa
