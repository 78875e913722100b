/- Merged: rows of values; slices.Repeat; slices.Clone; queues that lose their head. -/
import Derived.Test.YtmcdfnhpaneanaaKow
import Derived.Test.YtmcdfnhpaneanaaCim
import Derived.BigRegion
import Derived.Deep.AppendSrc
import Derived.Deep.LoopGhost
import Derived.Laws.CopyOwn
import Derived.Lib.Builder
import Derived.RangeFuncBox
import Derived.Shelf.Bits.Mul64
/- Rows of values that a call has made. -/
namespace Go.Proofs.Ytmcdfnhpaneanaa
open Go.RowKit
set_option maxRecDepth 100000
set_option linter.unusedVariables false
set_option linter.unusedSimpArgs false

/-- A row of values of the call's own. -/
def VR (w : World) (g : Nat) (t : TypeId) (n : Nat) (F : Nat → Value) : Prop := ∃ cs : Array Value, w.heap[g]? = some (.cells cs t (0, 0)) ∧ n ≤ cs.size ∧ ∀ i, i < n → cs[i]? = some (F i)
section
variable {w w' : World} {g n B : Nat} {t : TypeId} {F : Nat → Value}
theorem VR.lt (h : VR w g t n F) : g < w.heap.size := by obtain ⟨cs, h, _⟩ := h; exact (Array.getElem?_eq_some_iff.1 h).1
theorem VR.cell (h : VR w g t n F) {i : Nat} (hi : i < n) : w.cell? ⟨g, i, none⟩ = some (F i) := by
  obtain ⟨cs, h1, _, h3⟩ := h
  rw [Lib.cell_of_heap h1]
  exact h3 i hi
theorem VR.free (h : VR w g t n F) (i : Nat) : w.frozen? ⟨g, i, none⟩ = false := by
  obtain ⟨cs, h1, _⟩ := h
  exact Lib.frozen_of_heap h1 i
theorem VR.below (h : VR w g t n F) (hb : Below B w w') (hg : g < B) : VR w' g t n F := by
  obtain ⟨cs, h1, h2⟩ := h
  exact ⟨cs, (hb.block g hg).trans h1, h2⟩
theorem VR.alloc (h : VR w g t n F) (o : Obj) : VR (w.alloc o) g t n F := by
  have hl := h.lt
  obtain ⟨cs, h1, h2⟩ := h
  exact ⟨cs, (Below.heap_alloc w o g hl).trans h1, h2⟩
theorem VR.far (h : VR w g t n F) {p : Addr} (hp : g ≠ p.block) (u : Value) : VR (w.setCell p u) g t n F := by
  obtain ⟨cs, h1, h2⟩ := h
  exact ⟨cs, (Below.heap_setCell w p u g hp).trans h1, h2⟩
theorem VR.set_ (h : VR w g t n F) (i : Nat) (v : Value) : VR (w.setCell ⟨g, i, none⟩ v) g t n (fun j => if j = i then v else F j) := by
  obtain ⟨cs, h1, h2, h3⟩ := h
  refine ⟨cs.setIfInBounds i v, by simp [World.setCell, Array.getElem?_modify, h1], by simpa using h2, fun j hj => ?_⟩
  rw [Array.getElem?_setIfInBounds]
  by_cases e : i = j
  · subst e; simp; omega
  · have e' : ¬ j = i := fun h => e h.symm
    simp [e, e', h3 j hj]
theorem VR.congr {F' : Nat → Value} (h : VR w g t n F) (e : ∀ i, i < n → F i = F' i) : VR w g t n F' := by
  obtain ⟨cs, h1, h2, h3⟩ := h
  exact ⟨cs, h1, h2, fun i hi => by rw [h3 i hi, e i hi]⟩
end
theorem VR.made (w : World) (n : Nat) (z : Value) (t : TypeId) : VR (w.alloc (.cells (madeCells #[z] n) t)) w.heap.size t n (fun _ => z) := by
  refine ⟨madeCells #[z] n, World.alloc_heap_new w _, Nat.le_of_eq (size_madeCells _ _).symm, fun i hi => ?_⟩
  simp [madeCells, hi, Nat.mod_one]
theorem Try.info3i : (Try.prog.info? 3).map (fun i => (i.zero, i.size, i.bytes)) = some (some (.int .i64 0), 1, 8) := by kernel_rfl
theorem mki_run (N : Nat) (hN : N ≤ 4096) (w : World) :
    (Instr.makeSlice 22 (.int .i64 (N : Nat)) (.int .i64 (N : Nat))).run Try.prog w = .ok (.slice (some ⟨w.heap.size, 0, none⟩) N N) (w.alloc (.cells (madeCells #[.int .i64 0] N) 3)) :=
  run_make_row' (P := Try.prog) 22 3 (.int .i64 0) 8 Try.underlying22 Try.info3i rfl .i64 .i64 N (by omega) (by omega) w
end Go.Proofs.Ytmcdfnhpaneanaa
/- bits.Mul of the shelf; slices.Repeat of one element. -/
namespace Go.Proofs
open Go.Shelf
def Try.lays264_ren : Go.Shelf.Ren := ⟨fun | 264 => 88 | n => n, fun | 53 => 119 | 46 => 110 | n => n, fun | n => n⟩
theorem Try.lays264 : Go.Proofs.Lays.n264 Try.prog Try.lays264_ren := {
  mixed := by kernel_rfl
  f264 := Try.func88.trans (congrArg some (by kernel_rfl))
  t46 := Try.underlying110
  a46 := Try.isAgg110
  z46 := Try.sizeOf110
  v46 := Try.zeroValue110
  t53 := Try.underlying119
  a53 := Try.isAgg119
  z53 := Try.sizeOf119
  v53 := Try.zeroValue119 }
open Go.RowKit Go.Lib in
theorem Try.bits_Mul64 (x y : Nat) (hx : x < 18446744073709551616) (hy : y < 18446744073709551616) (w : World) :
    Calls Try.prog 88 #[.int .u64 x, .int .u64 y] w fun e w' => e = .returned (.tuple #[.int .u64 ((x * y / 18446744073709551616 : Nat) : Int), .int .u64 ((x * y % 18446744073709551616 : Nat) : Int)]) ∧ w' = w := Any.bits_Mul64 Try.lays264 x y hx hy w
def Try.lays212_ren : Go.Shelf.Ren := ⟨fun | 212 => 85 | 263 => 87 | 264 => 88 | n => n, fun | 46 => 110 | 51 => 116 | 146 => 117 | 53 => 119 | 148 => 120 | n => n, fun | n => n⟩
theorem Try.lays212 : Go.Proofs.Lays.n212 Try.prog Try.lays212_ren := {
  mixed := by kernel_rfl
  f212 := Try.func85.trans (congrArg some (by kernel_rfl))
  f263 := Try.func87.trans (congrArg some (by kernel_rfl))
  f264 := Try.func88.trans (congrArg some (by kernel_rfl))
  t46 := Try.underlying110
  a46 := Try.isAgg110
  z46 := Try.sizeOf110
  v46 := Try.zeroValue110
  t51 := Try.underlying116
  a51 := Try.isAgg116
  z51 := Try.sizeOf116
  v51 := Try.zeroValue116
  t53 := Try.underlying119
  a53 := Try.isAgg119
  z53 := Try.sizeOf119
  v53 := Try.zeroValue119
  t146 := Try.underlying117
  a146 := Try.isAgg117
  z146 := Try.sizeOf117
  v146 := Try.zeroValue117
  t148 := Try.underlying120
  a148 := Try.isAgg120
  z148 := Try.sizeOf120
  v148 := Try.zeroValue120 }
open Go.RowKit Go.Lib in
/-- math/bits.Mul: "Mul returns the full-width product of x and y": on a machine of 64 bits: Mul64's. (LAID: no walk: one application.) -/
theorem Try.bits_Mul (x y : Nat) (hx : x < 18446744073709551616) (hy : y < 18446744073709551616) (w : World) :
    Calls Try.prog 85 #[.int .u64 x, .int .u64 y] w fun e w' => e = .returned (.tuple #[.int .u64 ((x * y / 18446744073709551616 : Nat) : Int), .int .u64 ((x * y % 18446744073709551616 : Nat) : Int)]) ∧ w' = w := Any.bits_Mul Try.lays212 x y hx hy w
end Go.Proofs
namespace Go.Proofs.Ytmcdfnhpaneanaa.L2
open Go.RowKit
set_option linter.unusedVariables false
set_option linter.unusedSimpArgs false

theorem mul_one (N : Nat) (hN : N ≤ 1000) (w : World) : Calls Try.prog 85 #[.int .u64 1, .int .u64 N] w fun e w' => e = .returned (.tuple #[.int .u64 0, .int .u64 N]) ∧ w = w' := by
  have h := Try.bits_Mul 1 N (by omega) (by omega) w
  have e1 : 1 * N / 18446744073709551616 = 0 := by omega
  have e2 : 1 * N % 18446744073709551616 = N := by omega
  rw [e1, e2] at h
  exact h.mono fun _ _ h => ⟨h.1, h.2.symm⟩

/-- The block g is a row of N elements, known whole. -/
def RowL (w : World) (g N : Nat) (F : Nat → Int) : Prop := ∃ cur : List Value, w.heap[g]? = some (.cells cur.toArray 3 (0, 0)) ∧ cur.length = N ∧ ∀ i, i < N → cur[i]? = some (.int .i64 (F i))
theorem RowL.row {w : World} {g N : Nat} {F : Nat → Int} (h : RowL w g N F) : Row w g N F := by
  obtain ⟨cur, h1, h2, h3⟩ := h
  exact ⟨cur.toArray, h1, by simp; omega, fun i hi => by simpa using h3 i hi⟩
theorem RowL.made (w : World) (n : Nat) : RowL (w.alloc (.cells (madeCells #[.int .i64 0] n) 3)) w.heap.size n (fun _ => 0) := by
  refine ⟨(madeCells #[.int .i64 0] n).toList, ?_, by simp [size_madeCells], fun i hi => ?_⟩
  · show (w.heap.push _)[w.heap.size]? = _
    rw [Array.getElem?_push, if_pos rfl]
  · simp [madeCells, hi, Nat.mod_one]
theorem splice_get {cur : List Value} {off L N k : Nat} {v z : Int} (hl : cur.length = N) (hc : ∀ i, i < N → cur[i]? = some (.int .i64 (if i < k then v else z))) (ho : off = k) (hL : off + L ≤ N) :
    (splice cur off (List.replicate L (.int .i64 v))).length = N ∧ ∀ i, i < N → (splice cur off (List.replicate L (.int .i64 v)))[i]? = some (.int .i64 (if i < k + L then v else z)) := by
  subst ho
  refine ⟨by rw [length_splice _ _ _ (by simp; omega), hl], fun i hi => ?_⟩
  unfold splice
  by_cases h1 : i < off
  · rw [List.getElem?_append_left (by simp; omega), List.getElem?_take, if_pos h1, hc i hi, if_pos h1, if_pos (by omega)]
  · rw [List.getElem?_append_right (by simp; omega)]
    have e : (cur.take off).length = off := by simp; omega
    rw [e]
    by_cases h2 : i < off + L
    · rw [List.getElem?_append_left (by simp; omega), List.getElem?_replicate, if_pos (by omega), if_pos h2]
    · rw [List.getElem?_append_right (by simp; omega), List.length_replicate, List.getElem?_drop, if_neg h2]
      rw [show off + L + (i - off - L) = i by omega, hc i hi, if_neg h1]

theorem info1 : (Try.prog.info? 3).map (·.size) = some 1 := by kernel_rfl

set_option maxHeartbeats 3200000 in
theorem repeat_any (bx cx N : Nat) (v : Int) (w : World) (hx : w.cell? ⟨bx, 0, none⟩ = some (.int .i64 v)) (hbx : bx < w.heap.size) (h0 : 1 ≤ N) (hN : N ≤ 1000) :
    Calls Try.prog 80 #[.slice (some ⟨bx, 0, none⟩) 1 cx, .int .i64 N] w fun e w' => ∃ k, e = .returned (.slice (some ⟨k, 0, none⟩) N N) ∧ w.heap.size ≤ k ∧ Row w' k N (fun _ => v) ∧ Below w.heap.size w w' := by
  have hmk := mki_run N (by omega)
  obtain ⟨cs, hcs⟩ : ∃ cs : List Value, cs = [.int .i64 v] := ⟨_, rfl⟩
  have hR := RowL.made w N
  obtain ⟨cur, hc1, hc2, hc3⟩ := hR
  have HC := Lib.hid hc1
  have HL := Lib.hid hc2
  have H3 := Lib.hid hc3
  have HX := Lib.hid hx
  have HB := Lib.hid ((Below.refl w.heap.size w).alloc (Nat.le_refl _) (.cells (madeCells #[.int .i64 0] N) 3))
  have d1 : decide ((9223372036854775807 : Int) < (N : Int)) = false := by simp; omega
  have HMIN := Lib.hid (show ([.int .i64 v] : List Value).length = Nat.min 1 N by show 1 = min 1 N; omega)
  clear hc1 hc2 hc3 hx
  go_enter Try.func80, Try.ntmps80
  go_wp2_with fail
  refine (mul_one N hN _).mono ?_
  rintro e w1 ⟨rfl, rfl⟩
  go_wp2_with ((with_reducible show wpList _ _ _ (⟨some 33, _, _, _, _, _⟩ :: _) _ _); refine wpList_copy_splice rfl (.tmp 31) (.tmp 32) 22 22 (by rfl) 3 Try.underlying22 info1 _ _ _ _ _ _ (by rfl) (by rfl) w.heap.size 0 cur 3 HC.out [.int .i64 v] HMIN.out (fun _ => ⟨rfl, ⟨bx, 0, none⟩, rfl, fun j u hj => by
    match j, hj with
    | 0, hj => simp at hj; subst hj; exact (HB.out.cell (p := ⟨bx, 0, none⟩) hbx).trans HX.out⟩) (by simp; rw [HL.out]; omega) (by intro u hu; simp at hu; subst hu; rfl) w.heap.size w HB.out (Nat.le_refl _) ?_; intro w2 hh hb2; have HH := Lib.hid hh.out; have HB2 := Lib.hid hb2; clear hh hb2)
  go_wp2
  go_loopw [8] (fun i wr => ∃ k : Nat, 1 ≤ k ∧ k ≤ N ∧ i = .int .i64 k ∧ Hid (RowL wr w.heap.size N (fun i => if i < k then v else 0)) ∧ Below w.heap.size w wr) (fun i _ => N - (intOf i).toNat)
  case atStart =>
    have hs := splice_get (off := 0) (L := 1) (k := 0) (v := v) (z := 0) HL.out (fun i hi => by rw [H3.out i hi]; rfl) rfl (by omega)
    exact ⟨1, Nat.le_refl _, h0, by simp, Lib.hid ⟨_, HH.out, hs.1, fun i hi => by rw [Nat.zero_add] at hs; exact hs.2 i hi⟩, HB2.out⟩
  case round =>
    obtain ⟨k, hk0, hk, rfl, hrow, hbel⟩ := hrel
    by_cases hlt : k < N
    · obtain ⟨cur2, hd1, hd2, hd3⟩ := hrow.out
      have row := hrow.out.row
      obtain ⟨L, hLe⟩ : ∃ L, L = Nat.min k (N - k) := ⟨_, rfl⟩
      have hL1 : L ≤ k := by rw [hLe]; exact Nat.min_le_left _ _
      have hL2 : L ≤ N - k := by rw [hLe]; exact Nat.min_le_right _ _
      have hL0 : 0 < L := by rw [hLe]; show 0 < min k (N - k); omega
      have HLE := Lib.hid hLe
      obtain ⟨cs2, hcs2⟩ : ∃ cs2, cs2 = List.replicate L (Value.int .i64 v) := ⟨_, rfl⟩
      have hlen : cs2.length = L := by rw [hcs2]; simp
      have HS := Lib.hid hcs2
      have hl9 : cs2.length ≤ N - k := by omega
      have HLN := Lib.hid hlen
      have HD1 := Lib.hid hd1
      have HD2 := Lib.hid hd2
      have HD3 := Lib.hid hd3
      have HB3 := Lib.hid hbel
      have HRW := Lib.hid row
      have hne : ¬ N = k := by omega
      have y1 : (k : Int) < (N : Int) := by omega
      clear hLe hcs2 hd1 hd2 hd3 hbel row hrow hlen
      go_wp2
      obtain ⟨w3, hrun, hh3, hb3⟩ : ∃ w3, (∀ ty, (Builtin.copy_ #[22, 22] ty #[.slice (some ⟨w.heap.size, k, none⟩) (N - k) (N - k), .slice (some ⟨w.heap.size, 0, none⟩) k N]).run Try.prog wr.drew = .ok (.int .i64 L) w3) ∧ w3.heap[w.heap.size]? = some (.cells (splice cur2 k cs2).toArray 3 (0, 0)) ∧ Below w.heap.size w w3 := by
        refine ⟨_, fun ty => ?_, setRow_heap wr.drew w.heap.size _ _ 3 (0, 0) HD1.out, below_setRow HB3.out.drew (Nat.le_refl _) _⟩
        have h := run_copy_row (P := Try.prog) wr.drew 22 22 ty 3 w.heap.size k (N - k) (N - k) ⟨w.heap.size, 0, none⟩ k N cur2.toArray 3 cs2 Try.underlying22 info1 HD1.out (by rw [HLN.out]; exact HLE.out) (fun j u hj => by
          rw [HS.out, List.getElem?_replicate] at hj
          by_cases hjl : j < L
          · rw [if_pos hjl] at hj
            cases hj
            have e : Addr.add ⟨w.heap.size, 0, none⟩ j = ⟨w.heap.size, j, none⟩ := by unfold Addr.add; by_cases h : j = 0 <;> simp [h]
            rw [e]
            have := HRW.out.cell (i := j) (by omega)
            rw [if_pos (by omega)] at this
            exact this
          · rw [if_neg hjl] at hj; cases hj) (by rw [HLN.out]; simp; rw [HD2.out]; omega) (by rw [HS.out]; intro u hu; rw [List.eq_of_mem_replicate hu]; rfl)
        have e2 : List.take k cur2.toArray.toList ++ cs2 ++ List.drop (k + cs2.length) cur2.toArray.toList = splice cur2 k cs2 := by simp [splice]
        rw [e2, HLN.out] at h
        exact h
      have HH3 := Lib.hid hh3
      have HB4 := Lib.hid hb3
      clear hh3 hb3
      go_region
      go_wp2
      have hs := splice_get (off := k) (L := L) (k := k) (v := v) (z := 0) HD2.out HD3.out rfl (by omega)
      rw [← HS.out] at hs
      go_roundw
      case rel => exact ⟨k + L, by omega, by omega, by go_num, Lib.hid ⟨_, HH3.out, hs.1, hs.2⟩, HB4.out⟩
      case measure => simp [intOf]; omega
    · have e : k = N := by omega
      subst e
      have HF := Lib.hid (hrow.out.row.congr (f' := fun _ => v) fun i hi => if_pos hi)
      clear hrow
      go_wp2
      go_ret
      exact ⟨_, rfl, Nat.le_refl _, HF.out, hbel⟩
end Go.Proofs.Ytmcdfnhpaneanaa.L2
namespace Go.Proofs.Ytmcdfnhpaneanaa
open Go.RowKit
/-- The i-th number of a list. -/
def lf (l : List Nat) (i : Nat) : Int := ((l.getD i 0 : Nat) : Int)
theorem lf_app {l r : List Nat} {i : Nat} (h : i < l.length) : lf l i = lf (l ++ r) i := by
  unfold lf
  rw [List.getD_eq_getElem?_getD, List.getD_eq_getElem?_getD, List.getElem?_append_left h]
theorem lf_last (l : List Nat) (k : Nat) : lf (l ++ [k]) l.length = (k : Int) := by
  unfold lf
  rw [List.getD_eq_getElem?_getD, List.getElem?_append_right (Nat.le_refl _)]
  simp
end Go.Proofs.Ytmcdfnhpaneanaa
/- The search of the program: steps, reached; queues that lose their head. -/
namespace Go.Proofs.Ytmcdfnhpaneanaa
open Go.RowKit
set_option maxRecDepth 100000
set_option linter.unusedVariables false
set_option linter.unusedSimpArgs false

/-- A list of natural numbers lies in a row of the call's own, from some place on. -/
def Tl (w : World) (base : Nat) (v : Value) (l : List Nat) : Prop :=
  ∃ g o cap cur, v = .slice (some ⟨g, o, none⟩) l.length cap ∧ base ≤ g ∧ w.heap[g]? = some (.cells cur 3 (0, 0)) ∧ l.length ≤ cap ∧ o + cap ≤ cur.size ∧ ∀ i, i < l.length → cur[o + i]? = some (.int .i64 (lf l i))
section
variable {w w' : World} {base B : Nat} {v : Value} {l : List Nat}
theorem Tl.keep (h : Tl w base v l) (hb : ∀ k, base ≤ k → k < w.heap.size → w'.heap[k]? = w.heap[k]?) : Tl w' base v l := by
  obtain ⟨g, o, cap, cur, e, hg, hc, r⟩ := h
  refine ⟨g, o, cap, cur, e, hg, (hb g hg ?_).trans hc, r⟩
  exact (Array.getElem?_eq_some_iff.1 hc).1
theorem Tl.below (h : Tl w base v l) (hb : Below w.heap.size w w') : Tl w' base v l := h.keep fun k _ hk => hb.block k hk
theorem Tl.far (h : Tl w base v l) {p : Addr} (hp : p.block < base) (u : Value) : Tl (w.setCell p u) base v l := h.keep fun k hk _ => Below.heap_setCell w p u k (by omega)
end
theorem tl_one (w : World) {base : Nat} (hb : base ≤ w.heap.size) (y : Nat) : Tl (w.alloc (.cells #[.int .i64 (y : Nat)] 3)) base (.slice (some ⟨w.heap.size, 0, none⟩) 1 1) [y] :=
  ⟨w.heap.size, 0, 1, #[.int .i64 (y : Nat)], rfl, hb, World.alloc_heap_new w _, Nat.le_refl _, Nat.le_refl _, fun i hi => by
    obtain rfl : i = 0 := by simp at hi; exact hi
    rfl⟩
set_option maxHeartbeats 400000 in
theorem tapp1 {ops : Array Oper} {rest : List Oper} {o : Oper} {a : Act} {Q : Exit → Act → World → Prop} (w : World) (hgd : o.guard = none) (s x : Operand)
    (ho : o.op = .call { callee := .builtin .append, args := #[s, x], argTypes := #[22, 22] }) (base : Nat) {v : Value} {l : List Nat} (hs : a.eval s = v) (ht : Tl w base v l)
    (y : Nat) (hx : a.eval x = .slice (some ⟨w.heap.size, 0, none⟩) 1 1) (hn : l.length ≤ 100000) (hb : base ≤ w.heap.size)
    (h : ∀ v' w', Tl w' base v' (l ++ [y]) → Below base w w' → wpList Try.prog ops Q rest (a.put o.dst v') w') :
    wpList Try.prog ops Q (o :: rest) a (w.alloc (.cells #[.int .i64 (y : Nat)] 3)) := by
  obtain ⟨i0, hi, hz0, hz1, hz2⟩ := info_parts L2.TryI.info3
  obtain ⟨g, of, cap, cur, rfl, hg, hc, hcap, hsz, hcl⟩ := ht
  have hgl : g < w.heap.size := (Array.getElem?_eq_some_iff.1 hc).1
  have hc1 : (w.alloc (.cells #[.int .i64 (y : Nat)] 3)).heap[g]? = some (.cells cur 3 (0, 0)) := (Below.heap_alloc w _ g hgl).trans hc
  have hnew : ∀ j u, ([.int .i64 (y : Nat)] : List Value)[j]? = some u → (w.alloc (.cells #[.int .i64 (y : Nat)] 3)).cell? ((⟨w.heap.size, 0, none⟩ : Addr).add j) = some u := cell_one_new _ _ _
  have hlen : (l ++ [y]).length = l.length + 1 := by simp
  by_cases hroom : l.length + 1 ≤ cap
  · have hcell : ∀ j, j < ([.int .i64 (y : Nat)] : List Value).length → ((w.alloc (.cells #[.int .i64 (y : Nat)] 3)).cell? ⟨g, of + l.length * i0.size + j, none⟩).isSome = true := fun j hj => by
      have e : j = 0 := by simp at hj; exact hj
      rw [e, hz1, Lib.cell_of_heap hc1, Array.getElem?_eq_getElem (by omega)]
      rfl
    have hrun := run_append_room_src (P := Try.prog) (w := w.alloc (.cells #[.int .i64 (y : Nat)] 3)) 22 22 o.type 3 i0 Try.underlying22 hi g of l.length cap (.slice (some ⟨w.heap.size, 0, none⟩) 1 1) 1 [.int .i64 (y : Nat)]
      (Src.ofSlice (P := Try.prog) (w := w.alloc (.cells #[.int .i64 (y : Nat)] 3)) (size := i0.size) Try.underlying22 ⟨w.heap.size, 0, none⟩ 1 1 [.int .i64 (y : Nat)] (by rw [hz1]; rfl) hnew (ints_oneCell .i64 [y])) hroom hcell (fun j hj => Lib.frozen_of_heap hc1 _)
    have e1 : (w.alloc (.cells #[.int .i64 (y : Nat)] 3)).setCells g (of + l.length * i0.size) [.int .i64 (y : Nat)] = (w.alloc (.cells #[.int .i64 (y : Nat)] 3)).setCell ⟨g, of + l.length, none⟩ (.int .i64 (y : Nat)) := by rw [hz1, Nat.mul_one]; rfl
    rw [e1] at hrun
    refine wpList_plain hgd fun K hK => ?_
    unfold Oper.wp
    simp [execOp, ho, resolve, invoke, builtin, hs, hx, hrun, Result.andThen]
    refine hK _ _ (h _ _ ⟨g, of, cap, cur.setIfInBounds (of + l.length) (.int .i64 (y : Nat)), by rw [hlen], hg, ?_, by omega, by simpa using hsz, fun i hil => ?_⟩ ?_)
    · simp [World.setCell, Array.getElem?_modify, hc1]
    · rw [Array.getElem?_setIfInBounds]
      by_cases e : i = l.length
      · subst e
        rw [lf_last]
        simp
        omega
      · have h1 := hcl i (by omega)
        rw [← lf_app (by omega)]
        rw [if_neg (by omega)]
        exact h1
    · exact ((Below.refl _ _).alloc hb _).setCell (by exact hg) _
  · have hol : (L2.news l.length (lf l)).length = l.length * i0.size := by rw [hz1, L2.news_length, Nat.mul_one]
    have hrun := run_append_grow (P := Try.prog) (w := w.alloc (.cells #[.int .i64 (y : Nat)] 3)) 22 o.type 3 i0 (.int .i64 0) Try.underlying22 hi hz0 ⟨g, of, none⟩ l.length cap (L2.news l.length (lf l)) hol
      (fun j u hu => by
        obtain ⟨hj, rfl⟩ := L2.news_get hu
        have e : Addr.add ⟨g, of, none⟩ j = ⟨g, of + j, none⟩ := by unfold Addr.add; by_cases h : j = 0 <;> simp [h]
        rw [e, Lib.cell_of_heap hc1]
        exact hcl j hj)
      ⟨w.heap.size, 0, none⟩ 1 1 [.int .i64 (y : Nat)] (by rw [hz1]; rfl) hnew (by omega) (by omega) (growslice_fits (by omega) (by rw [hz2]; omega))
    refine wpList_plain hgd fun K hK => ?_
    unfold Oper.wp
    simp only [execOp, ho, resolve, invoke, builtin, Sem.run_bind, Sem.run_pure, Result.andThen_ok, List.map_toArray, List.map_cons, List.map_nil, hs, hx, hrun]
    refine hK _ _ (h _ _ ⟨_, 0, _, _, by rw [hlen]; rfl, ?_, World.alloc_heap_new _ _, ?_, ?_, fun i hil => ?_⟩ ?_)
    · simp; omega
    · rw [hlen]; exact grownCap_ge _ _ _ _
    · have := grownCap_ge (w.alloc (.cells #[.int .i64 (y : Nat)] 3)) (l.length + 1) cap 3
      simp [size_zeroCells, L2.news_length, Value.cells]
      omega
    · have e2 : (L2.news l.length (lf l)).toArray ++ ([.int .i64 (y : Nat)] : List Value).toArray = (L2.news (l.length + 1) (lf (l ++ [y]))).toArray := by
        rw [L2.news_succ, lf_last, L2.news_congr (fun i hi => lf_app (r := [y]) hi)]
        simp
      rw [e2, Array.getElem?_append_left (by simp [L2.news_length]; omega)]
      rw [Nat.zero_add, List.getElem?_toArray]
      unfold L2.news
      rw [List.getElem?_map, List.getElem?_range (by omega)]
      rfl
    · exact ((Below.refl _ _).alloc hb _).drew.alloc (by simp; omega) _
end Go.Proofs.Ytmcdfnhpaneanaa
namespace Go.Proofs.Ytmcdfnhpaneanaa
open Go.RowKit
set_option maxRecDepth 100000
set_option linter.unusedVariables false
set_option linter.unusedSimpArgs false
set_option maxHeartbeats 800000 in
theorem clone_any (A : Option Addr) (n c : Nat) (f : Nat → Int) (B0 : Nat) (w : World) (h0 : 0 < n) (hn : n ≤ 5000) (hr : L2.Holds w B0 A n f) :
    Calls Try.prog 57 #[.slice A n c] w fun e w' => ∃ k c', e = .returned (.slice (some ⟨k, 0, none⟩) n c') ∧ w.heap.size ≤ k ∧ L2.Row w' k n f ∧ Below w.heap.size w w' ∧ n ≤ c' := by
  obtain ⟨b, o, rfl, hb, hc⟩ := hr h0
  have HR := Lib.hid (show L2.Holds (w.alloc (.cells #[] 3)) w.heap.size (some ⟨b, o, none⟩) n f from fun _ => ⟨b, o, rfl, by
      rcases Nat.lt_or_ge b w.heap.size with h | h
      · exact h
      · have := hc 0 h0
        simp [World.cell?, Array.getElem?_eq_none h] at this, fun i hi => by
      have hl : b < w.heap.size := by
        rcases Nat.lt_or_ge b w.heap.size with h | h
        · exact h
        · have := hc 0 h0
          simp [World.cell?, Array.getElem?_eq_none h] at this
      exact (((Below.refl w.heap.size w).alloc (Nat.le_refl _) _).cell (p := ⟨b, o + i, none⟩) hl).trans (hc i hi)⟩)
  clear hc hr
  have HO := Lib.hid (L2.Own.empty w (Nat.le_refl _) (fun _ => 0))
  have q22 : ∀ (w : World) (a : Option Addr) (n c n' c' : Nat), (binOp .eql 22 (.slice a n c) (.slice none n' c')).run Try.prog w = .ok (.bool a.isNone) w := fun w a n c n' c' => Lib.run_eql_slice_nil w _ _ a n c n' c' Try.underlying22
  go_enter Try.func57, Try.ntmps57
  go_wp2_with (at_builtin; refine L2.appN _ rfl _ _ (by rfl) w.heap.size (by rfl) HO.out (by rfl) (fun h => by cases h) HR.out (by omega) (by omega) (by simp) ?_; intro v2 w2 hown2 hb2; have HO2 := Lib.hid hown2; have HB2 := Lib.hid hb2; clear hown2 hb2)
  obtain ⟨A', c', rfl, _, hrow⟩ := HO2.out.out
  have HCP := Lib.hid (orow_cp HO2.out).2
  go_wp2
  go_ret
  obtain ⟨k, rfl, hk, hrow⟩ := hrow (by omega)
  rw [Nat.zero_add] at *
  exact ⟨k, c', by simp, hk, hrow.congr fun i hi => by unfold L2.both; rw [if_neg (by omega)]; rfl, ((Below.refl _ _).alloc (Nat.le_refl _) _).trans HB2.out, HCP.out⟩
end Go.Proofs.Ytmcdfnhpaneanaa
