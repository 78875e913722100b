/- bits.Mul of the shelf; slices.Repeat of one element. -/
import Derived.Shelf.Bits.Mul64
import Derived.Test.YtgmcbdnfgdmmaaaVra
import Derived.Laws.CopyOwn
import Derived.BigRegion
namespace Go.Proofs
open Go.Shelf
def Try.lays264_ren : Go.Shelf.Ren := ⟨fun | 264 => 167 | n => n, fun | 53 => 178 | 46 => 172 | n => n, fun | n => n⟩
theorem Try.lays264 : Go.Proofs.Lays.n264 Try.prog Try.lays264_ren := {
  mixed := by kernel_rfl
  f264 := Try.func167.trans (congrArg some (by kernel_rfl))
  t46 := Try.underlying172
  a46 := Try.isAgg172
  z46 := Try.sizeOf172
  v46 := Try.zeroValue172
  t53 := Try.underlying178
  a53 := Try.isAgg178
  z53 := Try.sizeOf178
  v53 := Try.zeroValue178 }
open Go.RowKit Go.Lib in
theorem Try.bits_Mul64 (x y : Nat) (hx : x < 18446744073709551616) (hy : y < 18446744073709551616) (w : World) :
    Calls Try.prog 167 #[.int .u64 x, .int .u64 y] w fun e w' => e = .returned (.tuple #[.int .u64 ((x * y / 18446744073709551616 : Nat) : Int), .int .u64 ((x * y % 18446744073709551616 : Nat) : Int)]) ∧ w' = w := Any.bits_Mul64 Try.lays264 x y hx hy w
def Try.lays212_ren : Go.Shelf.Ren := ⟨fun | 212 => 165 | 263 => 166 | 264 => 167 | n => n, fun | 46 => 172 | 51 => 175 | 146 => 176 | 53 => 178 | 148 => 179 | n => n, fun | n => n⟩
theorem Try.lays212 : Go.Proofs.Lays.n212 Try.prog Try.lays212_ren := {
  mixed := by kernel_rfl
  f212 := Try.func165.trans (congrArg some (by kernel_rfl))
  f263 := Try.func166.trans (congrArg some (by kernel_rfl))
  f264 := Try.func167.trans (congrArg some (by kernel_rfl))
  t46 := Try.underlying172
  a46 := Try.isAgg172
  z46 := Try.sizeOf172
  v46 := Try.zeroValue172
  t51 := Try.underlying175
  a51 := Try.isAgg175
  z51 := Try.sizeOf175
  v51 := Try.zeroValue175
  t53 := Try.underlying178
  a53 := Try.isAgg178
  z53 := Try.sizeOf178
  v53 := Try.zeroValue178
  t146 := Try.underlying176
  a146 := Try.isAgg176
  z146 := Try.sizeOf176
  v146 := Try.zeroValue176
  t148 := Try.underlying179
  a148 := Try.isAgg179
  z148 := Try.sizeOf179
  v148 := Try.zeroValue179 }
open Go.RowKit Go.Lib in
/-- math/bits.Mul: "Mul returns the full-width product of x and y": on a machine of 64 bits: Mul64's. (LAID: no walk: one application.) -/
theorem Try.bits_Mul (x y : Nat) (hx : x < 18446744073709551616) (hy : y < 18446744073709551616) (w : World) :
    Calls Try.prog 165 #[.int .u64 x, .int .u64 y] w fun e w' => e = .returned (.tuple #[.int .u64 ((x * y / 18446744073709551616 : Nat) : Int), .int .u64 ((x * y % 18446744073709551616 : Nat) : Int)]) ∧ w' = w := Any.bits_Mul Try.lays212 x y hx hy w
end Go.Proofs
namespace Go.Proofs.Ytgmcbdnfgdmmaaa.L2
open Go.RowKit
set_option linter.unusedVariables false
set_option linter.unusedSimpArgs false

theorem mul_one (N : Nat) (hN : N ≤ 1000) (w : World) : Calls Try.prog 165 #[.int .u64 1, .int .u64 N] w fun e w' => e = .returned (.tuple #[.int .u64 0, .int .u64 N]) ∧ w = w' := by
  have h := Try.bits_Mul 1 N (by omega) (by omega) w
  have e1 : 1 * N / 18446744073709551616 = 0 := by omega
  have e2 : 1 * N % 18446744073709551616 = N := by omega
  rw [e1, e2] at h
  exact h.mono fun _ _ h => ⟨h.1, h.2.symm⟩

/-- The block g is a row of N elements, known whole. -/
def RowL (w : World) (g N : Nat) (F : Nat → Int) : Prop := ∃ cur : List Value, w.heap[g]? = some (.cells cur.toArray 3 (0, 0)) ∧ cur.length = N ∧ ∀ i, i < N → cur[i]? = some (.int .i64 (F i))
theorem RowL.row {w : World} {g N : Nat} {F : Nat → Int} (h : RowL w g N F) : Row w g N F := by
  obtain ⟨cur, h1, h2, h3⟩ := h
  exact ⟨cur.toArray, h1, by simp; omega, fun i hi => by simpa using h3 i hi⟩
theorem RowL.made (w : World) (n : Nat) : RowL (w.alloc (.cells (madeCells #[.int .i64 0] n) 3)) w.heap.size n (fun _ => 0) := by
  refine ⟨(madeCells #[.int .i64 0] n).toList, ?_, by simp [size_madeCells], fun i hi => ?_⟩
  · show (w.heap.push _)[w.heap.size]? = _
    rw [Array.getElem?_push, if_pos rfl]
  · simp [madeCells, hi, Nat.mod_one]
theorem splice_get {cur : List Value} {off L N k : Nat} {v z : Int} (hl : cur.length = N) (hc : ∀ i, i < N → cur[i]? = some (.int .i64 (if i < k then v else z))) (ho : off = k) (hL : off + L ≤ N) :
    (splice cur off (List.replicate L (.int .i64 v))).length = N ∧ ∀ i, i < N → (splice cur off (List.replicate L (.int .i64 v)))[i]? = some (.int .i64 (if i < k + L then v else z)) := by
  subst ho
  refine ⟨by rw [length_splice _ _ _ (by simp; omega), hl], fun i hi => ?_⟩
  unfold splice
  by_cases h1 : i < off
  · rw [List.getElem?_append_left (by simp; omega), List.getElem?_take, if_pos h1, hc i hi, if_pos h1, if_pos (by omega)]
  · rw [List.getElem?_append_right (by simp; omega)]
    have e : (cur.take off).length = off := by simp; omega
    rw [e]
    by_cases h2 : i < off + L
    · rw [List.getElem?_append_left (by simp; omega), List.getElem?_replicate, if_pos (by omega), if_pos h2]
    · rw [List.getElem?_append_right (by simp; omega), List.length_replicate, List.getElem?_drop, if_neg h2]
      rw [show off + L + (i - off - L) = i by omega, hc i hi, if_neg h1]

theorem info1 : (Try.prog.info? 3).map (·.size) = some 1 := by kernel_rfl

set_option maxHeartbeats 3200000 in
theorem repeat_any (bx cx N : Nat) (v : Int) (w : World) (hx : w.cell? ⟨bx, 0, none⟩ = some (.int .i64 v)) (hbx : bx < w.heap.size) (h0 : 1 ≤ N) (hN : N ≤ 1000) :
    Calls Try.prog 162 #[.slice (some ⟨bx, 0, none⟩) 1 cx, .int .i64 N] w fun e w' => ∃ k, e = .returned (.slice (some ⟨k, 0, none⟩) N N) ∧ w.heap.size ≤ k ∧ Row w' k N (fun _ => v) ∧ Below w.heap.size w w' := by
  have hmk := mki_run N (by omega)
  obtain ⟨cs, hcs⟩ : ∃ cs : List Value, cs = [.int .i64 v] := ⟨_, rfl⟩
  have hR := RowL.made w N
  obtain ⟨cur, hc1, hc2, hc3⟩ := hR
  have HC := Lib.hid hc1
  have HL := Lib.hid hc2
  have H3 := Lib.hid hc3
  have HX := Lib.hid hx
  have HB := Lib.hid ((Below.refl w.heap.size w).alloc (Nat.le_refl _) (.cells (madeCells #[.int .i64 0] N) 3))
  have d1 : decide ((9223372036854775807 : Int) < (N : Int)) = false := by simp; omega
  have HMIN := Lib.hid (show ([.int .i64 v] : List Value).length = Nat.min 1 N by show 1 = min 1 N; omega)
  clear hc1 hc2 hc3 hx
  go_enter Try.func162, Try.ntmps162
  go_wp2_with fail
  refine (mul_one N hN _).mono ?_
  rintro e w1 ⟨rfl, rfl⟩
  go_wp2_with ((with_reducible show wpList _ _ _ (⟨some 33, _, _, _, _, _⟩ :: _) _ _); refine wpList_copy_splice rfl (.tmp 31) (.tmp 32) 45 45 (by rfl) 3 Try.underlying45 info1 _ _ _ _ _ _ (by rfl) (by rfl) w.heap.size 0 cur 3 HC.out [.int .i64 v] HMIN.out (fun _ => ⟨rfl, ⟨bx, 0, none⟩, rfl, fun j u hj => by
    match j, hj with
    | 0, hj => simp at hj; subst hj; exact (HB.out.cell (p := ⟨bx, 0, none⟩) hbx).trans HX.out⟩) (by simp; rw [HL.out]; omega) (by intro u hu; simp at hu; subst hu; rfl) w.heap.size w HB.out (Nat.le_refl _) ?_; intro w2 hh hb2; have HH := Lib.hid hh.out; have HB2 := Lib.hid hb2; clear hh hb2)
  go_wp2
  go_loopw [8] (fun i wr => ∃ k : Nat, 1 ≤ k ∧ k ≤ N ∧ i = .int .i64 k ∧ Hid (RowL wr w.heap.size N (fun i => if i < k then v else 0)) ∧ Below w.heap.size w wr) (fun i _ => N - (intOf i).toNat)
  case atStart =>
    have hs := splice_get (off := 0) (L := 1) (k := 0) (v := v) (z := 0) HL.out (fun i hi => by rw [H3.out i hi]; rfl) rfl (by omega)
    exact ⟨1, Nat.le_refl _, h0, by simp, Lib.hid ⟨_, HH.out, hs.1, fun i hi => by rw [Nat.zero_add] at hs; exact hs.2 i hi⟩, HB2.out⟩
  case round =>
    obtain ⟨k, hk0, hk, rfl, hrow, hbel⟩ := hrel
    by_cases hlt : k < N
    · obtain ⟨cur2, hd1, hd2, hd3⟩ := hrow.out
      have row := hrow.out.row
      obtain ⟨L, hLe⟩ : ∃ L, L = Nat.min k (N - k) := ⟨_, rfl⟩
      have hL1 : L ≤ k := by rw [hLe]; exact Nat.min_le_left _ _
      have hL2 : L ≤ N - k := by rw [hLe]; exact Nat.min_le_right _ _
      have hL0 : 0 < L := by rw [hLe]; show 0 < min k (N - k); omega
      have HLE := Lib.hid hLe
      obtain ⟨cs2, hcs2⟩ : ∃ cs2, cs2 = List.replicate L (Value.int .i64 v) := ⟨_, rfl⟩
      have hlen : cs2.length = L := by rw [hcs2]; simp
      have HS := Lib.hid hcs2
      have hl9 : cs2.length ≤ N - k := by omega
      have HLN := Lib.hid hlen
      have HD1 := Lib.hid hd1
      have HD2 := Lib.hid hd2
      have HD3 := Lib.hid hd3
      have HB3 := Lib.hid hbel
      have HRW := Lib.hid row
      have hne : ¬ N = k := by omega
      have y1 : (k : Int) < (N : Int) := by omega
      clear hLe hcs2 hd1 hd2 hd3 hbel row hrow hlen
      go_wp2
      obtain ⟨w3, hrun, hh3, hb3⟩ : ∃ w3, (∀ ty, (Builtin.copy_ #[45, 45] ty #[.slice (some ⟨w.heap.size, k, none⟩) (N - k) (N - k), .slice (some ⟨w.heap.size, 0, none⟩) k N]).run Try.prog wr.drew = .ok (.int .i64 L) w3) ∧ w3.heap[w.heap.size]? = some (.cells (splice cur2 k cs2).toArray 3 (0, 0)) ∧ Below w.heap.size w w3 := by
        refine ⟨_, fun ty => ?_, setRow_heap wr.drew w.heap.size _ _ 3 (0, 0) HD1.out, below_setRow HB3.out.drew (Nat.le_refl _) _⟩
        have h := run_copy_row (P := Try.prog) wr.drew 45 45 ty 3 w.heap.size k (N - k) (N - k) ⟨w.heap.size, 0, none⟩ k N cur2.toArray 3 cs2 Try.underlying45 info1 HD1.out (by rw [HLN.out]; exact HLE.out) (fun j u hj => by
          rw [HS.out, List.getElem?_replicate] at hj
          by_cases hjl : j < L
          · rw [if_pos hjl] at hj
            cases hj
            have e : Addr.add ⟨w.heap.size, 0, none⟩ j = ⟨w.heap.size, j, none⟩ := by unfold Addr.add; by_cases h : j = 0 <;> simp [h]
            rw [e]
            have := HRW.out.cell (i := j) (by omega)
            rw [if_pos (by omega)] at this
            exact this
          · rw [if_neg hjl] at hj; cases hj) (by rw [HLN.out]; simp; rw [HD2.out]; omega) (by rw [HS.out]; intro u hu; rw [List.eq_of_mem_replicate hu]; rfl)
        have e2 : List.take k cur2.toArray.toList ++ cs2 ++ List.drop (k + cs2.length) cur2.toArray.toList = splice cur2 k cs2 := by simp [splice]
        rw [e2, HLN.out] at h
        exact h
      have HH3 := Lib.hid hh3
      have HB4 := Lib.hid hb3
      clear hh3 hb3
      go_region
      go_wp2
      have hs := splice_get (off := k) (L := L) (k := k) (v := v) (z := 0) HD2.out HD3.out rfl (by omega)
      rw [← HS.out] at hs
      go_roundw
      case rel => exact ⟨k + L, by omega, by omega, by go_num, Lib.hid ⟨_, HH3.out, hs.1, hs.2⟩, HB4.out⟩
      case measure => simp [intOf]; omega
    · have e : k = N := by omega
      subst e
      have HF := Lib.hid (hrow.out.row.congr (f' := fun _ => v) fun i hi => if_pos hi)
      clear hrow
      go_wp2
      go_ret
      exact ⟨_, rfl, Nat.le_refl _, HF.out, hbel⟩
end Go.Proofs.Ytgmcbdnfgdmmaaa.L2
