/- The program's row: a row of a grid as an array. -/
import Derived.Test.YtbafhdinalapoaaDoorMpk
import Derived.Deep.MidRow
import Derived.Laws.CopyOwn
import Derived.BigRegion
namespace Go.Proofs.YtbafhdinalapoaaDoor
open Go.RowKit
set_option linter.unusedVariables false
set_option linter.unusedSimpArgs false
set_option maxRecDepth 100000

theorem zero156 (w : World) : (zeroValue 114).run Tryd.prog w = .ok (.agg (Array.replicate 64 (.bool false))) w := by kernel_rfl
theorem info156 : (Tryd.prog.info? 114).map (·.size) = some 64 := by kernel_rfl
theorem info4 : (Tryd.prog.info? 4).map (·.size) = some 1 := by kernel_rfl
theorem below_setCells (B : Nat) (b : Nat) : ∀ (cs : List Value) (o : Nat) (w1 : World), ∀ {w : World}, Below B w w1 → B ≤ b → Below B w (w1.setCells b o cs)
  | [], o, w1, _, h, _ => h
  | v :: cs, o, w1, _, h, hb => by
    unfold World.setCells
    exact below_setCells B b cs (o + 1) _ (h.setCell hb v) hb
/-- The block g holds these cells, and no others. -/
def CArr (w : World) (g : Nat) (cs : List Value) : Prop := ∃ t : TypeId, w.heap[g]? = some (.cells cs.toArray t (0, 0))
section
variable {w w' : World} {g : Nat} {cs : List Value}
theorem CArr.lt (h : CArr w g cs) : g < w.heap.size := by
  obtain ⟨t, hg⟩ := h
  rcases Nat.lt_or_ge g w.heap.size with hlt | hge
  · exact hlt
  · rw [Array.getElem?_eq_none hge] at hg; cases hg
theorem CArr.range (h : CArr w g cs) : w.rangeAt g 0 cs := by
  obtain ⟨t, hg⟩ := h
  intro j v hv
  simp [World.cell?, hg, hv]
theorem CArr.there (h : CArr w g cs) : w.there g 0 cs.length := by
  obtain ⟨t, hg⟩ := h
  intro j hj
  simp [World.cell?, World.frozen?, hg, hj]
theorem CArr.keep (h : CArr w g cs) (e : w'.heap[g]? = w.heap[g]?) : CArr w' g cs := by
  obtain ⟨t, hg⟩ := h
  exact ⟨t, e.trans hg⟩
theorem CArr.below {B : Nat} (h : CArr w g cs) (hb : Below B w w') (hg : g < B) : CArr w' g cs := h.keep (hb.block g hg)
theorem CArr.new (w : World) (cs : List Value) (t : TypeId) : CArr (w.alloc (.cells cs.toArray t)) w.heap.size cs := ⟨t, heap_alloc_new w _⟩
end

set_option maxHeartbeats 800000 in
theorem frow_any (W H : Nat) (b o c y : Nat) (f : Nat → Bool) (B0 : Nat) (w : World) (hr : Holds w B0 (some ⟨b, o, none⟩) (W * H) f) (hB : B0 ≤ w.heap.size) (hW0 : 1 ≤ W) (hW : W ≤ 64) (hH : H ≤ 64) (hc : W * H ≤ c) (hy : y < H) :
    Calls Tryd.prog 80 #[.agg #[.int .i64 W, .int .i64 H, .slice (some ⟨b, o, none⟩) (W * H) c], .int .i64 y] w fun e w' => e = .returned (rowv W f y) ∧ Below w.heap.size w w' := by
  have h1 : y * W + W ≤ W * H := by
    have h := Nat.mul_le_mul_right W (show y + 1 ≤ H by omega)
    rw [Nat.add_mul, Nat.one_mul, Nat.mul_comm H W] at h
    exact h
  have h2 : W * H ≤ 4096 := Nat.mul_le_mul hW hH
  have e1 : (y : Int) * (W : Int) = ((y * W : Nat) : Int) := by simp
  have e2 : ((y : Int) + 1) * (W : Int) = ((y * W + W : Nat) : Int) := by rw [Int.add_mul]; simp
  have m1 : 0 ≤ (y : Int) * (W : Int) := by rw [e1]; omega
  have m2 : (y : Int) * (W : Int) ≤ 4096 := by rw [e1]; omega
  have m3 : 0 ≤ ((y : Int) + 1) * (W : Int) := by rw [e2]; omega
  have m4 : ((y : Int) + 1) * (W : Int) ≤ 4096 := by rw [e2]; omega
  have m5 : (y : Int) * (W : Int) ≤ ((y : Int) + 1) * (W : Int) := by rw [e1, e2]; omega
  have m6 : ((y : Int) + 1) * (W : Int) ≤ (c : Int) := by rw [e2]; omega
  have m7 : (((y : Int) + 1) * (W : Int)).toNat = y * W + W := by rw [e2, Int.toNat_natCast]
  have m8 : ((y : Int) * (W : Int)).toNat = y * W := by rw [e1, Int.toNat_natCast]
  have m9 : ¬ c = y * W := by omega
  have HE := Lib.hid (show (y + 1) * W - y * W = W by rw [Nat.add_mul, Nat.one_mul]; omega)
  obtain ⟨zc, hzc⟩ : ∃ zc, zc = Array.replicate 64 (Value.bool false) := ⟨_, rfl⟩
  have hz := zero156
  rw [← hzc] at hz
  have HZ := Lib.hid hzc
  have HR := Lib.hid hr
  clear e1 e2 hc h1 h2 hzc hr
  obtain ⟨rs, hrs⟩ : ∃ rs, rs = rowl W f y := ⟨_, rfl⟩
  have HRS := Lib.hid hrs
  rw [show rowv W f y = .agg rs.toArray by rw [hrs]; rfl]
  clear hrs
  go_enter Tryd.func80, Tryd.ntmps80
  have G0 := Lib.hid (Box.new w W H (.slice (some ⟨b, o, none⟩) (W * H) c))
  have L0 := Lib.hid ((((Below.refl w.heap.size w).alloc (Nat.le_refl _) (.cells #[.int .i64 W, .int .i64 H, .slice (some ⟨b, o, none⟩) (W * H) c] 25)).alloc (by simp) (.cells zc 114)).alloc (by simp; omega) (.cells zc 114))
  have A1 : Hid (CArr (((w.alloc (.cells #[.int .i64 W, .int .i64 H, .slice (some ⟨b, o, none⟩) (W * H) c] 25)).alloc (.cells zc 114)).alloc (.cells zc 114)) (w.heap.size + 1) zc.toList) := Lib.hid (by
    have h := (CArr.new (w.alloc (.cells #[.int .i64 W, .int .i64 H, .slice (some ⟨b, o, none⟩) (W * H) c] 25)) zc.toList 114).below ((Below.refl ((w.alloc (.cells #[.int .i64 W, .int .i64 H, .slice (some ⟨b, o, none⟩) (W * H) c] 25)).alloc (.cells zc 114)).heap.size ((w.alloc (.cells #[.int .i64 W, .int .i64 H, .slice (some ⟨b, o, none⟩) (W * H) c] 25)).alloc (.cells zc 114))).alloc (Nat.le_refl _) (.cells zc 114)) (by simp)
    simp only [World.size_alloc] at h
    exact h)
  have A2 : Hid (CArr (((w.alloc (.cells #[.int .i64 W, .int .i64 H, .slice (some ⟨b, o, none⟩) (W * H) c] 25)).alloc (.cells zc 114)).alloc (.cells zc 114)) (w.heap.size + 2) zc.toList) := Lib.hid (by
    have h := CArr.new ((w.alloc (.cells #[.int .i64 W, .int .i64 H, .slice (some ⟨b, o, none⟩) (W * H) c] 25)).alloc (.cells zc 114)) zc.toList 114
    simp only [World.size_alloc] at h
    exact h)
  have G1 := Lib.hid ((G0.out.alloc (.cells zc 114)).alloc (.cells zc 114))
  clear G0
  go_wp2_with fail
  generalize ((w.alloc (.cells #[.int .i64 W, .int .i64 H, .slice (some ⟨b, o, none⟩) (W * H) c] 25)).alloc (.cells zc 114)).alloc (.cells zc 114) = w0 at *
  obtain ⟨q0, q1, q2, q3, q4, q5, q6⟩ := G1.out.all
  obtain ⟨cs, hcs⟩ : ∃ cs, cs = (List.range W).map fun i => Value.bool (f (y * W + i)) := ⟨_, rfl⟩
  have hlen : cs.length = W := by rw [hcs]; simp
  have hsrc : ∀ j v, cs[j]? = some v → w0.drew.cell? ((⟨b, o + y * W, none⟩ : Addr).add j) = some v := by
    intro j v hj
    have hjl : j < W := by have := (List.getElem?_eq_some_iff.1 hj).1; omega
    have hlt : y * W + j < W * H := by
      have h := Nat.mul_le_mul_right W (show y + 1 ≤ H by omega)
      rw [Nat.add_mul, Nat.one_mul, Nat.mul_comm H W] at h
      omega
    obtain ⟨b', o', e, hb', hcell⟩ := (HR.out.below (L0.out.mono hB)) (by omega)
    cases e
    rw [hcs] at hj
    simp [hjl] at hj
    rw [Addr.add_mid, Nat.add_assoc, ← hj]
    exact hcell _ hlt
  obtain ⟨w3, hrun, hh3, hb3⟩ : ∃ w3, (∀ ty, (Builtin.copy_ #[23, 23] ty #[.slice (some ⟨w.heap.size + 2, 0, none⟩) 64 64, .slice (some ⟨b, o + y * W, none⟩) W (c - y * W)]).run Tryd.prog w0.drew = .ok (.int .i64 W) w3) ∧ CArr w3 (w.heap.size + 2) (rowl W f y) ∧ Below (w.heap.size + 2) w0 w3 := by
    obtain ⟨t, ht⟩ := A2.out
    have h := fun ty => run_copy_row (P := Tryd.prog) w0.drew 23 23 ty 4 (w.heap.size + 2) 0 64 64 ⟨b, o + y * W, none⟩ W (c - y * W) zc.toList.toArray t cs Tryd.underlying23 info4 ht (by rw [hlen]; show W = min W 64; omega) hsrc (by rw [hlen, HZ.out]; simp; omega) (by rw [hcs]; intro u hu; simp at hu; obtain ⟨i, _, rfl⟩ := hu; rfl)
    have e : (List.take 0 zc.toList.toArray.toList ++ cs ++ List.drop (0 + cs.length) zc.toList.toArray.toList) = rowl W f y := by
      rw [HZ.out]
      apply List.ext_getElem?
      intro i
      simp only [List.take_zero, List.nil_append, Nat.zero_add, hlen, Array.toList_replicate, List.toList_toArray]
      by_cases hi : i < W
      · rw [List.getElem?_append_left (by omega), hcs, rowl_get W f y i (by omega)]
        simp [hi]
      · rw [List.getElem?_append_right (by omega), hlen, List.getElem?_drop, List.getElem?_replicate]
        by_cases h64 : i < 64
        · rw [if_pos (by omega), rowl_get W f y i h64]
          simp [hi]
        · rw [if_neg (by omega), List.getElem?_eq_none (by rw [rowl_len]; omega)]
    rw [e, hlen] at h
    exact ⟨_, h, ⟨t, setRow_heap w0.drew (w.heap.size + 2) _ _ t (0, 0) ht⟩, below_setRow ((Below.refl (w.heap.size + 2) w0).drew) (Nat.le_refl _) _⟩
  have HH3 := Lib.hid hh3
  have HB3 := Lib.hid hb3
  clear hh3 hb3 hsrc hcs
  go_region
  have hrs := HRS.out
  have hrl : rs.length = 64 := by rw [hrs, rowl_len]
  have hi1 : (Tryd.prog.info? 114).map (·.size) = some rs.length := by rw [hrl]; exact info156
  have hi2 : (Tryd.prog.info? 114).map (·.size) = some rs.toArray.size := by simpa using hi1
  have hone : rs.toArray.all (·.oneCell') = true := all_oneCell_toArray (by rw [hrs]; intro u hu; unfold rowl at hu; obtain ⟨j, _, rfl⟩ := List.mem_map.1 hu; rfl)
  have hA1 := A1.out.below HB3.out (by omega)
  have hth : w3.there (w.heap.size + 1) 0 rs.toArray.size := by
    have := hA1.there
    rw [show zc.toList.length = rs.toArray.size by rw [HZ.out]; simp [hrl]] at this
    exact this
  have hrg : w3.rangeAt (w.heap.size + 2) 0 rs := by rw [hrs]; exact HH3.out.range
  have h4 := World.rangeAt_setCells_same w3 (w.heap.size + 1) 0 rs (by simpa using hth)
  have hld := run_loadVar_mid (P := Tryd.prog) (w3.setCells (w.heap.size + 1) 0 rs) (w.heap.size + 1) 0 114 rs _ h4 Tryd.underlying114 rfl hi1
  have hb5 : Below w.heap.size w (w3.setCells (w.heap.size + 1) 0 rs) := below_setCells _ _ _ _ _ (L0.out.trans (HB3.out.mono (by omega))) (by omega)
  have HI1 := Lib.hid hi1
  have HI2 := Lib.hid hi2
  have HO := Lib.hid hone
  have HT := Lib.hid hth
  have HG := Lib.hid hrg
  have HLD := Lib.hid hld
  have HB5 := Lib.hid hb5
  clear hrs hrl hi1 hi2 hone hA1 hth hrg h4 hld hb5 hlen hrun q0 q1 q2 q3 q4 q5 q6 m1 m2 m3 m4 m5 m6 m7 m8 m9 hz
  go_wp2_with (first
    | ((with_reducible show wpList _ _ _ (⟨some 20, _, _, _, _, _⟩ :: _) _ _); refine wpList_load_mid rfl 114 (.tmp 5) rfl (w.heap.size + 2) 0 (by rfl) rs _ HG.out Tryd.underlying114 rfl HI1.out ?_)
    | ((with_reducible show wpList _ _ _ (⟨none, _, _, _, _, _⟩ :: _) _ _); refine wpList_store_mid rfl 114 (.tmp 4) (.tmp 20) rfl (w.heap.size + 1) 0 rs.toArray (by rfl) (by rfl) HT.out HI2.out HO.out ?_))
  have hld := HLD.out
  refine bodyPost_ret (v := .agg rs.toArray) (by first | (simp [results, Tryd.results80, Act.put, asAddr, hld]; done) | (simp [results, Tryd.results80, go_sem, hld]; done)) rfl ⟨rfl, HB5.out⟩
end Go.Proofs.YtbafhdinalapoaaDoor
