/- ColourBack: the walk. -/
import Derived.Test.YtppepcijpdamhaaRdw
import Derived.Test.YtppepcijpdamhaaCal
import Derived.Test.YtppepcijpdamhaaTow
namespace Go.Proofs.Ytppepcijpdamhaa
open Go.RowKit
set_option maxRecDepth 100000
set_option linter.unusedVariables false
set_option linter.unusedSimpArgs false

theorem cnt_eq (f : Nat → Bool) (k : Nat) : cnt f k = (List.range k).countP f := by
  induction k with
  | zero => rfl
  | succ k ih => rw [List.range_succ, List.countP_append, ← ih, List.countP_singleton, cnt_s]
theorem cnt_perm (f : Nat → Bool) (σ τ : Nat → Nat) (N : Nat) (h1 : ∀ i, i < N → σ i < N ∧ τ (σ i) = i) (h2 : ∀ i, i < N → τ i < N ∧ σ (τ i) = i) : cnt (fun i => f (σ i)) N = cnt f N := by
  rw [cnt_eq, cnt_eq]
  have e : (List.range N).countP (fun i => f (σ i)) = ((List.range N).map σ).countP f := by rw [List.countP_map]; rfl
  rw [e]
  refine List.Perm.countP_eq f ?_
  refine (List.perm_ext_iff_of_nodup ?_ List.nodup_range).2 fun a => ?_
  · rw [List.nodup_iff_pairwise_ne, List.pairwise_map]
    refine List.Pairwise.imp_of_mem (R := fun x y => x ≠ y) ?_ (List.nodup_iff_pairwise_ne.1 List.nodup_range)
    intro x y hx hy hne he
    have a := (h1 x (List.mem_range.1 hx)).2
    have b := (h1 y (List.mem_range.1 hy)).2
    rw [he] at a
    exact hne (a.symm.trans b)
  · simp only [List.mem_map, List.mem_range]
    constructor
    · rintro ⟨b, hb, rfl⟩; exact (h1 b hb).1
    · intro ha; exact ⟨τ a, (h2 a ha).1, (h2 a ha).2⟩
theorem cells_lt {W H i : Nat} (hi : i < W * H) : i % W < W ∧ i / W < H ∧ i / W * W + i % W = i := by
  have hW : 0 < W := by rcases Nat.eq_zero_or_pos W with h | h; · subst h; simp at hi
                        · exact h
  exact ⟨Nat.mod_lt _ hW, Nat.div_lt_of_lt_mul hi, by rw [Nat.mul_comm, Nat.div_add_mod]⟩
theorem cnt_turn (W H : Nat) (f : Nat → Bool) : cnt (fTurn W H f) (H * W) = cnt f (W * H) := by
  have e : H * W = W * H := Nat.mul_comm _ _
  rw [e]
  refine cnt_perm f (fun i => i % H * W + i / H) (fun i => i % W * H + i / W) (W * H) ?_ ?_
  · intro i hi
    obtain ⟨l1, l2, l3⟩ := cells_lt (W := H) (H := W) (by omega : i < H * W)
    refine ⟨in_grid l2 l1, ?_⟩
    obtain ⟨e1, e2⟩ := co (i % H) l2
    show (i % H * W + i / H) % W * H + (i % H * W + i / H) / W = i
    rw [e1, e2]; exact l3
  · intro i hi
    obtain ⟨l1, l2, l3⟩ := cells_lt hi
    refine ⟨e ▸ in_grid l2 l1, ?_⟩
    obtain ⟨e1, e2⟩ := co (i % W) l2
    show (i % W * H + i / W) % H * W + (i % W * H + i / W) / H = i
    rw [e1, e2]; exact l3
theorem cntF_turn (W H : Nat) (f : Nat → Int) (v : Nat) : cntF (fun i => f (i % H * W + i / H)) (H * W) v = cntF f (W * H) v := by
  unfold cntF
  have := cnt_turn W H (fun i => decide (f i = (v : Int)))
  unfold fTurn at this
  rw [this]
/-- How many cells have a colour below k. -/
def lowF (f : Nat → Int) (n k : Nat) : Nat := cnt (fun i => decide (f i < (k : Int))) n
theorem lowF_zero {f : Nat → Int} {n : Nat} (h : fine n f = true) : lowF f n 0 = 0 := cnt_none fun j hj => decide_eq_false fun q => by have := fine_of h j hj; omega
theorem lowF_all {f : Nat → Int} {n : Nat} (h : fine n f = true) : lowF f n 16 = n := by
  unfold lowF
  have := cnt_congr (p := fun i => decide (f i < ((16 : Nat) : Int))) (q := fun _ => true) (n := n) fun j hj => decide_eq_true (by have := fine_of h j hj; omega)
  rw [this]
  clear this h
  induction n with
  | zero => rfl
  | succ n ih => rw [cnt_yes rfl, ih]
theorem lowF_succ (f : Nat → Int) (n k : Nat) : (lowF f n k : Int) + cntF f n k = (lowF f n (k + 1) : Int) := by
  unfold lowF cntF
  induction n with
  | zero => rfl
  | succ n ih =>
    rw [cnt_s, cnt_s, cnt_s]
    by_cases h1 : f n < (k : Int)
    · have h2 : ¬ f n = (k : Int) := by omega
      have h3 : f n < ((k + 1 : Nat) : Int) := by omega
      simp only [decide_eq_true h1, decide_eq_false h2, decide_eq_true h3, if_true, if_false, Bool.false_eq_true]
      omega
    · by_cases h2 : f n = (k : Int)
      · have h3 : f n < ((k + 1 : Nat) : Int) := by omega
        simp only [decide_eq_false h1, decide_eq_true h2, decide_eq_true h3, if_true, if_false, Bool.false_eq_true]
        omega
      · have h3 : ¬ f n < ((k + 1 : Nat) : Int) := by omega
        simp only [decide_eq_false h1, decide_eq_false h2, decide_eq_false h3, if_false, Bool.false_eq_true]
        omega
theorem lowF_le (f : Nat → Int) (n k : Nat) : lowF f n k ≤ n := cnt_le _ _
theorem ltr_ne {v : Int} (h0 : 0 ≤ v) (h1 : v ≤ 15) : ltr v ≠ 10 := fun h => by
  have := ltr_nat h0 h1
  rw [h] at this
  have h2 : ((10 : UInt8).toNat : Int) = 10 := rfl
  omega
theorem indexByte_of (l1 l2 : List UInt8) (c : UInt8) (h : c ∉ l1) : Lib.indexByte (l1 ++ c :: l2) c = (l1.length : Int) := by
  induction l1 with
  | nil => simp [Lib.indexByte]
  | cons a l ih =>
    have h1 : ¬ a = c := fun e => h (by simp [e])
    have h2 := ih (fun hm => h (by simp [hm]))
    have h3 : ((l.length : Int) == -1) = false := by simp
    simp [Lib.indexByte, h1, h2, h3]
theorem rowsI_cons (W H : Nat) (f : Nat → Int) (k : Nat) : ∃ l, rowsI W H f (k + 1) = cellsI W f (H - 1) W ++ 10 :: l := by
  refine ⟨(List.range k).flatMap fun j => rowI W f (H - 1 - (j + 1)), ?_⟩
  unfold rowsI
  rw [List.range_succ_eq_map, List.flatMap_cons, List.flatMap_map, rowI]
  simp
theorem index_textI {W H : Nat} {f : Nat → Int} (h : 1 ≤ H) (hf : fine (W * H) f = true) : Lib.indexByte (rowsI W H f H) 10 = (W : Int) := by
  obtain ⟨k, rfl⟩ : ∃ k, H = k + 1 := ⟨H - 1, by omega⟩
  obtain ⟨l, e⟩ := rowsI_cons W (k + 1) f k
  rw [e, indexByte_of, cellsI_length]
  intro hm
  unfold cellsI at hm
  obtain ⟨i, hi, e2⟩ := List.mem_map.1 hm
  obtain ⟨b0, b1⟩ := fine_of hf _ (ix_bd (List.mem_range.1 hi) (show k + 1 - 1 < k + 1 by omega))
  exact ltr_ne b0 b1 e2
/-- The text of an image. -/
def tx14 (W H : Nat) (f : Nat → Int) : ByteArray := ⟨(rowsI W H f H).toArray⟩
theorem tx14_list (W H : Nat) (f : Nat → Int) : (tx14 W H f).data.toList = rowsI W H f H := by simp [tx14]
theorem tx14_size (W H : Nat) (f : Nat → Int) : (tx14 W H f).size = H * (W + 1) := by
  have hl : (tx14 W H f).data.toList.length = (tx14 W H f).size := Array.length_toList
  rw [← hl, tx14_list, rowsI_length]
theorem px_tx {W H : Nat} {f : Nat → Int} (W0 : 1 ≤ W) (H0 : 1 ≤ H) (hf : fine (W * H) f = true) : ∀ l, l < W * H → pxF (tx14 W H f) W H l = f l := fun l hl => by
  obtain ⟨l1, l2, l3⟩ := cells_lt hl
  obtain ⟨b0, b1⟩ := fine_of hf l hl
  unfold pxF
  generalize l % W = r at *
  generalize l / W = d at *
  have hp : (H - 1 - d) * (W + 1) + r < H * (W + 1) := by
    have := Nat.mul_le_mul_right (W + 1) (show H - 1 - d + 1 ≤ H by omega)
    rw [Nat.add_mul, Nat.one_mul] at this
    omega
  have hg := rowsI_get W H f H _ hp
  obtain ⟨e1, e2⟩ := co (W := W + 1) (x := r) (H - 1 - d) (by omega)
  rw [e1, e2, if_neg (by omega), show H - 1 - (H - 1 - d) = d by omega, l3] at hg
  have hs : (H - 1 - d) * (W + 1) + r < (tx14 W H f).size := by rw [tx14_size]; exact hp
  have h5 := byt_list hs
  rw [tx14_list, hg] at h5
  have h6 := Option.some.inj h5
  rw [byt_at hs, ← h6, ltr_nat b0 b1]
  omega
theorem parse_tx {W H : Nat} {f : Nat → Int} (W0 : 1 ≤ W) (W1 : W ≤ 64) (H0 : 1 ≤ H) (H1 : H ≤ 64) (hf : fine (W * H) f = true) (u : World) : Calls Try.prog 33 #[.string (tx14 W H f)] u (RI u (W : Nat) (H : Nat) (W * H) f 0) := by
  have hsz := tx14_size W H f
  have hb : H * (W + 1) ≤ 64 * 65 := Nat.mul_le_mul H1 (by omega)
  have hpx := px_tx W0 H0 hf
  have hfp : fine (W * H) (pxF (tx14 W H f) W H) = true := by rw [fine_congr hpx]; exact hf
  have hq : (tx14 W H f).size / (W + 1) = H := by rw [hsz]; exact Nat.mul_div_cancel _ (by omega)
  have hi : Lib.indexByte (tx14 W H f).data.toList 10 = (W : Int) := by rw [tx14_list]; exact index_textI H0 hf
  have hre : rowsI W H (pxF (tx14 W H f) W H) H = (tx14 W H f).data.toList := by
    rw [tx14_list]
    refine List.ext_getElem? fun i => ?_
    by_cases hlt : i < H * (W + 1)
    · rw [rowsI_get _ _ _ _ _ hlt, rowsI_get _ _ _ _ _ hlt]
      by_cases hm : i % (W + 1) = W
      · rw [if_pos hm, if_pos hm]
      · have h7 := Nat.mod_lt i (show 0 < W + 1 by omega)
        rw [if_neg hm, if_neg hm, hpx _ (ix_bd (by omega) (qlt H0 _))]
    · rw [List.getElem?_eq_none (by rw [rowsI_length]; omega), List.getElem?_eq_none (by rw [rowsI_length]; omega)]
  exact (pparse_eq (tx14 W H f) W H u hi W0 W1 (by omega) hq H0 H1 hfp hre).mono fun _ _ h => h.congr hpx
theorem backc_g (W H : Int) (A : Option Addr) (n c : Nat) (f : Nat → Int) (w : World) (hf : L2.Holds w w.heap.size A n f) (h0 : 4200 < n) : Calls Try.prog 10 #[.agg #[.int .i64 W, .int .i64 H, .slice A n c]] w fun e w' => e = .returned (.bool true) ∧ Below w.heap.size w w' := by
  have HG := Lib.hid (fun u => igreat_any W H A n c u)
  rw [decide_eq_true h0] at HG
  clear h0 hf
  have LB0 := Lib.hid (Below.refl w.heap.size w)
  have X1 := IBox.new w W H (.slice A n c)
  have X1 := Lib.hid X1
  have LB0 := Lib.hid (LB0.out.alloc LB0.out.size (.cells #[.int .i64 W, .int .i64 H, .slice A n c] 29))
  go_enter Try.func10, Try.ntmps10
  go_upto_region 1 with (fail)
  generalize w.alloc (.cells #[.int .i64 W, .int .i64 H, .slice A n c] 29) = w0 at *
  go_wp2_with fail
  with_reducible refine Calls.mono (alive14_any _) ?_
  rintro e w1 ⟨rfl, hb⟩
  have LB1 := Lib.hid (LB0.out.trans (hb.mono LB0.out.size))
  have X1 := Lib.hid (X1.out.below hb X1.out.lt)
  clear hb LB0 
  obtain ⟨q0, q1, q2, q3, q4, q5, q6⟩ := X1.out.all
  go_wp2_with fail
  clear q0 q1 q2 q3 q4 q5 q6
  with_reducible refine Calls.mono (HG.out _) ?_
  rintro e w2 ⟨rfl, hb⟩
  have LB2 := Lib.hid (LB1.out.trans (hb.mono LB1.out.size))
  have X1 := Lib.hid (X1.out.below hb X1.out.lt)
  clear hb LB1 
  go_wp2
  go_ret
  exact ⟨rfl, LB2.out⟩
theorem backc_c (W H : Int) (A : Option Addr) (n c : Nat) (f : Nat → Int) (w : World) (hf : L2.Holds w w.heap.size A n f) (h0 : ¬ 4200 < n) (h1 : ick W H n f ≠ 0) : Calls Try.prog 10 #[.agg #[.int .i64 W, .int .i64 H, .slice A n c]] w fun e w' => e = .returned (.bool true) ∧ Below w.heap.size w w' := by
  have HG := Lib.hid (fun u => igreat_any W H A n c u)
  rw [decide_eq_false h0] at HG
  have HC := Lib.hid (fun u (hb : Below w.heap.size w u) => rick_any W H A n c f u ((hf.below hb).more hb.size))
  have y1 : (ick W H n f != 0) = true := by rw [bne_iff_ne]; exact h1
  clear h0 hf h1
  generalize ick W H n f = z at *
  have LB0 := Lib.hid (Below.refl w.heap.size w)
  have X1 := IBox.new w W H (.slice A n c)
  have X1 := Lib.hid X1
  have LB0 := Lib.hid (LB0.out.alloc LB0.out.size (.cells #[.int .i64 W, .int .i64 H, .slice A n c] 29))
  go_enter Try.func10, Try.ntmps10
  go_upto_region 1 with (fail)
  generalize w.alloc (.cells #[.int .i64 W, .int .i64 H, .slice A n c] 29) = w0 at *
  go_wp2_with fail
  with_reducible refine Calls.mono (alive14_any _) ?_
  rintro e w1 ⟨rfl, hb⟩
  have LB1 := Lib.hid (LB0.out.trans (hb.mono LB0.out.size))
  have X1 := Lib.hid (X1.out.below hb X1.out.lt)
  clear hb LB0 
  obtain ⟨q0, q1, q2, q3, q4, q5, q6⟩ := X1.out.all
  go_wp2_with fail
  clear q0 q1 q2 q3 q4 q5 q6
  with_reducible refine Calls.mono (HG.out _) ?_
  rintro e w2 ⟨rfl, hb⟩
  have LB2 := Lib.hid (LB1.out.trans (hb.mono LB1.out.size))
  have X1 := Lib.hid (X1.out.below hb X1.out.lt)
  clear hb LB1 
  obtain ⟨q0, q1, q2, q3, q4, q5, q6⟩ := X1.out.all
  go_wp2_with fail
  clear q0 q1 q2 q3 q4 q5 q6
  with_reducible refine Calls.mono (HC.out _ LB2.out) ?_
  rintro e w3 ⟨rfl, hb⟩
  have LB3 := Lib.hid (LB2.out.trans (hb.mono LB2.out.size))
  have X1 := Lib.hid (X1.out.below hb X1.out.lt)
  clear hb LB2 
  go_wp2
  go_ret
  exact ⟨rfl, LB3.out⟩
set_option maxHeartbeats 6400000 in
theorem backc_ok (W H : Nat) (A : Option Addr) (c : Nat) (f : Nat → Int) (w : World) (hf : L2.Holds w w.heap.size A (W * H) f) (W0 : 1 ≤ W) (W1 : W ≤ 64) (H0 : 1 ≤ H) (H1 : H ≤ 64) (hx : fine (W * H) f = true) :
    Calls Try.prog 10 #[.agg #[.int .i64 (W : Nat), .int .i64 (H : Nat), .slice A (W * H) c]] w fun e w' => e = .returned (.bool true) ∧ Below w.heap.size w w' := by
  have hN : W * H ≤ 4096 := Nat.mul_le_mul W1 H1
  have HG := Lib.hid (fun u => igreat_any (W : Nat) (H : Nat) A (W * H) c u)
  rw [decide_eq_false (by omega)] at HG
  have HC := Lib.hid (fun u (hb : Below w.heap.size w u) => rick_any (W : Nat) (H : Nat) A (W * H) c f u ((hf.below hb).more hb.size))
  rw [ick_zero W0 W1 H0 H1 hx] at HC
  have HTX := Lib.hid (fun u (hb : Below w.heap.size w u) => (show Calls Try.prog 27 _ u (RS u (tx14 W H f) 0) from ptext_ok W H A c f u ((hf.below hb).more hb.size) W0 W1 H0 H1 hx))
  have HPA := Lib.hid (fun u => parse_tx W0 W1 H0 H1 hx u)
  have HT1 := Lib.hid (fun u (hb : Below w.heap.size w u) => iturn_ok W H A c f u ((hf.below hb).more hb.size) W0 W1 H0 H1 hx)
  have hxt : fine (H * W) (fun i => f (i % H * W + i / H)) = true := fine_yes fun i hi => by
    obtain ⟨l1, l2, l3⟩ := cells_lt hi
    exact fine_of hx _ (ix_bd l2 l1)
  have hbb : ∀ i, i < W * H → (fun i => (fun i => f (i % H * W + i / H)) (i % W * H + i / W)) i = f i := fun i hi => by
    obtain ⟨l1, l2, l3⟩ := cells_lt hi
    show f ((i % W * H + i / W) % H * W + (i % W * H + i / W) / H) = f i
    rw [(co (i % W) l2).1, (co (i % W) l2).2, l3]
  have HT2 := Lib.hid (fun u D q (hr : L2.Holds u u.heap.size D (H * W) (fun i => f (i % H * W + i / H))) => (iturn_ok H W D q _ u hr H0 H1 W0 W1 hxt).mono fun _ _ h => RI.congr h hbb)
  have HC1 := Lib.hid (fun u (hb : Below w.heap.size w u) => counts_ok W H A c f u ((hf.below hb).more hb.size) W0 W1 H0 H1 hx)
  have HC2 := Lib.hid (fun u D q (hr : L2.Holds u u.heap.size D (H * W) (fun i => f (i % H * W + i / H))) => (counts_ok H W D q _ u hr H0 H1 W0 W1 hxt).mono fun _ _ h => RL.congr h fun v hv => cntF_turn W H f v)
  have HS := Lib.hid (fun u A' c' (hb : Below w.heap.size w u) (h2 : L2.Holds u u.heap.size A' (W * H) f) => risame_b (W := (W : Nat)) (H := (H : Nat)) (c := c') (d := c) (show W * H ≤ 5000 by omega) (fun _ _ => rfl) u h2 ((hf.below hb).more hb.size))
  have HSP := Lib.hid (fun u A' c' (hb : Below w.heap.size w u) (h2 : L2.Holds u u.heap.size A' (W * H) f) => isame_any (W : Nat) (H : Nat) (W : Nat) (H : Nat) A' A (W * H) (W * H) c' c f f u (show W * H ≤ 5000 by omega) h2 ((hf.below hb).more hb.size))
  rw [sameB_yes (fun _ _ => rfl)] at HSP
  have HL := Lib.hid (fun u A1 A2 c1 c2 (h1 : L2.Holds u u.heap.size A1 16 (cntF f (W * H))) (h2 : L2.Holds u u.heap.size A2 16 (cntF f (W * H))) => lv_same (v := u) (show 16 ≤ 5000 by decide) ⟨h1⟩ ⟨h2⟩ c1 c2 (fun _ _ => rfl))
  have HLS := Lib.hid (fun k => lowF_succ f (W * H) k)
  have HLE := Lib.hid (fun k => lowF_le f (W * H) k)
  have HL0 := Lib.hid (lowF_zero hx)
  have HLA := Lib.hid (lowF_all hx)
  have y1 : ((0 : Int) != 0) = false := rfl
  clear hf hx hxt hbb
  obtain ⟨ft, hft⟩ : ∃ z, (fun i => f (i % H * W + i / H)) = z := ⟨_, rfl⟩
  rw [hft] at HT1 HT2 HC2
  obtain ⟨ts, hts⟩ : ∃ z, tx14 W H f = z := ⟨_, rfl⟩
  rw [hts] at HTX HPA
  clear hft hts
  obtain ⟨M, hM⟩ : ∃ z, H * W = z := ⟨_, rfl⟩
  simp only [hM] at HT1 HT2 HC2
  obtain ⟨N, hNe⟩ : ∃ z, W * H = z := ⟨_, rfl⟩
  simp only [hNe] at HG HC HTX HPA HT1 HT2 HC1 HC2 HS HSP HL HLS HLE HL0 HLA hN ⊢
  clear hM hNe
  have LB0 := Lib.hid (Below.refl w.heap.size w)
  have X1 := IBox.new w (W : Nat) (H : Nat) (.slice A N c)
  have X1 := Lib.hid X1
  have LB0 := Lib.hid (LB0.out.alloc LB0.out.size (.cells #[.int .i64 (W : Nat), .int .i64 (H : Nat), .slice A N c] 29))
  go_enter Try.func10, Try.ntmps10
  go_upto_region 1 with (fail)
  generalize w.alloc (.cells #[.int .i64 (W : Nat), .int .i64 (H : Nat), .slice A N c] 29) = w0 at *
  go_wp2_with fail
  with_reducible refine Calls.mono (alive14_any _) ?_
  rintro e w1 ⟨rfl, hb⟩
  have LB1 := Lib.hid (LB0.out.trans (hb.mono LB0.out.size))
  have X1 := Lib.hid (X1.out.below hb X1.out.lt)
  clear hb LB0 
  obtain ⟨q0, q1, q2, q3, q4, q5, q6⟩ := X1.out.all
  go_wp2_with fail
  clear q0 q1 q2 q3 q4 q5 q6
  with_reducible refine Calls.mono (HG.out _) ?_
  rintro e w2 ⟨rfl, hb⟩
  have LB2 := Lib.hid (LB1.out.trans (hb.mono LB1.out.size))
  have X1 := Lib.hid (X1.out.below hb X1.out.lt)
  clear hb LB1 
  obtain ⟨q0, q1, q2, q3, q4, q5, q6⟩ := X1.out.all
  go_wp2_with fail
  clear q0 q1 q2 q3 q4 q5 q6
  with_reducible refine Calls.mono (HC.out _ LB2.out) ?_
  rintro e w3 ⟨rfl, hb⟩
  have LB3 := Lib.hid (LB2.out.trans (hb.mono LB2.out.size))
  have X1 := Lib.hid (X1.out.below hb X1.out.lt)
  clear hb LB2 
  obtain ⟨q0, q1, q2, q3, q4, q5, q6⟩ := X1.out.all
  go_wp2_with fail
  clear q0 q1 q2 q3 q4 q5 q6
  with_reducible refine Calls.mono (HTX.out _ LB3.out) ?_
  rintro e w4 ⟨rfl, hb⟩
  have LB4 := Lib.hid (LB3.out.trans (hb.mono LB3.out.size))
  have X1 := Lib.hid (X1.out.below hb X1.out.lt)
  clear hb LB3 
  go_wp2_with fail
  with_reducible refine Calls.mono (HPA.out _) ?_
  rintro e w5 ⟨A2, c2, rfl, hh, hb⟩
  have LB5 := Lib.hid (LB4.out.trans (hb.mono LB4.out.size))
  have X1 := Lib.hid (X1.out.below hb X1.out.lt)
  have H2 := Lib.hid hh
  clear hb LB4 hh
  have hb := ((Below.refl w5.heap.size w5).alloc (by simp; try omega) (.cells #[.int .i64 (W : Nat), .int .i64 (H : Nat), .slice A2 N c2] 29))
  have LB6 := Lib.hid (LB5.out.trans (hb.mono LB5.out.size))
  have X1 := Lib.hid (X1.out.below hb X1.out.lt)
  have H2 := Lib.hid ((H2.out.below hb).more hb.size)
  have B2 := IBox.new w5 (W : Nat) (H : Nat) (.slice A2 N c2)
  have B2 := Lib.hid B2
  clear hb LB5
  go_upto_region 6 with (fail)
  obtain ⟨b2, hb2⟩ : ∃ z, w5.heap.size = z := ⟨_, rfl⟩
  rw [hb2] at B2
  try rw [hb2]
  clear hb2
  generalize w5.alloc (.cells #[.int .i64 (W : Nat), .int .i64 (H : Nat), .slice A2 N c2] 29) = w6 at *
  obtain ⟨q0, q1, q2, q3, q4, q5, q6⟩ := X1.out.all
  go_wp2_with fail
  clear q0 q1 q2 q3 q4 q5 q6
  with_reducible refine Calls.mono (HT1.out _ LB6.out) ?_
  rintro e w7 ⟨A3, c3, rfl, hh, hb⟩
  have LB7 := Lib.hid (LB6.out.trans (hb.mono LB6.out.size))
  have X1 := Lib.hid (X1.out.below hb X1.out.lt)
  have H2 := Lib.hid ((H2.out.below hb).more hb.size)
  have B2 := Lib.hid (B2.out.below hb B2.out.lt)
  have H3 := Lib.hid hh
  clear hb LB6 hh
  have hb := ((Below.refl w7.heap.size w7).alloc (by simp; try omega) (.cells #[.int .i64 (H : Nat), .int .i64 (W : Nat), .slice A3 M c3] 29))
  have LB8 := Lib.hid (LB7.out.trans (hb.mono LB7.out.size))
  have X1 := Lib.hid (X1.out.below hb X1.out.lt)
  have H2 := Lib.hid ((H2.out.below hb).more hb.size)
  have B2 := Lib.hid (B2.out.below hb B2.out.lt)
  have H3 := Lib.hid ((H3.out.below hb).more hb.size)
  have B3 := IBox.new w7 (H : Nat) (W : Nat) (.slice A3 M c3)
  have B3 := Lib.hid B3
  clear hb LB7
  go_upto_region 7 with (fail)
  obtain ⟨b3, hb3⟩ : ∃ z, w7.heap.size = z := ⟨_, rfl⟩
  rw [hb3] at B3
  try rw [hb3]
  clear hb3
  generalize w7.alloc (.cells #[.int .i64 (H : Nat), .int .i64 (W : Nat), .slice A3 M c3] 29) = w8 at *
  obtain ⟨q0, q1, q2, q3, q4, q5, q6⟩ := B3.out.all
  go_wp2_with fail
  clear q0 q1 q2 q3 q4 q5 q6
  with_reducible refine Calls.mono (HT2.out _ _ _ H3.out) ?_
  rintro e w9 ⟨A4, c4, rfl, hh, hb⟩
  have LB9 := Lib.hid (LB8.out.trans (hb.mono LB8.out.size))
  have X1 := Lib.hid (X1.out.below hb X1.out.lt)
  have H2 := Lib.hid ((H2.out.below hb).more hb.size)
  have B2 := Lib.hid (B2.out.below hb B2.out.lt)
  have H3 := Lib.hid ((H3.out.below hb).more hb.size)
  have B3 := Lib.hid (B3.out.below hb B3.out.lt)
  have H4 := Lib.hid hh
  clear hb LB8 hh
  have hb := ((Below.refl w9.heap.size w9).alloc (by simp; try omega) (.cells #[.int .i64 (W : Nat), .int .i64 (H : Nat), .slice A4 N c4] 29))
  have LB10 := Lib.hid (LB9.out.trans (hb.mono LB9.out.size))
  have X1 := Lib.hid (X1.out.below hb X1.out.lt)
  have H2 := Lib.hid ((H2.out.below hb).more hb.size)
  have B2 := Lib.hid (B2.out.below hb B2.out.lt)
  have H3 := Lib.hid ((H3.out.below hb).more hb.size)
  have B3 := Lib.hid (B3.out.below hb B3.out.lt)
  have H4 := Lib.hid ((H4.out.below hb).more hb.size)
  have B4 := IBox.new w9 (W : Nat) (H : Nat) (.slice A4 N c4)
  have B4 := Lib.hid B4
  clear hb LB9
  go_upto_region 8 with (fail)
  obtain ⟨b4, hb4⟩ : ∃ z, w9.heap.size = z := ⟨_, rfl⟩
  rw [hb4] at B4
  try rw [hb4]
  clear hb4
  generalize w9.alloc (.cells #[.int .i64 (W : Nat), .int .i64 (H : Nat), .slice A4 N c4] 29) = w10 at *
  obtain ⟨q0, q1, q2, q3, q4, q5, q6⟩ := X1.out.all
  go_wp2_with fail
  clear q0 q1 q2 q3 q4 q5 q6
  with_reducible refine Calls.mono (HC1.out _ LB10.out) ?_
  rintro e w11 ⟨A5, c5, rfl, hh, hb⟩
  have LB11 := Lib.hid (LB10.out.trans (hb.mono LB10.out.size))
  have X1 := Lib.hid (X1.out.below hb X1.out.lt)
  have H2 := Lib.hid ((H2.out.below hb).more hb.size)
  have B2 := Lib.hid (B2.out.below hb B2.out.lt)
  have H3 := Lib.hid ((H3.out.below hb).more hb.size)
  have B3 := Lib.hid (B3.out.below hb B3.out.lt)
  have H4 := Lib.hid ((H4.out.below hb).more hb.size)
  have B4 := Lib.hid (B4.out.below hb B4.out.lt)
  have H5 := Lib.hid hh
  clear hb LB10 hh
  obtain ⟨q0, q1, q2, q3, q4, q5, q6⟩ := B3.out.all
  go_wp2_with fail
  clear q0 q1 q2 q3 q4 q5 q6
  with_reducible refine Calls.mono (HC2.out _ _ _ H3.out) ?_
  rintro e w12 ⟨A6, c6, rfl, hh, hb⟩
  have LB12 := Lib.hid (LB11.out.trans (hb.mono LB11.out.size))
  have X1 := Lib.hid (X1.out.below hb X1.out.lt)
  have H2 := Lib.hid ((H2.out.below hb).more hb.size)
  have B2 := Lib.hid (B2.out.below hb B2.out.lt)
  have H3 := Lib.hid ((H3.out.below hb).more hb.size)
  have B3 := Lib.hid (B3.out.below hb B3.out.lt)
  have H4 := Lib.hid ((H4.out.below hb).more hb.size)
  have B4 := Lib.hid (B4.out.below hb B4.out.lt)
  have H5 := Lib.hid ((H5.out.below hb).more hb.size)
  have H6 := Lib.hid hh
  clear hb LB11 hh
  clear H3 B3
  have G5 := Lib.hid (fun z (h : Below w12.heap.size w12 z) => (H5.out.below h).more h.size)
  go_wp2
  go_loopw [16, 17] (fun sv i wr => ∃ k : Nat, k ≤ 16 ∧ i = .int .i64 k ∧ sv = .int .i64 (lowF f N k : Nat) ∧ wr = w12) (fun _ i _ => 16 - (intOf i).toNat)
  case atStart => exact ⟨0, Nat.zero_le _, rfl, by rw [HL0.out]; rfl, rfl⟩
  case round =>
    obtain ⟨k, hk, rfl, rfl, rfl⟩ := hrel
    by_cases hlt : k < 16
    · have y3 : (k : Int) < 16 := by omega
      have y4 : (0 : Int) ≤ (k : Int) := by omega
      obtain ⟨ba, oa, ea, la, ca⟩ := H5.out (by omega)
      have c0 := ca k hlt
      clear ca
      subst ea
      have hls := HLS.out k
      have hle := HLE.out k
      have hle2 := HLE.out (k + 1)
      obtain ⟨t0, t1⟩ := cntF_bd f N k
      obtain ⟨cv, hcv⟩ : ∃ z, cntF f N k = z := ⟨_, rfl⟩
      rw [hcv] at c0 hls t0 t1
      clear hcv
      have e1 : IntKind.i64.wrap ((lowF f N k : Int) + cv) = (lowF f N (k + 1) : Int) := by rw [IntWalk.i64_in _ (by omega)]; exact hls
      clear hls
      go_wp2
      go_roundw
      case rel => exact ⟨k + 1, by omega, by go_num, rfl, trivial⟩
      case measure => simp [intOf]; omega
    · have e : k = 16 := by omega
      subst e
      rw [HLA.out]
      have y3 : ((N : Int) == (N : Int)) = true := by simp
      clear HLS HLE HL0 HLA G5
      obtain ⟨q0, q1, q2, q3, q4, q5, q6⟩ := X1.out.all
      obtain ⟨q7, q8, q9, q10, q11, q12, q13⟩ := B2.out.all
      obtain ⟨q14, q15, q16, q17, q18, q19, q20⟩ := B4.out.all
      go_wp2_with fail
      clear q0 q1 q2 q3 q4 q5 q6 q7 q8 q9 q10 q11 q12 q13 q14 q15 q16 q17 q18 q19 q20
      with_reducible refine Calls.mono (HS.out _ _ _ LB12.out H2.out) ?_
      rintro e v1 ⟨rfl, hb⟩
      have LBv1 := Lib.hid (LB12.out.trans (hb.mono LB12.out.size))
      have X1 := Lib.hid (X1.out.below hb X1.out.lt)
      have B2 := Lib.hid (B2.out.below hb B2.out.lt)
      have B4 := Lib.hid (B4.out.below hb B4.out.lt)
      have H2 := Lib.hid ((H2.out.below hb).more hb.size)
      have H4 := Lib.hid ((H4.out.below hb).more hb.size)
      have H5 := Lib.hid ((H5.out.below hb).more hb.size)
      have H6 := Lib.hid ((H6.out.below hb).more hb.size)
      clear hb LB12
      obtain ⟨q0, q1, q2, q3, q4, q5, q6⟩ := X1.out.all
      obtain ⟨q7, q8, q9, q10, q11, q12, q13⟩ := B2.out.all
      obtain ⟨q14, q15, q16, q17, q18, q19, q20⟩ := B4.out.all
      go_wp2_with fail
      clear q0 q1 q2 q3 q4 q5 q6 q7 q8 q9 q10 q11 q12 q13 q14 q15 q16 q17 q18 q19 q20
      with_reducible refine Calls.mono (HS.out _ _ _ LBv1.out H4.out) ?_
      rintro e v2 ⟨rfl, hb⟩
      have LBv2 := Lib.hid (LBv1.out.trans (hb.mono LBv1.out.size))
      have X1 := Lib.hid (X1.out.below hb X1.out.lt)
      have B2 := Lib.hid (B2.out.below hb B2.out.lt)
      have B4 := Lib.hid (B4.out.below hb B4.out.lt)
      have H2 := Lib.hid ((H2.out.below hb).more hb.size)
      have H4 := Lib.hid ((H4.out.below hb).more hb.size)
      have H5 := Lib.hid ((H5.out.below hb).more hb.size)
      have H6 := Lib.hid ((H6.out.below hb).more hb.size)
      clear hb LBv1
      obtain ⟨q0, q1, q2, q3, q4, q5, q6⟩ := X1.out.all
      obtain ⟨q7, q8, q9, q10, q11, q12, q13⟩ := B4.out.all
      go_wp2_with fail
      clear q0 q1 q2 q3 q4 q5 q6 q7 q8 q9 q10 q11 q12 q13
      with_reducible refine Calls.mono (HL.out _ _ _ _ _ H5.out H6.out) ?_
      rintro e v3 ⟨rfl, hb⟩
      have LBv3 := Lib.hid (LBv2.out.trans (hb.mono LBv2.out.size))
      have X1 := Lib.hid (X1.out.below hb X1.out.lt)
      have B2 := Lib.hid (B2.out.below hb B2.out.lt)
      have B4 := Lib.hid (B4.out.below hb B4.out.lt)
      have H2 := Lib.hid ((H2.out.below hb).more hb.size)
      have H4 := Lib.hid ((H4.out.below hb).more hb.size)
      have H5 := Lib.hid ((H5.out.below hb).more hb.size)
      have H6 := Lib.hid ((H6.out.below hb).more hb.size)
      clear hb LBv2
      obtain ⟨q0, q1, q2, q3, q4, q5, q6⟩ := X1.out.all
      obtain ⟨q7, q8, q9, q10, q11, q12, q13⟩ := B4.out.all
      go_wp2_with fail
      clear q0 q1 q2 q3 q4 q5 q6 q7 q8 q9 q10 q11 q12 q13
      with_reducible refine Calls.mono (HSP.out _ _ _ LBv3.out H4.out) ?_
      rintro e v4 ⟨rfl, hb⟩
      have LBv4 := Lib.hid (LBv3.out.trans (hb.mono LBv3.out.size))
      have X1 := Lib.hid (X1.out.below hb X1.out.lt)
      have B2 := Lib.hid (B2.out.below hb B2.out.lt)
      have B4 := Lib.hid (B4.out.below hb B4.out.lt)
      have H2 := Lib.hid ((H2.out.below hb).more hb.size)
      have H4 := Lib.hid ((H4.out.below hb).more hb.size)
      have H5 := Lib.hid ((H5.out.below hb).more hb.size)
      have H6 := Lib.hid ((H6.out.below hb).more hb.size)
      clear hb LBv3
      obtain ⟨q0, q1, q2, q3, q4, q5, q6⟩ := X1.out.all
      go_wp2
      go_ret
      exact ⟨rfl, LBv4.out⟩
theorem backc14_any (W H : Int) (A : Option Addr) (n c : Nat) (f : Nat → Int) (w : World) (hf : L2.Holds w w.heap.size A n f) : Calls Try.prog 10 #[.agg #[.int .i64 W, .int .i64 H, .slice A n c]] w fun e w' => e = .returned (.bool true) ∧ Below w.heap.size w w' := by
  by_cases h0 : 4200 < n
  · exact backc_g W H A n c f w hf h0
  by_cases h1 : ick W H n f = 0
  · obtain ⟨P, Q, rfl, rfl, rfl, p0, p1, q0, q1, hx⟩ := ick_nat h1
    exact backc_ok P Q A c f w hf p0 p1 q0 q1 hx
  · exact backc_c W H A n c f w hf h0 h1
end Go.Proofs.Ytppepcijpdamhaa
