/- The tie-up that the program makes: a row of bools that grows by append in a made row. -/
import Derived.Test.YtbafhdinalapoaaDoorFkc
import Derived.Laws.MakeOwn
namespace Go.Proofs.YtbafhdinalapoaaDoor
open Go.RowKit
set_option linter.unusedVariables false
set_option linter.unusedSimpArgs false
set_option maxRecDepth 100000

open L2 (nd ren)
theorem bnews_succ (n : Nat) (f : Nat → Bool) : news (n + 1) f = news n f ++ [.bool (f n)] := by
  unfold news; rw [List.range_succ, List.map_append]; rfl
/-- A slice of bools of the call's own, that may grow. -/
def BOwn (w : World) (base : Nat) (v : Value) (n : Nat) (f : Nat → Bool) : Prop := w.ownsRow base 4 1 v n (news n f)
theorem BOwn.keep {w w' : World} {base n : Nat} {v : Value} {f : Nat → Bool} (h : BOwn w base v n f) (hb : ∀ k, base ≤ k → k < w.heap.size → w'.heap[k]? = w.heap[k]?) : BOwn w' base v n f := by
  rcases h with ⟨hl, ⟨hv, hn⟩ | ⟨g, cap, cur, hv, hg, hc, r⟩⟩
  · exact ⟨hl, .inl ⟨hv, hn⟩⟩
  · refine ⟨hl, .inr ⟨g, cap, cur, hv, hg, (hb g hg ?_).trans hc, r⟩⟩
    rcases Nat.lt_or_ge g w.heap.size with h | h
    · exact h
    · rw [Array.getElem?_eq_none h] at hc; cases hc
theorem BOwn.alloc {w : World} {base n : Nat} {v : Value} {f : Nat → Bool} (h : BOwn w base v n f) (o : Obj) : BOwn (w.alloc o) base v n f := h.keep fun k _ hk => Below.heap_alloc w o k hk
theorem BOwn.block {w : World} {base n k : Nat} {v : Value} {f : Nat → Bool} (h : BOwn w base v n f) (hk : v.ownBlock = some k) : base ≤ k ∧ k < w.heap.size := World.ownsRow.lt h k hk
theorem BOwn.out {w : World} {base n : Nat} {v : Value} {f : Nat → Bool} (h : BOwn w base v n f) : ∃ A c, v = .slice A n c ∧ (0 < n → ∃ k, A = some ⟨k, 0, none⟩ ∧ base ≤ k ∧ Row w k n f) := by
  rcases h with ⟨hl, ⟨rfl, rfl⟩ | ⟨g, cap, cur, rfl, hg, hc, hcap, h0, hs, ht⟩⟩
  · exact ⟨none, 0, rfl, fun h => absurd h (by omega)⟩
  · exact ⟨_, _, rfl, fun h => ⟨g, rfl, hg, Row.of_own (base := base) (cap := cap) ⟨hl, .inr ⟨g, cap, cur, rfl, hg, hc, hcap, h0, hs, ht⟩⟩ h⟩⟩
theorem bapp {ops : Array Oper} {rest : List Oper} {o : Oper} {a : Act} {Q : Exit → Act → World → Prop} (w : World) (hgd : o.guard = none) (s x : Operand)
    (ho : o.op = .call { callee := .builtin .append, args := #[s, x], argTypes := #[23, 23] }) (base : Nat) {v : Value} {n : Nat} {f : Nat → Bool} (hs : a.eval s = v) (hown : BOwn w base v n f)
    (y : Bool) (hx : a.eval x = .slice (some ⟨w.heap.size, 0, none⟩) 1 1) (hy : f n = y) (hn : n ≤ 100000) (hb : base ≤ w.heap.size)
    (h : ∀ v' w', BOwn w' base v' (n + 1) f → Below base w w' → wpList Tryd.prog ops Q rest (a.put o.dst v') w') :
    wpList Tryd.prog ops Q (o :: rest) a (w.alloc (.cells #[.bool y] 4)) := by
  obtain ⟨i0, hi, hz0, hz1, hz2⟩ := info_parts Tryd.info4
  refine wpList_append_own _ hgd s x 23 ho base 4 i0 (.bool false) 1 1 Tryd.underlying23 hi hz0 hz1 hz2 rfl (by decide) v n _ hs (hown.alloc _) ⟨w.heap.size, 0, none⟩ 1 1 [.bool y] hx rfl (cell_one_new _ _ _) (by intro u hu; simp at hu; subst hu; rfl)
    (by unfold maxLen; omega) (by omega) (by simp; omega) ?_
  intro v' w' ho' hg _
  refine h v' w' ?_ ?_
  · unfold BOwn
    rw [bnews_succ, hy]
    exact ho'
  · refine Below.grown ((Below.refl _ _).alloc hb _) hg (by simp; omega) fun k hk => (hown.block hk).1

theorem tie_make (K M : Nat) (hN : K * M ≤ 4096) (w : World) :
    (Instr.makeSlice 23 (.int .i64 0) (.int .i64 ((K : Int) * (M : Int)))).run Tryd.prog w = .ok (.slice (some ⟨w.heap.size, 0, none⟩) 0 (K * M)) (w.alloc (.cells (madeCells #[.bool false] (K * M)) 4)) := by
  obtain ⟨i0, hi, hz0, hz1, hz2⟩ := info_parts Tryd.info4
  have h := run_make (P := Tryd.prog) w 23 4 i0 (.bool false) Tryd.underlying23 hi hz0 .i64 .i64 0 ((K * M : Nat) : Int) (Int.le_refl _) (by omega) (by rw [hz2]; omega) (by omega)
  simp only [Int.toNat_zero, Int.toNat_natCast, hz1, Nat.mul_one] at h
  rw [Int.natCast_mul] at h
  exact h

/-- The cells of the tie-up. -/
def tif (W M : Nat) (f : Nat → Bool) (xs ys : Nat → Nat) (p : Nat) : Bool := f (ys (p % M) * W + xs (p / M))
theorem tif_at {W M i j : Nat} (f : Nat → Bool) (xs ys : Nat → Nat) (hj : j < M) : tif W M f xs ys (i * M + j) = f (ys j * W + xs i) := by
  unfold tif
  rw [show (i * M + j) % M = j by rw [Nat.mul_comm, Nat.mul_add_mod, Nat.mod_eq_of_lt hj], show (i * M + j) / M = i by rw [Nat.mul_comm, Nat.mul_add_div (by omega), Nat.div_eq_of_lt hj, Nat.add_zero]]

set_option maxHeartbeats 800000 in
theorem tie_ok (W H n : Nat) (b o cap kx ky K M c1 c2 : Nat) (f : Nat → Bool) (xs ys : Nat → Nat) (w : World) (hn : n = W * H) (hr : Holds w w.heap.size (some ⟨b, o, none⟩) n f) (hW0 : 1 ≤ W) (hW : W ≤ 64) (hH0 : 1 ≤ H) (hH : H ≤ 64)
    (hx : L2.Row w kx K (fun i => (xs i : Nat))) (hy : L2.Row w ky M (fun i => (ys i : Nat))) (hK0 : 1 ≤ K) (hK : K ≤ 64) (hM0 : 1 ≤ M) (hM : M ≤ 64) (hxs : ∀ i, i < K → xs i < W) (hys : ∀ i, i < M → ys i < H) :
    Calls Tryd.prog 36 #[.agg #[.int .i64 W, .int .i64 H, .slice (some ⟨b, o, none⟩) n cap], .slice (some ⟨kx, 0, none⟩) K c1, .slice (some ⟨ky, 0, none⟩) M c2] w fun e w' =>
      ∃ k c, e = .returned (.agg #[.int .i64 M, .int .i64 K, .slice (some ⟨k, 0, none⟩) (K * M) c]) ∧ w.heap.size ≤ k ∧ Row w' k (K * M) (tif W M f xs ys) ∧ Below w.heap.size w w' := by
  obtain ⟨b', o', e, hlt, hc⟩ := hr (by rw [hn]; exact Nat.mul_pos hW0 hH0)
  obtain ⟨rfl, rfl⟩ : b' = b ∧ o' = o := by cases e; exact ⟨rfl, rfl⟩
  have hN : K * M ≤ 4096 := Nat.mul_le_mul hK hM
  have hNi : (K : Int) * (M : Int) ≤ 4096 := by have := Int.ofNat_le.2 hN; simpa using this
  have hNi0 : 0 ≤ (K : Int) * (M : Int) := by have := Int.natCast_nonneg (K * M); simpa using this
  have hnb : n ≤ 4096 := by rw [hn]; exact Nat.mul_le_mul hW hH
  have hmk := tie_make K M hN
  have HC := Lib.hid hc
  have HN := Lib.hid hn
  have HX := Lib.hid hx
  have HY := Lib.hid hy
  have HXS := Lib.hid hxs
  have HYS := Lib.hid hys
  have hlx := hx.lt
  have hly := hy.lt
  clear hr hc e hn hx hy hxs hys
  have G0 := Lib.hid (((Box.new w W H (.slice (some ⟨b', o', none⟩) n cap)).alloc (.cells #[.int .i64 0, .int .i64 0, .slice none 0 0] 25)))
  have R0 := Lib.hid (Box.new (w.alloc (.cells #[.int .i64 W, .int .i64 H, .slice (some ⟨b', o', none⟩) n cap] 25)) 0 0 (.slice none 0 0))
  have L0 := Lib.hid (show Below w.heap.size w ((w.alloc (.cells #[.int .i64 W, .int .i64 H, .slice (some ⟨b', o', none⟩) n cap] 25)).alloc (.cells #[.int .i64 0, .int .i64 0, .slice none 0 0] 25)) from ((Below.refl _ _).alloc (Nat.le_refl _) _).alloc (by simp) _)
  have hs0 : ((w.alloc (.cells #[.int .i64 W, .int .i64 H, .slice (some ⟨b', o', none⟩) n cap] 25)).alloc (.cells #[.int .i64 0, .int .i64 0, .slice none 0 0] 25)).heap.size = w.heap.size + 2 := by simp
  go_enter Tryd.func36, Tryd.ntmps36
  simp only [World.size_alloc] at R0
  go_upto_region 1 with fail
  generalize (w.alloc (.cells #[.int .i64 W, .int .i64 H, .slice (some ⟨b', o', none⟩) n cap] 25)).alloc (.cells #[.int .i64 0, .int .i64 0, .slice none 0 0] 25) = v0 at *
  have O0 := Lib.hid (show BOwn (v0.alloc (.cells (madeCells #[.bool false] (K * M)) 4)) (w.heap.size + 2) (.slice (some ⟨v0.heap.size, 0, none⟩) 0 (K * M)) 0 (tif W M f xs ys) from World.ownsRow_made v0 _ _ (by omega) (by unfold maxLen; omega) (by rw [size_madeCells, Nat.mul_one]))
  have B0 := Lib.hid (show Below (w.heap.size + 2) v0 (v0.alloc (.cells (madeCells #[.bool false] (K * M)) 4)) from (Below.refl _ _).alloc (by omega) _)
  rw [hs0] at O0
  go_wp2
  go_loopw [7, 20] (fun v i wr => ∃ (k : Nat), k ≤ K ∧ i = .int .i64 k ∧ Hid (BOwn wr (w.heap.size + 2) v (k * M) (tif W M f xs ys)) ∧ Hid (Below (w.heap.size + 2) v0 wr)) (fun _ i _ => K - (intOf i).toNat)
  case atStart => exact ⟨0, Nat.zero_le _, rfl, by rw [Nat.zero_mul]; exact O0, B0⟩
  case round =>
    obtain ⟨k, hk, rfl, hO, hB⟩ := hrel
    by_cases hlt2 : k < K
    · have x1 := ((HX.out.below L0.out hlx).below hB.out (by omega)).cell hlt2
      have x2 : kx < wr.heap.size := by have := hB.out.size; omega
      have y1 : (k : Int) < (K : Int) := by omega
      go_wp2
      go_loopw [7, 26] (fun v i wr => ∃ (j : Nat), j ≤ M ∧ i = .int .i64 j ∧ Hid (BOwn wr (w.heap.size + 2) v (k * M + j) (tif W M f xs ys)) ∧ Hid (Below (w.heap.size + 2) v0 wr)) (fun _ i _ => M - (intOf i).toNat)
      case atStart => exact ⟨0, Nat.zero_le _, rfl, hO, hB⟩
      case round =>
        clear x1 x2
        rename_i wo _ _ _
        obtain ⟨j, hj, rfl, hO2, hB2⟩ := hrel
        obtain ⟨A', c', rfl, _⟩ := hO2.out.out
        by_cases hltj : j < M
        · have z1 := ((HY.out.below L0.out hly).below hB2.out (by omega)).cell hltj
          have z3 : (j : Int) < (M : Int) := by omega
          have hsz := hB2.out.size
          have z2 : ky < wr.heap.size := by omega
          obtain ⟨q0, q1, q2, q3, q4, q5, q6⟩ := (G0.out.below hB2.out (by omega)).all
          have hix : ys j * W + xs k < n := by
            rw [HN.out, Nat.mul_comm W H]
            have h1 := Nat.mul_le_mul_right W (show ys j + 1 ≤ H from HYS.out j hltj)
            have h2 := HXS.out k hlt2
            rw [Nat.add_mul, Nat.one_mul] at h1
            omega
          have hcc : wr.cell? ⟨b', o' + (ys j * W + xs k), none⟩ = some (.bool (f (ys j * W + xs k))) := ((L0.out.trans (hB2.out.mono (by omega))).cell (p := ⟨b', o' + (ys j * W + xs k), none⟩) hlt).trans (HC.out _ hix)
          have HT := Lib.hid (tif_at (W := W) (i := k) f xs ys hltj)
          obtain ⟨bd1, bd2⟩ := mul_bd (W := (W : Int)) (y := (ys j : Int)) (by omega) (by omega) (by omega) (by have := HYS.out j hltj; omega)
          have hxk := HXS.out k hlt2
          generalize f (ys j * W + xs k) = bv at *
          have bd3 : ((ys j : Nat) : Int) * (W : Int) + (xs k : Int) < (n : Int) := by have := Int.ofNat_lt.2 hix; simpa using this
          have hct : k * M + j ≤ 100000 := by
            have := Nat.mul_le_mul (show k ≤ 64 by omega) hM
            omega
          have HCT := Lib.hid (show k * M + (j + 1) = (k * M + j) + 1 by omega)
          generalize k * M + j = ct at *
          go_wp2_with (at_builtin; refine bapp _ rfl _ _ (by rfl) (w.heap.size + 2) (by rfl) hO2.out bv (by rfl) HT.out hct (by omega) ?_; intro v' w1 hown1 hb1; have HO1 := Lib.hid hown1; have HB1 := Lib.hid hb1; clear hown1 hb1)
          go_roundw
          case rel => exact ⟨j + 1, by omega, by go_num, by rw [HCT.out]; exact HO1, Lib.hid (hB2.out.trans HB1.out)⟩
          case measure => simp [intOf]; omega
        · have e : j = M := by omega
          subst e
          go_wp2
          go_roundw
          case rel => exact ⟨k + 1, by omega, by go_num, by rw [Nat.add_mul, Nat.one_mul]; exact hO2, hB2⟩
          case measure => simp [intOf]; omega
    · have e : k = K := by omega
      subst e
      obtain ⟨A', c', rfl, hout⟩ := hO.out.out
      obtain ⟨q, rfl, hq, hrow⟩ := hout (Nat.mul_pos hK0 hM0)
      obtain ⟨q0, q1, q2, q3, q4, q5, q6⟩ := (R0.out.below hB.out (by omega)).all
      go_wp2
      refine bodyPost_ret (v := .agg #[.int .i64 M, .int .i64 k, .slice (some ⟨q, 0, none⟩) (k * M) c']) (by simp [results, Tryd.results36, go_sem, q0, q1, q2]) rfl ⟨q, c', rfl, by omega, ?_, ?_⟩
      · exact ((hrow.far (by simp; omega) _).far (by simp; omega) _).far (by simp; omega) _
      · exact (((L0.out.trans (hB.out.mono (by omega))).setCell (by simp) _).setCell (by simp) _).setCell (by simp) _
end Go.Proofs.YtbafhdinalapoaaDoor
