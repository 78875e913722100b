/- Layers of the program. -/
import Derived.Test.YtchbbphokpmacaaLsm
namespace Go.Proofs.Ytchbbphokpmacaa
open Go.RowKit
set_option maxRecDepth 100000
set_option linter.unusedVariables false
set_option linter.unusedSimpArgs false

theorem Try.info92 : (Try.prog.info? 92).map (fun i => (i.zero, i.size, i.bytes)) = some (some (.agg #[.slice none 0 0, .slice none 0 0]), 2, 48) := by kernel_rfl
/-- 'append(s, y)' onto a slice of layers. -/
theorem ly_app {ops : Array Oper} {rest : List Oper} {o : Oper} {a : Act} {Q : Exit → Act → World → Prop} (w : World) (hgd : o.guard = none) (s x : Operand)
    (ho : o.op = .call { callee := .builtin .append, args := #[s, x], argTypes := #[70, 70] }) (base : Nat) {v : Value} {n : Nat} {xs : List Value} (hs : a.eval s = v) (hown : w.ownsRow base 92 2 v n xs)
    (D1 : Option Addr) (m1 c1 : Nat) (D2 : Option Addr) (m2 c2 : Nat) (hx : a.eval x = .slice (some ⟨w.heap.size, 0, none⟩) 1 1) (hn : n ≤ 100000) (hb : base ≤ w.heap.size)
    (h : ∀ v' w', w'.ownsRow base 92 2 v' (n + 1) (xs ++ [.slice D1 m1 c1, .slice D2 m2 c2]) → (w.alloc (.cells #[.slice D1 m1 c1, .slice D2 m2 c2] 92)).grownBy w' v.ownBlock → wpList Try.prog ops Q rest (a.put o.dst v') w') :
    wpList Try.prog ops Q (o :: rest) a (w.alloc (.cells #[.slice D1 m1 c1, .slice D2 m2 c2] 92)) := by
  obtain ⟨i0, hi, hz0, hz1, hz2⟩ := info_parts Try.info92
  refine wpList_append_own _ hgd s x 70 ho base 92 i0 (.agg #[.slice none 0 0, .slice none 0 0]) 2 48 Try.underlying70 hi hz0 hz1 hz2 rfl (by decide) v n xs hs (orow_keep hown fun k _ hk => Below.heap_alloc w _ k (orow_block hown hk).2.1) ⟨w.heap.size, 0, none⟩ 1 1 [.slice D1 m1 c1, .slice D2 m2 c2] hx (by simp) ?_ (by intro u hu; simp at hu; rcases hu with rfl | rfl <;> rfl)
    (by unfold maxLen; omega) (by omega) (by simp; omega) ?_
  · intro j u hu
    match j, hu with
    | 0, hu => (simp at hu; subst hu; simp [Addr.add])
    | 1, hu => (simp at hu; subst hu; simp [Addr.add])
  · intro v' w' h1 h2 _
    exact h v' w' h1 h2
/-- An element of a slice of layers. -/
def LyE (w : World) (xs : List Value) (j : Nat) (l1 l2 : List Nat) : Prop := ∃ D1 c1 D2 c2, xs[j * 2]? = some (.slice D1 l1.length c1) ∧ xs[j * 2 + 1]? = some (.slice D2 l2.length c2) ∧ TT w D1 l1 ∧ TT w D2 l2
theorem LyE.keep {w w' : World} {xs ys : List Value} {j : Nat} {l1 l2 : List Nat} (h : LyE w xs j l1 l2) (hb : ∀ (b : Nat) (cs : Array Value), w.heap[b]? = some (Obj.cells cs 3 (0, 0)) → w'.heap[b]? = w.heap[b]?) : LyE w' (xs ++ ys) j l1 l2 := by
  obtain ⟨D1, c1, D2, c2, h1, h2, h3, h4⟩ := h
  exact ⟨D1, c1, D2, c2, by rw [List.getElem?_append_left (by exact (List.getElem?_eq_some_iff.1 h1).1)]; exact h1, by rw [List.getElem?_append_left (by exact (List.getElem?_eq_some_iff.1 h2).1)]; exact h2, h3.keep hb, h4.keep hb⟩
/-- The parts that are layers. -/
def bigP (R : Nat → Nat → Bool) (N i : Nat) : Bool := decide (1 < (prt R N i).length)
def lix (R : Nat → Nat → Bool) (N : Nat) : List Nat := ofl (bigP R N) (pno R N)
def lyE (R : Nat → Nat → Bool) (W N j : Nat) : List Nat := lEn W (prt R N ((lix R N).getD j 0))
def lyP (R : Nat → Nat → Bool) (W N j : Nat) : List Nat := lPi W (prt R N ((lix R N).getD j 0))
/-- Layers and an error came back. -/
def LsR (w : World) (E P : Nat → List Nat) (m : Nat) (z : Int) (e : Ending) (w' : World) : Prop :=
  ∃ D c, e = .returned (.tuple #[.slice D m c, .int .i64 z]) ∧ LYs w' D m E P ∧ Below w.heap.size w w'
theorem lys_of {w : World} {base n : Nat} {v : Value} {xs : List Value} {E P : Nat → List Nat} (h : w.ownsRow base 92 2 v n xs) (he : ∀ i, i < n → LyE w xs i (E i) (P i)) : ∃ D c, v = .slice D n c ∧ LYs w D n E P := by
  rcases h with ⟨hl, ⟨hv, hn⟩ | ⟨g, cap, cur, hv, hg, hc, hcap, hm, hsz, ht⟩⟩
  · subst hv hn
    exact ⟨none, 0, rfl, fun h => by omega⟩
  · subst hv
    refine ⟨some ⟨g, 0, none⟩, cap, rfl, fun h0 => ⟨g, 0, rfl, (Array.getElem?_eq_some_iff.1 hc).1, fun i hi => ?_⟩⟩
    obtain ⟨D1, c1, D2, c2, h1, h2, h3, h4⟩ := he i hi
    have hget : ∀ j u, xs[j]? = some u → cur[j]? = some u := fun j u hu => by
      rw [← ht, List.getElem?_take] at hu
      split at hu
      · simpa using hu
      · cases hu
    refine ⟨D1, c1, D2, c2, ?_, ?_, h3.ll, h4.ll⟩
    · rw [Lib.cell_of_heap hc, Nat.zero_add]; exact hget _ _ h1
    · rw [Lib.cell_of_heap hc, Nat.zero_add]; exact hget _ _ h2
theorem players_err {W H : Int} {A : Option Addr} {N c : Nat} (z : Int) (hN : N ≤ 4200) (hz : chk W H N = z) (hne : (z != 0) = true) (w : World) :
    Calls Try.prog 51 #[.agg #[.int .i64 W, .int .i64 H, .slice A N c]] w (LsR w (fun _ => []) (fun _ => []) 0 z) := by
  have HK := Lib.hid (fun u => parts_err (A := A) (c := c) z hN hz hne u)
  have LB0 := Lib.hid (show Below w.heap.size w (w.alloc (.cells #[.int .i64 W, .int .i64 H, (.slice A N c)] 24)) from (Below.refl _ _).alloc (Nat.le_refl _) _)
  clear hz
  go_enter Try.func51, Try.ntmps51
  go_wp2_with fail
  with_reducible refine Calls.mono (HK.out _) ?_
  rintro e w1 ⟨D, d, rfl, _, _, hb⟩
  have LB1 := Lib.hid (LB0.out.trans (hb.mono LB0.out.size))
  clear hb LB0
  go_wp2
  go_ret2
  exact ⟨none, 0, rfl, fun h => by omega, LB1.out⟩
theorem prt_mem {R : Nat → Nat → Bool} {N k b : Nat} (h : b ∈ prt R N k) : b < N := lef_lt (List.mem_filter.1 h).1
theorem prt_len (R : Nat → Nat → Bool) (N k : Nat) : (prt R N k).length ≤ N := by
  refine Nat.le_trans (List.length_filter_le _ _) ?_
  rw [lef_eq]
  exact ofl_len _ _
theorem ofl_app {B : Nat → Bool} {k : Nat} {E : Nat → List Nat} {w : World} {xs : List Value} {D1 D2 : Option Addr} {c1 c2 : Nat} {F : Nat → List Nat} (hB : B k = true) (hx : xs.length = (ofl B k).length * 2)
    (he : ∀ j, j < (ofl B k).length → LyE w (xs ++ [.slice D1 (E k).length c1, .slice D2 (F k).length c2]) j (E ((ofl B k).getD j 0)) (F ((ofl B k).getD j 0))) (h1 : TT w D1 (E k)) (h2 : TT w D2 (F k)) :
    ∀ j, j < (ofl B (k + 1)).length → LyE w (xs ++ [.slice D1 (E k).length c1, .slice D2 (F k).length c2]) j (E ((ofl B (k + 1)).getD j 0)) (F ((ofl B (k + 1)).getD j 0)) := by
  intro j hj
  rw [ofl_yes hB] at hj ⊢
  rw [List.length_append] at hj
  by_cases e : j = (ofl B k).length
  · have hg : (ofl B k ++ [k]).getD j 0 = k := by rw [List.getD_eq_getElem?_getD, List.getElem?_append_right (by omega), e, Nat.sub_self]; rfl
    rw [hg]
    refine ⟨D1, c1, D2, c2, ?_, ?_, h1, h2⟩
    · rw [List.getElem?_append_right (by omega), show j * 2 - xs.length = 0 by omega]; rfl
    · rw [List.getElem?_append_right (by omega), show j * 2 + 1 - xs.length = 1 by omega]; rfl
  · have hj2 : j < (ofl B k).length := by simp at hj; omega
    have hg : (ofl B k ++ [k]).getD j 0 = (ofl B k).getD j 0 := by rw [List.getD_eq_getElem?_getD, List.getElem?_append_left hj2, ← List.getD_eq_getElem?_getD]
    rw [hg]
    exact he j hj2
set_option maxHeartbeats 3200000 in
theorem players_n (W H N : Nat) (hNN : W + H = N) (A : Option Addr) (c : Nat) (g : Nat → Bool) (w : World) (hg : Holds w w.heap.size A (W * H) g) (hW0 : 1 ≤ W) (hW : W ≤ 64) (hH0 : 1 ≤ H) (hH : H ≤ 64) :
    Calls Try.prog 51 #[.agg #[.int .i64 (W : Nat), .int .i64 (H : Nat), .slice A (W * H) c]] w (LsR w (lyE (ov W g) W N) (lyP (ov W g) W N) (lix (ov W g) N).length 0) := by
  have hN : N ≤ 128 := by omega
  have HPA := Lib.hid (fun u (h : Below w.heap.size w u) => parts_n W H N hNN A c g u ((hg.below h).more h.size) hW0 hW hH0 hH)
  generalize hR : ov W g = R at *
  clear hR
  have HLA := Lib.hid (fun u l D d (hl : LL u D l) (hn : l.length ≤ 128) (hlN : ∀ b, b ∈ l → b < 128) => layer_n W H A (W * H) c l D d u hl hn hlN)
  have X0 := Lib.hid (Box.new w (W : Nat) (H : Nat) (.slice A (W * H) c))
  have LB0 := Lib.hid (show Below w.heap.size w (w.alloc (.cells #[.int .i64 (W : Nat), .int .i64 (H : Nat), (.slice A (W * H) c)] 24)) from (Below.refl _ _).alloc (Nat.le_refl _) _)
  have hm0 := (pno_all R N).1
  clear hg hNN
  generalize W * H = M at *
  go_enter Try.func51, Try.ntmps51
  go_wp2_with fail
  generalize w.alloc (.cells #[.int .i64 (W : Nat), .int .i64 (H : Nat), .slice A M c] 24) = w0 at *
  obtain ⟨q0, q1, q2, q3, q4, q5, q6⟩ := X0.out.all
  go_wp2_with fail
  clear q0 q1 q2 q3 q4 q5 q6
  with_reducible refine Calls.mono (HPA.out _ LB0.out) ?_
  rintro e w2 ⟨D, d, rfl, _, hlls, hb⟩
  have X2 := Lib.hid (X0.out.below hb X0.out.lt)
  have LB2 := Lib.hid (LB0.out.trans (hb.mono LB0.out.size))
  have HLS := Lib.hid hlls
  have hx2 := X2.out.lt
  clear hb hlls X0 LB0 HPA
  obtain ⟨m, hme⟩ : ∃ m, pno R N = m := ⟨_, rfl⟩
  have HME := Lib.hid hme
  rw [hme] at HLS hm0 ⊢
  clear hme
  go_wp2
  go_loopw [6, 19] (fun v i wr => ∃ (k : Nat) (xs : List Value), k ≤ m ∧ i = .int .i64 k ∧ Hid (wr.ownsRow w2.heap.size 92 2 v (ofl (bigP R N) k).length xs) ∧ Hid (∀ j, j < (ofl (bigP R N) k).length → LyE wr xs j (lEn W (prt R N ((ofl (bigP R N) k).getD j 0))) (lPi W (prt R N ((ofl (bigP R N) k).getD j 0)))) ∧ Hid (Below w2.heap.size w2 wr)) (fun _ i _ => m - (intOf i).toNat)
  case atStart => exact ⟨0, [], Nat.zero_le _, rfl, Lib.hid ⟨rfl, .inl ⟨rfl, rfl⟩⟩, Lib.hid (fun j hj => by simp [ofl] at hj), Lib.hid (Below.refl _ _)⟩
  case round =>
    obtain ⟨k, xs, hk, rfl, HO, HE, HB⟩ := hrel
    by_cases hlt : k < m
    · have y1 : (k : Int) < (m : Int) := by omega
      have y2 : (0 : Int) ≤ (k : Int) := by omega
      obtain ⟨b1, o1, rfl, hb1, hc1⟩ := (HLS.out.below HB.out) (by omega)
      obtain ⟨E1, d1, a1, _, l1⟩ := hc1 k hlt
      have hpl := prt_len R N k
      have HLk := Lib.hid (HLA.out wr (prt R N k) E1 d1 l1 (by omega) (fun b hb => Nat.lt_of_lt_of_le (prt_mem hb) hN))
      clear hc1 l1 hb1
      by_cases hbig : bigP R N k = true
      · have hgt : 1 < (prt R N k).length := of_decide_eq_true hbig
        have y3 : ((prt R N k).length : Int) > 1 := by omega
        have y4 : (1 : Int) < ((prt R N k).length : Int) := by omega
        have HBG := Lib.hid hbig
        obtain ⟨n0, hn0⟩ : ∃ x, (prt R N k).length = x := ⟨_, rfl⟩
        rw [hn0] at a1 y3 y4 hgt HLk
        clear hn0 hbig
        have X3 := Lib.hid (X2.out.below HB.out hx2)
        obtain ⟨q0, q1, q2, q3, q4, q5, q6⟩ := X3.out.all
        go_wp2_with fail
        clear q0 q1 q2 q3 q4 q5 q6 X3
        with_reducible refine Calls.mono HLk.out ?_
        rintro e w5 ⟨F1, f1, F2, f2, rfl, ⟨hp1, ht1⟩, ⟨hp2, ht2⟩, hb⟩
        have hop := HO.out
        have HO5 := Lib.hid (orow_keep hop fun b _ hk => hb.block b (orow_block hop hk).2.1)
        have HE5 := Lib.hid (show ∀ j, j < (ofl (bigP R N) k).length → LyE w5 xs j (lEn W (prt R N ((ofl (bigP R N) k).getD j 0))) (lPi W (prt R N ((ofl (bigP R N) k).getD j 0))) from fun j hj => by
          have := (HE.out j hj).keep (w' := w5) (ys := []) fun b cs hc => hb.block b (Array.getElem?_eq_some_iff.1 hc).1
          rwa [List.append_nil] at this)
        have HB5 := Lib.hid (HB.out.trans (hb.mono HB.out.size))
        have HT1 := Lib.hid ht1
        have HT2 := Lib.hid ht2
        have hs5 := HB5.out.size
        have hcnt := ofl_len (bigP R N) k
        have HXL := Lib.hid (show xs.length = (ofl (bigP R N) k).length * 2 from hop.1)
        have HFIN := Lib.hid (fun (w6 : World) (h2 : (w5.alloc (.cells #[.slice F1 (lEn W (prt R N k)).length f1, .slice F2 (lPi W (prt R N k)).length f2] 92)).grownBy w6 u6.ownBlock) => (show (∀ (b : Nat) (cs : Array Value), w5.heap[b]? = some (Obj.cells cs 3 (0, 0)) → w6.heap[b]? = w5.heap[b]?) from fun b cs hc => by
          have hb : b < w5.heap.size := (Array.getElem?_eq_some_iff.1 hc).1
          rw [h2.block b (by simp; omega) fun e => by
            obtain ⟨cs2, hc2⟩ := orow_type HO5.out e.symm
            rw [hc] at hc2
            cases hc2]
          exact Below.heap_alloc _ _ b hb))
        have HFIN2 := Lib.hid (fun (w6 : World) h2 => ofl_app (E := fun i => lEn W (prt R N i)) (F := fun i => lPi W (prt R N i)) (D1 := F1) (D2 := F2) (c1 := f1) (c2 := f2) HBG.out HXL.out (fun j hj => (HE5.out j hj).keep (HFIN.out w6 h2)) (HT1.out.keep (HFIN.out w6 h2)) (HT2.out.keep (HFIN.out w6 h2)))
        have HCN := Lib.hid (show (ofl (bigP R N) (k + 1)).length = (ofl (bigP R N) k).length + 1 by rw [ofl_yes HBG.out]; simp)
        clear hop hb ht1 ht2 hp1 hp2 HO HE HB HLk a1
        have HOW := Lib.hid (fun b hb => (show w2.heap.size ≤ b from (orow_block HO5.out (k := b) hb).1))
        obtain ⟨cn, hcn⟩ : ∃ x, (ofl (bigP R N) k).length = x := ⟨_, rfl⟩
        rw [hcn] at HO5 hcnt HCN
        clear hcn
        obtain ⟨n1, hn1⟩ : ∃ x, (lEn W (prt R N k)).length = x := ⟨_, rfl⟩
        obtain ⟨n2, hn2⟩ : ∃ x, (lPi W (prt R N k)).length = x := ⟨_, rfl⟩
        have HN1 := Lib.hid hn1
        have HN2 := Lib.hid hn2
        rw [hn1, hn2]
        clear hn1 hn2
        go_wp2_with (at_builtin; refine ly_app _ rfl _ _ (by rfl) w2.heap.size (by rfl) HO5.out F1 n1 f1 F2 n2 f2 (by rfl) (by omega) hs5 ?_; intro v6 w6 h1 h2; have H1 := Lib.hid h1; have H2 := Lib.hid h2; clear h1 h2)
        have H2' : Hid ((w5.alloc (.cells #[.slice F1 (lEn W (prt R N k)).length f1, .slice F2 (lPi W (prt R N k)).length f2] 92)).grownBy w6 u6.ownBlock) := Lib.hid (by rw [HN1.out, HN2.out]; exact H2.out)
        have HB6 := Lib.hid ((HB5.out.alloc hs5 (.cells #[.slice F1 n1 f1, .slice F2 n2 f2] 92)).grown H2.out (by simp; omega) fun b hb => HOW.out b hb)
        go_roundw
        case rel => exact ⟨k + 1, _, by omega, by go_num, by rw [HCN.out]; exact H1.out, Lib.hid (by have := HFIN2.out w6 H2'.out; rw [HN1.out, HN2.out] at this; exact this), HB6⟩
        case measure => simp [intOf]; omega
      · have hbf : bigP R N k = false := by simpa using hbig
        have hgt : ¬ 1 < (prt R N k).length := of_decide_eq_false hbf
        have y3 : ¬ ((prt R N k).length : Int) > 1 := by omega
        have y4 : ¬ (1 : Int) < ((prt R N k).length : Int) := by omega
        have HS2 := Lib.hid (ofl_no hbf)
        obtain ⟨n0, hn0⟩ : ∃ x, (prt R N k).length = x := ⟨_, rfl⟩
        rw [hn0] at a1 y3 y4 hgt
        clear hn0 hbig hbf HLk
        go_wp2
        go_roundw
        case rel => exact ⟨k + 1, xs, by omega, by go_num, by rw [HS2.out]; exact HO, by rw [HS2.out]; exact HE, HB⟩
        case measure => simp [intOf]; omega
    · have e : k = m := by omega
      have y1 : ¬ (k : Int) < (m : Int) := by omega
      have hop := HO.out
      obtain ⟨D6, c6, e6, hly⟩ := lys_of hop HE.out
      have HLY := Lib.hid hly
      subst e6
      have HW6 := Lib.hid (LB2.out.trans (HB.out.mono LB2.out.size))
      have HCE := Lib.hid (show ofl (bigP R N) k = lix R N by unfold lix; rw [HME.out, e])
      clear hop hly e HO HE
      obtain ⟨cn, hcn⟩ : ∃ x, (ofl (bigP R N) k).length = x := ⟨_, rfl⟩
      have HCN := Lib.hid hcn
      rw [hcn]
      clear hcn
      go_wp2
      go_ret2
      have h1 := HLY.out
      have h2 := HCN.out
      rw [HCE.out] at h1 h2
      rw [h2] at h1 ⊢
      exact ⟨D6, c6, rfl, h1, HW6.out⟩
end Go.Proofs.Ytchbbphokpmacaa
