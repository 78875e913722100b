/- Parts of the program. -/
import Derived.Test.YtgmcbdnfgdmmaaaLdl
namespace Go.Proofs.Ytgmcbdnfgdmmaaa
open Go.RowKit
set_option maxRecDepth 100000
set_option linter.unusedVariables false
set_option linter.unusedSimpArgs false

/-- Lists and an error came back. -/
def PaR (w : World) (L : Nat → List Nat) (m : Nat) (z : Int) (e : Ending) (w' : World) : Prop :=
  ∃ D c, e = .returned (.tuple #[.slice D m c, .int .i64 z]) ∧ Cp D m c ∧ LLs w' D m L ∧ Below w.heap.size w w'
theorem parts_err {W H : Int} {A : Option Addr} {N c : Nat} (z : Int) (hN : N ≤ 4200) (hz : chk W H N = z) (hne : (z != 0) = true) (w : World) :
    Calls Try.prog 103 #[.agg #[.int .i64 W, .int .i64 H, .slice A N c]] w (PaR w (fun _ => []) 0 z) := by
  have HK := Lib.hid (fun u => chk_err (A := A) (c := c) hN hz u)
  have LB0 := Lib.hid (show Below w.heap.size w (w.alloc (.cells #[.int .i64 W, .int .i64 H, (.slice A N c)] 24)) from (Below.refl _ _).alloc (Nat.le_refl _) _)
  clear hz
  go_enter Try.func103, Try.ntmps103
  go_wp2_with fail
  with_reducible refine Calls.mono (HK.out _) ?_
  rintro e w1 ⟨rfl, hb⟩
  have LB1 := Lib.hid (LB0.out.trans (hb.mono LB0.out.size))
  clear hb LB0
  go_wp2
  go_ret2
  exact ⟨none, 0, rfl, cp_nil, fun h => by omega, LB1.out⟩
theorem lef_has {R : Nat → Nat → Bool} {N k : Nat} : (lef R N k).filter (fun b => !hasL (prt R N k) b) = lef R N (k + 1) := by
  show _ = (lef R N k).filter fun b => !cls R N (pfi R N k) b
  refine List.filter_congr fun b hb => ?_
  congr 1
  unfold hasL prt
  rw [Bool.eq_iff_iff, List.contains_iff_mem, List.mem_filter]
  exact ⟨fun h => h.2, fun h => ⟨hb, h⟩⟩
/-- An element of a slice of lists, not in the block kl. -/
def EltN (w : World) (kl : Nat) (xs : List Value) (i : Nat) (l : List Nat) : Prop := ∃ D c, xs[i]? = some (.slice D l.length c) ∧ Cp D l.length c ∧ TT w D l ∧ ∀ a, D = some a → a.block ≠ kl
theorem EltN.elt {w : World} {kl i : Nat} {xs : List Value} {l : List Nat} (h : EltN w kl xs i l) : Elt w xs i l := by
  obtain ⟨D, c, h1, h2, h3, _⟩ := h
  exact ⟨D, c, h1, h2, h3⟩
theorem EltN.keep {w w' : World} {kl i : Nat} {xs ys : List Value} {l : List Nat} (h : EltN w kl xs i l) (hb : ∀ (b : Nat) (cs : Array Value), b ≠ kl → w.heap[b]? = some (Obj.cells cs 3 (0, 0)) → w'.heap[b]? = w.heap[b]?) : EltN w' kl (xs ++ ys) i l := by
  obtain ⟨D, c, h1, h2, h3, h4⟩ := h
  refine ⟨D, c, by rw [List.getElem?_append_left (by exact (List.getElem?_eq_some_iff.1 h1).1)]; exact h1, h2, fun h0 => ?_, h4⟩
  obtain ⟨b, o, cs, e, hc, hx⟩ := h3 h0
  exact ⟨b, o, cs, e, (hb b cs (h4 _ e) hc).trans hc, hx⟩
/-- The state of Parts. -/
structure Pst (R : Nat → Nat → Bool) (N : Nat) (wr : World) (kl k : Nat) (vl vp : Value) (xp : List Value) : Prop where
  left : ∃ cap, vl = .slice (some ⟨kl, 0, none⟩) (lef R N k).length cap ∧ L2.Own wr kl vl (lef R N k).length (lf (lef R N k))
  op : wr.ownsRow kl 45 1 vp k xp
  el : ∀ i, i < k → EltN wr kl xp i (prt R N i)
  kl : kl < wr.heap.size
theorem own_type {w : World} {base n kl cap : Nat} {f : Nat → Int} (h : L2.Own w base (.slice (some ⟨kl, 0, none⟩) n cap) n f) : ∃ cs, w.heap[kl]? = some (.cells cs 3 (0, 0)) := by
  rcases h with ⟨_, ⟨hv, _⟩ | ⟨g, cp, cur, hv, _, hc, _⟩⟩
  · cases hv
  · cases hv; exact ⟨cur, hc⟩
theorem orow_type {w : World} {base n k : Nat} {v : Value} {xs : List Value} {e : TypeId} {s : Nat} (h : w.ownsRow base e s v n xs) (hk : v.ownBlock = some k) : ∃ cs, w.heap[k]? = some (.cells cs e (0, 0)) := by
  obtain ⟨_, _, cur, hc⟩ := orow_block h hk
  exact ⟨cur, hc⟩
theorem orow_cp {w : World} {base n : Nat} {A : Option Addr} {c : Nat} {xs : List Value} {e : TypeId} (h : w.ownsRow base e 1 (.slice A n c) n xs) : Cp A n c := by
  rcases h with ⟨_, ⟨hv, hn⟩ | ⟨g, cap, cur, hv, _, _, hc, _⟩⟩
  · cases hv
    exact ⟨fun _ => rfl, Nat.le_refl _⟩
  · cases hv
    exact ⟨(fun h => by cases h), hc⟩
section
variable {R : Nat → Nat → Bool} {N : Nat} {wr w2 w4 w5 : World} {kl k : Nat} {vl vp vp' : Value} {xp : List Value} {D : Option Addr} {c : Nat}
theorem Pst.below (h : Pst R N wr kl k vl vp xp) (hb : Below wr.heap.size wr w2) : Pst R N w2 kl k vl vp xp := by
  obtain ⟨cap, e, ho⟩ := h.left
  refine ⟨⟨cap, e, ho.below hb⟩, orow_keep h.op fun b _ hk => hb.block b (orow_block h.op hk).2.1, fun i hi => ?_, Nat.lt_of_lt_of_le h.kl hb.size⟩
  have := (h.el i hi).keep (w' := w2) (ys := []) fun b cs _ hc => hb.block b (Array.getElem?_eq_some_iff.1 hc).1
  rwa [List.append_nil] at this
/-- Behind the append of a part. -/
theorem Pst.app (h : Pst R N w2 kl k vl vp xp) (hcp : Cp D (prt R N k).length c) (ht : TT w2 D (prt R N k)) (hD : ∀ a, D = some a → a.block ≠ kl)
    (h2 : ((w2.alloc (.cells #[.slice D (prt R N k).length c] 45)).alloc (.cells #[.slice D (prt R N k).length c] 45)).grownBy w4 vp.ownBlock) :
    (∃ cap, vl = .slice (some ⟨kl, 0, none⟩) (lef R N k).length cap ∧ L2.Own w4 kl vl (lef R N k).length (lf (lef R N k))) ∧ (∀ i, i < k + 1 → EltN w4 kl (xp ++ [.slice D (prt R N k).length c]) i (prt R N i)) ∧ TT w4 D (prt R N k) ∧
    w4.cell? ⟨w2.heap.size, 0, none⟩ = some (.slice D (prt R N k).length c) ∧ w2.heap.size < w4.heap.size ∧ kl < w2.heap.size := by
  have hst : ∀ (b : Nat) (cs : Array Value), w2.heap[b]? = some (Obj.cells cs 3 (0, 0)) → w4.heap[b]? = w2.heap[b]? := fun b cs hc => by
    have hb : b < w2.heap.size := (Array.getElem?_eq_some_iff.1 hc).1
    rw [h2.block b (by simp; omega) fun e => by
      obtain ⟨cs2, hc2⟩ := orow_type h.op e.symm
      rw [hc] at hc2
      cases hc2]
    rw [Below.heap_alloc _ _ b (by simp; omega), Below.heap_alloc _ _ b hb]
  obtain ⟨cap, e, ho⟩ := h.left
  have hlx : xp.length = k := by have := h.op.1; omega
  refine ⟨⟨cap, e, ?_⟩, fun i hi => ?_, ht.keep hst, ?_, ?_, h.kl⟩
  · rw [e] at ho ⊢
    obtain ⟨cs, hc⟩ := own_type ho
    unfold L2.Own at ho ⊢
    refine orow_keep ho fun b _ hk => ?_
    have : b = kl := by cases hk; rfl
    subst this
    exact hst _ cs hc
  · by_cases e2 : i = k
    · rw [e2]
      refine ⟨D, c, by rw [List.getElem?_append_right (by omega), hlx, Nat.sub_self]; rfl, hcp, ht.keep hst, hD⟩
    · exact (h.el i (by omega)).keep fun b cs _ hc => hst b cs hc
  · have e1 : w4.heap[w2.heap.size]? = (w2.alloc (.cells #[.slice D (prt R N k).length c] 45)).heap[w2.heap.size]? := by
      rw [h2.block _ (by simp; omega) fun e => by
        have := (orow_block h.op e.symm).2.1
        omega]
      exact Below.heap_alloc _ _ _ (by simp)
    rw [World.alloc_heap_new] at e1
    rw [Lib.cell_of_heap e1]; rfl
  · have := h2.size
    simp at this
    omega
/-- Behind the deleting of a part. -/
theorem Pst.del (hop : w4.ownsRow kl 45 1 vp' (k + 1) xp) (hel : ∀ i, i < k + 1 → EltN w4 kl xp i (prt R N i)) (hkl : kl < w4.heap.size) {cap : Nat} (h4 : ∃ cs, w4.heap[kl]? = some (.cells cs 3 (0, 0)))
    (h1 : L2.Own w5 kl (.slice (some ⟨kl, 0, none⟩) (lef R N (k + 1)).length cap) (lef R N (k + 1)).length (lf (lef R N (k + 1)))) (ho : Oth kl w4 w5) : Pst R N w5 kl (k + 1) (.slice (some ⟨kl, 0, none⟩) (lef R N (k + 1)).length cap) vp' xp := by
  refine ⟨⟨cap, rfl, h1⟩, orow_keep hop fun b _ hk => ho.block b fun e => ?_, fun i hi => ?_, by rw [ho.size]; exact hkl⟩
  · obtain ⟨cs, hc⟩ := orow_type hop hk
    obtain ⟨cs2, hc2⟩ := h4
    rw [e, hc2] at hc
    cases hc
  · have := (hel i hi).keep (w' := w5) (ys := []) fun b cs hne hc => ho.block b hne
    rwa [List.append_nil] at this
end
set_option maxHeartbeats 3200000 in
theorem parts_n (W H N : Nat) (hNN : W + H = N) (A : Option Addr) (c : Nat) (g : Nat → Bool) (w : World) (hg : Holds w w.heap.size A (W * H) g) (hW0 : 1 ≤ W) (hW : W ≤ 64) (hH0 : 1 ≤ H) (hH : H ≤ 64) :
    Calls Try.prog 103 #[.agg #[.int .i64 (W : Nat), .int .i64 (H : Nat), .slice A (W * H) c]] w (PaR w (prt (ov W g) N) (pno (ov W g) N) 0) := by
  have hN : N ≤ 128 := by omega
  have HK := Lib.hid (fun u => chk_valid A c u hW0 hW hH0 hH)
  have HAH := Lib.hid (fun u (h : Below w.heap.size w u) => allh_n W H N hNN A c g u ((hg.below h).more h.size) hW0 hW hH0 hH)
  have HTH := Lib.hid (fun u => lthreads_n W H N hNN A (W * H) c u hW hH)
  generalize hR : ov W g = R at *
  clear hR
  have HTO := Lib.hid (fun u D d E l (hl : LL u D l) (hlN : ∀ b, b ∈ l → b < N) (hne : l ≠ []) (hn : l.length ≤ 128) (hB : BBs u E N (up R N)) => toppart_n R N l D d E N u hl hlN hne hN hn hB)
  have X0 := Lib.hid (Box.new w (W : Nat) (H : Nat) (.slice A (W * H) c))
  have LB0 := Lib.hid (show Below w.heap.size w (w.alloc (.cells #[.int .i64 (W : Nat), .int .i64 (H : Nat), (.slice A (W * H) c)] 24)) from (Below.refl _ _).alloc (Nat.le_refl _) _)
  clear hg hNN
  generalize W * H = M at *
  go_enter Try.func103, Try.ntmps103
  go_wp2_with fail
  generalize w.alloc (.cells #[.int .i64 (W : Nat), .int .i64 (H : Nat), .slice A M c] 24) = w0 at *
  obtain ⟨q0, q1, q2, q3, q4, q5, q6⟩ := X0.out.all
  go_wp2_with fail
  clear q0 q1 q2 q3 q4 q5 q6
  with_reducible refine Calls.mono (HK.out _) ?_
  rintro e w1 ⟨rfl, hb⟩
  have X1 := Lib.hid (X0.out.below hb X0.out.lt)
  have LB1 := Lib.hid (LB0.out.trans (hb.mono LB0.out.size))
  clear hb X0 LB0 HK
  obtain ⟨q0, q1, q2, q3, q4, q5, q6⟩ := X1.out.all
  go_wp2_with fail
  clear q0 q1 q2 q3 q4 q5 q6
  with_reducible refine Calls.mono (HAH.out _ LB1.out) ?_
  rintro e w2 ⟨kb, rfl, hbb, hb⟩
  have X2 := Lib.hid (X1.out.below hb X1.out.lt)
  have LB2 := Lib.hid (LB1.out.trans (hb.mono LB1.out.size))
  have HBB := Lib.hid hbb
  clear hb hbb X1 LB1 HAH
  obtain ⟨q0, q1, q2, q3, q4, q5, q6⟩ := X2.out.all
  go_wp2_with fail
  clear q0 q1 q2 q3 q4 q5 q6
  with_reducible refine Calls.mono (HTH.out _) ?_
  rintro e w3 ⟨kl, rfl, hkl, hown, hb⟩
  have hs2 := LB2.out.size
  have hs3 : kl < w3.heap.size := by
    obtain ⟨cs, hc⟩ := own_type hown
    exact (Array.getElem?_eq_some_iff.1 hc).1
  have LB3 := Lib.hid (LB2.out.trans (hb.mono LB2.out.size))
  have B3 := Lib.hid hb
  have HS0 : Hid (Pst R N w3 kl 0 (.slice (some ⟨kl, 0, none⟩) N N) (.slice none 0 0) []) := Lib.hid ⟨⟨N, by rw [show (lef R N 0).length = N from List.length_range], by rw [show (lef R N 0).length = N from List.length_range]; exact hown⟩, ⟨rfl, .inl ⟨rfl, rfl⟩⟩, fun i hi => by omega, hs3⟩
  clear hb hown X2 LB2 HTH hs3
  go_wp2
  go_loopg [5, 7] N (fun gk vp vl wr => ∃ (k : Nat) (xp : List Value), gk + k = N ∧ Hid (Pst R N wr kl k vl vp xp) ∧ Hid (∀ i, i < k → lef R N i ≠ []) ∧ Hid (Below w2.heap.size w2 wr) ∧ Hid (Below w.heap.size w wr))
  case atStart => exact ⟨0, [], rfl, HS0, Lib.hid (fun i hi => by omega), B3, LB3⟩
  case round =>
    obtain ⟨k, xp, hgk, HS, HNE, HB, HL⟩ := hrel
    clear HS0 B3 LB3
    obtain ⟨cap, rfl, ho⟩ := HS.out.left
    by_cases hlt : lef R N k = []
    · have E := Lib.hid (pno_is hlt HNE.out)
      have hl0 : (lef R N k).length = 0 := by rw [hlt]; rfl
      have y1 : ¬ ((lef R N k).length : Int) > 0 := by omega
      have hop := HS.out.op
      obtain ⟨D, cp, e1, hlls⟩ := lls_of hop fun i hi => (HS.out.el i hi).elt
      rw [e1] at hop
      have HCP := Lib.hid (orow_cp hop)
      have HLS := Lib.hid hlls
      subst e1
      clear hop hlls ho hlt
      obtain ⟨L0, hL0⟩ : ∃ x, (lef R N k).length = x := ⟨_, rfl⟩
      rw [hL0] at y1 hl0 ⊢
      have y2 : ¬ (0 : Int) < (L0 : Int) := by omega
      have y3 : ¬ 0 < L0 := by omega
      clear hL0 hl0
      go_wp2
      go_ret2
      rw [E.out]
      exact ⟨D, cp, rfl, HCP.out, HLS.out, HL.out⟩
    · have hkN := lef_le R N k hlt
      have hl0 : 0 < (lef R N k).length := List.length_pos_iff.2 hlt
      have y1 : ((lef R N k).length : Int) > 0 := by omega
      have hll : LL wr (some ⟨kl, 0, none⟩) (lef R N k) := (own_tt ho).ll
      have HTk := Lib.hid (HTO.out wr (some ⟨kl, 0, none⟩) cap (some ⟨kb, 0, none⟩) (lef R N k) hll (fun b hb => lef_lt hb) hlt (by omega) (HBB.out.below HB.out))
      have hpp := prt_pos hlt
      have HPL := Lib.hid (show (lef R N k).filter (cls R N (lhd R N (lef R N k))) = prt R N k from rfl)
      rw [HPL.out] at HTk
      have HN1 := Lib.hid (show ∀ i, i < k + 1 → lef R N i ≠ [] from fun i hi => lef_ne hlt (by omega))
      have hpN : (prt R N k).length ≤ 128 := Nat.le_trans (List.length_filter_le _ _) (by omega)
      obtain ⟨L0, hL0⟩ : ∃ x, (lef R N k).length = x := ⟨_, rfl⟩
      have HL0 := Lib.hid hL0
      rw [hL0] at y1 hl0 hkN HTk ⊢
      have y2 : (0 : Int) < (L0 : Int) := by omega
      clear hL0 hll ho hlt
      go_wp2_with fail
      with_reducible refine Calls.mono HTk.out ?_
      rintro e w5 ⟨D, cp, rfl, hcp, htt, hfr, hb⟩
      have hwk := HS.out.kl
      have HS5 := Lib.hid (HS.out.below hb)
      have HB5 := Lib.hid (HB.out.trans (hb.mono HB.out.size))
      have HL5 := Lib.hid (HL.out.trans (hb.mono HL.out.size))
      have HD : Hid (∀ a, D = some a → a.block ≠ kl) := Lib.hid (fun a e => by
        obtain ⟨k2, e2, h2⟩ := hfr hpp
        rw [e] at e2
        cases e2
        show k2 ≠ kl
        omega)
      have HD2 : Hid (∀ h : 0 < (prt R N k).length, ∃ b, D = some ⟨b, 0, none⟩ ∧ b ≠ kl) := Lib.hid (fun h => by
        obtain ⟨k2, e2, h2⟩ := hfr h
        exact ⟨k2, e2, by omega⟩)
      have HCP := Lib.hid hcp
      have HTT := Lib.hid htt
      have HAP := Lib.hid (fun w4 h2 => HS5.out.app (w4 := w4) HCP.out HTT.out HD.out h2)
      have hop := HS5.out.op
      have HBZ := Lib.hid (show ∀ b, u5.ownBlock = some b → kl ≤ b ∧ b < w5.heap.size from fun b hb => ⟨(orow_block hop hb).1, (orow_block hop hb).2.1⟩)
      have HDEL := Lib.hid (fun (w4 : World) (cap : Nat) (pb : Nat) h1 (h2 : w4.cell? ⟨pb, 0, none⟩ = some (.slice D (prt R N k).length cp)) (h3 : pb < w4.heap.size) (h4 : pb ≠ kl) (h5 : TT w4 D (prt R N k)) => del_any w4 kl kl cap (lef R N k) (prt R N k) pb D cp h1 (by omega) h2 h3 h4 h5.ll HD2.out)
      rw [lef_has] at HDEL
      have hs5 := HL5.out.size
      have hw25 := HB5.out.size
      have hw5k := HS5.out.kl
      obtain ⟨n, hn⟩ : ∃ n, (prt R N k).length = n := ⟨_, rfl⟩
      rw [hn] at HAP HDEL ⊢
      rw [HL0.out] at HAP HDEL
      clear hn hcp htt hfr hb HS HB HL HTk HPL hpp
      have hopA := Lib.hid (show ((w5.alloc (.cells #[.slice D n cp] 45))).ownsRow kl 45 1 u5 k xp from orow_keep hop fun b _ hk => Below.heap_alloc _ _ b (orow_block hop hk).2.1)
      clear hop
      have hsA : kl ≤ (w5.alloc (.cells #[.slice D n cp] 45)).heap.size := by simp; omega
      have hc8 : (w5.alloc (.cells #[.slice D n cp] 45)).cell? ⟨w5.heap.size, 0, none⟩ = some (.slice D n cp) := by simp
      have HBA := Lib.hid ((Below.refl kl w5).alloc (by omega) (.cells #[.slice D n cp] 45))
      go_upto_region 9 with (fail)
      generalize w5.alloc (.cells #[.slice D n cp] 45) = w5a at *
      obtain ⟨pb, hpb⟩ : ∃ pb, w5.heap.size = pb := ⟨_, rfl⟩
      rw [hpb] at hc8 HAP ⊢
      have HPB := Lib.hid hpb
      clear hpb
      go_wp2_with (at_builtin; refine so_app _ rfl _ _ (by rfl) kl (by rfl) hopA.out D n cp (by rfl) (by omega) hsA ?_; intro v6 w6 h1 h2 h3; have H1 := Lib.hid h1; have H2 := Lib.hid h2; clear h1 h2 h3)
      obtain ⟨⟨cap2, e2, ho2⟩, hel2, htt2, hpc2, hsz2, hkl2⟩ := HAP.out _ H2.out
      cases e2
      have hpk : pb ≠ kl := by have := HPB.out; omega
      have hsz6 : pb < w6.heap.size := by have := HPB.out; omega
      have HDE := Lib.hid (HDEL.out w6 cap pb ho2 hpc2 hsz6 hpk htt2)
      have HO6 := Lib.hid (own_type ho2)
      have HE6 := Lib.hid hel2
      clear ho2 hel2 htt2 hpc2 hc8
      go_wp2_with fail
      with_reducible refine Calls.mono HDE.out ?_
      rintro e w7 ⟨rfl, hown7, hoth⟩
      have HS7 := Lib.hid (Pst.del H1.out HE6.out (by omega) HO6.out hown7 hoth)
      have HG6 := Lib.hid (show Below kl w5 w6 from ((HBA.out.alloc (by omega) (.cells #[.slice D n cp] 45)).grown H2.out (by simp; omega) fun b hb => (HBZ.out b hb).1))
      have HB7 := Lib.hid (hoth.below (HB5.out.trans (HG6.out.mono hkl)) hkl)
      have HL7 := Lib.hid (hoth.below (HL5.out.trans (HG6.out.mono (by omega))) (by omega))
      clear hown7 hoth
      go_wp2
      go_roundg (gk - 1)
      case measure => omega
      case rel => exact ⟨k + 1, _, by omega, HS7, HN1, HB7, HL7⟩
end Go.Proofs.Ytgmcbdnfgdmmaaa
