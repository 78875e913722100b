/- The kinds of the rows of a grid, by the program's rowKinds. -/
import Derived.Test.YtbafhdinalapoaaDoorFro
import Derived.Test.YtbafhdinalapoaaDoorApd
namespace Go.Proofs.YtbafhdinalapoaaDoor
open Go.RowKit Go.Maps
set_option linter.unusedVariables false
set_option linter.unusedSimpArgs false
set_option maxRecDepth 100000

open L2 (nd ren fst fst_end nd_le)
/-- A variable of two slices. -/
def KB (w : World) (g : Nat) (u v : Value) : Prop := w.heap[g]? = some (.cells #[u, v] 64 (0, 0))
section
variable {w w' : World} {g : Nat} {u v : Value}
theorem KB.lt (h : KB w g u v) : g < w.heap.size := by
  unfold KB at h
  rcases Nat.lt_or_ge g w.heap.size with hlt | hge
  · exact hlt
  · rw [Array.getElem?_eq_none hge] at h; cases h
theorem KB.all (h : KB w g u v) : w.cell? ⟨g, 0, none⟩ = some u ∧ w.cell? ⟨g, 1, none⟩ = some v ∧ w.frozen? ⟨g, 0, none⟩ = false ∧ w.frozen? ⟨g, 1, none⟩ = false ∧ g < w.heap.size := by
  refine ⟨?_, ?_, ?_, ?_, h.lt⟩ <;> (unfold KB at h; simp [World.cell?, World.frozen?, h])
theorem KB.keep (h : KB w g u v) (e : w'.heap[g]? = w.heap[g]?) : KB w' g u v := e.trans h
theorem KB.below {B : Nat} (h : KB w g u v) (hb : Below B w w') (hg : g < B) : KB w' g u v := h.keep (hb.block g hg)
theorem KB.alloc (h : KB w g u v) (o : Obj) : KB (w.alloc o) g u v := h.below ((Below.refl _ _).alloc (Nat.le_refl _) o) h.lt
theorem KB.new (w : World) (u v : Value) : KB (w.alloc (.cells #[u, v] 64)) w.heap.size u v := heap_alloc_new w _
theorem KB.set0 (h : KB w g u v) (x : Value) : KB (w.setCell ⟨g, 0, none⟩ x) g x v := by
  unfold KB at h ⊢
  simp [World.setCell, Array.getElem?_modify, h]
theorem KB.set1 (h : KB w g u v) (x : Value) : KB (w.setCell ⟨g, 1, none⟩ x) g u x := by
  unfold KB at h ⊢
  simp [World.setCell, Array.getElem?_modify, h]
end
theorem RowSt.below {w w' : World} {B W k N : Nat} {f : Nat → Bool} (h : RowSt w B W f k) (hb : Below N w w') (hB : B < N) : RowSt w' B W f k := h.block (hb.block B hB)
/-- What the loop of rowKinds keeps: the list of kinds v, the first rows u, and the map. -/
structure KSt (v0 : World) (gk W : Nat) (f : Nat → Bool) (n1 n2 : Nat) (F : Nat → Int) (nm : Nat) (v u : Value) (wr : World) : Prop where
  own1 : L2.Own wr (gk + 2) v n1 (ren (rc W f))
  own2 : L2.Own wr (gk + 2) u n2 F
  ap : Apart v u
  kb : KB wr gk v u
  mp : RowSt wr (gk + 1) W f nm
  bel : Below gk v0 wr
  sz : gk + 2 ≤ wr.heap.size
section
variable {v0 wr w' : World} {gk W n1 n2 nm : Nat} {f : Nat → Bool} {F : Nat → Int} {v u : Value}
theorem KSt.next (h : KSt v0 gk W f n1 n2 F nm v u wr) (hb : Below wr.heap.size wr w') : KSt v0 gk W f n1 n2 F nm v u w' :=
  have hs := h.sz
  ⟨h.own1.below hb, h.own2.below hb, h.ap, h.kb.below hb h.kb.lt, h.mp.below hb (by omega), h.bel.trans (hb.mono (by omega)), Nat.le_trans h.sz hb.size⟩
theorem KSt.congr {G : Nat → Int} (h : KSt v0 gk W f n1 n2 F nm v u wr) (e : ∀ i, i < n2 → F i = G i) : KSt v0 gk W f n1 n2 G nm v u wr :=
  ⟨h.own1, h.own2.congr e, h.ap, h.kb, h.mp, h.bel, h.sz⟩
theorem KSt.upd {nm' : Nat} (h : KSt v0 gk W f n1 n2 F nm v u wr) (hg : wr.grownBy w' (some (gk + 1))) (hm : RowSt w' (gk + 1) W f nm') : KSt v0 gk W f n1 n2 F nm' v u w' :=
  have hs := h.sz
  have hk : ∀ k, k ≠ gk + 1 → k < wr.heap.size → w'.heap[k]? = wr.heap[k]? := fun k hk hl => hg.block k hl (by simpa using hk)
  ⟨h.own1.keep (fun k h1 h2 => hk k (by omega) h2), h.own2.keep (fun k h1 h2 => hk k (by omega) h2), h.ap, h.kb.keep (hk gk (by omega) (by omega)), hm,
    Below.grown h.bel hg (by omega) (fun k e => by cases e; omega), Nat.le_trans h.sz hg.size⟩
theorem KSt.app2_ {u' : Value} (h : KSt v0 gk W f n1 n2 F nm v u wr) (ho : L2.Own w' (gk + 2) u' (n2 + 1) F) (hb : Below (gk + 2) wr w') (hg : Grew wr w' u u') : KSt v0 gk W f n1 (n2 + 1) F nm v u' (w'.setCell ⟨gk, 1, none⟩ u') :=
  have hs := h.sz
  have ho1 := hg.own h.own1 h.ap
  ⟨ho1.1.far (by simp) _, ho.far (by simp) _, ho1.2, (h.kb.below hb (by omega)).set1 u', (h.mp.below hb (by omega)).block (Below.heap_setCell w' ⟨gk, 1, none⟩ u' (gk + 1) (by simp)),
    (h.bel.trans (hb.mono (by omega))).setCell (by simp) _, by simpa [World.setCell] using Nat.le_trans h.sz hb.size⟩
theorem KSt.app1_ {v' : Value} (h : KSt v0 gk W f n1 n2 F nm v u wr) (ho : L2.Own w' (gk + 2) v' (n1 + 1) (ren (rc W f))) (hb : Below (gk + 2) wr w') (hg : Grew wr w' v v') : KSt v0 gk W f (n1 + 1) n2 F nm v' u (w'.setCell ⟨gk, 0, none⟩ v') :=
  have hs := h.sz
  have ho1 := hg.own h.own2 h.ap.symm
  ⟨ho.far (by simp) _, ho1.1.far (by simp) _, ho1.2.symm, (h.kb.below hb (by omega)).set0 v', (h.mp.below hb (by omega)).block (Below.heap_setCell w' ⟨gk, 0, none⟩ v' (gk + 1) (by simp)),
    (h.bel.trans (hb.mono (by omega))).setCell (by simp) _, by simpa [World.setCell] using Nat.le_trans h.sz hb.size⟩
end
/-- What rowKinds hands back: the kind of each row, and the first row of each kind. -/
def FKOut (w : World) (H : Nat) (c : Nat → Int) (e : Ending) (w' : World) : Prop :=
  ∃ A1 c1 A2 c2, e = .returned (.agg #[.slice A1 H c1, .slice A2 (nd c H) c2]) ∧ (0 < H → ∃ k, A1 = some ⟨k, 0, none⟩ ∧ w.heap.size ≤ k ∧ L2.Row w' k H (ren c)) ∧ (0 < nd c H → ∃ q, A2 = some ⟨q, 0, none⟩ ∧ w.heap.size ≤ q ∧ L2.Row w' q (nd c H) (fun k => (frn c H k : Nat))) ∧ Below w.heap.size w w'

set_option maxHeartbeats 800000 in
theorem frk_any (W H b o cap : Nat) (f : Nat → Bool) (B0 : Nat) (w : World) (hr : Holds w B0 (some ⟨b, o, none⟩) (W * H) f) (hB : B0 ≤ w.heap.size) (hcap : W * H ≤ cap) (hW0 : 1 ≤ W) (hW : W ≤ 64) (hH : H ≤ 64) :
    Calls Tryd.prog 62 #[.agg #[.int .i64 W, .int .i64 H, .slice (some ⟨b, o, none⟩) (W * H) cap]] w (FKOut w H (rc W f)) := by
  have hmm := @run_makeMap Tryd.prog
  have HR := Lib.hid hr
  have HC := Lib.hid hcap
  clear hr
  obtain ⟨zc, hzc⟩ : ∃ zc, zc = Array.replicate 64 (Value.bool false) := ⟨_, rfl⟩
  have hz := zero156
  rw [← hzc] at hz
  have HZ := Lib.hid hzc
  clear hzc
  have hQ : ∃ v0, v0 = (((w.alloc (.cells #[.int .i64 W, .int .i64 H, .slice (some ⟨b, o, none⟩) (W * H) cap] 25)).alloc (.cells #[.slice none 0 0, .slice none 0 0] 64)).alloc (.cells #[.slice none 0 0, .slice none 0 0] 64)).alloc (.map #[] 0) := ⟨_, rfl⟩
  obtain ⟨v0, hv0⟩ := hQ
  have hs0 : v0.heap.size = w.heap.size + 4 := by rw [hv0]; simp
  have L0 := Lib.hid (show Below w.heap.size w v0 by rw [hv0]; exact ((((Below.refl _ _).alloc (Nat.le_refl _) _).alloc (by simp) _).alloc (by simp; omega) _).alloc (by simp; omega) _)
  have G0 := Lib.hid (show Box v0 w.heap.size W H (.slice (some ⟨b, o, none⟩) (W * H) cap) by rw [hv0]; exact (((Box.new w W H _).alloc _).alloc _).alloc _)
  have R0 := Lib.hid (show KB v0 (w.heap.size + 1) (.slice none 0 0) (.slice none 0 0) by
    rw [hv0]
    have h := ((KB.new (w.alloc (.cells #[.int .i64 W, .int .i64 H, .slice (some ⟨b, o, none⟩) (W * H) cap] 25)) (.slice none 0 0) (.slice none 0 0)).alloc (.cells #[.slice none 0 0, .slice none 0 0] 64)).alloc (.map #[] 0)
    simp only [World.size_alloc] at h
    exact h)
  have K0 := Lib.hid (show KSt v0 (w.heap.size + 2) W f 0 0 (fun k => (frn (rc W f) 0 k : Nat)) 0 (.slice none 0 0) (.slice none 0 0) v0 from ⟨L2.Own.nil _ _ _, L2.Own.nil _ _ _, Apart.nil _, by
      rw [hv0]
      have h := (KB.new ((w.alloc (.cells #[.int .i64 W, .int .i64 H, .slice (some ⟨b, o, none⟩) (W * H) cap] 25)).alloc (.cells #[.slice none 0 0, .slice none 0 0] 64)) (.slice none 0 0) (.slice none 0 0)).alloc (.map #[] 0)
      simp only [World.size_alloc] at h
      exact h, by
      rw [hv0]
      have h := RowSt.zero (((w.alloc (.cells #[.int .i64 W, .int .i64 H, .slice (some ⟨b, o, none⟩) (W * H) cap] 25)).alloc (.cells #[.slice none 0 0, .slice none 0 0] 64)).alloc (.cells #[.slice none 0 0, .slice none 0 0] 64)) W f
      simp only [World.size_alloc] at h
      exact h, Below.refl _ _, by omega⟩)
  go_enter Tryd.func62, Tryd.ntmps62
  go_wp2
  rw [← hv0]
  clear hv0
  go_loopw [12] (fun i wr => ∃ (y : Nat) (v u : Value), y ≤ H ∧ i = .int .i64 y ∧ Hid (KSt v0 (w.heap.size + 2) W f y (nd (rc W f) y) (fun k => (frn (rc W f) y k : Nat)) y v u wr)) (fun i _ => H - (intOf i).toNat)
  case atStart => exact ⟨0, _, _, Nat.zero_le _, rfl, K0⟩
  case round =>
    obtain ⟨y, v, u, hy, rfl, hK⟩ := hrel
    by_cases hlt : y < H
    · obtain ⟨A1, c1, rfl, _, _⟩ := hK.out.own1.out
      obtain ⟨A2, c2, rfl, _, _⟩ := hK.out.own2.out
      obtain ⟨c, hc⟩ : ∃ c, rc W f = c := ⟨_, rfl⟩
      obtain ⟨q0, q1, q2, q3, q4, q5, q6⟩ := (G0.out.below hK.out.bel (by omega)).all
      have y1 : (y : Int) < (H : Int) := by omega
      have hsz := hK.out.sz
      go_wp2_with fail
      clear q0 q1 q2 q3 q4 q5 q6
      have hbw := L0.out.trans (hK.out.bel.mono (by omega : w.heap.size ≤ w.heap.size + 2))
      refine (frow_any W H b o cap y f B0 wr (HR.out.below (hbw.mono hB)) (Nat.le_trans hB hbw.size) hW0 hW hH HC.out hlt).mono ?_
      rintro e w2 ⟨rfl, hb2⟩
      have K2 := Lib.hid (hK.out.next hb2)
      clear hb2 hbw hK
      obtain ⟨rs, hrs⟩ : ∃ rs, rs = rowl W f y := ⟨_, rfl⟩
      have hrl : rs.length = 64 := by rw [hrs, rowl_len]
      have HI1 := Lib.hid (show (Tryd.prog.info? 114).map (·.size) = some rs.length by rw [hrl]; exact info156)
      have HI2 := Lib.hid (show (Tryd.prog.info? 114).map (·.size) = some rs.toArray.size by simpa using HI1.out)
      have HO := Lib.hid (show rs.toArray.all (·.oneCell') = true from all_oneCell_toArray (by rw [hrs]; intro u hu; unfold rowl at hu; obtain ⟨j, _, rfl⟩ := List.mem_map.1 hu; rfl))
      have hrv : rowv W f y = .agg rs.toArray := by rw [hrs]; rfl
      have hkey := rkey_is W f y
      rw [hrv] at hkey ⊢
      have HT := Lib.hid (show (w2.alloc (.cells zc 114)).there w2.heap.size 0 rs.toArray.size by
        have h := (CArr.new w2 zc.toList 114).there
        rw [show zc.toList.length = rs.toArray.size by rw [HZ.out]; simp [hrl]] at h
        exact h)
      have hb4 : Below w2.heap.size w2 ((w2.alloc (.cells zc 114)).setCells w2.heap.size 0 rs) := below_setCells _ _ _ _ _ ((Below.refl _ _).alloc (Nat.le_refl _) _) (Nat.le_refl _)
      have K4 := Lib.hid (K2.out.next hb4)
      have HG := Lib.hid (World.rangeAt_setCells_same (w2.alloc (.cells zc 114)) w2.heap.size 0 rs (by simpa using HT.out))
      have S4 := Lib.hid (hb4.size)
      have HKEY := Lib.hid hkey
      clear hb4 hrv hrs hrl hkey K2
      obtain ⟨D, hown, hM⟩ := K4.out.mp
      have hhas := hM.has y
      rw [hc] at hhas
      have HD := Lib.hid hown
      have hnd : nd c y ≤ y := nd_le c y
      by_cases hs : fst c (c y) y < y
      · have hval := hM.val y (by rw [hc]; exact hs)
        rw [hc] at hval
        have hh : Maps.has D (rkey W f y) = true := by rw [hhas]; simp [hs]
        have HM := Lib.hid (hM.seen (by rw [hc]; exact hs))
        have HND := Lib.hid (show nd c (y + 1) = nd c y from nd_succ_old hs)
        have HRN := Lib.hid (show ren c y = (nd c (fst c (c y) y) : Nat) from rfl)
        obtain ⟨p, hp⟩ : ∃ p : Int, (nd c (fst c (c y) y) : Nat) = p := ⟨_, rfl⟩
        rw [hp] at hval HRN
        have HV := Lib.hid hval
        have HCC := Lib.hid hc
        have KO := Lib.hid K4.out.own1
        obtain ⟨k0, k1, k2, k3, k4⟩ := K4.out.kb.all
        have HRN' := Lib.hid (show ren (rc W f) y = p by rw [hc]; exact HRN.out)
        have K5 := Lib.hid (show KSt v0 (w.heap.size + 2) W f y (nd (rc W f) (y + 1)) (fun k => (frn (rc W f) (y + 1) k : Nat)) (y + 1) (.slice A1 y c1) (.slice A2 (nd (rc W f) y) c2) ((w2.alloc (.cells zc 114)).setCells w2.heap.size 0 rs) from by
          rw [hc, HND.out, ← hc]
          have h := K4.out.congr (G := fun k => (frn (rc W f) (y + 1) k : Nat)) (fun i hi => by rw [frn_keep _ hi])
          exact ⟨h.own1, h.own2, h.ap, h.kb, ⟨D, HD.out.mono (Nat.le_succ _), HM.out⟩, h.bel, h.sz⟩)
        have hsz4 := K4.out.sz
        clear hs hval hhas hown hM hc hp HND K4 HM
        go_wp2_with (first
          | ((with_reducible show wpList _ _ _ (⟨none, .store 114 _ _, _, _, _, _⟩ :: _) _ _); refine wpList_store_mid rfl 114 (.tmp 6) (.tmp 17) rfl w2.heap.size 0 rs.toArray (by rfl) (by rfl) HT.out HI2.out HO.out ?_; generalize (w2.alloc (.cells zc 114)).setCells w2.heap.size 0 rs = w4 at *)
          | ((with_reducible show wpList _ _ _ (⟨some 20, _, _, _, _, _⟩ :: _) _ _); refine wpList_load_mid rfl 114 (.tmp 6) rfl w2.heap.size 0 (by rfl) rs _ HG.out Tryd.underlying114 rfl HI1.out ?_)
          | (at_lookup; refine wpList_lookup_own_ok_int _ rfl _ _ 112 rfl 114 3 .i64 law156 Tryd.underlying112 Tryd.underlying3 (L2.zero3 _) (w.heap.size + 2 + 1) y D rfl HD.out _ _ rfl HKEY.out ?_; intro c' hat hwc; rw [hh]; have e := HV.out.symm.trans hat; simp only [DataW.lit.injEq, Lit.int.injEq, true_and] at e; subst e; clear hat hwc)
          | (at_builtin; refine app2 _ rfl _ _ (by rfl) (w.heap.size + 2 + 2) (by rfl) KO.out p (by rfl) HRN'.out (by omega) hsz4 ?_; intro v' w6 hown6 hb6 hg6; obtain ⟨A6, c6, rfl, _, _⟩ := hown6.out; have HB6 := Lib.hid hb6; have K6 := Lib.hid (K5.out.app1_ hown6 hb6 hg6); obtain ⟨j0, j1, j2, j3, j4⟩ := (K5.out.kb.below hb6 (by omega)).all; clear hown6 hb6 hg6))
        exact ⟨⟨y + 1, _, _, by omega, by go_num, K6⟩, by simp [intOf]; omega⟩
      · have hh : Maps.has D (rkey W f y) = false := by rw [hhas]; simp [hs]
        have HM := Lib.hid (hM.new hW (by rw [hc]; exact hs))
        rw [hc] at HM
        have HND := Lib.hid (show nd c (y + 1) = nd c y + 1 from nd_succ_new hs)
        have HRN := Lib.hid (show ren (rc W f) y = (nd c y : Nat) by rw [hc]; exact L2.ren_new hs)
        have HFN := Lib.hid (show ((frn c (y + 1) (nd c y) : Nat) : Int) = (y : Int) by rw [frn_new hs])
        have hsize := hM.size
        rw [hc] at hsize
        have HKP := Lib.hid (fun i (hi : i < nd c y) => frn_keep c hi)
        have K5 := Lib.hid (show KSt v0 (w.heap.size + 2) W f y (nd c y) (fun k => (frn (rc W f) (y + 1) k : Nat)) y (.slice A1 y c1) (.slice A2 (nd (rc W f) y) c2) ((w2.alloc (.cells zc 114)).setCells w2.heap.size 0 rs) from by
          have h := K4.out
          rw [hc] at h ⊢
          exact h.congr (fun i hi => by rw [HKP.out i hi]))
        rw [hc] at K5
        have HCC := Lib.hid hc
        obtain ⟨m, hm⟩ : ∃ m : Nat, nd c y = m := ⟨_, rfl⟩
        have HMM := Lib.hid hm
        rw [hm] at HM HRN HFN hsize K5 hnd HND
        have HS := Lib.hid hsize
        obtain ⟨k0, k1, k2, k3, k4⟩ := K4.out.kb.all
        rw [hc, hm] at k1
        have hsz4 := K4.out.sz
        clear hs hhas hown hM hm hsize K4 HKP hc
        go_wp2_with (first
          | ((with_reducible show wpList _ _ _ (⟨none, .store 114 _ _, _, _, _, _⟩ :: _) _ _); refine wpList_store_mid rfl 114 (.tmp 6) (.tmp 17) rfl w2.heap.size 0 rs.toArray (by rfl) (by rfl) HT.out HI2.out HO.out ?_; generalize (w2.alloc (.cells zc 114)).setCells w2.heap.size 0 rs = w4 at *)
          | ((with_reducible show wpList _ _ _ (⟨some 20, _, _, _, _, _⟩ :: _) _ _); refine wpList_load_mid rfl 114 (.tmp 6) rfl w2.heap.size 0 (by rfl) rs _ HG.out Tryd.underlying114 rfl HI1.out ?_)
          | ((with_reducible show wpList _ _ _ (⟨some 29, _, _, _, _, _⟩ :: _) _ _); refine wpList_load_mid rfl 114 (.tmp 6) rfl w2.heap.size 0 (by rfl) rs _ HG.out Tryd.underlying114 rfl HI1.out ?_)
          | (at_lookup; refine wpList_lookup_own_ok_int _ rfl _ _ 112 rfl 114 3 .i64 law156 Tryd.underlying112 Tryd.underlying3 (L2.zero3 _) (w.heap.size + 2 + 1) y D rfl HD.out _ _ rfl HKEY.out ?_; intro c' hat hwc; rw [hh]; clear hat hwc)
          | (at_len; refine wpList_len_own _ rfl _ 112 rfl 114 3 Tryd.underlying112 _ (w.heap.size + 2 + 1) y D rfl HD.out ?_; rw [HS.out])
          | (at_mapUpdate; refine wpList_mapUpdate_own _ rfl _ _ _ 112 rfl 114 3 law156 Tryd.underlying112 _ (w.heap.size + 2 + 1) y D rfl HD.out (by unfold maxLen; omega) _ _ _ rfl rfl HKEY.out (.lit (.int .i64 (m : Int))) [] (plainElem_int Tryd.underlying3 (WalkArith.wf_i64 (by omega))) ?_; intro w5 hown5 hgrow5; have K6 := Lib.hid (K5.out.upd hgrow5 ⟨_, hown5, HM.out⟩); have hsz5 := K6.out.sz; have KB6 := K6.out.kb.all; obtain ⟨k0, k1, k2, k3, k4⟩ := KB6; clear hown5 hgrow5)
          | (at_builtin; refine app2 _ rfl _ _ (by rfl) (w.heap.size + 2 + 2) (by rfl) K6.out.own2 (y : Int) (by rfl) HFN.out (by omega) hsz5 ?_; intro v' w6 hown6 hb6 hg6; obtain ⟨A6, c6, rfl, _, _⟩ := hown6.out; have K7 := Lib.hid (K6.out.app2_ hown6 hb6 hg6); obtain ⟨j0, j1, j2, j3, j4⟩ := (K6.out.kb.below hb6 (by omega)).all; have hsz6 := K7.out.sz; clear hown6 hb6 hg6)
          | (at_builtin; refine app2 _ rfl _ _ (by rfl) (w.heap.size + 2 + 2) (by rfl) K7.out.own1 (m : Int) (by rw [show (w6.setCell ⟨w.heap.size + 2, 1, none⟩ (.slice A6 (m + 1) c6)).heap.size = w6.heap.size from by simp [World.setCell]]; rfl) HRN.out (by omega) hsz6 ?_; intro v' w7 hown7 hb7 hg7; obtain ⟨A7, c7, rfl, _, _⟩ := hown7.out; have K8 := Lib.hid (K7.out.app1_ hown7 hb7 hg7); obtain ⟨l0, l1, l2, l3, l4⟩ := (K7.out.kb.below hb7 (by omega)).all; clear hown7 hb7 hg7))
        have K9 : KSt v0 (w.heap.size + 2) W f (y + 1) (nd (rc W f) (y + 1)) (fun k => (frn (rc W f) (y + 1) k : Nat)) (y + 1) (.slice A7 (y + 1) c7) (.slice A6 (m + 1) c6) (w7.setCell ⟨w.heap.size + 2, 0, none⟩ (.slice A7 (y + 1) c7)) := by
          rw [HCC.out, HND.out]
          exact K8.out
        exact ⟨⟨y + 1, _, _, by omega, by go_num, Lib.hid K9⟩, by simp [intOf]; omega⟩
    · have e : y = H := by omega
      subst e
      obtain ⟨A1, c1, rfl, _, hr1⟩ := hK.out.own1.out
      obtain ⟨A2, c2, rfl, _, hr2⟩ := hK.out.own2.out
      have HR1 := Lib.hid hr1
      have HR2 := Lib.hid hr2
      have HBB := Lib.hid (L0.out.trans (hK.out.bel.mono (by omega)))
      obtain ⟨k0, k1, k2, k3, k4⟩ := hK.out.kb.all
      obtain ⟨r0, r1, r2, r3, r4⟩ := (R0.out.below hK.out.bel (by omega)).all
      clear hr1 hr2 hK
      go_wp2
      refine bodyPost_ret (v := .agg #[.slice A1 y c1, .slice A2 (nd (rc W f) y) c2]) (by simp [results, Tryd.results62, go_sem, r0, r1, r2, r3, r4]) rfl ⟨A1, c1, A2, c2, rfl, fun h => ?_, fun h => ?_, (HBB.out.setCell (by simp) _).setCell (by simp) _⟩
      · obtain ⟨k, e, h1, h2⟩ := HR1.out h
        exact ⟨k, e, by omega, (h2.far (by simp; omega) _).far (by simp; omega) _⟩
      · obtain ⟨k, e, h1, h2⟩ := HR2.out h
        exact ⟨k, e, by omega, (h2.far (by simp; omega) _).far (by simp; omega) _⟩
end Go.Proofs.YtbafhdinalapoaaDoor
