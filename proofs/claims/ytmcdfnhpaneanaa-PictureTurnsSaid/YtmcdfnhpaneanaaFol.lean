/- follow: what one colour brings with it. -/
import Derived.Test.YtmcdfnhpaneanaaFwd
import Derived.Sort.LoopGhostIn
namespace Go.Proofs.Ytmcdfnhpaneanaa
open Go.RowKit Go.Shelf
set_option maxRecDepth 100000
set_option linter.unusedVariables false
set_option linter.unusedSimpArgs false
attribute [local go_sem] Oper.semAt_some

/-- What 'follow' hands back. -/
def FolR (W H : Nat) (f K : Nat → Int) (t : Nat) (c : Int) (w : World) (e : Ending) (w' : World) : Prop :=
  (∃ k kb kc, e = .returned (.tuple #[.slice (some ⟨kb, 0, none⟩) (W + H) kc, .bool true]) ∧ Fol W H f K t c k ∧ L2.Row w' kb (W + H) k ∧ Below w.heap.size w w' ∧ W + H ≤ kc) ∨
  (e = .returned (.tuple #[.slice none 0 0, .bool false]) ∧ NoFol W H f K t c ∧ Below w.heap.size w w')
theorem normal_only {F : Fence} {n : Nat} {P : Program} {c : Code} {Q : Exit → Act → World → Prop} {a : Act} {w : World} (h : c.wpIn F n P (fun e a' w' => e = .normal ∧ Q .normal a' w') a w) : c.wpIn F n P Q a w :=
  wpIn_mono h fun e a' w' h => by rw [h.1]; exact h.2
/-- What the outer loop of 'follow' hands on. -/
def LI (w : World) (s W H b off cap kc kb kc' q t : Nat) (A : Option Addr) (c : Int) (f K : Nat → Int) (m : Nat) (a : Act) (X : World) : Prop :=
  ∃ (tb : Nat) (ds : List Nat) (k : Nat → Int) (L : List Nat) (u21 u22 u23 u24 u25 u26 u27 u28 u29 u30 u62 : Value),
    a = { tmps := (.agg #[.int .i64 (W : Nat), .int .i64 (H : Nat), .slice (some ⟨b, off, none⟩) (W * H) cap] :: .slice A (W + H) kc :: .int .i64 (t : Nat) :: .int .i64 c :: .pointer (some ⟨s, 0, none⟩) :: .pointer (some ⟨s + 1, 0, none⟩) :: undef :: undef :: .pointer (some ⟨s + 2, 0, none⟩) :: .pointer (some ⟨s + 3, 0, none⟩) :: .pointer (some ⟨tb, 0, none⟩) :: undef :: undef :: .slice A (W + H) kc :: .slice (some ⟨kb, 0, none⟩) (W + H) kc' :: .slice (some ⟨kb, 0, none⟩) (W + H) kc' :: .int .i64 (t : Nat) :: .int .i64 c :: .pointer (some ⟨kb, t, none⟩) :: .int .i64 (t : Nat) :: .slice (some ⟨q, 0, none⟩) 1 1 :: u21 :: u22 :: u23 :: u24 :: u25 :: u26 :: u27 :: u28 :: u29 :: u30 :: undef :: undef :: undef :: undef :: undef :: undef :: undef :: undef :: undef :: undef :: undef :: undef :: undef :: undef :: undef :: undef :: undef :: undef :: undef :: undef :: undef :: undef :: undef :: undef :: undef :: undef :: undef :: undef :: undef :: undef :: undef :: u62 :: undef :: []).toArray, defers := ds.map mkD } ∧
    Hid (ds.Nodup ∧ ∀ D, D ∈ ds → s ≤ D) ∧ Hid (FS W H f K t c k L) ∧ Hid (FW w s W H (.slice (some ⟨b, off, none⟩) (W * H) cap) kb kc' tb ds (· = kb) X k L) ∧ Hid (m = L.length + unk (W + H) k) ∧ Hid (m ≤ W + H + 1)
/-- Between two rounds of the inner loop of 'follow'. -/
def FolI (w : World) (s W H : Nat) (v : Value) (kb kc tb : Nat) (ds : List Nat) (P : Nat → Prop) (f K : Nat → Int) (t : Nat) (c : Int) (hd m : Nat) (pre : List (Fin (ccn W H hd))) (Y : World) : Prop :=
  ∃ k R, FI W H f K t c hd (fun j => ∃ y, y ∈ pre ∧ y.1 = j) k R ∧ FW w s W H v kb kc tb ds (fun p => p = kb ∨ P p) Y k (hd :: R) ∧ m = R.length + 1 + unk (W + H) k
/-- When the inner loop has said that there is no such colour. -/
def FolX (w : World) (s W H : Nat) (ds : List Nat) (f K : Nat → Int) (t : Nat) (c : Int) {α : Type} (e : Code) (_ : List α) (Y : World) : Prop :=
  e = .ret ∧ NoFol W H f K t c ∧ Y.heap[s + 2]? = some (.cells #[.slice none 0 0] 22 (0, 0)) ∧ Y.heap[s + 3]? = some (.cells #[.bool false] 4 (0, 0)) ∧ Below s w Y ∧ ∀ D, D ∈ ds → Y.heap[D]? = some (.deferred (some []))
theorem folI_own {w : World} {s W H : Nat} {v : Value} {kb kc tb : Nat} {ds : List Nat} {P : Nat → Prop} {f K : Nat → Int} {t : Nat} {c : Int} {hd m B : Nat} (hB : s ≤ B) (hD : ∀ D, D ∈ ds → D < B) : OwnFrom B (FolI w s W H v kb kc tb ds P f K t c hd m) := by
  rintro pre X Y row ⟨k, R, h1, h2, h3⟩ hg hr
  exact ⟨k, R, h1, h2.grown hB hD hg hr, h3⟩
theorem keep_cells {X Y : World} {row : Option Nat} {B p : Nat} {cs : Array Value} {ty : TypeId} {q : Nat × Nat} (h : X.heap[p]? = some (.cells cs ty q)) (hg : X.grownBy Y row) (hr : ∀ r, row = some r → B ≤ r ∧ ∃ o : Obj, X.heap[r]? = some o ∧ o.isCells = false) : Y.heap[p]? = some (.cells cs ty q) :=
  (hg.block p (Array.getElem?_eq_some_iff.1 h).1 fun e => by obtain ⟨_, o, h2, h3⟩ := hr p e.symm; rw [h] at h2; cases h2; cases h3).trans h
theorem folX_own {w : World} {s W H : Nat} {ds : List Nat} {f K : Nat → Int} {t : Nat} {c : Int} {B : Nat} {α : Type} (hB : s ≤ B) (hD : ∀ D, D ∈ ds → D < B) : ∀ e, OwnFrom B (FolX w s W H ds f K t c (α := α) e) := by
  rintro e pre X Y row ⟨h1, h2, h3, h4, h5, h6⟩ hg hr
  refine ⟨h1, h2, keep_cells h3 hg hr, keep_cells h4 hg hr, h5.trans ⟨hg.os, hg.tape, hg.output, hg.size, fun p hp => hg.block p ?_ fun e => ?_⟩, fun D hd => (hg.block D (Array.getElem?_eq_some_iff.1 (h6 D hd)).1 fun e => ?_).trans (h6 D hd)⟩
  · have := (Array.getElem?_eq_some_iff.1 h3).1; omega
  · have := (hr p e.symm).1; omega
  · have h7 := (hr D e.symm).1; have := hD D hd; omega
set_option maxHeartbeats 1600000 in
theorem follow_any (W H : Nat) (b off cap kc : Nat) (A : Option Addr) (f K : Nat → Int) (t : Nat) (c : Int) (w : World) (hW0 : 1 ≤ W) (hW : W ≤ 64) (hH0 : 1 ≤ H) (hH : H ≤ 64) (hb : b < w.heap.size) (hf : ∀ i, i < W * H → w.cell? ⟨b, off + i, none⟩ = some (.int .i64 (f i)))
    (hp : Pos W H f) (hK : L2.Holds w w.heap.size A (W + H) K) (ht : t < W + H) (h0 : K t = -1) (c0 : 0 ≤ c) (c1 : c ≤ 15) (hcl : Closed W H f K) (hrg : ∀ u, u < W + H → K u = -1 ∨ (0 ≤ K u ∧ K u ≤ 15)) :
    Calls Try.prog 81 #[.agg #[.int .i64 (W : Nat), .int .i64 (H : Nat), .slice (some ⟨b, off, none⟩) (W * H) cap], .slice A (W + H) kc, .int .i64 (t : Nat), .int .i64 c] w (FolR W H f K t c w) := by
  have HF := Lib.hid hf
  have HK := Lib.hid hK
  have HP := Lib.hid hp
  have HS := Lib.hid (FS.start hp hcl hrg ht h0 c0 c1)
  clear hf hK hp hcl hrg
  refine (callsIn_wide (n := 4)).1 ?_
  refine callsIn_of_wp_marks Try.func81 rfl trivial ?_ rfl
  simp only [Try.ntmps81, List.size_toArray, List.length_cons, List.length_nil, Nat.reduceAdd, Nat.reduceSub, Array.replicate_succ, Array.replicate_zero, List.push_toArray, List.append_toArray, List.nil_append, List.cons_append]
  gi_upto_region 1 with (fail)
  have B0 := ((((Below.refl w.heap.size w).alloc (Nat.le_refl _) (.cells #[.int .i64 (W : Nat), .int .i64 (H : Nat), .slice (some ⟨b, off, none⟩) (W * H) cap] 24)).alloc (by simp) (.cells #[.slice A (W + H) kc] 22)).alloc (by simp; omega) (.cells #[.slice none 0 0] 22)).alloc (by simp; omega) (.cells #[.bool false] 4)
  have x0 : IBox ((((w.alloc (.cells #[.int .i64 (W : Nat), .int .i64 (H : Nat), .slice (some ⟨b, off, none⟩) (W * H) cap] 24)).alloc (.cells #[.slice A (W + H) kc] 22)).alloc (.cells #[.slice none 0 0] 22)).alloc (.cells #[.bool false] 4)) w.heap.size (W : Nat) (H : Nat) (.slice (some ⟨b, off, none⟩) (W * H) cap) := (((IBox.new w _ _ _).alloc _).alloc _).alloc _
  have x1 : Boxed ((((w.alloc (.cells #[.int .i64 (W : Nat), .int .i64 (H : Nat), .slice (some ⟨b, off, none⟩) (W * H) cap] 24)).alloc (.cells #[.slice A (W + H) kc] 22)).alloc (.cells #[.slice none 0 0] 22)).alloc (.cells #[.bool false] 4)) (w.heap.size + 1) 22 (.slice A (W + H) kc) := by
    have h := ((Boxed.new (w.alloc (.cells #[.int .i64 (W : Nat), .int .i64 (H : Nat), .slice (some ⟨b, off, none⟩) (W * H) cap] 24)) 22 (.slice A (W + H) kc)).alloc (.cells #[.slice none 0 0] 22)).alloc (.cells #[.bool false] 4)
    rwa [World.size_alloc] at h
  have x2 : Boxed ((((w.alloc (.cells #[.int .i64 (W : Nat), .int .i64 (H : Nat), .slice (some ⟨b, off, none⟩) (W * H) cap] 24)).alloc (.cells #[.slice A (W + H) kc] 22)).alloc (.cells #[.slice none 0 0] 22)).alloc (.cells #[.bool false] 4)) (w.heap.size + 2) 22 (.slice none 0 0) := by
    have h := (Boxed.new ((w.alloc (.cells #[.int .i64 (W : Nat), .int .i64 (H : Nat), .slice (some ⟨b, off, none⟩) (W * H) cap] 24)).alloc (.cells #[.slice A (W + H) kc] 22)) 22 (.slice none 0 0)).alloc (.cells #[.bool false] 4)
    rwa [World.size_alloc, World.size_alloc] at h
  have x3 : Boxed ((((w.alloc (.cells #[.int .i64 (W : Nat), .int .i64 (H : Nat), .slice (some ⟨b, off, none⟩) (W * H) cap] 24)).alloc (.cells #[.slice A (W + H) kc] 22)).alloc (.cells #[.slice none 0 0] 22)).alloc (.cells #[.bool false] 4)) (w.heap.size + 3) 4 (.bool false) := by
    have h := Boxed.new (((w.alloc (.cells #[.int .i64 (W : Nat), .int .i64 (H : Nat), .slice (some ⟨b, off, none⟩) (W * H) cap] 24)).alloc (.cells #[.slice A (W + H) kc] 22)).alloc (.cells #[.slice none 0 0] 22)) 4 (.bool false)
    rwa [World.size_alloc, World.size_alloc, World.size_alloc] at h
  have hsz : ((((w.alloc (.cells #[.int .i64 (W : Nat), .int .i64 (H : Nat), .slice (some ⟨b, off, none⟩) (W * H) cap] 24)).alloc (.cells #[.slice A (W + H) kc] 22)).alloc (.cells #[.slice none 0 0] 22)).alloc (.cells #[.bool false] 4)).heap.size = w.heap.size + 4 := by simp
  generalize (((w.alloc (.cells #[.int .i64 (W : Nat), .int .i64 (H : Nat), .slice (some ⟨b, off, none⟩) (W * H) cap] 24)).alloc (.cells #[.slice A (W + H) kc] 22)).alloc (.cells #[.slice none 0 0] 22)).alloc (.cells #[.bool false] 4) = w1 at *
  have X0 := Lib.hid x0
  have X1 := Lib.hid x1
  have X2 := Lib.hid x2
  have X3 := Lib.hid x3
  have HB := Lib.hid B0
  have HSZ := Lib.hid hsz
  have HC := Lib.hid (clone_any A (W + H) kc K w.heap.size w1 (by omega) (by omega) (HK.out.below B0))
  have q1 := x1.cell
  have q2 := x1.frozen
  clear x0 x1 x2 x3 B0 hsz
  gi_wp2_with fail
  refine ⟨trivial, ?_⟩
  gi_at_call 57
  refine (callsIn_wide.2 HC.out).mono ?_
  rintro e w2 ⟨kb, kc', rfl, hkb, hrow, hb2, hcp⟩
  have HCPP := Lib.hid hcp
  clear hcp
  clear q1 q2
  have z1 : Boxed w2 (w.heap.size + 1) 22 (.slice A (W + H) kc) := (hb2.block _ X1.out.lt).trans X1.out
  have z2 := z1.cell
  have z3 := z1.frozen
  have z4 := z1.lt
  have z5 := hrow.cell ht
  have z6 := hrow.free t
  have z7 := hrow.lt
  have y1 : (0 : Int) ≤ (t : Int) := by omega
  have y2 : (t : Int) < ((W + H : Nat) : Int) := by omega
  have y3 : (t : Int) < (W : Int) + (H : Int) := by omega
  have hk4 : w.heap.size + 4 ≤ kb := by rw [← HSZ.out]; exact hkb
  have hkn : kb ≠ w.heap.size + 1 := by omega
  gi_wp2
  have HFW : Hid (FW w w.heap.size W H (.slice (some ⟨b, off, none⟩) (W * H) cap) kb kc' (w2.heap.size + 1) [] (· = kb) ((((w2.setCell ⟨w.heap.size + 1, 0, none⟩ (.slice (some ⟨kb, 0, none⟩) (W + H) kc')).setCell ⟨kb, t, none⟩ (.int .i64 c)).alloc (.cells #[.int .i64 (t : Nat)] 3)).alloc (.cells #[.slice (some ⟨w2.heap.size, 0, none⟩) 1 1] 22)) (up K t c) [t]) := by
    have hb3 := HB.out.trans (hb2.mono HB.out.size)
    have a0 : IBox w2 w.heap.size (W : Nat) (H : Nat) (.slice (some ⟨b, off, none⟩) (W * H) cap) := (hb2.block _ X0.out.lt).trans X0.out
    have a2 : Boxed w2 (w.heap.size + 2) 22 (.slice none 0 0) := (hb2.block _ X2.out.lt).trans X2.out
    have a3 : Boxed w2 (w.heap.size + 3) 4 (.bool false) := (hb2.block _ X3.out.lt).trans X3.out
    have n1 : ∀ {p : Nat} {o : Obj}, w2.heap[p]? = some o → p ≠ w.heap.size + 1 → (w2.setCell ⟨w.heap.size + 1, 0, none⟩ (.slice (some ⟨kb, 0, none⟩) (W + H) kc')).heap[p]? = some o := fun hp hne => (Below.heap_setCell w2 ⟨w.heap.size + 1, 0, none⟩ _ _ hne).trans hp
    have a1 : (w2.setCell ⟨w.heap.size + 1, 0, none⟩ (.slice (some ⟨kb, 0, none⟩) (W + H) kc')).heap[w.heap.size + 1]? = some (.cells #[.slice (some ⟨kb, 0, none⟩) (W + H) kc'] 22 (0, 0)) := by
      have h : w2.heap[w.heap.size + 1]? = _ := z1
      simp [World.setCell, Array.getElem?_modify, h]
    have b0 := n1 a0 (by omega)
    have b2 := n1 a2 (by omega)
    have b3 := n1 a3 (by omega)
    have br := hrow.far (p := ⟨w.heap.size + 1, 0, none⟩) hkn (.slice (some ⟨kb, 0, none⟩) (W + H) kc')
    have hsz3 : (w2.setCell ⟨w.heap.size + 1, 0, none⟩ (.slice (some ⟨kb, 0, none⟩) (W + H) kc')).heap.size = w2.heap.size := by simp
    have hb4 := hb3.setCell (p := ⟨w.heap.size + 1, 0, none⟩) (by show w.heap.size ≤ w.heap.size + 1; omega) (.slice (some ⟨kb, 0, none⟩) (W + H) kc')
    rw [← hsz3]
    generalize w2.setCell ⟨w.heap.size + 1, 0, none⟩ (.slice (some ⟨kb, 0, none⟩) (W + H) kc') = w3 at *
    have n2 : ∀ {p : Nat} {o : Obj}, w3.heap[p]? = some o → p ≠ kb → (w3.setCell ⟨kb, t, none⟩ (.int .i64 c)).heap[p]? = some o := fun hp hne => (Below.heap_setCell w3 ⟨kb, t, none⟩ _ _ hne).trans hp
    have c0' := n2 b0 (by omega)
    have c1' := n2 a1 (by omega)
    have c2' := n2 b2 (by omega)
    have c3' := n2 b3 (by omega)
    have cr := br.set_ t c
    have hb5 := hb4.setCell (p := ⟨kb, t, none⟩) (by show w.heap.size ≤ kb; omega) (.int .i64 c)
    have hsz4 : (w3.setCell ⟨kb, t, none⟩ (.int .i64 c)).heap.size = w3.heap.size := by simp
    have hkl : kb < w3.heap.size := br.lt
    rw [← hsz4] at hkl ⊢
    generalize w3.setCell ⟨kb, t, none⟩ (.int .i64 c) = w4 at *
    have hn : ∀ {p : Nat} {o : Obj}, w4.heap[p]? = some o → ((w4.alloc (.cells #[.int .i64 (t : Nat)] 3)).alloc (.cells #[.slice (some ⟨w4.heap.size, 0, none⟩) 1 1] 22)).heap[p]? = some o := fun hp => by
      have hl := (Array.getElem?_eq_some_iff.1 hp).1
      exact (Below.heap_alloc _ _ _ (by simp; omega)).trans ((Below.heap_alloc w4 _ _ hl).trans hp)
    have hs4 : w.heap.size ≤ w4.heap.size := hb5.size
    refine Lib.hid ⟨hn c0', hn c1', ⟨_, hn c2'⟩, ⟨_, hn c3'⟩, (cr.alloc _).alloc _, by omega, ⟨.slice (some ⟨w4.heap.size, 0, none⟩) 1 1, ?_, w4.heap.size, 0, 1, #[.int .i64 (t : Nat)], rfl, by omega, (by show ¬ w4.heap.size = kb; omega), ?_, Nat.le_refl _, Nat.le_refl _, fun i hi => ?_⟩, by omega, rfl, (hb5.alloc hs4 _).alloc (by simp; omega) _, fun D hD => (by cases hD)⟩
    · have h := World.alloc_heap_new (w4.alloc (.cells #[.int .i64 (t : Nat)] 3)) (.cells #[.slice (some ⟨w4.heap.size, 0, none⟩) 1 1] 22)
      rwa [World.size_alloc] at h
    · exact (Below.heap_alloc _ _ _ (by simp)).trans (World.alloc_heap_new w4 _)
    · obtain rfl : i = 0 := by simp at hi; exact hi
      rfl
  clear HK HC z1 z2 z3 z4 z5 z6 z7 y1 y2 y3 hkn hrow hb2 hkb HSZ X0 X1 X2 X3 HB
  generalize (((w2.setCell ⟨w.heap.size + 1, 0, none⟩ (.slice (some ⟨kb, 0, none⟩) (W + H) kc')).setCell ⟨kb, t, none⟩ (.int .i64 c)).alloc (.cells #[.int .i64 (t : Nat)] 3)).alloc (.cells #[.slice (some ⟨w2.heap.size, 0, none⟩) 1 1] 22) = wL at *
  obtain ⟨q, hq⟩ : ∃ q, w2.heap.size = q := ⟨_, rfl⟩
  rw [hq] at HFW ⊢
  clear hq
  obtain ⟨tb, htb⟩ : ∃ x, q + 1 = x := ⟨_, rfl⟩
  rw [htb] at HFW ⊢
  clear htb
  obtain ⟨s, hs⟩ : ∃ s, w.heap.size = s := ⟨_, rfl⟩
  rw [hs] at HFW hb hk4 ⊢
  have HSS := Lib.hid hs
  clear hs
  refine wpIn_loop_ghost_k (LI w s W H b off cap kc kb kc' q t A c f K) ([t].length + unk (W + H) (up K t c)) ⟨tb, [], up K t c, [t], _, _, _, _, _, _, _, _, _, _, _, rfl, Lib.hid ⟨List.nodup_nil, fun D h => by cases h⟩, HS, HFW, Lib.hid rfl, Lib.hid (by have := unk_le (W + H) (up K t c); simp; omega)⟩ ?_
  clear HFW HS
  rintro m a X ⟨tb, ds, k, L, u21, u22, u23, u24, u25, u26, u27, u28, u29, u30, u62, rfl, HND, HFS, HFW, HM, HM1⟩ J KK hJJ hKK
  cases L with
  | nil =>
    obtain ⟨xm, xk, ⟨v8, h8⟩, ⟨v9, h9⟩, row, kb0, ⟨vt, htd, g, o, tcap, cur, rfl, hg, hgk, hcur, hcap, hsz, hcl⟩, tb0, bk, bel, dd⟩ := HFW.out
    have k1 : X.cell? ⟨s + 1, 0, none⟩ = some (.slice (some ⟨kb, 0, none⟩) (W + H) kc') := (Lib.cell_of_heap xk 0).trans rfl
    have k3 : X.cell? ⟨tb, 0, none⟩ = some (.slice (some ⟨g, o, none⟩) 0 tcap) := (Lib.cell_of_heap htd 0).trans rfl
    have j1 : X.cell? ⟨s + 2, 0, none⟩ = some v8 := (Lib.cell_of_heap h8 0).trans rfl
    have j2 : X.frozen? ⟨s + 2, 0, none⟩ = false := Lib.frozen_of_heap h8 0
    have j3 : X.cell? ⟨s + 3, 0, none⟩ = some v9 := (Lib.cell_of_heap h9 0).trans rfl
    have j4 : X.frozen? ⟨s + 3, 0, none⟩ = false := Lib.frozen_of_heap h9 0
    have H8 := Lib.hid h8
    have H9 := Lib.hid h9
    have HROW := Lib.hid row
    have HBL := Lib.hid bel
    have HDD := Lib.hid dd
    have hks : s + 2 ≠ kb ∧ s + 3 ≠ kb := by omega
    clear xm xk h8 h9 row htd hcur hcl bel dd hsz
    gi_wp2
    show LeavesInM Fence.wide 4 Try.prog Try.f81 _ (FolR W H f K t c w) (ds.map mkD) .returning _
    have n1 : ∀ {p : Nat} {ob : Obj}, X.heap[p]? = some ob → p ≠ s + 2 → p ≠ s + 3 → ((X.setCell ⟨s + 2, 0, none⟩ (.slice (some ⟨kb, 0, none⟩) (W + H) kc')).setCell ⟨s + 3, 0, none⟩ (.bool true)).heap[p]? = some ob := fun hp h1 h2 => (Below.heap_setCell _ ⟨s + 3, 0, none⟩ _ _ h2).trans ((Below.heap_setCell X ⟨s + 2, 0, none⟩ _ _ h1).trans hp)
    have m8 : ((X.setCell ⟨s + 2, 0, none⟩ (.slice (some ⟨kb, 0, none⟩) (W + H) kc')).setCell ⟨s + 3, 0, none⟩ (.bool true)).heap[s + 2]? = some (.cells #[.slice (some ⟨kb, 0, none⟩) (W + H) kc'] 22 (0, 0)) := by
      have h := H8.out
      have h2 : (X.setCell ⟨s + 2, 0, none⟩ (.slice (some ⟨kb, 0, none⟩) (W + H) kc')).heap[s + 2]? = some (.cells #[.slice (some ⟨kb, 0, none⟩) (W + H) kc'] 22 (0, 0)) := by simp [World.setCell, Array.getElem?_modify, h]
      exact (Below.heap_setCell _ ⟨s + 3, 0, none⟩ _ _ (by show s + 2 ≠ s + 3; omega)).trans h2
    have m9 : ((X.setCell ⟨s + 2, 0, none⟩ (.slice (some ⟨kb, 0, none⟩) (W + H) kc')).setCell ⟨s + 3, 0, none⟩ (.bool true)).heap[s + 3]? = some (.cells #[.bool true] 4 (0, 0)) := by
      have h : (X.setCell ⟨s + 2, 0, none⟩ (.slice (some ⟨kb, 0, none⟩) (W + H) kc')).heap[s + 3]? = _ := (Below.heap_setCell X ⟨s + 2, 0, none⟩ _ _ (by show s + 3 ≠ s + 2; omega)).trans H9.out
      simp [World.setCell, Array.getElem?_modify, h] at h ⊢
      simp [h]
    have mr := (HROW.out.far (p := ⟨s + 2, 0, none⟩) hks.1.symm (.slice (some ⟨kb, 0, none⟩) (W + H) kc')).far (p := ⟨s + 3, 0, none⟩) hks.2.symm (.bool true)
    have mb := (HBL.out.setCell (p := ⟨s + 2, 0, none⟩) (by show s ≤ s + 2; omega) (.slice (some ⟨kb, 0, none⟩) (W + H) kc')).setCell (p := ⟨s + 3, 0, none⟩) (by show s ≤ s + 3; omega) (.bool true)
    have md : ∀ D, D ∈ ds → ((X.setCell ⟨s + 2, 0, none⟩ (.slice (some ⟨kb, 0, none⟩) (W + H) kc')).setCell ⟨s + 3, 0, none⟩ (.bool true)).heap[D]? = some (.deferred (some [])) := fun D hD => n1 (HDD.out D hD) (fun e => by have h1 := HDD.out D hD; rw [e, H8.out] at h1; cases h1) (fun e => by have h1 := HDD.out D hD; rw [e, H9.out] at h1; cases h1)
    clear n1
    generalize (X.setCell ⟨s + 2, 0, none⟩ (.slice (some ⟨kb, 0, none⟩) (W + H) kc')).setCell ⟨s + 3, 0, none⟩ (.bool true) = Y at *
    refine leaves_marks ds Y HND.out.1 md (fun Z hZ => ?_)
    have h2 := (hZ.same (s + 2) (fun hm => by have := md _ hm; rw [m8] at this; cases this)).trans m8
    have h3 := (hZ.same (s + 3) (fun hm => by have := md _ hm; rw [m9] at this; cases this)).trans m9
    have p0 : Z.cell? ⟨s + 2, 0, none⟩ = some (.slice (some ⟨kb, 0, none⟩) (W + H) kc') := (Lib.cell_of_heap h2 0).trans rfl
    have p1 : Z.cell? ⟨s + 3, 0, none⟩ = some (.bool true) := (Lib.cell_of_heap h3 0).trans rfl
    refine ⟨.tuple #[.slice (some ⟨kb, 0, none⟩) (W + H) kc', .bool true], by simp [results, Try.results81, go_sem, p0, p1], .inl ⟨k, kb, kc', rfl, HFS.out.fol, ?_, ?_, HCPP.out⟩⟩
    · obtain ⟨cs, hr, hr2⟩ := mr
      exact ⟨cs, (hZ.same kb (fun hm => by have := md _ hm; rw [hr] at this; cases this)).trans hr, hr2⟩
    · rw [HSS.out]
      exact mb.trans (hZ.bel fun D' hD' => HND.out.2 D' hD')
  | cons hd R =>
  obtain ⟨xm, xk, x8, x9, row, kb0, ⟨vt, htd, g, o, tcap, cur, rfl, hg, hgk, hcur, hcap, hsz, hcl⟩, tb0, bk, bel, dd⟩ := HFW.out
  have hu := HFS.out.lst hd (by simp)
  have e0 := hcl 0 (by simp)
  rw [lf_zero, Nat.add_zero] at e0
  have HFU := Lib.hid (fun Y (hY : Below X.heap.size X Y) => across_any W H b off cap f hd Y hW0 hW hH0 hH hu.1 (Nat.lt_of_lt_of_le (Nat.lt_trans hb xm.lt) hY.size) (fun i hi => (hY.cell (p := ⟨b, off + i, none⟩) (Nat.lt_trans hb xm.lt)).trans ((bel.cell (p := ⟨b, off + i, none⟩) hb).trans (HF.out i hi))))
  obtain ⟨n, hn⟩ : ∃ n, R.length = n := ⟨_, rfl⟩
  rw [List.length_cons, hn] at htd hcap
  have HN := Lib.hid hn
  have HCL := Lib.hid hcl
  have s0 := xm.c0
  have s1 := xm.c1
  have s2 := xm.c2
  have s3 : X.cell? ⟨tb, 0, none⟩ = some (.slice (some ⟨g, o, none⟩) (n + 1) tcap) := (Lib.cell_of_heap htd 0).trans rfl
  have s4 : X.cell? ⟨g, o, none⟩ = some (.int .i64 (hd : Nat)) := by rw [Lib.cell_of_heap hcur]; exact e0
  have y1 : (0 : Int) < ((n + 1 : Nat) : Int) := by omega
  have y2 : (0 : Int) < (n : Int) + 1 := by omega
  have HSZ := Lib.hid hsz
  have HCUR := Lib.hid hcur
  have HTD := Lib.hid htd
  have HXL := Lib.hid (show s < X.heap.size from xm.lt)
  clear xm xk x8 x9 row bel dd hsz hcur htd hcl hn
  gi_wp2
  have hSw : (fun u : World => u.cell? ⟨s, 0, none⟩ = some (.int .i64 (W : Nat)) ∧ u.cell? ⟨s, 1, none⟩ = some (.int .i64 (H : Nat)) ∧ u.cell? ⟨s, 2, none⟩ = some (.slice (some ⟨b, off, none⟩) (W * H) cap) ∧ u.cell? ⟨tb, 0, none⟩ = some (.slice (some ⟨g, o, none⟩) (n + 1) tcap) ∧ u.cell? ⟨g, o, none⟩ = some (.int .i64 (hd : Nat))) X.drew := ⟨s0, s1, s2, s3, s4⟩
  clear s0 s1 s2 s3 s4
  refine normal_only ?_
  refine wpIn_region_any (by kernel_rfl) ?_
  try (change wpAnyIn _ _ _ _ _ _ _ _ _ (World.drew _))
  refine anyD_in (S := fun u : World => u.cell? ⟨s, 0, none⟩ = some (.int .i64 (W : Nat)) ∧ u.cell? ⟨s, 1, none⟩ = some (.int .i64 (H : Nat)) ∧ u.cell? ⟨s, 2, none⟩ = some (.slice (some ⟨b, off, none⟩) (W * H) cap) ∧ u.cell? ⟨tb, 0, none⟩ = some (.slice (some ⟨g, o, none⟩) (n + 1) tcap) ∧ u.cell? ⟨g, o, none⟩ = some (.int .i64 (hd : Nat))) (D := [4]) _ _ _ _ ?_
  refine anyD_take [4] (i := 0) (v := ?_) rfl rfl (by kernel_rfl) (by kernel_rfl) (by kernel_rfl) (by kernel_rfl) (by kernel_rfl) (by kernel_rfl) (fun _ _ _ h => by cases h.1) ⟨Or.inl ⟨by kernel_rfl, ?_⟩, fun _ => rfl⟩ hSw ?_
  rotate_left
  · (intro u hu; obtain ⟨h0, h1, h2, h3, h4⟩ := hu; first | (go_simp; done) | (go_simp; with_reducible rfl))
  try simp only [Act.put, List.setIfInBounds_toArray, List.set_cons_zero, List.set_cons_succ]
  refine anyD_take [2, 3, 4] (i := 1) (v := ?_) rfl rfl (by kernel_rfl) (by kernel_rfl) (by kernel_rfl) (by kernel_rfl) (by kernel_rfl) (by kernel_rfl) (fun _ _ _ h => by cases h.1) ⟨Or.inl ⟨by kernel_rfl, ?_⟩, fun _ => rfl⟩ hSw ?_
  rotate_left
  · (intro u hu; obtain ⟨h0, h1, h2, h3, h4⟩ := hu; first | (go_simp; done) | (go_simp; with_reducible rfl))
  try simp only [Act.put, List.setIfInBounds_toArray, List.set_cons_zero, List.set_cons_succ]
  refine anyD_take [3, 4] (i := 2) (v := ?_) rfl rfl (by kernel_rfl) (by kernel_rfl) (by kernel_rfl) (by kernel_rfl) (by kernel_rfl) (by kernel_rfl) (fun _ _ _ h => by cases h.1) ⟨Or.inl ⟨by kernel_rfl, ?_⟩, fun _ => rfl⟩ hSw ?_
  rotate_left
  · (intro u hu; obtain ⟨h0, h1, h2, h3, h4⟩ := hu; first | (go_simp; done) | (go_simp; with_reducible rfl))
  try simp only [Act.put, List.setIfInBounds_toArray, List.set_cons_zero, List.set_cons_succ]
  refine anyD_take [4] (i := 3) (v := ?_) rfl rfl (by kernel_rfl) (by kernel_rfl) (by kernel_rfl) (by kernel_rfl) (by kernel_rfl) (by kernel_rfl) (fun _ _ _ h => by cases h.1) ⟨Or.inl ⟨by kernel_rfl, ?_⟩, fun _ => rfl⟩ hSw ?_
  rotate_left
  · (intro u hu; obtain ⟨h0, h1, h2, h3, h4⟩ := hu; first | (go_simp; done) | (go_simp; with_reducible rfl))
  try simp only [Act.put, List.setIfInBounds_toArray, List.set_cons_zero, List.set_cons_succ]
  refine anyD_ofb (by kernel_rfl) ?_
  refine wpAnyIn_ready (rs := [4]) (by kernel_rfl) (by simp) ?_
  refine AllReadyIn.cons rfl (fun K2 hK2 => ?_) AllReadyIn.nil
  go_simp
  refine ⟨trivial, ?_⟩
  gi_at_call 86
  refine (callsIn_wide.2 (HFU.out _ (Below.refl _ _).drew)).mono ?_
  rintro e X5 ⟨c8, c5, c2, c7, c6, fi, ce, st, rfl, hge, hlt5, hAC, hfi, hst, hbd, hcth, hb5⟩
  try (refine hK2 _ _ ?_; clear hK2 K2)
  refine wpAnyIn_done (by kernel_rfl) ?_ _
  refine ⟨rfl, ?_⟩
  gi_wp2
  obtain ⟨gg, hgg⟩ : ∃ z, (fun i => f (ccl W hd i)) = z := ⟨_, rfl⟩
  rw [hgg] at hAC
  have HGG := Lib.hid (fun i => (congrFun hgg i).symm)
  clear hgg
  have hge' : X.heap.size ≤ c8 ∧ X.heap.size ≤ c5 ∧ X.heap.size ≤ c2 ∧ X.heap.size ≤ c7 ∧ X.heap.size ≤ c6 := hge
  clear hge
  have hB5 : Below X.heap.size X X5 := (Below.refl X.heap.size X).drew.trans hb5
  obtain ⟨P, hP⟩ : ∃ P : Nat → Prop, P = fun p => p = c8 ∨ p = c5 ∨ p = c2 ∨ p = c7 ∨ p = c6 ∨ p = b := ⟨_, rfl⟩
  have hs5 := hB5.size
  have hxl := HXL.out
  have hn0 : ∀ p, P p → p < X5.heap.size := by rw [hP]; rintro p (rfl | rfl | rfl | rfl | rfl | rfl) <;> omega
  have hp8 : P c8 := by rw [hP]; exact .inl rfl
  have hp5 : P c5 := by rw [hP]; exact .inr (.inl rfl)
  have hp2 : P c2 := by rw [hP]; exact .inr (.inr (.inl rfl))
  have hp7 : P c7 := by rw [hP]; exact .inr (.inr (.inr (.inl rfl)))
  have hp6 : P c6 := by rw [hP]; exact .inr (.inr (.inr (.inr (.inl rfl))))
  have hpb : P b := by rw [hP]; exact .inr (.inr (.inr (.inr (.inr rfl))))
  have hkbX : kb < X.heap.size := HFW.out.row.lt
  have htbX : tb < X.heap.size := (Array.getElem?_eq_some_iff.1 HTD.out).1
  have hPk : ∀ p, P p → p ≠ kb ∧ p ≠ tb ∧ p ≠ s + 2 ∧ p ≠ s + 3 := by
    obtain ⟨v9, h9⟩ := HFW.out.x9
    have h10 := (Array.getElem?_eq_some_iff.1 h9).1
    rw [hP]; rintro p (rfl | rfl | rfl | rfl | rfl | rfl) <;> omega
  have HF5 := Lib.hid ((HFW.out.bad (Bad' := fun p => p = kb ∨ P p) (.inl rfl) (fun g h1 h2 h3 => by
    rw [hP]
    rintro (h | h | h | h | h | h | h)
    · exact h3 h
    all_goals omega)).below hB5)
  have HPK := Lib.hid hPk
  have HM2 := Lib.hid (show m = R.length + 1 + unk (W + H) k from HM.out)
  have hds : ∀ D, D ∈ ds → D < X5.heap.size := fun D hD => Nat.lt_of_lt_of_le (Array.getElem?_eq_some_iff.1 (HFW.out.dd D hD)).1 hs5
  have hsx : s ≤ X5.heap.size := by omega
  have hM64 : ccn W H hd ≤ 64 := by unfold ccn; split <;> omega
  have hNC : W * H ≤ 4096 := Nat.mul_le_mul hW hH
  have HDS := Lib.hid hds
  have HC5 := Lib.hid hcth
  clear hPk hB5 hge' hlt5 hb5 hP hcth
  refine wpIn_rangeFunc_ownF (F := Fence.wide) rfl (by omega) (gf := 89) (lb := #[.pointer (some ⟨c8, 0, none⟩), .pointer (some ⟨c5, 0, none⟩), .pointer (some ⟨c2, 0, none⟩), .pointer (some ⟨c7, 0, none⟩), .pointer (some ⟨c6, 0, none⟩)]) rfl trivial (enters_of Try.func89 (by kernel_rfl) rfl)
    (acr_stops Fence.wide 3 trivial rfl (by omega) P c8 c5 c2 c7 c6 b off (ccn W H hd) fi ce st (W * H) cap gg hM64 hfi hNC hst hbd hp8 hp5 hp2 hp7 hp6 hpb X5 hn0 hAC)
    (fun h k => KB.t h k) (fun X l o o' hl h h1 h2 => KB.b (w := X5) hn0 X l o o' hl h h1 h2) (Below.refl _ _) (fun _ => rfl)
    (fun pre Y => FolI w s W H (.slice (some ⟨b, off, none⟩) (W * H) cap) kb kc' tb ds P f K t c hd m pre Y ∧ X5.heap.size ≤ Y.heap.size) (FolX w s W H ds f K t c) ((folI_own hsx hds).and (fun _ _ _ _ h hg _ => Nat.le_trans h hg.size)) (folX_own hsx hds)
    ⟨⟨k, R, HFS.out.open_ (fun j ⟨y, hy, _⟩ => by cases hy), HF5.out, HM2.out⟩, Nat.le_refl _⟩
    (fun x => { tmps := (.agg #[.int .i64 (W : Nat), .int .i64 (H : Nat), .slice (some ⟨b, off, none⟩) (W * H) cap] :: .slice A (W + H) kc :: .int .i64 (t : Nat) :: .int .i64 c :: .pointer (some ⟨s, 0, none⟩) :: .pointer (some ⟨s + 1, 0, none⟩) :: undef :: undef :: .pointer (some ⟨s + 2, 0, none⟩) :: .pointer (some ⟨s + 3, 0, none⟩) :: .pointer (some ⟨tb, 0, none⟩) :: .int .i64 ((fi : Int) + (x.1 : Int)) :: .int .i64 (gg x.1) :: .slice A (W + H) kc :: .slice (some ⟨kb, 0, none⟩) (W + H) kc' :: .slice (some ⟨kb, 0, none⟩) (W + H) kc' :: .int .i64 (t : Nat) :: .int .i64 c :: .pointer (some ⟨kb, t, none⟩) :: .int .i64 (t : Nat) :: .slice (some ⟨q, 0, none⟩) 1 1 :: .slice (some ⟨g, o, none⟩) (n + 1) tcap :: .int .i64 ((n : Int) + 1) :: .bool true :: u24 :: u25 :: .agg #[.int .i64 (W : Nat), .int .i64 (H : Nat), .slice (some ⟨b, off, none⟩) (W * H) cap] :: .slice (some ⟨g, o, none⟩) (n + 1) tcap :: .pointer (some ⟨g, o, none⟩) :: .int .i64 (hd : Nat) :: .func (.func 89) #[] #[.pointer (some ⟨c8, 0, none⟩), .pointer (some ⟨c5, 0, none⟩), .pointer (some ⟨c2, 0, none⟩), .pointer (some ⟨c7, 0, none⟩), .pointer (some ⟨c6, 0, none⟩)] :: .int .i64 ((fi : Int) + (x.1 : Int)) :: .int .i64 (gg x.1) :: undef :: undef :: undef :: undef :: undef :: undef :: undef :: undef :: undef :: undef :: undef :: undef :: undef :: undef :: undef :: undef :: undef :: undef :: undef :: undef :: undef :: undef :: undef :: undef :: undef :: undef :: undef :: undef :: undef :: u62 :: undef :: []).toArray, defers := [] }) ?assign ?body ?done ?stop
  case assign =>
    intro l x W K hK
    gi_wp2
    exact hK
  case body =>
    rintro l pre x Y ⟨⟨k2, R2, HI0, hF, hm2⟩, HLY⟩ hlt
    have HI := Lib.hid HI0
    have HFY := Lib.hid hF
    have HMM := Lib.hid hm2
    obtain ⟨xm, xk, x8, x9, row, kb0, ⟨vt2, htd, g2, o2, cap2, cur2, rfl, hg2, hgb, hcur, hcap, hsz, hcl⟩, tb0, bk, bel, dd⟩ := hF
    have hx1 : cth W hd x.1 < W + H := cth_lt HI0.lt.1 x.2
    have hxn : cth W hd x.1 ≠ hd := cth_ne HI0.lt.1 x.2
    have hxo : (fi : Int) + (x.1 : Int) = ((cth W hd x.1 : Nat) : Int) := by have := HC5.out x.1 x.2; omega
    have hgv : gg x.1 = f (ccl W hd x.1) := HGG.out x.1
    have hhd := HI0.lt.1
    have e0 := hcl 0 (by simp)
    rw [lf_zero, Nat.add_zero] at e0
    obtain ⟨n2, hn2⟩ : ∃ n, R2.length = n := ⟨_, rfl⟩
    rw [List.length_cons, hn2] at htd hcap
    have k1 : Y.cell? ⟨s + 1, 0, none⟩ = some (.slice (some ⟨kb, 0, none⟩) (W + H) kc') := (Lib.cell_of_heap xk 0).trans rfl
    have k3 : Y.cell? ⟨tb, 0, none⟩ = some (.slice (some ⟨g2, o2, none⟩) (n2 + 1) cap2) := (Lib.cell_of_heap htd 0).trans rfl
    have k4 : Y.cell? ⟨g2, o2, none⟩ = some (.int .i64 (hd : Nat)) := by rw [Lib.cell_of_heap hcur]; exact e0
    have k5 := row.cell hhd
    have k6 := row.cell hx1
    have k7 := row.free (cth W hd x.1)
    have k8 : Y.frozen? ⟨tb, 0, none⟩ = false := Lib.frozen_of_heap htd 0
    have HTY := Lib.hid htd
    have HLP := Lib.hid (fun p (hp : P p) => (show p < Y.heap.size from Nat.lt_of_lt_of_le (hn0 p hp) HLY))
    have HTQ : Hid (TQ Y (fun p => p = kb ∨ P p) (s + 4) (.slice (some ⟨g2, o2, none⟩) (n2 + 1) cap2) (hd :: R2)) := Lib.hid ⟨g2, o2, cap2, cur2, by rw [List.length_cons, hn2], hg2, hgb, hcur, by rw [List.length_cons, hn2]; exact hcap, hsz, hcl⟩
    have HNN := Lib.hid hn2
    have hkbl := row.lt
    obtain ⟨oth, hoth⟩ : ∃ z, cth W hd x.1 = z := ⟨_, rfl⟩
    obtain ⟨mv, hmv⟩ : ∃ z, gg x.1 = z := ⟨_, rfl⟩
    obtain ⟨kh, hkh⟩ : ∃ z, k2 hd = z := ⟨_, rfl⟩
    rw [hoth] at k6 k7 hx1 hxn hxo
    obtain ⟨ko, hko⟩ : ∃ z, k2 oth = z := ⟨_, rfl⟩
    rw [hkh] at k5
    rw [hko] at k6
    rw [hmv] at hgv
    have y3 : (hd : Int) < ((W + H : Nat) : Int) := by omega
    have y4 : (oth : Int) < ((W + H : Nat) : Int) := by omega
    have y5 : (hd : Int) < (W : Int) + (H : Int) := by omega
    have y6 : (oth : Int) < (W : Int) + (H : Int) := by omega
    have y7 : (0 : Int) ≤ (oth : Int) := by omega
    have y8 : (0 : Int) ≤ (hd : Int) := by omega
    have y9 : (0 : Int) < (n2 : Int) + 1 := by omega
    have HX1 := Lib.hid hx1
    have HE := Lib.hid (show (f (ccl W hd x.1) = mv ∧ cth W hd x.1 = oth) from ⟨hgv.symm, hoth⟩)
    have HKH := Lib.hid hkh
    have HKO := Lib.hid hko
    have HIMP := Lib.hid (fun (k : Nat → Int) (R : List Nat) (h : FI W H f K t c hd (fun j => (∃ y, y ∈ pre ∧ y.1 = j) ∨ j = x.1) k R) => h.imp (D' := fun j => ∃ y, y ∈ pre ++ [x] ∧ y.1 = j) (fun j ⟨y, hy, e⟩ => by
      rcases List.mem_append.1 hy with h1 | h1
      · exact .inl ⟨y, h1, e⟩
      · have h2 : y = x := by simpa using h1
        exact .inr (by rw [← e, h2])))
    rw [hxo, hmv]
    clear HI0 hm2 xm xk x8 x9 row hg2 hgb hcur hcap hsz hcl bk bel dd e0 hn2 hgv hoth hmv hkh hko hxo htd
    have hSw : (fun u : World => u.cell? ⟨s + 1, 0, none⟩ = some (.slice (some ⟨kb, 0, none⟩) (W + H) kc') ∧ u.cell? ⟨tb, 0, none⟩ = some (.slice (some ⟨g2, o2, none⟩) (n2 + 1) cap2) ∧ u.cell? ⟨g2, o2, none⟩ = some (.int .i64 (hd : Nat)) ∧ u.cell? ⟨kb, hd, none⟩ = some (.int .i64 kh) ∧ u.cell? ⟨kb, oth, none⟩ = some (.int .i64 ko)) Y.drew := ⟨k1, k3, k4, k5, k6⟩
    by_cases q1 : mv = kh
    · have y1 : (mv == kh) = true := by simp [q1]
      have y2 : (mv = kh) = True := by simp [q1]
      have HG := Lib.hid (HIMP.out _ _ (HI.out.skip x.2 (.inl (by rw [HE.out.1, HKH.out]; exact q1))))
      clear q1
      gi_wp2
      refine normal_only ?_
      refine wpIn_region_any (by kernel_rfl) ?_
      try (change wpAnyIn _ _ _ _ _ _ _ _ _ (World.drew _))
      refine anyD_in (S := fun u : World => u.cell? ⟨s + 1, 0, none⟩ = some (.slice (some ⟨kb, 0, none⟩) (W + H) kc') ∧ u.cell? ⟨tb, 0, none⟩ = some (.slice (some ⟨g2, o2, none⟩) (n2 + 1) cap2) ∧ u.cell? ⟨g2, o2, none⟩ = some (.int .i64 (hd : Nat)) ∧ u.cell? ⟨kb, hd, none⟩ = some (.int .i64 kh) ∧ u.cell? ⟨kb, oth, none⟩ = some (.int .i64 ko)) (D := []) _ _ _ _ ?_
      refine anyD_takeR [] (i := 0) (v := ?_) (by kernel_rfl) rfl (by kernel_rfl) (by kernel_rfl) (by kernel_rfl) (by kernel_rfl) (by kernel_rfl) (by kernel_rfl) (fun _ _ _ h => by cases h.1) ⟨Or.inl ⟨by kernel_rfl, ?_⟩, fun _ => rfl⟩ hSw ?_
      rotate_left
      · (intro u hu; obtain ⟨h0, h1, h2, h3, h4⟩ := hu; first | (go_simp; done) | (go_simp; with_reducible rfl))
      try simp only [Act.put, List.getElem_toArray, List.getElem_cons_succ, List.getElem_cons_zero, List.setIfInBounds_toArray, List.set_cons_zero, List.set_cons_succ]
      refine anyD_takeR [] (i := 1) (v := ?_) (by kernel_rfl) rfl (by kernel_rfl) (by kernel_rfl) (by kernel_rfl) (by kernel_rfl) (by kernel_rfl) (by kernel_rfl) (fun _ _ _ h => by cases h.1) ⟨Or.inl ⟨by kernel_rfl, ?_⟩, fun _ => rfl⟩ hSw ?_
      rotate_left
      · (intro u hu; obtain ⟨h0, h1, h2, h3, h4⟩ := hu; first | (go_simp; done) | (go_simp; with_reducible rfl))
      try simp only [Act.put, List.getElem_toArray, List.getElem_cons_succ, List.getElem_cons_zero, List.setIfInBounds_toArray, List.set_cons_zero, List.set_cons_succ]
      refine anyD_takeR [] (i := 2) (v := ?_) (by kernel_rfl) rfl (by kernel_rfl) (by kernel_rfl) (by kernel_rfl) (by kernel_rfl) (by kernel_rfl) (by kernel_rfl) (fun _ _ _ h => by cases h.1) ⟨Or.inl ⟨by kernel_rfl, ?_⟩, fun _ => rfl⟩ hSw ?_
      rotate_left
      · (intro u hu; obtain ⟨h0, h1, h2, h3, h4⟩ := hu; first | (go_simp; done) | (go_simp; with_reducible rfl))
      try simp only [Act.put, List.getElem_toArray, List.getElem_cons_succ, List.getElem_cons_zero, List.setIfInBounds_toArray, List.set_cons_zero, List.set_cons_succ]
      refine anyD_takeR [] (i := 3) (v := ?_) (by kernel_rfl) rfl (by kernel_rfl) (by kernel_rfl) (by kernel_rfl) (by kernel_rfl) (by kernel_rfl) (by kernel_rfl) (fun _ _ _ h => by cases h.1) ⟨Or.inl ⟨by kernel_rfl, ?_⟩, fun _ => rfl⟩ hSw ?_
      rotate_left
      · (intro u hu; obtain ⟨h0, h1, h2, h3, h4⟩ := hu; first | (go_simp; done) | (go_simp; with_reducible rfl))
      try simp only [Act.put, List.getElem_toArray, List.getElem_cons_succ, List.getElem_cons_zero, List.setIfInBounds_toArray, List.set_cons_zero, List.set_cons_succ]
      refine anyD_takeR [] (i := 4) (v := ?_) (by kernel_rfl) rfl (by kernel_rfl) (by kernel_rfl) (by kernel_rfl) (by kernel_rfl) (by kernel_rfl) (by kernel_rfl) (fun _ _ _ h => by cases h.1) ⟨Or.inl ⟨by kernel_rfl, ?_⟩, fun _ => rfl⟩ hSw ?_
      rotate_left
      · (intro u hu; obtain ⟨h0, h1, h2, h3, h4⟩ := hu; first | (go_simp; done) | (go_simp; with_reducible rfl))
      try simp only [Act.put, List.getElem_toArray, List.getElem_cons_succ, List.getElem_cons_zero, List.setIfInBounds_toArray, List.set_cons_zero, List.set_cons_succ]
      refine anyD_takeR [] (i := 5) (v := ?_) (by kernel_rfl) rfl (by kernel_rfl) (by kernel_rfl) (by kernel_rfl) (by kernel_rfl) (by kernel_rfl) (by kernel_rfl) (fun _ _ _ h => by cases h.1) ⟨Or.inl ⟨by kernel_rfl, ?_⟩, fun _ => rfl⟩ hSw ?_
      rotate_left
      · (intro u hu; obtain ⟨h0, h1, h2, h3, h4⟩ := hu; first | (go_simp; done) | (go_simp; with_reducible rfl))
      try simp only [Act.put, List.getElem_toArray, List.getElem_cons_succ, List.getElem_cons_zero, List.setIfInBounds_toArray, List.set_cons_zero, List.set_cons_succ]
      refine anyD_takeR [] (i := 6) (v := ?_) (by kernel_rfl) rfl (by kernel_rfl) (by kernel_rfl) (by kernel_rfl) (by kernel_rfl) (by kernel_rfl) (by kernel_rfl) (fun _ _ _ h => by cases h.1) ⟨Or.inl ⟨by kernel_rfl, ?_⟩, fun _ => rfl⟩ hSw ?_
      rotate_left
      · (intro u hu; obtain ⟨h0, h1, h2, h3, h4⟩ := hu; first | (go_simp; done) | (go_simp; with_reducible rfl))
      try simp only [Act.put, List.getElem_toArray, List.getElem_cons_succ, List.getElem_cons_zero, List.setIfInBounds_toArray, List.set_cons_zero, List.set_cons_succ]
      refine anyD_takeR [] (i := 7) (v := ?_) (by kernel_rfl) rfl (by kernel_rfl) (by kernel_rfl) (by kernel_rfl) (by kernel_rfl) (by kernel_rfl) (by kernel_rfl) (fun _ _ _ h => by cases h.1) ⟨Or.inl ⟨by kernel_rfl, ?_⟩, fun _ => rfl⟩ hSw ?_
      rotate_left
      · (intro u hu; obtain ⟨h0, h1, h2, h3, h4⟩ := hu; first | (go_simp; done) | (go_simp; with_reducible rfl))
      try simp only [Act.put, List.getElem_toArray, List.getElem_cons_succ, List.getElem_cons_zero, List.setIfInBounds_toArray, List.set_cons_zero, List.set_cons_succ]
      refine anyD_takeR [] (i := 8) (v := ?_) (by kernel_rfl) rfl (by kernel_rfl) (by kernel_rfl) (by kernel_rfl) (by kernel_rfl) (by kernel_rfl) (by kernel_rfl) (fun _ _ _ h => by cases h.1) ⟨Or.inl ⟨by kernel_rfl, ?_⟩, fun _ => rfl⟩ hSw ?_
      rotate_left
      · (intro u hu; obtain ⟨h0, h1, h2, h3, h4⟩ := hu; first | (go_simp; done) | (go_simp; with_reducible rfl))
      try simp only [Act.put, List.getElem_toArray, List.getElem_cons_succ, List.getElem_cons_zero, List.setIfInBounds_toArray, List.set_cons_zero, List.set_cons_succ]
      refine anyD_takeR [] (i := 9) (v := undef) (by kernel_rfl) rfl (by kernel_rfl) (by kernel_rfl) (by kernel_rfl) (by kernel_rfl) (by kernel_rfl) (by kernel_rfl) (fun _ _ _ h => by cases h.1) ⟨Or.inr ⟨by kernel_rfl, rfl⟩, fun _ => by kernel_rfl⟩ hSw ?_
      try simp only [Act.put, List.getElem_toArray, List.getElem_cons_succ, List.getElem_cons_zero, List.setIfInBounds_toArray, List.set_cons_zero, List.set_cons_succ]
      refine anyD_takeR [] (i := 10) (v := undef) (by kernel_rfl) rfl (by kernel_rfl) (by kernel_rfl) (by kernel_rfl) (by kernel_rfl) (by kernel_rfl) (by kernel_rfl) (fun _ _ _ h => by cases h.1) ⟨Or.inr ⟨by kernel_rfl, rfl⟩, fun _ => by kernel_rfl⟩ hSw ?_
      try simp only [Act.put, List.getElem_toArray, List.getElem_cons_succ, List.getElem_cons_zero, List.setIfInBounds_toArray, List.set_cons_zero, List.set_cons_succ]
      refine anyD_takeR [] (i := 11) (v := undef) (by kernel_rfl) rfl (by kernel_rfl) (by kernel_rfl) (by kernel_rfl) (by kernel_rfl) (by kernel_rfl) (by kernel_rfl) (fun _ _ _ h => by cases h.1) ⟨Or.inr ⟨by kernel_rfl, rfl⟩, fun _ => by kernel_rfl⟩ hSw ?_
      try simp only [Act.put, List.getElem_toArray, List.getElem_cons_succ, List.getElem_cons_zero, List.setIfInBounds_toArray, List.set_cons_zero, List.set_cons_succ]
      refine anyD_takeR [] (i := 12) (v := undef) (by kernel_rfl) rfl (by kernel_rfl) (by kernel_rfl) (by kernel_rfl) (by kernel_rfl) (by kernel_rfl) (by kernel_rfl) (fun _ _ _ h => by cases h.1) ⟨Or.inr ⟨by kernel_rfl, rfl⟩, fun _ => by kernel_rfl⟩ hSw ?_
      try simp only [Act.put, List.getElem_toArray, List.getElem_cons_succ, List.getElem_cons_zero, List.setIfInBounds_toArray, List.set_cons_zero, List.set_cons_succ]
      refine anyD_takeR [] (i := 13) (v := undef) (by kernel_rfl) rfl (by kernel_rfl) (by kernel_rfl) (by kernel_rfl) (by kernel_rfl) (by kernel_rfl) (by kernel_rfl) (fun _ _ _ h => by cases h.1) ⟨Or.inr ⟨by kernel_rfl, rfl⟩, fun _ => by kernel_rfl⟩ hSw ?_
      try simp only [Act.put, List.getElem_toArray, List.getElem_cons_succ, List.getElem_cons_zero, List.setIfInBounds_toArray, List.set_cons_zero, List.set_cons_succ]
      refine anyD_takeR [] (i := 14) (v := undef) (by kernel_rfl) rfl (by kernel_rfl) (by kernel_rfl) (by kernel_rfl) (by kernel_rfl) (by kernel_rfl) (by kernel_rfl) (fun _ _ _ h => by cases h.1) ⟨Or.inr ⟨by kernel_rfl, rfl⟩, fun _ => by kernel_rfl⟩ hSw ?_
      try simp only [Act.put, List.getElem_toArray, List.getElem_cons_succ, List.getElem_cons_zero, List.setIfInBounds_toArray, List.set_cons_zero, List.set_cons_succ]
      refine anyD_takeR [] (i := 15) (v := ?_) (by kernel_rfl) rfl (by kernel_rfl) (by kernel_rfl) (by kernel_rfl) (by kernel_rfl) (by kernel_rfl) (by kernel_rfl) (fun _ _ _ h => by cases h.1) ⟨Or.inl ⟨by kernel_rfl, ?_⟩, fun _ => rfl⟩ hSw ?_
      rotate_left
      · (intro u hu; obtain ⟨h0, h1, h2, h3, h4⟩ := hu; first | (go_simp; done) | (go_simp; with_reducible rfl))
      try simp only [Act.put, List.getElem_toArray, List.getElem_cons_succ, List.getElem_cons_zero, List.setIfInBounds_toArray, List.set_cons_zero, List.set_cons_succ]
      refine anyD_ofb (by kernel_rfl) ?_
      refine wpAnyIn_done (by kernel_rfl) ?_ _
      refine ⟨rfl, ?_⟩
      gi_wp2
      exact ⟨(KeepsOthers.refl Y).trans ⟨Nat.le_refl _, fun _ _ h _ => h⟩, fun _ _ => rfl, ⟨k2, R2, HG.out, HFY.out.below (Below.refl _ _).drew, HMM.out⟩, HLY⟩
    by_cases q2 : mv = ko
    · have y1 : (mv == kh) = false := by simp [q1]
      have y2 : (mv == ko) = true := by simp [q2]
      have HG := Lib.hid (HIMP.out _ _ (HI.out.skip x.2 (.inr (by rw [HE.out.1, HE.out.2, HKO.out]; exact q2))))
      clear q1 q2
      gi_wp2
      refine normal_only ?_
      refine wpIn_region_any (by kernel_rfl) ?_
      try (change wpAnyIn _ _ _ _ _ _ _ _ _ (World.drew _))
      refine anyD_in (S := fun u : World => u.cell? ⟨s + 1, 0, none⟩ = some (.slice (some ⟨kb, 0, none⟩) (W + H) kc') ∧ u.cell? ⟨tb, 0, none⟩ = some (.slice (some ⟨g2, o2, none⟩) (n2 + 1) cap2) ∧ u.cell? ⟨g2, o2, none⟩ = some (.int .i64 (hd : Nat)) ∧ u.cell? ⟨kb, hd, none⟩ = some (.int .i64 kh) ∧ u.cell? ⟨kb, oth, none⟩ = some (.int .i64 ko)) (D := []) _ _ _ _ ?_
      refine anyD_takeR [] (i := 0) (v := ?_) (by kernel_rfl) rfl (by kernel_rfl) (by kernel_rfl) (by kernel_rfl) (by kernel_rfl) (by kernel_rfl) (by kernel_rfl) (fun _ _ _ h => by cases h.1) ⟨Or.inl ⟨by kernel_rfl, ?_⟩, fun _ => rfl⟩ hSw ?_
      rotate_left
      · (intro u hu; obtain ⟨h0, h1, h2, h3, h4⟩ := hu; first | (go_simp; done) | (go_simp; with_reducible rfl))
      try simp only [Act.put, List.getElem_toArray, List.getElem_cons_succ, List.getElem_cons_zero, List.setIfInBounds_toArray, List.set_cons_zero, List.set_cons_succ]
      refine anyD_takeR [] (i := 1) (v := ?_) (by kernel_rfl) rfl (by kernel_rfl) (by kernel_rfl) (by kernel_rfl) (by kernel_rfl) (by kernel_rfl) (by kernel_rfl) (fun _ _ _ h => by cases h.1) ⟨Or.inl ⟨by kernel_rfl, ?_⟩, fun _ => rfl⟩ hSw ?_
      rotate_left
      · (intro u hu; obtain ⟨h0, h1, h2, h3, h4⟩ := hu; first | (go_simp; done) | (go_simp; with_reducible rfl))
      try simp only [Act.put, List.getElem_toArray, List.getElem_cons_succ, List.getElem_cons_zero, List.setIfInBounds_toArray, List.set_cons_zero, List.set_cons_succ]
      refine anyD_takeR [] (i := 2) (v := ?_) (by kernel_rfl) rfl (by kernel_rfl) (by kernel_rfl) (by kernel_rfl) (by kernel_rfl) (by kernel_rfl) (by kernel_rfl) (fun _ _ _ h => by cases h.1) ⟨Or.inl ⟨by kernel_rfl, ?_⟩, fun _ => rfl⟩ hSw ?_
      rotate_left
      · (intro u hu; obtain ⟨h0, h1, h2, h3, h4⟩ := hu; first | (go_simp; done) | (go_simp; with_reducible rfl))
      try simp only [Act.put, List.getElem_toArray, List.getElem_cons_succ, List.getElem_cons_zero, List.setIfInBounds_toArray, List.set_cons_zero, List.set_cons_succ]
      refine anyD_takeR [] (i := 3) (v := ?_) (by kernel_rfl) rfl (by kernel_rfl) (by kernel_rfl) (by kernel_rfl) (by kernel_rfl) (by kernel_rfl) (by kernel_rfl) (fun _ _ _ h => by cases h.1) ⟨Or.inl ⟨by kernel_rfl, ?_⟩, fun _ => rfl⟩ hSw ?_
      rotate_left
      · (intro u hu; obtain ⟨h0, h1, h2, h3, h4⟩ := hu; first | (go_simp; done) | (go_simp; with_reducible rfl))
      try simp only [Act.put, List.getElem_toArray, List.getElem_cons_succ, List.getElem_cons_zero, List.setIfInBounds_toArray, List.set_cons_zero, List.set_cons_succ]
      refine anyD_takeR [] (i := 4) (v := ?_) (by kernel_rfl) rfl (by kernel_rfl) (by kernel_rfl) (by kernel_rfl) (by kernel_rfl) (by kernel_rfl) (by kernel_rfl) (fun _ _ _ h => by cases h.1) ⟨Or.inl ⟨by kernel_rfl, ?_⟩, fun _ => rfl⟩ hSw ?_
      rotate_left
      · (intro u hu; obtain ⟨h0, h1, h2, h3, h4⟩ := hu; first | (go_simp; done) | (go_simp; with_reducible rfl))
      try simp only [Act.put, List.getElem_toArray, List.getElem_cons_succ, List.getElem_cons_zero, List.setIfInBounds_toArray, List.set_cons_zero, List.set_cons_succ]
      refine anyD_takeR [] (i := 5) (v := ?_) (by kernel_rfl) rfl (by kernel_rfl) (by kernel_rfl) (by kernel_rfl) (by kernel_rfl) (by kernel_rfl) (by kernel_rfl) (fun _ _ _ h => by cases h.1) ⟨Or.inl ⟨by kernel_rfl, ?_⟩, fun _ => rfl⟩ hSw ?_
      rotate_left
      · (intro u hu; obtain ⟨h0, h1, h2, h3, h4⟩ := hu; first | (go_simp; done) | (go_simp; with_reducible rfl))
      try simp only [Act.put, List.getElem_toArray, List.getElem_cons_succ, List.getElem_cons_zero, List.setIfInBounds_toArray, List.set_cons_zero, List.set_cons_succ]
      refine anyD_takeR [] (i := 6) (v := ?_) (by kernel_rfl) rfl (by kernel_rfl) (by kernel_rfl) (by kernel_rfl) (by kernel_rfl) (by kernel_rfl) (by kernel_rfl) (fun _ _ _ h => by cases h.1) ⟨Or.inl ⟨by kernel_rfl, ?_⟩, fun _ => rfl⟩ hSw ?_
      rotate_left
      · (intro u hu; obtain ⟨h0, h1, h2, h3, h4⟩ := hu; first | (go_simp; done) | (go_simp; with_reducible rfl))
      try simp only [Act.put, List.getElem_toArray, List.getElem_cons_succ, List.getElem_cons_zero, List.setIfInBounds_toArray, List.set_cons_zero, List.set_cons_succ]
      refine anyD_takeR [] (i := 7) (v := ?_) (by kernel_rfl) rfl (by kernel_rfl) (by kernel_rfl) (by kernel_rfl) (by kernel_rfl) (by kernel_rfl) (by kernel_rfl) (fun _ _ _ h => by cases h.1) ⟨Or.inl ⟨by kernel_rfl, ?_⟩, fun _ => rfl⟩ hSw ?_
      rotate_left
      · (intro u hu; obtain ⟨h0, h1, h2, h3, h4⟩ := hu; first | (go_simp; done) | (go_simp; with_reducible rfl))
      try simp only [Act.put, List.getElem_toArray, List.getElem_cons_succ, List.getElem_cons_zero, List.setIfInBounds_toArray, List.set_cons_zero, List.set_cons_succ]
      refine anyD_takeR [] (i := 8) (v := ?_) (by kernel_rfl) rfl (by kernel_rfl) (by kernel_rfl) (by kernel_rfl) (by kernel_rfl) (by kernel_rfl) (by kernel_rfl) (fun _ _ _ h => by cases h.1) ⟨Or.inl ⟨by kernel_rfl, ?_⟩, fun _ => rfl⟩ hSw ?_
      rotate_left
      · (intro u hu; obtain ⟨h0, h1, h2, h3, h4⟩ := hu; first | (go_simp; done) | (go_simp; with_reducible rfl))
      try simp only [Act.put, List.getElem_toArray, List.getElem_cons_succ, List.getElem_cons_zero, List.setIfInBounds_toArray, List.set_cons_zero, List.set_cons_succ]
      refine anyD_takeR [] (i := 9) (v := ?_) (by kernel_rfl) rfl (by kernel_rfl) (by kernel_rfl) (by kernel_rfl) (by kernel_rfl) (by kernel_rfl) (by kernel_rfl) (fun _ _ _ h => by cases h.1) ⟨Or.inl ⟨by kernel_rfl, ?_⟩, fun _ => rfl⟩ hSw ?_
      rotate_left
      · (intro u hu; obtain ⟨h0, h1, h2, h3, h4⟩ := hu; first | (go_simp; done) | (go_simp; with_reducible rfl))
      try simp only [Act.put, List.getElem_toArray, List.getElem_cons_succ, List.getElem_cons_zero, List.setIfInBounds_toArray, List.set_cons_zero, List.set_cons_succ]
      refine anyD_takeR [] (i := 10) (v := ?_) (by kernel_rfl) rfl (by kernel_rfl) (by kernel_rfl) (by kernel_rfl) (by kernel_rfl) (by kernel_rfl) (by kernel_rfl) (fun _ _ _ h => by cases h.1) ⟨Or.inl ⟨by kernel_rfl, ?_⟩, fun _ => rfl⟩ hSw ?_
      rotate_left
      · (intro u hu; obtain ⟨h0, h1, h2, h3, h4⟩ := hu; first | (go_simp; done) | (go_simp; with_reducible rfl))
      try simp only [Act.put, List.getElem_toArray, List.getElem_cons_succ, List.getElem_cons_zero, List.setIfInBounds_toArray, List.set_cons_zero, List.set_cons_succ]
      refine anyD_takeR [] (i := 11) (v := ?_) (by kernel_rfl) rfl (by kernel_rfl) (by kernel_rfl) (by kernel_rfl) (by kernel_rfl) (by kernel_rfl) (by kernel_rfl) (fun _ _ _ h => by cases h.1) ⟨Or.inl ⟨by kernel_rfl, ?_⟩, fun _ => rfl⟩ hSw ?_
      rotate_left
      · (intro u hu; obtain ⟨h0, h1, h2, h3, h4⟩ := hu; first | (go_simp; done) | (go_simp; with_reducible rfl))
      try simp only [Act.put, List.getElem_toArray, List.getElem_cons_succ, List.getElem_cons_zero, List.setIfInBounds_toArray, List.set_cons_zero, List.set_cons_succ]
      refine anyD_takeR [] (i := 12) (v := ?_) (by kernel_rfl) rfl (by kernel_rfl) (by kernel_rfl) (by kernel_rfl) (by kernel_rfl) (by kernel_rfl) (by kernel_rfl) (fun _ _ _ h => by cases h.1) ⟨Or.inl ⟨by kernel_rfl, ?_⟩, fun _ => rfl⟩ hSw ?_
      rotate_left
      · (intro u hu; obtain ⟨h0, h1, h2, h3, h4⟩ := hu; first | (go_simp; done) | (go_simp; with_reducible rfl))
      try simp only [Act.put, List.getElem_toArray, List.getElem_cons_succ, List.getElem_cons_zero, List.setIfInBounds_toArray, List.set_cons_zero, List.set_cons_succ]
      refine anyD_takeR [] (i := 13) (v := ?_) (by kernel_rfl) rfl (by kernel_rfl) (by kernel_rfl) (by kernel_rfl) (by kernel_rfl) (by kernel_rfl) (by kernel_rfl) (fun _ _ _ h => by cases h.1) ⟨Or.inl ⟨by kernel_rfl, ?_⟩, fun _ => rfl⟩ hSw ?_
      rotate_left
      · (intro u hu; obtain ⟨h0, h1, h2, h3, h4⟩ := hu; first | (go_simp; done) | (go_simp; with_reducible rfl))
      try simp only [Act.put, List.getElem_toArray, List.getElem_cons_succ, List.getElem_cons_zero, List.setIfInBounds_toArray, List.set_cons_zero, List.set_cons_succ]
      refine anyD_takeR [] (i := 14) (v := ?_) (by kernel_rfl) rfl (by kernel_rfl) (by kernel_rfl) (by kernel_rfl) (by kernel_rfl) (by kernel_rfl) (by kernel_rfl) (fun _ _ _ h => by cases h.1) ⟨Or.inl ⟨by kernel_rfl, ?_⟩, fun _ => rfl⟩ hSw ?_
      rotate_left
      · (intro u hu; obtain ⟨h0, h1, h2, h3, h4⟩ := hu; first | (go_simp; done) | (go_simp; with_reducible rfl))
      try simp only [Act.put, List.getElem_toArray, List.getElem_cons_succ, List.getElem_cons_zero, List.setIfInBounds_toArray, List.set_cons_zero, List.set_cons_succ]
      refine anyD_takeR [] (i := 15) (v := ?_) (by kernel_rfl) rfl (by kernel_rfl) (by kernel_rfl) (by kernel_rfl) (by kernel_rfl) (by kernel_rfl) (by kernel_rfl) (fun _ _ _ h => by cases h.1) ⟨Or.inl ⟨by kernel_rfl, ?_⟩, fun _ => rfl⟩ hSw ?_
      rotate_left
      · (intro u hu; obtain ⟨h0, h1, h2, h3, h4⟩ := hu; first | (go_simp; done) | (go_simp; with_reducible rfl))
      try simp only [Act.put, List.getElem_toArray, List.getElem_cons_succ, List.getElem_cons_zero, List.setIfInBounds_toArray, List.set_cons_zero, List.set_cons_succ]
      refine anyD_ofb (by kernel_rfl) ?_
      refine wpAnyIn_done (by kernel_rfl) ?_ _
      refine ⟨rfl, ?_⟩
      gi_wp2
      exact ⟨(KeepsOthers.refl Y).trans ⟨Nat.le_refl _, fun _ _ h _ => h⟩, fun _ _ => rfl, ⟨k2, R2, HG.out, HFY.out.below (Below.refl _ _).drew, HMM.out⟩, HLY⟩
    by_cases q3 : ko = -1
    · have y1 : (mv == kh) = false := by simp [q1]
      have y2 : (mv == ko) = false := by simp [q2]
      have y10 : (ko != -1) = false := by simp [q3]
      have HG0 := Lib.hid (HI.out.add HP.out c0 x.2 (by rw [HE.out.1, HKH.out]; exact q1) (by rw [HE.out.2, HKO.out]; exact q3))
      have HG : Hid (FI W H f K t c hd (fun j => ∃ y, y ∈ pre ++ [x] ∧ y.1 = j) (up k2 oth mv) (R2 ++ [oth])) := Lib.hid (HIMP.out _ _ (by have := HG0.out; rw [HE.out.1, HE.out.2] at this; exact this))
      have HU := Lib.hid (unk_up (N := W + H) (k := k2) (o := oth) (m := mv) (fun e => by have := HP.out _ (ccl_lt hhd x.2); rw [HE.out.1, e] at this; omega) (by rw [HKO.out]; exact q3) HX1.out)
      clear q1 q2 q3 HG0
      gi_wp2
      refine normal_only ?_
      refine wpIn_region_any (by kernel_rfl) ?_
      try (change wpAnyIn _ _ _ _ _ _ _ _ _ (World.drew _))
      refine anyD_in (S := fun u : World => u.cell? ⟨s + 1, 0, none⟩ = some (.slice (some ⟨kb, 0, none⟩) (W + H) kc') ∧ u.cell? ⟨tb, 0, none⟩ = some (.slice (some ⟨g2, o2, none⟩) (n2 + 1) cap2) ∧ u.cell? ⟨g2, o2, none⟩ = some (.int .i64 (hd : Nat)) ∧ u.cell? ⟨kb, hd, none⟩ = some (.int .i64 kh) ∧ u.cell? ⟨kb, oth, none⟩ = some (.int .i64 ko)) (D := []) _ _ _ _ ?_
      refine anyD_takeR [] (i := 0) (v := ?_) (by kernel_rfl) rfl (by kernel_rfl) (by kernel_rfl) (by kernel_rfl) (by kernel_rfl) (by kernel_rfl) (by kernel_rfl) (fun _ _ _ h => by cases h.1) ⟨Or.inl ⟨by kernel_rfl, ?_⟩, fun _ => rfl⟩ hSw ?_
      rotate_left
      · (intro u hu; obtain ⟨h0, h1, h2, h3, h4⟩ := hu; first | (go_simp; done) | (go_simp; with_reducible rfl))
      try simp only [Act.put, List.getElem_toArray, List.getElem_cons_succ, List.getElem_cons_zero, List.setIfInBounds_toArray, List.set_cons_zero, List.set_cons_succ]
      refine anyD_takeR [] (i := 1) (v := ?_) (by kernel_rfl) rfl (by kernel_rfl) (by kernel_rfl) (by kernel_rfl) (by kernel_rfl) (by kernel_rfl) (by kernel_rfl) (fun _ _ _ h => by cases h.1) ⟨Or.inl ⟨by kernel_rfl, ?_⟩, fun _ => rfl⟩ hSw ?_
      rotate_left
      · (intro u hu; obtain ⟨h0, h1, h2, h3, h4⟩ := hu; first | (go_simp; done) | (go_simp; with_reducible rfl))
      try simp only [Act.put, List.getElem_toArray, List.getElem_cons_succ, List.getElem_cons_zero, List.setIfInBounds_toArray, List.set_cons_zero, List.set_cons_succ]
      refine anyD_takeR [] (i := 2) (v := ?_) (by kernel_rfl) rfl (by kernel_rfl) (by kernel_rfl) (by kernel_rfl) (by kernel_rfl) (by kernel_rfl) (by kernel_rfl) (fun _ _ _ h => by cases h.1) ⟨Or.inl ⟨by kernel_rfl, ?_⟩, fun _ => rfl⟩ hSw ?_
      rotate_left
      · (intro u hu; obtain ⟨h0, h1, h2, h3, h4⟩ := hu; first | (go_simp; done) | (go_simp; with_reducible rfl))
      try simp only [Act.put, List.getElem_toArray, List.getElem_cons_succ, List.getElem_cons_zero, List.setIfInBounds_toArray, List.set_cons_zero, List.set_cons_succ]
      refine anyD_takeR [] (i := 3) (v := ?_) (by kernel_rfl) rfl (by kernel_rfl) (by kernel_rfl) (by kernel_rfl) (by kernel_rfl) (by kernel_rfl) (by kernel_rfl) (fun _ _ _ h => by cases h.1) ⟨Or.inl ⟨by kernel_rfl, ?_⟩, fun _ => rfl⟩ hSw ?_
      rotate_left
      · (intro u hu; obtain ⟨h0, h1, h2, h3, h4⟩ := hu; first | (go_simp; done) | (go_simp; with_reducible rfl))
      try simp only [Act.put, List.getElem_toArray, List.getElem_cons_succ, List.getElem_cons_zero, List.setIfInBounds_toArray, List.set_cons_zero, List.set_cons_succ]
      refine anyD_takeR [] (i := 4) (v := ?_) (by kernel_rfl) rfl (by kernel_rfl) (by kernel_rfl) (by kernel_rfl) (by kernel_rfl) (by kernel_rfl) (by kernel_rfl) (fun _ _ _ h => by cases h.1) ⟨Or.inl ⟨by kernel_rfl, ?_⟩, fun _ => rfl⟩ hSw ?_
      rotate_left
      · (intro u hu; obtain ⟨h0, h1, h2, h3, h4⟩ := hu; first | (go_simp; done) | (go_simp; with_reducible rfl))
      try simp only [Act.put, List.getElem_toArray, List.getElem_cons_succ, List.getElem_cons_zero, List.setIfInBounds_toArray, List.set_cons_zero, List.set_cons_succ]
      refine anyD_takeR [] (i := 5) (v := ?_) (by kernel_rfl) rfl (by kernel_rfl) (by kernel_rfl) (by kernel_rfl) (by kernel_rfl) (by kernel_rfl) (by kernel_rfl) (fun _ _ _ h => by cases h.1) ⟨Or.inl ⟨by kernel_rfl, ?_⟩, fun _ => rfl⟩ hSw ?_
      rotate_left
      · (intro u hu; obtain ⟨h0, h1, h2, h3, h4⟩ := hu; first | (go_simp; done) | (go_simp; with_reducible rfl))
      try simp only [Act.put, List.getElem_toArray, List.getElem_cons_succ, List.getElem_cons_zero, List.setIfInBounds_toArray, List.set_cons_zero, List.set_cons_succ]
      refine anyD_takeR [] (i := 6) (v := ?_) (by kernel_rfl) rfl (by kernel_rfl) (by kernel_rfl) (by kernel_rfl) (by kernel_rfl) (by kernel_rfl) (by kernel_rfl) (fun _ _ _ h => by cases h.1) ⟨Or.inl ⟨by kernel_rfl, ?_⟩, fun _ => rfl⟩ hSw ?_
      rotate_left
      · (intro u hu; obtain ⟨h0, h1, h2, h3, h4⟩ := hu; first | (go_simp; done) | (go_simp; with_reducible rfl))
      try simp only [Act.put, List.getElem_toArray, List.getElem_cons_succ, List.getElem_cons_zero, List.setIfInBounds_toArray, List.set_cons_zero, List.set_cons_succ]
      refine anyD_takeR [] (i := 7) (v := ?_) (by kernel_rfl) rfl (by kernel_rfl) (by kernel_rfl) (by kernel_rfl) (by kernel_rfl) (by kernel_rfl) (by kernel_rfl) (fun _ _ _ h => by cases h.1) ⟨Or.inl ⟨by kernel_rfl, ?_⟩, fun _ => rfl⟩ hSw ?_
      rotate_left
      · (intro u hu; obtain ⟨h0, h1, h2, h3, h4⟩ := hu; first | (go_simp; done) | (go_simp; with_reducible rfl))
      try simp only [Act.put, List.getElem_toArray, List.getElem_cons_succ, List.getElem_cons_zero, List.setIfInBounds_toArray, List.set_cons_zero, List.set_cons_succ]
      refine anyD_takeR [] (i := 8) (v := ?_) (by kernel_rfl) rfl (by kernel_rfl) (by kernel_rfl) (by kernel_rfl) (by kernel_rfl) (by kernel_rfl) (by kernel_rfl) (fun _ _ _ h => by cases h.1) ⟨Or.inl ⟨by kernel_rfl, ?_⟩, fun _ => rfl⟩ hSw ?_
      rotate_left
      · (intro u hu; obtain ⟨h0, h1, h2, h3, h4⟩ := hu; first | (go_simp; done) | (go_simp; with_reducible rfl))
      try simp only [Act.put, List.getElem_toArray, List.getElem_cons_succ, List.getElem_cons_zero, List.setIfInBounds_toArray, List.set_cons_zero, List.set_cons_succ]
      refine anyD_takeR [] (i := 9) (v := ?_) (by kernel_rfl) rfl (by kernel_rfl) (by kernel_rfl) (by kernel_rfl) (by kernel_rfl) (by kernel_rfl) (by kernel_rfl) (fun _ _ _ h => by cases h.1) ⟨Or.inl ⟨by kernel_rfl, ?_⟩, fun _ => rfl⟩ hSw ?_
      rotate_left
      · (intro u hu; obtain ⟨h0, h1, h2, h3, h4⟩ := hu; first | (go_simp; done) | (go_simp; with_reducible rfl))
      try simp only [Act.put, List.getElem_toArray, List.getElem_cons_succ, List.getElem_cons_zero, List.setIfInBounds_toArray, List.set_cons_zero, List.set_cons_succ]
      refine anyD_takeR [] (i := 10) (v := ?_) (by kernel_rfl) rfl (by kernel_rfl) (by kernel_rfl) (by kernel_rfl) (by kernel_rfl) (by kernel_rfl) (by kernel_rfl) (fun _ _ _ h => by cases h.1) ⟨Or.inl ⟨by kernel_rfl, ?_⟩, fun _ => rfl⟩ hSw ?_
      rotate_left
      · (intro u hu; obtain ⟨h0, h1, h2, h3, h4⟩ := hu; first | (go_simp; done) | (go_simp; with_reducible rfl))
      try simp only [Act.put, List.getElem_toArray, List.getElem_cons_succ, List.getElem_cons_zero, List.setIfInBounds_toArray, List.set_cons_zero, List.set_cons_succ]
      refine anyD_takeR [] (i := 11) (v := ?_) (by kernel_rfl) rfl (by kernel_rfl) (by kernel_rfl) (by kernel_rfl) (by kernel_rfl) (by kernel_rfl) (by kernel_rfl) (fun _ _ _ h => by cases h.1) ⟨Or.inl ⟨by kernel_rfl, ?_⟩, fun _ => rfl⟩ hSw ?_
      rotate_left
      · (intro u hu; obtain ⟨h0, h1, h2, h3, h4⟩ := hu; first | (go_simp; done) | (go_simp; with_reducible rfl))
      try simp only [Act.put, List.getElem_toArray, List.getElem_cons_succ, List.getElem_cons_zero, List.setIfInBounds_toArray, List.set_cons_zero, List.set_cons_succ]
      refine anyD_takeR [] (i := 12) (v := ?_) (by kernel_rfl) rfl (by kernel_rfl) (by kernel_rfl) (by kernel_rfl) (by kernel_rfl) (by kernel_rfl) (by kernel_rfl) (fun _ _ _ h => by cases h.1) ⟨Or.inl ⟨by kernel_rfl, ?_⟩, fun _ => rfl⟩ hSw ?_
      rotate_left
      · (intro u hu; obtain ⟨h0, h1, h2, h3, h4⟩ := hu; first | (go_simp; done) | (go_simp; with_reducible rfl))
      try simp only [Act.put, List.getElem_toArray, List.getElem_cons_succ, List.getElem_cons_zero, List.setIfInBounds_toArray, List.set_cons_zero, List.set_cons_succ]
      refine anyD_takeR [] (i := 13) (v := ?_) (by kernel_rfl) rfl (by kernel_rfl) (by kernel_rfl) (by kernel_rfl) (by kernel_rfl) (by kernel_rfl) (by kernel_rfl) (fun _ _ _ h => by cases h.1) ⟨Or.inl ⟨by kernel_rfl, ?_⟩, fun _ => rfl⟩ hSw ?_
      rotate_left
      · (intro u hu; obtain ⟨h0, h1, h2, h3, h4⟩ := hu; first | (go_simp; done) | (go_simp; with_reducible rfl))
      try simp only [Act.put, List.getElem_toArray, List.getElem_cons_succ, List.getElem_cons_zero, List.setIfInBounds_toArray, List.set_cons_zero, List.set_cons_succ]
      refine anyD_takeR [] (i := 14) (v := ?_) (by kernel_rfl) rfl (by kernel_rfl) (by kernel_rfl) (by kernel_rfl) (by kernel_rfl) (by kernel_rfl) (by kernel_rfl) (fun _ _ _ h => by cases h.1) ⟨Or.inl ⟨by kernel_rfl, ?_⟩, fun _ => rfl⟩ hSw ?_
      rotate_left
      · (intro u hu; obtain ⟨h0, h1, h2, h3, h4⟩ := hu; first | (go_simp; done) | (go_simp; with_reducible rfl))
      try simp only [Act.put, List.getElem_toArray, List.getElem_cons_succ, List.getElem_cons_zero, List.setIfInBounds_toArray, List.set_cons_zero, List.set_cons_succ]
      refine anyD_takeR [] (i := 15) (v := ?_) (by kernel_rfl) rfl (by kernel_rfl) (by kernel_rfl) (by kernel_rfl) (by kernel_rfl) (by kernel_rfl) (by kernel_rfl) (fun _ _ _ h => by cases h.1) ⟨Or.inl ⟨by kernel_rfl, ?_⟩, fun _ => rfl⟩ hSw ?_
      rotate_left
      · (intro u hu; obtain ⟨h0, h1, h2, h3, h4⟩ := hu; first | (go_simp; done) | (go_simp; with_reducible rfl))
      try simp only [Act.put, List.getElem_toArray, List.getElem_cons_succ, List.getElem_cons_zero, List.setIfInBounds_toArray, List.set_cons_zero, List.set_cons_succ]
      refine anyD_ofb (by kernel_rfl) ?_
      refine wpAnyIn_done (by kernel_rfl) ?_ _
      refine ⟨rfl, ?_⟩
      obtain ⟨Z, hZ⟩ : ∃ z, Y.drew = z := ⟨_, rfl⟩
      have hFZ : FW w s W H (.slice (some ⟨b, off, none⟩) (W * H) cap) kb kc' tb ds (fun p => p = kb ∨ P p) Y.drew k2 (hd :: R2) := HFY.out.below (Below.refl _ _).drew
      have hTZ : TQ Y.drew (fun p => p = kb ∨ P p) (s + 4) (.slice (some ⟨g2, o2, none⟩) (n2 + 1) cap2) (hd :: R2) := HTQ.out
      have htz : Y.drew.heap[tb]? = some (.cells #[.slice (some ⟨g2, o2, none⟩) (n2 + 1) cap2] 22 (0, 0)) := HTY.out
      have hKO : KeepsOthers Y Y.drew := ⟨Nat.le_refl _, fun _ _ h _ => h⟩
      have hKB : KB P Y Y.drew := fun _ _ => rfl
      have k1 : Y.drew.cell? ⟨s + 1, 0, none⟩ = some (.slice (some ⟨kb, 0, none⟩) (W + H) kc') := k1
      have k3 : Y.drew.cell? ⟨tb, 0, none⟩ = some (.slice (some ⟨g2, o2, none⟩) (n2 + 1) cap2) := k3
      have k6 : Y.drew.cell? ⟨kb, oth, none⟩ = some (.int .i64 ko) := k6
      have k7 : Y.drew.frozen? ⟨kb, oth, none⟩ = false := k7
      have k8 : Y.drew.frozen? ⟨tb, 0, none⟩ = false := k8
      have hkbl : kb < Y.drew.heap.size := hkbl
      have hPZ : ∀ p, P p → p ≠ kb ∧ p ≠ tb ∧ p < Y.drew.heap.size := fun p hp => ⟨(HPK.out p hp).1, (HPK.out p hp).2.1, HLP.out p hp⟩
      rw [hZ] at hFZ hTZ htz hKO hKB k1 k3 k6 k7 k8 hkbl hPZ ⊢
      clear hZ hSw k4 k5
      obtain ⟨⟨hT2, hc2, hb2, hs2⟩, hfin⟩ := hFZ.add (o := oth) (y := oth) (m := mv) htz hTZ hPZ
      have HT2 := Lib.hid hT2
      have HC2 := Lib.hid hc2
      have HB2 := Lib.hid hb2
      have HS2 := Lib.hid hs2
      have HFN := Lib.hid hfin
      have hln : (hd :: R2).length ≤ 100000 := by have := HMM.out; have := HM1.out; simp; omega
      have HK0 := Lib.hid hKO
      have HKB0 := Lib.hid hKB
      have hkt : kb ≠ tb := fun e => by
        obtain ⟨cs, hr, _⟩ := hFZ.row
        rw [e, htz] at hr; cases hr
      have hst : s + 1 ≠ kb := by have := hFZ.kb0; omega
      have htl : tb < Z.heap.size := (Array.getElem?_eq_some_iff.1 htz).1
      clear hT2 hc2 hb2 hs2 hfin hTZ htz hKO hKB hPZ hFZ
      gi_wp2_with (gi_at_builtin; refine wpListIn_tq _ rfl _ _ (by rfl) (fun p => p = kb ∨ P p) (s + 4) Z.heap.size _ _ (by rfl) HT2.out HB2.out oth (by rfl) HC2.out hln HS2.out ?_; intro v' Z3 g3 cur3 hT3 hg3 h1 h2 h3; obtain ⟨g4, o4, cap4, cur4, rfl, r3⟩ := hT3; obtain ⟨hz1, hz2, hz3, hz4⟩ := HFN.out _ _ _ _ ⟨g4, o4, cap4, cur4, rfl, r3⟩ hg3 h1 h2 h3; have HZ2 := Lib.hid hz2; have HZ3 := Lib.hid hz3; have HZ4 := Lib.hid hz4; have hz5 : Z3.cell? ⟨tb, 0, none⟩ = some (.slice (some ⟨g2, o2, none⟩) (n2 + 1) cap2) := (Lib.cell_of_heap hz1 0).trans rfl; have hz6 : Z3.frozen? ⟨tb, 0, none⟩ = false := Lib.frozen_of_heap hz1 0; clear hz1 hz2 hz3 hz4 hg3 h1 h2 h3 r3)
      have hLL : (hd :: R2 ++ [oth]).length = R2.length + 1 + 1 := by simp
      rw [hLL] at HZ2 HZ3 HZ4
      refine ⟨HK0.out.trans HZ3.out, HKB0.out.t HZ4.out, ⟨_, _, HG.out, HZ2.out, ?_⟩, Nat.le_trans HLY (HK0.out.trans HZ3.out).size⟩
      have h1 := HMM.out
      have h2 := HU.out
      rw [List.length_append, List.length_singleton]
      omega
    · have y1 : (mv == kh) = false := by simp [q1]
      have y2 : (mv == ko) = false := by simp [q2]
      have y10 : (ko != -1) = true := by simp [q3]
      have HG := Lib.hid (HI.out.fail x.2 (by rw [HE.out.1, HKH.out]; exact q1) (by rw [HE.out.1, HE.out.2, HKO.out]; exact q2) (by rw [HE.out.2, HKO.out]; exact q3))
      clear q1 q2 q3
      obtain ⟨v8, h8⟩ := HFY.out.x8
      obtain ⟨v9, h9⟩ := HFY.out.x9
      have j1 : Y.drew.cell? ⟨s + 2, 0, none⟩ = some v8 := (Lib.cell_of_heap (show Y.drew.heap[s + 2]? = _ from h8) 0).trans rfl
      have j2 : Y.drew.frozen? ⟨s + 2, 0, none⟩ = false := Lib.frozen_of_heap (show Y.drew.heap[s + 2]? = _ from h8) 0
      have j3 : Y.drew.cell? ⟨s + 3, 0, none⟩ = some v9 := (Lib.cell_of_heap (show Y.drew.heap[s + 3]? = _ from h9) 0).trans rfl
      have j4 : Y.drew.frozen? ⟨s + 3, 0, none⟩ = false := Lib.frozen_of_heap (show Y.drew.heap[s + 3]? = _ from h9) 0
      have H8 := Lib.hid (show Y.drew.heap[s + 2]? = _ from h8)
      have H9 := Lib.hid (show Y.drew.heap[s + 3]? = _ from h9)
      clear h8 h9
      gi_wp2
      refine normal_only ?_
      refine wpIn_region_any (by kernel_rfl) ?_
      try (change wpAnyIn _ _ _ _ _ _ _ _ _ (World.drew _))
      refine anyD_in (S := fun u : World => u.cell? ⟨s + 1, 0, none⟩ = some (.slice (some ⟨kb, 0, none⟩) (W + H) kc') ∧ u.cell? ⟨tb, 0, none⟩ = some (.slice (some ⟨g2, o2, none⟩) (n2 + 1) cap2) ∧ u.cell? ⟨g2, o2, none⟩ = some (.int .i64 (hd : Nat)) ∧ u.cell? ⟨kb, hd, none⟩ = some (.int .i64 kh) ∧ u.cell? ⟨kb, oth, none⟩ = some (.int .i64 ko)) (D := []) _ _ _ _ ?_
      refine anyD_takeR [] (i := 0) (v := ?_) (by kernel_rfl) rfl (by kernel_rfl) (by kernel_rfl) (by kernel_rfl) (by kernel_rfl) (by kernel_rfl) (by kernel_rfl) (fun _ _ _ h => by cases h.1) ⟨Or.inl ⟨by kernel_rfl, ?_⟩, fun _ => rfl⟩ hSw ?_
      rotate_left
      · (intro u hu; obtain ⟨h0, h1, h2, h3, h4⟩ := hu; first | (go_simp; done) | (go_simp; with_reducible rfl))
      try simp only [Act.put, List.getElem_toArray, List.getElem_cons_succ, List.getElem_cons_zero, List.setIfInBounds_toArray, List.set_cons_zero, List.set_cons_succ]
      refine anyD_takeR [] (i := 1) (v := ?_) (by kernel_rfl) rfl (by kernel_rfl) (by kernel_rfl) (by kernel_rfl) (by kernel_rfl) (by kernel_rfl) (by kernel_rfl) (fun _ _ _ h => by cases h.1) ⟨Or.inl ⟨by kernel_rfl, ?_⟩, fun _ => rfl⟩ hSw ?_
      rotate_left
      · (intro u hu; obtain ⟨h0, h1, h2, h3, h4⟩ := hu; first | (go_simp; done) | (go_simp; with_reducible rfl))
      try simp only [Act.put, List.getElem_toArray, List.getElem_cons_succ, List.getElem_cons_zero, List.setIfInBounds_toArray, List.set_cons_zero, List.set_cons_succ]
      refine anyD_takeR [] (i := 2) (v := ?_) (by kernel_rfl) rfl (by kernel_rfl) (by kernel_rfl) (by kernel_rfl) (by kernel_rfl) (by kernel_rfl) (by kernel_rfl) (fun _ _ _ h => by cases h.1) ⟨Or.inl ⟨by kernel_rfl, ?_⟩, fun _ => rfl⟩ hSw ?_
      rotate_left
      · (intro u hu; obtain ⟨h0, h1, h2, h3, h4⟩ := hu; first | (go_simp; done) | (go_simp; with_reducible rfl))
      try simp only [Act.put, List.getElem_toArray, List.getElem_cons_succ, List.getElem_cons_zero, List.setIfInBounds_toArray, List.set_cons_zero, List.set_cons_succ]
      refine anyD_takeR [] (i := 3) (v := ?_) (by kernel_rfl) rfl (by kernel_rfl) (by kernel_rfl) (by kernel_rfl) (by kernel_rfl) (by kernel_rfl) (by kernel_rfl) (fun _ _ _ h => by cases h.1) ⟨Or.inl ⟨by kernel_rfl, ?_⟩, fun _ => rfl⟩ hSw ?_
      rotate_left
      · (intro u hu; obtain ⟨h0, h1, h2, h3, h4⟩ := hu; first | (go_simp; done) | (go_simp; with_reducible rfl))
      try simp only [Act.put, List.getElem_toArray, List.getElem_cons_succ, List.getElem_cons_zero, List.setIfInBounds_toArray, List.set_cons_zero, List.set_cons_succ]
      refine anyD_takeR [] (i := 4) (v := ?_) (by kernel_rfl) rfl (by kernel_rfl) (by kernel_rfl) (by kernel_rfl) (by kernel_rfl) (by kernel_rfl) (by kernel_rfl) (fun _ _ _ h => by cases h.1) ⟨Or.inl ⟨by kernel_rfl, ?_⟩, fun _ => rfl⟩ hSw ?_
      rotate_left
      · (intro u hu; obtain ⟨h0, h1, h2, h3, h4⟩ := hu; first | (go_simp; done) | (go_simp; with_reducible rfl))
      try simp only [Act.put, List.getElem_toArray, List.getElem_cons_succ, List.getElem_cons_zero, List.setIfInBounds_toArray, List.set_cons_zero, List.set_cons_succ]
      refine anyD_takeR [] (i := 5) (v := ?_) (by kernel_rfl) rfl (by kernel_rfl) (by kernel_rfl) (by kernel_rfl) (by kernel_rfl) (by kernel_rfl) (by kernel_rfl) (fun _ _ _ h => by cases h.1) ⟨Or.inl ⟨by kernel_rfl, ?_⟩, fun _ => rfl⟩ hSw ?_
      rotate_left
      · (intro u hu; obtain ⟨h0, h1, h2, h3, h4⟩ := hu; first | (go_simp; done) | (go_simp; with_reducible rfl))
      try simp only [Act.put, List.getElem_toArray, List.getElem_cons_succ, List.getElem_cons_zero, List.setIfInBounds_toArray, List.set_cons_zero, List.set_cons_succ]
      refine anyD_takeR [] (i := 6) (v := ?_) (by kernel_rfl) rfl (by kernel_rfl) (by kernel_rfl) (by kernel_rfl) (by kernel_rfl) (by kernel_rfl) (by kernel_rfl) (fun _ _ _ h => by cases h.1) ⟨Or.inl ⟨by kernel_rfl, ?_⟩, fun _ => rfl⟩ hSw ?_
      rotate_left
      · (intro u hu; obtain ⟨h0, h1, h2, h3, h4⟩ := hu; first | (go_simp; done) | (go_simp; with_reducible rfl))
      try simp only [Act.put, List.getElem_toArray, List.getElem_cons_succ, List.getElem_cons_zero, List.setIfInBounds_toArray, List.set_cons_zero, List.set_cons_succ]
      refine anyD_takeR [] (i := 7) (v := ?_) (by kernel_rfl) rfl (by kernel_rfl) (by kernel_rfl) (by kernel_rfl) (by kernel_rfl) (by kernel_rfl) (by kernel_rfl) (fun _ _ _ h => by cases h.1) ⟨Or.inl ⟨by kernel_rfl, ?_⟩, fun _ => rfl⟩ hSw ?_
      rotate_left
      · (intro u hu; obtain ⟨h0, h1, h2, h3, h4⟩ := hu; first | (go_simp; done) | (go_simp; with_reducible rfl))
      try simp only [Act.put, List.getElem_toArray, List.getElem_cons_succ, List.getElem_cons_zero, List.setIfInBounds_toArray, List.set_cons_zero, List.set_cons_succ]
      refine anyD_takeR [] (i := 8) (v := ?_) (by kernel_rfl) rfl (by kernel_rfl) (by kernel_rfl) (by kernel_rfl) (by kernel_rfl) (by kernel_rfl) (by kernel_rfl) (fun _ _ _ h => by cases h.1) ⟨Or.inl ⟨by kernel_rfl, ?_⟩, fun _ => rfl⟩ hSw ?_
      rotate_left
      · (intro u hu; obtain ⟨h0, h1, h2, h3, h4⟩ := hu; first | (go_simp; done) | (go_simp; with_reducible rfl))
      try simp only [Act.put, List.getElem_toArray, List.getElem_cons_succ, List.getElem_cons_zero, List.setIfInBounds_toArray, List.set_cons_zero, List.set_cons_succ]
      refine anyD_takeR [] (i := 9) (v := ?_) (by kernel_rfl) rfl (by kernel_rfl) (by kernel_rfl) (by kernel_rfl) (by kernel_rfl) (by kernel_rfl) (by kernel_rfl) (fun _ _ _ h => by cases h.1) ⟨Or.inl ⟨by kernel_rfl, ?_⟩, fun _ => rfl⟩ hSw ?_
      rotate_left
      · (intro u hu; obtain ⟨h0, h1, h2, h3, h4⟩ := hu; first | (go_simp; done) | (go_simp; with_reducible rfl))
      try simp only [Act.put, List.getElem_toArray, List.getElem_cons_succ, List.getElem_cons_zero, List.setIfInBounds_toArray, List.set_cons_zero, List.set_cons_succ]
      refine anyD_takeR [] (i := 10) (v := ?_) (by kernel_rfl) rfl (by kernel_rfl) (by kernel_rfl) (by kernel_rfl) (by kernel_rfl) (by kernel_rfl) (by kernel_rfl) (fun _ _ _ h => by cases h.1) ⟨Or.inl ⟨by kernel_rfl, ?_⟩, fun _ => rfl⟩ hSw ?_
      rotate_left
      · (intro u hu; obtain ⟨h0, h1, h2, h3, h4⟩ := hu; first | (go_simp; done) | (go_simp; with_reducible rfl))
      try simp only [Act.put, List.getElem_toArray, List.getElem_cons_succ, List.getElem_cons_zero, List.setIfInBounds_toArray, List.set_cons_zero, List.set_cons_succ]
      refine anyD_takeR [] (i := 11) (v := ?_) (by kernel_rfl) rfl (by kernel_rfl) (by kernel_rfl) (by kernel_rfl) (by kernel_rfl) (by kernel_rfl) (by kernel_rfl) (fun _ _ _ h => by cases h.1) ⟨Or.inl ⟨by kernel_rfl, ?_⟩, fun _ => rfl⟩ hSw ?_
      rotate_left
      · (intro u hu; obtain ⟨h0, h1, h2, h3, h4⟩ := hu; first | (go_simp; done) | (go_simp; with_reducible rfl))
      try simp only [Act.put, List.getElem_toArray, List.getElem_cons_succ, List.getElem_cons_zero, List.setIfInBounds_toArray, List.set_cons_zero, List.set_cons_succ]
      refine anyD_takeR [] (i := 12) (v := ?_) (by kernel_rfl) rfl (by kernel_rfl) (by kernel_rfl) (by kernel_rfl) (by kernel_rfl) (by kernel_rfl) (by kernel_rfl) (fun _ _ _ h => by cases h.1) ⟨Or.inl ⟨by kernel_rfl, ?_⟩, fun _ => rfl⟩ hSw ?_
      rotate_left
      · (intro u hu; obtain ⟨h0, h1, h2, h3, h4⟩ := hu; first | (go_simp; done) | (go_simp; with_reducible rfl))
      try simp only [Act.put, List.getElem_toArray, List.getElem_cons_succ, List.getElem_cons_zero, List.setIfInBounds_toArray, List.set_cons_zero, List.set_cons_succ]
      refine anyD_takeR [] (i := 13) (v := ?_) (by kernel_rfl) rfl (by kernel_rfl) (by kernel_rfl) (by kernel_rfl) (by kernel_rfl) (by kernel_rfl) (by kernel_rfl) (fun _ _ _ h => by cases h.1) ⟨Or.inl ⟨by kernel_rfl, ?_⟩, fun _ => rfl⟩ hSw ?_
      rotate_left
      · (intro u hu; obtain ⟨h0, h1, h2, h3, h4⟩ := hu; first | (go_simp; done) | (go_simp; with_reducible rfl))
      try simp only [Act.put, List.getElem_toArray, List.getElem_cons_succ, List.getElem_cons_zero, List.setIfInBounds_toArray, List.set_cons_zero, List.set_cons_succ]
      refine anyD_takeR [] (i := 14) (v := ?_) (by kernel_rfl) rfl (by kernel_rfl) (by kernel_rfl) (by kernel_rfl) (by kernel_rfl) (by kernel_rfl) (by kernel_rfl) (fun _ _ _ h => by cases h.1) ⟨Or.inl ⟨by kernel_rfl, ?_⟩, fun _ => rfl⟩ hSw ?_
      rotate_left
      · (intro u hu; obtain ⟨h0, h1, h2, h3, h4⟩ := hu; first | (go_simp; done) | (go_simp; with_reducible rfl))
      try simp only [Act.put, List.getElem_toArray, List.getElem_cons_succ, List.getElem_cons_zero, List.setIfInBounds_toArray, List.set_cons_zero, List.set_cons_succ]
      refine anyD_takeR [] (i := 15) (v := ?_) (by kernel_rfl) rfl (by kernel_rfl) (by kernel_rfl) (by kernel_rfl) (by kernel_rfl) (by kernel_rfl) (by kernel_rfl) (fun _ _ _ h => by cases h.1) ⟨Or.inl ⟨by kernel_rfl, ?_⟩, fun _ => rfl⟩ hSw ?_
      rotate_left
      · (intro u hu; obtain ⟨h0, h1, h2, h3, h4⟩ := hu; first | (go_simp; done) | (go_simp; with_reducible rfl))
      try simp only [Act.put, List.getElem_toArray, List.getElem_cons_succ, List.getElem_cons_zero, List.setIfInBounds_toArray, List.set_cons_zero, List.set_cons_succ]
      refine anyD_ofb (by kernel_rfl) ?_
      refine wpAnyIn_done (by kernel_rfl) ?_ _
      refine ⟨rfl, ?_⟩
      obtain ⟨Z, hZ⟩ : ∃ z, Y.drew = z := ⟨_, rfl⟩
      have hFZ : FW w s W H (.slice (some ⟨b, off, none⟩) (W * H) cap) kb kc' tb ds (fun p => p = kb ∨ P p) Y.drew k2 (hd :: R2) := HFY.out.below (Below.refl _ _).drew
      have hTZ : TQ Y.drew (fun p => p = kb ∨ P p) (s + 4) (.slice (some ⟨g2, o2, none⟩) (n2 + 1) cap2) (hd :: R2) := HTQ.out
      have htz : Y.drew.heap[tb]? = some (.cells #[.slice (some ⟨g2, o2, none⟩) (n2 + 1) cap2] 22 (0, 0)) := HTY.out
      have hKO : KeepsOthers Y Y.drew := ⟨Nat.le_refl _, fun _ _ h _ => h⟩
      have hKB : KB P Y Y.drew := fun _ _ => rfl
      have k1 : Y.drew.cell? ⟨s + 1, 0, none⟩ = some (.slice (some ⟨kb, 0, none⟩) (W + H) kc') := k1
      have k3 : Y.drew.cell? ⟨tb, 0, none⟩ = some (.slice (some ⟨g2, o2, none⟩) (n2 + 1) cap2) := k3
      have k6 : Y.drew.cell? ⟨kb, oth, none⟩ = some (.int .i64 ko) := k6
      have k7 : Y.drew.frozen? ⟨kb, oth, none⟩ = false := k7
      have k8 : Y.drew.frozen? ⟨tb, 0, none⟩ = false := k8
      have hkbl : kb < Y.drew.heap.size := hkbl
      have hPZ : ∀ p, P p → p ≠ kb ∧ p ≠ tb ∧ p < Y.drew.heap.size := fun p hp => ⟨(HPK.out p hp).1, (HPK.out p hp).2.1, HLP.out p hp⟩
      have HD0 := Lib.hid (fun D (hD : D ∈ ds) => hFZ.dd D hD)
      have HBL := Lib.hid hFZ.bel
      rw [hZ] at hKO j1 j2 j3 j4 k1 k6 H8 H9 HD0 HBL hkbl ⊢
      have HK0 := Lib.hid hKO
      clear hZ hSw k4 k5 hFZ hTZ htz hKO hKB k3 k7 k8 hPZ
      gi_wp2
      have n1 : ∀ {p : Nat} {ob : Obj}, Z.heap[p]? = some ob → p ≠ s + 2 → p ≠ s + 3 → ((Z.setCell ⟨s + 2, 0, none⟩ (.slice none 0 0)).setCell ⟨s + 3, 0, none⟩ (.bool false)).heap[p]? = some ob := fun hp h1 h2 => (Below.heap_setCell _ ⟨s + 3, 0, none⟩ _ _ h2).trans ((Below.heap_setCell Z ⟨s + 2, 0, none⟩ _ _ h1).trans hp)
      refine ⟨HK0.out.trans ((KeepsOthers.setCell _ _ _).trans (KeepsOthers.setCell _ _ _)), rfl, HG.out, ?_, ?_, ?_, fun D hD => n1 (HD0.out D hD) ?_ ?_⟩
      · have h := H8.out
        have h2 : (Z.setCell ⟨s + 2, 0, none⟩ (.slice none 0 0)).heap[s + 2]? = some (.cells #[.slice none 0 0] 22 (0, 0)) := by simp [World.setCell, Array.getElem?_modify, h]
        exact (Below.heap_setCell _ ⟨s + 3, 0, none⟩ _ _ (by show s + 2 ≠ s + 3; omega)).trans h2
      · have h : (Z.setCell ⟨s + 2, 0, none⟩ (.slice none 0 0)).heap[s + 3]? = _ := (Below.heap_setCell Z ⟨s + 2, 0, none⟩ _ _ (by show s + 3 ≠ s + 2; omega)).trans H9.out
        simp [World.setCell, Array.getElem?_modify, h] at h ⊢
        simp [h]
      · exact (HBL.out.setCell (p := ⟨s + 2, 0, none⟩) (by show s ≤ s + 2; omega) _).setCell (p := ⟨s + 3, 0, none⟩) (by show s ≤ s + 3; omega) _
      · intro e; have h1 := HD0.out D hD; rw [e, H8.out] at h1; cases h1
      · intro e; have h1 := HD0.out D hD; rw [e, H9.out] at h1; cases h1
  case done =>
    rintro D ys Y hD rfl ⟨⟨k2, R2, HI0, hF, hm2⟩, HLY⟩ hKD
    have HS2 := Lib.hid (HI0.done (fun j hj => ⟨⟨j, hj⟩, List.mem_finRange _, rfl⟩))
    have HMM := Lib.hid hm2
    obtain ⟨vt2, htd, g2, o2, cap2, cur2, rfl, hg2, hgb, hcur, hcap, hsz, hcl⟩ := hF.td
    obtain ⟨n2, hn2⟩ : ∃ n, R2.length = n := ⟨_, rfl⟩
    rw [List.length_cons, hn2] at htd hcap
    have hcl2 : o2 + cap2 ≤ cur2.size := hsz
    have HPOP := Lib.hid (fun o3 cap3 => hF.pop (o2 := o3) (cap2 := cap3) htd hKD (fun g h e => h (.inl e)))
    have k3 : Y.cell? ⟨tb, 0, none⟩ = some (.slice (some ⟨g2, o2, none⟩) (n2 + 1) cap2) := (Lib.cell_of_heap htd 0).trans rfl
    have htl : tb < Y.heap.size := (Array.getElem?_eq_some_iff.1 htd).1
    have HND2 := Lib.hid (show (D :: ds).Nodup ∧ ∀ D', D' ∈ D :: ds → s ≤ D' from ⟨List.nodup_cons.2 ⟨fun hm => by have := HDS.out D hm; omega, HND.out.1⟩, fun D' hD' => by
      rcases List.mem_cons.1 hD' with rfl | h
      · omega
      · exact HND.out.2 D' h⟩)
    have y1 : (1 : Int) ≤ (n2 : Int) + 1 := by omega
    have y2 : (n2 : Int) + 1 ≤ (cap2 : Int) := by omega
    have y3 : (1 : Int) ≤ ((n2 + 1 : Nat) : Int) := by omega
    have y4 : ((n2 + 1 : Nat) : Int) ≤ (cap2 : Int) := by omega
    clear HI0 hF hm2 hKD hg2 hgb hcur hcap hsz hcl htd
    have HCC := Lib.hid hcap
    clear hcl2
    gi_wp2
    all_goals
      refine Handed.intro (R2.length + unk (W + H) k2) (by have := HMM.out; omega) (hJJ _ _ _ ⟨_, D :: ds, k2, R2, _, _, _, _, _, _, _, _, _, _, _, rfl, HND2, HS2, Lib.hid (HPOP.out _ _ ?_), Lib.hid rfl, Lib.hid (by have := HMM.out; have := HM1.out; omega)⟩)
      have := HCC.out
      omega
  case stop =>
    rintro D e pre Y hD _ ⟨rfl, hX1, hX2, hX3, hX4, hX5⟩ hKD
    gi_wp2
    show LeavesInM Fence.wide 4 Try.prog Try.f81 _ (FolR W H f K t c w) ((D :: ds).map mkD) .returning Y
    refine leaves_marks (D :: ds) Y (List.nodup_cons.2 ⟨fun hm => by have := HDS.out D hm; omega, HND.out.1⟩) (fun D' hD' => ?_) (fun Z hZ => ?_)
    · rcases List.mem_cons.1 hD' with rfl | h
      · exact hKD
      · exact hX5 D' h
    · have h2 : Z.heap[s + 2]? = some (.cells #[.slice none 0 0] 22 (0, 0)) := (hZ.same _ (fun hm => by
        rcases List.mem_cons.1 hm with e | h
        · rw [← e, hX2] at hKD; cases hKD
        · have := hX5 _ h; rw [hX2] at this; cases this)).trans hX2
      have h3 : Z.heap[s + 3]? = some (.cells #[.bool false] 4 (0, 0)) := (hZ.same _ (fun hm => by
        rcases List.mem_cons.1 hm with e | h
        · rw [← e, hX3] at hKD; cases hKD
        · have := hX5 _ h; rw [hX3] at this; cases this)).trans hX3
      have p0 : Z.cell? ⟨s + 2, 0, none⟩ = some (.slice none 0 0) := (Lib.cell_of_heap h2 0).trans rfl
      have p1 : Z.cell? ⟨s + 3, 0, none⟩ = some (.bool false) := (Lib.cell_of_heap h3 0).trans rfl
      refine ⟨.tuple #[.slice none 0 0, .bool false], by simp [results, Try.results81, go_sem, p0, p1], .inr ⟨rfl, hX1, ?_⟩⟩
      rw [HSS.out]
      refine hX4.trans (hZ.bel fun D' hD' => ?_)
      rcases List.mem_cons.1 hD' with rfl | h
      · omega
      · exact HND.out.2 D' h
end Go.Proofs.Ytmcdfnhpaneanaa
