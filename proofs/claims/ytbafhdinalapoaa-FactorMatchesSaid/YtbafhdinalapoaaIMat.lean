/- The program's Match. -/
import Derived.Test.YtbafhdinalapoaaRep
import Derived.Test.YtbafhdinalapoaaIa
import Derived.Test.YtbafhdinalapoaaICat
namespace Go.Proofs.Ytbafhdinalapoaa.L2
open Go.RowKit
set_option linter.unusedVariables false
set_option linter.unusedSimpArgs false

theorem zero45 (w : World) : (zeroValue 121).run Try.prog w = .ok (.agg (Array.replicate 400 (.bool false))) w := by kernel_rfl

/-- The block g is an array of 400 flags. -/
def BRow (w : World) (g : Nat) (F : Nat → Bool) : Prop := ∃ (cs : Array Value) (t : TypeId), w.heap[g]? = some (.cells cs t (0, 0)) ∧ cs.size = 400 ∧ ∀ i, i < 400 → cs[i]? = some (.bool (F i))
section
variable {w w' : World} {g : Nat} {F : Nat → Bool}
theorem BRow.lt (h : BRow w g F) : g < w.heap.size := by
  obtain ⟨cs, t, hg, _⟩ := h
  rcases Nat.lt_or_ge g w.heap.size with hlt | hge
  · exact hlt
  · rw [Array.getElem?_eq_none hge] at hg; cases hg
theorem BRow.cell (h : BRow w g F) {i : Nat} (hi : i < 400) : w.cell? ⟨g, i, none⟩ = some (.bool (F i)) := by
  obtain ⟨cs, t, hg, _, hc⟩ := h
  simp [World.cell?, hg, hc i hi]
theorem BRow.free (h : BRow w g F) (i : Nat) : w.frozen? ⟨g, i, none⟩ = false := by
  obtain ⟨cs, t, hg, _⟩ := h
  simp [World.frozen?, hg]
theorem BRow.keep (h : BRow w g F) (e : w'.heap[g]? = w.heap[g]?) : BRow w' g F := by
  obtain ⟨cs, t, h1, h2⟩ := h
  exact ⟨cs, t, e.trans h1, h2⟩
theorem BRow.far (h : BRow w g F) {p : Addr} (hp : g ≠ p.block) (u : Value) : BRow (w.setCell p u) g F := h.keep (Below.heap_setCell w p u g hp)
theorem BRow.set_ (h : BRow w g F) (i : Nat) (v : Bool) : BRow (w.setCell ⟨g, i, none⟩ (.bool v)) g (fun j => if j = i then v else F j) := by
  obtain ⟨cs, t, h1, h2, h3⟩ := h
  refine ⟨cs.setIfInBounds i (.bool v), t, by simp [World.setCell, Array.getElem?_modify, h1], by simpa using h2, fun j hj => ?_⟩
  rw [Array.getElem?_setIfInBounds]
  by_cases e : i = j
  · subst e; simp; omega
  · have e' : ¬ j = i := fun h => e h.symm
    simp [e, e', h3 j hj]
theorem BRow.congr {F' : Nat → Bool} (h : BRow w g F) (e : ∀ i, i < 400 → F i = F' i) : BRow w g F' := by
  obtain ⟨cs, t, h1, h2, h3⟩ := h
  exact ⟨cs, t, h1, h2, fun i hi => by rw [h3 i hi, e i hi]⟩
theorem BRow.new (w : World) (t : TypeId) : BRow (w.alloc (.cells (Array.replicate 400 (.bool false)) t)) w.heap.size (fun _ => false) :=
  ⟨_, t, heap_alloc_new w _, by simp, fun i hi => by rw [Array.getElem?_replicate, if_pos hi]⟩
end

set_option maxHeartbeats 800000 in
theorem max_any (A : Option Addr) (n c : Nat) (f : Nat → Int) (w : World) (h0 : 0 < n) (hn : n ≤ 5000) (hf : 0 ≤ f 0) (hr : Holds w w.heap.size A n f) :
    Calls Try.prog 102 #[.slice A n c] w fun e w' => e = .returned (.int .i64 (mxs f n)) ∧ w = w' := by
  obtain ⟨b, o, rfl, hbl, hc⟩ := hr h0
  have c0 := hc 0 h0
  rw [Nat.add_zero] at c0
  have HC := Lib.hid hc
  have H1 := Lib.hid (show mxs f 1 = f 0 by simp only [mxs]; omega)
  have d1 : decide ((n : Int) < 1) = false := by simp; omega
  have y0 : (0 : Int) < (n : Int) := by omega
  clear hc hr
  go_enter Try.func102, Try.ntmps102
  go_wp2
  go_loop [3, 4] (fun t i => ∃ k : Nat, 1 ≤ k ∧ k ≤ n ∧ i = .int .i64 k ∧ t = .int .i64 (mxs f k)) (fun _ i => n - (intOf i).toNat)
  case atStart => exact ⟨1, Nat.le_refl _, h0, rfl, by rw [H1.out]⟩
  case round =>
    obtain ⟨k, hk0, hk, rfl, rfl⟩ := hrel
    by_cases hlt : k < n
    · have c1 := HC.out k hlt
      have y1 : (k : Int) < (n : Int) := by omega
      have HM := Lib.hid (show mxs f (k + 1) = max (mxs f k) (f k) from rfl)
      clear c0
      go_wp2
      refine ⟨⟨k + 1, by omega, by omega, by go_num, by rw [HM.out]⟩, by simp [intOf]; omega⟩
    · have e : k = n := by omega
      subst e
      clear c0
      go_wp2
      go_ret
      exact ⟨rfl, rfl⟩

/-- What the loop of Match keeps. -/
structure MS (W : World) (g N tb : Nat) (a b : Nat → Int) (k : Nat) (wr : World) : Prop where
  bel : Below W.heap.size W wr
  row : Row wr g N (fun x => mt a b k x)
  tak : BRow wr tb (tk b k)
  con : Cons a b k
  g0 : W.heap.size ≤ g
  t0 : W.heap.size ≤ tb
  ne : g ≠ tb
theorem MS.same {W : World} {g N tb : Nat} {a b : Nat → Int} {k : Nat} {wr : World} (h : MS W g N tb a b k wr) (hb : 0 ≤ b k) (e : mt a b k (a k) = b k) : MS W g N tb a b (k + 1) wr := by
  obtain ⟨h1, h2, h3⟩ := cons_known hb h.con e
  exact ⟨h.bel, h.row.congr fun i _ => (h2 i).symm, h.tak.congr fun i _ => (h3 i).symm, h1, h.g0, h.t0, h.ne⟩
theorem MS.put {W : World} {g N tb : Nat} {a b : Nat → Int} {k U V : Nat} {wr : World} (h : MS W g N tb a b k wr) (hb : ∀ i, i < k → 0 ≤ b i) (hu : a k = U) (hv : b k = V) (h1 : mt a b k (a k) = -1) (h2 : tk b k V = false) :
    MS W g N tb a b (k + 1) ((wr.setCell ⟨g, U, none⟩ (.int .i64 V)).setCell ⟨tb, V, none⟩ (.bool true)) := by
  obtain ⟨h3, h4⟩ := cons_new hb hv h.con h1 h2
  refine ⟨(h.bel.setCell h.g0 _).setCell h.t0 _, ?_, ?_, h3, h.g0, h.t0, h.ne⟩
  · refine ((h.row.set_ U V).far h.ne _).congr fun i hi => ?_
    rw [mt, hu, hv]
    by_cases e : i = U
    · rw [if_pos e, if_pos (by omega)]
    · rw [if_neg e, if_neg (by omega)]
  · exact ((h.tak.far (Ne.symm h.ne) _).set_ V true).congr fun i _ => (h4 i).symm

/-- What Match answers: the match, or ErrNone. -/
def MOut (w : World) (a b : Nat → Int) (n N : Nat) (e : Ending) (w' : World) : Prop :=
  (Cons a b n ∧ LOut w N (fun x => mt a b n x) 0 e w') ∨ (¬ Cons a b n ∧ LOut w 0 (fun _ => 0) 6 e w')

set_option maxRecDepth 100000 in
set_option maxHeartbeats 6400000 in
theorem match_main (A : Option Addr) (n c : Nat) (a : Nat → Int) (D : Option Addr) (d : Nat) (b : Nat → Int) (N : Nat) (w : World) (hr : Holds w w.heap.size A n a) (hs : Holds w w.heap.size D n b) (h0 : 0 < n) (hn : n ≤ 400)
    (hx : bchk n a n b = 0) (hN : mxs a n + 1 = (N : Int)) (ha : ∀ i, i < n → 0 ≤ a i ∧ a i < 400) (hb : ∀ i, i < n → 0 ≤ b i ∧ b i < 400) : Calls Try.prog 84 #[.slice A n c, .slice D n d] w (MOut w a b n N) := by
  have hN0 : 1 ≤ N := by have := mxs_le a n 0 h0; have := (ha 0 h0).1; omega
  have hN1 : N ≤ 400 := by have := mxs_lt (a := a) (k := n) fun i hi => (ha i hi).2; omega
  have HT := Lib.hid (Two.new (c := c) (d := d) hr hs)
  have HB := Lib.hid ((Below.refl w.heap.size w).alloc (Nat.le_refl _) (.cells #[.slice A n c, .slice D n d] 28))
  have HC := Lib.hid (hx ▸ checkall_any _ A n c a D n d b _ HT.out (by omega) (by omega))
  have HR := Lib.hid hr
  have HS := Lib.hid hs
  have HAV := Lib.hid ha
  have HBV := Lib.hid hb
  have hz45 := zero45
  obtain ⟨zc, hzc⟩ : ∃ zc, zc = Array.replicate 400 (Value.bool false) := ⟨_, rfl⟩
  rw [← hzc] at hz45
  have HZ := Lib.hid hzc
  have z1 : ((n : Int) != (n : Int)) = false := by simp
  have z2 : ((n : Int) == 0) = false := by simp; omega
  obtain ⟨M, hM⟩ : ∃ M, mxs a n = M := ⟨_, rfl⟩
  have HM := Lib.hid hM
  rw [hM] at hN
  have hM0 : 0 ≤ M := by omega
  have hM1 : M ≤ 400 := by omega
  have HNE := Lib.hid hN
  clear hr hs hx ha hb hzc hM
  go_enter Try.func84, Try.ntmps84
  go_wp2_with fail
  refine HC.out.mono ?_
  rintro e w1 ⟨rfl, hb⟩
  have B1 := Lib.hid (HB.out.trans (hb.mono HB.out.size))
  clear hb
  go_wp2_with fail
  refine (max_any A n c a _ h0 (by omega) (HAV.out 0 h0).1 (((HR.out.below B1.out).more B1.out.size).below (below_box w1 _ _) |>.more (by simp))).mono ?_
  rintro e w2 ⟨rfl, rfl⟩
  rw [HM.out]
  go_wp2_with fail
  refine (repeat_any w1.heap.size 1 N (-1) _ (by simp only [World.cell?, heap_alloc_new]; rfl) (by simp) hN0 (by omega)).mono ?_
  rintro e w3 ⟨g, rfl, hg, hrow, hb⟩
  have hg1 : w.heap.size ≤ g := by have := B1.out.size; simp at hg; omega
  have hg2 := hrow.lt
  have K0 : Hid (MS w g N w3.heap.size a b 0 (w3.alloc (.cells zc 121))) := Lib.hid (by
    have hb1 : Below w.heap.size w w3 := (B1.out.alloc B1.out.size _).trans (hb.mono (by simp; exact Nat.le_succ_of_le B1.out.size))
    rw [HZ.out]
    exact ⟨hb1.alloc hb1.size _, (hrow.alloc _).congr fun _ _ => rfl, (BRow.new w3 121).congr fun _ _ => by simp [tk], fun i j hi => absurd hi (by omega), hg1, hb1.size, by omega⟩)
  clear hg hrow hb
  go_wp2
  generalize w3.heap.size = tb at *
  go_loopw [34] (fun i wr => ∃ k : Nat, k ≤ n ∧ i = .int .i64 k ∧ Hid (MS w g N tb a b k wr)) (fun i _ => n - (intOf i).toNat)
  case atStart => exact ⟨0, Nat.zero_le _, rfl, K0⟩
  case round =>
    obtain ⟨k, hk, rfl, hms⟩ := hrel
    by_cases hlt : k < n
    · have h := hms.out
      have ha := HAV.out k hlt
      have hb := HBV.out k hlt
      have hbl : ∀ i, i < k → 0 ≤ b i := fun i hi => (HBV.out i (by omega)).1
      obtain ⟨U, hU⟩ : ∃ U : Nat, a k = U := ⟨(a k).toNat, by omega⟩
      obtain ⟨V, hV⟩ : ∃ V : Nat, b k = V := ⟨(b k).toNat, by omega⟩
      have hUN : U < N := by have := mxs_le a n k hlt; rw [HM.out] at this; omega
      have hV4 : V < 400 := by omega
      obtain ⟨ba, oa, rfl, hla, hca⟩ := (HR.out.below h.bel) (by omega)
      obtain ⟨bb, ob, rfl, hlb, hcb⟩ := (HS.out.below h.bel) (by omega)
      have c1 := hca k hlt
      have c2 := hcb k hlt
      have c3 := h.row.cell hUN
      have c4 := h.tak.cell hV4
      have f3 := h.row.free U
      have f4 := h.tak.free V
      have hne := h.ne
      rw [hU] at c1
      rw [hV] at c2
      have y1 : (k : Int) < (n : Int) := by omega
      have y2 : (U : Int) < (N : Int) := by omega
      have y3 : (V : Int) < 400 := by omega
      obtain ⟨o, ho⟩ : ∃ o, mt a b k (U : Int) = o := ⟨_, rfl⟩
      have ho' : mt a b k (a k) = o := by rw [hU]; exact ho
      rw [ho] at c3
      obtain ⟨t, ht⟩ : ∃ t, tk b k V = t := ⟨_, rfl⟩
      rw [ht] at c4
      clear hca hcb ho K0
      by_cases g1 : o = (V : Int)
      · have z1 : (o == (V : Int)) = true := by simp [g1]
        have HK := Lib.hid (h.same (by omega) (by rw [ho', hV, g1]))
        clear g1 h hms ha hb hbl hU hV ho' ht
        go_wp2
        exact ⟨⟨k + 1, by omega, by go_num, HK⟩, by simp [intOf]; omega⟩
      · have z1 : (o == (V : Int)) = false := by simp [g1]
        by_cases g2 : o = -1
        · have z2 : (o != -1) = false := by simp [g2]
          cases t
          · have HK := Lib.hid (h.put hbl hU hV (ho'.trans g2) ht)
            clear g1 g2 h hms ha hb hbl hU hV ho' ht
            go_wp2
            exact ⟨⟨k + 1, by omega, by go_num, HK⟩, by simp [intOf]; omega⟩
          · have HK := Lib.hid (show MOut w a b n N (.returned (.tuple #[.slice none 0 0, .int .i64 6])) wr from .inr ⟨cons_taken hbl hlt hV (ho'.trans g2) ht, LOut.err h.bel⟩)
            clear g1 g2 h hms ha hb hbl hU hV ho' ht
            go_wp2
            go_ret2
            exact HK.out
        · have z2 : (o != -1) = true := by simp [g2]
          have HK := Lib.hid (show MOut w a b n N (.returned (.tuple #[.slice none 0 0, .int .i64 6])) wr from .inr ⟨cons_other hlt (by rw [ho', hV]; exact g1) (by rw [ho']; exact g2), LOut.err h.bel⟩)
          clear g1 g2 h hms ha hb hbl hU hV ho' ht
          go_wp2
          go_ret2
          exact HK.out
    · have e : k = n := by omega
      subst e
      have h := hms.out
      have HK := Lib.hid (show MOut w a b k N (.returned (.tuple #[.slice (some ⟨g, 0, none⟩) N N, .int .i64 0])) wr from .inl ⟨h.con, LOut.row h.g0 h.row h.bel⟩)
      clear h hms K0
      go_wp2
      go_ret2
      exact HK.out
end Go.Proofs.Ytbafhdinalapoaa.L2
