/- Merged: IMat IMau Kly Fim Fmt Fdm. -/
import Derived.Test.YtbafhdinalapoaaDoorRep
import Derived.Test.YtbafhdinalapoaaDoorIa
import Derived.Test.YtbafhdinalapoaaDoorICat
import Derived.Test.YtbafhdinalapoaaDoorIPar
import Derived.Test.YtbafhdinalapoaaDoorIRen
import Derived.Test.YtbafhdinalapoaaDoorFew
import Derived.Test.YtbafhdinalapoaaDoorFlm
import Derived.Test.YtbafhdinalapoaaDoorDtn
import Derived.Test.YtbafhdinalapoaaDoorFls
import Derived.Test.YtbafhdinalapoaaDoorPmt
import Derived.Test.YtbafhdinalapoaaDoorFkw
import Derived.Test.YtbafhdinalapoaaDoorRnw
import Derived.Deep.RegionHeld3
import Derived.Deep.DeepCutAuto

/- The program's Match. -/
namespace Go.Proofs.YtbafhdinalapoaaDoor.L2
open Go.RowKit
set_option linter.unusedVariables false
set_option linter.unusedSimpArgs false

theorem zero45 (w : World) : (zeroValue 102).run Tryd.prog w = .ok (.agg (Array.replicate 400 (.bool false))) w := by kernel_rfl

/-- The block g is an array of 400 flags. -/
def BRow (w : World) (g : Nat) (F : Nat → Bool) : Prop := ∃ (cs : Array Value) (t : TypeId), w.heap[g]? = some (.cells cs t (0, 0)) ∧ cs.size = 400 ∧ ∀ i, i < 400 → cs[i]? = some (.bool (F i))
section
variable {w w' : World} {g : Nat} {F : Nat → Bool}
theorem BRow.lt (h : BRow w g F) : g < w.heap.size := by
  obtain ⟨cs, t, hg, _⟩ := h
  rcases Nat.lt_or_ge g w.heap.size with hlt | hge
  · exact hlt
  · rw [Array.getElem?_eq_none hge] at hg; cases hg
theorem BRow.cell (h : BRow w g F) {i : Nat} (hi : i < 400) : w.cell? ⟨g, i, none⟩ = some (.bool (F i)) := by
  obtain ⟨cs, t, hg, _, hc⟩ := h
  simp [World.cell?, hg, hc i hi]
theorem BRow.free (h : BRow w g F) (i : Nat) : w.frozen? ⟨g, i, none⟩ = false := by
  obtain ⟨cs, t, hg, _⟩ := h
  simp [World.frozen?, hg]
theorem BRow.keep (h : BRow w g F) (e : w'.heap[g]? = w.heap[g]?) : BRow w' g F := by
  obtain ⟨cs, t, h1, h2⟩ := h
  exact ⟨cs, t, e.trans h1, h2⟩
theorem BRow.far (h : BRow w g F) {p : Addr} (hp : g ≠ p.block) (u : Value) : BRow (w.setCell p u) g F := h.keep (Below.heap_setCell w p u g hp)
theorem BRow.set_ (h : BRow w g F) (i : Nat) (v : Bool) : BRow (w.setCell ⟨g, i, none⟩ (.bool v)) g (fun j => if j = i then v else F j) := by
  obtain ⟨cs, t, h1, h2, h3⟩ := h
  refine ⟨cs.setIfInBounds i (.bool v), t, by simp [World.setCell, Array.getElem?_modify, h1], by simpa using h2, fun j hj => ?_⟩
  rw [Array.getElem?_setIfInBounds]
  by_cases e : i = j
  · subst e; simp; omega
  · have e' : ¬ j = i := fun h => e h.symm
    simp [e, e', h3 j hj]
theorem BRow.congr {F' : Nat → Bool} (h : BRow w g F) (e : ∀ i, i < 400 → F i = F' i) : BRow w g F' := by
  obtain ⟨cs, t, h1, h2, h3⟩ := h
  exact ⟨cs, t, h1, h2, fun i hi => by rw [h3 i hi, e i hi]⟩
theorem BRow.new (w : World) (t : TypeId) : BRow (w.alloc (.cells (Array.replicate 400 (.bool false)) t)) w.heap.size (fun _ => false) :=
  ⟨_, t, heap_alloc_new w _, by simp, fun i hi => by rw [Array.getElem?_replicate, if_pos hi]⟩
end

set_option maxHeartbeats 800000 in
theorem max_any (A : Option Addr) (n c : Nat) (f : Nat → Int) (w : World) (h0 : 0 < n) (hn : n ≤ 5000) (hf : 0 ≤ f 0) (hr : Holds w w.heap.size A n f) :
    Calls Tryd.prog 72 #[.slice A n c] w fun e w' => e = .returned (.int .i64 (mxs f n)) ∧ w = w' := by
  obtain ⟨b, o, rfl, hbl, hc⟩ := hr h0
  have c0 := hc 0 h0
  rw [Nat.add_zero] at c0
  have HC := Lib.hid hc
  have H1 := Lib.hid (show mxs f 1 = f 0 by simp only [mxs]; omega)
  have d1 : decide ((n : Int) < 1) = false := by simp; omega
  have y0 : (0 : Int) < (n : Int) := by omega
  clear hc hr
  go_enter Tryd.func72, Tryd.ntmps72
  go_wp2
  go_loop [3, 4] (fun t i => ∃ k : Nat, 1 ≤ k ∧ k ≤ n ∧ i = .int .i64 k ∧ t = .int .i64 (mxs f k)) (fun _ i => n - (intOf i).toNat)
  case atStart => exact ⟨1, Nat.le_refl _, h0, rfl, by rw [H1.out]⟩
  case round =>
    obtain ⟨k, hk0, hk, rfl, rfl⟩ := hrel
    by_cases hlt : k < n
    · have c1 := HC.out k hlt
      have y1 : (k : Int) < (n : Int) := by omega
      have HM := Lib.hid (show mxs f (k + 1) = max (mxs f k) (f k) from rfl)
      clear c0
      go_wp2
      refine ⟨⟨k + 1, by omega, by omega, by go_num, by rw [HM.out]⟩, by simp [intOf]; omega⟩
    · have e : k = n := by omega
      subst e
      clear c0
      go_wp2
      go_ret
      exact ⟨rfl, rfl⟩

/-- What the loop of Match keeps. -/
structure MS (W : World) (g N tb : Nat) (a b : Nat → Int) (k : Nat) (wr : World) : Prop where
  bel : Below W.heap.size W wr
  row : Row wr g N (fun x => mt a b k x)
  tak : BRow wr tb (tk b k)
  con : Cons a b k
  g0 : W.heap.size ≤ g
  t0 : W.heap.size ≤ tb
  ne : g ≠ tb
theorem MS.same {W : World} {g N tb : Nat} {a b : Nat → Int} {k : Nat} {wr : World} (h : MS W g N tb a b k wr) (hb : 0 ≤ b k) (e : mt a b k (a k) = b k) : MS W g N tb a b (k + 1) wr := by
  obtain ⟨h1, h2, h3⟩ := cons_known hb h.con e
  exact ⟨h.bel, h.row.congr fun i _ => (h2 i).symm, h.tak.congr fun i _ => (h3 i).symm, h1, h.g0, h.t0, h.ne⟩
theorem MS.put {W : World} {g N tb : Nat} {a b : Nat → Int} {k U V : Nat} {wr : World} (h : MS W g N tb a b k wr) (hb : ∀ i, i < k → 0 ≤ b i) (hu : a k = U) (hv : b k = V) (h1 : mt a b k (a k) = -1) (h2 : tk b k V = false) :
    MS W g N tb a b (k + 1) ((wr.setCell ⟨g, U, none⟩ (.int .i64 V)).setCell ⟨tb, V, none⟩ (.bool true)) := by
  obtain ⟨h3, h4⟩ := cons_new hb hv h.con h1 h2
  refine ⟨(h.bel.setCell h.g0 _).setCell h.t0 _, ?_, ?_, h3, h.g0, h.t0, h.ne⟩
  · refine ((h.row.set_ U V).far h.ne _).congr fun i hi => ?_
    rw [mt, hu, hv]
    by_cases e : i = U
    · rw [if_pos e, if_pos (by omega)]
    · rw [if_neg e, if_neg (by omega)]
  · exact ((h.tak.far (Ne.symm h.ne) _).set_ V true).congr fun i _ => (h4 i).symm

/-- What Match answers: the match, or ErrNone. -/
def MOut (w : World) (a b : Nat → Int) (n N : Nat) (e : Ending) (w' : World) : Prop :=
  (Cons a b n ∧ LOut w N (fun x => mt a b n x) 0 e w') ∨ (¬ Cons a b n ∧ LOut w 0 (fun _ => 0) 6 e w')

set_option maxRecDepth 100000 in
set_option maxHeartbeats 6400000 in
theorem match_main (A : Option Addr) (n c : Nat) (a : Nat → Int) (D : Option Addr) (d : Nat) (b : Nat → Int) (N : Nat) (w : World) (hr : Holds w w.heap.size A n a) (hs : Holds w w.heap.size D n b) (h0 : 0 < n) (hn : n ≤ 400)
    (hx : bchk n a n b = 0) (hN : mxs a n + 1 = (N : Int)) (ha : ∀ i, i < n → 0 ≤ a i ∧ a i < 400) (hb : ∀ i, i < n → 0 ≤ b i ∧ b i < 400) : Calls Tryd.prog 43 #[.slice A n c, .slice D n d] w (MOut w a b n N) := by
  have hN0 : 1 ≤ N := by have := mxs_le a n 0 h0; have := (ha 0 h0).1; omega
  have hN1 : N ≤ 400 := by have := mxs_lt (a := a) (k := n) fun i hi => (ha i hi).2; omega
  have HT := Lib.hid (Two.new (c := c) (d := d) hr hs)
  have HB := Lib.hid ((Below.refl w.heap.size w).alloc (Nat.le_refl _) (.cells #[.slice A n c, .slice D n d] 22))
  have HC := Lib.hid (hx ▸ checkall_any _ A n c a D n d b _ HT.out (by omega) (by omega))
  have HR := Lib.hid hr
  have HS := Lib.hid hs
  have HAV := Lib.hid ha
  have HBV := Lib.hid hb
  have hz45 := zero45
  obtain ⟨zc, hzc⟩ : ∃ zc, zc = Array.replicate 400 (Value.bool false) := ⟨_, rfl⟩
  rw [← hzc] at hz45
  have HZ := Lib.hid hzc
  have z1 : ((n : Int) != (n : Int)) = false := by simp
  have z2 : ((n : Int) == 0) = false := by simp; omega
  obtain ⟨M, hM⟩ : ∃ M, mxs a n = M := ⟨_, rfl⟩
  have HM := Lib.hid hM
  rw [hM] at hN
  have hM0 : 0 ≤ M := by omega
  have hM1 : M ≤ 400 := by omega
  have HNE := Lib.hid hN
  clear hr hs hx ha hb hzc hM
  go_enter Tryd.func43, Tryd.ntmps43
  go_wp2_with fail
  refine HC.out.mono ?_
  rintro e w1 ⟨rfl, hb⟩
  have B1 := Lib.hid (HB.out.trans (hb.mono HB.out.size))
  clear hb
  go_wp2_with fail
  refine (max_any A n c a _ h0 (by omega) (HAV.out 0 h0).1 (((HR.out.below B1.out).more B1.out.size).below (below_box w1 _ _) |>.more (by simp))).mono ?_
  rintro e w2 ⟨rfl, rfl⟩
  rw [HM.out]
  go_wp2_with fail
  refine (repeat_any w1.heap.size 1 N (-1) _ (by simp only [World.cell?, heap_alloc_new]; rfl) (by simp) hN0 (by omega)).mono ?_
  rintro e w3 ⟨g, rfl, hg, hrow, hb⟩
  have hg1 : w.heap.size ≤ g := by have := B1.out.size; simp at hg; omega
  have hg2 := hrow.lt
  have K0 : Hid (MS w g N w3.heap.size a b 0 (w3.alloc (.cells zc 102))) := Lib.hid (by
    have hb1 : Below w.heap.size w w3 := (B1.out.alloc B1.out.size _).trans (hb.mono (by simp; exact Nat.le_succ_of_le B1.out.size))
    rw [HZ.out]
    exact ⟨hb1.alloc hb1.size _, (hrow.alloc _).congr fun _ _ => rfl, (BRow.new w3 102).congr fun _ _ => by simp [tk], fun i j hi => absurd hi (by omega), hg1, hb1.size, by omega⟩)
  clear hg hrow hb
  go_wp2
  generalize w3.heap.size = tb at *
  go_loopw [34] (fun i wr => ∃ k : Nat, k ≤ n ∧ i = .int .i64 k ∧ Hid (MS w g N tb a b k wr)) (fun i _ => n - (intOf i).toNat)
  case atStart => exact ⟨0, Nat.zero_le _, rfl, K0⟩
  case round =>
    obtain ⟨k, hk, rfl, hms⟩ := hrel
    by_cases hlt : k < n
    · have h := hms.out
      have ha := HAV.out k hlt
      have hb := HBV.out k hlt
      have hbl : ∀ i, i < k → 0 ≤ b i := fun i hi => (HBV.out i (by omega)).1
      obtain ⟨U, hU⟩ : ∃ U : Nat, a k = U := ⟨(a k).toNat, by omega⟩
      obtain ⟨V, hV⟩ : ∃ V : Nat, b k = V := ⟨(b k).toNat, by omega⟩
      have hUN : U < N := by have := mxs_le a n k hlt; rw [HM.out] at this; omega
      have hV4 : V < 400 := by omega
      obtain ⟨ba, oa, rfl, hla, hca⟩ := (HR.out.below h.bel) (by omega)
      obtain ⟨bb, ob, rfl, hlb, hcb⟩ := (HS.out.below h.bel) (by omega)
      have c1 := hca k hlt
      have c2 := hcb k hlt
      have c3 := h.row.cell hUN
      have c4 := h.tak.cell hV4
      have f3 := h.row.free U
      have f4 := h.tak.free V
      have hne := h.ne
      rw [hU] at c1
      rw [hV] at c2
      have y1 : (k : Int) < (n : Int) := by omega
      have y2 : (U : Int) < (N : Int) := by omega
      have y3 : (V : Int) < 400 := by omega
      obtain ⟨o, ho⟩ : ∃ o, mt a b k (U : Int) = o := ⟨_, rfl⟩
      have ho' : mt a b k (a k) = o := by rw [hU]; exact ho
      rw [ho] at c3
      obtain ⟨t, ht⟩ : ∃ t, tk b k V = t := ⟨_, rfl⟩
      rw [ht] at c4
      clear hca hcb ho K0
      by_cases g1 : o = (V : Int)
      · have z1 : (o == (V : Int)) = true := by simp [g1]
        have HK := Lib.hid (h.same (by omega) (by rw [ho', hV, g1]))
        clear g1 h hms ha hb hbl hU hV ho' ht
        go_wp2
        exact ⟨⟨k + 1, by omega, by go_num, HK⟩, by simp [intOf]; omega⟩
      · have z1 : (o == (V : Int)) = false := by simp [g1]
        by_cases g2 : o = -1
        · have z2 : (o != -1) = false := by simp [g2]
          cases t
          · have HK := Lib.hid (h.put hbl hU hV (ho'.trans g2) ht)
            clear g1 g2 h hms ha hb hbl hU hV ho' ht
            go_wp2
            exact ⟨⟨k + 1, by omega, by go_num, HK⟩, by simp [intOf]; omega⟩
          · have HK := Lib.hid (show MOut w a b n N (.returned (.tuple #[.slice none 0 0, .int .i64 6])) wr from .inr ⟨cons_taken hbl hlt hV (ho'.trans g2) ht, LOut.err h.bel⟩)
            clear g1 g2 h hms ha hb hbl hU hV ho' ht
            go_wp2
            go_ret2
            exact HK.out
        · have z2 : (o != -1) = true := by simp [g2]
          have HK := Lib.hid (show MOut w a b n N (.returned (.tuple #[.slice none 0 0, .int .i64 6])) wr from .inr ⟨cons_other hlt (by rw [ho', hV]; exact g1) (by rw [ho']; exact g2), LOut.err h.bel⟩)
          clear g1 g2 h hms ha hb hbl hU hV ho' ht
          go_wp2
          go_ret2
          exact HK.out
    · have e : k = n := by omega
      subst e
      have h := hms.out
      have HK := Lib.hid (show MOut w a b k N (.returned (.tuple #[.slice (some ⟨g, 0, none⟩) N N, .int .i64 0])) wr from .inl ⟨h.con, LOut.row h.g0 h.row h.bel⟩)
      clear h hms K0
      go_wp2
      go_ret2
      exact HK.out
end Go.Proofs.YtbafhdinalapoaaDoor.L2

/- Match, the program's other answers; the reference's Match. -/
namespace Go.Proofs.YtbafhdinalapoaaDoor.L2
open Go.RowKit
set_option linter.unusedVariables false
set_option linter.unusedSimpArgs false

/-- The error of Match but for ErrNone, or 0. -/
def mchk (n : Nat) (f : Nat → Int) (m : Nat) (g : Nat → Int) : Int := if bchk n f m g ≠ 0 then bchk n f m g else if n ≠ m then 2 else 0

set_option maxHeartbeats 1600000 in
theorem match_err (A : Option Addr) (n c : Nat) (f : Nat → Int) (D : Option Addr) (m d : Nat) (g F : Nat → Int) (w : World) (err : Int) (hr : Holds w w.heap.size A n f) (hs : Holds w w.heap.size D m g) (hn : n ≤ 420) (hm : m ≤ 420)
    (hx : mchk n f m g = err) (hne : (err != 0) = true) : Calls Tryd.prog 43 #[.slice A n c, .slice D m d] w (LOut w 0 F err) := by
  obtain ⟨e1, he1⟩ : ∃ e1, bchk n f m g = e1 := ⟨_, rfl⟩
  have HT := Lib.hid (Two.new (c := c) (d := d) hr hs)
  have HB := Lib.hid ((Below.refl w.heap.size w).alloc (Nat.le_refl _) (.cells #[.slice A n c, .slice D m d] 22))
  have HC := Lib.hid (he1 ▸ checkall_any _ A n c f D m d g _ HT.out hn hm)
  unfold mchk at hx
  rw [he1] at hx
  clear hr hs he1
  by_cases z : e1 = 0
  · subst z
    rw [if_neg (by simp)] at hx
    by_cases z2 : n = m
    · rw [if_neg (by simp [z2])] at hx
      subst hx
      simp at hne
    · rw [if_pos z2] at hx
      subst hx
      have y : ((n : Int) != (m : Int)) = true := by simp; omega
      clear z2
      go_enter Tryd.func43, Tryd.ntmps43
      go_wp2_with fail
      refine HC.out.mono ?_
      rintro e w1 ⟨rfl, hb⟩
      have HF := Lib.hid (HB.out.trans (hb.mono HB.out.size))
      clear hb
      go_wp2
      go_ret2
      exact LOut.err HF.out
  · have z' : (e1 != 0) = true := by simp [z]
    rw [if_pos z] at hx
    subst hx
    clear hne
    go_enter Tryd.func43, Tryd.ntmps43
    go_wp2_with fail
    refine HC.out.mono ?_
    rintro e w1 ⟨rfl, hb⟩
    have HF := Lib.hid (HB.out.trans (hb.mono HB.out.size))
    clear hb
    go_wp2
    go_ret2
    exact LOut.err HF.out

theorem bchk_nil (f g : Nat → Int) : bchk 0 f 0 g = 0 := by
  unfold bchk lchk
  simp

set_option maxHeartbeats 1600000 in
theorem match_nil (A : Option Addr) (c : Nat) (f : Nat → Int) (D : Option Addr) (d : Nat) (g F : Nat → Int) (w : World) : Calls Tryd.prog 43 #[.slice A 0 c, .slice D 0 d] w (LOut w 0 F 0) := by
  have hr : Holds w w.heap.size A 0 f := Holds.none_
  have hs : Holds w w.heap.size D 0 g := Holds.none_
  have HT := Lib.hid (Two.new (c := c) (d := d) hr hs)
  have HB := Lib.hid ((Below.refl w.heap.size w).alloc (Nat.le_refl _) (.cells #[.slice A 0 c, .slice D 0 d] 22))
  have HC := Lib.hid (bchk_nil f g ▸ checkall_any _ A 0 c f D 0 d g _ HT.out (by omega) (by omega))
  clear hr hs
  go_enter Tryd.func43, Tryd.ntmps43
  go_wp2_with fail
  refine HC.out.mono ?_
  rintro e w1 ⟨rfl, hb⟩
  have HF := Lib.hid (HB.out.trans (hb.mono HB.out.size))
  clear hb
  go_wp2
  go_ret2
  exact LOut.err HF.out

/-- What the last loop of the reference's Match keeps. -/
structure RS (W : World) (g N : Nat) (a b : Nat → Int) (k : Nat) (wr : World) : Prop where
  bel : Below W.heap.size W wr
  row : Row wr g N (fun x => mt a b k x)
  con : Cons a b k
  g0 : W.heap.size ≤ g
theorem RS.drewN {W : World} {g N : Nat} {a b : Nat → Int} {k : Nat} {wr : World} (h : RS W g N a b k wr) (m : Nat) : RS W g N a b k (wr.drewN m) := ⟨Go.Proofs.below_drewN' h.bel m, h.row, h.con, h.g0⟩
theorem RS.put {W : World} {g N : Nat} {a b : Nat → Int} {k U V : Nat} {wr : World} (h : RS W g N a b k wr) (hu : a k = U) (hv : b k = V) (hc : ∀ q, q < k → (a k = a q ↔ b k = b q)) :
    RS W g N a b (k + 1) (wr.drew.setCell ⟨g, U, none⟩ (.int .i64 V)) := by
  refine ⟨h.bel.drew.setCell h.g0 _, ?_, fun p q hp hq => ?_, h.g0⟩
  · have hrow : Row wr.drew g N (fun x => mt a b k x) := h.row
    refine (hrow.set_ U V).congr fun i hi => ?_
    rw [mt, hu, hv]
    by_cases e : i = U
    · rw [if_pos e, if_pos (by omega)]
    · rw [if_neg e, if_neg (by omega)]
  · rcases Nat.lt_or_ge p k with h3 | h3
    · exact h.con p q h3 hq
    · obtain rfl : p = k := by omega
      exact hc q hq

end Go.Proofs.YtbafhdinalapoaaDoor.L2

/- FactorKindly: the kinds of a turned grid, and its least draft. -/
namespace Go.Proofs.YtbafhdinalapoaaDoor
open Go.RowKit
set_option linter.unusedVariables false
set_option linter.unusedSimpArgs false
set_option maxRecDepth 100000

open L2 (nd ren fst)
theorem rcode_congr {W y : Nat} {f g : Nat → Bool} (k : Nat) (h : ∀ i, i < k → f (y * W + i) = g (y * W + i)) : rcode W f y k = rcode W g y k := by
  induction k with
  | zero => rfl
  | succ k ih =>
    unfold rcode
    rw [ih fun i hi => h i (by omega), h k (by omega)]
theorem fst_congr {c d : Nat → Int} (x : Int) (m : Nat) (h : ∀ i, i < m → c i = d i) : fst c x m = fst d x m := by
  induction m with
  | zero => rfl
  | succ m ih =>
    have ih := ih fun i hi => h i (by omega)
    unfold fst
    rw [ih, h m (by omega)]
theorem nd_congr {c d : Nat → Int} (m : Nat) (h : ∀ i, i < m → c i = d i) : nd c m = nd d m := by
  induction m with
  | zero => rfl
  | succ m ih =>
    have ih := ih fun i hi => h i (by omega)
    unfold nd
    rw [ih, h m (by omega), fst_congr _ m fun i hi => h i (by omega)]
theorem frn_congr {c d : Nat → Int} (m k : Nat) (h : ∀ i, i < m → c i = d i) : frn c m k = frn d m k := by
  induction m with
  | zero => rfl
  | succ m ih =>
    have ih := ih fun i hi => h i (by omega)
    unfold frn
    rw [ih, h m (by omega), fst_congr _ m fun i hi => h i (by omega), nd_congr m fun i hi => h i (by omega)]
theorem ren_congr_ {c d : Nat → Int} (y : Nat) (h : ∀ i, i ≤ y → c i = d i) : ren c y = ren d y := by
  unfold ren
  rw [h y (by omega), fst_congr _ y fun i hi => h i (by omega), nd_congr _ fun i hi => h i (by have := L2.fst_le d (d y) y; omega)]
/-- The rows of a grid turned twice are those of the grid. -/
theorem tnf2 {W H : Nat} (f : Nat → Bool) {y : Nat} (hy : y < H) : rc W (tnf H W (tnf W H f)) y = rc W f y := by
  unfold rc
  rw [rcode_congr (g := f) W fun i hi => by rw [tnf_at _ _ _ hi, tnf_at _ _ _ hy]]
theorem oft_eqv (W H : Nat) (f : Nat → Bool) : (ofp H W (tnf W H f)).Eqv (ofp W H f).turn := by
  have h : ∀ i, i < H → rc W (tnf H W (tnf W H f)) i = rc W f i := fun i hi => tnf2 f hi
  refine ⟨nd_congr H h, rfl, rfl, rfl, fun i hi => ?_, fun _ _ => rfl, fun t s ht hs => ?_⟩
  · show (ren (rc W (tnf H W (tnf W H f))) i).toNat = (ren (rc W f) i).toNat
    rw [ren_congr_ i fun j hj => h j (Nat.lt_of_le_of_lt hj hi)]
  · show tnf W H f (frn (rc H (tnf W H f)) W t * H + frn (rc W (tnf H W (tnf W H f))) H s) = f (frn (rc W f) H s * W + frn (rc H (tnf W H f)) W t)
    have hs' : s < nd (rc W f) H := by
      have hs : s < nd (rc W (tnf H W (tnf W H f))) H := hs
      rwa [nd_congr H h] at hs
    rw [frn_congr H s h, tnf_at _ _ _ (frn_spec (rc W f) H s hs').1]
/-- Two columns are of one kind exactly if they have the same cells. -/
theorem col_same (W H : Nat) (f : Nat → Bool) (x z : Nat) : (decide (∀ y, y < H → f (y * W + x) = f (y * W + z)) != (ren (rc H (tnf W H f)) x == ren (rc H (tnf W H f)) z)) = false := by
  have e : (ren (rc H (tnf W H f)) x == ren (rc H (tnf W H f)) z) = decide (∀ y, y < H → f (y * W + x) = f (y * W + z)) := by
    rw [Bool.eq_iff_iff]
    simp only [beq_iff_eq, decide_eq_true_eq]
    rw [ren_eq, rc_eq]
    unfold rsm
    rw [decide_eq_true_iff]
    constructor
    · intro h y hy
      have := h y hy
      rwa [tnf_at _ _ _ hy, tnf_at _ _ _ hy] at this
    · intro h y hy
      rw [tnf_at _ _ _ hy, tnf_at _ _ _ hy]
      exact h y hy
  rw [e]
  simp
end Go.Proofs.YtbafhdinalapoaaDoor

/- Arithmetic of least drafts and of their matches. -/
namespace Go.Proofs.YtbafhdinalapoaaDoor
open Go.RowKit
set_option linter.unusedVariables false
set_option linter.unusedSimpArgs false

open L2 (nd ren Cons mt mxs fst plc)
/-- The least draft of a grid weaves it. -/
theorem ofp_wvf (W H : Nat) (f : Nat → Bool) {i : Nat} (hi : i < W * H) : (ofp W H f).wvf i = f i := by
  have hW : 0 < W := Nat.pos_of_ne_zero fun h => by subst h; omega
  have hy : i / W < H := by rw [Nat.div_lt_iff_lt_mul hW, Nat.mul_comm]; exact hi
  have hx : i % W < W := Nat.mod_lt _ hW
  obtain ⟨k, hk, hk1, hk2⟩ := ren_at (rc W f) H (i / W) hy
  obtain ⟨l, hl, hl1, hl2⟩ := ren_at (rc H (tnf W H f)) W (i % W) hx
  have hF : frn (rc H (tnf W H f)) W l < W := (frn_spec _ _ _ hl1).1
  rw [rc_eq] at hk2 hl2
  have r1 : ∀ j, j < W → f (frn (rc W f) H k * W + j) = f (i / W * W + j) := of_decide_eq_true hk2
  have r2 : ∀ j, j < H → tnf W H f (frn (rc H (tnf W H f)) W l * H + j) = tnf W H f (i % W * H + j) := of_decide_eq_true hl2
  show f (frn (rc W f) H (ren (rc W f) (i / W)).toNat * W + frn (rc H (tnf W H f)) W (ren (rc H (tnf W H f)) (i % W)).toNat) = f i
  rw [hk, hl, Int.toNat_natCast, Int.toNat_natCast, r1 _ hF]
  have h3 := r2 (i / W) hy
  rw [tnf_at _ _ _ hy, tnf_at _ _ _ hy] at h3
  rw [h3]
  have h4 := Nat.div_add_mod i W
  rw [Nat.mul_comm] at h4
  rw [h4]
theorem rc_congr {W y : Nat} {f g : Nat → Bool} (h : ∀ i, i < W → f (y * W + i) = g (y * W + i)) : rc W f y = rc W g y := by
  unfold rc; rw [rcode_congr W h]
theorem ofp_lst (W H : Nat) (f : Nat → Bool) : (ofp W H f).lst = true := by
  unfold PD.lst
  rw [decide_eq_true_iff]
  constructor
  · show nd (rc H (tnf W H (ofp W H f).wvf)) W = nd (rc H (tnf W H f)) W
    exact nd_congr W fun x hx => rc_congr fun y hy => by
      rw [tnf_at _ _ _ hy, tnf_at _ _ _ hy]
      exact ofp_wvf W H f (ix_bd hx hy)
  · show nd (rc W (ofp W H f).wvf) H = nd (rc W f) H
    exact nd_congr H fun y hy => rc_congr fun x hx => ofp_wvf W H f (ix_bd hx hy)
theorem lst_le {P : PD} (hP : P.Ok) : nd (rc P.m (tnf P.n P.m P.wvf)) P.n ≤ P.S ∧ nd (rc P.n P.wvf) P.m ≤ P.T :=
  ⟨Nat.le_trans (nd_le_nd _ (fun x => (P.F x : Nat)) P.n fun x z hx hz e => col_kind P hx hz (by exact_mod_cast e)) (nd_bound P.F P.n P.S hP.f),
   Nat.le_trans (nd_le_nd _ (fun x => (P.G x : Nat)) P.m fun x z hx hz e => row_kind P (by exact_mod_cast e)) (nd_bound P.G P.m P.T hP.g)⟩
theorem nd_tight (c : Nat → Int) (F : Nat → Nat) (n S : Nat) (hF : ∀ x, x < n → F x < S) (hc : ∀ x z, x < n → z < n → F x = F z → c x = c z) (h : nd c n = S) :
    (∀ s, s < S → ∃ x, x < n ∧ F x = s) ∧ ∀ x z, x < n → z < n → c x = c z → F x = F z := by
  have a1 : nd c n ≤ nd (fun x => (F x : Nat)) n := nd_le_nd _ _ n fun x z hx hz e => hc x z hx hz (by exact_mod_cast e)
  have b1 := nd_bound F n S hF
  have on := nd_onto F n S hF (by omega)
  refine ⟨on, fun x z hx hz e => ?_⟩
  obtain ⟨u, hu⟩ := Classical.axiomOfChoice (r := fun s x => s < S → x < n ∧ F x = s) fun s => by
    by_cases hs : s < S
    · obtain ⟨x, h1, h2⟩ := on s hs
      exact ⟨x, fun _ => ⟨h1, h2⟩⟩
    · exact ⟨0, fun h => absurd h hs⟩
  have e1 : nd c n = nd (fun x => c (u (F x))) n := nd_congr n fun x hx => by
    obtain ⟨h1, h2⟩ := hu (F x) (hF x hx)
    exact hc _ _ hx h1 h2.symm
  have e2 : nd (fun x => c (u (F x))) n ≤ nd (fun s => c (u s)) S := nd_comp (fun s => c (u s)) F n S hF
  have e3 := L2.nd_le (fun s => c (u s)) S
  have e4 := nd_full (fun s => c (u s)) S (by omega)
  refine e4 _ _ (hF x hx) (hF z hz) ?_
  show c (u (F x)) = c (u (F z))
  obtain ⟨p1, p2⟩ := hu (F x) (hF x hx)
  obtain ⟨q1, q2⟩ := hu (F z) (hF z hz)
  rw [hc _ _ p1 hx p2, hc _ _ q1 hz q2, e]
/-- What a draft that is least has. -/
structure PD.Lst (P : PD) : Prop where
  s : nd (rc P.m (tnf P.n P.m P.wvf)) P.n = P.S
  t : nd (rc P.n P.wvf) P.m = P.T
  f : ∀ s, s < P.S → ∃ x, x < P.n ∧ P.F x = s
  g : ∀ t, t < P.T → ∃ y, y < P.m ∧ P.G y = t
  c : ∀ x z, x < P.n → z < P.n → (rc P.m (tnf P.n P.m P.wvf) x = rc P.m (tnf P.n P.m P.wvf) z ↔ P.F x = P.F z)
  r : ∀ x z, x < P.m → z < P.m → (rc P.n P.wvf x = rc P.n P.wvf z ↔ P.G x = P.G z)
theorem lst_is {P : PD} (hP : P.Ok) (h : P.lst = true) : P.Lst := by
  obtain ⟨h1, h2⟩ := of_decide_eq_true h
  obtain ⟨a1, a2⟩ := nd_tight _ P.F P.n P.S hP.f (fun x z hx hz e => col_kind P hx hz e) h1
  obtain ⟨b1, b2⟩ := nd_tight _ P.G P.m P.T hP.g (fun x z hx hz e => row_kind P e) h2
  exact ⟨h1, h2, a1, b1, fun x z hx hz => ⟨a2 x z hx hz, fun e => col_kind P hx hz e⟩, fun x z hx hz => ⟨b2 x z hx hz, fun e => row_kind P e⟩⟩
theorem mt_own {a b : Nat → Int} {n i : Nat} (hb : ∀ i, i < n → 0 ≤ b i) (h : Cons a b n) (hi : i < n) : mt a b n (a i) = b i := by
  have hne : mt a b n (a i) ≠ -1 := fun e => L2.mt_neg hb e i hi rfl
  obtain ⟨j, hj, e1, e2⟩ := L2.mt_pos hne
  rw [← e2]
  exact (h.sym hj hi).1 e1
theorem mxs_bd {a : Nat → Int} {k : Nat} {N : Int} (h0 : 0 ≤ N) (ha : ∀ i, i < k → a i < N) : mxs a k < N := by
  induction k with
  | zero => simp [mxs]; omega
  | succ k ih => unfold mxs; have := ih fun i hi => ha i (by omega); have := ha k (by omega); omega
theorem mxs_onto {a : Nat → Nat} {n S : Nat} (hS : 1 ≤ S) (ha : ∀ i, i < n → a i < S) (h : ∀ s, s < S → ∃ i, i < n ∧ a i = s) : mxs (fun i => (a i : Nat)) n + 1 = (S : Int) := by
  have h1 : mxs (fun i => ((a i : Nat) : Int)) n < (S : Int) := mxs_bd (by omega) fun i hi => by have := ha i hi; show ((a i : Nat) : Int) < _; omega
  obtain ⟨i, hi, e⟩ := h (S - 1) (by omega)
  have h2 : ((a i : Nat) : Int) ≤ mxs (fun i => ((a i : Nat) : Int)) n := L2.mxs_le (fun i => ((a i : Nat) : Int)) n i hi
  omega
/-- The match of two lists that have all numbers is a way of numbering. -/
theorem mt_prm {a b : Nat → Nat} {n S : Nat} (hb : ∀ i, i < n → b i < S) (h : Cons (fun i => (a i : Nat)) (fun i => (b i : Nat)) n) (on : ∀ s, s < S → ∃ i, i < n ∧ a i = s) :
    prm S (fun x => mt (fun i => (a i : Nat)) (fun i => (b i : Nat)) n (x : Nat)) S = true := by
  have own : ∀ s, s < S → ∃ i, i < n ∧ a i = s ∧ mt (fun i => ((a i : Nat) : Int)) (fun i => ((b i : Nat) : Int)) n (s : Nat) = (b i : Nat) := fun s hs => by
    obtain ⟨i, hi, e⟩ := on s hs
    refine ⟨i, hi, e, ?_⟩
    have := mt_own (a := fun i => ((a i : Nat) : Int)) (b := fun i => ((b i : Nat) : Int)) (fun i _ => by simp) h hi
    rw [← e]; exact this
  unfold prm
  rw [decide_eq_true_iff]
  refine ⟨rfl, fun s hs => ?_, fun s hs hlt => ?_⟩
  · obtain ⟨i, hi, e, hm⟩ := own s hs
    show 0 ≤ mt _ _ n (s : Nat) ∧ mt _ _ n (s : Nat) < (S : Int)
    rw [hm]
    have := hb i hi
    omega
  · have e1 := L2.fst_at _ _ _ hlt
    generalize hj : fst (fun x => mt (fun i => ((a i : Nat) : Int)) (fun i => ((b i : Nat) : Int)) n (x : Nat)) (mt (fun i => ((a i : Nat) : Int)) (fun i => ((b i : Nat) : Int)) n (s : Nat)) s = j at *
    obtain ⟨i, hi, e, hm⟩ := own s hs
    obtain ⟨k, hk, e', hm'⟩ := own j (by omega)
    have e2 : ((b k : Nat) : Int) = (b i : Nat) := hm'.symm.trans (e1.trans hm)
    have e3 : ((a k : Nat) : Int) = (a i : Nat) := (h.sym hk hi).2 e2
    have e4 : a k = a i := by exact_mod_cast e3
    omega
/-- The match of the threadings. -/
def PD.mf (P Q : PD) : Nat → Int := fun x => mt (fun i => (P.F i : Nat)) (fun i => (Q.F i : Nat)) P.n (x : Nat)
def PD.mg (P Q : PD) : Nat → Int := fun x => mt (fun i => (P.G i : Nat)) (fun i => (Q.G i : Nat)) P.m (x : Nat)
/-- The two drafts have a match. -/
structure Mtc (P Q : PD) : Prop where
  n : P.n = Q.n
  m : P.m = Q.m
  cf : Cons (fun i => (P.F i : Nat)) (fun i => (Q.F i : Nat)) P.n
  cg : Cons (fun i => (P.G i : Nat)) (fun i => (Q.G i : Nat)) P.m
  pf : prm P.S (P.mf Q) P.S = true
  pg : prm P.T (P.mg Q) P.T = true
  e : (P.rnm (P.mf Q) (P.mg Q)).Eqv Q
/-- Each shaft and each treadle is used. -/
structure PD.All (P : PD) : Prop where
  f : ∀ s, s < P.S → ∃ x, x < P.n ∧ P.F x = s
  g : ∀ t, t < P.T → ∃ y, y < P.m ∧ P.G y = t
theorem PD.Lst.all {P : PD} (h : P.Lst) : P.All := ⟨h.f, h.g⟩
theorem ren_frn (c : Nat → Int) (m k : Nat) (hk : k < nd c m) : ren c (frn c m k) = k := by
  obtain ⟨h1, h2, h3⟩ := frn_spec c m k hk
  have h4 := L2.fst_le c (c (frn c m k)) (frn c m k)
  have h5 : fst c (c (frn c m k)) (frn c m k) = frn c m k := by omega
  unfold ren
  rw [h5, h2]
theorem lst_mtc {P : PD} (hP : P.Ok) (h : P.Lst) : Mtc (ofp P.n P.m P.wvf) P := by
  have cf : Cons (fun i => ((ofp P.n P.m P.wvf).F i : Nat)) (fun i => (P.F i : Nat)) P.n := fun i j hi hj => by
    show (((ren (rc P.m (tnf P.n P.m P.wvf)) i).toNat : Nat) : Int) = ((ren (rc P.m (tnf P.n P.m P.wvf)) j).toNat : Nat) ↔ ((P.F i : Nat) : Int) = (P.F j : Nat)
    rw [ren_nat _ P.n i hi, ren_nat _ P.n j (by omega), ren_eq, h.c i j hi (by omega)]
    omega
  have cg : Cons (fun i => ((ofp P.n P.m P.wvf).G i : Nat)) (fun i => (P.G i : Nat)) P.m := fun i j hi hj => by
    show (((ren (rc P.n P.wvf) i).toNat : Nat) : Int) = ((ren (rc P.n P.wvf) j).toNat : Nat) ↔ ((P.G i : Nat) : Int) = (P.G j : Nat)
    rw [ren_nat _ P.m i hi, ren_nat _ P.m j (by omega), ren_eq, h.r i j hi (by omega)]
    omega
  have qS : (ofp P.n P.m P.wvf).S = P.S := h.s
  have qT : (ofp P.n P.m P.wvf).T = P.T := h.t
  have onF : ∀ s, s < P.S → (ofp P.n P.m P.wvf).F (frn (rc P.m (tnf P.n P.m P.wvf)) P.n s) = s ∧ frn (rc P.m (tnf P.n P.m P.wvf)) P.n s < P.n := fun s hs => by
    have h1 := ren_frn (rc P.m (tnf P.n P.m P.wvf)) P.n s (by rw [h.s]; exact hs)
    refine ⟨?_, (frn_spec _ _ _ (by rw [h.s]; exact hs)).1⟩
    show (ren _ _).toNat = s
    rw [h1]; simp
  have onG : ∀ s, s < P.T → (ofp P.n P.m P.wvf).G (frn (rc P.n P.wvf) P.m s) = s ∧ frn (rc P.n P.wvf) P.m s < P.m := fun s hs => by
    have h1 := ren_frn (rc P.n P.wvf) P.m s (by rw [h.t]; exact hs)
    refine ⟨?_, (frn_spec _ _ _ (by rw [h.t]; exact hs)).1⟩
    show (ren _ _).toNat = s
    rw [h1]; simp
  have pf : prm P.S ((ofp P.n P.m P.wvf).mf P) P.S = true := mt_prm (n := P.n) hP.f cf fun s hs => ⟨_, (onF s hs).2, (onF s hs).1⟩
  have pg : prm P.T ((ofp P.n P.m P.wvf).mg P) P.T = true := mt_prm (n := P.m) hP.g cg fun s hs => ⟨_, (onG s hs).2, (onG s hs).1⟩
  have ownF : ∀ i, i < P.n → (ofp P.n P.m P.wvf).mf P ((ofp P.n P.m P.wvf).F i) = (P.F i : Nat) := fun i hi => mt_own (a := fun i => (((ofp P.n P.m P.wvf).F i : Nat) : Int)) (b := fun i => ((P.F i : Nat) : Int)) (fun i _ => by simp) cf hi
  have ownG : ∀ i, i < P.m → (ofp P.n P.m P.wvf).mg P ((ofp P.n P.m P.wvf).G i) = (P.G i : Nat) := fun i hi => mt_own (a := fun i => (((ofp P.n P.m P.wvf).G i : Nat) : Int)) (b := fun i => ((P.G i : Nat) : Int)) (fun i _ => by simp) cg hi
  refine ⟨rfl, rfl, cf, cg, by rw [qS]; exact pf, by rw [qT]; exact pg, ?_⟩
  refine ⟨qS, qT, rfl, rfl, fun i hi => ?_, fun i hi => ?_, fun t s ht hs => ?_⟩
  · show ((ofp P.n P.m P.wvf).mf P ((ofp P.n P.m P.wvf).F i)).toNat = P.F i
    rw [ownF i hi]; simp
  · show ((ofp P.n P.m P.wvf).mg P ((ofp P.n P.m P.wvf).G i)).toNat = P.G i
    rw [ownG i hi]; simp
  · have hs' : s < P.S := by rw [← qS]; exact hs
    have ht' : t < P.T := by rw [← qT]; exact ht
    obtain ⟨a1, a2, a3⟩ := prm_has pf hs'
    obtain ⟨b1, b2, b3⟩ := prm_has pg ht'
    show P.wvf (frn (rc P.n P.wvf) P.m (plc ((ofp P.n P.m P.wvf).mg P) t (ofp P.n P.m P.wvf).T).toNat * P.n + frn (rc P.m (tnf P.n P.m P.wvf)) P.n (plc ((ofp P.n P.m P.wvf).mf P) s (ofp P.n P.m P.wvf).S).toNat) = P.L t s
    rw [qS, qT, a1, b1, Int.toNat_natCast, Int.toNat_natCast]
    generalize fst ((ofp P.n P.m P.wvf).mf P) (s : Int) P.S = k at *
    generalize fst ((ofp P.n P.m P.wvf).mg P) (t : Int) P.T = l at *
    obtain ⟨c1, c2⟩ := onF k a2
    obtain ⟨d1, d2⟩ := onG l b2
    have e1 := ownF _ c2
    have e2 := ownG _ d2
    rw [c1, a3] at e1
    rw [d1, b3] at e2
    rw [wvf_at P c2]
    have e3 : P.F (frn (rc P.m (tnf P.n P.m P.wvf)) P.n k) = s := by exact_mod_cast e1.symm
    have e4 : P.G (frn (rc P.n P.wvf) P.m l) = t := by exact_mod_cast e2.symm
    rw [e3, e4]
theorem cnt_all {d : Nat → Nat} {m : Nat} : ∀ T, (∀ t, t < T → ∃ j, j < m ∧ d j = t) → cnt d m T = T
  | 0, _ => rfl
  | T + 1, h => by
    unfold cnt
    rw [cnt_all T (fun t ht => h t (by omega)), decide_eq_true (h T (by omega))]
    rfl
theorem all_nd {P : PD} (hP : P.Ok) : P.All ↔ nd (fun i => (P.F i : Nat)) P.n = P.S ∧ nd (fun i => (P.G i : Nat)) P.m = P.T := by
  constructor
  · intro h
    rw [nd_cnt P.F P.n P.S hP.f, nd_cnt P.G P.m P.T hP.g]
    exact ⟨cnt_all _ h.f, cnt_all _ h.g⟩
  · rintro ⟨h1, h2⟩
    exact ⟨nd_onto P.F P.n P.S hP.f h1, nd_onto P.G P.m P.T hP.g h2⟩
theorem rnm_ok {P : PD} (hP : P.Ok) {a b : Nat → Int} (ha : prm P.S a P.S = true) (hb : prm P.T b P.T = true) : (P.rnm a b).Ok := by
  refine ⟨hP.s0, hP.s1, hP.t0, hP.t1, hP.n0, hP.n1, hP.m0, hP.m1, fun i hi => ?_, fun i hi => ?_⟩
  · have := prm_in ha (hP.f i hi)
    show (a (P.F i)).toNat < P.S
    omega
  · have := prm_in hb (hP.g i hi)
    show (b (P.G i)).toNat < P.T
    omega
theorem rnm_weave {P : PD} (hP : P.Ok) {a b : Nat → Int} (ha : prm P.S a P.S = true) (hb : prm P.T b P.T = true) {x y : Nat} (hx : x < P.n) (hy : y < P.m) :
    (P.rnm a b).L ((P.rnm a b).G y) ((P.rnm a b).F x) = P.L (P.G y) (P.F x) := by
  have h1 := prm_in ha (hP.f x hx)
  have h2 := prm_in hb (hP.g y hy)
  show P.L (plc b ((b (P.G y)).toNat : Nat) P.T).toNat (plc a ((a (P.F x)).toNat : Nat) P.S).toNat = _
  rw [Int.toNat_of_nonneg h1.1, Int.toNat_of_nonneg h2.1, prm_plc ha (hP.f x hx), prm_plc hb (hP.g y hy)]
  rfl
theorem prm_inj {N : Nat} {f : Nat → Int} (h : prm N f N = true) {i j : Nat} (hi : i < N) (hj : j < N) (e : f i = f j) : i = j := by
  have h1 := prm_plc h hi
  have h2 := prm_plc h hj
  rw [e, h2] at h1
  exact_mod_cast h1.symm
theorem cons_rnm {n S : Nat} {F : Nat → Nat} {a : Nat → Int} (hF : ∀ i, i < n → F i < S) (ha : prm S a S = true) : Cons (fun i => (F i : Nat)) (fun i => ((a (F i)).toNat : Nat)) n := fun i j hi hj => by
  have h1 := prm_in ha (hF i hi)
  have h2 := prm_in ha (hF j (by omega))
  show ((F i : Nat) : Int) = (F j : Nat) ↔ (((a (F i)).toNat : Nat) : Int) = ((a (F j)).toNat : Nat)
  rw [Int.toNat_of_nonneg h1.1, Int.toNat_of_nonneg h2.1]
  constructor
  · intro e
    have : F i = F j := by exact_mod_cast e
    rw [this]
  · intro e
    rw [prm_inj ha (hF i hi) (hF j (by omega)) e]
theorem mt_rnm {n S : Nat} {F : Nat → Nat} {a : Nat → Int} (hF : ∀ i, i < n → F i < S) (ha : prm S a S = true) (on : ∀ s, s < S → ∃ i, i < n ∧ F i = s) {s : Nat} (hs : s < S) :
    mt (fun i => (F i : Nat)) (fun i => ((a (F i)).toNat : Nat)) n (s : Nat) = a s := by
  obtain ⟨i, hi, e⟩ := on s hs
  have h := mt_own (a := fun i => ((F i : Nat) : Int)) (b := fun i => (((a (F i)).toNat : Nat) : Int)) (fun i _ => Int.natCast_nonneg _) (cons_rnm hF ha) hi
  have h1 := prm_in ha hs
  subst e
  exact h.trans (Int.toNat_of_nonneg h1.1)
/-- A draft and the renumbered one have a match: the lists. -/
theorem rnm_mtc {P : PD} (hP : P.Ok) (hu : P.All) {a b : Nat → Int} (ha : prm P.S a P.S = true) (hb : prm P.T b P.T = true) :
    Mtc P (P.rnm a b) ∧ (P.rnm a b).All ∧ (∀ s, s < P.S → P.mf (P.rnm a b) s = a s) ∧ ∀ t, t < P.T → P.mg (P.rnm a b) t = b t := by
  have hok := rnm_ok hP ha hb
  have e1 : ∀ s, s < P.S → P.mf (P.rnm a b) s = a s := fun s hs => mt_rnm hP.f ha hu.f hs
  have e2 : ∀ t, t < P.T → P.mg (P.rnm a b) t = b t := fun t ht => mt_rnm hP.g hb hu.g ht
  have c1 := cons_rnm hP.f ha
  have c2 := cons_rnm hP.g hb
  refine ⟨⟨rfl, rfl, c1, c2, mt_prm (n := P.n) hok.f c1 hu.f, mt_prm (n := P.m) hok.g c2 hu.g, ⟨rfl, rfl, rfl, rfl, fun i hi => ?_, fun i hi => ?_, fun t s ht hs => ?_⟩⟩, ⟨fun s hs => ?_, fun t ht => ?_⟩, e1, e2⟩
  · show (P.mf (P.rnm a b) (P.F i)).toNat = (a (P.F i)).toNat
    rw [e1 _ (hP.f i hi)]
  · show (P.mg (P.rnm a b) (P.G i)).toNat = (b (P.G i)).toNat
    rw [e2 _ (hP.g i hi)]
  · show P.L (plc (P.mg (P.rnm a b)) t P.T).toNat (plc (P.mf (P.rnm a b)) s P.S).toNat = P.L (plc b t P.T).toNat (plc a s P.S).toNat
    rw [plc_congr e1, plc_congr e2]
  · obtain ⟨-, h2, h3⟩ := prm_has ha (show s < P.S from hs)
    obtain ⟨i, hi, e⟩ := hu.f _ h2
    refine ⟨i, hi, ?_⟩
    show (a (P.F i)).toNat = s
    rw [e, h3]; simp
  · obtain ⟨-, h2, h3⟩ := prm_has hb (show t < P.T from ht)
    obtain ⟨i, hi, e⟩ := hu.g _ h2
    refine ⟨i, hi, ?_⟩
    show (b (P.G i)).toNat = t
    rw [e, h3]; simp
/-- A draft in which all is used has itself as match. -/
theorem self_mtc {P : PD} (hP : P.Ok) (hu : P.All) : Mtc P P := by
  have c1 : Cons (fun i => ((P.F i : Nat) : Int)) (fun i => ((P.F i : Nat) : Int)) P.n := fun i j _ _ => Iff.rfl
  have c2 : Cons (fun i => ((P.G i : Nat) : Int)) (fun i => ((P.G i : Nat) : Int)) P.m := fun i j _ _ => Iff.rfl
  have e1 : ∀ s, s < P.S → P.mf P s = (s : Nat) := fun s hs => by
    obtain ⟨i, hi, e⟩ := hu.f s hs
    subst e
    exact mt_own (a := fun i => ((P.F i : Nat) : Int)) (b := fun i => ((P.F i : Nat) : Int)) (fun i _ => by simp) c1 hi
  have e2 : ∀ t, t < P.T → P.mg P t = (t : Nat) := fun t ht => by
    obtain ⟨i, hi, e⟩ := hu.g t ht
    subst e
    exact mt_own (a := fun i => ((P.G i : Nat) : Int)) (b := fun i => ((P.G i : Nat) : Int)) (fun i _ => by simp) c2 hi
  have pf : prm P.S (P.mf P) P.S = true := mt_prm (n := P.n) hP.f c1 hu.f
  have pg : prm P.T (P.mg P) P.T = true := mt_prm (n := P.m) hP.g c2 hu.g
  refine ⟨rfl, rfl, c1, c2, pf, pg, ⟨rfl, rfl, rfl, rfl, fun i hi => ?_, fun i hi => ?_, fun t s ht hs => ?_⟩⟩
  · show (P.mf P (P.F i)).toNat = P.F i
    rw [e1 _ (hP.f i hi)]; simp
  · show (P.mg P (P.G i)).toNat = P.G i
    rw [e2 _ (hP.g i hi)]; simp
  · show P.L (plc (P.mg P) t P.T).toNat (plc (P.mf P) s P.S).toNat = P.L t s
    have h1 := prm_plc pf (show s < P.S from hs)
    have h2 := prm_plc pg (show t < P.T from ht)
    rw [e1 s hs] at h1
    rw [e2 t ht] at h2
    rw [h1, h2]; simp
end Go.Proofs.YtbafhdinalapoaaDoor

/- The program's Match of two drafts. -/
namespace Go.Proofs.YtbafhdinalapoaaDoor
open Go.RowKit
set_option linter.unusedVariables false
set_option linter.unusedSimpArgs false
set_option maxRecDepth 100000

open L2 (nd ren Cons mt mxs)
/-- Two lists and an error came back. -/
def M3 (w : World) (l1 : Nat) (F1 : Nat → Int) (l2 : Nat) (F2 : Nat → Int) (err : Int) (e : Ending) (w' : World) : Prop :=
  ∃ A1 c1 A2 c2, e = .returned (.tuple #[.slice A1 l1 c1, .slice A2 l2 c2, .int .i64 err]) ∧ (0 < l1 → ∃ k, A1 = some ⟨k, 0, none⟩ ∧ L2.Row w' k l1 F1) ∧ (0 < l2 → ∃ k, A2 = some ⟨k, 0, none⟩ ∧ L2.Row w' k l2 F2) ∧ Below w.heap.size w w'
theorem M3.no {w w' : World} {F1 F2 : Nat → Int} {err : Int} (h : Below w.heap.size w w') : M3 w 0 F1 0 F2 err (.returned (.tuple #[.slice none 0 0, .slice none 0 0, .int .i64 err])) w' :=
  ⟨_, _, _, _, rfl, fun h => absurd h (by omega), fun h => absurd h (by omega), h⟩
/-- All shafts and treadles are used. -/
def Dr.usd (D : Dr) : Prop := (nd D.f D.n : Int) = D.S ∧ (nd D.g D.m : Int) = D.T

set_option maxHeartbeats 800000 in
theorem fm_err1 (D E : Dr) {err : Int} (F1 F2 : Nat → Int) (hz : D.ck = err) (hne : (err != 0) = true) (hs : D.Small) (w : World) (hd : D.In w w.heap.size) :
    Calls Tryd.prog 12 #[.agg #[.int .i64 D.S, .int .i64 D.T, .slice D.A D.n D.c, .slice D.B D.m D.d, .int .i64 D.W, .int .i64 D.H, .slice D.C D.k D.e], .agg #[.int .i64 E.S, .int .i64 E.T, .slice E.A E.n E.c, .slice E.B E.m E.d, .int .i64 E.W, .int .i64 E.H, .slice E.C E.k E.e]] w (M3 w 0 F1 0 F2 err) := by
  have LB0 := Lib.hid (show Below w.heap.size w ((w.alloc (.cells #[.int .i64 D.S, .int .i64 D.T, .slice D.A D.n D.c, .slice D.B D.m D.d, .int .i64 D.W, .int .i64 D.H, .slice D.C D.k D.e] 27)).alloc (.cells #[.int .i64 E.S, .int .i64 E.T, .slice E.A E.n E.c, .slice E.B E.m E.d, .int .i64 E.W, .int .i64 E.H, .slice E.C E.k E.e] 27)) from ((Below.refl _ _).alloc (Nat.le_refl _) _).alloc (by simp) _)
  have X0 := Lib.hid (show DBox ((w.alloc (.cells #[.int .i64 D.S, .int .i64 D.T, .slice D.A D.n D.c, .slice D.B D.m D.d, .int .i64 D.W, .int .i64 D.H, .slice D.C D.k D.e] 27)).alloc (.cells #[.int .i64 E.S, .int .i64 E.T, .slice E.A E.n E.c, .slice E.B E.m E.d, .int .i64 E.W, .int .i64 E.H, .slice E.C E.k E.e] 27)) w.heap.size D from (DBox.new w D).alloc _)
  have Y0 : Hid (DBox ((w.alloc (.cells #[.int .i64 D.S, .int .i64 D.T, .slice D.A D.n D.c, .slice D.B D.m D.d, .int .i64 D.W, .int .i64 D.H, .slice D.C D.k D.e] 27)).alloc (.cells #[.int .i64 E.S, .int .i64 E.T, .slice E.A E.n E.c, .slice E.B E.m E.d, .int .i64 E.W, .int .i64 E.H, .slice E.C E.k E.e] 27)) (w.heap.size + 1) E) := Lib.hid (by
    have h := DBox.new (w.alloc (.cells #[.int .i64 D.S, .int .i64 D.T, .slice D.A D.n D.c, .slice D.B D.m D.d, .int .i64 D.W, .int .i64 D.H, .slice D.C D.k D.e] 27)) E
    simp only [World.size_alloc] at h
    exact h)
  have HC := Lib.hid (dck_is hz hs _ (hd.next LB0.out))
  clear hz hs hd
  go_enter Tryd.func12, Tryd.ntmps12
  obtain ⟨q0, q1, q2, q3, q4, q5, q6, q7⟩ := X0.out.all
  go_wp2_with fail
  clear q0 q1 q2 q3 q4 q5 q6 q7 
  refine (HC.out).mono ?_
  rintro e w1 ⟨rfl, hb⟩
  have X1 := Lib.hid (X0.out.next hb)
  have Y1 := Lib.hid (Y0.out.next hb)
  have LB1 := Lib.hid (LB0.out.trans (hb.mono LB0.out.size))
  clear hb X0 Y0 LB0
  go_wp2
  exact bodyPost_ret (v := .tuple #[.slice none 0 0, .slice none 0 0, .int .i64 err]) (by simp [results, Tryd.results12, go_sem]) rfl (M3.no LB1.out)
set_option maxHeartbeats 800000 in
theorem fm_err2 (D E : Dr) {err : Int} (F1 F2 : Nat → Int) (h0 : D.ck = 0) (hz : E.ck = err) (hne : (err != 0) = true) (hs : D.Small) (ht : E.Small) (w : World) (hd : D.In w w.heap.size) (he : E.In w w.heap.size) :
    Calls Tryd.prog 12 #[.agg #[.int .i64 D.S, .int .i64 D.T, .slice D.A D.n D.c, .slice D.B D.m D.d, .int .i64 D.W, .int .i64 D.H, .slice D.C D.k D.e], .agg #[.int .i64 E.S, .int .i64 E.T, .slice E.A E.n E.c, .slice E.B E.m E.d, .int .i64 E.W, .int .i64 E.H, .slice E.C E.k E.e]] w (M3 w 0 F1 0 F2 err) := by
  have LB0 := Lib.hid (show Below w.heap.size w ((w.alloc (.cells #[.int .i64 D.S, .int .i64 D.T, .slice D.A D.n D.c, .slice D.B D.m D.d, .int .i64 D.W, .int .i64 D.H, .slice D.C D.k D.e] 27)).alloc (.cells #[.int .i64 E.S, .int .i64 E.T, .slice E.A E.n E.c, .slice E.B E.m E.d, .int .i64 E.W, .int .i64 E.H, .slice E.C E.k E.e] 27)) from ((Below.refl _ _).alloc (Nat.le_refl _) _).alloc (by simp) _)
  have X0 := Lib.hid (show DBox ((w.alloc (.cells #[.int .i64 D.S, .int .i64 D.T, .slice D.A D.n D.c, .slice D.B D.m D.d, .int .i64 D.W, .int .i64 D.H, .slice D.C D.k D.e] 27)).alloc (.cells #[.int .i64 E.S, .int .i64 E.T, .slice E.A E.n E.c, .slice E.B E.m E.d, .int .i64 E.W, .int .i64 E.H, .slice E.C E.k E.e] 27)) w.heap.size D from (DBox.new w D).alloc _)
  have Y0 : Hid (DBox ((w.alloc (.cells #[.int .i64 D.S, .int .i64 D.T, .slice D.A D.n D.c, .slice D.B D.m D.d, .int .i64 D.W, .int .i64 D.H, .slice D.C D.k D.e] 27)).alloc (.cells #[.int .i64 E.S, .int .i64 E.T, .slice E.A E.n E.c, .slice E.B E.m E.d, .int .i64 E.W, .int .i64 E.H, .slice E.C E.k E.e] 27)) (w.heap.size + 1) E) := Lib.hid (by
    have h := DBox.new (w.alloc (.cells #[.int .i64 D.S, .int .i64 D.T, .slice D.A D.n D.c, .slice D.B D.m D.d, .int .i64 D.W, .int .i64 D.H, .slice D.C D.k D.e] 27)) E
    simp only [World.size_alloc] at h
    exact h)
  have HC := Lib.hid (dck_is h0 hs _ (hd.next LB0.out))
  have HC2 := Lib.hid (fun w' (h : Below w.heap.size w w') => dck_is hz ht w' (he.next h))
  clear hz hs hd h0 ht he
  go_enter Tryd.func12, Tryd.ntmps12
  obtain ⟨q0, q1, q2, q3, q4, q5, q6, q7⟩ := X0.out.all
  go_wp2_with fail
  clear q0 q1 q2 q3 q4 q5 q6 q7 
  refine (HC.out).mono ?_
  rintro e w1 ⟨rfl, hb⟩
  have X1 := Lib.hid (X0.out.next hb)
  have Y1 := Lib.hid (Y0.out.next hb)
  have LB1 := Lib.hid (LB0.out.trans (hb.mono LB0.out.size))
  clear hb X0 Y0 LB0
  obtain ⟨r0, r1, r2, r3, r4, r5, r6, r7⟩ := Y1.out.all
  go_wp2_with fail
  clear  r0 r1 r2 r3 r4 r5 r6 r7
  refine (HC2.out _ LB1.out).mono ?_
  rintro e w2 ⟨rfl, hb⟩
  have X2 := Lib.hid (X1.out.next hb)
  have Y2 := Lib.hid (Y1.out.next hb)
  have LB2 := Lib.hid (LB1.out.trans (hb.mono LB1.out.size))
  clear hb X1 Y1 LB1
  go_wp2
  exact bodyPost_ret (v := .tuple #[.slice none 0 0, .slice none 0 0, .int .i64 err]) (by simp [results, Tryd.results12, go_sem]) rfl (M3.no LB2.out)

theorem usd_lchk {n : Nat} {f : Nat → Int} {F : Nat → Nat} {S : Nat} (hn : n ≤ 64) (hS : S ≤ 40) (h : ∀ i, i < n → f i = F i) (hF : ∀ i, i < n → F i < S) : L2.lchk n f = 0 := by
  unfold L2.lchk
  rw [if_neg (by omega), if_pos]
  rw [decide_eq_true_eq]
  intro i hi
  have h1 := h i hi
  have h2 := hF i hi
  omega
theorem Dr.Is.lf {D : Dr} {P : PD} (hI : D.Is P) (hP : P.Ok) : L2.lchk D.n D.f = 0 ∧ L2.lchk D.m D.g = 0 := by
  rw [hI.n, hI.m]
  exact ⟨usd_lchk hP.n1 hP.s1 hI.f hP.f, usd_lchk hP.m1 hP.t1 hI.g hP.g⟩

set_option maxHeartbeats 1600000 in
theorem fm_unused1 (D E : Dr) (F1 F2 : Nat → Int) (h0 : D.ck = 0) (hz : E.ck = 0) (hs : D.Small) (ht : E.Small) (w : World) (hd : D.In w w.heap.size) (he : E.In w w.heap.size) (X1 Y1 X2 Y2 : Int)
    (ua : ∀ w', Below w.heap.size w w' → Calls Tryd.prog 41 #[.agg #[.int .i64 D.S, .int .i64 D.T, .slice D.A D.n D.c, .slice D.B D.m D.d, .int .i64 D.W, .int .i64 D.H, .slice D.C D.k D.e]] w' fun e w2 => e = .returned (.agg #[.int .i64 X1, .int .i64 Y1]) ∧ Below w'.heap.size w' w2)
    (ub : ∀ w', Below w.heap.size w w' → Calls Tryd.prog 41 #[.agg #[.int .i64 E.S, .int .i64 E.T, .slice E.A E.n E.c, .slice E.B E.m E.d, .int .i64 E.W, .int .i64 E.H, .slice E.C E.k E.e]] w' fun e w2 => e = .returned (.agg #[.int .i64 X2, .int .i64 Y2]) ∧ Below w'.heap.size w' w2) (hx : ¬ X1 = D.S) :
    Calls Tryd.prog 12 #[.agg #[.int .i64 D.S, .int .i64 D.T, .slice D.A D.n D.c, .slice D.B D.m D.d, .int .i64 D.W, .int .i64 D.H, .slice D.C D.k D.e], .agg #[.int .i64 E.S, .int .i64 E.T, .slice E.A E.n E.c, .slice E.B E.m E.d, .int .i64 E.W, .int .i64 E.H, .slice E.C E.k E.e]] w (M3 w 0 F1 0 F2 2) := by
  have LB0 := Lib.hid (show Below w.heap.size w ((w.alloc (.cells #[.int .i64 D.S, .int .i64 D.T, .slice D.A D.n D.c, .slice D.B D.m D.d, .int .i64 D.W, .int .i64 D.H, .slice D.C D.k D.e] 27)).alloc (.cells #[.int .i64 E.S, .int .i64 E.T, .slice E.A E.n E.c, .slice E.B E.m E.d, .int .i64 E.W, .int .i64 E.H, .slice E.C E.k E.e] 27)) from ((Below.refl _ _).alloc (Nat.le_refl _) _).alloc (by simp) _)
  have X0 := Lib.hid (show DBox ((w.alloc (.cells #[.int .i64 D.S, .int .i64 D.T, .slice D.A D.n D.c, .slice D.B D.m D.d, .int .i64 D.W, .int .i64 D.H, .slice D.C D.k D.e] 27)).alloc (.cells #[.int .i64 E.S, .int .i64 E.T, .slice E.A E.n E.c, .slice E.B E.m E.d, .int .i64 E.W, .int .i64 E.H, .slice E.C E.k E.e] 27)) w.heap.size D from (DBox.new w D).alloc _)
  have Y0 : Hid (DBox ((w.alloc (.cells #[.int .i64 D.S, .int .i64 D.T, .slice D.A D.n D.c, .slice D.B D.m D.d, .int .i64 D.W, .int .i64 D.H, .slice D.C D.k D.e] 27)).alloc (.cells #[.int .i64 E.S, .int .i64 E.T, .slice E.A E.n E.c, .slice E.B E.m E.d, .int .i64 E.W, .int .i64 E.H, .slice E.C E.k E.e] 27)) (w.heap.size + 1) E) := Lib.hid (by
    have h := DBox.new (w.alloc (.cells #[.int .i64 D.S, .int .i64 D.T, .slice D.A D.n D.c, .slice D.B D.m D.d, .int .i64 D.W, .int .i64 D.H, .slice D.C D.k D.e] 27)) E
    simp only [World.size_alloc] at h
    exact h)
  have HC := Lib.hid (dck_is h0 hs _ (hd.next LB0.out))
  have HC2 := Lib.hid (fun w' (h : Below w.heap.size w w') => dck_is hz ht w' (he.next h))
  have UA := Lib.hid ua
  have UB := Lib.hid ub
  clear hz hs hd h0 ht he ua ub
  go_enter Tryd.func12, Tryd.ntmps12
  obtain ⟨q0, q1, q2, q3, q4, q5, q6, q7⟩ := X0.out.all
  go_wp2_with fail
  clear q0 q1 q2 q3 q4 q5 q6 q7 
  refine (HC.out).mono ?_
  rintro e w1 ⟨rfl, hb⟩
  have X1 := Lib.hid (X0.out.next hb)
  have Y1 := Lib.hid (Y0.out.next hb)
  have LB1 := Lib.hid (LB0.out.trans (hb.mono LB0.out.size))
  clear hb X0 Y0 LB0
  obtain ⟨r0, r1, r2, r3, r4, r5, r6, r7⟩ := Y1.out.all
  go_wp2_with fail
  clear  r0 r1 r2 r3 r4 r5 r6 r7
  refine (HC2.out _ LB1.out).mono ?_
  rintro e w2 ⟨rfl, hb⟩
  have X2 := Lib.hid (X1.out.next hb)
  have Y2 := Lib.hid (Y1.out.next hb)
  have LB2 := Lib.hid (LB1.out.trans (hb.mono LB1.out.size))
  clear hb X1 Y1 LB1
  obtain ⟨q0, q1, q2, q3, q4, q5, q6, q7⟩ := X2.out.all
  obtain ⟨r0, r1, r2, r3, r4, r5, r6, r7⟩ := Y2.out.all
  go_upto_region 7 with fail
  clear q0 q1 q2 q3 q4 q5 q6 q7 r0 r1 r2 r3 r4 r5 r6 r7
  obtain ⟨I, Wf, i0, h0, hbf, hcl⟩ := family w2
  have HCL := Lib.hid hcl
  have BF := Lib.hid hbf
  clear hbf hcl
  have hne : Nonempty I := ⟨i0⟩
  have x0 := fun n => (X2.out.below (BF.out n) X2.out.lt).all.1
  have x1 := fun n => (X2.out.below (BF.out n) X2.out.lt).all.2.1
  have x2 := fun n => (X2.out.below (BF.out n) X2.out.lt).all.2.2.1
  have x3 := fun n => (X2.out.below (BF.out n) X2.out.lt).all.2.2.2.1
  have x4 := fun n => (X2.out.below (BF.out n) X2.out.lt).all.2.2.2.2.1
  have x5 := fun n => (X2.out.below (BF.out n) X2.out.lt).all.2.2.2.2.2.1
  have x6 := fun n => (X2.out.below (BF.out n) X2.out.lt).all.2.2.2.2.2.2.1
  have z0 := fun n => (Y2.out.below (BF.out n) Y2.out.lt).all.1
  have z1 := fun n => (Y2.out.below (BF.out n) Y2.out.lt).all.2.1
  have z2 := fun n => (Y2.out.below (BF.out n) Y2.out.lt).all.2.2.1
  have z3 := fun n => (Y2.out.below (BF.out n) Y2.out.lt).all.2.2.2.1
  have z4 := fun n => (Y2.out.below (BF.out n) Y2.out.lt).all.2.2.2.2.1
  have z5 := fun n => (Y2.out.below (BF.out n) Y2.out.lt).all.2.2.2.2.2.1
  have z6 := fun n => (Y2.out.below (BF.out n) Y2.out.lt).all.2.2.2.2.2.2.1
  have C1 := Lib.hid (fun n => (UA.out (Wf n) (LB2.out.trans ((BF.out n).mono LB2.out.size))).mono fun e w2 h => (⟨h.1, HCL.out n _ h.2⟩ : _ ∧ ∃ m, w2 = Wf m))
  have C2 := Lib.hid (fun n => (UB.out (Wf n) (LB2.out.trans ((BF.out n).mono LB2.out.size))).mono fun e w2 h => (⟨h.1, HCL.out n _ h.2⟩ : _ ∧ ∃ m, w2 = Wf m))
  have C3 := Lib.hid (fun n => (has_any D (Wf n)).mono fun e w2 h => (⟨h.1, HCL.out n _ h.2⟩ : _ ∧ ∃ m, w2 = Wf m))
  have C4 := Lib.hid (fun n => (has_any E (Wf n)).mono fun e w2 h => (⟨h.1, HCL.out n _ h.2⟩ : _ ∧ ∃ m, w2 = Wf m))
  refine wp_region_fam Wf i0 h0 (by kernel_rfl) (by kernel_rfl) ?_
  clear h0
  repeat (go_big_quiet_step (first | exact rfl | (go_at_call 41; with_reducible exact C1.out _) | (go_at_call 41; with_reducible exact C2.out _) | (go_at_call 42; with_reducible exact C3.out _) | (go_at_call 42; with_reducible exact C4.out _)))
  refine wpQuiet_nil ?_
  rintro _ ⟨nq, rfl⟩
  have X3 := Lib.hid (X2.out.below (BF.out nq) X2.out.lt)
  have Y3 := Lib.hid (Y2.out.below (BF.out nq) Y2.out.lt)
  have LB3 := Lib.hid (LB2.out.trans ((BF.out nq).mono LB2.out.size))
  clear x0 x1 x2 x3 x4 x5 x6 z0 z1 z2 z3 z4 z5 z6 C1 C2 C3 C4 X2 Y2 LB2
  generalize Wf nq = w3 at *
  go_wp2
  exact bodyPost_ret (v := .tuple #[.slice none 0 0, .slice none 0 0, .int .i64 2]) (by simp [results, Tryd.results12, go_sem]) rfl (M3.no LB3.out)

set_option maxHeartbeats 1600000 in
theorem fm_unused2 (D E : Dr) (F1 F2 : Nat → Int) (h0 : D.ck = 0) (hz : E.ck = 0) (hs : D.Small) (ht : E.Small) (w : World) (hd : D.In w w.heap.size) (he : E.In w w.heap.size) (X1 Y1 X2 Y2 : Int)
    (ua : ∀ w', Below w.heap.size w w' → Calls Tryd.prog 41 #[.agg #[.int .i64 D.S, .int .i64 D.T, .slice D.A D.n D.c, .slice D.B D.m D.d, .int .i64 D.W, .int .i64 D.H, .slice D.C D.k D.e]] w' fun e w2 => e = .returned (.agg #[.int .i64 D.S, .int .i64 Y1]) ∧ Below w'.heap.size w' w2)
    (ub : ∀ w', Below w.heap.size w w' → Calls Tryd.prog 41 #[.agg #[.int .i64 E.S, .int .i64 E.T, .slice E.A E.n E.c, .slice E.B E.m E.d, .int .i64 E.W, .int .i64 E.H, .slice E.C E.k E.e]] w' fun e w2 => e = .returned (.agg #[.int .i64 X2, .int .i64 Y2]) ∧ Below w'.heap.size w' w2) (hx : ¬ Y1 = D.T) :
    Calls Tryd.prog 12 #[.agg #[.int .i64 D.S, .int .i64 D.T, .slice D.A D.n D.c, .slice D.B D.m D.d, .int .i64 D.W, .int .i64 D.H, .slice D.C D.k D.e], .agg #[.int .i64 E.S, .int .i64 E.T, .slice E.A E.n E.c, .slice E.B E.m E.d, .int .i64 E.W, .int .i64 E.H, .slice E.C E.k E.e]] w (M3 w 0 F1 0 F2 2) := by
  have LB0 := Lib.hid (show Below w.heap.size w ((w.alloc (.cells #[.int .i64 D.S, .int .i64 D.T, .slice D.A D.n D.c, .slice D.B D.m D.d, .int .i64 D.W, .int .i64 D.H, .slice D.C D.k D.e] 27)).alloc (.cells #[.int .i64 E.S, .int .i64 E.T, .slice E.A E.n E.c, .slice E.B E.m E.d, .int .i64 E.W, .int .i64 E.H, .slice E.C E.k E.e] 27)) from ((Below.refl _ _).alloc (Nat.le_refl _) _).alloc (by simp) _)
  have X0 := Lib.hid (show DBox ((w.alloc (.cells #[.int .i64 D.S, .int .i64 D.T, .slice D.A D.n D.c, .slice D.B D.m D.d, .int .i64 D.W, .int .i64 D.H, .slice D.C D.k D.e] 27)).alloc (.cells #[.int .i64 E.S, .int .i64 E.T, .slice E.A E.n E.c, .slice E.B E.m E.d, .int .i64 E.W, .int .i64 E.H, .slice E.C E.k E.e] 27)) w.heap.size D from (DBox.new w D).alloc _)
  have Y0 : Hid (DBox ((w.alloc (.cells #[.int .i64 D.S, .int .i64 D.T, .slice D.A D.n D.c, .slice D.B D.m D.d, .int .i64 D.W, .int .i64 D.H, .slice D.C D.k D.e] 27)).alloc (.cells #[.int .i64 E.S, .int .i64 E.T, .slice E.A E.n E.c, .slice E.B E.m E.d, .int .i64 E.W, .int .i64 E.H, .slice E.C E.k E.e] 27)) (w.heap.size + 1) E) := Lib.hid (by
    have h := DBox.new (w.alloc (.cells #[.int .i64 D.S, .int .i64 D.T, .slice D.A D.n D.c, .slice D.B D.m D.d, .int .i64 D.W, .int .i64 D.H, .slice D.C D.k D.e] 27)) E
    simp only [World.size_alloc] at h
    exact h)
  have HC := Lib.hid (dck_is h0 hs _ (hd.next LB0.out))
  have HC2 := Lib.hid (fun w' (h : Below w.heap.size w w') => dck_is hz ht w' (he.next h))
  have UA := Lib.hid ua
  have UB := Lib.hid ub
  clear hz hs hd h0 ht he ua ub
  go_enter Tryd.func12, Tryd.ntmps12
  obtain ⟨q0, q1, q2, q3, q4, q5, q6, q7⟩ := X0.out.all
  go_wp2_with fail
  clear q0 q1 q2 q3 q4 q5 q6 q7 
  refine (HC.out).mono ?_
  rintro e w1 ⟨rfl, hb⟩
  have X1 := Lib.hid (X0.out.next hb)
  have Y1 := Lib.hid (Y0.out.next hb)
  have LB1 := Lib.hid (LB0.out.trans (hb.mono LB0.out.size))
  clear hb X0 Y0 LB0
  obtain ⟨r0, r1, r2, r3, r4, r5, r6, r7⟩ := Y1.out.all
  go_wp2_with fail
  clear  r0 r1 r2 r3 r4 r5 r6 r7
  refine (HC2.out _ LB1.out).mono ?_
  rintro e w2 ⟨rfl, hb⟩
  have X2 := Lib.hid (X1.out.next hb)
  have Y2 := Lib.hid (Y1.out.next hb)
  have LB2 := Lib.hid (LB1.out.trans (hb.mono LB1.out.size))
  clear hb X1 Y1 LB1
  obtain ⟨q0, q1, q2, q3, q4, q5, q6, q7⟩ := X2.out.all
  obtain ⟨r0, r1, r2, r3, r4, r5, r6, r7⟩ := Y2.out.all
  go_upto_region 7 with fail
  clear q0 q1 q2 q3 q4 q5 q6 q7 r0 r1 r2 r3 r4 r5 r6 r7
  obtain ⟨I, Wf, i0, h0, hbf, hcl⟩ := family w2
  have HCL := Lib.hid hcl
  have BF := Lib.hid hbf
  clear hbf hcl
  have hne : Nonempty I := ⟨i0⟩
  have x0 := fun n => (X2.out.below (BF.out n) X2.out.lt).all.1
  have x1 := fun n => (X2.out.below (BF.out n) X2.out.lt).all.2.1
  have x2 := fun n => (X2.out.below (BF.out n) X2.out.lt).all.2.2.1
  have x3 := fun n => (X2.out.below (BF.out n) X2.out.lt).all.2.2.2.1
  have x4 := fun n => (X2.out.below (BF.out n) X2.out.lt).all.2.2.2.2.1
  have x5 := fun n => (X2.out.below (BF.out n) X2.out.lt).all.2.2.2.2.2.1
  have x6 := fun n => (X2.out.below (BF.out n) X2.out.lt).all.2.2.2.2.2.2.1
  have z0 := fun n => (Y2.out.below (BF.out n) Y2.out.lt).all.1
  have z1 := fun n => (Y2.out.below (BF.out n) Y2.out.lt).all.2.1
  have z2 := fun n => (Y2.out.below (BF.out n) Y2.out.lt).all.2.2.1
  have z3 := fun n => (Y2.out.below (BF.out n) Y2.out.lt).all.2.2.2.1
  have z4 := fun n => (Y2.out.below (BF.out n) Y2.out.lt).all.2.2.2.2.1
  have z5 := fun n => (Y2.out.below (BF.out n) Y2.out.lt).all.2.2.2.2.2.1
  have z6 := fun n => (Y2.out.below (BF.out n) Y2.out.lt).all.2.2.2.2.2.2.1
  have C1 := Lib.hid (fun n => (UA.out (Wf n) (LB2.out.trans ((BF.out n).mono LB2.out.size))).mono fun e w2 h => (⟨h.1, HCL.out n _ h.2⟩ : _ ∧ ∃ m, w2 = Wf m))
  have C2 := Lib.hid (fun n => (UB.out (Wf n) (LB2.out.trans ((BF.out n).mono LB2.out.size))).mono fun e w2 h => (⟨h.1, HCL.out n _ h.2⟩ : _ ∧ ∃ m, w2 = Wf m))
  have C3 := Lib.hid (fun n => (has_any D (Wf n)).mono fun e w2 h => (⟨h.1, HCL.out n _ h.2⟩ : _ ∧ ∃ m, w2 = Wf m))
  have C4 := Lib.hid (fun n => (has_any E (Wf n)).mono fun e w2 h => (⟨h.1, HCL.out n _ h.2⟩ : _ ∧ ∃ m, w2 = Wf m))
  refine wp_region_fam Wf i0 h0 (by kernel_rfl) (by kernel_rfl) ?_
  clear h0
  repeat (go_big_quiet_step (first | exact rfl | (go_at_call 41; with_reducible exact C1.out _) | (go_at_call 41; with_reducible exact C2.out _) | (go_at_call 42; with_reducible exact C3.out _) | (go_at_call 42; with_reducible exact C4.out _)))
  refine wpQuiet_nil ?_
  rintro _ ⟨nq, rfl⟩
  have X3 := Lib.hid (X2.out.below (BF.out nq) X2.out.lt)
  have Y3 := Lib.hid (Y2.out.below (BF.out nq) Y2.out.lt)
  have LB3 := Lib.hid (LB2.out.trans ((BF.out nq).mono LB2.out.size))
  clear x0 x1 x2 x3 x4 x5 x6 z0 z1 z2 z3 z4 z5 z6 C1 C2 C3 C4 X2 Y2 LB2
  generalize Wf nq = w3 at *
  go_wp2
  exact bodyPost_ret (v := .tuple #[.slice none 0 0, .slice none 0 0, .int .i64 2]) (by simp [results, Tryd.results12, go_sem]) rfl (M3.no LB3.out)

set_option maxHeartbeats 1600000 in
theorem fm_unused3 (D E : Dr) (F1 F2 : Nat → Int) (h0 : D.ck = 0) (hz : E.ck = 0) (hs : D.Small) (ht : E.Small) (w : World) (hd : D.In w w.heap.size) (he : E.In w w.heap.size) (X1 Y1 X2 Y2 : Int)
    (ua : ∀ w', Below w.heap.size w w' → Calls Tryd.prog 41 #[.agg #[.int .i64 D.S, .int .i64 D.T, .slice D.A D.n D.c, .slice D.B D.m D.d, .int .i64 D.W, .int .i64 D.H, .slice D.C D.k D.e]] w' fun e w2 => e = .returned (.agg #[.int .i64 D.S, .int .i64 D.T]) ∧ Below w'.heap.size w' w2)
    (ub : ∀ w', Below w.heap.size w w' → Calls Tryd.prog 41 #[.agg #[.int .i64 E.S, .int .i64 E.T, .slice E.A E.n E.c, .slice E.B E.m E.d, .int .i64 E.W, .int .i64 E.H, .slice E.C E.k E.e]] w' fun e w2 => e = .returned (.agg #[.int .i64 X2, .int .i64 Y2]) ∧ Below w'.heap.size w' w2) (hx : ¬ X2 = E.S) :
    Calls Tryd.prog 12 #[.agg #[.int .i64 D.S, .int .i64 D.T, .slice D.A D.n D.c, .slice D.B D.m D.d, .int .i64 D.W, .int .i64 D.H, .slice D.C D.k D.e], .agg #[.int .i64 E.S, .int .i64 E.T, .slice E.A E.n E.c, .slice E.B E.m E.d, .int .i64 E.W, .int .i64 E.H, .slice E.C E.k E.e]] w (M3 w 0 F1 0 F2 2) := by
  have LB0 := Lib.hid (show Below w.heap.size w ((w.alloc (.cells #[.int .i64 D.S, .int .i64 D.T, .slice D.A D.n D.c, .slice D.B D.m D.d, .int .i64 D.W, .int .i64 D.H, .slice D.C D.k D.e] 27)).alloc (.cells #[.int .i64 E.S, .int .i64 E.T, .slice E.A E.n E.c, .slice E.B E.m E.d, .int .i64 E.W, .int .i64 E.H, .slice E.C E.k E.e] 27)) from ((Below.refl _ _).alloc (Nat.le_refl _) _).alloc (by simp) _)
  have X0 := Lib.hid (show DBox ((w.alloc (.cells #[.int .i64 D.S, .int .i64 D.T, .slice D.A D.n D.c, .slice D.B D.m D.d, .int .i64 D.W, .int .i64 D.H, .slice D.C D.k D.e] 27)).alloc (.cells #[.int .i64 E.S, .int .i64 E.T, .slice E.A E.n E.c, .slice E.B E.m E.d, .int .i64 E.W, .int .i64 E.H, .slice E.C E.k E.e] 27)) w.heap.size D from (DBox.new w D).alloc _)
  have Y0 : Hid (DBox ((w.alloc (.cells #[.int .i64 D.S, .int .i64 D.T, .slice D.A D.n D.c, .slice D.B D.m D.d, .int .i64 D.W, .int .i64 D.H, .slice D.C D.k D.e] 27)).alloc (.cells #[.int .i64 E.S, .int .i64 E.T, .slice E.A E.n E.c, .slice E.B E.m E.d, .int .i64 E.W, .int .i64 E.H, .slice E.C E.k E.e] 27)) (w.heap.size + 1) E) := Lib.hid (by
    have h := DBox.new (w.alloc (.cells #[.int .i64 D.S, .int .i64 D.T, .slice D.A D.n D.c, .slice D.B D.m D.d, .int .i64 D.W, .int .i64 D.H, .slice D.C D.k D.e] 27)) E
    simp only [World.size_alloc] at h
    exact h)
  have HC := Lib.hid (dck_is h0 hs _ (hd.next LB0.out))
  have HC2 := Lib.hid (fun w' (h : Below w.heap.size w w') => dck_is hz ht w' (he.next h))
  have UA := Lib.hid ua
  have UB := Lib.hid ub
  clear hz hs hd h0 ht he ua ub
  go_enter Tryd.func12, Tryd.ntmps12
  obtain ⟨q0, q1, q2, q3, q4, q5, q6, q7⟩ := X0.out.all
  go_wp2_with fail
  clear q0 q1 q2 q3 q4 q5 q6 q7 
  refine (HC.out).mono ?_
  rintro e w1 ⟨rfl, hb⟩
  have X1 := Lib.hid (X0.out.next hb)
  have Y1 := Lib.hid (Y0.out.next hb)
  have LB1 := Lib.hid (LB0.out.trans (hb.mono LB0.out.size))
  clear hb X0 Y0 LB0
  obtain ⟨r0, r1, r2, r3, r4, r5, r6, r7⟩ := Y1.out.all
  go_wp2_with fail
  clear  r0 r1 r2 r3 r4 r5 r6 r7
  refine (HC2.out _ LB1.out).mono ?_
  rintro e w2 ⟨rfl, hb⟩
  have X2 := Lib.hid (X1.out.next hb)
  have Y2 := Lib.hid (Y1.out.next hb)
  have LB2 := Lib.hid (LB1.out.trans (hb.mono LB1.out.size))
  clear hb X1 Y1 LB1
  obtain ⟨q0, q1, q2, q3, q4, q5, q6, q7⟩ := X2.out.all
  obtain ⟨r0, r1, r2, r3, r4, r5, r6, r7⟩ := Y2.out.all
  go_upto_region 7 with fail
  clear q0 q1 q2 q3 q4 q5 q6 q7 r0 r1 r2 r3 r4 r5 r6 r7
  obtain ⟨I, Wf, i0, h0, hbf, hcl⟩ := family w2
  have HCL := Lib.hid hcl
  have BF := Lib.hid hbf
  clear hbf hcl
  have hne : Nonempty I := ⟨i0⟩
  have x0 := fun n => (X2.out.below (BF.out n) X2.out.lt).all.1
  have x1 := fun n => (X2.out.below (BF.out n) X2.out.lt).all.2.1
  have x2 := fun n => (X2.out.below (BF.out n) X2.out.lt).all.2.2.1
  have x3 := fun n => (X2.out.below (BF.out n) X2.out.lt).all.2.2.2.1
  have x4 := fun n => (X2.out.below (BF.out n) X2.out.lt).all.2.2.2.2.1
  have x5 := fun n => (X2.out.below (BF.out n) X2.out.lt).all.2.2.2.2.2.1
  have x6 := fun n => (X2.out.below (BF.out n) X2.out.lt).all.2.2.2.2.2.2.1
  have z0 := fun n => (Y2.out.below (BF.out n) Y2.out.lt).all.1
  have z1 := fun n => (Y2.out.below (BF.out n) Y2.out.lt).all.2.1
  have z2 := fun n => (Y2.out.below (BF.out n) Y2.out.lt).all.2.2.1
  have z3 := fun n => (Y2.out.below (BF.out n) Y2.out.lt).all.2.2.2.1
  have z4 := fun n => (Y2.out.below (BF.out n) Y2.out.lt).all.2.2.2.2.1
  have z5 := fun n => (Y2.out.below (BF.out n) Y2.out.lt).all.2.2.2.2.2.1
  have z6 := fun n => (Y2.out.below (BF.out n) Y2.out.lt).all.2.2.2.2.2.2.1
  have C1 := Lib.hid (fun n => (UA.out (Wf n) (LB2.out.trans ((BF.out n).mono LB2.out.size))).mono fun e w2 h => (⟨h.1, HCL.out n _ h.2⟩ : _ ∧ ∃ m, w2 = Wf m))
  have C2 := Lib.hid (fun n => (UB.out (Wf n) (LB2.out.trans ((BF.out n).mono LB2.out.size))).mono fun e w2 h => (⟨h.1, HCL.out n _ h.2⟩ : _ ∧ ∃ m, w2 = Wf m))
  have C3 := Lib.hid (fun n => (has_any D (Wf n)).mono fun e w2 h => (⟨h.1, HCL.out n _ h.2⟩ : _ ∧ ∃ m, w2 = Wf m))
  have C4 := Lib.hid (fun n => (has_any E (Wf n)).mono fun e w2 h => (⟨h.1, HCL.out n _ h.2⟩ : _ ∧ ∃ m, w2 = Wf m))
  refine wp_region_fam Wf i0 h0 (by kernel_rfl) (by kernel_rfl) ?_
  clear h0
  repeat (go_big_quiet_step (first | exact rfl | (go_at_call 41; with_reducible exact C1.out _) | (go_at_call 41; with_reducible exact C2.out _) | (go_at_call 42; with_reducible exact C3.out _) | (go_at_call 42; with_reducible exact C4.out _)))
  refine wpQuiet_nil ?_
  rintro _ ⟨nq, rfl⟩
  have X3 := Lib.hid (X2.out.below (BF.out nq) X2.out.lt)
  have Y3 := Lib.hid (Y2.out.below (BF.out nq) Y2.out.lt)
  have LB3 := Lib.hid (LB2.out.trans ((BF.out nq).mono LB2.out.size))
  clear x0 x1 x2 x3 x4 x5 x6 z0 z1 z2 z3 z4 z5 z6 C1 C2 C3 C4 X2 Y2 LB2
  generalize Wf nq = w3 at *
  go_wp2
  exact bodyPost_ret (v := .tuple #[.slice none 0 0, .slice none 0 0, .int .i64 2]) (by simp [results, Tryd.results12, go_sem]) rfl (M3.no LB3.out)

set_option maxHeartbeats 1600000 in
theorem fm_unused4 (D E : Dr) (F1 F2 : Nat → Int) (h0 : D.ck = 0) (hz : E.ck = 0) (hs : D.Small) (ht : E.Small) (w : World) (hd : D.In w w.heap.size) (he : E.In w w.heap.size) (X1 Y1 X2 Y2 : Int)
    (ua : ∀ w', Below w.heap.size w w' → Calls Tryd.prog 41 #[.agg #[.int .i64 D.S, .int .i64 D.T, .slice D.A D.n D.c, .slice D.B D.m D.d, .int .i64 D.W, .int .i64 D.H, .slice D.C D.k D.e]] w' fun e w2 => e = .returned (.agg #[.int .i64 D.S, .int .i64 D.T]) ∧ Below w'.heap.size w' w2)
    (ub : ∀ w', Below w.heap.size w w' → Calls Tryd.prog 41 #[.agg #[.int .i64 E.S, .int .i64 E.T, .slice E.A E.n E.c, .slice E.B E.m E.d, .int .i64 E.W, .int .i64 E.H, .slice E.C E.k E.e]] w' fun e w2 => e = .returned (.agg #[.int .i64 E.S, .int .i64 Y2]) ∧ Below w'.heap.size w' w2) (hx : ¬ Y2 = E.T) :
    Calls Tryd.prog 12 #[.agg #[.int .i64 D.S, .int .i64 D.T, .slice D.A D.n D.c, .slice D.B D.m D.d, .int .i64 D.W, .int .i64 D.H, .slice D.C D.k D.e], .agg #[.int .i64 E.S, .int .i64 E.T, .slice E.A E.n E.c, .slice E.B E.m E.d, .int .i64 E.W, .int .i64 E.H, .slice E.C E.k E.e]] w (M3 w 0 F1 0 F2 2) := by
  have LB0 := Lib.hid (show Below w.heap.size w ((w.alloc (.cells #[.int .i64 D.S, .int .i64 D.T, .slice D.A D.n D.c, .slice D.B D.m D.d, .int .i64 D.W, .int .i64 D.H, .slice D.C D.k D.e] 27)).alloc (.cells #[.int .i64 E.S, .int .i64 E.T, .slice E.A E.n E.c, .slice E.B E.m E.d, .int .i64 E.W, .int .i64 E.H, .slice E.C E.k E.e] 27)) from ((Below.refl _ _).alloc (Nat.le_refl _) _).alloc (by simp) _)
  have X0 := Lib.hid (show DBox ((w.alloc (.cells #[.int .i64 D.S, .int .i64 D.T, .slice D.A D.n D.c, .slice D.B D.m D.d, .int .i64 D.W, .int .i64 D.H, .slice D.C D.k D.e] 27)).alloc (.cells #[.int .i64 E.S, .int .i64 E.T, .slice E.A E.n E.c, .slice E.B E.m E.d, .int .i64 E.W, .int .i64 E.H, .slice E.C E.k E.e] 27)) w.heap.size D from (DBox.new w D).alloc _)
  have Y0 : Hid (DBox ((w.alloc (.cells #[.int .i64 D.S, .int .i64 D.T, .slice D.A D.n D.c, .slice D.B D.m D.d, .int .i64 D.W, .int .i64 D.H, .slice D.C D.k D.e] 27)).alloc (.cells #[.int .i64 E.S, .int .i64 E.T, .slice E.A E.n E.c, .slice E.B E.m E.d, .int .i64 E.W, .int .i64 E.H, .slice E.C E.k E.e] 27)) (w.heap.size + 1) E) := Lib.hid (by
    have h := DBox.new (w.alloc (.cells #[.int .i64 D.S, .int .i64 D.T, .slice D.A D.n D.c, .slice D.B D.m D.d, .int .i64 D.W, .int .i64 D.H, .slice D.C D.k D.e] 27)) E
    simp only [World.size_alloc] at h
    exact h)
  have HC := Lib.hid (dck_is h0 hs _ (hd.next LB0.out))
  have HC2 := Lib.hid (fun w' (h : Below w.heap.size w w') => dck_is hz ht w' (he.next h))
  have UA := Lib.hid ua
  have UB := Lib.hid ub
  clear hz hs hd h0 ht he ua ub
  go_enter Tryd.func12, Tryd.ntmps12
  obtain ⟨q0, q1, q2, q3, q4, q5, q6, q7⟩ := X0.out.all
  go_wp2_with fail
  clear q0 q1 q2 q3 q4 q5 q6 q7 
  refine (HC.out).mono ?_
  rintro e w1 ⟨rfl, hb⟩
  have X1 := Lib.hid (X0.out.next hb)
  have Y1 := Lib.hid (Y0.out.next hb)
  have LB1 := Lib.hid (LB0.out.trans (hb.mono LB0.out.size))
  clear hb X0 Y0 LB0
  obtain ⟨r0, r1, r2, r3, r4, r5, r6, r7⟩ := Y1.out.all
  go_wp2_with fail
  clear  r0 r1 r2 r3 r4 r5 r6 r7
  refine (HC2.out _ LB1.out).mono ?_
  rintro e w2 ⟨rfl, hb⟩
  have X2 := Lib.hid (X1.out.next hb)
  have Y2 := Lib.hid (Y1.out.next hb)
  have LB2 := Lib.hid (LB1.out.trans (hb.mono LB1.out.size))
  clear hb X1 Y1 LB1
  obtain ⟨q0, q1, q2, q3, q4, q5, q6, q7⟩ := X2.out.all
  obtain ⟨r0, r1, r2, r3, r4, r5, r6, r7⟩ := Y2.out.all
  go_upto_region 7 with fail
  clear q0 q1 q2 q3 q4 q5 q6 q7 r0 r1 r2 r3 r4 r5 r6 r7
  obtain ⟨I, Wf, i0, h0, hbf, hcl⟩ := family w2
  have HCL := Lib.hid hcl
  have BF := Lib.hid hbf
  clear hbf hcl
  have hne : Nonempty I := ⟨i0⟩
  have x0 := fun n => (X2.out.below (BF.out n) X2.out.lt).all.1
  have x1 := fun n => (X2.out.below (BF.out n) X2.out.lt).all.2.1
  have x2 := fun n => (X2.out.below (BF.out n) X2.out.lt).all.2.2.1
  have x3 := fun n => (X2.out.below (BF.out n) X2.out.lt).all.2.2.2.1
  have x4 := fun n => (X2.out.below (BF.out n) X2.out.lt).all.2.2.2.2.1
  have x5 := fun n => (X2.out.below (BF.out n) X2.out.lt).all.2.2.2.2.2.1
  have x6 := fun n => (X2.out.below (BF.out n) X2.out.lt).all.2.2.2.2.2.2.1
  have z0 := fun n => (Y2.out.below (BF.out n) Y2.out.lt).all.1
  have z1 := fun n => (Y2.out.below (BF.out n) Y2.out.lt).all.2.1
  have z2 := fun n => (Y2.out.below (BF.out n) Y2.out.lt).all.2.2.1
  have z3 := fun n => (Y2.out.below (BF.out n) Y2.out.lt).all.2.2.2.1
  have z4 := fun n => (Y2.out.below (BF.out n) Y2.out.lt).all.2.2.2.2.1
  have z5 := fun n => (Y2.out.below (BF.out n) Y2.out.lt).all.2.2.2.2.2.1
  have z6 := fun n => (Y2.out.below (BF.out n) Y2.out.lt).all.2.2.2.2.2.2.1
  have C1 := Lib.hid (fun n => (UA.out (Wf n) (LB2.out.trans ((BF.out n).mono LB2.out.size))).mono fun e w2 h => (⟨h.1, HCL.out n _ h.2⟩ : _ ∧ ∃ m, w2 = Wf m))
  have C2 := Lib.hid (fun n => (UB.out (Wf n) (LB2.out.trans ((BF.out n).mono LB2.out.size))).mono fun e w2 h => (⟨h.1, HCL.out n _ h.2⟩ : _ ∧ ∃ m, w2 = Wf m))
  have C3 := Lib.hid (fun n => (has_any D (Wf n)).mono fun e w2 h => (⟨h.1, HCL.out n _ h.2⟩ : _ ∧ ∃ m, w2 = Wf m))
  have C4 := Lib.hid (fun n => (has_any E (Wf n)).mono fun e w2 h => (⟨h.1, HCL.out n _ h.2⟩ : _ ∧ ∃ m, w2 = Wf m))
  refine wp_region_fam Wf i0 h0 (by kernel_rfl) (by kernel_rfl) ?_
  clear h0
  repeat (go_big_quiet_step (first | exact rfl | (go_at_call 41; with_reducible exact C1.out _) | (go_at_call 41; with_reducible exact C2.out _) | (go_at_call 42; with_reducible exact C3.out _) | (go_at_call 42; with_reducible exact C4.out _)))
  refine wpQuiet_nil ?_
  rintro _ ⟨nq, rfl⟩
  have X3 := Lib.hid (X2.out.below (BF.out nq) X2.out.lt)
  have Y3 := Lib.hid (Y2.out.below (BF.out nq) Y2.out.lt)
  have LB3 := Lib.hid (LB2.out.trans ((BF.out nq).mono LB2.out.size))
  clear x0 x1 x2 x3 x4 x5 x6 z0 z1 z2 z3 z4 z5 z6 C1 C2 C3 C4 X2 Y2 LB2
  generalize Wf nq = w3 at *
  go_wp2
  exact bodyPost_ret (v := .tuple #[.slice none 0 0, .slice none 0 0, .int .i64 2]) (by simp [results, Tryd.results12, go_sem]) rfl (M3.no LB3.out)

/-- What both Matches ask of the functions that they call, beside the checks: what the matches of the lists, and Renumber, hand back. -/
structure MA (w : World) (D E : Dr) (kt kr : Nat) (N1 : Nat) (G1 : Nat → Int) (e1 : Int) (N2 : Nat) (G2 : Nat → Int) (e2 : Int) (R : Dr) (re : Int) : Prop where
  t1 : ∀ w', Below w.heap.size w w' → Calls Tryd.prog kt #[.slice D.A D.n D.c, .slice E.A E.n E.c] w' (L2.LOut w' N1 G1 e1)
  t2 : ∀ w', Below w.heap.size w w' → Calls Tryd.prog kt #[.slice D.B D.m D.d, .slice E.B E.m E.d] w' (L2.LOut w' N2 G2 e2)
  rn : e1 = 0 → e2 = 0 → ∀ (w' : World) (A1 A2 : Option Addr) (c1 c2 : Nat), Below w.heap.size w w' → L2.Holds w' w'.heap.size A1 N1 G1 → L2.Holds w' w'.heap.size A2 N2 G2 →
    Calls Tryd.prog kr #[.agg #[.int .i64 D.S, .int .i64 D.T, .slice D.A D.n D.c, .slice D.B D.m D.d, .int .i64 D.W, .int .i64 D.H, .slice D.C D.k D.e], .slice A1 N1 c1, .slice A2 N2 c2] w' (DOut w' R re)
  sm : R.Small
/-- A list that was handed back. -/
def LRow (w : World) (A : Option Addr) (N : Nat) (G : Nat → Int) : Prop := 0 < N → ∃ k, A = some ⟨k, 0, none⟩ ∧ L2.Row w k N G
theorem LRow.next {w w' : World} {A : Option Addr} {N : Nat} {G : Nat → Int} (h : LRow w A N G) (hb : Below w.heap.size w w') : LRow w' A N G := fun h0 => by
  obtain ⟨k, e, hr⟩ := h h0
  exact ⟨k, e, hr.below hb hr.lt⟩
theorem LRow.holds {w : World} {A : Option Addr} {N : Nat} {G : Nat → Int} (h : LRow w A N G) : L2.Holds w w.heap.size A N G := fun h0 => by
  obtain ⟨k, e, hr⟩ := h h0
  subst e
  exact hr.holds hr.lt h0
/-- Whatever is wanted of an end. -/
def PO (Post : Ending → World → Prop) (e : Ending) (w : World) : Prop := Post e w
/-- Do the matches fail? -/
def bad (e1 e2 re : Int) (z : Bool) : Bool := !(decide (e1 = 0) && (decide (e2 = 0) && (decide (re = 0) && z)))

set_option maxHeartbeats 1600000 in
theorem fm_main (D E : Dr) (h0 : D.ck = 0) (hz : E.ck = 0) (hs : D.Small) (ht : E.Small) (w : World) (hd : D.In w w.heap.size) (he : E.In w w.heap.size) (N1 : Nat) (G1 : Nat → Int) (e1 : Int) (N2 : Nat) (G2 : Nat → Int) (e2 : Int) (R : Dr) (re : Int) (z : Bool)
    (ua : ∀ w', Below w.heap.size w w' → Calls Tryd.prog 41 #[.agg #[.int .i64 D.S, .int .i64 D.T, .slice D.A D.n D.c, .slice D.B D.m D.d, .int .i64 D.W, .int .i64 D.H, .slice D.C D.k D.e]] w' fun e w2 => e = .returned (.agg #[.int .i64 D.S, .int .i64 D.T]) ∧ Below w'.heap.size w' w2)
    (ub : ∀ w', Below w.heap.size w w' → Calls Tryd.prog 41 #[.agg #[.int .i64 E.S, .int .i64 E.T, .slice E.A E.n E.c, .slice E.B E.m E.d, .int .i64 E.W, .int .i64 E.H, .slice E.C E.k E.e]] w' fun e w2 => e = .returned (.agg #[.int .i64 E.S, .int .i64 E.T]) ∧ Below w'.heap.size w' w2) (hm : MA w D E 43 11 N1 G1 e1 N2 G2 e2 R re) (hzz : dsm R E = z)
    (Post : Ending → World → Prop) (hbad : bad e1 e2 re z = true → ∀ e w', M3 w 0 G1 0 G2 6 e w' → Post e w') (hgood : bad e1 e2 re z = false → ∀ e w', M3 w N1 G1 N2 G2 0 e w' → Post e w') :
    Calls Tryd.prog 12 #[.agg #[.int .i64 D.S, .int .i64 D.T, .slice D.A D.n D.c, .slice D.B D.m D.d, .int .i64 D.W, .int .i64 D.H, .slice D.C D.k D.e], .agg #[.int .i64 E.S, .int .i64 E.T, .slice E.A E.n E.c, .slice E.B E.m E.d, .int .i64 E.W, .int .i64 E.H, .slice E.C E.k E.e]] w (PO Post) := by
  have LB0 := Lib.hid (show Below w.heap.size w ((w.alloc (.cells #[.int .i64 D.S, .int .i64 D.T, .slice D.A D.n D.c, .slice D.B D.m D.d, .int .i64 D.W, .int .i64 D.H, .slice D.C D.k D.e] 27)).alloc (.cells #[.int .i64 E.S, .int .i64 E.T, .slice E.A E.n E.c, .slice E.B E.m E.d, .int .i64 E.W, .int .i64 E.H, .slice E.C E.k E.e] 27)) from ((Below.refl _ _).alloc (Nat.le_refl _) _).alloc (by simp) _)
  have X0 := Lib.hid (show DBox ((w.alloc (.cells #[.int .i64 D.S, .int .i64 D.T, .slice D.A D.n D.c, .slice D.B D.m D.d, .int .i64 D.W, .int .i64 D.H, .slice D.C D.k D.e] 27)).alloc (.cells #[.int .i64 E.S, .int .i64 E.T, .slice E.A E.n E.c, .slice E.B E.m E.d, .int .i64 E.W, .int .i64 E.H, .slice E.C E.k E.e] 27)) w.heap.size D from (DBox.new w D).alloc _)
  have Y0 : Hid (DBox ((w.alloc (.cells #[.int .i64 D.S, .int .i64 D.T, .slice D.A D.n D.c, .slice D.B D.m D.d, .int .i64 D.W, .int .i64 D.H, .slice D.C D.k D.e] 27)).alloc (.cells #[.int .i64 E.S, .int .i64 E.T, .slice E.A E.n E.c, .slice E.B E.m E.d, .int .i64 E.W, .int .i64 E.H, .slice E.C E.k E.e] 27)) (w.heap.size + 1) E) := Lib.hid (by
    have h := DBox.new (w.alloc (.cells #[.int .i64 D.S, .int .i64 D.T, .slice D.A D.n D.c, .slice D.B D.m D.d, .int .i64 D.W, .int .i64 D.H, .slice D.C D.k D.e] 27)) E
    simp only [World.size_alloc] at h
    exact h)
  have HC := Lib.hid (dck_is h0 hs _ (hd.next LB0.out))
  have HC2 := Lib.hid (fun w' (h : Below w.heap.size w w') => dck_is hz ht w' (he.next h))
  have UA := Lib.hid ua
  have UB := Lib.hid ub
  have HM := Lib.hid hm
  have HE := Lib.hid (fun w' (h : Below w.heap.size w w') => he.next h)
  have HZ := Lib.hid hzz
  have HBad := Lib.hid hbad
  have HGood := Lib.hid hgood
  clear hz hs hd h0 ht he ua ub hm hzz hbad hgood
  go_enter Tryd.func12, Tryd.ntmps12
  obtain ⟨q0, q1, q2, q3, q4, q5, q6, q7⟩ := X0.out.all
  go_wp2_with fail
  clear q0 q1 q2 q3 q4 q5 q6 q7 
  refine (HC.out).mono ?_
  rintro e w1 ⟨rfl, hb⟩
  have X1 := Lib.hid (X0.out.next hb)
  have Y1 := Lib.hid (Y0.out.next hb)
  have LB1 := Lib.hid (LB0.out.trans (hb.mono LB0.out.size))
  clear hb X0 Y0 LB0
  obtain ⟨r0, r1, r2, r3, r4, r5, r6, r7⟩ := Y1.out.all
  go_wp2_with fail
  clear  r0 r1 r2 r3 r4 r5 r6 r7
  refine (HC2.out _ LB1.out).mono ?_
  rintro e w2 ⟨rfl, hb⟩
  have X2 := Lib.hid (X1.out.next hb)
  have Y2 := Lib.hid (Y1.out.next hb)
  have LB2 := Lib.hid (LB1.out.trans (hb.mono LB1.out.size))
  clear hb X1 Y1 LB1
  obtain ⟨q0, q1, q2, q3, q4, q5, q6, q7⟩ := X2.out.all
  obtain ⟨r0, r1, r2, r3, r4, r5, r6, r7⟩ := Y2.out.all
  go_upto_region 7 with fail
  clear q0 q1 q2 q3 q4 q5 q6 q7 r0 r1 r2 r3 r4 r5 r6 r7
  obtain ⟨I, Wf, i0, h0, hbf, hcl⟩ := family w2
  have HCL := Lib.hid hcl
  have BF := Lib.hid hbf
  clear hbf hcl
  have hne : Nonempty I := ⟨i0⟩
  have x0 := fun n => (X2.out.below (BF.out n) X2.out.lt).all.1
  have x1 := fun n => (X2.out.below (BF.out n) X2.out.lt).all.2.1
  have x2 := fun n => (X2.out.below (BF.out n) X2.out.lt).all.2.2.1
  have x3 := fun n => (X2.out.below (BF.out n) X2.out.lt).all.2.2.2.1
  have x4 := fun n => (X2.out.below (BF.out n) X2.out.lt).all.2.2.2.2.1
  have x5 := fun n => (X2.out.below (BF.out n) X2.out.lt).all.2.2.2.2.2.1
  have x6 := fun n => (X2.out.below (BF.out n) X2.out.lt).all.2.2.2.2.2.2.1
  have z0 := fun n => (Y2.out.below (BF.out n) Y2.out.lt).all.1
  have z1 := fun n => (Y2.out.below (BF.out n) Y2.out.lt).all.2.1
  have z2 := fun n => (Y2.out.below (BF.out n) Y2.out.lt).all.2.2.1
  have z3 := fun n => (Y2.out.below (BF.out n) Y2.out.lt).all.2.2.2.1
  have z4 := fun n => (Y2.out.below (BF.out n) Y2.out.lt).all.2.2.2.2.1
  have z5 := fun n => (Y2.out.below (BF.out n) Y2.out.lt).all.2.2.2.2.2.1
  have z6 := fun n => (Y2.out.below (BF.out n) Y2.out.lt).all.2.2.2.2.2.2.1
  have C1 := Lib.hid (fun n => (UA.out (Wf n) (LB2.out.trans ((BF.out n).mono LB2.out.size))).mono fun e w2 h => (⟨h.1, HCL.out n _ h.2⟩ : _ ∧ ∃ m, w2 = Wf m))
  have C2 := Lib.hid (fun n => (UB.out (Wf n) (LB2.out.trans ((BF.out n).mono LB2.out.size))).mono fun e w2 h => (⟨h.1, HCL.out n _ h.2⟩ : _ ∧ ∃ m, w2 = Wf m))
  have C3 := Lib.hid (fun n => (has_any D (Wf n)).mono fun e w2 h => (⟨h.1, HCL.out n _ h.2⟩ : _ ∧ ∃ m, w2 = Wf m))
  have C4 := Lib.hid (fun n => (has_any E (Wf n)).mono fun e w2 h => (⟨h.1, HCL.out n _ h.2⟩ : _ ∧ ∃ m, w2 = Wf m))
  refine wp_region_fam Wf i0 h0 (by kernel_rfl) (by kernel_rfl) ?_
  clear h0
  repeat (go_big_quiet_step (first | exact rfl | (go_at_call 41; with_reducible exact C1.out _) | (go_at_call 41; with_reducible exact C2.out _) | (go_at_call 42; with_reducible exact C3.out _) | (go_at_call 42; with_reducible exact C4.out _)))
  refine wpQuiet_nil ?_
  rintro _ ⟨nq, rfl⟩
  have X3 := Lib.hid (X2.out.below (BF.out nq) X2.out.lt)
  have Y3 := Lib.hid (Y2.out.below (BF.out nq) Y2.out.lt)
  have LB3 := Lib.hid (LB2.out.trans ((BF.out nq).mono LB2.out.size))
  clear x0 x1 x2 x3 x4 x5 x6 z0 z1 z2 z3 z4 z5 z6 C1 C2 C3 C4 X2 Y2 LB2
  generalize Wf nq = w3 at *
  obtain ⟨q0, q1, q2, q3, q4, q5, q6, q7⟩ := X3.out.all
  obtain ⟨r0, r1, r2, r3, r4, r5, r6, r7⟩ := Y3.out.all
  go_wp2_with fail
  clear q0 q1 q2 q3 q4 q5 q6 q7 r0 r1 r2 r3 r4 r5 r6 r7
  refine (HM.out.t1 _ LB3.out).mono ?_
  rintro e w4 ⟨A1, c1, rfl, -, hr1, hb⟩
  have X4 := Lib.hid (X3.out.next hb)
  have Y4 := Lib.hid (Y3.out.next hb)
  have LB4 := Lib.hid (LB3.out.trans (hb.mono LB3.out.size))
  clear hb X3 Y3 LB3
  have V1 := Lib.hid (show LRow w4 A1 N1 G1 from fun h => by obtain ⟨k, e, _, hr⟩ := hr1 h; exact ⟨k, e, hr⟩)
  clear hr1
  by_cases h1 : e1 = 0
  · subst h1
    obtain ⟨q0, q1, q2, q3, q4, q5, q6, q7⟩ := X4.out.all
    obtain ⟨r0, r1, r2, r3, r4, r5, r6, r7⟩ := Y4.out.all
    go_wp2_with fail
    clear q0 q1 q2 q3 q4 q5 q6 q7 r0 r1 r2 r3 r4 r5 r6 r7
    refine (HM.out.t2 _ LB4.out).mono ?_
    rintro e w5 ⟨A2, c2, rfl, -, hr2, hb⟩
    have X5 := Lib.hid (X4.out.next hb)
    have Y5 := Lib.hid (Y4.out.next hb)
    have LB5 := Lib.hid (LB4.out.trans (hb.mono LB4.out.size))
    have V1a := Lib.hid (V1.out.next hb)
    clear hb V1 X4 Y4 LB4
    have V2 := Lib.hid (show LRow w5 A2 N2 G2 from fun h => by obtain ⟨k, e, _, hr⟩ := hr2 h; exact ⟨k, e, hr⟩)
    clear hr2
    by_cases h2 : e2 = 0
    · subst h2
      obtain ⟨q0, q1, q2, q3, q4, q5, q6, q7⟩ := X5.out.all
      go_wp2_with fail
      clear q0 q1 q2 q3 q4 q5 q6 q7 
      refine (HM.out.rn rfl rfl w5 A1 A2 c1 c2 LB5.out V1a.out.holds V2.out.holds).mono ?_
      rintro e w6 ⟨A, ca, B, cb, C, cc, rfl, hin, hb⟩
      have X6 := Lib.hid (X5.out.next hb)
      have Y6 := Lib.hid (Y5.out.next hb)
      have LB6 := Lib.hid (LB5.out.trans (hb.mono LB5.out.size))
      have V1b := Lib.hid (V1a.out.next hb)
      have V2b := Lib.hid (V2.out.next hb)
      clear hb V1a V2 X5 Y5 LB5
      have IN6 := Lib.hid hin
      clear hin
      by_cases h3 : re = 0
      · subst h3
        have X7 := Lib.hid (DBox.new w6 (R.at_ A ca B cb C cc))
        have hb7 : Below w6.heap.size w6 (w6.alloc (.cells #[.int .i64 R.S, .int .i64 R.T, .slice A R.n ca, .slice B R.m cb, .int .i64 R.W, .int .i64 R.H, .slice C R.k cc] 27)) := (Below.refl _ _).alloc (Nat.le_refl _) _
        have Y7 := Lib.hid (Y6.out.next hb7)
        have LB7 := Lib.hid (LB6.out.trans (hb7.mono LB6.out.size))
        have V1c := Lib.hid (V1b.out.next hb7)
        have V2c := Lib.hid (V2b.out.next hb7)
        have IN7 := Lib.hid (IN6.out.next hb7)
        have HSM : Hid (∀ v, v = w6.alloc (.cells #[.int .i64 R.S, .int .i64 R.T, .slice A R.n ca, .slice B R.m cb, .int .i64 R.W, .int .i64 R.H, .slice C R.k cc] 27) → Calls Tryd.prog 44 #[.agg #[.int .i64 R.S, .int .i64 R.T, .slice A R.n ca, .slice B R.m cb, .int .i64 R.W, .int .i64 R.H, .slice C R.k cc], .agg #[.int .i64 E.S, .int .i64 E.T, .slice E.A E.n E.c, .slice E.B E.m E.d, .int .i64 E.W, .int .i64 E.H, .slice E.C E.k E.e]] v fun e w' => e = .returned (.bool z) ∧ Below v.heap.size v w') := Lib.hid (by
          rintro v rfl
          have h := dsame_any (R.at_ A ca B cb C cc) E _ ⟨HM.out.sm.1, HM.out.sm.2, HM.out.sm.3⟩ IN7.out (HE.out _ LB7.out)
          rw [show dsm (R.at_ A ca B cb C cc) E = z from HZ.out] at h
          exact h)
        have HS7 := Lib.hid (HSM.out _ rfl)
        clear hb7 HSM IN6 IN7 X6 Y6 LB6 V1b V2b
        obtain ⟨q0, q1, q2, q3, q4, q5, q6, q7⟩ := X7.out.all
        obtain ⟨r0, r1, r2, r3, r4, r5, r6, r7⟩ := Y7.out.all
        dsimp only [Dr.at_] at q0 q1 q2 q3 q4 q5 q6
        go_wp2_with fail
        clear q0 q1 q2 q3 q4 q5 q6 q7 r0 r1 r2 r3 r4 r5 r6 r7
        refine HS7.out.mono ?_
        rintro e w8 ⟨rfl, hb⟩
        have LB8 := Lib.hid (LB7.out.trans (hb.mono LB7.out.size))
        have V1d := Lib.hid (V1c.out.next hb)
        have V2d := Lib.hid (V2c.out.next hb)
        clear hb
        cases z
        · go_wp2
          exact bodyPost_ret (v := .tuple #[.slice none 0 0, .slice none 0 0, .int .i64 6]) (by simp [results, Tryd.results12, go_sem]) rfl (HBad.out rfl _ _ (M3.no LB8.out))
        · go_wp2
          exact bodyPost_ret (v := .tuple #[.slice A1 N1 c1, .slice A2 N2 c2, .int .i64 0]) (by simp [results, Tryd.results12, go_sem]) rfl (HGood.out rfl _ _ ⟨A1, c1, A2, c2, rfl, V1d.out, V2d.out, LB8.out⟩)
      · have hne : (re != 0) = true := by simpa using h3
        have HB := Lib.hid (show bad 0 0 re z = true by simp [bad, h3])
        have LBZ := Lib.hid (LB6.out.alloc LB6.out.size (.cells #[.int .i64 R.S, .int .i64 R.T, .slice A R.n ca, .slice B R.m cb, .int .i64 R.W, .int .i64 R.H, .slice C R.k cc] 27))
        clear h3
        go_wp2
        exact bodyPost_ret (v := .tuple #[.slice none 0 0, .slice none 0 0, .int .i64 6]) (by simp [results, Tryd.results12, go_sem]) rfl (HBad.out HB.out _ _ (M3.no LBZ.out))
    · have hne : (e2 != 0) = true := by simpa using h2
      have HB := Lib.hid (show bad 0 e2 re z = true by simp [bad, h2])
      clear h2
      go_wp2
      exact bodyPost_ret (v := .tuple #[.slice none 0 0, .slice none 0 0, .int .i64 6]) (by simp [results, Tryd.results12, go_sem]) rfl (HBad.out HB.out _ _ (M3.no LB5.out))
  · have hne : (e1 != 0) = true := by simpa using h1
    have HB := Lib.hid (show bad e1 e2 re z = true by simp [bad, h1])
    clear h1
    go_wp2
    exact bodyPost_ret (v := .tuple #[.slice none 0 0, .slice none 0 0, .int .i64 6]) (by simp [results, Tryd.results12, go_sem]) rfl (HBad.out HB.out _ _ (M3.no LB4.out))
end Go.Proofs.YtbafhdinalapoaaDoor

/- The program's Match of two valid drafts: what it answers. -/
namespace Go.Proofs.YtbafhdinalapoaaDoor
open Go.RowKit
set_option linter.unusedVariables false
set_option linter.unusedSimpArgs false

open L2 (nd ren Cons mt mxs fst)
theorem tm_one (n m : Nat) (f g : Nat → Nat) (hf : ∀ i, i < n → f i < 40) (hg : ∀ i, i < m → g i < 40) (h0 : 0 < n) (hn : n ≤ 64) (hm : m ≤ 64) :
    ∃ (N : Nat) (e : Int), (e = 0 ↔ n = m ∧ Cons (fun i => (f i : Nat)) (fun i => (g i : Nat)) n) ∧ (e = 0 → ((N : Int) = mxs (fun i => (f i : Nat)) n + 1)) ∧ N ≤ 420 ∧
      ∀ (A D : Option Addr) (c d : Nat) (w : World), L2.Holds w w.heap.size A n (fun i => (f i : Nat)) → L2.Holds w w.heap.size D m (fun i => (g i : Nat)) →
        Calls Tryd.prog 43 #[.slice A n c, .slice D m d] w (L2.LOut w N (fun x => mt (fun i => (f i : Nat)) (fun i => (g i : Nat)) n (x : Nat)) e) := by
  have hf' : ∀ i, i < n → 0 ≤ ((f i : Nat) : Int) ∧ ((f i : Nat) : Int) < 400 := fun i hi => by have := hf i hi; omega
  have hg' : ∀ i, i < m → 0 ≤ ((g i : Nat) : Int) ∧ ((g i : Nat) : Int) < 400 := fun i hi => by have := hg i hi; omega
  have h1 : L2.lchk n (fun i => ((f i : Nat) : Int)) = 0 := by
    unfold L2.lchk
    rw [if_neg (by omega), if_pos]
    exact decide_eq_true hf'
  have h2 : L2.lchk m (fun i => ((g i : Nat) : Int)) = 0 := by
    unfold L2.lchk
    rw [if_neg (by omega), if_pos]
    exact decide_eq_true hg'
  have hb : L2.bchk n (fun i => ((f i : Nat) : Int)) m (fun i => ((g i : Nat) : Int)) = 0 := by unfold L2.bchk; rw [if_neg (by simpa using h1)]; exact h2
  by_cases hnm : n = m
  · subst hnm
    have hmx := L2.mxs_lt (a := fun i => ((f i : Nat) : Int)) (k := n) fun i hi => (hf' i hi).2
    have hmg := L2.mxs_ge (fun i => ((f i : Nat) : Int)) n
    have hN : mxs (fun i => ((f i : Nat) : Int)) n + 1 = (((mxs (fun i => ((f i : Nat) : Int)) n + 1).toNat : Nat) : Int) := by omega
    by_cases hc : Cons (fun i => ((f i : Nat) : Int)) (fun i => ((g i : Nat) : Int)) n
    · exact ⟨(mxs (fun i => ((f i : Nat) : Int)) n + 1).toNat, 0, ⟨fun _ => ⟨rfl, hc⟩, fun _ => rfl⟩, fun _ => hN.symm, by omega, fun A D c d w hr hs =>
        (L2.match_main A n c _ D d _ _ w hr hs h0 (by omega) hb hN hf' hg').mono fun _ _ h => h.elim (fun h => h.2) (fun h => absurd hc h.1)⟩
    · refine ⟨0, 6, ⟨fun h => absurd h (by decide), fun h => absurd h.2 hc⟩, fun h => absurd h (by decide), by omega, fun A D c d w hr hs =>
        (L2.match_main A n c _ D d _ _ w hr hs h0 (by omega) hb hN hf' hg').mono fun _ _ h => h.elim (fun h => absurd h.1 hc) (fun h => ?_)⟩
      obtain ⟨A', c', e1, e2, e3, e4⟩ := h.2
      exact ⟨A', c', e1, e2, fun h => absurd h (by omega), e4⟩
  · have hk : L2.mchk n (fun i => ((f i : Nat) : Int)) m (fun i => ((g i : Nat) : Int)) = 2 := by unfold L2.mchk; rw [if_neg (by simpa using hb), if_pos hnm]
    exact ⟨0, 2, ⟨fun h => absurd h (by decide), fun h => absurd h.1 hnm⟩, fun h => absurd h (by decide), by omega, fun A D c d w hr hs =>
      L2.match_err A n c _ D m d _ _ w _ hr hs (by omega) (by omega) hk (by decide)⟩
theorem Dr.Is.fh {D : Dr} {P : PD} (h : D.Is P) {w : World} (hd : D.In w w.heap.size) : L2.Holds w w.heap.size D.A D.n (fun i => (P.F i : Nat)) := iholds_congr hd.th fun i hi => h.f i (by rw [← h.n]; exact hi)
theorem Dr.Is.gh {D : Dr} {P : PD} (h : D.Is P) {w : World} (hd : D.In w w.heap.size) : L2.Holds w w.heap.size D.B D.m (fun i => (P.G i : Nat)) := iholds_congr hd.tr fun i hi => h.g i (by rw [← h.m]; exact hi)
theorem all_iff {D : Dr} {P : PD} (hI : D.Is P) (hP : P.Ok) : P.All ↔ ((nd D.f D.n : Int) = D.S ∧ (nd D.g D.m : Int) = D.T) := by
  rw [all_nd hP, hI.n, hI.m, hI.S, hI.T, nd_congr (c := D.f) P.n fun i hi => hI.f i hi, nd_congr (c := D.g) P.m fun i hi => hI.g i hi]
  omega
theorem ua_of {D : Dr} {P : PD} (hI : D.Is P) (hP : P.Ok) (uP : P.All) (w : World) (hd : D.In w w.heap.size) :
    Calls Tryd.prog 41 #[.agg #[.int .i64 D.S, .int .i64 D.T, .slice D.A D.n D.c, .slice D.B D.m D.d, .int .i64 D.W, .int .i64 D.H, .slice D.C D.k D.e]] w fun e w2 => e = .returned (.agg #[.int .i64 D.S, .int .i64 D.T]) ∧ Below w.heap.size w w2 := by
  obtain ⟨p1, p2⟩ := hI.lf hP
  obtain ⟨u1, u2⟩ := (all_iff hI hP).1 uP
  have h := uses_ok p1 p2 w hd
  rw [u1, u2] at h
  exact h
/-- Two drafts in which all is used: they have a match, and it comes back; or not, and the error ErrNone. -/
theorem dm_case {D E : Dr} {P Q : PD} (hI : D.Is P) (hJ : E.Is Q) (hP : P.Ok) (hQ : Q.Ok) (uP : P.All) (uQ : Q.All) :
    (Mtc P Q ∧ ∀ w, D.In w w.heap.size → E.In w w.heap.size → Calls Tryd.prog 12 #[.agg #[.int .i64 D.S, .int .i64 D.T, .slice D.A D.n D.c, .slice D.B D.m D.d, .int .i64 D.W, .int .i64 D.H, .slice D.C D.k D.e], .agg #[.int .i64 E.S, .int .i64 E.T, .slice E.A E.n E.c, .slice E.B E.m E.d, .int .i64 E.W, .int .i64 E.H, .slice E.C E.k E.e]] w (M3 w P.S (P.mf Q) P.T (P.mg Q) 0)) ∨
    (¬ Mtc P Q ∧ ∀ w, D.In w w.heap.size → E.In w w.heap.size → Calls Tryd.prog 12 #[.agg #[.int .i64 D.S, .int .i64 D.T, .slice D.A D.n D.c, .slice D.B D.m D.d, .int .i64 D.W, .int .i64 D.H, .slice D.C D.k D.e], .agg #[.int .i64 E.S, .int .i64 E.T, .slice E.A E.n E.c, .slice E.B E.m E.d, .int .i64 E.W, .int .i64 E.H, .slice E.C E.k E.e]] w (M3 w 0 (P.mf Q) 0 (P.mg Q) 6)) := by
  have hz1 := hI.ck hP
  have hz2 := hJ.ck hQ
  have hs := hI.small hP
  have ht := hJ.small hQ
  obtain ⟨N1, e1, i1, m1, b1, t1⟩ := tm_one P.n Q.n P.F Q.F (fun i hi => Nat.lt_of_lt_of_le (hP.f i hi) hP.s1) (fun i hi => Nat.lt_of_lt_of_le (hQ.f i hi) hQ.s1) hP.n0 hP.n1 hQ.n1
  obtain ⟨N2, e2, i2, m2, b2, t2⟩ := tm_one P.m Q.m P.G Q.G (fun i hi => Nat.lt_of_lt_of_le (hP.g i hi) hP.t1) (fun i hi => Nat.lt_of_lt_of_le (hQ.g i hi) hQ.t1) hP.m0 hP.m1 hQ.m1
  have q1 : ∀ w, D.In w w.heap.size → E.In w w.heap.size → Calls Tryd.prog 43 #[.slice D.A D.n D.c, .slice E.A E.n E.c] w (L2.LOut w N1 (P.mf Q) e1) := fun w hd he => by
    have h1 := hI.fh hd
    have h2 := hJ.fh he
    rw [hI.n] at h1 ⊢
    rw [hJ.n] at h2 ⊢
    exact t1 _ _ _ _ w h1 h2
  have q2 : ∀ w, D.In w w.heap.size → E.In w w.heap.size → Calls Tryd.prog 43 #[.slice D.B D.m D.d, .slice E.B E.m E.d] w (L2.LOut w N2 (P.mg Q) e2) := fun w hd he => by
    have h1 := hI.gh hd
    have h2 := hJ.gh he
    rw [hI.m] at h1 ⊢
    rw [hJ.m] at h2 ⊢
    exact t2 _ _ _ _ w h1 h2
  have ua := fun w (hd : D.In w w.heap.size) => ua_of hI hP uP w hd
  have ub := fun w (hd : E.In w w.heap.size) => ua_of hJ hQ uQ w hd
  by_cases hc : e1 = 0 ∧ e2 = 0
  · obtain ⟨rfl, rfl⟩ := hc
    obtain ⟨n1, c1⟩ := i1.1 rfl
    obtain ⟨n2, c2⟩ := i2.1 rfl
    obtain rfl : N1 = P.S := by have h1 := m1 rfl; have h2 := mxs_onto hP.s0 hP.f uP.f; omega
    obtain rfl : N2 = P.T := by have h1 := m2 rfl; have h2 := mxs_onto hP.t0 hP.g uP.g; omega
    have hS : P.S = Q.S := by
      rw [← ((all_nd hP).1 uP).1, ← ((all_nd hQ).1 uQ).1, ← n1]
      exact nd_same _ _ _ fun y z hy hz => (c1.sym hy hz).symm
    have hT : P.T = Q.T := by
      rw [← ((all_nd hP).1 uP).2, ← ((all_nd hQ).1 uQ).2, ← n2]
      exact nd_same _ _ _ fun y z hy hz => (c2.sym hy hz).symm
    have pf : prm P.S (P.mf Q) P.S = true := mt_prm (n := P.n) (fun i hi => by rw [hS]; exact hQ.f i (by rw [← n1]; exact hi)) c1 uP.f
    have pg : prm P.T (P.mg Q) P.T = true := mt_prm (n := P.m) (fun i hi => by rw [hT]; exact hQ.g i (by rw [← n2]; exact hi)) c2 uP.g
    have hR : ((P.rnm (P.mf Q) (P.mg Q)).dr 0 0 0 0 0 0).Small := ⟨Nat.le_trans hP.n1 (by omega), Nat.le_trans hP.m1 (by omega), Nat.le_trans (Nat.mul_le_mul hP.t1 hP.s1) (by omega)⟩
    have ma : ∀ w, D.In w w.heap.size → E.In w w.heap.size → MA w D E 43 11 P.S (P.mf Q) 0 P.T (P.mg Q) 0 ((P.rnm (P.mf Q) (P.mg Q)).dr 0 0 0 0 0 0) 0 := fun w hd he =>
      ⟨fun w' h => q1 w' (hd.next h) (he.next h), fun w' h => q2 w' (hd.next h) (he.next h), fun _ _ w' A1 A2 c1 c2 h h1 h2 => (renumber_ok hI hP A1 A2 _ _ c1 c2 _ _ pf pg w' (hd.next h) h1 h2).mono fun _ _ h => h.out, hR⟩
    have hok : (P.rnm (P.mf Q) (P.mg Q)).Ok := rnm_ok hP pf pg
    have iff := dsm_is (PD.dr_is (P.rnm (P.mf Q) (P.mg Q)) 0 0 0 0 0 0) hJ hok
    cases hz : dsm ((P.rnm (P.mf Q) (P.mg Q)).dr 0 0 0 0 0 0) E
    · refine Or.inr ⟨fun h => ?_, fun w hd he => (fm_main D E hz1 hz2 hs ht w hd he P.S (P.mf Q) 0 P.T (P.mg Q) 0 _ 0 _ (fun w' h => ua w' (hd.next h)) (fun w' h => ub w' (he.next h)) (ma w hd he) hz (M3 w 0 (P.mf Q) 0 (P.mg Q) 6) (fun _ _ _ h => h) (fun h => absurd h (by decide))).mono fun _ _ h => h⟩
      rw [iff.2 h.e] at hz
      cases hz
    · exact Or.inl ⟨⟨n1, n2, c1, c2, pf, pg, iff.1 hz⟩, fun w hd he => (fm_main D E hz1 hz2 hs ht w hd he P.S (P.mf Q) 0 P.T (P.mg Q) 0 _ 0 _ (fun w' h => ua w' (hd.next h)) (fun w' h => ub w' (he.next h)) (ma w hd he) hz (M3 w P.S (P.mf Q) P.T (P.mg Q) 0) (fun h => absurd h (by decide)) (fun _ _ _ h => h)).mono fun _ _ h => h⟩
  · have hbad : bad e1 e2 0 (dsm Dr.zero E) = true := by
      unfold bad
      by_cases z1 : e1 = 0
      · have z2 : ¬ e2 = 0 := fun h => hc ⟨z1, h⟩
        simp [z1, z2]
      · simp [z1]
    refine Or.inr ⟨fun h => hc ⟨i1.2 ⟨h.n, h.cf⟩, i2.2 ⟨h.m, h.cg⟩⟩, fun w hd he => ?_⟩
    have ma : MA w D E 43 11 N1 (P.mf Q) e1 N2 (P.mg Q) e2 Dr.zero 0 :=
      ⟨fun w' h => q1 w' (hd.next h) (he.next h), fun w' h => q2 w' (hd.next h) (he.next h), fun h1 h2 => absurd ⟨h1, h2⟩ hc, Dr.zero_small⟩
    exact (fm_main D E hz1 hz2 hs ht w hd he N1 (P.mf Q) e1 N2 (P.mg Q) e2 Dr.zero 0 _ (fun w' h => ua w' (hd.next h)) (fun w' h => ub w' (he.next h)) ma rfl (M3 w 0 (P.mf Q) 0 (P.mg Q) 6) (fun _ _ _ h => h) (fun h => absurd (hbad.symm.trans h) (by decide))).mono fun _ _ h => h
/-- Not all is used: ErrArg. -/
theorem dm_un {D E : Dr} {P Q : PD} (hI : D.Is P) (hJ : E.Is Q) (hP : P.Ok) (hQ : Q.Ok) (hu : ¬ (P.All ∧ Q.All)) (F1 F2 : Nat → Int) (w : World) (hd : D.In w w.heap.size) (he : E.In w w.heap.size) :
    Calls Tryd.prog 12 #[.agg #[.int .i64 D.S, .int .i64 D.T, .slice D.A D.n D.c, .slice D.B D.m D.d, .int .i64 D.W, .int .i64 D.H, .slice D.C D.k D.e], .agg #[.int .i64 E.S, .int .i64 E.T, .slice E.A E.n E.c, .slice E.B E.m E.d, .int .i64 E.W, .int .i64 E.H, .slice E.C E.k E.e]] w (M3 w 0 F1 0 F2 2) := by
  have hz1 := hI.ck hP
  have hz2 := hJ.ck hQ
  have hs := hI.small hP
  have ht := hJ.small hQ
  obtain ⟨p1, p2⟩ := hI.lf hP
  obtain ⟨r1, r2⟩ := hJ.lf hQ
  have ua := fun w (hd : D.In w w.heap.size) => uses_ok p1 p2 w hd
  have ub := fun w (hd : E.In w w.heap.size) => uses_ok r1 r2 w hd
  by_cases uD : P.All
  · have uE : ¬ Q.All := fun h => hu ⟨uD, h⟩
    rw [all_iff hJ hQ] at uE
    have ua' := fun w (hd : D.In w w.heap.size) => ua_of hI hP uD w hd
    by_cases x : (nd E.f E.n : Int) = E.S
    · refine fm_unused4 D E _ _ hz1 hz2 hs ht w hd he 0 0 0 (nd E.g E.m) (fun w' h => ua' w' (hd.next h)) (fun w' h => ?_) (fun y => uE ⟨x, y⟩)
      have h' := ub w' (he.next h)
      rw [x] at h'
      exact h'
    · exact fm_unused3 D E _ _ hz1 hz2 hs ht w hd he 0 0 (nd E.f E.n) (nd E.g E.m) (fun w' h => ua' w' (hd.next h)) (fun w' h => ub w' (he.next h)) x
  · rw [all_iff hI hP] at uD
    by_cases x : (nd D.f D.n : Int) = D.S
    · refine fm_unused2 D E _ _ hz1 hz2 hs ht w hd he 0 (nd D.g D.m) (nd E.f E.n) (nd E.g E.m) (fun w' h => ?_) (fun w' h => ub w' (he.next h)) (fun y => uD ⟨x, y⟩)
      have h' := ua w' (hd.next h)
      rw [x] at h'
      exact h'
    · exact fm_unused1 D E _ _ hz1 hz2 hs ht w hd he (nd D.f D.n) (nd D.g D.m) (nd E.f E.n) (nd E.g E.m) (fun w' h => ua w' (hd.next h)) (fun w' h => ub w' (he.next h)) x
end Go.Proofs.YtbafhdinalapoaaDoor
