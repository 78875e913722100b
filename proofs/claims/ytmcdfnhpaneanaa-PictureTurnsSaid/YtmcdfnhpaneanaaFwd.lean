/- follow: what lies in memory while it runs; append to a queue that loses its head. -/
import Derived.Test.YtmcdfnhpaneanaaAcs
import Derived.Test.YtmcdfnhpaneanaaRhr
namespace Go.Proofs.Ytmcdfnhpaneanaa
open Go.RowKit Go.Shelf
set_option maxRecDepth 100000
set_option linter.unusedVariables false
set_option linter.unusedSimpArgs false

theorem lf_zero (u : Nat) (R : List Nat) : lf (u :: R) 0 = (u : Int) := rfl
theorem lf_succ (u : Nat) (R : List Nat) (i : Nat) : lf (u :: R) (i + 1) = lf R i := by unfold lf; rfl
/-- A queue of threads lies in a row of the call's own, which is none of the blocks Bad. -/
def TQ (w : World) (Bad : Nat → Prop) (base : Nat) (v : Value) (l : List Nat) : Prop :=
  ∃ g o cap cur, v = .slice (some ⟨g, o, none⟩) l.length cap ∧ base ≤ g ∧ ¬ Bad g ∧ w.heap[g]? = some (.cells cur 3 (0, 0)) ∧ l.length ≤ cap ∧ o + cap ≤ cur.size ∧ ∀ i, i < l.length → cur[o + i]? = some (.int .i64 (lf l i))
theorem run_tq (w : World) (Bad : Nat → Prop) (base ad : Nat) (v : Value) (l : List Nat) (hT : TQ w Bad base v l) (hkb : ∀ p, Bad p → p < w.heap.size) (y : Nat) (hc : w.cell? ⟨ad, 0, none⟩ = some (.int .i64 (y : Nat))) (hn : l.length ≤ 100000) (hb : base ≤ w.heap.size) (ty : TypeId) :
    ∃ v' w', (Builtin.append_ #[22, 22] ty #[v, .slice (some ⟨ad, 0, none⟩) 1 1]).run Try.prog w = .ok v' w' ∧ TQ w' Bad base v' (l ++ [y]) ∧ ∃ g, w.grownBy w' (some g) ∧ base ≤ g ∧ ¬ Bad g ∧ ∃ cur, w.heap[g]? = some (.cells cur 3 (0, 0)) := by
  obtain ⟨i0, hi, hz0, hz1, hz2⟩ := info_parts L2.TryI.info3
  obtain ⟨g, of, cap, cur, rfl, hg, hgk, hc1, hcap, hsz, hcl⟩ := hT
  have hgl : g < w.heap.size := (Array.getElem?_eq_some_iff.1 hc1).1
  have hnew : ∀ j u, ([.int .i64 (y : Nat)] : List Value)[j]? = some u → w.cell? ((⟨ad, 0, none⟩ : Addr).add j) = some u := fun j u hj => by
    match j, hj with
    | 0, hj => simp at hj; subst hj; simpa [Addr.add] using hc
  have hlen : (l ++ [y]).length = l.length + 1 := by simp
  by_cases hroom : l.length + 1 ≤ cap
  · have hcell : ∀ j, j < ([.int .i64 (y : Nat)] : List Value).length → (w.cell? ⟨g, of + l.length * i0.size + j, none⟩).isSome = true := fun j hj => by
      have e : j = 0 := by simp at hj; exact hj
      rw [e, hz1, Lib.cell_of_heap hc1, Array.getElem?_eq_getElem (by omega)]
      rfl
    have hrun := run_append_room_src (P := Try.prog) (w := w) 22 22 ty 3 i0 Try.underlying22 hi g of l.length cap (.slice (some ⟨ad, 0, none⟩) 1 1) 1 [.int .i64 (y : Nat)]
      (Src.ofSlice (P := Try.prog) (w := w) (size := i0.size) Try.underlying22 ⟨ad, 0, none⟩ 1 1 [.int .i64 (y : Nat)] (by rw [hz1]; rfl) hnew (ints_oneCell .i64 [y])) hroom hcell (fun j hj => Lib.frozen_of_heap hc1 _)
    have e1 : w.setCells g (of + l.length * i0.size) [.int .i64 (y : Nat)] = w.setCell ⟨g, of + l.length, none⟩ (.int .i64 (y : Nat)) := by rw [hz1, Nat.mul_one]; rfl
    rw [e1] at hrun
    refine ⟨_, _, hrun, ⟨g, of, cap, cur.setIfInBounds (of + l.length) (.int .i64 (y : Nat)), by rw [hlen], hg, hgk, ?_, by omega, by simpa using hsz, fun i hil => ?_⟩, g, ?_, hg, hgk, cur, hc1⟩
    · simp [World.setCell, Array.getElem?_modify, hc1]
    · rw [Array.getElem?_setIfInBounds]
      by_cases e : i = l.length
      · subst e
        rw [lf_last]
        simp
        omega
      · have h1 := hcl i (by omega)
        rw [← lf_app (by omega)]
        rw [if_neg (by omega)]
        exact h1
    · exact ⟨rfl, rfl, rfl, by simp, fun k hk hne => Below.heap_setCell w ⟨g, of + l.length, none⟩ _ k (fun e => hne (by rw [e]))⟩
  · have hol : (L2.news l.length (lf l)).length = l.length * i0.size := by rw [hz1, L2.news_length, Nat.mul_one]
    have hrun := run_append_grow (P := Try.prog) (w := w) 22 ty 3 i0 (.int .i64 0) Try.underlying22 hi hz0 ⟨g, of, none⟩ l.length cap (L2.news l.length (lf l)) hol
      (fun j u hu => by
        obtain ⟨hj, rfl⟩ := L2.news_get hu
        have e : Addr.add ⟨g, of, none⟩ j = ⟨g, of + j, none⟩ := by unfold Addr.add; by_cases h : j = 0 <;> simp [h]
        rw [e, Lib.cell_of_heap hc1]
        exact hcl j hj)
      ⟨ad, 0, none⟩ 1 1 [.int .i64 (y : Nat)] (by rw [hz1]; rfl) hnew (by omega) (by omega) (growslice_fits (by omega) (by rw [hz2]; omega))
    refine ⟨_, _, hrun, ⟨_, 0, _, _, by rw [hlen]; rfl, ?_, ?_, World.alloc_heap_new _ _, ?_, ?_, fun i hil => ?_⟩, g, ?_, hg, hgk, cur, hc1⟩
    · exact hb
    · exact fun e => by have := hkb _ e; exact absurd this (Nat.lt_irrefl _)
    · rw [hlen]; exact grownCap_ge _ _ _ _
    · have := grownCap_ge w (l.length + 1) cap 3
      simp [size_zeroCells, L2.news_length, Value.cells]
      omega
    · have e2 : (L2.news l.length (lf l)).toArray ++ ([.int .i64 (y : Nat)] : List Value).toArray = (L2.news (l.length + 1) (lf (l ++ [y]))).toArray := by
        rw [L2.news_succ, lf_last, L2.news_congr (fun i hi => lf_app (r := [y]) hi)]
        simp
      rw [e2, Array.getElem?_append_left (by simp [L2.news_length]; omega)]
      rw [Nat.zero_add, List.getElem?_toArray]
      unfold L2.news
      rw [List.getElem?_map, List.getElem?_range (by omega)]
      rfl
    · have hb2 : ∀ o, Below w.heap.size w (w.drew.alloc o) := fun o => ((Below.refl w.heap.size w).drew).alloc (Nat.le_refl _) o
      exact ⟨(hb2 _).os, (hb2 _).tape, (hb2 _).output, (hb2 _).size, fun k hk _ => (hb2 _).block k hk⟩
theorem wpListIn_tq {F : Fence} {n : Nat} (w : World) {ops : Array Oper} {rest : List Oper} {o : Oper} {a : Act} {Q : Exit → Act → World → Prop} (hg : o.guard = none) (s x : Operand)
    (hop : o.op = Op.call { callee := Callee.builtin Builtin.append, args := #[s, x], argTypes := #[22, 22] }) (Bad : Nat → Prop) (base ad : Nat) (v : Value) (l : List Nat) (hs : a.eval s = v) (hT : TQ w Bad base v l) (hkb : ∀ p, Bad p → p < w.heap.size) (y : Nat)
    (hx : a.eval x = .slice (some ⟨ad, 0, none⟩) 1 1) (hc : w.cell? ⟨ad, 0, none⟩ = some (.int .i64 (y : Nat))) (hn : l.length ≤ 100000) (hb : base ≤ w.heap.size)
    (hK : ∀ v' w' g cur, TQ w' Bad base v' (l ++ [y]) → w.grownBy w' (some g) → base ≤ g → ¬ Bad g → w.heap[g]? = some (.cells cur 3 (0, 0)) → wpListIn F n Try.prog ops Q rest (a.put o.dst v') w') :
    wpListIn F n Try.prog ops Q (o :: rest) a w := by
  refine wpListIn_plain hg fun K hK' => ?_
  obtain ⟨v', w', hrun, r1, g, r2, r3, r4, cur, r5⟩ := run_tq w Bad base ad v l hT hkb y hc hn hb o.type
  unfold Oper.wpIn
  refine ⟨?_, ?_⟩
  · simp [Oper.about, hop, resolve, Target.leads, Sem.run_pure]
  · rw [Oper.semAt_plain F _ _ (by rw [hop]; intro c hc'; cases hc')]
    simp [execOp, hop, resolve, invoke, builtin, hs, hx, hrun, Result.andThen]
    exact hK' _ _ (hK v' w' g cur r1 r2 r3 r4 r5)
/-- What lies while 'follow' runs: the image, the known colours, the results, the queue. -/
structure FW (w0 : World) (s W H : Nat) (v : Value) (kb kc tb : Nat) (ds : List Nat) (Bad : Nat → Prop) (w : World) (k : Nat → Int) (L : List Nat) : Prop where
  xm : IBox w s (W : Nat) (H : Nat) v
  xk : w.heap[s + 1]? = some (.cells #[.slice (some ⟨kb, 0, none⟩) (W + H) kc] 22 (0, 0))
  x8 : ∃ v8, w.heap[s + 2]? = some (.cells #[v8] 22 (0, 0))
  x9 : ∃ v9, w.heap[s + 3]? = some (.cells #[v9] 4 (0, 0))
  row : L2.Row w kb (W + H) k
  kb0 : s + 4 ≤ kb
  td : ∃ vt, w.heap[tb]? = some (.cells #[vt] 22 (0, 0)) ∧ TQ w Bad (s + 4) vt L
  tb0 : s + 4 ≤ tb
  bk : Bad kb
  bel : Below s w0 w
  dd : ∀ D, D ∈ ds → w.heap[D]? = some (.deferred (some []))
section
variable {w0 X Y : World} {s W H kb kc tb : Nat} {v : Value} {ds : List Nat} {k : Nat → Int} {L : List Nat} {Bad Bad' : Nat → Prop}
theorem FW.turn (h : FW w0 s W H v kb kc tb ds Bad X k L) (hk : ∀ p o, X.heap[p]? = some o → (o.isCells = true ∨ p ∈ ds) → Y.heap[p]? = some o) (hb : Below s w0 Y) : FW w0 s W H v kb kc tb ds Bad Y k L := by
  obtain ⟨v8, h8⟩ := h.x8
  obtain ⟨v9, h9⟩ := h.x9
  obtain ⟨vt, ht, g, o, cap, cur, e, q1, q2, q3, q4⟩ := h.td
  obtain ⟨cs, hr, hr2⟩ := h.row
  exact ⟨hk _ _ h.xm (.inl rfl), hk _ _ h.xk (.inl rfl), ⟨v8, hk _ _ h8 (.inl rfl)⟩, ⟨v9, hk _ _ h9 (.inl rfl)⟩, ⟨cs, hk _ _ hr (.inl rfl), hr2⟩, h.kb0, ⟨vt, hk _ _ ht (.inl rfl), g, o, cap, cur, e, q1, q2, hk _ _ q3 (.inl rfl), q4⟩, h.tb0, h.bk, hb, fun D hD => hk _ _ (h.dd D hD) (.inr hD)⟩
theorem FW.below (h : FW w0 s W H v kb kc tb ds Bad X k L) (hb : Below X.heap.size X Y) : FW w0 s W H v kb kc tb ds Bad Y k L := by
  have hs : s ≤ X.heap.size := Nat.le_of_lt h.xm.lt
  exact h.turn (fun p o hp _ => (hb.block p (Array.getElem?_eq_some_iff.1 hp).1).trans hp) (h.bel.trans (hb.mono hs))
theorem FW.grown {row : Option Nat} (h : FW w0 s W H v kb kc tb ds Bad X k L) {B : Nat} (hB : s ≤ B) (hD : ∀ D, D ∈ ds → D < B) (hg : X.grownBy Y row) (hr : ∀ r, row = some r → B ≤ r ∧ ∃ o : Obj, X.heap[r]? = some o ∧ o.isCells = false) : FW w0 s W H v kb kc tb ds Bad Y k L := by
  refine h.turn (fun p o hp hc => (hg.block p (Array.getElem?_eq_some_iff.1 hp).1 fun e => ?_).trans hp) (h.bel.trans ⟨hg.os, hg.tape, hg.output, hg.size, fun p hp => hg.block p (Nat.lt_trans hp h.xm.lt) fun e => ?_⟩)
  · obtain ⟨h1, o', h2, h3⟩ := hr p e.symm
    rcases hc with hc | hc
    · rw [hp] at h2; cases h2; rw [h3] at hc; cases hc
    · have := hD p hc; omega
  · have := (hr p e.symm).1; omega
/-- Other blocks that the queue is not. -/
theorem FW.bad (h : FW w0 s W H v kb kc tb ds Bad X k L) (hb : Bad' kb) (hB : ∀ g, s + 4 ≤ g → g < X.heap.size → ¬ Bad g → ¬ Bad' g) : FW w0 s W H v kb kc tb ds Bad' X k L := by
  obtain ⟨vt, ht, g, o, cap, cur, e, q1, q2, q3, q4⟩ := h.td
  exact ⟨h.xm, h.xk, h.x8, h.x9, h.row, h.kb0, ⟨vt, ht, g, o, cap, cur, e, q1, hB g q1 (Array.getElem?_eq_some_iff.1 q3).1 q2, q3, q4⟩, h.tb0, hb, h.bel, h.dd⟩
/-- A colour becomes known. -/
theorem FW.put (h : FW w0 s W H v kb kc tb ds Bad X k L) {o : Nat} (m : Int) : FW w0 s W H v kb kc tb ds Bad (X.setCell ⟨kb, o, none⟩ (.int .i64 m)) (up k o m) L := by
  have hne : ∀ {p : Nat} {ob : Obj}, X.heap[p]? = some ob → p ≠ kb → (X.setCell ⟨kb, o, none⟩ (.int .i64 m)).heap[p]? = some ob := fun hp hne => (Below.heap_setCell X ⟨kb, o, none⟩ _ _ hne).trans hp
  obtain ⟨v8, h8⟩ := h.x8
  obtain ⟨v9, h9⟩ := h.x9
  obtain ⟨vt, ht, g, o', cap, cur, e, q1, q2, q3, q4⟩ := h.td
  obtain ⟨cs, hr, hr2⟩ := h.row
  have k0 := h.kb0
  refine ⟨hne h.xm (by omega), hne h.xk (by omega), ⟨v8, hne h8 (by omega)⟩, ⟨v9, hne h9 (by omega)⟩, L2.Row.set_ ⟨cs, hr, hr2⟩ o m, h.kb0, ⟨vt, hne ht ?_, g, o', cap, cur, e, q1, q2, hne q3 (fun e => q2 (e ▸ h.bk)), q4⟩, h.tb0, h.bk, h.bel.setCell (p := ⟨kb, o, none⟩) (by show s ≤ kb; omega) _, fun D hD => hne (h.dd D hD) ?_⟩
  · intro e2; rw [e2] at ht; rw [ht] at hr; cases hr
  · intro e2; have h2 := h.dd D hD; rw [e2] at h2; rw [h2] at hr; cases hr
/-- What is appended to the queue, and laid into its variable. -/
theorem FW.app {Z : World} {vt v' : Value} {g : Nat} {cur : Array Value} {y : Nat} (h : FW w0 s W H v kb kc tb ds Bad X k L) (hT : TQ Z Bad (s + 4) v' (L ++ [y])) (hg : X.grownBy Z (some g)) (h1 : s + 4 ≤ g) (h2 : ¬ Bad g) (h3 : X.heap[g]? = some (.cells cur 3 (0, 0))) (hvt : X.heap[tb]? = some (.cells #[vt] 22 (0, 0))) :
    Z.heap[tb]? = some (.cells #[vt] 22 (0, 0)) ∧ FW w0 s W H v kb kc tb ds Bad (Z.setCell ⟨tb, 0, none⟩ v') k (L ++ [y]) ∧ KeepsOthers X (Z.setCell ⟨tb, 0, none⟩ v') := by
  have htg : tb ≠ g := fun e => by rw [e, h3] at hvt; cases hvt
  have hz : ∀ {p : Nat} {ob : Obj}, X.heap[p]? = some ob → p ≠ g → Z.heap[p]? = some ob := fun hp hne => (hg.block _ (Array.getElem?_eq_some_iff.1 hp).1 fun e => hne (Option.some.inj e)).trans hp
  have hne : ∀ {p : Nat} {ob : Obj}, X.heap[p]? = some ob → p ≠ g → p ≠ tb → (Z.setCell ⟨tb, 0, none⟩ v').heap[p]? = some ob := fun hp h5 h6 => (Below.heap_setCell Z ⟨tb, 0, none⟩ _ _ h6).trans (hz hp h5)
  have htb := hz hvt htg
  obtain ⟨v8, h8⟩ := h.x8
  obtain ⟨v9, h9⟩ := h.x9
  obtain ⟨cs, hr, hr2⟩ := h.row
  have t0 := h.tb0
  obtain ⟨g', o', cap, cur', e, q1, q2, q3, q4⟩ := hT
  have htg' : g' ≠ tb := fun e2 => by rw [e2, htb] at q3; cases q3
  refine ⟨htb, ⟨hne h.xm (by omega) (by omega), hne h.xk (by omega) (by omega), ⟨v8, hne h8 (by omega) (by omega)⟩, ⟨v9, hne h9 (by omega) (by omega)⟩, ⟨cs, hne hr (fun e => h2 (e ▸ h.bk)) ?_, hr2⟩, h.kb0, ⟨v', ?_, g', o', cap, cur', e, q1, q2, (Below.heap_setCell Z ⟨tb, 0, none⟩ _ _ htg').trans q3, q4⟩, h.tb0, h.bk, ?_, fun D hD => hne (h.dd D hD) ?_ ?_⟩, ?_⟩
  · intro e2; rw [e2, hvt] at hr; cases hr
  · simp [World.setCell, Array.getElem?_modify, htb]
  · refine (h.bel.trans ⟨hg.os, hg.tape, hg.output, hg.size, fun p hp => hg.block p (Nat.lt_trans hp h.xm.lt) fun e => ?_⟩).setCell (p := ⟨tb, 0, none⟩) (by show s ≤ tb; omega) _
    have := Option.some.inj e; omega
  · intro e2; have h5 := h.dd D hD; rw [e2, h3] at h5; cases h5
  · intro e2; have h5 := h.dd D hD; rw [e2, hvt] at h5; cases h5
  · refine ⟨?_, fun p o hp ho => hne hp ?_ ?_⟩
    · simpa using hg.size
    · intro e2; rw [e2, h3] at hp; cases hp; cases ho
    · intro e2; rw [e2, hvt] at hp; cases hp; cases ho
theorem TQ.turn {kb : Nat} (h : TQ X Bad s v L) (hk : ∀ p o, X.heap[p]? = some o → o.isCells = true → ¬ Bad p → Y.heap[p]? = some o) : TQ Y Bad s v L := by
  obtain ⟨g, o, cap, cur, e, q1, q2, q3, q4⟩ := h
  exact ⟨g, o, cap, cur, e, q1, q2, hk _ _ q3 rfl q2, q4⟩
/-- A colour becomes known, and its thread is appended to the queue. -/
theorem FW.add {P : Nat → Prop} {vt : Value} {o y : Nat} {m : Int} (h : FW w0 s W H v kb kc tb ds (fun p => p = kb ∨ P p) X k L) (hvt : X.heap[tb]? = some (.cells #[vt] 22 (0, 0))) (hT : TQ X (fun p => p = kb ∨ P p) (s + 4) vt L) (hP : ∀ p, P p → p ≠ kb ∧ p ≠ tb ∧ p < X.heap.size) :
    (TQ ((X.setCell ⟨kb, o, none⟩ (.int .i64 m)).alloc (.cells #[.int .i64 (y : Nat)] 3)) (fun p => p = kb ∨ P p) (s + 4) vt L ∧ ((X.setCell ⟨kb, o, none⟩ (.int .i64 m)).alloc (.cells #[.int .i64 (y : Nat)] 3)).cell? ⟨X.heap.size, 0, none⟩ = some (.int .i64 (y : Nat)) ∧
      (∀ p, (p = kb ∨ P p) → p < ((X.setCell ⟨kb, o, none⟩ (.int .i64 m)).alloc (.cells #[.int .i64 (y : Nat)] 3)).heap.size) ∧ s + 4 ≤ ((X.setCell ⟨kb, o, none⟩ (.int .i64 m)).alloc (.cells #[.int .i64 (y : Nat)] 3)).heap.size) ∧
    ∀ v' Z g cur, TQ Z (fun p => p = kb ∨ P p) (s + 4) v' (L ++ [y]) → ((X.setCell ⟨kb, o, none⟩ (.int .i64 m)).alloc (.cells #[.int .i64 (y : Nat)] 3)).grownBy Z (some g) → s + 4 ≤ g → ¬ (g = kb ∨ P g) → ((X.setCell ⟨kb, o, none⟩ (.int .i64 m)).alloc (.cells #[.int .i64 (y : Nat)] 3)).heap[g]? = some (.cells cur 3 (0, 0)) →
      Z.heap[tb]? = some (.cells #[vt] 22 (0, 0)) ∧ FW w0 s W H v kb kc tb ds (fun p => p = kb ∨ P p) (Z.setCell ⟨tb, 0, none⟩ v') (up k o m) (L ++ [y]) ∧ KeepsOthers X (Z.setCell ⟨tb, 0, none⟩ v') ∧ KB P X (Z.setCell ⟨tb, 0, none⟩ v') := by
  have hkl : kb < X.heap.size := h.row.lt
  have htl : tb < X.heap.size := (Array.getElem?_eq_some_iff.1 hvt).1
  have hkt : tb ≠ kb := fun e => by
    obtain ⟨cs, hr, _⟩ := h.row
    rw [e, hr] at hvt; cases hvt
  have hsz : (X.setCell ⟨kb, o, none⟩ (.int .i64 m)).heap.size = X.heap.size := by simp
  have n1 : ∀ {p : Nat} {ob : Obj}, X.heap[p]? = some ob → p ≠ kb → ((X.setCell ⟨kb, o, none⟩ (.int .i64 m)).alloc (.cells #[.int .i64 (y : Nat)] 3)).heap[p]? = some ob := fun hp hne => by
    have hl := (Array.getElem?_eq_some_iff.1 hp).1
    exact (Below.heap_alloc _ _ _ (by rw [hsz]; exact hl)).trans ((Below.heap_setCell X ⟨kb, o, none⟩ _ _ hne).trans hp)
  have h2 := (h.put (o := o) m).below ((Below.refl _ _).alloc (Nat.le_refl _) (.cells #[.int .i64 (y : Nat)] 3))
  have hk2 : KeepsOthers X ((X.setCell ⟨kb, o, none⟩ (.int .i64 m)).alloc (.cells #[.int .i64 (y : Nat)] 3)) := (KeepsOthers.setCell _ _ _).trans (KeepsOthers.alloc _ _)
  have hsz2 : ((X.setCell ⟨kb, o, none⟩ (.int .i64 m)).alloc (.cells #[.int .i64 (y : Nat)] 3)).heap.size = X.heap.size + 1 := by simp
  refine ⟨⟨hT.turn (kb := kb) fun p ob hp _ hb => n1 hp (fun e => hb (.inl e)), ?_, fun p hp => ?_, ?_⟩, fun v' Z g cur hT' hg hg1 hg2 hg3 => ?_⟩
  · have := World.alloc_heap_new (X.setCell ⟨kb, o, none⟩ (.int .i64 m)) (.cells #[.int .i64 (y : Nat)] 3)
    rw [hsz] at this
    exact (Lib.cell_of_heap this 0).trans rfl
  · rw [hsz2]
    rcases hp with rfl | hp
    · omega
    · have := (hP p hp).2.2; omega
  · have := h.kb0; omega
  · have hvt2 := n1 hvt hkt
    obtain ⟨a1, a2, a3⟩ := h2.app hT' hg hg1 hg2 hg3 hvt2
    refine ⟨a1, a2, hk2.trans a3, fun p hp => ?_⟩
    obtain ⟨b1, b2, b3⟩ := hP p hp
    have h5 : (Z.setCell ⟨tb, 0, none⟩ v').heap[p]? = Z.heap[p]? := Below.heap_setCell Z ⟨tb, 0, none⟩ _ _ b2
    have h6 : Z.heap[p]? = _ := hg.block p (by rw [hsz2]; omega) (fun e => hg2 (.inr (by rw [← Option.some.inj e]; exact hp)))
    rw [h5, h6, Below.heap_alloc _ _ _ (by rw [hsz]; exact b3), Below.heap_setCell X ⟨kb, o, none⟩ _ _ b1]
/-- The queue has lost its head; its variable is made anew. -/
theorem FW.pop {hd g o n cap D o2 cap2 : Nat} (h : FW w0 s W H v kb kc tb ds Bad X k (hd :: L)) (hvt : X.heap[tb]? = some (.cells #[.slice (some ⟨g, o, none⟩) (n + 1) cap] 22 (0, 0))) (hD : X.heap[D]? = some (.deferred (some []))) (hB : ∀ g, ¬ Bad g → g ≠ kb) (h2 : n ≤ cap2 ∧ o2 + cap2 ≤ o + cap ∧ (n = 0 ∨ o2 = o + 1)) :
    FW w0 s W H v kb kc X.heap.size (D :: ds) (· = kb) (X.alloc (.cells #[.slice (some ⟨g, o2, none⟩) n cap2] 22)) k L := by
  obtain ⟨vt, ht, g', o', cap', cur, e, q1, q2, q3, q4, q5, q6⟩ := h.td
  rw [hvt] at ht
  cases ht
  cases e
  have hn : ∀ {p : Nat} {ob : Obj}, X.heap[p]? = some ob → (X.alloc (.cells #[.slice (some ⟨g, o2, none⟩) L.length cap2] 22)).heap[p]? = some ob := fun hp => (Below.heap_alloc _ _ _ (Array.getElem?_eq_some_iff.1 hp).1).trans hp
  obtain ⟨v8, h8⟩ := h.x8
  obtain ⟨v9, h9⟩ := h.x9
  have hs := h.xm.lt
  have hk := h.row.lt
  have hk0 := h.kb0
  rw [List.length_cons] at q4 q6
  refine ⟨hn h.xm, hn h.xk, ⟨v8, hn h8⟩, ⟨v9, hn h9⟩, h.row.alloc _, h.kb0, ⟨_, World.alloc_heap_new X _, g, o2, cap2, cur, rfl, q1, hB _ q2, hn q3, by omega, by omega, fun i hi => ?_⟩, by omega, rfl, h.bel.alloc (by omega) _, fun D' hD' => ?_⟩
  · have := q6 (i + 1) (by omega)
    rw [lf_succ] at this
    rw [show o2 + i = o + (i + 1) by omega]
    exact this
  · rcases List.mem_cons.1 hD' with rfl | hD'
    · exact hn hD
    · exact hn (h.dd D' hD')
end
/-- Worlds that are alike but for the blocks ds. -/
structure Lk (ds : List Nat) (Y Z : World) : Prop where
  os : Z.os = Y.os
  tape : Z.tape = Y.tape
  output : Z.output = Y.output
  size : Z.heap.size = Y.heap.size
  same : ∀ p, p ∉ ds → Z.heap[p]? = Y.heap[p]?
theorem Lk.bel {ds : List Nat} {Y Z : World} {B : Nat} (h : Lk ds Y Z) (hB : ∀ D, D ∈ ds → B ≤ D) : Below B Y Z := ⟨h.os, h.tape, h.output, Nat.le_of_eq h.size.symm, fun p hp => h.same p fun hm => by have := hB p hm; omega⟩
def mkD (D : Nat) : Deferred := { target := .collected D, args := #[] }
/-- The marks of loops that have gone by: nothing is deferred. -/
theorem leaves_marks {F : Fence} {n : Nat} {P : Program} {fn : Func} {tmps : Array Value} {R : Ending → World → Prop} : ∀ (ds : List Nat) (Y : World), ds.Nodup → (∀ D, D ∈ ds → Y.heap[D]? = some (.deferred (some []))) →
    (∀ Z, Lk ds Y Z → ∃ v, (results fn tmps).run P Z = .ok v Z ∧ R (.returned v) Z) → LeavesInM F n P fn tmps R (ds.map mkD) .returning Y
  | [], Y, _, _, h => h Y ⟨rfl, rfl, rfl, rfl, fun _ _ => rfl⟩
  | D :: ds, Y, hn, hd, h => by
    have hD := hd D (by simp)
    have hl := (Array.getElem?_eq_some_iff.1 hD).1
    have hnd := List.nodup_cons.1 hn
    have hlk : Lk [D] Y (Y.putObj D (.deferred none)) := by
      have hg := grownBy_putObj' Y D (.deferred none)
      refine ⟨hg.os, hg.tape, hg.output, ?_, fun p hp => ?_⟩
      · simp [World.putObj]
      · exact World.putObj_heap_other (fun e => hp (by simp [e]))
    refine ⟨by simp, .inl ⟨D, _, rfl, run_takeDeferred hD, leaves_marks ds _ hnd.2 (fun D' hD' => ?_) fun Z hZ => h Z ?_⟩⟩
    · rw [hlk.same D' (fun e => by simp at e; rw [e] at hD'; exact hnd.1 hD')]
      exact hd D' (by simp [hD'])
    · exact ⟨hZ.os.trans hlk.os, hZ.tape.trans hlk.tape, hZ.output.trans hlk.output, hZ.size.trans hlk.size, fun p hp => (hZ.same p (fun hm => hp (by simp [hm]))).trans (hlk.same p (fun hm => hp (by simp at hm; simp [hm])))⟩
end Go.Proofs.Ytmcdfnhpaneanaa
