/- 'a, b, c = Twin(x), Twin(y), Twin(z)' in a region that draws. -/
import Derived.Test.YtngjcekjboedjaaKiv
import Derived.Test.YtngjcekjboedjaaKfr
namespace Go.Proofs.Ytngjcekjboedjaa
open Go.RowKit
set_option maxRecDepth 100000
set_option linter.unusedVariables false
set_option linter.unusedSimpArgs false

theorem fl_of {l : Array Bool} {i : Nat} (h : l.getD i true = false) : fl l i = false := by
  unfold fl
  rcases Nat.lt_or_ge i l.size with hi | hi
  · rw [Array.getD_eq_getD_getElem?, Array.getElem?_eq_getElem hi] at h ⊢
    exact h
  · rw [Array.getD_eq_getD_getElem?, Array.getElem?_eq_none hi] at h; cases h
theorem Col.fresh {F : Nat → Bool} {T : Nat → Value} {w : World} {B il ic ia iz td te tg : Nat} {v : Value} {W H : Int} {n : Nat} {f : Nat → Bool} (h : Col F T w B il ic ia iz td te tg v W H n f) (q : F ia = true) : T tg ≠ .pointer (some ⟨w.heap.size, 0, none⟩) := by
  obtain ⟨g, X, Y, A, m, c, e, hg, hx, _⟩ := h.al q
  intro h2
  rw [e] at h2
  have h3 : g = w.heap.size := by injection h2 with h4; injection h4 with h5; injection h5
  have := hx.lt
  omega
structure TwI (a0 : Act) (w0 : World) (W H X Y U V : Int) (A B C : Option Addr) (n c m d k e : Nat) (f a b : Nat → Bool) (l : Array Bool) (z : Act) (w : World) : Prop where
  hl : l.size = 12
  df : z.defers = a0.defers
  sz : z.tmps.size = a0.tmps.size
  ot : ∀ t, t ∉ [7, 8, 9, 28, 29, 30, 31, 32, 33] → tm z t = tm a0 t
  bl : Below w0.heap.size w0 w
  c0 : Col (fl l) (tm z) w w0.heap.size 0 1 6 9 28 29 7 (.agg #[.int .i64 W, .int .i64 H, .slice A n c]) W H n f
  c1 : Col (fl l) (tm z) w w0.heap.size 2 3 7 10 30 31 8 (.agg #[.int .i64 X, .int .i64 Y, .slice B m d]) X Y m a
  c2 : Col (fl l) (tm z) w w0.heap.size 4 5 8 11 32 33 9 (.agg #[.int .i64 U, .int .i64 V, .slice C k e]) U V k b
  d01 : fl l 6 = true → fl l 7 = true → tm z 7 ≠ tm z 8
  d02 : fl l 6 = true → fl l 8 = true → tm z 7 ≠ tm z 9
  d12 : fl l 7 = true → fl l 8 = true → tm z 8 ≠ tm z 9
theorem fold_get (T : Nat → Value) : ∀ (L : List Nat) (ts : Array Value), (L.foldl (fun ts t => ts.setIfInBounds t (T t)) ts).size = ts.size ∧ ∀ i : Nat, (L.foldl (fun ts t => ts.setIfInBounds t (T t)) ts)[i]? = if i ∈ L ∧ i < ts.size then some (T i) else ts[i]?
  | [], ts => ⟨rfl, fun i => by simp⟩
  | x :: L, ts => by
    obtain ⟨h1, h2⟩ := fold_get T L (ts.setIfInBounds x (T x))
    refine ⟨by simpa using h1, fun i => ?_⟩
    show (L.foldl (fun ts t => ts.setIfInBounds t (T t)) (ts.setIfInBounds x (T x)))[i]? = _
    rw [h2 i, Array.size_setIfInBounds, Array.getElem?_setIfInBounds]
    by_cases hi : i < ts.size
    · by_cases hL : i ∈ L
      · rw [if_pos ⟨hL, hi⟩, if_pos ⟨List.mem_cons_of_mem _ hL, hi⟩]
      · rw [if_neg (fun h => hL h.1)]
        by_cases hx : x = i
        · subst hx
          rw [if_pos rfl, if_pos hi, if_pos ⟨List.mem_cons_self, hi⟩]
        · rw [if_neg hx, if_neg (fun h => (List.mem_cons.1 h.1).elim (fun e => hx e.symm) hL)]
    · rw [if_neg (fun h => hi h.2), if_neg (fun h : i ∈ x :: L ∧ i < ts.size => hi h.2)]
      by_cases hx : x = i
      · subst hx
        rw [if_pos rfl, if_neg hi, Array.getElem?_eq_none (by omega)]
      · rw [if_neg hx]
theorem act_mk {z : Act} {t : Array Value} {d : Act} (h1 : z.tmps = t) (h2 : z.defers = d.defers) : z = { tmps := t, defers := d.defers } := by
  cases z
  simp only at h1 h2
  subst h1 h2
  rfl
theorem act_eq {z a0 : Act} (sz : z.tmps.size = a0.tmps.size) (df : z.defers = a0.defers) (ot : ∀ t, t ∉ [7, 8, 9, 28, 29, 30, 31, 32, 33] → tm z t = tm a0 t) : z = { tmps := (((((((((a0.tmps.setIfInBounds 7 (tm z 7)).setIfInBounds 8 (tm z 8)).setIfInBounds 9 (tm z 9)).setIfInBounds 28 (tm z 28)).setIfInBounds 29 (tm z 29)).setIfInBounds 30 (tm z 30)).setIfInBounds 31 (tm z 31)).setIfInBounds 32 (tm z 32)).setIfInBounds 33 (tm z 33)), defers := a0.defers } := by
  have ht : z.tmps = [7, 8, 9, 28, 29, 30, 31, 32, 33].foldl (fun ts t => ts.setIfInBounds t (tm z t)) a0.tmps := by
    refine Array.ext_getElem? fun i => ?_
    rw [(fold_get (tm z) _ a0.tmps).2 i]
    rcases Nat.lt_or_ge i a0.tmps.size with h3 | h3
    · have h1 : i < z.tmps.size := by omega
      have e1 : z.tmps[i]? = some (tm z i) := by unfold tm; rw [Array.getElem?_eq_getElem h1]; rfl
      by_cases hi : i ∈ [7, 8, 9, 28, 29, 30, 31, 32, 33]
      · rw [if_pos ⟨hi, h3⟩, e1]
      · rw [if_neg (fun h => hi h.1), e1, ot i hi]
        unfold tm
        rw [Array.getElem?_eq_getElem h3]; rfl
    · rw [if_neg (fun h => absurd h.2 (by omega)), Array.getElem?_eq_none h3, Array.getElem?_eq_none (by omega)]
  simp only [List.foldl_cons, List.foldl_nil] at ht
  exact act_mk ht df
set_option maxHeartbeats 3200000 in
theorem tw3_region {ops : Array Oper} {Q : Exit → Act → World → Prop} {id : Nat} (a0 : Act) (w0 : World) (W H X Y U V : Int) (A B C : Option Addr) (n c m d k e : Nat) (f a b : Nat → Bool) (o0 : Opi ops 0 (.load 24 (.tmp 3)) (some 28) []) (o1 : Opi ops 1 (.call { callee := .value (.func 44), args := #[.tmp 28], argTypes := #[24] }) (some 29) [0]) (o6 : Opi ops 6 (.alloc 24) (some 7) []) (o9 : Opi ops 9 (.store 24 (.tmp 7) (.tmp 29)) none [1, 6]) (o2 : Opi ops 2 (.load 24 (.tmp 4)) (some 30) []) (o3 : Opi ops 3 (.call { callee := .value (.func 44), args := #[.tmp 30], argTypes := #[24] }) (some 31) [2]) (o7 : Opi ops 7 (.alloc 24) (some 8) []) (o10 : Opi ops 10 (.store 24 (.tmp 8) (.tmp 31)) none [3, 7]) (o4 : Opi ops 4 (.load 24 (.tmp 5)) (some 32) []) (o5 : Opi ops 5 (.call { callee := .value (.func 44), args := #[.tmp 32], argTypes := #[24] }) (some 33) [4]) (o8 : Opi ops 8 (.alloc 24) (some 9) []) (o11 : Opi ops 11 (.store 24 (.tmp 9) (.tmp 33)) none [5, 8])
    (hn : ops.size = 12) (hord : ordB ops = true) (hm : Try.prog.follows .mixedOrders = true) {s0 : Nat} (x0 : tm a0 3 = .pointer (some ⟨s0, 0, none⟩)) (X0 : Box w0 s0 W H (.slice A n c)) (h0 : ∀ u, Below w0.heap.size w0 u → Calls Try.prog 44 #[.agg #[.int .i64 W, .int .i64 H, .slice A n c]] u (TWR u W H n f)) {s1 : Nat} (x1 : tm a0 4 = .pointer (some ⟨s1, 0, none⟩)) (X1 : Box w0 s1 X Y (.slice B m d)) (h1 : ∀ u, Below w0.heap.size w0 u → Calls Try.prog 44 #[.agg #[.int .i64 X, .int .i64 Y, .slice B m d]] u (TWR u X Y m a)) {s2 : Nat} (x2 : tm a0 5 = .pointer (some ⟨s2, 0, none⟩)) (X2 : Box w0 s2 U V (.slice C k e)) (h2 : ∀ u, Below w0.heap.size w0 u → Calls Try.prog 44 #[.agg #[.int .i64 U, .int .i64 V, .slice C k e]] u (TWR u U V k b)) (hs : 34 ≤ a0.tmps.size)
    (hK : ∀ g1 g2 g3 A1 c1 A2 c2 A3 c3 w', Below w0.heap.size w0 w' → w0.heap.size ≤ g1 → w0.heap.size ≤ g2 → w0.heap.size ≤ g3 → Box w' g1 W H (.slice A1 n c1) → Box w' g2 X Y (.slice A2 m c2) → Box w' g3 U V (.slice A3 k c3) →
      Holds w' w'.heap.size A1 n f → Holds w' w'.heap.size A2 m a → Holds w' w'.heap.size A3 k b → Q .normal { tmps := (((((((((a0.tmps.setIfInBounds 7 (.pointer (some ⟨g1, 0, none⟩))).setIfInBounds 8 (.pointer (some ⟨g2, 0, none⟩))).setIfInBounds 9 (.pointer (some ⟨g3, 0, none⟩))).setIfInBounds 28 (.agg #[.int .i64 W, .int .i64 H, .slice A n c])).setIfInBounds 29 (.agg #[.int .i64 W, .int .i64 H, .slice A1 n c1])).setIfInBounds 30 (.agg #[.int .i64 X, .int .i64 Y, .slice B m d])).setIfInBounds 31 (.agg #[.int .i64 X, .int .i64 Y, .slice A2 m c2])).setIfInBounds 32 (.agg #[.int .i64 U, .int .i64 V, .slice C k e])).setIfInBounds 33 (.agg #[.int .i64 U, .int .i64 V, .slice A3 k c3])), defers := a0.defers } w') : (Code.region id ops true).wp Try.prog Q a0 w0 := by
  refine wp_region_inv hm (TwI a0 w0 W H X Y U V A B C n c m d k e f a b) ?_ ?_ ?_
  · have F0 : ∀ i, fl (Array.replicate ops.size false) i = false := fun i => by
      unfold fl
      rw [Array.getD_eq_getD_getElem?, Array.getElem?_replicate]
      split <;> rfl
    exact ⟨by simp [hn], rfl, rfl, fun _ _ => rfl, (Below.refl _ _).drew, ⟨fun q => (by rw [F0] at q; cases q), fun q => (by rw [F0] at q; cases q), fun q => (by rw [F0] at q; cases q), fun q => (by rw [F0] at q; cases q)⟩, ⟨fun q => (by rw [F0] at q; cases q), fun q => (by rw [F0] at q; cases q), fun q => (by rw [F0] at q; cases q), fun q => (by rw [F0] at q; cases q)⟩, ⟨fun q => (by rw [F0] at q; cases q), fun q => (by rw [F0] at q; cases q), fun q => (by rw [F0] at q; cases q), fun q => (by rw [F0] at q; cases q)⟩, fun q => (by rw [F0] at q; cases q), fun q => (by rw [F0] at q; cases q), fun q => (by rw [F0] at q; cases q)⟩
  · intro l z w I hr
    have hl := fun i (hi : i < 12) => all_listed (by rw [I.hl, hn]) hord hr i (by omega)
    obtain ⟨A1, c1, e1, hh1⟩ := I.c0.cl (hl 1 (by decide))
    obtain ⟨g1, X1', Y1', A1', m1', c1', p1, hg1, hx1, hz1⟩ := I.c0.al (hl 6 (by decide))
    have q1 := hz1 (hl 9 (by decide))
    rw [e1] at q1
    obtain ⟨rfl, rfl, rfl, rfl, rfl⟩ : X1' = W ∧ Y1' = H ∧ A1' = A1 ∧ m1' = n ∧ c1' = c1 := by simp at q1; obtain ⟨r1, r2, r3, r4, r5⟩ := q1; exact ⟨r1.symm, r2.symm, r3.symm, r4.symm, r5.symm⟩
    obtain ⟨A2, c2, e2, hh2⟩ := I.c1.cl (hl 3 (by decide))
    obtain ⟨g2, X2', Y2', A2', m2', c2', p2, hg2, hx2, hz2⟩ := I.c1.al (hl 7 (by decide))
    have q2 := hz2 (hl 10 (by decide))
    rw [e2] at q2
    obtain ⟨rfl, rfl, rfl, rfl, rfl⟩ : X2' = X ∧ Y2' = Y ∧ A2' = A2 ∧ m2' = m ∧ c2' = c2 := by simp at q2; obtain ⟨r1, r2, r3, r4, r5⟩ := q2; exact ⟨r1.symm, r2.symm, r3.symm, r4.symm, r5.symm⟩
    obtain ⟨A3, c3, e3, hh3⟩ := I.c2.cl (hl 5 (by decide))
    obtain ⟨g3, X3', Y3', A3', m3', c3', p3, hg3, hx3, hz3⟩ := I.c2.al (hl 8 (by decide))
    have q3 := hz3 (hl 11 (by decide))
    rw [e3] at q3
    obtain ⟨rfl, rfl, rfl, rfl, rfl⟩ : X3' = U ∧ Y3' = V ∧ A3' = A3 ∧ m3' = k ∧ c3' = c3 := by simp at q3; obtain ⟨r1, r2, r3, r4, r5⟩ := q3; exact ⟨r1.symm, r2.symm, r3.symm, r4.symm, r5.symm⟩
    have hk := hK g1 g2 g3 A1' c1' A2' c2' A3' c3' w I.bl hg1 hg2 hg3 hx1 hx2 hx3 hh1 hh2 hh3
    rw [act_eq I.sz I.df I.ot, p1, p2, p3, e1, e2, e3, I.c0.ld (hl 0 (by decide)), I.c1.ld (hl 2 (by decide)), I.c2.ld (hl 4 (by decide))]
    exact hk
  · intro l z w i I hi
    have hi12 : i < 12 := by
      obtain ⟨_, o, ho, _⟩ := ready_mem hi
      have := (Array.getElem?_eq_some_iff.1 ho).1
      omega
    have hl12 : i < l.size := by rw [I.hl]; exact hi12
    have FN : ∀ j, j ≠ i → fl (l.setIfInBounds i true) j = fl l j := fun j hj => by rw [fl_set hl12, if_neg hj]
    have FY : fl (l.setIfInBounds i true) i = true := by rw [fl_set hl12, if_pos rfl]
    have HL : (l.setIfInBounds i true).size = 12 := by simpa using I.hl
    have hzs := I.sz
    rcases (show i = 0 ∨ i = 1 ∨ i = 2 ∨ i = 3 ∨ i = 4 ∨ i = 5 ∨ i = 6 ∨ i = 7 ∨ i = 8 ∨ i = 9 ∨ i = 10 ∨ i = 11 by omega) with rfl | rfl | rfl | rfl | rfl | rfl | rfl | rfl | rfl | rfl | rfl | rfl
    · obtain ⟨k1, kd, o, ho, hop, hdst, hg⟩ := o0.get hi
      refine op_plain ho hg (wp_load3 3 hop (show tm z 3 = _ from (I.ot 3 (by decide)).trans x0) (X0.below I.bl X0.lt) ?_)
      rw [hdst]
      have TN : ∀ s, s ≠ 28 → tm (z.put (some 28) (.agg #[.int .i64 W, .int .i64 H, .slice A n c])) s = tm z s := fun s h => by rw [tm_put (by omega), if_neg h]
      have TY : tm (z.put (some 28) (.agg #[.int .i64 W, .int .i64 H, .slice A n c])) 28 = (.agg #[.int .i64 W, .int .i64 H, .slice A n c]) := by rw [tm_put (by omega), if_pos rfl]
      exact ⟨HL, I.df, by show (z.tmps.setIfInBounds _ _).size = _; simpa using I.sz, fun s h => (TN s (fun q => h (by rw [q]; decide))).trans (I.ot s h), I.bl, (I.c0.load (FN 1 (by decide)) (FN 6 (by decide)) (FN 9 (by decide)) TY (TN 29 (by decide)) (TN 7 (by decide))), (I.c1.other (FN 2 (by decide)) (FN 3 (by decide)) (FN 7 (by decide)) (FN 10 (by decide)) (TN 30 (by decide)) (TN 31 (by decide)) (TN 8 (by decide))), (I.c2.other (FN 4 (by decide)) (FN 5 (by decide)) (FN 8 (by decide)) (FN 11 (by decide)) (TN 32 (by decide)) (TN 33 (by decide)) (TN 9 (by decide))), fun q1 q2 => by rw [FN 6 (by decide)] at q1; rw [FN 7 (by decide)] at q2; rw [TN 7 (by decide), TN 8 (by decide)]; exact I.d01 q1 q2, fun q1 q2 => by rw [FN 6 (by decide)] at q1; rw [FN 8 (by decide)] at q2; rw [TN 7 (by decide), TN 9 (by decide)]; exact I.d02 q1 q2, fun q1 q2 => by rw [FN 7 (by decide)] at q1; rw [FN 8 (by decide)] at q2; rw [TN 8 (by decide), TN 9 (by decide)]; exact I.d12 q1 q2⟩
    · obtain ⟨k1, kd, o, ho, hop, hdst, hg⟩ := o1.get hi
      refine op_plain ho hg (wp_call1 44 28 hop (y := .agg #[.int .i64 W, .int .i64 H, .slice A n c]) (show tm z 28 = _ from I.c0.ld (kd 0 (by simp))) (h0 _ I.bl) (fun _ _ => rfl) fun e' w' hr => ?_)
      obtain ⟨A', c', rfl, hh, hb⟩ := hr
      refine ⟨_, rfl, ?_⟩
      rw [hdst]
      have TN : ∀ s, s ≠ 29 → tm (z.put (some 29) (.agg #[.int .i64 W, .int .i64 H, .slice A' n c'])) s = tm z s := fun s h => by rw [tm_put (by omega), if_neg h]
      have TY : tm (z.put (some 29) (.agg #[.int .i64 W, .int .i64 H, .slice A' n c'])) 29 = (.agg #[.int .i64 W, .int .i64 H, .slice A' n c']) := by rw [tm_put (by omega), if_pos rfl]
      exact ⟨HL, I.df, by show (z.tmps.setIfInBounds _ _).size = _; simpa using I.sz, fun s h => (TN s (fun q => h (by rw [q]; decide))).trans (I.ot s h), I.bl.trans (hb.mono I.bl.size), (I.c0.call hb (fl_of k1) (FN 0 (by decide)) (FN 6 (by decide)) (FN 9 (by decide)) (TN 28 (by decide)) (TN 7 (by decide)) FY TY hh), ((I.c1.below hb).other (FN 2 (by decide)) (FN 3 (by decide)) (FN 7 (by decide)) (FN 10 (by decide)) (TN 30 (by decide)) (TN 31 (by decide)) (TN 8 (by decide))), ((I.c2.below hb).other (FN 4 (by decide)) (FN 5 (by decide)) (FN 8 (by decide)) (FN 11 (by decide)) (TN 32 (by decide)) (TN 33 (by decide)) (TN 9 (by decide))), fun q1 q2 => by rw [FN 6 (by decide)] at q1; rw [FN 7 (by decide)] at q2; rw [TN 7 (by decide), TN 8 (by decide)]; exact I.d01 q1 q2, fun q1 q2 => by rw [FN 6 (by decide)] at q1; rw [FN 8 (by decide)] at q2; rw [TN 7 (by decide), TN 9 (by decide)]; exact I.d02 q1 q2, fun q1 q2 => by rw [FN 7 (by decide)] at q1; rw [FN 8 (by decide)] at q2; rw [TN 8 (by decide), TN 9 (by decide)]; exact I.d12 q1 q2⟩
    · obtain ⟨k1, kd, o, ho, hop, hdst, hg⟩ := o2.get hi
      refine op_plain ho hg (wp_load3 4 hop (show tm z 4 = _ from (I.ot 4 (by decide)).trans x1) (X1.below I.bl X1.lt) ?_)
      rw [hdst]
      have TN : ∀ s, s ≠ 30 → tm (z.put (some 30) (.agg #[.int .i64 X, .int .i64 Y, .slice B m d])) s = tm z s := fun s h => by rw [tm_put (by omega), if_neg h]
      have TY : tm (z.put (some 30) (.agg #[.int .i64 X, .int .i64 Y, .slice B m d])) 30 = (.agg #[.int .i64 X, .int .i64 Y, .slice B m d]) := by rw [tm_put (by omega), if_pos rfl]
      exact ⟨HL, I.df, by show (z.tmps.setIfInBounds _ _).size = _; simpa using I.sz, fun s h => (TN s (fun q => h (by rw [q]; decide))).trans (I.ot s h), I.bl, (I.c0.other (FN 0 (by decide)) (FN 1 (by decide)) (FN 6 (by decide)) (FN 9 (by decide)) (TN 28 (by decide)) (TN 29 (by decide)) (TN 7 (by decide))), (I.c1.load (FN 3 (by decide)) (FN 7 (by decide)) (FN 10 (by decide)) TY (TN 31 (by decide)) (TN 8 (by decide))), (I.c2.other (FN 4 (by decide)) (FN 5 (by decide)) (FN 8 (by decide)) (FN 11 (by decide)) (TN 32 (by decide)) (TN 33 (by decide)) (TN 9 (by decide))), fun q1 q2 => by rw [FN 6 (by decide)] at q1; rw [FN 7 (by decide)] at q2; rw [TN 7 (by decide), TN 8 (by decide)]; exact I.d01 q1 q2, fun q1 q2 => by rw [FN 6 (by decide)] at q1; rw [FN 8 (by decide)] at q2; rw [TN 7 (by decide), TN 9 (by decide)]; exact I.d02 q1 q2, fun q1 q2 => by rw [FN 7 (by decide)] at q1; rw [FN 8 (by decide)] at q2; rw [TN 8 (by decide), TN 9 (by decide)]; exact I.d12 q1 q2⟩
    · obtain ⟨k1, kd, o, ho, hop, hdst, hg⟩ := o3.get hi
      refine op_plain ho hg (wp_call1 44 30 hop (y := .agg #[.int .i64 X, .int .i64 Y, .slice B m d]) (show tm z 30 = _ from I.c1.ld (kd 2 (by simp))) (h1 _ I.bl) (fun _ _ => rfl) fun e' w' hr => ?_)
      obtain ⟨A', c', rfl, hh, hb⟩ := hr
      refine ⟨_, rfl, ?_⟩
      rw [hdst]
      have TN : ∀ s, s ≠ 31 → tm (z.put (some 31) (.agg #[.int .i64 X, .int .i64 Y, .slice A' m c'])) s = tm z s := fun s h => by rw [tm_put (by omega), if_neg h]
      have TY : tm (z.put (some 31) (.agg #[.int .i64 X, .int .i64 Y, .slice A' m c'])) 31 = (.agg #[.int .i64 X, .int .i64 Y, .slice A' m c']) := by rw [tm_put (by omega), if_pos rfl]
      exact ⟨HL, I.df, by show (z.tmps.setIfInBounds _ _).size = _; simpa using I.sz, fun s h => (TN s (fun q => h (by rw [q]; decide))).trans (I.ot s h), I.bl.trans (hb.mono I.bl.size), ((I.c0.below hb).other (FN 0 (by decide)) (FN 1 (by decide)) (FN 6 (by decide)) (FN 9 (by decide)) (TN 28 (by decide)) (TN 29 (by decide)) (TN 7 (by decide))), (I.c1.call hb (fl_of k1) (FN 2 (by decide)) (FN 7 (by decide)) (FN 10 (by decide)) (TN 30 (by decide)) (TN 8 (by decide)) FY TY hh), ((I.c2.below hb).other (FN 4 (by decide)) (FN 5 (by decide)) (FN 8 (by decide)) (FN 11 (by decide)) (TN 32 (by decide)) (TN 33 (by decide)) (TN 9 (by decide))), fun q1 q2 => by rw [FN 6 (by decide)] at q1; rw [FN 7 (by decide)] at q2; rw [TN 7 (by decide), TN 8 (by decide)]; exact I.d01 q1 q2, fun q1 q2 => by rw [FN 6 (by decide)] at q1; rw [FN 8 (by decide)] at q2; rw [TN 7 (by decide), TN 9 (by decide)]; exact I.d02 q1 q2, fun q1 q2 => by rw [FN 7 (by decide)] at q1; rw [FN 8 (by decide)] at q2; rw [TN 8 (by decide), TN 9 (by decide)]; exact I.d12 q1 q2⟩
    · obtain ⟨k1, kd, o, ho, hop, hdst, hg⟩ := o4.get hi
      refine op_plain ho hg (wp_load3 5 hop (show tm z 5 = _ from (I.ot 5 (by decide)).trans x2) (X2.below I.bl X2.lt) ?_)
      rw [hdst]
      have TN : ∀ s, s ≠ 32 → tm (z.put (some 32) (.agg #[.int .i64 U, .int .i64 V, .slice C k e])) s = tm z s := fun s h => by rw [tm_put (by omega), if_neg h]
      have TY : tm (z.put (some 32) (.agg #[.int .i64 U, .int .i64 V, .slice C k e])) 32 = (.agg #[.int .i64 U, .int .i64 V, .slice C k e]) := by rw [tm_put (by omega), if_pos rfl]
      exact ⟨HL, I.df, by show (z.tmps.setIfInBounds _ _).size = _; simpa using I.sz, fun s h => (TN s (fun q => h (by rw [q]; decide))).trans (I.ot s h), I.bl, (I.c0.other (FN 0 (by decide)) (FN 1 (by decide)) (FN 6 (by decide)) (FN 9 (by decide)) (TN 28 (by decide)) (TN 29 (by decide)) (TN 7 (by decide))), (I.c1.other (FN 2 (by decide)) (FN 3 (by decide)) (FN 7 (by decide)) (FN 10 (by decide)) (TN 30 (by decide)) (TN 31 (by decide)) (TN 8 (by decide))), (I.c2.load (FN 5 (by decide)) (FN 8 (by decide)) (FN 11 (by decide)) TY (TN 33 (by decide)) (TN 9 (by decide))), fun q1 q2 => by rw [FN 6 (by decide)] at q1; rw [FN 7 (by decide)] at q2; rw [TN 7 (by decide), TN 8 (by decide)]; exact I.d01 q1 q2, fun q1 q2 => by rw [FN 6 (by decide)] at q1; rw [FN 8 (by decide)] at q2; rw [TN 7 (by decide), TN 9 (by decide)]; exact I.d02 q1 q2, fun q1 q2 => by rw [FN 7 (by decide)] at q1; rw [FN 8 (by decide)] at q2; rw [TN 8 (by decide), TN 9 (by decide)]; exact I.d12 q1 q2⟩
    · obtain ⟨k1, kd, o, ho, hop, hdst, hg⟩ := o5.get hi
      refine op_plain ho hg (wp_call1 44 32 hop (y := .agg #[.int .i64 U, .int .i64 V, .slice C k e]) (show tm z 32 = _ from I.c2.ld (kd 4 (by simp))) (h2 _ I.bl) (fun _ _ => rfl) fun e' w' hr => ?_)
      obtain ⟨A', c', rfl, hh, hb⟩ := hr
      refine ⟨_, rfl, ?_⟩
      rw [hdst]
      have TN : ∀ s, s ≠ 33 → tm (z.put (some 33) (.agg #[.int .i64 U, .int .i64 V, .slice A' k c'])) s = tm z s := fun s h => by rw [tm_put (by omega), if_neg h]
      have TY : tm (z.put (some 33) (.agg #[.int .i64 U, .int .i64 V, .slice A' k c'])) 33 = (.agg #[.int .i64 U, .int .i64 V, .slice A' k c']) := by rw [tm_put (by omega), if_pos rfl]
      exact ⟨HL, I.df, by show (z.tmps.setIfInBounds _ _).size = _; simpa using I.sz, fun s h => (TN s (fun q => h (by rw [q]; decide))).trans (I.ot s h), I.bl.trans (hb.mono I.bl.size), ((I.c0.below hb).other (FN 0 (by decide)) (FN 1 (by decide)) (FN 6 (by decide)) (FN 9 (by decide)) (TN 28 (by decide)) (TN 29 (by decide)) (TN 7 (by decide))), ((I.c1.below hb).other (FN 2 (by decide)) (FN 3 (by decide)) (FN 7 (by decide)) (FN 10 (by decide)) (TN 30 (by decide)) (TN 31 (by decide)) (TN 8 (by decide))), (I.c2.call hb (fl_of k1) (FN 4 (by decide)) (FN 8 (by decide)) (FN 11 (by decide)) (TN 32 (by decide)) (TN 9 (by decide)) FY TY hh), fun q1 q2 => by rw [FN 6 (by decide)] at q1; rw [FN 7 (by decide)] at q2; rw [TN 7 (by decide), TN 8 (by decide)]; exact I.d01 q1 q2, fun q1 q2 => by rw [FN 6 (by decide)] at q1; rw [FN 8 (by decide)] at q2; rw [TN 7 (by decide), TN 9 (by decide)]; exact I.d02 q1 q2, fun q1 q2 => by rw [FN 7 (by decide)] at q1; rw [FN 8 (by decide)] at q2; rw [TN 8 (by decide), TN 9 (by decide)]; exact I.d12 q1 q2⟩
    · obtain ⟨k1, kd, o, ho, hop, hdst, hg⟩ := o6.get hi
      refine op_plain ho hg (wp_alloc24 hop ?_)
      rw [hdst]
      have TN : ∀ s, s ≠ 7 → tm (z.put (some 7) (.pointer (some ⟨w.heap.size, 0, none⟩))) s = tm z s := fun s h => by rw [tm_put (by omega), if_neg h]
      have TY : tm (z.put (some 7) (.pointer (some ⟨w.heap.size, 0, none⟩))) 7 = (.pointer (some ⟨w.heap.size, 0, none⟩)) := by rw [tm_put (by omega), if_pos rfl]
      exact ⟨HL, I.df, by show (z.tmps.setIfInBounds _ _).size = _; simpa using I.sz, fun s h => (TN s (fun q => h (by rw [q]; decide))).trans (I.ot s h), I.bl.alloc I.bl.size _, (I.c0.alloc I.bl.size (fl_of k1) (FN 0 (by decide)) (FN 1 (by decide)) (FN 9 (by decide)) (TN 28 (by decide)) (TN 29 (by decide)) TY), ((I.c1.below (bel_alloc w _)).other (FN 2 (by decide)) (FN 3 (by decide)) (FN 7 (by decide)) (FN 10 (by decide)) (TN 30 (by decide)) (TN 31 (by decide)) (TN 8 (by decide))), ((I.c2.below (bel_alloc w _)).other (FN 4 (by decide)) (FN 5 (by decide)) (FN 8 (by decide)) (FN 11 (by decide)) (TN 32 (by decide)) (TN 33 (by decide)) (TN 9 (by decide))), fun _ q2 => by rw [FN 7 (by decide)] at q2; rw [TY, TN 8 (by decide)]; exact fun h => I.c1.fresh q2 h.symm, fun _ q2 => by rw [FN 8 (by decide)] at q2; rw [TY, TN 9 (by decide)]; exact fun h => I.c2.fresh q2 h.symm, fun q1 q2 => by rw [FN 7 (by decide)] at q1; rw [FN 8 (by decide)] at q2; rw [TN 8 (by decide), TN 9 (by decide)]; exact I.d12 q1 q2⟩
    · obtain ⟨k1, kd, o, ho, hop, hdst, hg⟩ := o7.get hi
      refine op_plain ho hg (wp_alloc24 hop ?_)
      rw [hdst]
      have TN : ∀ s, s ≠ 8 → tm (z.put (some 8) (.pointer (some ⟨w.heap.size, 0, none⟩))) s = tm z s := fun s h => by rw [tm_put (by omega), if_neg h]
      have TY : tm (z.put (some 8) (.pointer (some ⟨w.heap.size, 0, none⟩))) 8 = (.pointer (some ⟨w.heap.size, 0, none⟩)) := by rw [tm_put (by omega), if_pos rfl]
      exact ⟨HL, I.df, by show (z.tmps.setIfInBounds _ _).size = _; simpa using I.sz, fun s h => (TN s (fun q => h (by rw [q]; decide))).trans (I.ot s h), I.bl.alloc I.bl.size _, ((I.c0.below (bel_alloc w _)).other (FN 0 (by decide)) (FN 1 (by decide)) (FN 6 (by decide)) (FN 9 (by decide)) (TN 28 (by decide)) (TN 29 (by decide)) (TN 7 (by decide))), (I.c1.alloc I.bl.size (fl_of k1) (FN 2 (by decide)) (FN 3 (by decide)) (FN 10 (by decide)) (TN 30 (by decide)) (TN 31 (by decide)) TY), ((I.c2.below (bel_alloc w _)).other (FN 4 (by decide)) (FN 5 (by decide)) (FN 8 (by decide)) (FN 11 (by decide)) (TN 32 (by decide)) (TN 33 (by decide)) (TN 9 (by decide))), fun q1 _ => by rw [FN 6 (by decide)] at q1; rw [TY, TN 7 (by decide)]; exact I.c0.fresh q1, fun q1 q2 => by rw [FN 6 (by decide)] at q1; rw [FN 8 (by decide)] at q2; rw [TN 7 (by decide), TN 9 (by decide)]; exact I.d02 q1 q2, fun _ q2 => by rw [FN 8 (by decide)] at q2; rw [TY, TN 9 (by decide)]; exact fun h => I.c2.fresh q2 h.symm⟩
    · obtain ⟨k1, kd, o, ho, hop, hdst, hg⟩ := o8.get hi
      refine op_plain ho hg (wp_alloc24 hop ?_)
      rw [hdst]
      have TN : ∀ s, s ≠ 9 → tm (z.put (some 9) (.pointer (some ⟨w.heap.size, 0, none⟩))) s = tm z s := fun s h => by rw [tm_put (by omega), if_neg h]
      have TY : tm (z.put (some 9) (.pointer (some ⟨w.heap.size, 0, none⟩))) 9 = (.pointer (some ⟨w.heap.size, 0, none⟩)) := by rw [tm_put (by omega), if_pos rfl]
      exact ⟨HL, I.df, by show (z.tmps.setIfInBounds _ _).size = _; simpa using I.sz, fun s h => (TN s (fun q => h (by rw [q]; decide))).trans (I.ot s h), I.bl.alloc I.bl.size _, ((I.c0.below (bel_alloc w _)).other (FN 0 (by decide)) (FN 1 (by decide)) (FN 6 (by decide)) (FN 9 (by decide)) (TN 28 (by decide)) (TN 29 (by decide)) (TN 7 (by decide))), ((I.c1.below (bel_alloc w _)).other (FN 2 (by decide)) (FN 3 (by decide)) (FN 7 (by decide)) (FN 10 (by decide)) (TN 30 (by decide)) (TN 31 (by decide)) (TN 8 (by decide))), (I.c2.alloc I.bl.size (fl_of k1) (FN 4 (by decide)) (FN 5 (by decide)) (FN 11 (by decide)) (TN 32 (by decide)) (TN 33 (by decide)) TY), fun q1 q2 => by rw [FN 6 (by decide)] at q1; rw [FN 7 (by decide)] at q2; rw [TN 7 (by decide), TN 8 (by decide)]; exact I.d01 q1 q2, fun q1 _ => by rw [FN 6 (by decide)] at q1; rw [TY, TN 7 (by decide)]; exact I.c0.fresh q1, fun q1 _ => by rw [FN 7 (by decide)] at q1; rw [TY, TN 8 (by decide)]; exact I.c1.fresh q1⟩
    · obtain ⟨k1, kd, o, ho, hop, hdst, hg⟩ := o9.get hi
      obtain ⟨g, X', Y', A1, m1, c1, A', c', e1, hg1, hx1, e2, hst⟩ := I.c0.store (kd 1 (by simp)) (kd 6 (by simp))
      refine op_plain ho hg (wp_store3 7 29 hop e1 e2 hx1 ?_)
      rw [hdst]
      exact ⟨HL, I.df, I.sz, I.ot, bel_st3 I.bl hg1 _ _ _, (hst _ (FN 0 (by decide)) (FN 1 (by decide)) (FN 6 (by decide))), ((I.c1.st3 hx1 (fun q h => I.d01 (kd 6 (by simp)) q (e1.trans h.symm)) _ _ _).other (FN 2 (by decide)) (FN 3 (by decide)) (FN 7 (by decide)) (FN 10 (by decide)) rfl rfl rfl), ((I.c2.st3 hx1 (fun q h => I.d02 (kd 6 (by simp)) q (e1.trans h.symm)) _ _ _).other (FN 4 (by decide)) (FN 5 (by decide)) (FN 8 (by decide)) (FN 11 (by decide)) rfl rfl rfl), fun q1 q2 => I.d01 (by rw [FN 6 (by decide)] at q1; exact q1) (by rw [FN 7 (by decide)] at q2; exact q2), fun q1 q2 => I.d02 (by rw [FN 6 (by decide)] at q1; exact q1) (by rw [FN 8 (by decide)] at q2; exact q2), fun q1 q2 => I.d12 (by rw [FN 7 (by decide)] at q1; exact q1) (by rw [FN 8 (by decide)] at q2; exact q2)⟩
    · obtain ⟨k1, kd, o, ho, hop, hdst, hg⟩ := o10.get hi
      obtain ⟨g, X', Y', A1, m1, c1, A', c', e1, hg1, hx1, e2, hst⟩ := I.c1.store (kd 3 (by simp)) (kd 7 (by simp))
      refine op_plain ho hg (wp_store3 8 31 hop e1 e2 hx1 ?_)
      rw [hdst]
      exact ⟨HL, I.df, I.sz, I.ot, bel_st3 I.bl hg1 _ _ _, ((I.c0.st3 hx1 (fun q h => I.d01 q (kd 7 (by simp)) (h.trans e1.symm)) _ _ _).other (FN 0 (by decide)) (FN 1 (by decide)) (FN 6 (by decide)) (FN 9 (by decide)) rfl rfl rfl), (hst _ (FN 2 (by decide)) (FN 3 (by decide)) (FN 7 (by decide))), ((I.c2.st3 hx1 (fun q h => I.d12 (kd 7 (by simp)) q (e1.trans h.symm)) _ _ _).other (FN 4 (by decide)) (FN 5 (by decide)) (FN 8 (by decide)) (FN 11 (by decide)) rfl rfl rfl), fun q1 q2 => I.d01 (by rw [FN 6 (by decide)] at q1; exact q1) (by rw [FN 7 (by decide)] at q2; exact q2), fun q1 q2 => I.d02 (by rw [FN 6 (by decide)] at q1; exact q1) (by rw [FN 8 (by decide)] at q2; exact q2), fun q1 q2 => I.d12 (by rw [FN 7 (by decide)] at q1; exact q1) (by rw [FN 8 (by decide)] at q2; exact q2)⟩
    · obtain ⟨k1, kd, o, ho, hop, hdst, hg⟩ := o11.get hi
      obtain ⟨g, X', Y', A1, m1, c1, A', c', e1, hg1, hx1, e2, hst⟩ := I.c2.store (kd 5 (by simp)) (kd 8 (by simp))
      refine op_plain ho hg (wp_store3 9 33 hop e1 e2 hx1 ?_)
      rw [hdst]
      exact ⟨HL, I.df, I.sz, I.ot, bel_st3 I.bl hg1 _ _ _, ((I.c0.st3 hx1 (fun q h => I.d02 q (kd 8 (by simp)) (h.trans e1.symm)) _ _ _).other (FN 0 (by decide)) (FN 1 (by decide)) (FN 6 (by decide)) (FN 9 (by decide)) rfl rfl rfl), ((I.c1.st3 hx1 (fun q h => I.d12 q (kd 8 (by simp)) (h.trans e1.symm)) _ _ _).other (FN 2 (by decide)) (FN 3 (by decide)) (FN 7 (by decide)) (FN 10 (by decide)) rfl rfl rfl), (hst _ (FN 4 (by decide)) (FN 5 (by decide)) (FN 8 (by decide))), fun q1 q2 => I.d01 (by rw [FN 6 (by decide)] at q1; exact q1) (by rw [FN 7 (by decide)] at q2; exact q2), fun q1 q2 => I.d02 (by rw [FN 6 (by decide)] at q1; exact q1) (by rw [FN 8 (by decide)] at q2; exact q2), fun q1 q2 => I.d12 (by rw [FN 7 (by decide)] at q1; exact q1) (by rw [FN 8 (by decide)] at q2; exact q2)⟩
end Go.Proofs.Ytngjcekjboedjaa
