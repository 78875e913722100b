/- across: four variables are made in whatever order: one invariant for all orders. -/
import Derived.Test.YtmcdfnhpaneanaaAcr
import Derived.Deep.RegionHeld3
namespace Go.Proofs.Ytmcdfnhpaneanaa
open Go.RowKit
set_option maxRecDepth 100000
set_option linter.unusedVariables false
set_option linter.unusedSimpArgs false

/-- The block b is a variable that holds a number. -/
def NB (w : World) (b : Nat) (v : Int) : Prop := w.heap[b]? = some (.cells #[.int .i64 v] 3 (0, 0))
section
variable {w w' : World} {b B : Nat} {v : Int}
theorem NB.lt (h : NB w b v) : b < w.heap.size := by
  rcases Nat.lt_or_ge b w.heap.size with hlt | hge
  · exact hlt
  · unfold NB at h; rw [Array.getElem?_eq_none hge] at h; cases h
theorem NB.cell (h : NB w b v) : w.cell? ⟨b, 0, none⟩ = some (.int .i64 v) := by unfold NB at h; simp [World.cell?, h]
theorem NB.free (h : NB w b v) : w.frozen? ⟨b, 0, none⟩ = false := by unfold NB at h; simp [World.frozen?, h]
theorem NB.alloc (h : NB w b v) (o : Obj) : NB (w.alloc o) b v := (Below.heap_alloc w o b h.lt).trans h
theorem NB.new (w : World) (v : Int) : NB (w.alloc (.cells #[.int .i64 v] 3)) w.heap.size v := by
  show (w.heap.push _)[w.heap.size]? = _
  rw [Array.getElem?_push, if_pos rfl]
theorem NB.below (h : NB w b v) (hb : Below B w w') (hg : b < B) : NB w' b v := (hb.block b hg).trans h
theorem NB.far (h : NB w b v) {p : Addr} (hp : b ≠ p.block) (u : Value) : NB (w.setCell p u) b v := (Below.heap_setCell w p u b hp).trans h
theorem NB.put (h : NB w b v) (u : Int) : NB (w.setCell ⟨b, 0, none⟩ (.int .i64 u)) b u := by
  unfold NB at h ⊢
  simp [World.setCell, Array.getElem?_modify, h]
end
section
variable {P : Program} {md : Region.Mode} {ops : Array Oper} {Q : Exit → Act → World → Prop}
theorem ready_mem {l : Array Bool} {i : Nat} (h : i ∈ Region.ready md ops l) : l.getD i true = false ∧ ∃ o, ops[i]? = some o ∧ ∀ e ∈ o.after, Region.binds md e = true → l.getD e.on false = true := by
  unfold Region.ready at h
  obtain ⟨h1, h2⟩ := List.mem_filter.1 h
  rw [Bool.and_eq_true] at h2
  obtain ⟨h3, h4⟩ := h2
  refine ⟨by simpa using h3, ?_⟩
  cases ho : ops[i]? with
  | none => rw [ho] at h4; cases h4
  | some o =>
    rw [ho] at h4
    refine ⟨o, rfl, fun e he hb => ?_⟩
    have h4' : (o.after.all fun e => !Region.binds md e || l.getD e.on false) = true := h4
    have h5 := (Array.all_eq_true_iff_forall_mem.1 h4') e he
    rw [hb] at h5
    simpa using h5
/-- How many have not come up. -/
def lack (l : Array Bool) : Nat := l.toList.count false
theorem lack_set {l : Array Bool} {i : Nat} (h : l.getD i true = false) : lack (l.setIfInBounds i true) + 1 = lack l := by
  have hi : i < l.size := by
    rcases Nat.lt_or_ge i l.size with h' | h'
    · exact h'
    · rw [Array.getD_eq_getD_getElem?, Array.getElem?_eq_none h'] at h; cases h
  have e : l.toList[i]'(by simpa using hi) = false := by
    rw [Array.getD_eq_getD_getElem?, Array.getElem?_eq_getElem hi] at h
    simpa using h
  unfold lack
  rw [Array.toList_setIfInBounds, List.count_set (by simpa using hi)]
  have hp : 0 < l.toList.count false := List.count_pos_iff.2 (e ▸ List.getElem_mem _)
  rw [e]
  simp only [beq_self_eq_true, if_true]
  rw [if_neg (by simp)]
  omega
/-- **One invariant for all orders.** -/
theorem wpAny_inv (Inv : Array Bool → Act → World → Prop) (hdone : ∀ l a w, Inv l a w → Region.ready md ops l = [] → Q .normal a w)
    (hstep : ∀ l a w i, Inv l a w → i ∈ Region.ready md ops l → wpOp P ops Q i (fun a' w' => Inv (l.setIfInBounds i true) a' w') a w) :
    ∀ (fuel : Nat) (l : Array Bool) (a : Act) (w : World), lack l ≤ fuel → Inv l a w → wpAny P md ops Q fuel l a w
  | 0, l, a, w, hl, hI => by
    have hr : Region.ready md ops l = [] := by
      refine List.eq_nil_iff_forall_not_mem.2 fun i hi => ?_
      have := lack_set (ready_mem hi).1
      omega
    exact ⟨hr, hdone l a w hI hr⟩
  | fuel + 1, l, a, w, hl, hI => ⟨hdone l a w hI, fun i hi => wpOp_mono (fun a' w' h => wpAny_inv Inv hdone hstep fuel _ a' w' (by have := lack_set (ready_mem hi).1; omega) h) (hstep l a w i hI hi)⟩
/-- A region that draws, by an invariant. -/
theorem wp_region_inv {id : Nat} {a : Act} {w : World} (hm : P.follows .mixedOrders = true) (Inv : Array Bool → Act → World → Prop)
    (hstart : Inv (Array.replicate ops.size false) a w.drew) (hdone : ∀ l a w, Inv l a w → Region.ready .any ops l = [] → Q .normal a w)
    (hstep : ∀ l a w i, Inv l a w → i ∈ Region.ready .any ops l → wpOp P ops Q i (fun a' w' => Inv (l.setIfInBounds i true) a' w') a w) : (Code.region id ops true).wp P Q a w :=
  wp_region_any hm (wpAny_inv Inv hdone hstep _ _ a _ (by unfold lack; simp [List.count_replicate]) hstart)
theorem op_plain {i : Nat} {o : Oper} {a : Act} {w : World} {K : Act → World → Prop} (ho : ops[i]? = some o) (hg : o.guard = none) (h : o.wp P a w K Q) : wpOp P ops Q i K a w := by
  unfold wpOp
  rw [ho]
  show if Region.wanted o (yielded ops a.tmps) = true then _ else _
  rw [if_pos (by simp [Region.wanted, hg])]
  exact .inl h
end
/-- What the number i of a region is: its operation, its slot, for whom it waits. -/
def Opi (ops : Array Oper) (i : Nat) (op : Op) (dst : Option Nat) (deps : List Nat) : Prop :=
  ∃ o, ops[i]? = some o ∧ o.op = op ∧ o.dst = dst ∧ o.guard = none ∧ (deps.all fun j => o.after.toList.any fun e => Region.binds .any e && e.on == j) = true
theorem Opi.get {ops : Array Oper} {i : Nat} {op : Op} {dst : Option Nat} {deps : List Nat} {l : Array Bool} (h : Opi ops i op dst deps) (hi : i ∈ Region.ready .any ops l) :
    l.getD i true = false ∧ (∀ j ∈ deps, l.getD j false = true) ∧ ∃ o, ops[i]? = some o ∧ o.op = op ∧ o.dst = dst ∧ o.guard = none := by
  obtain ⟨o, h1, h2, h3, h4, h5⟩ := h
  obtain ⟨k1, o', k2, k3⟩ := ready_mem hi
  rw [h1] at k2
  cases k2
  refine ⟨k1, fun j hj => ?_, o, h1, h2, h3, h4⟩
  obtain ⟨e, he, hb⟩ := List.any_eq_true.1 (List.all_eq_true.1 h5 j hj)
  rw [Bool.and_eq_true] at hb
  have := k3 e (Array.mem_toList_iff.1 he) hb.1
  rwa [show e.on = j by simpa using hb.2] at this
def ordB (ops : Array Oper) : Bool := (List.range ops.size).all fun i => ((ops[i]?).map fun o => o.after.all fun e => !Region.binds .any e || decide (e.on < i)).getD false
theorem all_listed {ops : Array Oper} {l : Array Bool} (hs : l.size = ops.size) (ho : ordB ops = true) (hr : Region.ready .any ops l = []) : ∀ i, i < ops.size → l.getD i false = true := by
  intro i
  induction i using Nat.strongRecOn with
  | _ i ih =>
    intro hi
    have h1 := List.all_eq_true.1 ho i (List.mem_range.2 hi)
    have hi2 : i < l.size := by omega
    cases hv : l.getD i false with
    | true => rfl
    | false =>
      exfalso
      have hv2 : l.getD i true = false := by
        rw [Array.getD_eq_getD_getElem?, Array.getElem?_eq_getElem hi2] at hv ⊢
        exact hv
      have : i ∈ Region.ready .any ops l := by
        unfold Region.ready
        refine List.mem_filter.2 ⟨List.mem_range.2 hi, ?_⟩
        rw [hv2, Array.getElem?_eq_getElem hi]
        rw [Array.getElem?_eq_getElem hi] at h1
        show (ops[i].after.all fun e => !Region.binds .any e || l.getD e.on false) = true
        refine Array.all_eq_true_iff_forall_mem.2 fun e he => ?_
        have h2 : (ops[i].after.all fun e => !Region.binds .any e || decide (e.on < i)) = true := h1
        have h3 := Array.all_eq_true_iff_forall_mem.1 h2 e he
        cases hb : Region.binds .any e with
        | false => rfl
        | true =>
          rw [hb] at h3
          have h4 : e.on < i := by simpa using h3
          rw [ih e.on h4 (by omega)]
          simp
      rw [hr] at this
      cases this
def fl (l : Array Bool) (i : Nat) : Bool := l.getD i false
theorem fl_set {l : Array Bool} {i j : Nat} (hi : i < l.size) : fl (l.setIfInBounds i true) j = if j = i then true else fl l j := by
  unfold fl
  rw [Array.getD_eq_getD_getElem?, Array.getD_eq_getD_getElem?, Array.getElem?_setIfInBounds]
  by_cases e : i = j
  · subst e; simp [hi]
  · rw [if_neg e, if_neg (fun h => e h.symm)]
def tm (a : Act) (t : Nat) : Value := a.tmps[t]?.getD undef
theorem tm_put {a : Act} {t s : Nat} {v : Value} (ht : t < a.tmps.size) : tm (a.put (some t) v) s = if s = t then v else tm a s := by
  unfold tm
  show ((a.tmps.setIfInBounds t v)[s]?).getD undef = _
  rw [Array.getElem?_setIfInBounds]
  by_cases e : t = s
  · subst e; simp [ht]
  · rw [if_neg e, if_neg (fun h => e h.symm)]
theorem fl_of {l : Array Bool} {i : Nat} (h : l.getD i true = false) : fl l i = false := by
  unfold fl
  rcases Nat.lt_or_ge i l.size with hi | hi
  · rw [Array.getD_eq_getD_getElem?, Array.getElem?_eq_getElem hi] at h ⊢
    exact h
  · rw [Array.getD_eq_getD_getElem?, Array.getElem?_eq_none hi] at h; cases h
theorem fold_get (T : Nat → Value) : ∀ (L : List Nat) (ts : Array Value), (L.foldl (fun ts t => ts.setIfInBounds t (T t)) ts).size = ts.size ∧ ∀ i : Nat, (L.foldl (fun ts t => ts.setIfInBounds t (T t)) ts)[i]? = if i ∈ L ∧ i < ts.size then some (T i) else ts[i]?
  | [], ts => ⟨rfl, fun i => by simp⟩
  | x :: L, ts => by
    obtain ⟨h1, h2⟩ := fold_get T L (ts.setIfInBounds x (T x))
    refine ⟨by simpa using h1, fun i => ?_⟩
    show (L.foldl (fun ts t => ts.setIfInBounds t (T t)) (ts.setIfInBounds x (T x)))[i]? = _
    rw [h2 i, Array.size_setIfInBounds, Array.getElem?_setIfInBounds]
    by_cases hi : i < ts.size
    · by_cases hL : i ∈ L
      · rw [if_pos ⟨hL, hi⟩, if_pos ⟨List.mem_cons_of_mem _ hL, hi⟩]
      · rw [if_neg (fun h => hL h.1)]
        by_cases hx : x = i
        · subst hx
          rw [if_pos rfl, if_pos hi, if_pos ⟨List.mem_cons_self, hi⟩]
        · rw [if_neg hx, if_neg (fun h => (List.mem_cons.1 h.1).elim (fun e => hx e.symm) hL)]
    · rw [if_neg (fun h => hi h.2), if_neg (fun h : i ∈ x :: L ∧ i < ts.size => hi h.2)]
      by_cases hx : x = i
      · subst hx
        rw [if_pos rfl, if_neg hi, Array.getElem?_eq_none (by omega)]
      · rw [if_neg hx]
theorem act_mk {z : Act} {t : Array Value} {d : Act} (h1 : z.tmps = t) (h2 : z.defers = d.defers) : z = { tmps := t, defers := d.defers } := by
  cases z
  simp only at h1 h2
  subst h1 h2
  rfl
section
variable {P : Program} {md : Region.Mode} {ops : Array Oper} {Q : Exit → Act → World → Prop} {S : World → Prop}
/-- **One invariant for all orders**, where a claim on the world is borne along. -/
theorem wpAnyH_inv (Inv : Array Bool → Act → World → Prop) (hS : ∀ l a w, Inv l a w → S w) (hdone : ∀ l a w, Inv l a w → Region.ready md ops l = [] → Q .normal a w)
    (hstep : ∀ l a w i, Inv l a w → i ∈ Region.ready md ops l → wpOp P ops Q i (fun a' w' => Inv (l.setIfInBounds i true) a' w') a w) :
    ∀ (fuel : Nat) (l : Array Bool) (a : Act) (w : World), lack l ≤ fuel → Inv l a w → wpAnyH P md ops Q S fuel l a w
  | 0, l, a, w, hl, hI => by
    have hr : Region.ready md ops l = [] := by
      refine List.eq_nil_iff_forall_not_mem.2 fun i hi => ?_
      have := lack_set (ready_mem hi).1
      omega
    exact ⟨hr, hdone l a w hI hr⟩
  | fuel + 1, l, a, w, hl, hI => ⟨hdone l a w hI, fun i hi => wpOp_mono (fun a' w' h => ⟨hS _ a' w' h, wpAnyH_inv Inv hS hdone hstep fuel _ a' w' (by have := lack_set (ready_mem hi).1; omega) h⟩) (hstep l a w i hI hi)⟩
end
section
variable {Q : Exit → Act → World → Prop}
theorem wp_alloc3 {o : Oper} {a : Act} {w : World} {K : Act → World → Prop} (ho : o.op = .alloc 3)
    (h : K (a.put o.dst (.pointer (some ⟨w.heap.size, 0, none⟩))) (w.alloc (.cells #[.int .i64 0] 3))) : o.wp Try.prog a w K Q := by
  cases o
  dsimp only at ho h ⊢
  subst ho
  unfold Oper.wp
  go_simp
  exact h
theorem wp_store1 {o : Oper} {a : Act} {w : World} {K : Act → World → Prop} (p x : Nat) (ho : o.op = .store 3 (.tmp p) (.tmp x)) {g : Nat} {X v : Int} (hp : a.tmps[p]?.getD undef = .pointer (some ⟨g, 0, none⟩)) (hx : a.tmps[x]?.getD undef = .int .i64 v)
    (hb : NB w g X) (h : K (a.put o.dst undef) (w.setCell ⟨g, 0, none⟩ (.int .i64 v))) : o.wp Try.prog a w K Q := by
  have q0 := hb.cell
  have q1 := hb.free
  cases o
  dsimp only at ho h ⊢
  subst ho
  unfold Oper.wp
  go_simp
  exact h
end
/-- One variable: made, and written. -/
structure Cel (F : Nat → Bool) (T : Nat → Value) (w : World) (B ia iz tg : Nat) (v : Int) : Prop where
  al : F ia = true → ∃ g x, T tg = .pointer (some ⟨g, 0, none⟩) ∧ B ≤ g ∧ NB w g x ∧ (F iz = true → x = v)
  zc : F iz = true → F ia = true
section
variable {F F' : Nat → Bool} {T T' : Nat → Value} {w w' : World} {B ia iz tg : Nat} {v : Int}
theorem Cel.other (h : Cel F T w B ia iz tg v) (h1 : F' ia = F ia) (h2 : F' iz = F iz) (t1 : T' tg = T tg) (hw : ∀ g x, NB w g x → T tg = .pointer (some ⟨g, 0, none⟩) → F ia = true → NB w' g x) : Cel F' T' w' B ia iz tg v :=
  ⟨fun q => by obtain ⟨g, x, e, hg, hx, hz⟩ := h.al (h1 ▸ q); exact ⟨g, x, by rw [t1, e], hg, hw g x hx e (h1 ▸ q), fun q2 => hz (h2 ▸ q2)⟩, fun q => by rw [h1]; exact h.zc (h2 ▸ q)⟩
theorem Cel.made (h : Cel F T w B ia iz tg v) (hB : B ≤ w.heap.size) (hF : F ia = false) (h2 : F' iz = F iz) (t1 : T' tg = .pointer (some ⟨w.heap.size, 0, none⟩)) : Cel F' T' (w.alloc (.cells #[.int .i64 0] 3)) B ia iz tg v :=
  have hz : F iz = true → False := fun q => by have := h.zc q; rw [hF] at this; cases this
  ⟨fun _ => ⟨w.heap.size, 0, t1, hB, NB.new w 0, fun q => (hz (h2 ▸ q)).elim⟩, fun q => (hz (h2 ▸ q)).elim⟩
theorem Cel.fresh (h : Cel F T w B ia iz tg v) (q : F ia = true) : T tg ≠ .pointer (some ⟨w.heap.size, 0, none⟩) := by
  obtain ⟨g, x, e, hg, hx, _⟩ := h.al q
  intro h2
  rw [e] at h2
  have h3 : g = w.heap.size := by injection h2 with h4; injection h4 with h5; injection h5
  have := hx.lt
  omega
end
/-- What holds when the operations l have come up. -/
structure AcI (a0 : Act) (w0 : World) (v0 v1 v2 v3 : Int) (l : Array Bool) (z : Act) (w : World) : Prop where
  hl : l.size = 15
  rd : ∀ i, i < 7 → fl l i = true
  df : z.defers = a0.defers
  sz : z.tmps.size = a0.tmps.size
  ot : ∀ t, t ∉ [5, 6, 7, 8] → tm z t = tm a0 t
  bl : Below w0.heap.size w0 w
  c0 : Cel (fl l) (tm z) w w0.heap.size 7 11 5 v0
  c1 : Cel (fl l) (tm z) w w0.heap.size 8 12 6 v1
  c2 : Cel (fl l) (tm z) w w0.heap.size 9 13 7 v2
  c3 : Cel (fl l) (tm z) w w0.heap.size 10 14 8 v3
  d01 : fl l 7 = true → fl l 8 = true → tm z 5 ≠ tm z 6
  d02 : fl l 7 = true → fl l 9 = true → tm z 5 ≠ tm z 7
  d03 : fl l 7 = true → fl l 10 = true → tm z 5 ≠ tm z 8
  d12 : fl l 8 = true → fl l 9 = true → tm z 6 ≠ tm z 7
  d13 : fl l 8 = true → fl l 10 = true → tm z 6 ≠ tm z 8
  d23 : fl l 9 = true → fl l 10 = true → tm z 7 ≠ tm z 8
theorem act_eq4 {z a0 : Act} (sz : z.tmps.size = a0.tmps.size) (df : z.defers = a0.defers) (ot : ∀ t, t ∉ [5, 6, 7, 8] → tm z t = tm a0 t) : z = { tmps := ((((a0.tmps.setIfInBounds 5 (tm z 5)).setIfInBounds 6 (tm z 6)).setIfInBounds 7 (tm z 7)).setIfInBounds 8 (tm z 8)), defers := a0.defers } := by
  have ht : z.tmps = [5, 6, 7, 8].foldl (fun ts t => ts.setIfInBounds t (tm z t)) a0.tmps := by
    refine Array.ext_getElem? fun i => ?_
    rw [(fold_get (tm z) _ a0.tmps).2 i]
    rcases Nat.lt_or_ge i a0.tmps.size with h3 | h3
    · have h1 : i < z.tmps.size := by omega
      have e1 : z.tmps[i]? = some (tm z i) := by unfold tm; rw [Array.getElem?_eq_getElem h1]; rfl
      by_cases hi : i ∈ [5, 6, 7, 8]
      · rw [if_pos ⟨hi, h3⟩, e1]
      · rw [if_neg (fun h => hi h.1), e1, ot i hi]
        unfold tm
        rw [Array.getElem?_eq_getElem h3]; rfl
    · rw [if_neg (fun h => absurd h.2 (by omega)), Array.getElem?_eq_none h3, Array.getElem?_eq_none (by omega)]
  simp only [List.foldl_cons, List.foldl_nil] at ht
  exact act_mk ht df
set_option maxHeartbeats 1600000 in
theorem ac_rest {ops : Array Oper} {Q : Exit → Act → World → Prop} {S : World → Prop} (a0 : Act) (w0 : World) (v0 v1 v2 v3 : Int) (o7 : Opi ops 7 (.alloc 3) (some 5) []) (p11 : Opi ops 11 (.store 3 (.tmp 5) (.tmp 10)) none [7]) (o8 : Opi ops 8 (.alloc 3) (some 6) []) (p12 : Opi ops 12 (.store 3 (.tmp 6) (.tmp 12)) none [8]) (o9 : Opi ops 9 (.alloc 3) (some 7) []) (p13 : Opi ops 13 (.store 3 (.tmp 7) (.tmp 13)) none [9]) (o10 : Opi ops 10 (.alloc 3) (some 8) []) (p14 : Opi ops 14 (.store 3 (.tmp 8) (.tmp 15)) none [10])
    (hn : ops.size = 15) (hord : ordB ops = true) (hsz : 16 ≤ a0.tmps.size) (x0 : tm a0 10 = .int .i64 v0) (x1 : tm a0 12 = .int .i64 v1) (x2 : tm a0 13 = .int .i64 v2) (x3 : tm a0 15 = .int .i64 v3) (hS : ∀ u, Below w0.heap.size w0 u → S u)
    (hK : ∀ g0 g1 g2 g3 w', Below w0.heap.size w0 w' → (w0.heap.size ≤ g0 ∧ w0.heap.size ≤ g1 ∧ w0.heap.size ≤ g2 ∧ w0.heap.size ≤ g3) → NB w' g0 v0 → NB w' g1 v1 → NB w' g2 v2 → NB w' g3 v3 → (g0 ≠ g1 ∧ g0 ≠ g2 ∧ g0 ≠ g3 ∧ g1 ≠ g2 ∧ g1 ≠ g3 ∧ g2 ≠ g3) →
      Q .normal { tmps := ((((a0.tmps.setIfInBounds 5 (.pointer (some ⟨g0, 0, none⟩))).setIfInBounds 6 (.pointer (some ⟨g1, 0, none⟩))).setIfInBounds 7 (.pointer (some ⟨g2, 0, none⟩))).setIfInBounds 8 (.pointer (some ⟨g3, 0, none⟩))), defers := a0.defers } w')
    (l : Array Bool) (hl : l = #[true, true, true, true, true, true, true, false, false, false, false, false, false, false, false]) (fuel : Nat) (hf : 15 ≤ fuel + 7) :
    wpAnyH Try.prog .any ops Q S fuel l a0 w0 := by
  refine wpAnyH_inv (AcI a0 w0 v0 v1 v2 v3) (fun l z w I => hS w I.bl) ?_ ?_ fuel l a0 w0 (by subst hl; show 8 ≤ fuel; omega) ?_
  · intro l z w I hr
    have hl := fun i (hi : i < 15) => all_listed (by rw [I.hl, hn]) hord hr i (by omega)
    obtain ⟨g0, e0, p0, hg0, hx0, hz0⟩ := I.c0.al (hl 7 (by decide))
    have hz0 := hz0 (hl 11 (by decide))
    subst hz0
    obtain ⟨g1, e1, p1, hg1, hx1, hz1⟩ := I.c1.al (hl 8 (by decide))
    have hz1 := hz1 (hl 12 (by decide))
    subst hz1
    obtain ⟨g2, e2, p2, hg2, hx2, hz2⟩ := I.c2.al (hl 9 (by decide))
    have hz2 := hz2 (hl 13 (by decide))
    subst hz2
    obtain ⟨g3, e3, p3, hg3, hx3, hz3⟩ := I.c3.al (hl 10 (by decide))
    have hz3 := hz3 (hl 14 (by decide))
    subst hz3
    have hA := act_eq4 I.sz I.df I.ot
    rw [p0, p1, p2, p3] at hA
    rw [hA]
    refine hK g0 g1 g2 g3 w I.bl ⟨hg0, hg1, hg2, hg3⟩ hx0 hx1 hx2 hx3 ⟨?_, ?_, ?_, ?_, ?_, ?_⟩
    · intro e; exact I.d01 (hl 7 (by decide)) (hl 8 (by decide)) (by rw [p0, p1, e])
    · intro e; exact I.d02 (hl 7 (by decide)) (hl 9 (by decide)) (by rw [p0, p2, e])
    · intro e; exact I.d03 (hl 7 (by decide)) (hl 10 (by decide)) (by rw [p0, p3, e])
    · intro e; exact I.d12 (hl 8 (by decide)) (hl 9 (by decide)) (by rw [p1, p2, e])
    · intro e; exact I.d13 (hl 8 (by decide)) (hl 10 (by decide)) (by rw [p1, p3, e])
    · intro e; exact I.d23 (hl 9 (by decide)) (hl 10 (by decide)) (by rw [p2, p3, e])
  · intro l z w i I hr
    have hi15 : i < 15 := by
      obtain ⟨_, o, h1, _⟩ := ready_mem hr
      have := (Array.getElem?_eq_some_iff.1 h1).1
      omega
    have hi7 : 7 ≤ i := by
      rcases Nat.lt_or_ge i 7 with h | h
      · have h1 := I.rd i h
        have h2 := fl_of (ready_mem hr).1
        rw [h1] at h2; cases h2
      · exact h
    have hFL : ∀ j, fl (l.setIfInBounds i true) j = if j = i then true else fl l j := fun j => fl_set (by rw [I.hl]; exact hi15)
    have hrd : ∀ j, j < 7 → fl (l.setIfInBounds i true) j = true := fun j hj => by rw [hFL]; split <;> first | rfl | exact I.rd j hj
    have hls : (l.setIfInBounds i true).size = 15 := by rw [Array.size_setIfInBounds, I.hl]
    have hzs : 16 ≤ z.tmps.size := by rw [I.sz]; exact hsz
    have hF0 : fl l i = false := fl_of (ready_mem hr).1
    have hi : i = 7 ∨ i = 8 ∨ i = 9 ∨ i = 10 ∨ i = 11 ∨ i = 12 ∨ i = 13 ∨ i = 14 := by omega
    rcases hi with rfl | rfl | rfl | rfl | rfl | rfl | rfl | rfl
    · obtain ⟨_, _, o, ho, h1, h2, h3⟩ := o7.get hr
      refine op_plain ho h3 (wp_alloc3 h1 ?_)
      rw [h2]
      have hT : ∀ s, tm (z.put (some 5) (.pointer (some ⟨w.heap.size, 0, none⟩))) s = if s = 5 then .pointer (some ⟨w.heap.size, 0, none⟩) else tm z s := fun s => tm_put (by omega)
      refine ⟨hls, hrd, I.df, by show (z.tmps.setIfInBounds _ _).size = _; rw [Array.size_setIfInBounds]; exact I.sz, fun s hs => ?_, I.bl.alloc I.bl.size _, ?_, ?_, ?_, ?_, ?_, ?_, ?_, ?_, ?_, ?_⟩
      · rw [hT, if_neg (fun e => hs (by subst e; decide))]; exact I.ot s hs
      · exact I.c0.made I.bl.size hF0 (by rw [hFL]; rfl) (by rw [hT]; rfl)
      · exact I.c1.other (by rw [hFL]; rfl) (by rw [hFL]; rfl) (by rw [hT]; rfl) (fun g x hx _ _ => hx.alloc _)
      · exact I.c2.other (by rw [hFL]; rfl) (by rw [hFL]; rfl) (by rw [hT]; rfl) (fun g x hx _ _ => hx.alloc _)
      · exact I.c3.other (by rw [hFL]; rfl) (by rw [hFL]; rfl) (by rw [hT]; rfl) (fun g x hx _ _ => hx.alloc _)
      · intro _ q; rw [hT, hT]; exact fun e => I.c1.fresh (by rw [hFL] at q; exact q) e.symm
      · intro _ q; rw [hT, hT]; exact fun e => I.c2.fresh (by rw [hFL] at q; exact q) e.symm
      · intro _ q; rw [hT, hT]; exact fun e => I.c3.fresh (by rw [hFL] at q; exact q) e.symm
      · intro q1 q2; rw [hT, hT]; exact I.d12 (by rw [hFL] at q1; exact q1) (by rw [hFL] at q2; exact q2)
      · intro q1 q2; rw [hT, hT]; exact I.d13 (by rw [hFL] at q1; exact q1) (by rw [hFL] at q2; exact q2)
      · intro q1 q2; rw [hT, hT]; exact I.d23 (by rw [hFL] at q1; exact q1) (by rw [hFL] at q2; exact q2)
    · obtain ⟨_, _, o, ho, h1, h2, h3⟩ := o8.get hr
      refine op_plain ho h3 (wp_alloc3 h1 ?_)
      rw [h2]
      have hT : ∀ s, tm (z.put (some 6) (.pointer (some ⟨w.heap.size, 0, none⟩))) s = if s = 6 then .pointer (some ⟨w.heap.size, 0, none⟩) else tm z s := fun s => tm_put (by omega)
      refine ⟨hls, hrd, I.df, by show (z.tmps.setIfInBounds _ _).size = _; rw [Array.size_setIfInBounds]; exact I.sz, fun s hs => ?_, I.bl.alloc I.bl.size _, ?_, ?_, ?_, ?_, ?_, ?_, ?_, ?_, ?_, ?_⟩
      · rw [hT, if_neg (fun e => hs (by subst e; decide))]; exact I.ot s hs
      · exact I.c0.other (by rw [hFL]; rfl) (by rw [hFL]; rfl) (by rw [hT]; rfl) (fun g x hx _ _ => hx.alloc _)
      · exact I.c1.made I.bl.size hF0 (by rw [hFL]; rfl) (by rw [hT]; rfl)
      · exact I.c2.other (by rw [hFL]; rfl) (by rw [hFL]; rfl) (by rw [hT]; rfl) (fun g x hx _ _ => hx.alloc _)
      · exact I.c3.other (by rw [hFL]; rfl) (by rw [hFL]; rfl) (by rw [hT]; rfl) (fun g x hx _ _ => hx.alloc _)
      · intro q _; rw [hT, hT]; exact I.c0.fresh (by rw [hFL] at q; exact q)
      · intro q1 q2; rw [hT, hT]; exact I.d02 (by rw [hFL] at q1; exact q1) (by rw [hFL] at q2; exact q2)
      · intro q1 q2; rw [hT, hT]; exact I.d03 (by rw [hFL] at q1; exact q1) (by rw [hFL] at q2; exact q2)
      · intro _ q; rw [hT, hT]; exact fun e => I.c2.fresh (by rw [hFL] at q; exact q) e.symm
      · intro _ q; rw [hT, hT]; exact fun e => I.c3.fresh (by rw [hFL] at q; exact q) e.symm
      · intro q1 q2; rw [hT, hT]; exact I.d23 (by rw [hFL] at q1; exact q1) (by rw [hFL] at q2; exact q2)
    · obtain ⟨_, _, o, ho, h1, h2, h3⟩ := o9.get hr
      refine op_plain ho h3 (wp_alloc3 h1 ?_)
      rw [h2]
      have hT : ∀ s, tm (z.put (some 7) (.pointer (some ⟨w.heap.size, 0, none⟩))) s = if s = 7 then .pointer (some ⟨w.heap.size, 0, none⟩) else tm z s := fun s => tm_put (by omega)
      refine ⟨hls, hrd, I.df, by show (z.tmps.setIfInBounds _ _).size = _; rw [Array.size_setIfInBounds]; exact I.sz, fun s hs => ?_, I.bl.alloc I.bl.size _, ?_, ?_, ?_, ?_, ?_, ?_, ?_, ?_, ?_, ?_⟩
      · rw [hT, if_neg (fun e => hs (by subst e; decide))]; exact I.ot s hs
      · exact I.c0.other (by rw [hFL]; rfl) (by rw [hFL]; rfl) (by rw [hT]; rfl) (fun g x hx _ _ => hx.alloc _)
      · exact I.c1.other (by rw [hFL]; rfl) (by rw [hFL]; rfl) (by rw [hT]; rfl) (fun g x hx _ _ => hx.alloc _)
      · exact I.c2.made I.bl.size hF0 (by rw [hFL]; rfl) (by rw [hT]; rfl)
      · exact I.c3.other (by rw [hFL]; rfl) (by rw [hFL]; rfl) (by rw [hT]; rfl) (fun g x hx _ _ => hx.alloc _)
      · intro q1 q2; rw [hT, hT]; exact I.d01 (by rw [hFL] at q1; exact q1) (by rw [hFL] at q2; exact q2)
      · intro q _; rw [hT, hT]; exact I.c0.fresh (by rw [hFL] at q; exact q)
      · intro q1 q2; rw [hT, hT]; exact I.d03 (by rw [hFL] at q1; exact q1) (by rw [hFL] at q2; exact q2)
      · intro q _; rw [hT, hT]; exact I.c1.fresh (by rw [hFL] at q; exact q)
      · intro q1 q2; rw [hT, hT]; exact I.d13 (by rw [hFL] at q1; exact q1) (by rw [hFL] at q2; exact q2)
      · intro _ q; rw [hT, hT]; exact fun e => I.c3.fresh (by rw [hFL] at q; exact q) e.symm
    · obtain ⟨_, _, o, ho, h1, h2, h3⟩ := o10.get hr
      refine op_plain ho h3 (wp_alloc3 h1 ?_)
      rw [h2]
      have hT : ∀ s, tm (z.put (some 8) (.pointer (some ⟨w.heap.size, 0, none⟩))) s = if s = 8 then .pointer (some ⟨w.heap.size, 0, none⟩) else tm z s := fun s => tm_put (by omega)
      refine ⟨hls, hrd, I.df, by show (z.tmps.setIfInBounds _ _).size = _; rw [Array.size_setIfInBounds]; exact I.sz, fun s hs => ?_, I.bl.alloc I.bl.size _, ?_, ?_, ?_, ?_, ?_, ?_, ?_, ?_, ?_, ?_⟩
      · rw [hT, if_neg (fun e => hs (by subst e; decide))]; exact I.ot s hs
      · exact I.c0.other (by rw [hFL]; rfl) (by rw [hFL]; rfl) (by rw [hT]; rfl) (fun g x hx _ _ => hx.alloc _)
      · exact I.c1.other (by rw [hFL]; rfl) (by rw [hFL]; rfl) (by rw [hT]; rfl) (fun g x hx _ _ => hx.alloc _)
      · exact I.c2.other (by rw [hFL]; rfl) (by rw [hFL]; rfl) (by rw [hT]; rfl) (fun g x hx _ _ => hx.alloc _)
      · exact I.c3.made I.bl.size hF0 (by rw [hFL]; rfl) (by rw [hT]; rfl)
      · intro q1 q2; rw [hT, hT]; exact I.d01 (by rw [hFL] at q1; exact q1) (by rw [hFL] at q2; exact q2)
      · intro q1 q2; rw [hT, hT]; exact I.d02 (by rw [hFL] at q1; exact q1) (by rw [hFL] at q2; exact q2)
      · intro q _; rw [hT, hT]; exact I.c0.fresh (by rw [hFL] at q; exact q)
      · intro q1 q2; rw [hT, hT]; exact I.d12 (by rw [hFL] at q1; exact q1) (by rw [hFL] at q2; exact q2)
      · intro q _; rw [hT, hT]; exact I.c1.fresh (by rw [hFL] at q; exact q)
      · intro q _; rw [hT, hT]; exact I.c2.fresh (by rw [hFL] at q; exact q)
    · obtain ⟨_, hdep, o, ho, h1, h2, h3⟩ := p11.get hr
      obtain ⟨g, x, e, hg, hx, _⟩ := I.c0.al (hdep 7 (by simp))
      have hv : tm z 10 = .int .i64 v0 := by rw [I.ot 10 (by decide)]; exact x0
      refine op_plain ho h3 (wp_store1 5 10 h1 e hv hx ?_)
      rw [h2]
      refine ⟨hls, hrd, I.df, I.sz, I.ot, I.bl.setCell (p := ⟨g, 0, none⟩) hg _, ?_, ?_, ?_, ?_, ?_, ?_, ?_, ?_, ?_, ?_⟩
      · exact ⟨fun _ => ⟨g, v0, e, hg, hx.put v0, fun _ => rfl⟩, fun _ => by rw [hFL]; exact hdep 7 (by simp)⟩
      · exact I.c1.other (by rw [hFL]; rfl) (by rw [hFL]; rfl) rfl (fun g2 x2 hx2 e2 q => hx2.far (p := ⟨g, 0, none⟩) (fun h => I.d01 (hdep 7 (by simp)) q (by rw [e2, e, show g2 = g from h])) _)
      · exact I.c2.other (by rw [hFL]; rfl) (by rw [hFL]; rfl) rfl (fun g2 x2 hx2 e2 q => hx2.far (p := ⟨g, 0, none⟩) (fun h => I.d02 (hdep 7 (by simp)) q (by rw [e2, e, show g2 = g from h])) _)
      · exact I.c3.other (by rw [hFL]; rfl) (by rw [hFL]; rfl) rfl (fun g2 x2 hx2 e2 q => hx2.far (p := ⟨g, 0, none⟩) (fun h => I.d03 (hdep 7 (by simp)) q (by rw [e2, e, show g2 = g from h])) _)
      · intro q1 q2; exact I.d01 (by rw [hFL] at q1; exact q1) (by rw [hFL] at q2; exact q2)
      · intro q1 q2; exact I.d02 (by rw [hFL] at q1; exact q1) (by rw [hFL] at q2; exact q2)
      · intro q1 q2; exact I.d03 (by rw [hFL] at q1; exact q1) (by rw [hFL] at q2; exact q2)
      · intro q1 q2; exact I.d12 (by rw [hFL] at q1; exact q1) (by rw [hFL] at q2; exact q2)
      · intro q1 q2; exact I.d13 (by rw [hFL] at q1; exact q1) (by rw [hFL] at q2; exact q2)
      · intro q1 q2; exact I.d23 (by rw [hFL] at q1; exact q1) (by rw [hFL] at q2; exact q2)
    · obtain ⟨_, hdep, o, ho, h1, h2, h3⟩ := p12.get hr
      obtain ⟨g, x, e, hg, hx, _⟩ := I.c1.al (hdep 8 (by simp))
      have hv : tm z 12 = .int .i64 v1 := by rw [I.ot 12 (by decide)]; exact x1
      refine op_plain ho h3 (wp_store1 6 12 h1 e hv hx ?_)
      rw [h2]
      refine ⟨hls, hrd, I.df, I.sz, I.ot, I.bl.setCell (p := ⟨g, 0, none⟩) hg _, ?_, ?_, ?_, ?_, ?_, ?_, ?_, ?_, ?_, ?_⟩
      · exact I.c0.other (by rw [hFL]; rfl) (by rw [hFL]; rfl) rfl (fun g2 x2 hx2 e2 q => hx2.far (p := ⟨g, 0, none⟩) (fun h => I.d01 q (hdep 8 (by simp)) (by rw [e2, e, show g2 = g from h])) _)
      · exact ⟨fun _ => ⟨g, v1, e, hg, hx.put v1, fun _ => rfl⟩, fun _ => by rw [hFL]; exact hdep 8 (by simp)⟩
      · exact I.c2.other (by rw [hFL]; rfl) (by rw [hFL]; rfl) rfl (fun g2 x2 hx2 e2 q => hx2.far (p := ⟨g, 0, none⟩) (fun h => I.d12 (hdep 8 (by simp)) q (by rw [e2, e, show g2 = g from h])) _)
      · exact I.c3.other (by rw [hFL]; rfl) (by rw [hFL]; rfl) rfl (fun g2 x2 hx2 e2 q => hx2.far (p := ⟨g, 0, none⟩) (fun h => I.d13 (hdep 8 (by simp)) q (by rw [e2, e, show g2 = g from h])) _)
      · intro q1 q2; exact I.d01 (by rw [hFL] at q1; exact q1) (by rw [hFL] at q2; exact q2)
      · intro q1 q2; exact I.d02 (by rw [hFL] at q1; exact q1) (by rw [hFL] at q2; exact q2)
      · intro q1 q2; exact I.d03 (by rw [hFL] at q1; exact q1) (by rw [hFL] at q2; exact q2)
      · intro q1 q2; exact I.d12 (by rw [hFL] at q1; exact q1) (by rw [hFL] at q2; exact q2)
      · intro q1 q2; exact I.d13 (by rw [hFL] at q1; exact q1) (by rw [hFL] at q2; exact q2)
      · intro q1 q2; exact I.d23 (by rw [hFL] at q1; exact q1) (by rw [hFL] at q2; exact q2)
    · obtain ⟨_, hdep, o, ho, h1, h2, h3⟩ := p13.get hr
      obtain ⟨g, x, e, hg, hx, _⟩ := I.c2.al (hdep 9 (by simp))
      have hv : tm z 13 = .int .i64 v2 := by rw [I.ot 13 (by decide)]; exact x2
      refine op_plain ho h3 (wp_store1 7 13 h1 e hv hx ?_)
      rw [h2]
      refine ⟨hls, hrd, I.df, I.sz, I.ot, I.bl.setCell (p := ⟨g, 0, none⟩) hg _, ?_, ?_, ?_, ?_, ?_, ?_, ?_, ?_, ?_, ?_⟩
      · exact I.c0.other (by rw [hFL]; rfl) (by rw [hFL]; rfl) rfl (fun g2 x2 hx2 e2 q => hx2.far (p := ⟨g, 0, none⟩) (fun h => I.d02 q (hdep 9 (by simp)) (by rw [e2, e, show g2 = g from h])) _)
      · exact I.c1.other (by rw [hFL]; rfl) (by rw [hFL]; rfl) rfl (fun g2 x2 hx2 e2 q => hx2.far (p := ⟨g, 0, none⟩) (fun h => I.d12 q (hdep 9 (by simp)) (by rw [e2, e, show g2 = g from h])) _)
      · exact ⟨fun _ => ⟨g, v2, e, hg, hx.put v2, fun _ => rfl⟩, fun _ => by rw [hFL]; exact hdep 9 (by simp)⟩
      · exact I.c3.other (by rw [hFL]; rfl) (by rw [hFL]; rfl) rfl (fun g2 x2 hx2 e2 q => hx2.far (p := ⟨g, 0, none⟩) (fun h => I.d23 (hdep 9 (by simp)) q (by rw [e2, e, show g2 = g from h])) _)
      · intro q1 q2; exact I.d01 (by rw [hFL] at q1; exact q1) (by rw [hFL] at q2; exact q2)
      · intro q1 q2; exact I.d02 (by rw [hFL] at q1; exact q1) (by rw [hFL] at q2; exact q2)
      · intro q1 q2; exact I.d03 (by rw [hFL] at q1; exact q1) (by rw [hFL] at q2; exact q2)
      · intro q1 q2; exact I.d12 (by rw [hFL] at q1; exact q1) (by rw [hFL] at q2; exact q2)
      · intro q1 q2; exact I.d13 (by rw [hFL] at q1; exact q1) (by rw [hFL] at q2; exact q2)
      · intro q1 q2; exact I.d23 (by rw [hFL] at q1; exact q1) (by rw [hFL] at q2; exact q2)
    · obtain ⟨_, hdep, o, ho, h1, h2, h3⟩ := p14.get hr
      obtain ⟨g, x, e, hg, hx, _⟩ := I.c3.al (hdep 10 (by simp))
      have hv : tm z 15 = .int .i64 v3 := by rw [I.ot 15 (by decide)]; exact x3
      refine op_plain ho h3 (wp_store1 8 15 h1 e hv hx ?_)
      rw [h2]
      refine ⟨hls, hrd, I.df, I.sz, I.ot, I.bl.setCell (p := ⟨g, 0, none⟩) hg _, ?_, ?_, ?_, ?_, ?_, ?_, ?_, ?_, ?_, ?_⟩
      · exact I.c0.other (by rw [hFL]; rfl) (by rw [hFL]; rfl) rfl (fun g2 x2 hx2 e2 q => hx2.far (p := ⟨g, 0, none⟩) (fun h => I.d03 q (hdep 10 (by simp)) (by rw [e2, e, show g2 = g from h])) _)
      · exact I.c1.other (by rw [hFL]; rfl) (by rw [hFL]; rfl) rfl (fun g2 x2 hx2 e2 q => hx2.far (p := ⟨g, 0, none⟩) (fun h => I.d13 q (hdep 10 (by simp)) (by rw [e2, e, show g2 = g from h])) _)
      · exact I.c2.other (by rw [hFL]; rfl) (by rw [hFL]; rfl) rfl (fun g2 x2 hx2 e2 q => hx2.far (p := ⟨g, 0, none⟩) (fun h => I.d23 q (hdep 10 (by simp)) (by rw [e2, e, show g2 = g from h])) _)
      · exact ⟨fun _ => ⟨g, v3, e, hg, hx.put v3, fun _ => rfl⟩, fun _ => by rw [hFL]; exact hdep 10 (by simp)⟩
      · intro q1 q2; exact I.d01 (by rw [hFL] at q1; exact q1) (by rw [hFL] at q2; exact q2)
      · intro q1 q2; exact I.d02 (by rw [hFL] at q1; exact q1) (by rw [hFL] at q2; exact q2)
      · intro q1 q2; exact I.d03 (by rw [hFL] at q1; exact q1) (by rw [hFL] at q2; exact q2)
      · intro q1 q2; exact I.d12 (by rw [hFL] at q1; exact q1) (by rw [hFL] at q2; exact q2)
      · intro q1 q2; exact I.d13 (by rw [hFL] at q1; exact q1) (by rw [hFL] at q2; exact q2)
      · intro q1 q2; exact I.d23 (by rw [hFL] at q1; exact q1) (by rw [hFL] at q2; exact q2)
  · subst hl
    refine ⟨rfl, fun i hi => ?_, rfl, rfl, fun _ _ => rfl, Below.refl _ _, ?_, ?_, ?_, ?_, ?_, ?_, ?_, ?_, ?_, ?_⟩
    · have : i = 0 ∨ i = 1 ∨ i = 2 ∨ i = 3 ∨ i = 4 ∨ i = 5 ∨ i = 6 := by omega
      rcases this with rfl | rfl | rfl | rfl | rfl | rfl | rfl <;> rfl
    all_goals first
      | exact ⟨fun q => (by cases q), fun q => (by cases q)⟩
      | exact fun q => (by cases q)
end Go.Proofs.Ytmcdfnhpaneanaa
