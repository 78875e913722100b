/- A region that draws: one invariant for all orders (states are merged: what holds hangs on which operations have come up, not on their order). -/
import Derived.Test.YtngjcekjboedjaaKam
import Derived.Deep.RegionHeld3
namespace Go.Proofs.Ytngjcekjboedjaa
open Go.RowKit
set_option linter.unusedVariables false
set_option linter.unusedSimpArgs false

section
variable {P : Program} {md : Region.Mode} {ops : Array Oper} {Q : Exit → Act → World → Prop}
theorem ready_mem {l : Array Bool} {i : Nat} (h : i ∈ Region.ready md ops l) : l.getD i true = false ∧ ∃ o, ops[i]? = some o ∧ ∀ e ∈ o.after, Region.binds md e = true → l.getD e.on false = true := by
  unfold Region.ready at h
  obtain ⟨h1, h2⟩ := List.mem_filter.1 h
  rw [Bool.and_eq_true] at h2
  obtain ⟨h3, h4⟩ := h2
  refine ⟨by simpa using h3, ?_⟩
  cases ho : ops[i]? with
  | none => rw [ho] at h4; cases h4
  | some o =>
    rw [ho] at h4
    refine ⟨o, rfl, fun e he hb => ?_⟩
    have h4' : (o.after.all fun e => !Region.binds md e || l.getD e.on false) = true := h4
    have h5 := (Array.all_eq_true_iff_forall_mem.1 h4') e he
    rw [hb] at h5
    simpa using h5
/-- How many have not come up. -/
def lack (l : Array Bool) : Nat := l.toList.count false
theorem lack_set {l : Array Bool} {i : Nat} (h : l.getD i true = false) : lack (l.setIfInBounds i true) + 1 = lack l := by
  have hi : i < l.size := by
    rcases Nat.lt_or_ge i l.size with h' | h'
    · exact h'
    · rw [Array.getD_eq_getD_getElem?, Array.getElem?_eq_none h'] at h; cases h
  have e : l.toList[i]'(by simpa using hi) = false := by
    rw [Array.getD_eq_getD_getElem?, Array.getElem?_eq_getElem hi] at h
    simpa using h
  unfold lack
  rw [Array.toList_setIfInBounds, List.count_set (by simpa using hi)]
  have hp : 0 < l.toList.count false := List.count_pos_iff.2 (e ▸ List.getElem_mem _)
  rw [e]
  simp only [beq_self_eq_true, if_true]
  rw [if_neg (by simp)]
  omega
/-- **One invariant for all orders.** -/
theorem wpAny_inv (Inv : Array Bool → Act → World → Prop) (hdone : ∀ l a w, Inv l a w → Region.ready md ops l = [] → Q .normal a w)
    (hstep : ∀ l a w i, Inv l a w → i ∈ Region.ready md ops l → wpOp P ops Q i (fun a' w' => Inv (l.setIfInBounds i true) a' w') a w) :
    ∀ (fuel : Nat) (l : Array Bool) (a : Act) (w : World), lack l ≤ fuel → Inv l a w → wpAny P md ops Q fuel l a w
  | 0, l, a, w, hl, hI => by
    have hr : Region.ready md ops l = [] := by
      refine List.eq_nil_iff_forall_not_mem.2 fun i hi => ?_
      have := lack_set (ready_mem hi).1
      omega
    exact ⟨hr, hdone l a w hI hr⟩
  | fuel + 1, l, a, w, hl, hI => ⟨hdone l a w hI, fun i hi => wpOp_mono (fun a' w' h => wpAny_inv Inv hdone hstep fuel _ a' w' (by have := lack_set (ready_mem hi).1; omega) h) (hstep l a w i hI hi)⟩
/-- A region that draws, by an invariant. -/
theorem wp_region_inv {id : Nat} {a : Act} {w : World} (hm : P.follows .mixedOrders = true) (Inv : Array Bool → Act → World → Prop)
    (hstart : Inv (Array.replicate ops.size false) a w.drew) (hdone : ∀ l a w, Inv l a w → Region.ready .any ops l = [] → Q .normal a w)
    (hstep : ∀ l a w i, Inv l a w → i ∈ Region.ready .any ops l → wpOp P ops Q i (fun a' w' => Inv (l.setIfInBounds i true) a' w') a w) : (Code.region id ops true).wp P Q a w :=
  wp_region_any hm (wpAny_inv Inv hdone hstep _ _ a _ (by unfold lack; simp [List.count_replicate]) hstart)
theorem op_plain {i : Nat} {o : Oper} {a : Act} {w : World} {K : Act → World → Prop} (ho : ops[i]? = some o) (hg : o.guard = none) (h : o.wp P a w K Q) : wpOp P ops Q i K a w := by
  unfold wpOp
  rw [ho]
  show if Region.wanted o (yielded ops a.tmps) = true then _ else _
  rw [if_pos (by simp [Region.wanted, hg])]
  exact .inl h
end
section
variable {Q : Exit → Act → World → Prop}
theorem wp_load3 {o : Oper} {a : Act} {w : World} {K : Act → World → Prop} (p : Nat) (ho : o.op = .load 24 (.tmp p)) {g : Nat} {X Y : Int} {v : Value} (hp : a.tmps[p]?.getD undef = .pointer (some ⟨g, 0, none⟩)) (hb : Box w g X Y v)
    (h : K (a.put o.dst (.agg #[.int .i64 X, .int .i64 Y, v])) w) : o.wp Try.prog a w K Q := by
  obtain ⟨q0, q1, q2, q3, q4, q5, q6⟩ := hb.all
  cases o
  dsimp only at ho h ⊢
  subst ho
  unfold Oper.wp
  go_simp
  exact h
theorem wp_alloc24 {o : Oper} {a : Act} {w : World} {K : Act → World → Prop} (ho : o.op = .alloc 24)
    (h : K (a.put o.dst (.pointer (some ⟨w.heap.size, 0, none⟩))) (w.alloc (.cells #[.int .i64 0, .int .i64 0, .slice none 0 0] 24))) : o.wp Try.prog a w K Q := by
  cases o
  dsimp only at ho h ⊢
  subst ho
  unfold Oper.wp
  go_simp
  exact h
theorem wp_store3 {o : Oper} {a : Act} {w : World} {K : Act → World → Prop} (p x : Nat) (ho : o.op = .store 24 (.tmp p) (.tmp x)) {g : Nat} {X Y X' Y' : Int} {A A' : Option Addr} {n c n' c' : Nat} (hp : a.tmps[p]?.getD undef = .pointer (some ⟨g, 0, none⟩)) (hx : a.tmps[x]?.getD undef = .agg #[.int .i64 X', .int .i64 Y', .slice A' n' c'])
    (hb : Box w g X Y (.slice A n c)) (h : K (a.put o.dst undef) (((w.setCell ⟨g, 0, none⟩ (.int .i64 X')).setCell ⟨g, 1, none⟩ (.int .i64 Y')).setCell ⟨g, 2, none⟩ (.slice A' n' c'))) : o.wp Try.prog a w K Q := by
  obtain ⟨q0, q1, q2, q3, q4, q5, q6⟩ := hb.all
  cases o
  dsimp only at ho h ⊢
  subst ho
  unfold Oper.wp
  go_simp
  exact h
theorem wp_call1 {o : Oper} {a : Act} {w : World} {K : Act → World → Prop} (f : FuncId) (x : Nat) (ho : o.op = .call { callee := .value (.func f), args := #[.tmp x], argTypes := #[24] }) {y : Value} (hx : a.tmps[x]?.getD undef = y) {R : Ending → World → Prop} (hc : Calls Try.prog f #[y] w R)
    (ef : ∀ args w, (callFunc f args).run Try.prog w = .ok (.enter f args) w) (hR : ∀ e w', R e w' → ∃ v, e = .returned v ∧ K (a.put o.dst v) w') : o.wp Try.prog a w K Q := by
  cases o
  dsimp only at ho hR ⊢
  subst ho
  unfold Oper.wp
  go_simp
  refine Calls.mono hc fun e w' hr => ?_
  obtain ⟨v, rfl, hk⟩ := hR e w' hr
  exact hk
end
/-- What the number i of a region is: its operation, its slot, for whom it waits. -/
def Opi (ops : Array Oper) (i : Nat) (op : Op) (dst : Option Nat) (deps : List Nat) : Prop :=
  ∃ o, ops[i]? = some o ∧ o.op = op ∧ o.dst = dst ∧ o.guard = none ∧ (deps.all fun j => o.after.toList.any fun e => Region.binds .any e && e.on == j) = true
theorem Opi.get {ops : Array Oper} {i : Nat} {op : Op} {dst : Option Nat} {deps : List Nat} {l : Array Bool} (h : Opi ops i op dst deps) (hi : i ∈ Region.ready .any ops l) :
    l.getD i true = false ∧ (∀ j ∈ deps, l.getD j false = true) ∧ ∃ o, ops[i]? = some o ∧ o.op = op ∧ o.dst = dst ∧ o.guard = none := by
  obtain ⟨o, h1, h2, h3, h4, h5⟩ := h
  obtain ⟨k1, o', k2, k3⟩ := ready_mem hi
  rw [h1] at k2
  cases k2
  refine ⟨k1, fun j hj => ?_, o, h1, h2, h3, h4⟩
  obtain ⟨e, he, hb⟩ := List.any_eq_true.1 (List.all_eq_true.1 h5 j hj)
  rw [Bool.and_eq_true] at hb
  have := k3 e (Array.mem_toList_iff.1 he) hb.1
  rwa [show e.on = j by simpa using hb.2] at this
def ordB (ops : Array Oper) : Bool := (List.range ops.size).all fun i => ((ops[i]?).map fun o => o.after.all fun e => decide (e.on < i)).getD false
theorem all_listed {ops : Array Oper} {l : Array Bool} (hs : l.size = ops.size) (ho : ordB ops = true) (hr : Region.ready .any ops l = []) : ∀ i, i < ops.size → l.getD i false = true := by
  intro i
  induction i using Nat.strongRecOn with
  | _ i ih =>
    intro hi
    have h1 := List.all_eq_true.1 ho i (List.mem_range.2 hi)
    have hi2 : i < l.size := by omega
    cases hv : l.getD i false with
    | true => rfl
    | false =>
      exfalso
      have hv2 : l.getD i true = false := by
        rw [Array.getD_eq_getD_getElem?, Array.getElem?_eq_getElem hi2] at hv ⊢
        exact hv
      have : i ∈ Region.ready .any ops l := by
        unfold Region.ready
        refine List.mem_filter.2 ⟨List.mem_range.2 hi, ?_⟩
        rw [hv2, Array.getElem?_eq_getElem hi]
        rw [Array.getElem?_eq_getElem hi] at h1
        show (ops[i].after.all fun e => !Region.binds .any e || l.getD e.on false) = true
        refine Array.all_eq_true_iff_forall_mem.2 fun e he => ?_
        have h2 : (ops[i].after.all fun e => decide (e.on < i)) = true := h1
        have h3 := Array.all_eq_true_iff_forall_mem.1 h2 e he
        have h4 : e.on < i := of_decide_eq_true h3
        rw [ih e.on h4 (by omega)]
        simp
      rw [hr] at this
      cases this
def fl (l : Array Bool) (i : Nat) : Bool := l.getD i false
theorem fl_set {l : Array Bool} {i j : Nat} (hi : i < l.size) : fl (l.setIfInBounds i true) j = if j = i then true else fl l j := by
  unfold fl
  rw [Array.getD_eq_getD_getElem?, Array.getD_eq_getD_getElem?, Array.getElem?_setIfInBounds]
  by_cases e : i = j
  · subst e; simp [hi]
  · rw [if_neg e, if_neg (fun h => e h.symm)]
def tm (a : Act) (t : Nat) : Value := a.tmps[t]?.getD undef
theorem tm_put {a : Act} {t s : Nat} {v : Value} (ht : t < a.tmps.size) : tm (a.put (some t) v) s = if s = t then v else tm a s := by
  unfold tm
  show ((a.tmps.setIfInBounds t v)[s]?).getD undef = _
  rw [Array.getElem?_setIfInBounds]
  by_cases e : t = s
  · subst e; simp [ht]
  · rw [if_neg e, if_neg (fun h => e h.symm)]
/-- One column of 'a, b, c = f(x), f(y), f(z)': load, call, alloc, store. -/
structure Col (F : Nat → Bool) (T : Nat → Value) (w : World) (B il ic ia iz td te tg : Nat) (v : Value) (W H : Int) (n : Nat) (f : Nat → Bool) : Prop where
  ld : F il = true → T td = v
  cl : F ic = true → ∃ A c, T te = .agg #[.int .i64 W, .int .i64 H, .slice A n c] ∧ Holds w w.heap.size A n f
  al : F ia = true → ∃ g X Y A m c, T tg = .pointer (some ⟨g, 0, none⟩) ∧ B ≤ g ∧ Box w g X Y (.slice A m c) ∧ (F iz = true → T te = .agg #[.int .i64 X, .int .i64 Y, .slice A m c])
  zc : F iz = true → F ic = true ∧ F ia = true
section
variable {F F' : Nat → Bool} {T T' : Nat → Value} {w w' : World} {B il ic ia iz td te tg : Nat} {v : Value} {W H : Int} {n : Nat} {f : Nat → Bool}
theorem Col.other (h : Col F T w B il ic ia iz td te tg v W H n f) (h1 : F' il = F il) (h2 : F' ic = F ic) (h3 : F' ia = F ia) (h4 : F' iz = F iz) (t1 : T' td = T td) (t2 : T' te = T te) (t3 : T' tg = T tg) : Col F' T' w B il ic ia iz td te tg v W H n f :=
  ⟨fun q => by rw [t1]; exact h.ld (h1 ▸ q), fun q => by rw [t2]; exact h.cl (h2 ▸ q), fun q => by rw [t3, t2, h4]; exact h.al (h3 ▸ q), fun q => by rw [h2, h3]; exact h.zc (h4 ▸ q)⟩
theorem Col.below (h : Col F T w B il ic ia iz td te tg v W H n f) (hb : Below w.heap.size w w') : Col F T w' B il ic ia iz td te tg v W H n f :=
  ⟨h.ld, fun q => by obtain ⟨A, c, e, hh⟩ := h.cl q; exact ⟨A, c, e, (hh.below hb).more hb.size⟩, fun q => by obtain ⟨g, X, Y, A, m, c, e, hg, hx, hz⟩ := h.al q; exact ⟨g, X, Y, A, m, c, e, hg, hx.below hb hx.lt, hz⟩, h.zc⟩
theorem Col.st3 (h : Col F T w B il ic ia iz td te tg v W H n f) {k : Nat} {X Y : Int} {A0 : Option Addr} {n0 c0 : Nat} (hk : Box w k X Y (.slice A0 n0 c0)) (hne : F ia = true → T tg ≠ .pointer (some ⟨k, 0, none⟩)) (x y z : Value) : Col F T (((w.setCell ⟨k, 0, none⟩ x).setCell ⟨k, 1, none⟩ y).setCell ⟨k, 2, none⟩ z) B il ic ia iz td te tg v W H n f :=
  ⟨h.ld, fun q => by obtain ⟨A, c, e, hh⟩ := h.cl q; exact ⟨A, c, e, (hh.st3 (holds_ne_box hh hk) x y z).more (by simp)⟩, fun q => by
    obtain ⟨g, X', Y', A, m, c, e, hg, hx, hz⟩ := h.al q
    exact ⟨g, X', Y', A, m, c, e, hg, hx.st3f (k := k) (fun e2 => hne q (by rw [e, e2])) x y z, hz⟩, h.zc⟩
theorem Col.load (h : Col F T w B il ic ia iz td te tg v W H n f) (h2 : F' ic = F ic) (h3 : F' ia = F ia) (h4 : F' iz = F iz) (t1 : T' td = v) (t2 : T' te = T te) (t3 : T' tg = T tg) : Col F' T' w B il ic ia iz td te tg v W H n f :=
  ⟨fun _ => t1, fun q => by rw [t2]; exact h.cl (h2 ▸ q), fun q => by rw [t3, t2, h4]; exact h.al (h3 ▸ q), fun q => by rw [h2, h3]; exact h.zc (h4 ▸ q)⟩
theorem Col.call (h : Col F T w B il ic ia iz td te tg v W H n f) (hb : Below w.heap.size w w') (hF : F ic = false) (h1 : F' il = F il) (h3 : F' ia = F ia) (h4 : F' iz = F iz) (t1 : T' td = T td) (t3 : T' tg = T tg) (hc : F' ic = true) {A : Option Addr} {c : Nat}
    (e : T' te = .agg #[.int .i64 W, .int .i64 H, .slice A n c]) (hh : Holds w' w'.heap.size A n f) : Col F' T' w' B il ic ia iz td te tg v W H n f :=
  have hz : F iz = true → False := fun q => by have := (h.zc q).1; rw [hF] at this; cases this
  ⟨fun q => by rw [t1]; exact h.ld (h1 ▸ q), fun _ => ⟨A, c, e, hh⟩, fun q => by
    obtain ⟨g, X, Y, A', m, c', e', hg, hx, _⟩ := h.al (h3 ▸ q)
    exact ⟨g, X, Y, A', m, c', by rw [t3, e'], hg, hx.below hb hx.lt, fun q => (hz (h4 ▸ q)).elim⟩, fun q => (hz (h4 ▸ q)).elim⟩
theorem Col.alloc (h : Col F T w B il ic ia iz td te tg v W H n f) (hB : B ≤ w.heap.size) (hF : F ia = false) (h1 : F' il = F il) (h2 : F' ic = F ic) (h4 : F' iz = F iz) (t1 : T' td = T td) (t2 : T' te = T te)
    (e : T' tg = .pointer (some ⟨w.heap.size, 0, none⟩)) : Col F' T' (w.alloc (.cells #[.int .i64 0, .int .i64 0, .slice none 0 0] 24)) B il ic ia iz td te tg v W H n f :=
  have hz : F iz = true → False := fun q => by have := (h.zc q).2; rw [hF] at this; cases this
  ⟨fun q => by rw [t1]; exact h.ld (h1 ▸ q), fun q => by rw [t2]; exact (h.below (bel_alloc w _)).cl (h2 ▸ q), fun q => ⟨w.heap.size, 0, 0, none, 0, 0, e, hB, Box.new w 0 0 _, fun q => (hz (h4 ▸ q)).elim⟩, fun q => (hz (h4 ▸ q)).elim⟩
theorem Col.store (h : Col F T w B il ic ia iz td te tg v W H n f) (hc : F ic = true) (ha : F ia = true) :
    ∃ g X Y A m c A' c', T tg = .pointer (some ⟨g, 0, none⟩) ∧ B ≤ g ∧ Box w g X Y (.slice A m c) ∧ T te = .agg #[.int .i64 W, .int .i64 H, .slice A' n c'] ∧
      ∀ F' : Nat → Bool, F' il = F il → F' ic = F ic → F' ia = F ia → Col F' T (((w.setCell ⟨g, 0, none⟩ (.int .i64 W)).setCell ⟨g, 1, none⟩ (.int .i64 H)).setCell ⟨g, 2, none⟩ (.slice A' n c')) B il ic ia iz td te tg v W H n f := by
  obtain ⟨A', c', e1, hh⟩ := h.cl hc
  obtain ⟨g, X, Y, A, m, c, e2, hg, hx, _⟩ := h.al ha
  refine ⟨g, X, Y, A, m, c, A', c', e2, hg, hx, e1, fun F' h1 h2 h3 => ⟨fun q => h.ld (h1 ▸ q), fun _ => ⟨A', c', e1, (hh.st3 (holds_ne_box hh hx) _ _ _).more (by simp)⟩, fun _ => ⟨g, W, H, A', n, c', e2, hg, hx.st3 W H _, fun _ => e1⟩, fun _ => ⟨h2.trans hc, h3.trans ha⟩⟩⟩
end
end Go.Proofs.Ytngjcekjboedjaa
