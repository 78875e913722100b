/- tiesOf of the program. -/
import Derived.Test.YtgmcbdnfgdmmaaaHpv
namespace Go.Proofs.Ytgmcbdnfgdmmaaa
open Go.RowKit
set_option maxRecDepth 100000
set_option linter.unusedVariables false
set_option linter.unusedSimpArgs false

theorem Try.info51 : (Try.prog.info? 45).map (fun i => (i.zero, i.size, i.bytes)) = some (some (.slice none 0 0), 1, 24) := by kernel_rfl
theorem orow_keep {w w' : World} {base : Nat} {e : TypeId} {s n : Nat} {v : Value} {xs : List Value} (h : w.ownsRow base e s v n xs) (hb : ∀ k, base ≤ k → v.ownBlock = some k → w'.heap[k]? = w.heap[k]?) : w'.ownsRow base e s v n xs := by
  rcases h with ⟨hl, ⟨hv, hn⟩ | ⟨g, cap, cur, hv, hg, hc, r⟩⟩
  · exact ⟨hl, .inl ⟨hv, hn⟩⟩
  · exact ⟨hl, .inr ⟨g, cap, cur, hv, hg, (hb g hg (by rw [hv]; rfl)).trans hc, r⟩⟩
theorem orow_block {w : World} {base : Nat} {e : TypeId} {s n : Nat} {v : Value} {xs : List Value} (h : w.ownsRow base e s v n xs) {k : Nat} (hk : v.ownBlock = some k) : base ≤ k ∧ k < w.heap.size ∧ ∃ cur, w.heap[k]? = some (.cells cur e (0, 0)) := by
  rcases h with ⟨hl, ⟨hv, hn⟩ | ⟨g, cap, cur, hv, hg, hc, r⟩⟩
  · rw [hv] at hk; cases hk
  · rw [hv] at hk
    cases hk
    exact ⟨hg, (Array.getElem?_eq_some_iff.1 hc).1, cur, hc⟩
/-- Of what lies below base, block al alone may have turned. -/
structure Fr (base al : Nat) (w w' : World) : Prop where
  os : w'.os = w.os
  tape : w'.tape = w.tape
  output : w'.output = w.output
  size : w.heap.size ≤ w'.heap.size
  block : ∀ b, b < base → b ≠ al → w'.heap[b]? = w.heap[b]?
theorem Fr.of {base al : Nat} {w w' : World} (h : Below base w w') : Fr base al w w' := ⟨h.os, h.tape, h.output, h.size, fun b hb _ => h.block b hb⟩
theorem Fr.trans {base al : Nat} {w1 w2 w3 : World} (h : Fr base al w1 w2) (k : Fr base al w2 w3) : Fr base al w1 w3 :=
  ⟨k.os.trans h.os, k.tape.trans h.tape, k.output.trans h.output, Nat.le_trans h.size k.size, fun b h1 h2 => (k.block b h1 h2).trans (h.block b h1 h2)⟩
theorem Fr.below {base al B : Nat} {w0 w w' : World} (h : Fr base al w w') (hb : Below B w0 w) (h1 : B ≤ al) (h2 : B ≤ base) : Below B w0 w' :=
  ⟨h.os.trans hb.os, h.tape.trans hb.tape, h.output.trans hb.output, Nat.le_trans hb.size h.size, fun b hlt => (h.block b (by omega) (by omega)).trans (hb.block b hlt)⟩
/-- An element of a slice of lists. -/
def Elt (w : World) (xs : List Value) (i : Nat) (l : List Nat) : Prop := ∃ D c, xs[i]? = some (.slice D l.length c) ∧ Cp D l.length c ∧ TT w D l
/-- What tiesOf has put together. -/
structure Ty (w : World) (base al nb na : Nat) (Lb La : Nat → List Nat) (vb va : Value) (xb xa : List Value) : Prop where
  cell : w.heap[al]? = some (.cells #[vb, va] 127 (0, 0))
  ob : w.ownsRow base 45 1 vb nb xb
  oa : w.ownsRow base 45 1 va na xa
  ne : ∀ b, vb.ownBlock = some b → va.ownBlock ≠ some b
  eb : ∀ i, i < nb → Elt w xb i (Lb i)
  ea : ∀ i, i < na → Elt w xa i (La i)
  al : al < base
  bs : base ≤ w.heap.size
theorem Ty.below {w w' : World} {base al nb na : Nat} {Lb La : Nat → List Nat} {vb va : Value} {xb xa : List Value} (h : Ty w base al nb na Lb La vb va xb xa) (hb : Below w.heap.size w w') : Ty w' base al nb na Lb La vb va xb xa :=
  ⟨(hb.block al (Nat.lt_of_lt_of_le h.al h.bs)).trans h.cell, orow_keep h.ob fun k _ hk => hb.block k (orow_block h.ob hk).2.1, orow_keep h.oa fun k _ hk => hb.block k (orow_block h.oa hk).2.1, h.ne,
    fun i hi => by obtain ⟨D, c, h1, h2, h3⟩ := h.eb i hi; exact ⟨D, c, h1, h2, h3.below hb⟩, fun i hi => by obtain ⟨D, c, h1, h2, h3⟩ := h.ea i hi; exact ⟨D, c, h1, h2, h3.below hb⟩, h.al, Nat.le_trans h.bs hb.size⟩
theorem elt_app {w : World} {xs ys : List Value} {i : Nat} {l : List Nat} (h : Elt w xs i l) : Elt w (xs ++ ys) i l := by
  obtain ⟨D, c, h1, h2, h3⟩ := h
  refine ⟨D, c, ?_, h2, h3⟩
  rw [List.getElem?_append_left (List.getElem?_eq_some_iff.1 h1).1]
  exact h1
theorem elt_keep {w w' : World} {xs : List Value} {i : Nat} {l : List Nat} (h : Elt w xs i l) (hb : ∀ (b : Nat) (cs : Array Value), w.heap[b]? = some (Obj.cells cs 3 (0, 0)) → w'.heap[b]? = w.heap[b]?) : Elt w' xs i l := by
  obtain ⟨D, c, h1, h2, h3⟩ := h
  exact ⟨D, c, h1, h2, h3.keep hb⟩
theorem setCell_al {w : World} {al i : Nat} {vb va v : Value} (h : w.heap[al]? = some (.cells #[vb, va] 127 (0, 0))) : (w.setCell ⟨al, i, none⟩ v).heap[al]? = some (.cells ((#[vb, va] : Array Value).setIfInBounds i v) 127 (0, 0)) := by
  simp [World.setCell, Array.getElem?_modify, h]
section
variable {w w' : World} {base al nb na : Nat} {Lb La : Nat → List Nat} {vb va v' : Value} {xb xa : List Value} {D : Option Addr} {c : Nat} {l : List Nat}
theorem Ty.alloc (h : Ty w base al nb na Lb La vb va xb xa) (o : Obj) : Ty (w.alloc o) base al nb na Lb La vb va xb xa := h.below ((Below.refl _ _).alloc (Nat.le_refl _) _)
/-- Behind an append to the first slice. -/
theorem Ty.app0 (h : Ty w base al nb na Lb La vb va xb xa) (hcp : Cp D l.length c) (ht : TT w D l) (h1 : w'.ownsRow base 45 1 v' (nb + 1) (xb ++ [.slice D l.length c])) (h2 : w.grownBy w' vb.ownBlock)
    (h3 : v'.ownBlock = vb.ownBlock ∨ v'.ownBlock = some w.heap.size) : w'.heap[al]? = some (.cells #[vb, va] 127 (0, 0)) ∧ Ty (w'.setCell ⟨al, 0, none⟩ v') base al (nb + 1) na (fun i => if i = nb then l else Lb i) La v' va (xb ++ [.slice D l.length c]) xa ∧ Fr base al w (w'.setCell ⟨al, 0, none⟩ v') := by
  have hal : al < w.heap.size := Nat.lt_of_lt_of_le h.al h.bs
  have hc : w'.heap[al]? = some (.cells #[vb, va] 127 (0, 0)) := (h2.block al hal (fun e => by have := (orow_block h.ob e.symm).1; have := h.al; omega)).trans h.cell
  have hs : w.heap.size ≤ (w'.setCell ⟨al, 0, none⟩ v').heap.size := by simpa using h2.size
  have far : ∀ k, k ≠ al → (w'.setCell ⟨al, 0, none⟩ v').heap[k]? = w'.heap[k]? := fun k hk => Below.heap_setCell w' _ _ k hk
  have num : ∀ (b : Nat) (cs : Array Value), w.heap[b]? = some (Obj.cells cs 3 (0, 0)) → (w'.setCell ⟨al, 0, none⟩ v').heap[b]? = w.heap[b]? := fun b cs hb => by
    have hbl : b < w.heap.size := (Array.getElem?_eq_some_iff.1 hb).1
    rw [far b (fun e => by rw [e, h.cell] at hb; cases hb)]
    refine h2.block b hbl fun e => ?_
    obtain ⟨_, _, cur, hcur⟩ := orow_block h.ob e.symm
    rw [hcur] at hb
    cases hb
  refine ⟨hc, ⟨setCell_al hc, orow_keep h1 fun k hk _ => far k (by have := h.al; omega), orow_keep h.oa fun k hk hv => ?_, fun b hb hv => ?_, fun i hi => ?_, fun i hi => elt_keep (h.ea i hi) num, h.al, Nat.le_trans h.bs hs⟩, ⟨h2.os, h2.tape, h2.output, hs, fun b hb hne => ?_⟩⟩
  · rw [far k (by have := h.al; omega)]
    exact h2.block k (orow_block h.oa hv).2.1 fun e => h.ne k e.symm hv
  · rcases h3 with e | e
    · exact h.ne b (by rw [← e]; exact hb) hv
    · rw [e] at hb
      cases hb
      exact absurd (orow_block h.oa hv).2.1 (Nat.lt_irrefl _)
  · by_cases e : i = nb
    · rw [e, if_pos rfl]
      have hl := h.ob.1
      exact ⟨D, c, by rw [List.getElem?_append_right (by omega)]; simp [show nb - xb.length = 0 by omega], hcp, ht.keep num⟩
    · show Elt _ _ i (if i = nb then l else Lb i)
      rw [if_neg e]
      exact elt_keep (elt_app (h.eb i (by omega))) num
  · rw [far b hne]
    exact h2.block b (Nat.lt_of_lt_of_le hb h.bs) fun e => by have := (orow_block h.ob e.symm).1; omega
/-- Behind an append to the second slice. -/
theorem Ty.app1 (h : Ty w base al nb na Lb La vb va xb xa) (hcp : Cp D l.length c) (ht : TT w D l) (h1 : w'.ownsRow base 45 1 v' (na + 1) (xa ++ [.slice D l.length c])) (h2 : w.grownBy w' va.ownBlock)
    (h3 : v'.ownBlock = va.ownBlock ∨ v'.ownBlock = some w.heap.size) : w'.heap[al]? = some (.cells #[vb, va] 127 (0, 0)) ∧ Ty (w'.setCell ⟨al, 1, none⟩ v') base al nb (na + 1) Lb (fun i => if i = na then l else La i) vb v' xb (xa ++ [.slice D l.length c]) ∧ Fr base al w (w'.setCell ⟨al, 1, none⟩ v') := by
  have hal : al < w.heap.size := Nat.lt_of_lt_of_le h.al h.bs
  have hc : w'.heap[al]? = some (.cells #[vb, va] 127 (0, 0)) := (h2.block al hal (fun e => by have := (orow_block h.oa e.symm).1; have := h.al; omega)).trans h.cell
  have hs : w.heap.size ≤ (w'.setCell ⟨al, 1, none⟩ v').heap.size := by simpa using h2.size
  have far : ∀ k, k ≠ al → (w'.setCell ⟨al, 1, none⟩ v').heap[k]? = w'.heap[k]? := fun k hk => Below.heap_setCell w' _ _ k hk
  have num : ∀ (b : Nat) (cs : Array Value), w.heap[b]? = some (Obj.cells cs 3 (0, 0)) → (w'.setCell ⟨al, 1, none⟩ v').heap[b]? = w.heap[b]? := fun b cs hb => by
    have hbl : b < w.heap.size := (Array.getElem?_eq_some_iff.1 hb).1
    rw [far b (fun e => by rw [e, h.cell] at hb; cases hb)]
    refine h2.block b hbl fun e => ?_
    obtain ⟨_, _, cur, hcur⟩ := orow_block h.oa e.symm
    rw [hcur] at hb
    cases hb
  refine ⟨hc, ⟨setCell_al hc, orow_keep h.ob fun k hk hv => ?_, orow_keep h1 fun k hk _ => far k (by have := h.al; omega), fun b hb hv => ?_, fun i hi => elt_keep (h.eb i hi) num, fun i hi => ?_, h.al, Nat.le_trans h.bs hs⟩, ⟨h2.os, h2.tape, h2.output, hs, fun b hb hne => ?_⟩⟩
  · rw [far k (by have := h.al; omega)]
    exact h2.block k (orow_block h.ob hv).2.1 fun e => h.ne k hv e.symm
  · rcases h3 with e | e
    · exact h.ne b hb (by rw [← e]; exact hv)
    · rw [e] at hv
      cases hv
      exact absurd (orow_block h.ob hb).2.1 (Nat.lt_irrefl _)
  · by_cases e : i = na
    · rw [e, if_pos rfl]
      have hl := h.oa.1
      exact ⟨D, c, by rw [List.getElem?_append_right (by omega)]; simp [show na - xa.length = 0 by omega], hcp, ht.keep num⟩
    · show Elt _ _ i (if i = na then l else La i)
      rw [if_neg e]
      exact elt_keep (elt_app (h.ea i (by omega))) num
  · rw [far b hne]
    exact h2.block b (Nat.lt_of_lt_of_le hb h.bs) fun e => by have := (orow_block h.oa e.symm).1; omega
end
/-- 'append(s, y)' onto a slice of lists. -/
theorem so_app {ops : Array Oper} {rest : List Oper} {o : Oper} {a : Act} {Q : Exit → Act → World → Prop} (w : World) (hgd : o.guard = none) (s x : Operand)
    (ho : o.op = .call { callee := .builtin .append, args := #[s, x], argTypes := #[110, 110] }) (base : Nat) {v : Value} {n : Nat} {xs : List Value} (hs : a.eval s = v) (hown : w.ownsRow base 45 1 v n xs)
    (D : Option Addr) (m c : Nat) (hx : a.eval x = .slice (some ⟨w.heap.size, 0, none⟩) 1 1) (hn : n ≤ 100000) (hb : base ≤ w.heap.size)
    (h : ∀ v' w', w'.ownsRow base 45 1 v' (n + 1) (xs ++ [.slice D m c]) → (w.alloc (.cells #[.slice D m c] 45)).grownBy w' v.ownBlock → (v'.ownBlock = v.ownBlock ∨ v'.ownBlock = some (w.alloc (.cells #[.slice D m c] 45)).heap.size) → wpList Try.prog ops Q rest (a.put o.dst v') w') :
    wpList Try.prog ops Q (o :: rest) a (w.alloc (.cells #[.slice D m c] 45)) := by
  obtain ⟨i0, hi, hz0, hz1, hz2⟩ := info_parts Try.info51
  refine wpList_append_own_at _ hgd s x 110 ho base 45 i0 (.slice none 0 0) 1 24 Try.underlying110 hi hz0 hz1 hz2 rfl (by decide) v n xs hs (orow_keep hown fun k _ hk => Below.heap_alloc w _ k (orow_block hown hk).2.1) ⟨w.heap.size, 0, none⟩ 1 1 [.slice D m c] hx rfl (cell_one_new _ _ _) (by intro u hu; simp at hu; rw [hu]; rfl)
    (by unfold maxLen; omega) (by omega) (by simp; omega) ?_
  intro v' w' h1 h2 _ h3
  exact h v' w' h1 h2 h3
theorem grown_al {w w' : World} {base al nb na : Nat} {Lb La : Nat → List Nat} {vb va : Value} {xb xa : List Value} {o : Obj} (h : Ty w base al nb na Lb La vb va xb xa) (h2 : (w.alloc o).grownBy w' vb.ownBlock ∨ (w.alloc o).grownBy w' va.ownBlock) : w'.heap[al]? = some (.cells #[vb, va] 127 (0, 0)) := by
  have hal : al < w.heap.size := Nat.lt_of_lt_of_le h.al h.bs
  have e0 := Below.heap_alloc w o al hal
  rcases h2 with h2 | h2
  · exact (h2.block al (by simp; omega) (fun e => by have := (orow_block h.ob e.symm).1; have := h.al; omega)).trans (e0.trans h.cell)
  · exact (h2.block al (by simp; omega) (fun e => by have := (orow_block h.oa e.symm).1; have := h.al; omega)).trans (e0.trans h.cell)
theorem grown_tt {w w' : World} {base : Nat} {v : Value} {n : Nat} {xs : List Value} {o : Obj} {D : Option Addr} {l : List Nat} {al : Nat} {x : Value} (ho : w.ownsRow base 45 1 v n xs) (h2 : (w.alloc o).grownBy w' v.ownBlock) (ht : TT w D l) (hal : ∃ cs, w.heap[al]? = some (.cells cs 127 (0, 0))) : TT (w'.setCell ⟨al, 0, none⟩ x) D l :=
  ht.keep fun b cs hb => by
    have hbl : b < w.heap.size := (Array.getElem?_eq_some_iff.1 hb).1
    obtain ⟨cs2, hal⟩ := hal
    rw [Below.heap_setCell w' _ _ b (fun e => by have e' : b = al := e; rw [e', hal] at hb; cases hb)]
    refine (h2.block b (by simp; omega) fun e => ?_).trans (Below.heap_alloc w o b hbl)
    obtain ⟨_, _, cur, hcur⟩ := orow_block ho e.symm
    rw [hcur] at hb
    cases hb
theorem al_cells {w : World} {al : Nat} {vb va : Value} (h : w.heap[al]? = some (.cells #[vb, va] 127 (0, 0))) : w.cell? ⟨al, 0, none⟩ = some vb ∧ w.cell? ⟨al, 1, none⟩ = some va ∧ w.frozen? ⟨al, 0, none⟩ = false ∧ w.frozen? ⟨al, 1, none⟩ = false :=
  ⟨by rw [Lib.cell_of_heap h]; rfl, by rw [Lib.cell_of_heap h]; rfl, Lib.frozen_of_heap h 0, Lib.frozen_of_heap h 1⟩
theorem orow_shape {w : World} {base : Nat} {e : TypeId} {s n : Nat} {v : Value} {xs : List Value} (h : w.ownsRow base e s v n xs) : ∃ A c, v = .slice A n c := by
  rcases h with ⟨hl, ⟨hv, hn⟩ | ⟨g, cap, cur, hv, _⟩⟩
  · exact ⟨none, 0, by rw [hv, hn]⟩
  · exact ⟨_, _, hv⟩
/-- What adding a thread leaves. -/
def AddR (w : World) (base al n : Nat) (l1 l2 : List Nat) (Lb La : Nat → List Nat) (e : Ending) (w' : World) : Prop :=
  e = .returned (.tuple #[]) ∧ Fr base al w w' ∧ ∃ vb va xb xa, Ty w' base al (n + 1) (n + 1) (fun i => if i = n then l1 else Lb i) (fun i => if i = n then l2 else La i) vb va xb xa
set_option maxHeartbeats 1600000 in
theorem add_any (W H : Nat) (A : Option Addr) (c : Nat) (g : Nat → Bool) (gb base al n : Nat) (Lb La : Nat → List Nat) (vb va : Value) (xb xa : List Value) (t : Nat) (D : Option Addr) (d : Nat) (l : List Nat) (w : World)
    (hG : Grid w gb W H A c g) (ht : Ty w base al n n Lb La vb va xb xa) (hl : LL w D l) (htN : t < W + H) (hlN : ∀ i, i < l.length → l.getD i 0 < W + H) (hn : l.length ≤ 128) (h0 : 0 < l.length) (hnn : n ≤ 128) :
    Calls Try.prog 148 #[.int .i64 (t : Nat), .slice D l.length d, .pointer (some ⟨gb, 0, none⟩), .pointer (some ⟨al, 0, none⟩)] w (AddR w base al n (l.filter (ov W g t)) (l.filter fun a => !ov W g t a) Lb La) := by
  have LB0 := Lib.hid ((Below.refl w.heap.size w).alloc (Nat.le_refl _) (.cells #[.int .i64 (t : Nat)] 3))
  have HN0 : Num (w.alloc (.cells #[.int .i64 (t : Nat)] 3)) w.heap.size ((t : Nat) : Int) := ⟨by simp, by simp⟩
  have HGP : GivesP 150 #[.pointer (some ⟨gb, 0, none⟩), .pointer (some ⟨w.heap.size, 0, none⟩)] (w.alloc (.cells #[.int .i64 (t : Nat)] 3)) l.length (lf l) (fun i => ov W g t (l.getD i 0)) := fun v i hv hi => by
    have h1 := ((hG.below LB0.out).below hv)
    have h2 := HN0.below hv
    have h3 := over_clo h1 h2 htN _ (hlN i hi) 150 (.inr rfl)
    have hle : lf l i = ((l.getD i 0 : Nat) : Int) := rfl
    rw [hle]
    exact h3
  have HSP := Lib.hid (split_any l D d 150 #[.pointer (some ⟨gb, 0, none⟩), .pointer (some ⟨w.heap.size, 0, none⟩)] (ov W g t) (w.alloc (.cells #[.int .i64 (t : Nat)] 3)) (hl.below LB0.out) hn h0 HGP (Go.Proofs.enters_of Try.func150 (by kernel_rfl) rfl))
  clear HGP HN0
  have HT0 := Lib.hid (ht.below LB0.out)
  have hsz0 := ht.bs
  have hal := ht.al
  clear hG ht hl
  generalize hl1 : l.filter (ov W g t) = l1 at *
  generalize hl2 : l.filter (fun a => !ov W g t a) = l2 at *
  clear hl1 hl2
  generalize l.length = n0 at *
  go_enter Try.func148, Try.ntmps148
  go_wp2_with fail
  with_reducible refine Calls.mono HSP.out ?_
  rintro e w2 ⟨D1, c1, D2, c2, rfl, ⟨hp1, ht1⟩, ⟨hp2, ht2⟩, hb⟩
  have HT2 := Lib.hid (HT0.out.below hb)
  have HL2 := Lib.hid (LB0.out.trans (hb.mono LB0.out.size))
  have HT1' := Lib.hid ht1
  have HT2' := Lib.hid ht2
  have HP1 := Lib.hid hp1
  have HP2 := Lib.hid hp2
  clear hb HT0 LB0 ht1 ht2 hp1 hp2 HSP
  have k0 := HT2.out.cell
  have k1 : w2.cell? ⟨al, 0, none⟩ = some vb := by rw [Lib.cell_of_heap k0]; rfl
  have k2 : w2.cell? ⟨al, 1, none⟩ = some va := by rw [Lib.cell_of_heap k0]; rfl
  have hbs := HT2.out.bs
  have HOB := Lib.hid HT2.out.ob
  have HTA := Lib.hid (HT2.out.alloc (.cells #[.slice D1 l1.length c1] 45))
  have HTT1 := Lib.hid (HT1'.out.below ((Below.refl w2.heap.size w2).alloc (Nat.le_refl _) (.cells #[.slice D1 l1.length c1] 45)))
  clear k0
  go_upto_region 3 with (at_builtin; refine so_app _ rfl _ _ (by rfl) base (by rfl) HOB.out D1 l1.length c1 (by rfl) (by omega) hbs ?_; intro v3 w3 h1 h2 h3; obtain ⟨A3, d3, rfl⟩ := orow_shape h1; have H1 := Lib.hid h1; have H2 := Lib.hid h2; have H3 := Lib.hid h3; clear h1 h2 h3; have k3 := grown_al HT2.out (.inl H2.out); have k4 := (al_cells k3).1; have k5 := (al_cells k3).2.2.1; clear k3)
  have HA3 := Lib.hid (HTA.out.app0 HP1.out HTT1.out H1.out H2.out H3.out)
  have HT4 := Lib.hid HA3.out.2.1
  have HF4 := Lib.hid ((Fr.of ((Below.refl w2.heap.size w2).alloc (Nat.le_refl _) (.cells #[.slice D1 l1.length c1] 45)) : Fr w2.heap.size al w2 _))
  have HF5 := Lib.hid HA3.out.2.2
  have HT2k := Lib.hid (grown_tt (x := .slice A3 (n + 1) d3) HT2.out.ob H2.out HT2'.out ⟨_, HT2.out.cell⟩)
  clear k4 k5 HA3 HTA HTT1 HOB k1 k2
  generalize w3.setCell ⟨al, 0, none⟩ (.slice A3 (n + 1) d3) = w4 at *
  have k0 := HT4.out.cell
  have k1 : w4.cell? ⟨al, 0, none⟩ = some (.slice A3 (n + 1) d3) := by rw [Lib.cell_of_heap k0]; rfl
  have k2 : w4.cell? ⟨al, 1, none⟩ = some va := by rw [Lib.cell_of_heap k0]; rfl
  have hbs4 := HT4.out.bs
  have HOA := Lib.hid HT4.out.oa
  have HTA := Lib.hid (HT4.out.alloc (.cells #[.slice D2 l2.length c2] 45))
  have HTT2 := Lib.hid (HT2k.out.below ((Below.refl w4.heap.size w4).alloc (Nat.le_refl _) (.cells #[.slice D2 l2.length c2] 45)))
  clear k0
  go_wp2_with (at_builtin; refine so_app _ rfl _ _ (by rfl) base (by rfl) HOA.out D2 l2.length c2 (by rfl) (by omega) hbs4 ?_; intro v5 w5 h1 h2 h3; obtain ⟨A5, d5, rfl⟩ := orow_shape h1; have K1 := Lib.hid h1; have K2 := Lib.hid h2; have K3 := Lib.hid h3; clear h1 h2 h3; have k3 := grown_al HT4.out (.inr K2.out); have k4 := (al_cells k3).2.1; have k5 := (al_cells k3).2.2.2; clear k3)
  have HA5 := Lib.hid (HTA.out.app1 HP2.out HTT2.out K1.out K2.out K3.out)
  go_end0
  exact ⟨rfl, ((Fr.of (HL2.out.mono hsz0)).trans ⟨HF4.out.os, HF4.out.tape, HF4.out.output, HF4.out.size, fun b hb hne => HF4.out.block b (by omega) hne⟩).trans (HF5.out.trans ((Fr.of (((Below.refl w4.heap.size w4).alloc (Nat.le_refl _) (.cells #[.slice D2 l2.length c2] 45)).mono hbs4)).trans HA5.out.2.2)), _, _, _, _, HA5.out.2.1⟩
end Go.Proofs.Ytgmcbdnfgdmmaaa
