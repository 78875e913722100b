/- A draft in a variable of its own, filled bit by bit. -/
import Derived.Test.YtbafhdinalapoaaRra
import Derived.Test.YtbafhdinalapoaaApd
namespace Go.Proofs.Ytbafhdinalapoaa
open Go.RowKit
set_option linter.unusedVariables false
set_option linter.unusedSimpArgs false
set_option maxRecDepth 100000

section
variable {w : World} {r : Nat} {D : Dr}
theorem set7_dbox (h : DBox w r D) (E : Dr) : DBox (((((((w.setCell ⟨r, 0, none⟩ (.int .i64 E.S)).setCell ⟨r, 1, none⟩ (.int .i64 E.T)).setCell ⟨r, 2, none⟩ (.slice E.A E.n E.c)).setCell ⟨r, 3, none⟩ (.slice E.B E.m E.d)).setCell ⟨r, 4, none⟩ (.int .i64 E.W)).setCell ⟨r, 5, none⟩ (.int .i64 E.H)).setCell ⟨r, 6, none⟩ (.slice E.C E.k E.e)) r E := by
  have h0 := Joins.block_setCell (i := 0) h (.int .i64 E.S)
  have h1 := Joins.block_setCell (i := 1) h0 (.int .i64 E.T)
  have h2 := Joins.block_setCell (i := 2) h1 (.slice E.A E.n E.c)
  have h3 := Joins.block_setCell (i := 3) h2 (.slice E.B E.m E.d)
  have h4 := Joins.block_setCell (i := 4) h3 (.int .i64 E.W)
  have h5 := Joins.block_setCell (i := 5) h4 (.int .i64 E.H)
  have h6 := Joins.block_setCell (i := 6) h5 (.slice E.C E.k E.e)
  unfold DBox
  rw [h6]
  rfl
theorem DBox.set2 (h : DBox w r D) (A : Option Addr) (n c : Nat) (f : Nat → Int) : DBox (w.setCell ⟨r, 2, none⟩ (.slice A n c)) r ⟨D.S, D.T, A, n, c, D.B, D.m, D.d, D.W, D.H, D.C, D.k, D.e, f, D.g, D.b⟩ := by
  have h1 := Joins.block_setCell (i := 2) h (.slice A n c)
  unfold DBox
  rw [h1]
  rfl
theorem DBox.set3 (h : DBox w r D) (A : Option Addr) (n c : Nat) (f : Nat → Int) : DBox (w.setCell ⟨r, 3, none⟩ (.slice A n c)) r ⟨D.S, D.T, D.A, D.n, D.c, A, n, c, D.W, D.H, D.C, D.k, D.e, D.f, f, D.b⟩ := by
  have h1 := Joins.block_setCell (i := 3) h (.slice A n c)
  unfold DBox
  rw [h1]
  rfl
end
theorem But.irow {k g n : Nat} {w w' : World} {F : Nat → Int} (hb : But k w w') (h : L2.Row w g n F) (hg : g ≠ k) : L2.Row w' g n F := by
  obtain ⟨cs, h1, h2, h3⟩ := h
  have hlt : g < w.heap.size := by
    rcases Nat.lt_or_ge g w.heap.size with h' | h'
    · exact h'
    · rw [Array.getElem?_eq_none h'] at h1; cases h1
  exact ⟨cs, (hb.block g hlt hg).trans h1, h2, h3⟩
theorem But.brow {k g n : Nat} {w w' : World} {F : Nat → Bool} (hb : But k w w') (h : Row w g n F) (hg : g ≠ k) : Row w' g n F := by
  obtain ⟨cs, h1, h2, h3⟩ := h
  have hlt : g < w.heap.size := by
    rcases Nat.lt_or_ge g w.heap.size with h' | h'
    · exact h'
    · rw [Array.getElem?_eq_none h'] at h1; cases h1
  exact ⟨cs, (hb.block g hlt hg).trans h1, h2, h3⟩
/-- What 'd := api.Draft{..}' leaves, with the tie-up of Zero: a draft's variable and the row of its tie-up. -/
structure Mk (w3 wx : World) (j k N : Nat) (E : Dr) : Prop where
  j0 : w3.heap.size ≤ j
  k0 : w3.heap.size ≤ k
  jk : j ≠ k
  box : DBox wx j E
  row : Row wx k N (fun _ => false)
  bel : Below w3.heap.size w3 wx
theorem Mk.late {w3 u : World} {k N : Nat} {S T : Int} {A : Option Addr} {n c : Nat} {B : Option Addr} {m d : Nat} {W H : Int} {C : Option Addr} {kk e : Nat} {f g : Nat → Int} {b : Nat → Bool} (hk : w3.heap.size ≤ k) (hr : Row u k N (fun _ => false)) (hb : Below w3.heap.size w3 u) :
    Mk w3 (u.alloc (.cells #[.int .i64 S, .int .i64 T, .slice A n c, .slice B m d, .int .i64 W, .int .i64 H, .slice C kk e] 30)) u.heap.size k N ⟨S, T, A, n, c, B, m, d, W, H, C, kk, e, f, g, b⟩ :=
  ⟨hb.size, hk, Nat.ne_of_gt hr.lt, DBox.new u ⟨S, T, A, n, c, B, m, d, W, H, C, kk, e, f, g, b⟩, hr.alloc _, hb.alloc hb.size _⟩
theorem Mk.soon {w3 u : World} {k N r : Nat} {D : Dr} {S T : Int} {A : Option Addr} {n c : Nat} {B : Option Addr} {m d : Nat} {W H : Int} {C : Option Addr} {kk e : Nat} {f g : Nat → Int} {b : Nat → Bool} (hj : DBox u r D) (hr0 : r = w3.heap.size) (hk : w3.heap.size + 1 ≤ k) (hr : Row u k N (fun _ => false)) (hb : Below w3.heap.size w3 u) :
    Mk w3 (((((((u.setCell ⟨r, 0, none⟩ (.int .i64 S)).setCell ⟨r, 1, none⟩ (.int .i64 T)).setCell ⟨r, 2, none⟩ (.slice A n c)).setCell ⟨r, 3, none⟩ (.slice B m d)).setCell ⟨r, 4, none⟩ (.int .i64 W)).setCell ⟨r, 5, none⟩ (.int .i64 H)).setCell ⟨r, 6, none⟩ (.slice C kk e)) r k N ⟨S, T, A, n, c, B, m, d, W, H, C, kk, e, f, g, b⟩ := by
  subst hr0
  exact ⟨Nat.le_refl _, by omega, by omega, set7_dbox hj ⟨S, T, A, n, c, B, m, d, W, H, C, kk, e, f, g, b⟩, (((((((hr.far (by simp; omega) _).far (by simp; omega) _).far (by simp; omega) _).far (by simp; omega) _).far (by simp; omega) _).far (by simp; omega) _).far (by simp; omega) _), set7_keep (Nat.le_refl _) hb⟩
/-- 'append(s, y)' in a region that draws its order: its run, laid ahead. -/
theorem app_ahead (w : World) (base : Nat) {v : Value} {n : Nat} {f : Nat → Int} (hown : L2.Own w base v n f) (y : Int) (hy : f n = y) (hn : n ≤ 100000) (hb : base ≤ w.heap.size) :
    ∃ A c wn, (Builtin.append_ #[28, 28] 28 #[v, .slice (some ⟨w.heap.size, 0, none⟩) 1 1]).run Try.prog ((w.alloc (.cells #[.int .i64 y] 3)).drew) = .ok (.slice A (n + 1) c) wn ∧ L2.Own wn base (.slice A (n + 1) c) (n + 1) f ∧ Below base w wn ∧ Grew w wn v (.slice A (n + 1) c) := by
  obtain ⟨i0, hi, hz0, hz1, hz2⟩ := info_parts L2.TryI.info3
  have hv0 : base ≤ ((w.alloc (.cells #[.int .i64 y] 3)).drew).heap.size := by simp; omega
  obtain ⟨v', wn, hrun, h1, h2, _, hat⟩ := run_append_own_at (P := Try.prog) (ty := 28) ((w.alloc (.cells #[.int .i64 y] 3)).drew) base 28 3 i0 (.int .i64 0) 1 8 Try.underlying28 hi hz0 hz1 hz2 rfl (by decide) v n _ ((hown.alloc (.cells #[.int .i64 y] 3)).drew) ⟨w.heap.size, 0, none⟩ 1 1 [.int .i64 y] rfl (cell_one_new _ _ _) (ints_oneCell .i64 [y]) (by unfold maxLen; omega) (by omega) hv0
  have h3 : L2.Own wn base v' (n + 1) f := by
    unfold L2.Own
    rw [L2.news_succ, hy]
    exact h1
  obtain ⟨A, c, rfl, _, _⟩ := h3.out
  refine ⟨A, c, wn, hrun, h3, Below.grown (((Below.refl base w).alloc hb _).drew) h2 hv0 fun k hk => (((hown.alloc (.cells #[.int .i64 y] 3)).drew).block hk).1, ⟨?_, ?_, ?_⟩⟩
  · have := h2.size; simp at this; omega
  · intro k hk hne
    exact (h2.block k (by simp; omega) (fun e => hne (by first | exact e.symm | exact e))).trans (Below.heap_alloc w _ k hk)
  · intro k e
    rcases hat with h4 | h4
    · exact .inl (h4.symm.trans e)
    · rw [h4] at e
      simp at e
      exact .inr (by omega)
/-- 'append(s, y)' at a step of a region that draws its order. -/
theorem step_app {ops : Array Oper} {o : Oper} {a : Act} {w : World} {K : Act → World → Prop} {Q : Exit → Act → World → Prop} {E : Prop} (hgd : o.guard = none) (s x : Operand)
    (ho : o.op = .call { callee := .builtin .append, args := #[s, x], argTypes := #[28, 28] }) (base : Nat) {v : Value} {n : Nat} {f : Nat → Int} (hs : a.eval s = v) (hown : L2.Own w base v n f)
    (y : Int) (g : Nat) (hx : a.eval x = .slice (some ⟨g, 0, none⟩) 1 1) (hc : w.cell? ⟨g, 0, none⟩ = some (.int .i64 y)) (hy : f n = y) (hn : n ≤ 100000) (hb : base ≤ w.heap.size)
    (h : ∀ v' w', L2.Own w' base v' (n + 1) f → Below base w w' → Grew w w' v v' → K (a.put o.dst v') w') : if Region.wanted o (yielded ops a.tmps) = true then Oper.wp Try.prog o a w K Q else E := by
  have hw : Region.wanted o (yielded ops a.tmps) = true := by simp [Region.wanted, hgd]
  rw [if_pos hw]
  obtain ⟨i0, hi, hz0, hz1, hz2⟩ := info_parts L2.TryI.info3
  obtain ⟨v', w', hrun, h1, h2, _, hat⟩ := run_append_own_at (P := Try.prog) w base 28 o.type 3 i0 (.int .i64 0) 1 8 Try.underlying28 hi hz0 hz1 hz2 rfl (by decide) v n _ hown ⟨g, 0, none⟩ 1 1 [.int .i64 y] rfl
    (by intro j u hj; match j, hj with | 0, hj => (simp at hj; subst hj; simpa [Addr.add] using hc)) (ints_oneCell .i64 [y]) (by unfold maxLen; omega) (by omega) hb
  unfold Oper.wp
  simp [execOp, ho, resolve, invoke, builtin, hs, hx, hrun, Result.andThen]
  refine h v' w' ?_ ?_ ⟨h2.size, fun k hk hne => h2.block k hk (fun e => hne (by first | exact e.symm | exact e)), fun k e => ?_⟩
  · unfold L2.Own
    rw [L2.news_succ, hy]
    exact h1
  · exact Below.grown (Below.refl _ _) h2 hb fun k hk => (hown.block hk).1
  · rcases hat with h3 | h3
    · exact .inl (h3.symm.trans e)
    · rw [h3] at e
      simp at e
      exact .inr (by omega)
end Go.Proofs.Ytbafhdinalapoaa
