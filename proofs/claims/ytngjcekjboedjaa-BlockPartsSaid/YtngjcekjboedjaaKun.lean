/- Layer 13 of the program: Units. -/
import Derived.Test.YtngjcekjboedjaaKui
namespace Go.Proofs.Ytngjcekjboedjaa
open Go.RowKit
set_option maxRecDepth 100000
set_option linter.unusedVariables false
set_option linter.unusedSimpArgs false

theorem Try.info24 : (Try.prog.info? 24).map (fun i => (i.zero, i.size, i.bytes)) = some (some (.agg #[.int .i64 0, .int .i64 0, .slice none 0 0]), 3, 40) := by kernel_rfl
/-- The cells of units of wd by ht (n cells), in the rows l. -/
def guc (wd ht : Int) (n : Nat) : List Nat → List Value
  | [] => []
  | b :: l => [.int .i64 wd, .int .i64 ht, .slice (some ⟨b, 0, none⟩) n n] ++ guc wd ht n l
section
variable {wd ht : Int} {n : Nat}
theorem guc_app (l m : List Nat) : guc wd ht n (l ++ m) = guc wd ht n l ++ guc wd ht n m := by
  induction l with
  | nil => rfl
  | cons x l ih => simp [guc, ih]
theorem guc_len (l : List Nat) : (guc wd ht n l).length = l.length * 3 := by
  induction l with
  | nil => rfl
  | cons x l ih => simp [guc, ih]; omega
theorem guc_get : ∀ (l : List Nat) (i b j : Nat), l[i]? = some b → j < 3 → (guc wd ht n l)[i * 3 + j]? = [Value.int .i64 wd, .int .i64 ht, .slice (some ⟨b, 0, none⟩) n n][j]?
  | [], i, b, j, h, _ => by cases h
  | y :: l, 0, b, j, h, hj => by
    simp at h; subst h
    rw [Nat.zero_mul, Nat.zero_add, guc, List.getElem?_append_left (by simp; omega)]
  | y :: l, i + 1, b, j, h, hj => by
    rw [List.getElem?_cons_succ] at h
    rw [guc, List.getElem?_append_right (by simp; omega), show (i + 1) * 3 + j - [Value.int .i64 wd, .int .i64 ht, .slice (some ⟨y, 0, none⟩) n n].length = i * 3 + j by simp; omega]
    exact guc_get l i b j h hj
end
/-- Units that the call has made: v, in the rows l. -/
def GOwn (w : World) (base : Nat) (v : Value) (wd ht : Int) (n : Nat) (l : List Nat) : Prop := w.ownsRow base 24 3 v l.length (guc wd ht n l)
/-- The units' cells. -/
def URows (w : World) (n : Nat) (l : List Nat) (f : Nat → Nat → Bool) : Prop := ∀ i b, l[i]? = some b → Row w b n (f i)
theorem URows.keep {w w' : World} {n : Nat} {l : List Nat} {f : Nat → Nat → Bool} (h : URows w n l f) (hb : ∀ (b : Nat) (cs : Array Value), w.heap[b]? = some (Obj.cells cs 4 (0, 0)) → w'.heap[b]? = w.heap[b]?) : URows w' n l f := fun i b hi => by
  obtain ⟨cs, h1, h2, h3⟩ := h i b hi
  exact ⟨cs, (hb b cs h1).trans h1, h2, h3⟩
theorem URows.below {w w' : World} {n : Nat} {l : List Nat} {f : Nat → Nat → Bool} (h : URows w n l f) (hb : Below w.heap.size w w') : URows w' n l f := h.keep fun b cs hc => hb.block b (Array.getElem?_eq_some_iff.1 hc).1
theorem own_gls {w : World} {base : Nat} {v : Value} {wd ht : Int} {n : Nat} {l : List Nat} {f : Nat → Nat → Bool} (h : GOwn w base v wd ht n l) (hr : URows w n l f) :
    ∃ A c, v = .slice A l.length c ∧ GLs w A l.length (fun i => ⟨wd, ht, some ⟨l.getD i 0, 0, none⟩, n, n, f i⟩) := by
  have h0 := h
  rcases h with ⟨hl, ⟨rfl, hn⟩ | ⟨g, cap, cur, rfl, hg, hc, hcap, _, hs, ht⟩⟩
  · exact ⟨none, 0, by rw [hn], fun hp => by omega⟩
  · refine ⟨_, _, rfl, fun hp => ⟨g, 0, rfl, (Array.getElem?_eq_some_iff.1 hc).1, fun i hi => ?_⟩⟩
    have hget : l[i]? = some (l.getD i 0) := by rw [List.getD_eq_getElem?_getD, List.getElem?_eq_getElem hi]; rfl
    have z := fun j u hu => World.ownsRow.cells h0 (g := g) rfl j u hu
    have g0 := z (i * 3 + 0) _ (by rw [guc_get l i _ 0 hget (by omega)]; rfl)
    have g1 := z (i * 3 + 1) _ (by rw [guc_get l i _ 1 hget (by omega)]; rfl)
    have g2 := z (i * 3 + 2) _ (by rw [guc_get l i _ 2 hget (by omega)]; rfl)
    rw [addr_add] at g0 g1 g2
    rw [Nat.zero_add]
    have hrw := hr i _ hget
    exact ⟨g0, g1, g2, hrw.holds hrw.lt⟩
/-- 'append(units, part)'. -/
theorem gapp1 {ops : Array Oper} {rest : List Oper} {o : Oper} {a : Act} {Q : Exit → Act → World → Prop} (w : World) (hgd : o.guard = none) (s x : Operand)
    (ho : o.op = .call { callee := .builtin .append, args := #[s, x], argTypes := #[64, 64] }) (base : Nat) {v : Value} {wd ht : Int} {n : Nat} {l : List Nat} (hs : a.eval s = v) (hown : GOwn w base v wd ht n l)
    (b : Nat) (hx : a.eval x = .slice (some ⟨w.heap.size, 0, none⟩) 1 1) (hn : l.length ≤ 100000) (hb : base ≤ w.heap.size)
    (h : ∀ v' w', GOwn w' base v' wd ht n (l ++ [b]) → (w.alloc (.cells #[.int .i64 wd, .int .i64 ht, .slice (some ⟨b, 0, none⟩) n n] 24)).grownBy w' v.ownBlock → wpList Try.prog ops Q rest (a.put o.dst v') w') :
    wpList Try.prog ops Q (o :: rest) a (w.alloc (.cells #[.int .i64 wd, .int .i64 ht, .slice (some ⟨b, 0, none⟩) n n] 24)) := by
  obtain ⟨i0, hi, hz0, hz1, hz2⟩ := info_parts Try.info24
  refine wpList_append_own _ hgd s x 64 ho base 24 i0 (.agg #[.int .i64 0, .int .i64 0, .slice none 0 0]) 3 40 Try.underlying64 hi hz0 hz1 hz2 rfl (by decide) v l.length _ hs (orow_keep hown fun k _ hk => Below.heap_alloc w _ k (orow_block hown hk).2.1) ⟨w.heap.size, 0, none⟩ 1 1 [.int .i64 wd, .int .i64 ht, .slice (some ⟨b, 0, none⟩) n n] hx (by simp) ?_ (by intro u hu; simp at hu; rcases hu with rfl | rfl | rfl <;> rfl)
    (by unfold maxLen; omega) (by omega) (by simp; omega) ?_
  · intro j u hu
    rw [addr_add, cell_of_row _ w.heap.size j _ 24 (0, 0) (halloc w _)]
    simpa using hu
  · intro v' w' ho' hg _
    refine h v' w' ?_ hg
    unfold GOwn
    rw [List.length_append, guc_app]
    exact ho'
/-- 'append(at, i)'. -/
theorem iapp1 {ops : Array Oper} {rest : List Oper} {o : Oper} {a : Act} {Q : Exit → Act → World → Prop} (w : World) (hgd : o.guard = none) (s x : Operand)
    (ho : o.op = .call { callee := .builtin .append, args := #[s, x], argTypes := #[45, 45] }) (base : Nat) {v : Value} {n : Nat} {f : Nat → Int} (hs : a.eval s = v) (hown : L2.Own w base v n f)
    (y : Int) (hx : a.eval x = .slice (some ⟨w.heap.size, 0, none⟩) 1 1) (hy : f n = y) (hn : n ≤ 100000) (hb : base ≤ w.heap.size)
    (h : ∀ v' w', L2.Own w' base v' (n + 1) f → (w.alloc (.cells #[.int .i64 y] 3)).grownBy w' v.ownBlock → wpList Try.prog ops Q rest (a.put o.dst v') w') :
    wpList Try.prog ops Q (o :: rest) a (w.alloc (.cells #[.int .i64 y] 3)) := by
  obtain ⟨i0, hi, hz0, hz1, hz2⟩ := info_parts Try.info3i
  refine wpList_append_own _ hgd s x 45 ho base 3 i0 (.int .i64 0) 1 8 Try.underlying45 hi hz0 hz1 hz2 rfl (by decide) v n _ hs (L2.Own.alloc hown _) ⟨w.heap.size, 0, none⟩ 1 1 [.int .i64 y] hx (by simp) ?_ (by intro u hu; simp at hu; subst hu; rfl)
    (by unfold maxLen; omega) (by omega) (by simp; omega) ?_
  · intro j u hu
    rw [addr_add, cell_of_row _ w.heap.size j _ 3 (0, 0) (halloc w _)]
    simpa using hu
  · intro v' w' ho' hg _
    refine h v' w' ?_ hg
    unfold L2.Own
    rw [L2.news_succ, hy]
    exact ho'
/-- What an append leaves: rows of another type. -/
theorem grown_other {w w' : World} {v : Value} {base n s : Nat} {e t : TypeId} {xs : List Value} {ob : Obj} (ho : w.ownsRow base e s v n xs) (hg : (w.alloc ob).grownBy w' v.ownBlock) (het : t ≠ e) (b : Nat) (cs : Array Value) (hc : w.heap[b]? = some (.cells cs t (0, 0))) : w'.heap[b]? = w.heap[b]? := by
  have hb : b < w.heap.size := (Array.getElem?_eq_some_iff.1 hc).1
  rw [hg.block b (by simp; omega) fun e' => by
    obtain ⟨cs2, hc2⟩ := orow_type ho e'.symm
    rw [hc] at hc2
    cases hc2
    exact het rfl]
  exact Below.heap_alloc _ _ b hb
theorem grown_bel {w w' : World} {v : Value} {base n s : Nat} {e : TypeId} {xs : List Value} {ob : Obj} (ho : w.ownsRow base e s v n xs) (hg : (w.alloc ob).grownBy w' v.ownBlock) (hb : base ≤ w.heap.size) : Below base w w' :=
  Below.grown ((Below.refl _ _).alloc hb _) hg (by simp; omega) fun k hk => (orow_block ho hk).1
theorem own_type {w : World} {base n k : Nat} {v : Value} {f : Nat → Int} (h : L2.Own w base v n f) (hk : v.ownBlock = some k) : ∃ cs, w.heap[k]? = some (.cells cs 3 (0, 0)) := orow_type h hk
theorem part_f {W w h nx X Y : Nat} {g : Nat → Bool} (hX : X < nx) : (fun i => g ((Y * h + i / w) * W + (X * w + i % w))) = ptF W w h nx g (Y * nx + X) := by
  funext i
  unfold ptF fPart
  rw [(co Y hX).1, (co Y hX).2]
/-- The first of the units that a part is. -/
theorem fx_ua {w h : Nat} {P : Nat → List Bool} {k : Nat} {a : Nat → Bool} {ff : Nat → GV} (hP : P k = bl (w * h) a) (hl : ∀ i, i < (us P k).length → (ff i).W = w ∧ (ff i).H = h ∧ (ff i).n = w * h ∧ (us P k).getD i [] = bl (w * h) (ff i).f) :
    fx (fun i => decide ((ff i).W = (w : Int) ∧ (ff i).H = (h : Int) ∧ (ff i).n = w * h ∧ ∀ j, j < (ff i).n → (ff i).f j = a j)) (us P k).length = if ua P k < (us P k).length then ((ua P k : Nat) : Int) else -1 := by
  unfold fx ua
  rw [fst_congr (P := fun i => decide ((ff i).W = (w : Int) ∧ (ff i).H = (h : Int) ∧ (ff i).n = w * h ∧ ∀ j, j < (ff i).n → (ff i).f j = a j)) (Q := fun i => (us P k).getD i [] == P k) fun i hi => by
    obtain ⟨h1, h2, h3, h4⟩ := hl i hi
    rw [h4, hP, bl_beq, h1, h2, h3]
    simp]
/-- Units, places and an error came back. -/
def UR (w : World) (wd ht : Int) (n : Nat) (F : Nat → Nat → Bool) (m k : Nat) (p : Nat → Nat) (z : Int) (e : Ending) (w' : World) : Prop :=
  ∃ A c A2 c2, e = .returned (.tuple #[.slice A m c, .slice A2 k c2, .int .i64 z]) ∧ (∃ G : Nat → GV, GLs w' A m G ∧ ∀ i, i < m → (G i).W = wd ∧ (G i).H = ht ∧ (G i).n = n ∧ ∀ j, j < n → (G i).f j = F i j) ∧ L2.Holds w' w'.heap.size A2 k (fun i => (p i : Int)) ∧ Below w.heap.size w w'
theorem UR.nil {w w' : World} {wd ht z : Int} {n : Nat} {F : Nat → Nat → Bool} {p : Nat → Nat} (hb : Below w.heap.size w w') : UR w wd ht n F 0 0 p z (.returned (.tuple #[.slice none 0 0, .slice none 0 0, .int .i64 z])) w' :=
  ⟨none, 0, none, 0, rfl, ⟨fun _ => default, (fun h => absurd h (Nat.lt_irrefl 0)), fun i hi => by omega⟩, L2.Holds.none_, hb⟩
set_option maxHeartbeats 800000 in
theorem units_err {W H : Int} {N : Nat} {A : Option Addr} {c : Nat} (x y : Int) (wd ht : Int) (n : Nat) (F : Nat → Nat → Bool) (p : Nat → Nat) (w : World) (hN : N ≤ 4200) (z : Int) (hz : chk W H N = z) (hne : z ≠ 0) :
    Calls Try.prog 51 #[.agg #[.int .i64 W, .int .i64 H, .slice A N c], .int .i64 x, .int .i64 y] w (UR w wd ht n F 0 0 p z) := by
  have HK := Lib.hid (fun u => chk_err (A := A) (c := c) hN hz u)
  have y1 : (z != 0) = true := by rw [bne_iff_ne]; exact hne
  clear hz hne
  have LB0 := Lib.hid (Below.refl w.heap.size w)
  have X1 := Lib.hid (Box.new w W H (.slice A N c))
  have LB0 := Lib.hid (LB0.out.alloc LB0.out.size (.cells #[.int .i64 W, .int .i64 H, .slice A N c] 24))
  go_enter Try.func51, Try.ntmps51
  go_upto_region 1 with (fail)
  generalize w.alloc (.cells #[.int .i64 W, .int .i64 H, .slice A N c] 24) = w0 at *
  obtain ⟨q0, q1, q2, q3, q4, q5, q6⟩ := X1.out.all
  go_wp2_with fail
  clear q0 q1 q2 q3 q4 q5 q6
  with_reducible refine Calls.mono (HK.out _) ?_
  rintro e w1 ⟨rfl, hb⟩
  have LB1 := Lib.hid (LB0.out.trans (hb.mono LB0.out.size))
  have X1 := Lib.hid (X1.out.below hb X1.out.lt)
  clear hb LB0 
  obtain ⟨q0, q1, q2, q3, q4, q5, q6⟩ := X1.out.all
  go_wp2
  refine bodyPost_ret (v := .tuple #[.slice none 0 0, .slice none 0 0, .int .i64 z]) (by simp [results, Try.results51, go_sem]) rfl ?_
  exact UR.nil LB1.out
set_option maxHeartbeats 800000 in
theorem units_c1 {W H : Nat} {A : Option Addr} {c : Nat} (x y : Int) (wd ht : Int) (n : Nat) (F : Nat → Nat → Bool) (p : Nat → Nat) (w : World) (hW0 : 1 ≤ W) (hW : W ≤ 64) (hH0 : 1 ≤ H) (hH : H ≤ 64) (h1 : x < 1) :
    Calls Try.prog 51 #[.agg #[.int .i64 (W : Nat), .int .i64 (H : Nat), .slice A (W * H) c], .int .i64 x, .int .i64 y] w (UR w wd ht n F 0 0 p 26) := by
  have HK := Lib.hid (fun u => chk_valid A c u hW0 hW hH0 hH)
  have y1 : ((0 : Int) != 0) = false := rfl
  generalize W * H = M at *
  have y2 : decide (x < 1) = true := decide_eq_true h1
  have LB0 := Lib.hid (Below.refl w.heap.size w)
  have X1 := Lib.hid (Box.new w (W : Nat) (H : Nat) (.slice A M c))
  have LB0 := Lib.hid (LB0.out.alloc LB0.out.size (.cells #[.int .i64 (W : Nat), .int .i64 (H : Nat), .slice A M c] 24))
  go_enter Try.func51, Try.ntmps51
  go_upto_region 1 with (fail)
  generalize w.alloc (.cells #[.int .i64 (W : Nat), .int .i64 (H : Nat), .slice A M c] 24) = w0 at *
  obtain ⟨q0, q1, q2, q3, q4, q5, q6⟩ := X1.out.all
  go_wp2_with fail
  clear q0 q1 q2 q3 q4 q5 q6
  with_reducible refine Calls.mono (HK.out _) ?_
  rintro e w1 ⟨rfl, hb⟩
  have LB1 := Lib.hid (LB0.out.trans (hb.mono LB0.out.size))
  have X1 := Lib.hid (X1.out.below hb X1.out.lt)
  clear hb LB0 
  obtain ⟨q0, q1, q2, q3, q4, q5, q6⟩ := X1.out.all
  go_wp2
  refine bodyPost_ret (v := .tuple #[.slice none 0 0, .slice none 0 0, .int .i64 26]) (by simp [results, Try.results51, go_sem]) rfl ?_
  exact UR.nil LB1.out
set_option maxHeartbeats 800000 in
theorem units_c2 {W H : Nat} {A : Option Addr} {c : Nat} (x y : Int) (wd ht : Int) (n : Nat) (F : Nat → Nat → Bool) (p : Nat → Nat) (w : World) (hW0 : 1 ≤ W) (hW : W ≤ 64) (hH0 : 1 ≤ H) (hH : H ≤ 64) (h1 : ¬ x < 1) (h2 : y < 1) :
    Calls Try.prog 51 #[.agg #[.int .i64 (W : Nat), .int .i64 (H : Nat), .slice A (W * H) c], .int .i64 x, .int .i64 y] w (UR w wd ht n F 0 0 p 26) := by
  have HK := Lib.hid (fun u => chk_valid A c u hW0 hW hH0 hH)
  have y1 : ((0 : Int) != 0) = false := rfl
  generalize W * H = M at *
  have y2 : decide (x < 1) = false := decide_eq_false h1
  have y3 : decide (y < 1) = true := decide_eq_true h2
  have LB0 := Lib.hid (Below.refl w.heap.size w)
  have X1 := Lib.hid (Box.new w (W : Nat) (H : Nat) (.slice A M c))
  have LB0 := Lib.hid (LB0.out.alloc LB0.out.size (.cells #[.int .i64 (W : Nat), .int .i64 (H : Nat), .slice A M c] 24))
  go_enter Try.func51, Try.ntmps51
  go_upto_region 1 with (fail)
  generalize w.alloc (.cells #[.int .i64 (W : Nat), .int .i64 (H : Nat), .slice A M c] 24) = w0 at *
  obtain ⟨q0, q1, q2, q3, q4, q5, q6⟩ := X1.out.all
  go_wp2_with fail
  clear q0 q1 q2 q3 q4 q5 q6
  with_reducible refine Calls.mono (HK.out _) ?_
  rintro e w1 ⟨rfl, hb⟩
  have LB1 := Lib.hid (LB0.out.trans (hb.mono LB0.out.size))
  have X1 := Lib.hid (X1.out.below hb X1.out.lt)
  clear hb LB0 
  obtain ⟨q0, q1, q2, q3, q4, q5, q6⟩ := X1.out.all
  go_wp2
  refine bodyPost_ret (v := .tuple #[.slice none 0 0, .slice none 0 0, .int .i64 26]) (by simp [results, Try.results51, go_sem]) rfl ?_
  exact UR.nil LB1.out
set_option maxHeartbeats 800000 in
theorem units_c3 {W H : Nat} {A : Option Addr} {c : Nat} (x y : Int) (wd ht : Int) (n : Nat) (F : Nat → Nat → Bool) (p : Nat → Nat) (w : World) (hW0 : 1 ≤ W) (hW : W ≤ 64) (hH0 : 1 ≤ H) (hH : H ≤ 64) (h1 : ¬ x < 1) (h2 : ¬ y < 1) (h3 : (W : Int) % x ≠ 0) :
    Calls Try.prog 51 #[.agg #[.int .i64 (W : Nat), .int .i64 (H : Nat), .slice A (W * H) c], .int .i64 x, .int .i64 y] w (UR w wd ht n F 0 0 p 26) := by
  have HK := Lib.hid (fun u => chk_valid A c u hW0 hW hH0 hH)
  have y1 : ((0 : Int) != 0) = false := rfl
  generalize W * H = M at *
  have y2 : decide (x < 1) = false := decide_eq_false h1
  have y3 : decide (y < 1) = false := decide_eq_false h2
  have y5a : ((W : Nat) : Int).tmod x = ((W : Nat) : Int) % x := Int.tmod_eq_emod_of_nonneg (by omega)
  have y6a : ((((W : Nat) : Int) % x) != 0) = true := by rw [bne_iff_ne]; exact h3
  have y7a : ¬ x = 0 := by omega
  have y4a : (x == 0) = false := by rw [beq_eq_false_iff_ne]; omega
  have y8a : 0 ≤ ((W : Nat) : Int) % x := Int.emod_nonneg _ y7a
  have y9a : ((W : Nat) : Int) % x < 100001 := by
    have a1 := Int.mul_ediv_add_emod (W : Int) x
    have a2 : 0 ≤ (W : Int) / x := Int.ediv_nonneg (by omega) (by omega)
    have a3 : 0 ≤ x * ((W : Int) / x) := Int.mul_nonneg (by omega) a2
    omega
  have LB0 := Lib.hid (Below.refl w.heap.size w)
  have X1 := Lib.hid (Box.new w (W : Nat) (H : Nat) (.slice A M c))
  have LB0 := Lib.hid (LB0.out.alloc LB0.out.size (.cells #[.int .i64 (W : Nat), .int .i64 (H : Nat), .slice A M c] 24))
  go_enter Try.func51, Try.ntmps51
  go_upto_region 1 with (fail)
  generalize w.alloc (.cells #[.int .i64 (W : Nat), .int .i64 (H : Nat), .slice A M c] 24) = w0 at *
  obtain ⟨q0, q1, q2, q3, q4, q5, q6⟩ := X1.out.all
  go_wp2_with fail
  clear q0 q1 q2 q3 q4 q5 q6
  with_reducible refine Calls.mono (HK.out _) ?_
  rintro e w1 ⟨rfl, hb⟩
  have LB1 := Lib.hid (LB0.out.trans (hb.mono LB0.out.size))
  have X1 := Lib.hid (X1.out.below hb X1.out.lt)
  clear hb LB0 
  obtain ⟨q0, q1, q2, q3, q4, q5, q6⟩ := X1.out.all
  go_wp2
  refine bodyPost_ret (v := .tuple #[.slice none 0 0, .slice none 0 0, .int .i64 26]) (by simp [results, Try.results51, go_sem]) rfl ?_
  exact UR.nil LB1.out
set_option maxHeartbeats 800000 in
theorem units_c4 {W H : Nat} {A : Option Addr} {c : Nat} (x y : Int) (wd ht : Int) (n : Nat) (F : Nat → Nat → Bool) (p : Nat → Nat) (w : World) (hW0 : 1 ≤ W) (hW : W ≤ 64) (hH0 : 1 ≤ H) (hH : H ≤ 64) (h1 : ¬ x < 1) (h2 : ¬ y < 1) (h3 : (W : Int) % x = 0) (h4 : (H : Int) % y ≠ 0) :
    Calls Try.prog 51 #[.agg #[.int .i64 (W : Nat), .int .i64 (H : Nat), .slice A (W * H) c], .int .i64 x, .int .i64 y] w (UR w wd ht n F 0 0 p 26) := by
  have HK := Lib.hid (fun u => chk_valid A c u hW0 hW hH0 hH)
  have y1 : ((0 : Int) != 0) = false := rfl
  generalize W * H = M at *
  have y2 : decide (x < 1) = false := decide_eq_false h1
  have y3 : decide (y < 1) = false := decide_eq_false h2
  have y5a : ((W : Nat) : Int).tmod x = ((W : Nat) : Int) % x := Int.tmod_eq_emod_of_nonneg (by omega)
  have y6a : ((((W : Nat) : Int) % x) != 0) = false := by rw [h3]; rfl
  have y7a : ¬ x = 0 := by omega
  have y4a : (x == 0) = false := by rw [beq_eq_false_iff_ne]; omega
  have y8a : 0 ≤ ((W : Nat) : Int) % x := Int.emod_nonneg _ y7a
  have y9a : ((W : Nat) : Int) % x < 100001 := by
    have a1 := Int.mul_ediv_add_emod (W : Int) x
    have a2 : 0 ≤ (W : Int) / x := Int.ediv_nonneg (by omega) (by omega)
    have a3 : 0 ≤ x * ((W : Int) / x) := Int.mul_nonneg (by omega) a2
    omega
  have y5b : ((H : Nat) : Int).tmod y = ((H : Nat) : Int) % y := Int.tmod_eq_emod_of_nonneg (by omega)
  have y6b : ((((H : Nat) : Int) % y) != 0) = true := by rw [bne_iff_ne]; exact h4
  have y7b : ¬ y = 0 := by omega
  have y4b : (y == 0) = false := by rw [beq_eq_false_iff_ne]; omega
  have y8b : 0 ≤ ((H : Nat) : Int) % y := Int.emod_nonneg _ y7b
  have y9b : ((H : Nat) : Int) % y < 100001 := by
    have a1 := Int.mul_ediv_add_emod (H : Int) y
    have a2 : 0 ≤ (H : Int) / y := Int.ediv_nonneg (by omega) (by omega)
    have a3 : 0 ≤ y * ((H : Int) / y) := Int.mul_nonneg (by omega) a2
    omega
  have LB0 := Lib.hid (Below.refl w.heap.size w)
  have X1 := Lib.hid (Box.new w (W : Nat) (H : Nat) (.slice A M c))
  have LB0 := Lib.hid (LB0.out.alloc LB0.out.size (.cells #[.int .i64 (W : Nat), .int .i64 (H : Nat), .slice A M c] 24))
  go_enter Try.func51, Try.ntmps51
  go_upto_region 1 with (fail)
  generalize w.alloc (.cells #[.int .i64 (W : Nat), .int .i64 (H : Nat), .slice A M c] 24) = w0 at *
  obtain ⟨q0, q1, q2, q3, q4, q5, q6⟩ := X1.out.all
  go_wp2_with fail
  clear q0 q1 q2 q3 q4 q5 q6
  with_reducible refine Calls.mono (HK.out _) ?_
  rintro e w1 ⟨rfl, hb⟩
  have LB1 := Lib.hid (LB0.out.trans (hb.mono LB0.out.size))
  have X1 := Lib.hid (X1.out.below hb X1.out.lt)
  clear hb LB0 
  obtain ⟨q0, q1, q2, q3, q4, q5, q6⟩ := X1.out.all
  go_wp2
  refine bodyPost_ret (v := .tuple #[.slice none 0 0, .slice none 0 0, .int .i64 26]) (by simp [results, Try.results51, go_sem]) rfl ?_
  exact UR.nil LB1.out
end Go.Proofs.Ytngjcekjboedjaa
