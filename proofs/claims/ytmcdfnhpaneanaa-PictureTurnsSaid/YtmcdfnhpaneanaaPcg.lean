/- Choices of the program. -/
import Derived.Test.YtmcdfnhpaneanaaPch
namespace Go.Proofs.Ytmcdfnhpaneanaa
open Go.RowKit
set_option maxRecDepth 100000
set_option linter.unusedVariables false
set_option linter.unusedSimpArgs false

theorem Try.info22 : (Try.prog.info? 22).map (fun i => (i.zero, i.size, i.bytes)) = some (some (.slice none 0 0), 1, 24) := by kernel_rfl
/-- The value v is a list of numbers that lies. -/
def ChL (w : World) (v : Value) (l : List Nat) : Prop := ∃ A c, v = .slice A l.length c ∧ (0 < l.length → ∃ k, A = some ⟨k, 0, none⟩ ∧ L2.Row w k l.length (lf l))
theorem ChL.below {w w' : World} {v : Value} {l : List Nat} (h : ChL w v l) (hb : Below w.heap.size w w') : ChL w' v l := by
  obtain ⟨A, c, e, hr⟩ := h
  exact ⟨A, c, e, fun h0 => by obtain ⟨k, e1, hr⟩ := hr h0; exact ⟨k, e1, hr.below hb hr.lt⟩⟩
theorem ChL.grown {w w' : World} {v : Value} {l : List Nat} {row : Option Nat} (h : ChL w v l) (hg : w.grownBy w' row) (hr : ∀ g, row = some g → ∃ cur, w.heap[g]? = some (.cells cur 22 (0, 0))) : ChL w' v l := by
  obtain ⟨A, c, e, hh⟩ := h
  refine ⟨A, c, e, fun h0 => ?_⟩
  obtain ⟨k, e1, cs, h1, h2⟩ := hh h0
  refine ⟨k, e1, cs, (hg.block k (Array.getElem?_eq_some_iff.1 h1).1 fun e2 => ?_).trans h1, h2⟩
  obtain ⟨cur, h3⟩ := hr k e2.symm
  rw [h1] at h3
  cases h3
def vals (n : Nat) (F : Nat → Value) : List Value := (List.range n).map F
theorem vals_succ (n : Nat) (F : Nat → Value) : vals (n + 1) F = vals n F ++ [F n] := by unfold vals; rw [List.range_succ, List.map_append]; rfl
theorem vals_len (n : Nat) (F : Nat → Value) : (vals n F).length = n := by simp [vals]
theorem vals_congr {n : Nat} {F G : Nat → Value} (h : ∀ i, i < n → F i = G i) : vals n F = vals n G := List.map_congr_left fun i hi => h i (List.mem_range.1 hi)
/-- A list of lists of the call's own. -/
def OL (w : World) (base : Nat) (v : Value) (n : Nat) (L : Nat → List Nat) : Prop := ∃ F : Nat → Value, w.ownsRow base 22 1 v n (vals n F) ∧ ∀ i, i < n → ChL w (F i) (L i)
theorem OL.nil (w : World) (base : Nat) (L : Nat → List Nat) : OL w base (.slice none 0 0) 0 L := ⟨fun _ => undef, World.ownsRow_nil _ _ _ _, fun i h => absurd h (by omega)⟩
theorem OL.below {w w' : World} {base n : Nat} {v : Value} {L : Nat → List Nat} (h : OL w base v n L) (hb : Below w.heap.size w w') : OL w' base v n L := by
  obtain ⟨F, h1, h2⟩ := h
  exact ⟨F, orow_keep h1 fun k _ hk => hb.block k (orow_block h1 hk).2.1, fun i hi => (h2 i hi).below hb⟩
theorem OL.other {w w' : World} {base n g : Nat} {v : Value} {L : Nat → List Nat} {row : Option Nat} (h : OL w base v n L) (hg : w.grownBy w' row) (hr : ∀ g, row = some g → (∃ cur, w.heap[g]? = some (.cells cur 22 (0, 0))) ∧ v.ownBlock ≠ some g) : OL w' base v n L := by
  obtain ⟨F, h1, h2⟩ := h
  exact ⟨F, orow_keep h1 fun k _ hk => hg.block k (orow_block h1 hk).2.1 fun e => (hr k e.symm).2 hk, fun i hi => (h2 i hi).grown hg fun g e => (hr g e).1⟩
/-- 'append(s, l)': a list more. -/
theorem appL {ops : Array Oper} {rest : List Oper} {o : Oper} {a : Act} {Q : Exit → Act → World → Prop} (w : World) (hgd : o.guard = none) (s x : Operand)
    (ho : o.op = .call { callee := .builtin .append, args := #[s, x], argTypes := #[52, 52] }) (base : Nat) {v y : Value} {n : Nat} {L : Nat → List Nat} (hs : a.eval s = v) (hown : OL w base v n L)
    (hx : a.eval x = .slice (some ⟨w.heap.size, 0, none⟩) 1 1) (hy : ChL w y (L n)) (hn : n ≤ 100000) (hb : base ≤ w.heap.size)
    (h : ∀ v' w', OL w' base v' (n + 1) L → (∀ b2 u m M, OL w b2 u m M → (∀ g, v.ownBlock = some g → u.ownBlock ≠ some g) → OL w' b2 u m M ∧ (∀ g, v'.ownBlock = some g → u.ownBlock ≠ some g)) → Below base w w' → wpList Try.prog ops Q rest (a.put o.dst v') w') :
    wpList Try.prog ops Q (o :: rest) a (w.alloc (.cells #[y] 22)) := by
  obtain ⟨i0, hi, hz0, hz1, hz2⟩ := info_parts Try.info22
  obtain ⟨F, h1, h2⟩ := hown
  obtain ⟨Ay, cy, ey, hry⟩ := hy
  have hb1 := bel_alloc w (.cells #[y] 22)
  have h1' : (w.alloc (.cells #[y] 22)).ownsRow base 22 1 v n (vals n F) := orow_keep h1 fun k _ hk => hb1.block k (orow_block h1 hk).2.1
  refine wpList_append_own_at _ hgd s x 52 ho base 22 i0 (.slice none 0 0) 1 24 Try.underlying52 hi hz0 hz1 hz2 rfl (by decide) v n _ hs h1' ⟨w.heap.size, 0, none⟩ 1 1 [y] hx rfl (fun j u hj => by
      match j, hj with
      | 0, hj =>
        simp at hj; subst hj
        exact (Lib.cell_of_heap (World.alloc_heap_new w (.cells #[y] 22)) 0).trans rfl) (by intro u hu; simp at hu; rw [hu, ey]; rfl)
    (by unfold maxLen; omega) (by omega) (by simp; omega) ?_
  intro v' w' ho' hg _ hat
  have hgb : ∀ g, v.ownBlock = some g → base ≤ g ∧ ∃ cur, (w.alloc (.cells #[y] 22)).heap[g]? = some (.cells cur 22 (0, 0)) := fun g e => by
    obtain ⟨q1, _, cur, q2⟩ := orow_block h1' e
    exact ⟨q1, cur, q2⟩
  refine h v' w' ⟨fun i => if i < n then F i else y, ?_, fun i hi => ?_⟩ (fun b2 u m M hu hne => ?_) ?_
  · rw [vals_succ, vals_congr (G := F) fun i hi => if_pos hi, if_neg (by omega)]
    exact ho'
  · have hc : ChL w (if i < n then F i else y) (L i) := by
      by_cases e : i < n
      · rw [if_pos e]; exact h2 i e
      · rw [if_neg e, show i = n by omega]; exact ⟨Ay, cy, ey, hry⟩
    exact (hc.below hb1).grown hg fun g e => (hgb g e).2
  · obtain ⟨Fu, u1, u2⟩ := hu
    have hu1 := OL.below (show OL w b2 u m M from ⟨Fu, u1, u2⟩) hb1
    refine ⟨hu1.other (g := 0) hg fun g e => ⟨(hgb g e).2, hne g e⟩, fun g e e2 => ?_⟩
    rcases hat with hat | hat
    · exact hne g (by rw [← hat]; exact e) e2
    · rw [hat] at e
      obtain ⟨_, hl, _⟩ := orow_block u1 e2
      have := Option.some.inj e
      simp at this
      omega
  · exact Below.grown ((Below.refl _ _).alloc hb _) hg (by simp; omega) fun k hk => (hgb k hk).1
/-- A list of lists came back. -/
def LLo (w : World) (A : Option Addr) (n : Nat) (L : Nat → List Nat) : Prop :=
  0 < n → ∃ b, A = some ⟨b, 0, none⟩ ∧ b < w.heap.size ∧ ∀ i, i < n → ∃ A' c', w.cell? ⟨b, i, none⟩ = some (.slice A' (L i).length c') ∧ L2.Holds w w.heap.size A' (L i).length (lf (L i))
theorem LLo.below {w w' : World} {A : Option Addr} {n : Nat} {L : Nat → List Nat} (h : LLo w A n L) (hb : Below w.heap.size w w') : LLo w' A n L := fun h0 => by
  obtain ⟨b, e, hl, hc⟩ := h h0
  refine ⟨b, e, Nat.lt_of_lt_of_le hl hb.size, fun i hi => ?_⟩
  obtain ⟨A', c', h1, h2⟩ := hc i hi
  exact ⟨A', c', (hb.cell (p := ⟨b, i, none⟩) hl).trans h1, (h2.below hb).more hb.size⟩
theorem OL.out {w : World} {base n : Nat} {v : Value} {L : Nat → List Nat} (h : OL w base v n L) : ∃ A c, v = .slice A n c ∧ LLo w A n L := by
  obtain ⟨F, h1, h2⟩ := h
  rcases h1.2 with ⟨hv, hn⟩ | ⟨g, cap, cur, hv, hg, hc, hcap, hsz, hcur⟩
  · exact ⟨none, 0, by rw [hv, hn], fun h0 => by omega⟩
  · refine ⟨_, _, hv, fun h0 => ⟨g, rfl, (Array.getElem?_eq_some_iff.1 hc).1, fun i hi => ?_⟩⟩
    obtain ⟨A', c', e, hr⟩ := h2 i hi
    refine ⟨A', c', ?_, fun hl => by obtain ⟨k, e1, hrow⟩ := hr hl; subst e1; exact hrow.holds hrow.lt hl⟩
    rw [Lib.cell_of_heap hc, ← e]
    have h3 := congrArg (fun l : List Value => l[i]?) hcur.2
    simp only [Nat.mul_one] at h3
    rw [List.getElem?_take, if_pos hi] at h3
    rw [← Array.getElem?_toList, h3]
    unfold vals
    rw [List.getElem?_map, List.getElem?_range hi]
    rfl
/-- What 'Choices' hands back. -/
def ChoR (W H : Nat) (f : Nat → Int) (w : World) (e : Ending) (w' : World) : Prop :=
  (∃ p A1 c1 A2 c2, e = .returned (.tuple #[.slice A1 W c1, .slice A2 H c2, .int .i64 0]) ∧ Fst W H f p ∧ LLo w' A1 W (fun x => chl W H f x 16) ∧ LLo w' A2 H (fun y => chl W H f (W + y) 16) ∧ Below w.heap.size w w') ∨
  (e = .returned (.tuple #[.slice none 0 0, .slice none 0 0, .int .i64 6]) ∧ NoFit W H f ∧ Below w.heap.size w w')
set_option maxHeartbeats 800000 in
theorem choices_err (W H : Int) (A : Option Addr) (n c : Nat) (f : Nat → Int) (w : World) (hf : L2.Holds w w.heap.size A n f) (hz : ick W H n f = 8) :
    Calls Try.prog 25 #[.agg #[.int .i64 W, .int .i64 H, .slice A n c]] w fun e w' => e = .returned (.tuple #[.slice none 0 0, .slice none 0 0, .int .i64 8]) ∧ Below w.heap.size w w' := by
  have HC := Lib.hid (fun u (hb : Below w.heap.size w u) => first_err W H A n c f u ((hf.below hb).more hb.size) hz)
  clear hf hz
  have LB0 := Lib.hid (Below.refl w.heap.size w)
  have X1 := IBox.new w W H (.slice A n c)
  have X1 := Lib.hid X1
  have LB0 := Lib.hid (LB0.out.alloc LB0.out.size (.cells #[.int .i64 W, .int .i64 H, .slice A n c] 24))
  go_enter Try.func25, Try.ntmps25
  go_upto_region 1 with (fail)
  generalize w.alloc (.cells #[.int .i64 W, .int .i64 H, .slice A n c] 24) = w0 at *
  obtain ⟨q0, q1, q2, q3, q4, q5, q6⟩ := X1.out.all
  go_wp2_with fail
  clear q0 q1 q2 q3 q4 q5 q6
  with_reducible refine Calls.mono (HC.out _ LB0.out) ?_
  rintro e w1 ⟨rfl, hb⟩
  have LB1 := Lib.hid (LB0.out.trans (hb.mono LB0.out.size))
  have X1 := Lib.hid (X1.out.below hb X1.out.lt)
  clear hb LB0 
  go_wp2
  refine bodyPost_ret (v := .tuple #[.slice none 0 0, .slice none 0 0, .int .i64 8]) (by simp [results, Try.results25, go_sem]) rfl ?_
  exact ⟨rfl, LB1.out⟩
set_option maxHeartbeats 3200000 in
theorem choices_ok (W H : Nat) (A : Option Addr) (c : Nat) (f : Nat → Int) (w : World) (hW0 : 1 ≤ W) (hW : W ≤ 64) (hH0 : 1 ≤ H) (hH : H ≤ 64) (hf : L2.Holds w w.heap.size A (W * H) f) (hfi : fine (W * H) f = true) :
    Calls Try.prog 25 #[.agg #[.int .i64 (W : Nat), .int .i64 (H : Nat), .slice A (W * H) c]] w (ChoR W H f w) := by
  have HC := Lib.hid (fun u (hb : Below w.heap.size w u) => first_ok W H A c f u hW0 hW hH0 hH ((hf.below hb).more hb.size) hfi)
  have HT := Lib.hid (fun u (hb : Below w.heap.size w u) p t (ht : t < W + H) (hs : Fst W H f p) => chat_any W H A c f p t u hW0 hW hH0 hH ((hf.below hb).more hb.size) (fun i hi => fine_of hfi i hi) ht hs)
  clear hf hfi
  have z0 : ((0 : Int) != 0) = false := rfl
  have z6 : ((6 : Int) != 0) = true := rfl
  have LB0 := Lib.hid (Below.refl w.heap.size w)
  have X1 := IBox.new w (W : Nat) (H : Nat) (.slice A (W * H) c)
  have X1 := Lib.hid X1
  have LB0 := Lib.hid (LB0.out.alloc LB0.out.size (.cells #[.int .i64 (W : Nat), .int .i64 (H : Nat), .slice A (W * H) c] 24))
  go_enter Try.func25, Try.ntmps25
  go_upto_region 1 with (fail)
  generalize w.alloc (.cells #[.int .i64 (W : Nat), .int .i64 (H : Nat), .slice A (W * H) c] 24) = w0 at *
  obtain ⟨q0, q1, q2, q3, q4, q5, q6⟩ := X1.out.all
  go_wp2_with fail
  clear q0 q1 q2 q3 q4 q5 q6
  with_reducible refine Calls.mono (HC.out _ LB0.out) ?_
  rintro e w1 (⟨p, A1, c1, A2, c2, rfl, hs, _, _, hb⟩ | ⟨rfl, hno, hb⟩)
  case inr =>
    have HNO := Lib.hid hno
    have LB1 := Lib.hid (LB0.out.trans (hb.mono LB0.out.size))
    clear hb hno
    go_wp2
    refine bodyPost_ret (v := .tuple #[.slice none 0 0, .slice none 0 0, .int .i64 6]) (by simp [results, Try.results25, go_sem]) rfl ?_
    exact .inr ⟨rfl, HNO.out, LB1.out⟩
  case inl =>
  have X1 := Lib.hid (X1.out.below hb X1.out.lt)
  have LB1 := Lib.hid (LB0.out.trans (hb.mono LB0.out.size))
  have HS := Lib.hid hs
  clear hb hs LB0
  obtain ⟨q0, q1, q2, q3, q4, q5, q6⟩ := X1.out.all
  go_wp2
  clear q0 q1 q2 q3 q4 q5 q6
  go_loopw [2, 21] (fun vo i wr => ∃ (x : Nat), x ≤ W ∧ i = .int .i64 (x : Nat) ∧ Hid (OL wr (w.heap.size + 1) vo x (fun x => chl W H f x 16)) ∧ Hid (IBox wr w.heap.size (W : Nat) (H : Nat) (.slice A (W * H) c)) ∧ Hid (Below w.heap.size w wr)) (fun _ i _ => W - (intOf i).toNat)
  case atStart => exact ⟨0, Nat.zero_le _, rfl, Lib.hid (OL.nil _ _ _), X1, LB1⟩
  case round =>
    obtain ⟨x, hx, rfl, HO, HX, HB⟩ := hrel
    clear X1 LB1
    by_cases hlt : x < W
    · have y1 : (x : Int) < (W : Int) := by omega
      have HCC := Lib.hid (HT.out _ HB.out p x (by omega) HS.out)
      obtain ⟨q0, q1, q2, q3, q4, q5, q6⟩ := HX.out.all
      go_wp2_with fail
      clear q0 q1 q2 q3 q4 q5 q6
      with_reducible refine Calls.mono HCC.out ?_
      rintro e w5 ⟨A5, c5, rfl, hl5, hb⟩
      have HX5 := Lib.hid (HX.out.below hb HX.out.lt)
      have HB5 := Lib.hid (HB.out.trans (hb.mono HB.out.size))
      have HO5 := Lib.hid (HO.out.below hb)
      have HY5 := Lib.hid (show ChL w5 (.slice A5 (chl W H f x 16).length c5) (chl W H f x 16) from ⟨A5, c5, rfl, hl5⟩)
      have hsz5 : w.heap.size + 1 ≤ w5.heap.size := HX5.out.lt
      clear hb hl5 HX HB HO HCC
      go_wp2_with (at_builtin; refine appL _ rfl _ _ (by rfl) (w.heap.size + 1) (by rfl) HO5.out (by rfl) HY5.out (by omega) hsz5 ?_; intro v' w6 hown6 _ hb6; have HO6 := Lib.hid hown6; have HB6 := Lib.hid hb6; clear hown6 hb6)
      go_roundw
      case rel => exact ⟨x + 1, by omega, by go_num, HO6, Lib.hid (HX5.out.below HB6.out (by omega)), Lib.hid (HB5.out.trans (HB6.out.mono (by omega)))⟩
      case measure => simp [intOf]; omega
    · have e : x = W := by omega
      have HE1 := Lib.hid (show OL wr (w.heap.size + 1) u2 W (fun x => chl W H f x 16) from by have h := HO.out; simp only [e] at h; exact h)
      clear HO e
      obtain ⟨q0, q1, q2, q3, q4, q5, q6⟩ := HX.out.all
      have y1 : ¬ (x : Int) < (W : Int) := by omega
      go_wp2
      clear q0 q1 q2 q3 q4 q5 q6
      go_loopw [3, 33] (fun vo i wr => ∃ (y : Nat), y ≤ H ∧ i = .int .i64 (y : Nat) ∧ Hid (OL wr (w.heap.size + 1) vo y (fun y => chl W H f (W + y) 16)) ∧ Hid (OL wr (w.heap.size + 1) u2 W (fun x => chl W H f x 16)) ∧ Hid (∀ g, vo.ownBlock = some g → u2.ownBlock ≠ some g) ∧ Hid (IBox wr w.heap.size (W : Nat) (H : Nat) (.slice A (W * H) c)) ∧ Hid (Below w.heap.size w wr)) (fun _ i _ => H - (intOf i).toNat)
      case atStart => exact ⟨0, Nat.zero_le _, rfl, Lib.hid (OL.nil _ _ _), HE1, Lib.hid (fun g h => by cases h), HX, HB⟩
      case round =>
        obtain ⟨y, hy, rfl, HO, HP, HA, HX2, HB2⟩ := hrel
        clear HX HB HE1
        by_cases hlt2 : y < H
        · have y2 : (y : Int) < (H : Int) := by omega
          have y3 : IntKind.i64.wrap ((W : Int) + (y : Int)) = (W : Int) + (y : Int) := IntWalk.i64_in _ (by omega)
          have HCC := Lib.hid (HT.out _ HB2.out p (W + y) (by omega) HS.out)
          rw [Int.natCast_add] at HCC
          obtain ⟨q0, q1, q2, q3, q4, q5, q6⟩ := HX2.out.all
          go_wp2_with fail
          clear q0 q1 q2 q3 q4 q5 q6
          with_reducible refine Calls.mono HCC.out ?_
          rintro e w5 ⟨A5, c5, rfl, hl5, hb⟩
          have HX5 := Lib.hid (HX2.out.below hb HX2.out.lt)
          have HB5 := Lib.hid (HB2.out.trans (hb.mono HB2.out.size))
          have HO5 := Lib.hid (HO.out.below hb)
          have HP5 := Lib.hid (HP.out.below hb)
          have HY5 := Lib.hid (show ChL w5 (.slice A5 (chl W H f (W + y) 16).length c5) (chl W H f (W + y) 16) from ⟨A5, c5, rfl, hl5⟩)
          have hsz5 : w.heap.size + 1 ≤ w5.heap.size := HX5.out.lt
          clear hb hl5 HX2 HB2 HO HP HCC
          go_wp2_with (at_builtin; refine appL _ rfl _ _ (by rfl) (w.heap.size + 1) (by rfl) HO5.out (by rfl) HY5.out (by omega) hsz5 ?_; intro v' w6 hown6 hap6 hb6; have HO6 := Lib.hid hown6; have HP6 := Lib.hid (hap6 _ _ _ _ HP5.out HA.out); have HB6 := Lib.hid hb6; clear hown6 hb6 hap6)
          go_roundw
          case rel => exact ⟨y + 1, by omega, by go_num, HO6, Lib.hid HP6.out.1, Lib.hid HP6.out.2, Lib.hid (HX5.out.below HB6.out (by omega)), Lib.hid (HB5.out.trans (HB6.out.mono (by omega)))⟩
          case measure => simp [intOf]; omega
        · have e : y = H := by omega
          have HE2 := Lib.hid (show OL wr (w.heap.size + 1) u3 H (fun y => chl W H f (W + y) 16) from by have h := HO.out; simp only [e] at h; exact h)
          clear HO e
          have y2 : ¬ (y : Int) < (H : Int) := by omega
          obtain ⟨A8, c8, e8, hl8⟩ := HP.out.out
          obtain ⟨A9, c9, e9, hl9⟩ := HE2.out.out
          have H8 := Lib.hid hl8
          have H9 := Lib.hid hl9
          subst e8 e9
          clear hl8 hl9 HE2 HP HA
          go_wp2
          refine bodyPost_ret (v := .tuple #[.slice A8 W c8, .slice A9 H c9, .int .i64 0]) (by simp [results, Try.results25, go_sem]) rfl ?_
          exact .inl ⟨p, A8, c8, A9, c9, rfl, HS.out, H8.out, H9.out, HB2.out⟩
end Go.Proofs.Ytmcdfnhpaneanaa
