/- The reference: the table of what holds, free, the parts. -/
import Derived.Test.YtchbbphokpmacaaLoc
import Derived.Test.YtchbbphokpmacaaLfa
import Derived.Test.YtchbbphokpmacaaLpp
namespace Go.Proofs.Ytchbbphokpmacaa
open Go.RowKit
set_option maxRecDepth 100000
set_option linter.unusedVariables false
set_option linter.unusedSimpArgs false

theorem But.set {k o : Nat} {w : World} {v : Value} : But k w (w.setCell ⟨k, o, none⟩ v) := ⟨rfl, rfl, rfl, by simp [World.setCell], fun b hb hne => Below.heap_setCell _ _ _ _ hne⟩
/-- A row of bools in a list of rows. -/
def BE (w : World) (N : Nat) (xs : List Value) (i : Nat) (f : Nat → Bool) : Prop := ∃ k, xs[i]? = some (.slice (some ⟨k, 0, none⟩) N N) ∧ Row w k N f
theorem Row.keep {w w' : World} {k N : Nat} {f : Nat → Bool} (h : Row w k N f) (hb : ∀ (b : Nat) (cs : Array Value), w.heap[b]? = some (Obj.cells cs 4 (0, 0)) → w'.heap[b]? = w.heap[b]?) : Row w' k N f := by
  obtain ⟨cs, h1, h2, h3⟩ := h
  exact ⟨cs, (hb k cs h1).trans h1, h2, h3⟩
theorem BE.keep {w w' : World} {N i : Nat} {xs ys : List Value} {f : Nat → Bool} (h : BE w N xs i f) (hb : ∀ (b : Nat) (cs : Array Value), w.heap[b]? = some (Obj.cells cs 4 (0, 0)) → w'.heap[b]? = w.heap[b]?) : BE w' N (xs ++ ys) i f := by
  obtain ⟨k, h1, h2⟩ := h
  exact ⟨k, by rw [List.getElem?_append_left (by exact (List.getElem?_eq_some_iff.1 h1).1)]; exact h1, h2.keep hb⟩
/-- Rows of bools. -/
def BTs (w : World) (D : Option Addr) (N : Nat) (f : Nat → Nat → Bool) : Prop :=
  0 < N → ∃ b, D = some ⟨b, 0, none⟩ ∧ b < w.heap.size ∧ ∀ i, i < N → ∃ k, w.cell? ⟨b, i, none⟩ = some (.slice (some ⟨k, 0, none⟩) N N) ∧ Row w k N (f i)
theorem BTs.below {w w' : World} {D : Option Addr} {N : Nat} {f : Nat → Nat → Bool} (h : BTs w D N f) (hb : Below w.heap.size w w') : BTs w' D N f := fun h0 => by
  obtain ⟨b, e, h1, h2⟩ := h h0
  refine ⟨b, e, Nat.lt_of_lt_of_le h1 hb.size, fun i hi => ?_⟩
  obtain ⟨k, h3, h4⟩ := h2 i hi
  exact ⟨k, (hb.cell (p := ⟨b, i, none⟩) h1).trans h3, h4.below hb h4.lt⟩
theorem bts_of {w : World} {base N : Nat} {v : Value} {xs : List Value} {f : Nat → Nat → Bool} {A : Option Addr} {c : Nat} (hv : v = .slice A N c) (h : w.ownsRow base 22 1 v N xs) (he : ∀ i, i < N → BE w N xs i (f i)) : BTs w A N f := by
  intro h0
  rcases h with ⟨hl, ⟨hv', hn⟩ | ⟨g, cap, cur, hv', hg, hc, hcap, hm, hsz, ht⟩⟩
  · omega
  · rw [hv] at hv'
    cases hv'
    refine ⟨g, rfl, (Array.getElem?_eq_some_iff.1 hc).1, fun i hi => ?_⟩
    obtain ⟨k, h1, h2⟩ := he i hi
    refine ⟨k, ?_, h2⟩
    rw [Lib.cell_of_heap hc]
    have h3 := h1
    rw [← ht, List.getElem?_take] at h3
    split at h3
    · simpa using h3
    · cases h3
theorem Try.info22 : (Try.prog.info? 22).map (fun i => (i.zero, i.size, i.bytes)) = some (some (.slice none 0 0), 1, 24) := by kernel_rfl
/-- 'append(s, y)' onto a slice of rows of bools. -/
theorem bt_app {ops : Array Oper} {rest : List Oper} {o : Oper} {a : Act} {Q : Exit → Act → World → Prop} (w : World) (hgd : o.guard = none) (s x : Operand)
    (ho : o.op = .call { callee := .builtin .append, args := #[s, x], argTypes := #[110, 110] }) (base : Nat) {v : Value} {n : Nat} {xs : List Value} (hs : a.eval s = v) (hown : w.ownsRow base 22 1 v n xs)
    (D : Option Addr) (m c : Nat) (hx : a.eval x = .slice (some ⟨w.heap.size, 0, none⟩) 1 1) (hn : n ≤ 100000) (hb : base ≤ w.heap.size)
    (h : ∀ v' w', w'.ownsRow base 22 1 v' (n + 1) (xs ++ [.slice D m c]) → Below base w w' → (∀ (b : Nat) (cs : Array Value), w.heap[b]? = some (Obj.cells cs 4 (0, 0)) → w'.heap[b]? = w.heap[b]?) → wpList Try.prog ops Q rest (a.put o.dst v') w') :
    wpList Try.prog ops Q (o :: rest) a (w.alloc (.cells #[.slice D m c] 22)) := by
  obtain ⟨i0, hi, hz0, hz1, hz2⟩ := info_parts Try.info22
  have hown' : (w.alloc (.cells #[.slice D m c] 22)).ownsRow base 22 1 v n xs := orow_keep hown fun k _ hk => Below.heap_alloc w _ k (orow_block hown hk).2.1
  refine wpList_append_own_at _ hgd s x 110 ho base 22 i0 (.slice none 0 0) 1 24 Try.underlying110 hi hz0 hz1 hz2 rfl (by decide) v n xs hs hown' ⟨w.heap.size, 0, none⟩ 1 1 [.slice D m c] hx rfl (cell_one_new _ _ _) (by intro u hu; simp at hu; rw [hu]; rfl)
    (by unfold maxLen; omega) (by omega) (by simp; omega) ?_
  intro v' w' h1 h2 _ h3
  refine h v' w' h1 ?_ fun b cs hbc => ?_
  · exact Below.grown ((Below.refl _ _).alloc hb _) h2 (by simp; omega) fun k hk => (orow_block hown hk).1
  · have hbl : b < w.heap.size := (Array.getElem?_eq_some_iff.1 hbc).1
    refine (h2.block b (by simp; omega) fun e => ?_).trans (Below.heap_alloc w _ b hbl)
    obtain ⟨_, _, cur, hcur⟩ := orow_block hown e.symm
    rw [hcur] at hbc
    cases hbc
theorem orow_but {w w' : World} {base n k : Nat} {v : Value} {xs : List Value} {e : TypeId} {s : Nat} (h : w.ownsRow base e s v n xs) (hb : But k w w') (hk : ∀ b, v.ownBlock = some b → b ≠ k) : w'.ownsRow base e s v n xs :=
  orow_keep h fun b _ hv => hb.block b (orow_block h hv).2.1 (hk b hv)
set_option maxHeartbeats 3200000 in
theorem table_n (W H N : Nat) (hNN : W + H = N) (A : Option Addr) (c : Nat) (g : Nat → Bool) (w : World) (hg : Holds w w.heap.size A (W * H) g) (hW0 : 1 ≤ W) (hW : W ≤ 64) (hH0 : 1 ≤ H) (hH : H ≤ 64) :
    Calls Try.prog 136 #[.agg #[.int .i64 (W : Nat), .int .i64 (H : Nat), .slice A (W * H) c]] w fun e w' => ∃ D d, e = .returned (.slice D N d) ∧ BTs w' D N (up (ov W g) N) ∧ Below w.heap.size w w' := by
  have hN : N ≤ 128 := by omega
  have HTR := Lib.hid (fun u => rthr_any W H A (W * H) c u hW hH)
  rw [hNN] at HTR
  have HST := Lib.hid (fun u (h : Below w.heap.size w u) a (ha : a < N) => rsteps_n W H N hNN A c g a u ((hg.below h).more h.size) hW hH ha)
  have hmkb := mkb_run N (by omega)
  generalize hR : ov W g = R at *
  clear hR
  have X0 := Lib.hid (Box.new w (W : Nat) (H : Nat) (.slice A (W * H) c))
  have LB0 := Lib.hid (show Below w.heap.size w (w.alloc (.cells #[.int .i64 (W : Nat), .int .i64 (H : Nat), (.slice A (W * H) c)] 24)) from (Below.refl _ _).alloc (Nat.le_refl _) _)
  clear hg hNN
  generalize W * H = M at *
  go_enter Try.func136, Try.ntmps136
  go_wp2_with fail
  generalize w.alloc (.cells #[.int .i64 (W : Nat), .int .i64 (H : Nat), .slice A M c] 24) = w0 at *
  obtain ⟨q0, q1, q2, q3, q4, q5, q6⟩ := X0.out.all
  go_wp2_with fail
  clear q0 q1 q2 q3 q4 q5 q6
  with_reducible refine Calls.mono (HTR.out _) ?_
  rintro e w1 ⟨rfl, hb⟩
  have X1 := Lib.hid (X0.out.below hb X0.out.lt)
  have LB1 := Lib.hid (LB0.out.trans (hb.mono LB0.out.size))
  clear hb X0 LB0 HTR
  have O0 : Hid (w1.ownsRow w1.heap.size 22 1 (.slice none 0 0) 0 []) := Lib.hid (World.ownsRow_nil _ _ _ _)
  go_wp2
  go_loopw [4, 5] (fun v i wr => ∃ (a : Nat) (xs : List Value), a ≤ N ∧ i = .int .i64 a ∧ Hid (wr.ownsRow w1.heap.size 22 1 v a xs) ∧ Hid (∀ i, i < a → BE wr N xs i (up R N i)) ∧ Hid (Below w1.heap.size w1 wr)) (fun _ i _ => N - (intOf i).toNat)
  case atStart => exact ⟨0, [], Nat.zero_le _, rfl, O0, Lib.hid (fun i hi => absurd hi (by omega)), Lib.hid (Below.refl _ _)⟩
  case round =>
    obtain ⟨a, xs, ha, rfl, HO, HE, HB⟩ := hrel
    clear O0
    by_cases hlt : a < N
    · have y1 : (a : Int) < (N : Int) := by omega
      have y2 : (0 : Int) ≤ (a : Int) := by omega
      have X2 := Lib.hid (X1.out.below HB.out X1.out.lt)
      have LB2 := Lib.hid (LB1.out.trans (HB.out.mono LB1.out.size))
      obtain ⟨q0, q1, q2, q3, q4, q5, q6⟩ := X2.out.all
      go_wp2_with fail
      clear q0 q1 q2 q3 q4 q5 q6
      with_reducible refine Calls.mono (HST.out _ LB2.out a hlt) ?_
      rintro e w5 ⟨kf, rfl, hkf, hfar, hb⟩
      have HB5 := Lib.hid (HB.out.trans (hb.mono HB.out.size))
      have HO5 : Hid (w5.ownsRow w1.heap.size 22 1 _ a xs) := Lib.hid (orow_keep HO.out fun k _ hk => hb.block k (orow_block HO.out hk).2.1)
      have HE5 := Lib.hid (fun i hi => by have h9 := (HE.out i hi).keep (ys := []) (w' := w5) (fun b cs hc => hb.block b (Array.getElem?_eq_some_iff.1 hc).1); rwa [List.append_nil] at h9 : ∀ i, i < a → BE w5 N xs i (up R N i))
      have hkl := hfar.lt
      have HFA := Lib.hid (hfar.alloc (.cells (madeCells #[.bool false] N) 4))
      have RW := Lib.hid (Row.made w5 N)
      have HBA := Lib.hid (HB5.out.alloc HB5.out.size (.cells (madeCells #[.bool false] N) 4))
      have HOA : Hid ((w5.alloc (.cells (madeCells #[.bool false] N) 4)).ownsRow w1.heap.size 22 1 _ a xs) := Lib.hid (orow_keep HO5.out fun k _ hk => Below.heap_alloc w5 _ k (orow_block HO5.out hk).2.1)
      have HEA := Lib.hid (fun i hi => by have h9 := (HE5.out i hi).keep (ys := []) (w' := w5.alloc (.cells (madeCells #[.bool false] N) 4)) (fun b cs hc => Below.heap_alloc w5 _ b (Array.getElem?_eq_some_iff.1 hc).1); rwa [List.append_nil] at h9 : ∀ i, i < a → BE (w5.alloc (.cells (madeCells #[.bool false] N) 4)) N xs i (up R N i))
      have HKO := Lib.hid (fun b hv => Nat.ne_of_lt (orow_block HO5.out hv).2.1 : ∀ b, _ = some b → b ≠ w5.heap.size)
      have HKE := Lib.hid (fun i (hi : i < a) => by obtain ⟨k, h1, h2⟩ := HE5.out i hi; exact ⟨k, h1, Nat.ne_of_lt h2.lt⟩ : ∀ i, i < a → ∃ k, xs[i]? = some (.slice (some ⟨k, 0, none⟩) N N) ∧ k ≠ w5.heap.size)
      have hkb : w1.heap.size ≤ w5.heap.size := HB5.out.size
      have hkn : kf ≠ w5.heap.size := by omega
      have hka : kf < (w5.alloc (.cells (madeCells #[.bool false] N) 4)).heap.size := by simp; omega
      clear hb hfar HB HO HE HB5 HO5 HE5 X2 LB2 hkl
      go_upto_region 8 with (fail)
      generalize w5.heap.size = kb at *
      generalize w5.alloc (.cells (madeCells #[.bool false] N) 4) = wa at *
      have RW0 : Hid (Row wa kb N (fun j => if j < 0 then up R N a j else false)) := Lib.hid (RW.out.congr fun i hi => by simp)
      clear RW
      go_wp2
      go_loopw [8] (fun i wr => ∃ m : Nat, m ≤ N ∧ i = .int .i64 m ∧ Hid (Row wr kb N (fun j => if j < m then up R N a j else false)) ∧ Hid (But kb wa wr)) (fun i _ => N - (intOf i).toNat)
      case atStart => exact ⟨0, Nat.zero_le _, rfl, RW0, Lib.hid (But.of (Below.refl _ _))⟩
      case round =>
        obtain ⟨m, hm, rfl, HR, HU⟩ := hrel
        clear RW0
        by_cases hlm : m < N
        · have y3 : (m : Int) < (N : Int) := by omega
          have y4 : (0 : Int) ≤ (m : Int) := by omega
          have x1 := (HU.out.cell (b := kf) (o := m) hka hkn).trans (HFA.out.cell hlm)
          have x2 := HR.out.cell hlm
          have x3 := HR.out.free m
          have x4 := HR.out.lt
          obtain ⟨u, hu⟩ : ∃ u, far R N a m = u := ⟨_, rfl⟩
          have HTU := Lib.hid (show up R N a m = decide (0 ≤ u) by unfold up; rw [hu])
          rw [hu] at x1
          clear hu
          obtain ⟨bu, hbu⟩ : ∃ b, decide (0 ≤ u) = b := ⟨_, rfl⟩
          have HTB := Lib.hid (HTU.out.trans hbu)
          have hbu' : decide (u ≥ 0) = bu := hbu
          clear HTU
          go_wp2
          have HR2 := Lib.hid ((HR.out.set_ m bu).congr (f' := fun j => if j < m + 1 then up R N a j else false) (fun i hi => by
            by_cases e : i = m
            · rw [if_pos e, e, if_pos (by omega), HTB.out]
            · rw [if_neg e]
              by_cases h9 : i < m
              · rw [if_pos h9, if_pos (by omega)]
              · rw [if_neg h9, if_neg (by omega)]))
          go_roundw
          case rel => exact ⟨m + 1, by omega, by go_num, by simpa only [hbu, hbu'] using HR2, Lib.hid (HU.out.trans But.set)⟩
          case measure => simp [intOf]; omega
        · have e : m = N := by omega
          have y3 : ¬ (m : Int) < (N : Int) := by omega
          have HRN := Lib.hid (HR.out.congr (f' := up R N a) (fun i hi => by rw [if_pos (by omega)]))
          have HOw : Hid (wr.ownsRow w1.heap.size 22 1 _ a xs) := Lib.hid (orow_but HOA.out HU.out HKO.out)
          have HEw := Lib.hid (fun i hi => by
            obtain ⟨k, h1, h2⟩ := HEA.out i hi
            obtain ⟨k', h3, h4⟩ := HKE.out i hi
            rw [h1] at h3
            cases h3
            obtain ⟨cs, c1, c2, c3⟩ := h2
            exact ⟨k, h1, cs, (HU.out.block k (Array.getElem?_eq_some_iff.1 c1).1 h4).trans c1, c2, c3⟩ : ∀ i, i < a → BE wr N xs i (up R N i))
          have HBw := Lib.hid (HU.out.below HBA.out hkb)
          have hbs := HBw.out.size
          have hxl := HOw.out.1
          clear HR HOA HEA HKO HKE HBA HU HFA e
          go_wp2_with (at_builtin; refine bt_app _ rfl _ _ (by rfl) w1.heap.size (by rfl) HOw.out (some ⟨kb, 0, none⟩) N N (by rfl) (by omega) hbs ?_; intro v' w6 h1 h2 h3; have H1 := Lib.hid h1; have H2 := Lib.hid h2; have H3 := Lib.hid h3; clear h1 h2 h3)
          have HE6 := Lib.hid (fun i hi => by
            by_cases e : i = a
            · subst e
              exact ⟨kb, by rw [List.getElem?_append_right (by omega)]; simp [show i - xs.length = 0 by omega], HRN.out.keep H3.out⟩
            · exact (HEw.out i (by omega)).keep H3.out : ∀ i, i < a + 1 → BE w6 N (xs ++ [.slice (some ⟨kb, 0, none⟩) N N]) i (up R N i))
          have HB6 := Lib.hid (HBw.out.trans H2.out)
          first
          | exact ⟨⟨a + 1, _, by omega, by go_num, H1, HE6, HB6⟩, by simp [intOf]; omega⟩
          | (go_roundw
             case rel => exact ⟨a + 1, _, by omega, by go_num, H1, HE6, HB6⟩
             case measure => simp [intOf]; omega)
    · have e : a = N := by omega
      have y1 : ¬ (a : Int) < (N : Int) := by omega
      subst e
      obtain ⟨A1, d1, rfl⟩ := orow_shape HO.out
      have HFIN := Lib.hid (bts_of rfl HO.out HE.out)
      have LB2 := Lib.hid (LB1.out.trans (HB.out.mono LB1.out.size))
      go_wp2
      go_ret
      exact ⟨A1, ⟨d1, rfl⟩, HFIN.out, LB2.out⟩
/-- No thread outside holds it that it does not hold: of those that are not listed. -/
def frL (t : Nat → Nat → Bool) (lis : Nat → Bool) (n a : Nat) : Bool := (List.range n).all fun b => !(t a b && !lis b && !t b a)
theorem frL_succ (t : Nat → Nat → Bool) (lis : Nat → Bool) (n a : Nat) : frL t lis (n + 1) a = (frL t lis n a && !(t a n && !lis n && !t n a)) := by
  unfold frL
  rw [List.range_succ, List.all_append]
  simp
theorem frL_all {t : Nat → Nat → Bool} {lis : Nat → Bool} {n a : Nat} : frL t lis n a = true ↔ ∀ b, b < n → (t a b && !lis b && !t b a) = false := by
  unfold frL
  rw [List.all_eq_true]
  constructor
  · intro h b hb
    have h9 := h b (List.mem_range.2 hb)
    rwa [Bool.not_eq_true'] at h9
  · intro h b hb
    rw [h b (List.mem_range.1 hb)]; rfl
set_option maxHeartbeats 3200000 in
theorem free_n (N a : Nat) (hN : N ≤ 128) (ha : a < N) (D : Option Addr) (d : Nat) (t : Nat → Nat → Bool) (kl : Nat) (lis : Nat → Bool) (w : World) (hT : BTs w D N t) (hL : Row w kl N lis) :
    Calls Try.prog 137 #[.slice D N d, .slice (some ⟨kl, 0, none⟩) N N, .int .i64 (a : Nat)] w fun e w' => e = .returned (.bool (frL t lis N a)) ∧ Below w.heap.size w w' := by
  have HT := Lib.hid hT
  have HL := Lib.hid hL
  have ya : (a : Int) < (N : Int) := by omega
  have yb : (0 : Int) ≤ (a : Int) := by omega
  clear hT hL
  go_enter Try.func137, Try.ntmps137
  go_wp2
  go_loopw [7] (fun i wr => ∃ b : Nat, b ≤ N ∧ i = .int .i64 b ∧ frL t lis b a = true ∧ Hid (Below w.heap.size w wr)) (fun i _ => N - (intOf i).toNat)
  case atStart => exact ⟨0, Nat.zero_le _, rfl, rfl, Lib.hid (Below.refl _ _)⟩
  case round =>
    obtain ⟨b, hb, rfl, hf, HB⟩ := hrel
    by_cases hlt : b < N
    · have y1 : (b : Int) < (N : Int) := by omega
      have y2 : (0 : Int) ≤ (b : Int) := by omega
      obtain ⟨bt, rfl, hbt, hc⟩ := (HT.out.below HB.out) (by omega)
      obtain ⟨k1, a1, r1⟩ := hc a ha
      obtain ⟨k2, a2, r2⟩ := hc b hlt
      have HLW := HL.out.below HB.out HL.out.lt
      have x1 := r1.cell hlt
      have x2 := r2.cell ha
      have x3 := HLW.cell hlt
      have HS := Lib.hid (frL_succ t lis b a)
      have HAL := Lib.hid (fun (h : (t a b && !lis b && !t b a) = true) => (show frL t lis N a = false from by
        rw [Bool.eq_false_iff]
        intro h9
        have := frL_all.1 h9 b hlt
        rw [h] at this
        cases this))
      rw [hf] at HS
      obtain ⟨v1, hv1⟩ : ∃ x, t a b = x := ⟨_, rfl⟩
      obtain ⟨v2, hv2⟩ : ∃ x, lis b = x := ⟨_, rfl⟩
      obtain ⟨v3, hv3⟩ : ∃ x, t b a = x := ⟨_, rfl⟩
      rw [hv1, hv2, hv3] at HS HAL
      rw [hv1] at x1
      rw [hv2] at x3
      rw [hv3] at x2
      clear hv1 hv2 hv3 hc r1 r2 HLW hf
      have hs1 : bt < wr.heap.size := hbt
      cases v1
      · have HS2 := Lib.hid (show frL t lis (b + 1) a = true from HS.out)
        go_wp2
        go_roundw
        case rel => exact ⟨b + 1, by omega, by go_num, HS2.out, HB⟩
        case measure => simp [intOf]; omega
      · cases v2
        · cases v3
          · have HF := Lib.hid (HAL.out rfl)
            clear HAL HS
            go_wp2
            go_ret
            exact ⟨by rw [HF.out]; rfl, HB.out⟩
          · have HS2 := Lib.hid (show frL t lis (b + 1) a = true from HS.out)
            go_wp2
            go_roundw
            case rel => exact ⟨b + 1, by omega, by go_num, HS2.out, HB⟩
            case measure => simp [intOf]; omega
        · have HS2 := Lib.hid (show frL t lis (b + 1) a = true from HS.out)
          go_wp2
          go_roundw
          case rel => exact ⟨b + 1, by omega, by go_num, HS2.out, HB⟩
          case measure => simp [intOf]; omega
    · have e : b = N := by omega
      have y1 : ¬ (b : Int) < (N : Int) := by omega
      subst e
      have HF := Lib.hid hf
      clear hf
      go_wp2
      go_ret
      exact ⟨by rw [HF.out]; rfl, HB.out⟩
theorem fre_frL {R : Nat → Nat → Bool} {N k a : Nat} : frL (up R N) (fun b => !out R N k b) N a = fre R N (lef R N k) a := by
  rw [Bool.eq_iff_iff, frL_all, fre_iff]
  constructor
  · intro h b hb hu
    obtain ⟨h1, h2⟩ := lef_mem.1 hb
    have := h b h1
    rw [hu, h2] at this
    simpa using this
  · intro h b hb
    cases hu : up R N a b
    · rfl
    · cases ho : out R N k b
      · rfl
      · rw [h b (lef_mem.2 ⟨hb, ho⟩) hu]; rfl
theorem scan_le {R : Nat → Nat → Bool} {N k : Nat} (i : Nat) : i < (lef R N k).length → fre R N (lef R N k) ((lef R N k).getD i 0) = true → pfi R N k ≤ (lef R N k).getD i 0 := by
  induction i using Nat.strongRecOn with
  | _ i ih =>
    intro hi hf
    by_cases h : ∀ j, j < i → fre R N (lef R N k) ((lef R N k).getD j 0) = false
    · exact Nat.le_of_eq (lhd_at hi hf h)
    · obtain ⟨j, hj, hfj⟩ : ∃ j, j < i ∧ fre R N (lef R N k) ((lef R N k).getD j 0) = true := by
        apply Classical.byContradiction
        intro hn
        refine h fun j hj => ?_
        cases e : fre R N (lef R N k) ((lef R N k).getD j 0)
        · rfl
        · exact absurd ⟨j, hj, e⟩ hn
      have h1 := ih j hj (by omega) hfj
      have h2 : (lef R N k).getD j 0 < (lef R N k).getD i 0 := by
        rw [lef_eq] at hi ⊢
        exact ofl_lt hj hi
      omega
theorem scan_lt {R : Nat → Nat → Bool} {N k a : Nat} (ha : a < N) (hlt : a < pfi R N k) (ho : out R N k a = true) : fre R N (lef R N k) a = false := by
  cases hf : fre R N (lef R N k) a
  · rfl
  · exfalso
    obtain ⟨i, hi, e⟩ : ∃ i, i < (lef R N k).length ∧ (lef R N k).getD i 0 = a := by
      rw [lef_eq]
      exact ofl_ix ha ho
    have := scan_le i hi (by rw [e]; exact hf)
    omega
/-- 'append(s, y)' onto a slice of lists: what lies below, and numbers, stay. -/
theorem so_app3 {ops : Array Oper} {rest : List Oper} {o : Oper} {a : Act} {Q : Exit → Act → World → Prop} (w : World) (hgd : o.guard = none) (s x : Operand)
    (ho : o.op = .call { callee := .builtin .append, args := #[s, x], argTypes := #[58, 58] }) (base : Nat) {v : Value} {n : Nat} {xs : List Value} (hs : a.eval s = v) (hown : w.ownsRow base 45 1 v n xs)
    (D : Option Addr) (m c : Nat) (hx : a.eval x = .slice (some ⟨w.heap.size, 0, none⟩) 1 1) (hn : n ≤ 100000) (hb : base ≤ w.heap.size)
    (h : ∀ v' w', w'.ownsRow base 45 1 v' (n + 1) (xs ++ [.slice D m c]) → Below base w w' → (∀ (b : Nat) (cs : Array Value), w.heap[b]? = some (Obj.cells cs 3 (0, 0)) → w'.heap[b]? = w.heap[b]?) → wpList Try.prog ops Q rest (a.put o.dst v') w') :
    wpList Try.prog ops Q (o :: rest) a (w.alloc (.cells #[.slice D m c] 45)) := by
  refine so_app w hgd s x ho base hs hown D m c hx hn hb fun v' w' h1 h2 _ => h v' w' h1 ?_ fun b cs hbc => ?_
  · exact Below.grown ((Below.refl _ _).alloc hb _) h2 (by simp; omega) fun k hk => (orow_block hown hk).1
  · have hbl : b < w.heap.size := (Array.getElem?_eq_some_iff.1 hbc).1
    refine (h2.block b (by simp; omega) fun e => ?_).trans (Below.heap_alloc w _ b hbl)
    obtain ⟨_, _, cur, hcur⟩ := orow_block hown e.symm
    rw [hcur] at hbc
    cases hbc
theorem But.then {k : Nat} {w w' w'' : World} (h : But k w w') (hb : Below w.heap.size w' w'') : But k w w'' :=
  ⟨hb.os.trans h.os, hb.tape.trans h.tape, hb.output.trans h.output, Nat.le_trans h.size hb.size, fun b hb' hne => (hb.block b hb').trans (h.block b hb' hne)⟩
theorem But.num {k N : Nat} {w w' : World} {f : Nat → Bool} (h : But k w w') (hr : Row w k N f) : ∀ (b : Nat) (cs : Array Value), w.heap[b]? = some (Obj.cells cs 3 (0, 0)) → w'.heap[b]? = w.heap[b]? := fun b cs hc => by
  refine h.block b (Array.getElem?_eq_some_iff.1 hc).1 fun e => ?_
  obtain ⟨cs2, h2, _⟩ := hr
  rw [e, h2] at hc
  cases hc
/-- Parts came back. -/
def LsT (w : World) (L : Nat → List Nat) (m : Nat) (e : Ending) (w' : World) : Prop :=
  ∃ D d, e = .returned (.slice D m d) ∧ Cp D m d ∧ LLs w' D m L ∧ Below w.heap.size w w'
set_option maxHeartbeats 6400000 in
theorem listed_n (W H N : Nat) (hNN : W + H = N) (A : Option Addr) (c : Nat) (g : Nat → Bool) (w : World) (hg : Holds w w.heap.size A (W * H) g) (hW0 : 1 ≤ W) (hW : W ≤ 64) (hH0 : 1 ≤ H) (hH : H ≤ 64) :
    Calls Try.prog 103 #[.agg #[.int .i64 (W : Nat), .int .i64 (H : Nat), .slice A (W * H) c]] w (LsT w (prt (ov W g) N) (pno (ov W g) N)) := by
  have hN : N ≤ 128 := by omega
  have HTB := Lib.hid (fun u (h : Below w.heap.size w u) => table_n W H N hNN A c g u ((hg.below h).more h.size) hW0 hW hH0 hH)
  have hmkb := mkb_run N (by omega)
  generalize hR : ov W g = R at *
  clear hR
  have X0 := Lib.hid (Box.new w (W : Nat) (H : Nat) (.slice A (W * H) c))
  have LB0 := Lib.hid (show Below w.heap.size w (w.alloc (.cells #[.int .i64 (W : Nat), .int .i64 (H : Nat), (.slice A (W * H) c)] 24)) from (Below.refl _ _).alloc (Nat.le_refl _) _)
  clear hg hNN
  generalize W * H = M at *
  go_enter Try.func103, Try.ntmps103
  go_wp2_with fail
  generalize w.alloc (.cells #[.int .i64 (W : Nat), .int .i64 (H : Nat), .slice A M c] 24) = w0 at *
  obtain ⟨q0, q1, q2, q3, q4, q5, q6⟩ := X0.out.all
  go_wp2_with fail
  clear q0 q1 q2 q3 q4 q5 q6
  with_reducible refine Calls.mono (HTB.out _ LB0.out) ?_
  rintro e w1 ⟨D, d, rfl, hbt, hb⟩
  have LB1 := Lib.hid (LB0.out.trans (hb.mono LB0.out.size))
  have HT := Lib.hid hbt
  clear hb hbt X0 LB0 HTB
  have RW := Lib.hid (Row.made w1 N)
  have HB0 := Lib.hid (bel_alloc w1 (.cells (madeCells #[.bool false] N) 4))
  have O0 : Hid ((w1.alloc (.cells (madeCells #[.bool false] N) 4)).ownsRow (w1.heap.size + 1) 45 1 (.slice none 0 0) 0 []) := Lib.hid (World.ownsRow_nil _ _ _ _)
  have hb1 : w1.heap.size + 1 ≤ (w1.alloc (.cells (madeCells #[.bool false] N) 4)).heap.size := by simp
  go_upto_region 3 with (fail)
  clear hmkb
  obtain ⟨kb, hkb⟩ : ∃ kb, w1.heap.size = kb := ⟨_, rfl⟩
  have HKB := Lib.hid hkb
  rw [hkb] at RW HB0 O0 hb1 ⊢
  clear hkb
  generalize w1.alloc (.cells (madeCells #[.bool false] N) 4) = w2 at *
  have RW0 : Hid (Row w2 kb N (fun b => !out R N 0 b)) := Lib.hid (RW.out.congr fun i hi => by rw [out_zero]; rfl)
  have hl0 : ((N - (lef R N 0).length : Nat) : Int) = 0 := by rw [show (lef R N 0).length = N from List.length_range]; omega
  clear RW
  go_wp2
  go_loopw [5, 6] (fun v dn wr => ∃ (k : Nat) (xp : List Value), dn = .int .i64 ((N - (lef R N k).length : Nat) : Int) ∧ Hid (∀ i, i < k → lef R N i ≠ []) ∧ Hid (wr.ownsRow (kb + 1) 45 1 v k xp) ∧ Hid (∀ i, i < k → Elt wr xp i (prt R N i)) ∧ Hid (Row wr kb N (fun b => !out R N k b)) ∧ Hid (Below kb w1 wr) ∧ kb + 1 ≤ wr.heap.size) (fun _ dn _ => N - (intOf dn).toNat)
  case atStart => exact ⟨0, [], by rw [hl0], Lib.hid (fun i hi => absurd hi (by omega)), O0, Lib.hid (fun i hi => absurd hi (by omega)), RW0, HB0, hb1⟩
  case round =>
    obtain ⟨k, xp, rfl, HNE, HO, HE, HR, HB, hbs⟩ := hrel
    clear O0 RW0 HB0 hb1 hl0
    by_cases hle : lef R N k = []
    · have E := Lib.hid (pno_is hle HNE.out)
      have y1 : ¬ ((N - (lef R N k).length : Nat) : Int) < (N : Int) := by rw [hle]; simp
      obtain ⟨D2, d2, e1, hlls⟩ := lls_of HO.out HE.out
      have hop := HO.out
      rw [e1] at hop
      have HCP := Lib.hid (orow_cp hop)
      have HLS := Lib.hid hlls
      have LB2 := Lib.hid (LB1.out.trans (HB.out.mono (by rw [← HKB.out]; exact LB1.out.size)))
      subst e1
      clear hop hlls
      generalize ((N - (lef R N k).length : Nat) : Int) = dn at *
      go_wp2
      go_ret
      rw [E.out]
      exact ⟨D2, d2, rfl, HCP.out, HLS.out, LB2.out⟩
    · have hkN := lef_le R N k hle
      have hl0 : 0 < (lef R N k).length := List.length_pos_iff.2 hle
      have y1 : ((N - (lef R N k).length : Nat) : Int) < (N : Int) := by omega
      have hpf := pfi_lt hle
      have hpin := pfi_in hle
      have hpout : out R N k (pfi R N k) = true := (lef_mem.1 hpin.1).2
      have HFP := Lib.hid (show frL (up R N) (fun b => !out R N k b) N (pfi R N k) = true by rw [fre_frL]; exact hpin.2)
      have HSC := Lib.hid (fun a (ha : a < N) (hlt : a < pfi R N k) (ho : out R N k a = true) => (show frL (up R N) (fun b => !out R N k b) N a = false by rw [fre_frL]; exact scan_lt ha hlt ho))
      have HOS := Lib.hid (show ∀ a, out R N (k + 1) a = (out R N k a && !cls R N (pfi R N k) a) from fun a => out_succ)
      have HPE := Lib.hid (prt_eq hle)
      have HN1 := Lib.hid (show ∀ i, i < k + 1 → lef R N i ≠ [] from fun i hi => lef_ne hle (by omega))
      have hll := lef_len (R := R) (N := N) (k := k)
      have HCL := Lib.hid (show ∀ b, cls R N (pfi R N k) b = (up R N (pfi R N k) b && up R N b (pfi R N k)) from fun b => rfl)
      have hpp := prt_pos hle
      have hk128 : k ≤ 128 := by omega
      clear hpin hle
      obtain ⟨pf, hpfe⟩ : ∃ x, pfi R N k = x := ⟨_, rfl⟩
      rw [hpfe] at hpf hpout HFP HSC HOS HPE HCL
      clear hpfe
      have HPO := Lib.hid hpout
      clear hpout
      obtain ⟨dn, hdn⟩ : ∃ x, N - (lef R N k).length = x := ⟨_, rfl⟩
      have HDN := Lib.hid hdn
      rw [hdn] at y1 ⊢
      clear hdn
      go_wp2
      go_loopw [7] (fun i wx => ∃ a : Nat, a ≤ pf ∧ i = .int .i64 a ∧ Hid (Below wr.heap.size wr wx)) (fun i _ => N - (intOf i).toNat)
      case atStart => exact ⟨0, Nat.zero_le _, rfl, Lib.hid (Below.refl _ _)⟩
      case round =>
        obtain ⟨a, ha, rfl, HX⟩ := hrel
        have haN : a < N := by omega
        have ya1 : (a : Int) < (N : Int) := by omega
        have ya2 : (0 : Int) ≤ (a : Int) := by omega
        have HRx := Lib.hid (HR.out.below HX.out HR.out.lt)
        have HBx := Lib.hid (HB.out.trans (HX.out.mono (by have := HR.out.lt; omega)))
        have HTx := Lib.hid (HT.out.below (by rw [HKB.out]; exact HBx.out))
        have x1 := HRx.out.cell haN
        have HFR := Lib.hid (free_n N a hN haN D d (up R N) kb (fun b => !out R N k b) _ HTx.out HRx.out)
        have HSCa := Lib.hid (fun h1 h2 => HSC.out a haN h1 h2)
        obtain ⟨oa, hoa⟩ : ∃ x, out R N k a = x := ⟨_, rfl⟩
        rw [hoa] at x1 HSCa
        by_cases hap : a < pf
        · cases oa
          · clear HFR HSCa hoa
            go_wp2
            go_roundw
            case rel => exact ⟨a + 1, by omega, by go_num, HX⟩
            case measure => simp [intOf]; omega
          · rw [HSCa.out hap rfl] at HFR
            clear HSCa hoa
            go_wp2_with fail
            with_reducible refine Calls.mono HFR.out ?_
            rintro e w5 ⟨rfl, hb⟩
            have HX5 := Lib.hid (HX.out.trans (hb.mono HX.out.size))
            clear hb HRx HBx HTx x1 HFR
            go_wp2
            go_roundw
            case rel => exact ⟨a + 1, by omega, by go_num, HX5⟩
            case measure => simp [intOf]; omega
        · have e : a = pf := by omega
          subst e
          rw [HPO.out] at hoa
          subst hoa
          rw [HFP.out] at HFR
          clear HSCa
          go_wp2_with fail
          with_reducible refine Calls.mono HFR.out ?_
          rintro e ws ⟨rfl, hb⟩
          have HX5 := Lib.hid (HX.out.trans (hb.mono HX.out.size))
          clear hb HRx HBx HTx x1 HFR HX HFP HSC HPO hap
          have HRs := Lib.hid (HR.out.below HX5.out HR.out.lt)
          have hkbr := HR.out.lt
          have HBs := Lib.hid (HB.out.trans (HX5.out.mono (by omega)))
          have HOs : Hid (ws.ownsRow (kb + 1) 45 1 _ k xp) := Lib.hid (orow_keep HO.out fun k' _ hk => HX5.out.block k' (orow_block HO.out hk).2.1)
          have HEs := Lib.hid (fun i hi => elt_keep (HE.out i hi) (w' := ws) (fun b cs hc => HX5.out.block b (Array.getElem?_eq_some_iff.1 hc).1) : ∀ i, i < k → Elt ws xp i (prt R N i))
          have hbss : kb + 1 ≤ ws.heap.size := by have := HX5.out.size; omega
          have HRW : Hid (Row ws kb N (fun b => !out R N k b || (decide (b < 0) && cls R N a b))) := Lib.hid (HRs.out.congr fun i hi => by simp)
          clear HR HB HO HE hbs HX5
          have P0 : Hid (L2.Own ws ws.heap.size (.slice none 0 0) (ofl (cls R N a) 0).length (lf (ofl (cls R N a) 0))) := Lib.hid (L2.Own.nil _ _ _)
          go_wp2
          go_loopw [8, 9] (fun v i wx => ∃ m : Nat, m ≤ N ∧ i = .int .i64 m ∧ Hid (L2.Own wx ws.heap.size v (ofl (cls R N a) m).length (lf (ofl (cls R N a) m))) ∧ Hid (Row wx kb N (fun b => !out R N k b || (decide (b < m) && cls R N a b))) ∧ Hid (But kb ws wx)) (fun _ i _ => N - (intOf i).toNat)
          case atStart => exact ⟨0, Nat.zero_le _, rfl, P0, HRW, Lib.hid (But.of (Below.refl _ _))⟩
          case round =>
            obtain ⟨m, hm, rfl, HP, HRm, HU⟩ := hrel
            clear P0 HRW
            have hsx := HU.out.size
            by_cases hlm : m < N
            · have ym1 : (m : Int) < (N : Int) := by omega
              have ym2 : (0 : Int) ≤ (m : Int) := by omega
              have HBm := Lib.hid (by have h9 := HU.out.below (w0 := w1) (by rw [HKB.out]; exact HBs.out) (by rw [HKB.out]; exact Nat.le_refl _); rwa [HKB.out] at h9 : Below kb w1 _)
              obtain ⟨bt, rfl, hbt, hc⟩ := (HT.out.below (by rw [HKB.out]; exact HBm.out)) (by omega)
              obtain ⟨k1, a1, r1⟩ := hc a haN
              obtain ⟨k2, a2, r2⟩ := hc m hlm
              have x1 := r1.cell hlm
              have x2 := r2.cell haN
              have hol := ofl_len (cls R N a) m
              have HCm := Lib.hid (HCL.out m)
              obtain ⟨v1, hv1⟩ : ∃ x, up R N a m = x := ⟨_, rfl⟩
              obtain ⟨v2, hv2⟩ : ∃ x, up R N m a = x := ⟨_, rfl⟩
              rw [hv1] at x1 HCm
              rw [hv2] at x2 HCm
              clear hv1 hv2 hc r1 r2
              have HNO := Lib.hid (fun (h : cls R N a m = false) => (⟨ofl_no h, fun i hi => by
                by_cases e : i = m
                · rw [e, h]; simp
                · rw [show decide (i < m + 1) = decide (i < m) by rw [Bool.eq_iff_iff]; simp; omega]⟩ : ofl (cls R N a) (m + 1) = ofl (cls R N a) m ∧ ∀ i, i < N → (!out R N k i || (decide (i < m) && cls R N a i)) = (!out R N k i || (decide (i < m + 1) && cls R N a i))))
              cases v1
              · have HN := HNO.out HCm.out
                have HPn : Hid (L2.Own _ ws.heap.size _ (ofl (cls R N a) (m + 1)).length (lf (ofl (cls R N a) (m + 1)))) := Lib.hid (by rw [HN.1]; exact HP.out)
                have HRn := Lib.hid (HRm.out.congr HN.2)
                clear HN HNO
                go_wp2
                go_roundw
                case rel => exact ⟨m + 1, by omega, by go_num, HPn, HRn, HU⟩
                case measure => simp [intOf]; omega
              · cases v2
                · have HN := HNO.out HCm.out
                  have HPn : Hid (L2.Own _ ws.heap.size _ (ofl (cls R N a) (m + 1)).length (lf (ofl (cls R N a) (m + 1)))) := Lib.hid (by rw [HN.1]; exact HP.out)
                  have HRn := Lib.hid (HRm.out.congr HN.2)
                  clear HN HNO
                  go_wp2
                  go_roundw
                  case rel => exact ⟨m + 1, by omega, by go_num, HPn, HRn, HU⟩
                  case measure => simp [intOf]; omega
                · have hcm : cls R N a m = true := HCm.out
                  have E1 := Lib.hid (ofl_yes hcm)
                  have EL := Lib.hid (show (ofl (cls R N a) (m + 1)).length = (ofl (cls R N a) m).length + 1 by rw [E1.out, List.length_append]; rfl)
                  have HP1 := Lib.hid (own_app HP.out m)
                  have HY := Lib.hid (lf_last (ofl (cls R N a) m) m)
                  have HRC := Lib.hid (fun i (hi : i < N) => (show (if i = m then true else (!out R N k i || (decide (i < m) && cls R N a i))) = (!out R N k i || (decide (i < m + 1) && cls R N a i)) from by
                    by_cases e : i = m
                    · rw [if_pos e, e, hcm]; simp
                    · rw [if_neg e, show decide (i < m + 1) = decide (i < m) by rw [Bool.eq_iff_iff]; simp; omega]))
                  rw [← E1.out] at HP1 HY
                  obtain ⟨n0, hn0⟩ : ∃ x, (ofl (cls R N a) m).length = x := ⟨_, rfl⟩
                  rw [hn0] at HP1 HY EL hol
                  clear hn0 HNO hcm HCm HP
                  go_wp2_with (at_builtin; refine L2.app1 _ rfl _ _ (by rfl) ws.heap.size (by rfl) HP1.out (m : Int) (by rfl) HY.out (by omega) hsx ?_; intro v' w6 hown6 hb6; have HO6 := Lib.hid hown6; have HB6 := Lib.hid hb6; have HR6 := Lib.hid (HRm.out.below HB6.out (by omega)); have z1 := HR6.out.cell hlm; have z2 := HR6.out.free m; have z3 := HR6.out.lt; clear hown6 hb6)
                  have HPn : Hid (L2.Own (w6.setCell ⟨kb, m, none⟩ (.bool true)) ws.heap.size v' (ofl (cls R N a) (m + 1)).length (lf (ofl (cls R N a) (m + 1)))) := Lib.hid (by rw [EL.out]; exact HO6.out.far (p := ⟨kb, m, none⟩) (by show kb < _; omega) _)
                  have HRn := Lib.hid ((HR6.out.set_ m true).congr HRC.out)
                  have HUn := Lib.hid ((HU.out.then HB6.out).trans (But.set (k := kb) (o := m) (v := .bool true)))
                  first
                  | exact ⟨⟨m + 1, by omega, by go_num, HPn, HRn, HUn⟩, by simp [intOf]; omega⟩
                  | (go_roundw
                     case rel => exact ⟨m + 1, by omega, by go_num, HPn, HRn, HUn⟩
                     case measure => simp [intOf]; omega)
            · have e : m = N := by omega
              have ym1 : ¬ (m : Int) < (N : Int) := by omega
              rw [e, ← HPE.out] at HP
              have HRn : Hid (Row _ kb N (fun b => !out R N (k + 1) b)) := Lib.hid (HRm.out.congr fun i hi => by
                rw [HOS.out i, decide_eq_true (by omega : i < m)]
                cases out R N k i <;> cases cls R N a i <;> rfl)
              obtain ⟨PA, pd, rfl⟩ := orow_shape HP.out
              have HTT := Lib.hid (own_tt HP.out)
              have HCP := Lib.hid (own_cp HP.out)
              have HOw : Hid (World.ownsRow _ (kb + 1) 45 1 _ k xp) := Lib.hid (orow_but HOs.out HU.out fun b hv => by have := (orow_block HOs.out hv).1; omega)
              have HEw := Lib.hid (fun i hi => elt_keep (HEs.out i hi) (HU.out.num HRs.out) : ∀ i, i < k → Elt _ xp i (prt R N i))
              have HBw := Lib.hid (by have h9 := HU.out.below (w0 := w1) (by rw [HKB.out]; exact HBs.out) (by rw [HKB.out]; exact Nat.le_refl _); rwa [HKB.out] at h9 : Below kb w1 _)
              have hbw : kb + 1 ≤ _ := Nat.le_trans hbss hsx
              have hpl : (prt R N k).length ≤ N := prt_len R N k
              have hxl := HOw.out.1
              have hdn : ((dn : Int) + ((prt R N k).length : Int)) = ((N - (lef R N (k + 1)).length : Nat) : Int) := by
                have := HDN.out; omega
              have hdl : dn ≤ N := by have := HDN.out; omega
              have HD2 := Lib.hid (show N - (lef R N (k + 1)).length ≤ N ∧ dn < N - (lef R N (k + 1)).length from by have := HDN.out; omega)
              clear HP HRm HU HOs HEs HBs HRs hsx e HOS HPE HCL HDN hkN hl0 hll
              obtain ⟨d3, hd3⟩ : ∃ x, N - (lef R N (k + 1)).length = x := ⟨_, rfl⟩
              have HD3 := Lib.hid hd3
              rw [hd3] at hdn HD2
              clear hd3
              obtain ⟨np, hnp⟩ : ∃ x, (prt R N k).length = x := ⟨_, rfl⟩
              have HNP := Lib.hid hnp
              rw [hnp] at hdn HCP hpl ⊢
              clear hnp
              have wde : IntKind.i64.wrap ((dn : Int) + (np : Int)) = (d3 : Int) := by rw [hdn]; exact IntWalk.i64_in _ (by have := HD2.out; omega)
              go_wp2_with (at_builtin; refine so_app3 _ rfl _ _ (by rfl) (kb + 1) (by rfl) HOw.out PA np pd (by rfl) (by omega) hbw ?_; intro v' w6 h1 h2 h3; have H1 := Lib.hid h1; have H2 := Lib.hid h2; have H3 := Lib.hid h3; clear h1 h2 h3)
              have HE6 := Lib.hid (fun i hi => by
                by_cases e : i = k
                · subst e
                  exact ⟨PA, pd, by rw [List.getElem?_append_right (by omega)]; simp [show i - xp.length = 0 by omega, HNP.out], by rw [HNP.out]; exact HCP.out, HTT.out.keep H3.out⟩
                · exact elt_keep (elt_app (HEw.out i (by omega))) H3.out : ∀ i, i < k + 1 → Elt w6 (xp ++ [.slice PA np pd]) i (prt R N i))
              have HR6 := Lib.hid (HRn.out.below H2.out (by omega))
              have HB6 := Lib.hid (HBw.out.trans (H2.out.mono (by omega)))
              have hb6 : kb + 1 ≤ w6.heap.size := Nat.le_trans hbw H2.out.size
              have hd9 := HD2.out
              first
              | exact ⟨⟨k + 1, _, by rw [HD3.out], HN1, H1, HE6, HR6, HB6, hb6⟩, by simp [intOf]; omega⟩
              | (go_roundw
                 case rel => exact ⟨k + 1, _, by rw [HD3.out], HN1, H1, HE6, HR6, HB6, hb6⟩
                 case measure => simp [intOf]; omega)
end Go.Proofs.Ytchbbphokpmacaa
