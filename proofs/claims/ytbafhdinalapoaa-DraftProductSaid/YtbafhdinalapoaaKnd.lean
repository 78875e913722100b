/- The kinds of the rows of a grid, by the program. -/
import Derived.Test.YtbafhdinalapoaaKmd
import Derived.Test.YtbafhdinalapoaaIBld
import Derived.Test.YtbafhdinalapoaaIOwn
import Derived.Test.YtbafhdinalapoaaOpt
namespace Go.Proofs.Ytbafhdinalapoaa
open Go.RowKit
set_option linter.unusedVariables false
set_option linter.unusedSimpArgs false
set_option maxRecDepth 100000

open L2 (fst nd ren nd_le)
/-- 'append(s, y)', and what it leaves alone. -/
theorem app1' {ops : Array Oper} {rest : List Oper} {o : Oper} {a : Act} {Q : Exit → Act → World → Prop} (w : World) (hgd : o.guard = none) (s x : Operand)
    (ho : o.op = .call { callee := .builtin .append, args := #[s, x], argTypes := #[28, 28] }) (base : Nat) {v : Value} {n : Nat} {f : Nat → Int} (hs : a.eval s = v) (hown : L2.Own w base v n f)
    (y : Int) (hx : a.eval x = .slice (some ⟨w.heap.size, 0, none⟩) 1 1) (hy : f n = y) (hn : n ≤ 100000) (hb : base ≤ w.heap.size)
    (h : ∀ v' w', L2.Own w' base v' (n + 1) f → Below base w w' → (∀ k, k < w.heap.size → v.ownBlock ≠ some k → w'.heap[k]? = w.heap[k]?) → wpList Try.prog ops Q rest (a.put o.dst v') w') :
    wpList Try.prog ops Q (o :: rest) a (w.alloc (.cells #[.int .i64 y] 3)) := by
  obtain ⟨i0, hi, hz0, hz1, hz2⟩ := info_parts L2.TryI.info3
  refine wpList_append_own _ hgd s x 28 ho base 3 i0 (.int .i64 0) 1 8 Try.underlying28 hi hz0 hz1 hz2 rfl (by decide) v n _ hs (hown.alloc _) ⟨w.heap.size, 0, none⟩ 1 1 [.int .i64 y] hx rfl (cell_one_new _ _ _) (ints_oneCell .i64 [y])
    (by unfold maxLen; omega) (by omega) (by simp; omega) ?_
  intro v' w' ho' hg _
  refine h v' w' ?_ ?_ ?_
  · unfold L2.Own
    rw [L2.news_succ, hy]
    exact ho'
  · refine Below.grown ((Below.refl _ _).alloc hb _) hg (by simp; omega) fun k hk => (hown.block hk).1
  · intro k hk hne
    exact (hg.block k (by simp; omega) (fun e => hne (by first | exact e.symm | exact e))).trans (Below.heap_alloc w _ k hk)
/-- What kinds hands back: the kind of each row, and the first row of each kind. -/
def KOut (w : World) (H : Nat) (c : Nat → Int) (e : Ending) (w' : World) : Prop :=
  ∃ k A' c', e = .returned (.tuple #[.slice (some ⟨k, 0, none⟩) H H, .slice A' (nd c H) c']) ∧ w.heap.size ≤ k ∧ L2.Row w' k H (ren c) ∧ (0 < nd c H → ∃ q, A' = some ⟨q, 0, none⟩ ∧ w.heap.size ≤ q ∧ L2.Row w' q (nd c H) (fun k => (frn c H k : Nat))) ∧ Below w.heap.size w w'

set_option maxHeartbeats 4000000 in
theorem kinds_any (W H b o cap : Nat) (f : Nat → Bool) (B0 : Nat) (w : World) (hr : Holds w B0 (some ⟨b, o, none⟩) (W * H) f) (hB : B0 ≤ w.heap.size) (hcap : W * H ≤ cap) (hW0 : 1 ≤ W) (hW : W ≤ 64) (hH0 : 1 ≤ H) (hH : H ≤ 64) :
    Calls Try.prog 52 #[.agg #[.int .i64 W, .int .i64 H, .slice (some ⟨b, o, none⟩) (W * H) cap]] w (KOut w H (rc W f)) := by
  have hmk := L2.make_run H (by omega)
  have hmf := mk_fn
  have HR := Lib.hid hr
  have HC := Lib.hid hcap
  obtain ⟨c, hc⟩ : ∃ c, rc W f = c := ⟨_, rfl⟩
  have HE := Lib.hid hc
  rw [hc]
  clear hr hc
  have X0 := Lib.hid ((Box.new w W H (.slice (some ⟨b, o, none⟩) (W * H) cap)).alloc (.cells (madeCells #[.int .i64 0] H) 3))
  have K0 := Lib.hid (L2.Row.made (w.alloc (.cells #[.int .i64 W, .int .i64 H, .slice (some ⟨b, o, none⟩) (W * H) cap] 24)) H)
  have L0 := Lib.hid (show Below w.heap.size w ((w.alloc (.cells #[.int .i64 W, .int .i64 H, .slice (some ⟨b, o, none⟩) (W * H) cap] 24)).alloc (.cells (madeCells #[.int .i64 0] H) 3)) from ((Below.refl _ _).alloc (Nat.le_refl _) _).alloc (by simp) _)
  have hs0 : ((w.alloc (.cells #[.int .i64 W, .int .i64 H, .slice (some ⟨b, o, none⟩) (W * H) cap] 24)).alloc (.cells (madeCells #[.int .i64 0] H) 3)).heap.size = w.heap.size + 2 := by simp
  simp only [World.size_alloc] at K0
  go_enter Try.func52, Try.ntmps52
  go_wp2
  generalize (w.alloc (.cells #[.int .i64 W, .int .i64 H, .slice (some ⟨b, o, none⟩) (W * H) cap] 24)).alloc (.cells (madeCells #[.int .i64 0] H) 3) = w0 at *
  go_loopw [3, 11] (fun v i wr => ∃ y : Nat, y ≤ H ∧ i = .int .i64 y ∧ L2.Own wr (w.heap.size + 2) v (nd c y) (fun k => (frn c y k : Nat)) ∧ Hid (L2.Row wr (w.heap.size + 1) H (fun j => if j < y then ren c j else 0)) ∧ Hid (Box wr w.heap.size W H (.slice (some ⟨b, o, none⟩) (W * H) cap)) ∧ Hid (w.heap.size + 2 ≤ wr.heap.size) ∧ Below w.heap.size w wr) (fun _ i _ => H - (intOf i).toNat)
  case atStart => exact ⟨0, Nat.zero_le _, rfl, L2.Own.nil _ _ _, K0.out.congr fun i hi => by rw [if_neg (by omega)], X0.out, by show _ ≤ _; omega, L0.out⟩
  case round =>
    obtain ⟨y, hy, rfl, hown, hrow, hbox, hsz, hbel⟩ := hrel
    by_cases hlt : y < H
    · obtain ⟨A', c', rfl, _, hfr⟩ := hown.out
      have HO := Lib.hid hown
      have HB := Lib.hid hbel
      have HBK := Lib.hid (fun k (hk : (Value.slice A' (nd c y) c').ownBlock = some k) => (hown.block hk).2)
      obtain ⟨q0, q1, q2, q3, q4, q5, q6⟩ := hbox.out.all
      have hnd := nd_le c y
      have y1 : (y : Int) < (H : Int) := by omega
      have y0 : (0 : Int) ≤ (y : Int) := by omega
      -- the world with the round's own variable
      have Y1 := Lib.hid (Num.new wr (y : Int))
      have B1 := Lib.hid (hbox.out.alloc (.cells #[.int .i64 (y : Int)] 3))
      have C1 := Lib.hid ((HR.out.below (hbel.mono hB)).below ((Below.refl _ _).alloc (Nat.le_trans hB hbel.size) (.cells #[.int .i64 (y : Int)] 3)))
      have F1 : Hid (L2.Holds (wr.alloc (.cells #[.int .i64 (y : Int)] 3)) (wr.alloc (.cells #[.int .i64 (y : Int)] 3)).heap.size A' (nd c y) (fun k => (frn c y k : Nat))) := Lib.hid (fun h => by
        obtain ⟨q, rfl, _, hq⟩ := hfr h
        exact (hq.alloc _).holds (hq.alloc _).lt h)
      have R1 := Lib.hid (hrow.out.alloc (.cells #[.int .i64 (y : Int)] 3))
      have O1 := Lib.hid (hown.alloc (.cells #[.int .i64 (y : Int)] 3))
      have L1 := Lib.hid (hbel.alloc hbel.size (.cells #[.int .i64 (y : Int)] 3))
      have S1 := Lib.hid (show w.heap.size + 2 ≤ wr.heap.size ∧ (wr.alloc (.cells #[.int .i64 (y : Int)] 3)).heap.size = wr.heap.size + 1 from ⟨hsz.out, by simp⟩)
      have hix := ixf_kind c y (fun k => rsm W f (frn c y k) y) (fun k hk => by rw [← HE.out, ← rc_eq])
      have IX := Lib.hid hix
      clear hown hbel hrow hbox hfr hix hsz
      go_wp2_with fail
      clear q0 q1 q2 q3 q4 q5 q6
      generalize hw1 : wr.alloc (.cells #[.int .i64 (y : Int)] 3) = v1 at *
      clear hw1
      refine (indexfunc_any A' (nd c y) c' (frn c y) (fun k => rsm W f (frn c y k) y) 88 _ v1 (by omega) F1.out (fun w1 i hb hi =>
        kin_clo (gb := w.heap.size) (gy := wr.heap.size) (y := y) B1.out (C1.out.more (Nat.le_trans hB L1.out.size)) HC.out Y1.out hlt hW0 hW hH (frn c y i) (by have := (frn_spec c y i hi).1; omega) w1 hb) (Go.Proofs.enters_of Try.func88 (by kernel_rfl) rfl)).mono ?_
      rintro e w2 ⟨rfl, hb2⟩
      have Y2 := Lib.hid (Y1.out.below hb2)
      have B2 := Lib.hid (B1.out.below hb2 B1.out.lt)
      have R2 := Lib.hid (R1.out.below hb2 R1.out.lt)
      have O2 := Lib.hid (O1.out.below hb2)
      have L2' := Lib.hid (L1.out.trans (hb2.mono L1.out.size))
      have S2 := Lib.hid (show w.heap.size + 2 ≤ w2.heap.size ∧ w.heap.size + 2 ≤ wr.heap.size from ⟨by have := hb2.size; have := S1.out; omega, S1.out.1⟩)
      clear hb2 Y1 B1 R1 O1 L1 S1 C1 F1
      have n0 := Y2.out.1
      have n1 := Y2.out.2
      have r0 := R2.out.cell hlt
      rw [if_neg (by omega)] at r0
      have r1 := R2.out.free y
      have r2 := R2.out.lt
      by_cases hs : fst c (c y) y < y
      · have h1 := IX.out.1 hs
        obtain ⟨k, hk1, hk2, _⟩ := ren_at c y (fst c (c y) y) hs
        have hren : ren c y = (nd c (fst c (c y) y) : Nat) := rfl
        obtain ⟨p, hp⟩ : ∃ p : Nat, ren c y = (p : Nat) := ⟨_, hren⟩
        rw [hp] at h1
        rw [h1]
        have HPP := Lib.hid hp
        have HND := Lib.hid (show nd c (y + 1) = nd c y from nd_succ_old hs)
        have z1 : decide ((p : Int) < 0) = false := by simp
        clear h1 hk1 hk2 hren hp hs IX
        go_wp2
        refine ⟨⟨y + 1, by omega, by go_num, ?_, ?_, ?_, ?_, ?_⟩, by simp [intOf]; omega⟩
        · rw [HND.out]
          exact (O2.out.far (by simp) _).congr fun i hi => by rw [frn_keep c hi]
        · refine (R2.out.set_ y (p : Int)).congr fun j hj => ?_
          by_cases e : j = y
          · subst e; rw [if_pos rfl, if_pos (by omega), HPP.out]
          · rw [if_neg e]
            by_cases h : j < y
            · rw [if_pos h, if_pos (by omega)]
            · rw [if_neg h, if_neg (by omega)]
        · exact B2.out.far (by simp) _
        · show _ ≤ _
          simpa [World.setCell] using S2.out.1
        · exact L2'.out.setCell (by simp) _
      · have h1 := IX.out.2 hs
        rw [h1]
        have HND := Lib.hid (show nd c (y + 1) = nd c y + 1 from nd_succ_new hs)
        have HRN := Lib.hid (L2.ren_new hs)
        have HFN := Lib.hid (frn_new hs)
        have HKP := Lib.hid (fun i (hi : i < nd c y) => frn_keep c hi)
        obtain ⟨m, hm⟩ : ∃ m, nd c y = m := ⟨_, rfl⟩
        rw [hm] at hnd HND HRN HFN HKP O2 HBK ⊢
        clear h1 hs IX hm
        have O3 := Lib.hid (O2.out.congr (g := fun k => ((frn c (y + 1) k : Nat) : Int)) fun i hi => by rw [HKP.out i hi])
        have HFN' := Lib.hid (show ((frn c (y + 1) m : Nat) : Int) = (y : Int) by rw [HFN.out])
        have hbs : w.heap.size + 2 ≤ w2.heap.size := S2.out.1
        go_wp2_with (at_builtin; refine app1' _ rfl _ _ (by rfl) (w.heap.size + 2) (by rfl) O3.out (y : Int) (by rfl) HFN'.out (by omega) hbs ?_; intro v' w3 hown3 hb3 hkeep; have O4 := Lib.hid hown3; have HB3 := Lib.hid hb3; have hq : (Value.slice A' m c').ownBlock ≠ some wr.heap.size := (fun h => by have h5 := HBK.out _ h; omega); have Y3 := Lib.hid (show w3.cell? ⟨wr.heap.size, 0, none⟩ = some (.int .i64 (y : Int)) from (World.cell?_of_block (w := w2) (hkeep wr.heap.size n1 hq)).trans Y2.out.1); clear hq; clear hown3 hb3 hkeep; have n0' := Y3.out; have R3 := Lib.hid (show L2.Row w3 (w.heap.size + 1) H (fun j => if j < y then ren c j else 0) from R2.out.below HB3.out (by omega)); have r0' := R3.out.cell hlt; rw [if_neg (by omega)] at r0'; have r1' := R3.out.free y; have r2' := R3.out.lt)
        refine ⟨⟨y + 1, by omega, by go_num, ?_, ?_, ?_, ?_, ?_⟩, by simp [intOf]; omega⟩
        · rw [HND.out]
          exact O4.out.far (by simp) _
        · refine (R3.out.set_ y (m : Int)).congr fun j hj => ?_
          by_cases e : j = y
          · subst e; rw [if_pos rfl, if_pos (by omega), HRN.out]
          · rw [if_neg e]
            by_cases h : j < y
            · rw [if_pos h, if_pos (by omega)]
            · rw [if_neg h, if_neg (by omega)]
        · exact (B2.out.below HB3.out (by omega)).far (by simp) _
        · show _ ≤ _
          have := HB3.out.size
          have := S2.out.1
          simp [World.setCell]; omega
        · exact (L2'.out.trans (HB3.out.mono (by omega))).setCell (by simp) _
    · have e : y = H := by omega
      subst e
      obtain ⟨A', c', rfl, _, hfr⟩ := hown.out
      have HF := Lib.hid hfr
      have HB := Lib.hid hbel
      clear hown hfr hbel
      go_wp2
      refine bodyPost_ret (v := .tuple #[.slice (some ⟨w.heap.size + 1, 0, none⟩) y y, .slice A' (nd c y) c']) (by simp [results, Try.results52, go_sem]) rfl ⟨w.heap.size + 1, A', c', rfl, by omega, ?_, ?_, HB.out⟩
      · exact hrow.out.congr fun j hj => by rw [if_pos hj]
      · intro h
        obtain ⟨q, e, h1, h2⟩ := HF.out h
        exact ⟨q, e, by omega, h2⟩
end Go.Proofs.Ytbafhdinalapoaa
