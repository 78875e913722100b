/- The reference's 'joined' on two valid grids of one size. -/
import Derived.Test.YtnamjpdbadjgpaaRefb
namespace Go.Proofs.Ytnamjpdbadjgpaa
open Go.RowKit
set_option linter.unusedVariables false
set_option linter.unusedSimpArgs false

section
variable {P : Program} {ops : Array Oper} {w : World} {Q : Act → Prop} {a : Act} {o : Oper} {rest : List Oper}
/-- A guarded operation that is not wanted is passed over. -/
theorem still_skip (hw : Region.wanted o (yielded ops a.tmps) = false) (h : wpStill P ops w Q rest (a.put o.dst undef)) : wpStill P ops w Q (o :: rest) a :=
  wpStill_step fun K hK => by rw [if_neg (by rw [hw]; exact Bool.false_ne_true)]; exact hK _ h
end

set_option maxHeartbeats 1600000 in
theorem join_and (W H : Nat) (A D : Option Addr) (c d : Nat) (f g : Nat → Bool) (w : World) (hr : Holds w w.heap.size A (W * H) f) (hs : Holds w w.heap.size D (W * H) g) (hW0 : 1 ≤ W) (hW : W ≤ 64) (hH0 : 1 ≤ H) (hH : H ≤ 64) :
    Calls Try.prog 70 #[.agg #[.int .i64 W, .int .i64 H, .slice A (W * H) c], .agg #[.int .i64 W, .int .i64 H, .slice D (W * H) d], .bool false] w (OkRef w W H fun i => (f i && g i)) := by
  have hN : W * H ≤ 4096 := Nat.mul_le_mul hW hH
  have hN0 : 0 < W * H := Nat.mul_pos hW0 hH0
  have HC := Lib.hid (fun w => both_snd W H W H A D (W * H) (W * H) c d w 0 (by omega) (chk_zero hW0 hW hH0 hH) (by omega) (chk_zero hW0 hW hH0 hH))
  have HR := Lib.hid hr
  have HS := Lib.hid hs
  clear hr hs
  have z1 : ((W : Int) != (W : Int)) = false := by simp
  have z2 : ((H : Int) != (H : Int)) = false := by simp
  go_enter Try.func70, Try.ntmps70
  go_wp2_with fail
  refine (HC.out _).mono ?_
  rintro e w1 ⟨rfl, hb1⟩
  obtain ⟨hbox1, hbox2, hbox3, hbel1, hsz1⟩ := after3 hb1
  clear hb1
  obtain ⟨q0, q1, q2, q3, q4, q5, q6⟩ := hbox1.all
  obtain ⟨r0, r1, r2, r3, r4, r5, r6⟩ := hbox2.all
  go_wp2_with fail
  refine (twin_some W H A (W * H) c f _ (by omega) hN0 ((HR.out.below hbel1).more hbel1.size)).mono ?_
  rintro e w2 ⟨k, e, rfl, hk, hrow, hb2⟩
  have hbel2 := hbel1.trans (hb2.mono hbel1.size)
  have hsz2 := hb2.size
  have hkl := hrow.lt
  have R0 := Lib.hid (⟨(hbox1.below hb2 (by omega)).alloc _, (hbox2.below hb2 (by omega)).alloc _, (hbox3.below hb2 (by omega)).alloc _, Box.new w2 W H (.slice (some ⟨k, 0, none⟩) (W * H) e),
    (hrow.alloc _).congr (fun i _ => by simp), HR.out.below (hbel2.alloc hbel2.size _), HS.out.below (hbel2.alloc hbel2.size _), hbel2.alloc hbel2.size _⟩ :
    JoinRel w (w2.alloc (.cells #[.int .i64 W, .int .i64 H, .slice (some ⟨k, 0, none⟩) (W * H) e] 24)) W H A D c d f g (fun i => (f i && g i)) w2.heap.size k e 0)
  clear hb2 q0 q1 q2 q3 q4 q5 q6 r0 r1 r2 r3 r4 r5 r6 hbox1 hbox2 hbox3 hrow
  go_wp2
  go_loopw [9] (fun i wr => ∃ j : Nat, j ≤ W * H ∧ i = .int .i64 j ∧ JoinRel w wr W H A D c d f g (fun i => (f i && g i)) w2.heap.size k e j) (fun i _ => W * H - (intOf i).toNat)
  case atStart => exact ⟨0, Nat.zero_le _, rfl, R0.out⟩
  case round =>
    obtain ⟨j, hj, rfl, R⟩ := hrel
    have q2 := R.out.c2
    have q6 := R.out.lt
    have r2 := R.a.c2
    have s2 := R.b.c2
    by_cases hlt : j < W * H
    · obtain ⟨b, o, rfl, hbl, hc⟩ := R.ca (by omega)
      obtain ⟨b', o', rfl, hbl', hc'⟩ := R.cb (by omega)
      obtain ⟨u, hu⟩ : ∃ u, f j = u := ⟨_, rfl⟩
      obtain ⟨v, hv⟩ : ∃ v, g j = v := ⟨_, rfl⟩
      have c3 := hc j hlt
      have c4 := hc' j hlt
      have c1 := R.row.cell hlt
      clear hc hc'
      simp only [Nat.lt_irrefl, if_false, hu] at c1
      rw [hu] at c3
      rw [hv] at c4
      have c2 := R.row.free j
      have HU := Lib.hid hu
      have HV := Lib.hid hv
      have HR2 := Lib.hid R
      have hkw := R.row.lt
      clear hu hv R
      have y1 : (0 : Int) ≤ (j : Int) := by omega
      have y2 : (j : Int) < (W : Int) * (H : Int) := by have := Int.ofNat_lt.2 hlt; simpa using this
      clear HR HS HC R0 hbel1 hbel2
      cases u
      · go_wp2
        refine wp_region_still_tail 16 (by kernel_rfl) (by kernel_rfl) ?_
        simp only [List.take_succ_cons, List.take_zero, List.drop_succ_cons, List.drop_zero]
        iterate 9 (with_reducible refine wpStill_step ?_; intro K hK; go_simp; with_reducible refine hK _ ?_; clear hK K)
        iterate 5 (with_reducible refine still_skip ?_ ?_; kernel_rfl)
        iterate 2 (with_reducible refine wpStill_step ?_; intro K hK; go_simp; with_reducible refine hK _ ?_; clear hK K)
        with_reducible refine wpStill_nil ?_
        change wpList _ _ _ _ _ wr.drew
        go_wp2
        refine ⟨⟨j + 1, by omega, by go_num, ⟨(HR2.out.a.far (by simp; omega) _).drew, (HR2.out.b.far (by simp; omega) _).drew, (HR2.out.res.far (by simp; omega) _).drew, (HR2.out.out.far (by simp; omega) _).drew, ((HR2.out.row.set_ j _).drew.congr fun i hi => ?_),
          HR2.out.ca.below (((Below.refl _ _).setCell (by simp; omega) _).drew), HR2.out.cb.below (((Below.refl _ _).setCell (by simp; omega) _).drew), (HR2.out.bel.setCell (by simp; omega) _).drew⟩⟩, by simp [intOf]; omega⟩
        by_cases e : i = j
        · subst e; rw [if_pos rfl, if_pos (by omega), HU.out, HV.out]; rfl
        · rw [if_neg e]
          by_cases e' : i < j
          · rw [if_pos e', if_pos (by omega)]
          · rw [if_neg e', if_neg (by omega)]
      · go_wp2
        refine wp_region_still_tail 16 (by kernel_rfl) (by kernel_rfl) ?_
        simp only [List.take_succ_cons, List.take_zero, List.drop_succ_cons, List.drop_zero]
        iterate 16 (with_reducible refine wpStill_step ?_; intro K hK; go_simp; with_reducible refine hK _ ?_; clear hK K)
        with_reducible refine wpStill_nil ?_
        change wpList _ _ _ _ _ wr.drew
        go_wp2
        refine ⟨⟨j + 1, by omega, by go_num, ⟨(HR2.out.a.far (by simp; omega) _).drew, (HR2.out.b.far (by simp; omega) _).drew, (HR2.out.res.far (by simp; omega) _).drew, (HR2.out.out.far (by simp; omega) _).drew, ((HR2.out.row.set_ j _).drew.congr fun i hi => ?_),
          HR2.out.ca.below (((Below.refl _ _).setCell (by simp; omega) _).drew), HR2.out.cb.below (((Below.refl _ _).setCell (by simp; omega) _).drew), (HR2.out.bel.setCell (by simp; omega) _).drew⟩⟩, by simp [intOf]; omega⟩
        by_cases e : i = j
        · subst e; rw [if_pos rfl, if_pos (by omega), HU.out, HV.out]; rfl
        · rw [if_neg e]
          by_cases e' : i < j
          · rw [if_pos e', if_pos (by omega)]
          · rw [if_neg e', if_neg (by omega)]
    · have e : j = W * H := by omega
      subst e
      obtain ⟨p0, p1, p2, p3, p4, p5, p6⟩ := R.res.all
      have q0 := R.out.c0
      have q1 := R.out.c1
      have HR2 := Lib.hid R
      clear R
      go_wp2
      refine bodyPost_ret (v := .tuple #[.agg #[.int .i64 W, .int .i64 H, .slice (some ⟨k, 0, none⟩) (W * H) e], .int .i64 0]) (by simp [results, Try.results70, go_sem, p0, p1, p2]) rfl ?_
      exact fin_ref (by omega) (by omega) (HR2.out.row.congr fun i hi => by simp [hi]) HR2.out.bel

set_option maxHeartbeats 1600000 in
theorem join_or (W H : Nat) (A D : Option Addr) (c d : Nat) (f g : Nat → Bool) (w : World) (hr : Holds w w.heap.size A (W * H) f) (hs : Holds w w.heap.size D (W * H) g) (hW0 : 1 ≤ W) (hW : W ≤ 64) (hH0 : 1 ≤ H) (hH : H ≤ 64) :
    Calls Try.prog 70 #[.agg #[.int .i64 W, .int .i64 H, .slice A (W * H) c], .agg #[.int .i64 W, .int .i64 H, .slice D (W * H) d], .bool true] w (OkRef w W H fun i => (f i || g i)) := by
  have hN : W * H ≤ 4096 := Nat.mul_le_mul hW hH
  have hN0 : 0 < W * H := Nat.mul_pos hW0 hH0
  have HC := Lib.hid (fun w => both_snd W H W H A D (W * H) (W * H) c d w 0 (by omega) (chk_zero hW0 hW hH0 hH) (by omega) (chk_zero hW0 hW hH0 hH))
  have HR := Lib.hid hr
  have HS := Lib.hid hs
  clear hr hs
  have z1 : ((W : Int) != (W : Int)) = false := by simp
  have z2 : ((H : Int) != (H : Int)) = false := by simp
  go_enter Try.func70, Try.ntmps70
  go_wp2_with fail
  refine (HC.out _).mono ?_
  rintro e w1 ⟨rfl, hb1⟩
  obtain ⟨hbox1, hbox2, hbox3, hbel1, hsz1⟩ := after3 hb1
  clear hb1
  obtain ⟨q0, q1, q2, q3, q4, q5, q6⟩ := hbox1.all
  obtain ⟨r0, r1, r2, r3, r4, r5, r6⟩ := hbox2.all
  go_wp2_with fail
  refine (twin_some W H A (W * H) c f _ (by omega) hN0 ((HR.out.below hbel1).more hbel1.size)).mono ?_
  rintro e w2 ⟨k, e, rfl, hk, hrow, hb2⟩
  have hbel2 := hbel1.trans (hb2.mono hbel1.size)
  have hsz2 := hb2.size
  have hkl := hrow.lt
  have R0 := Lib.hid (⟨(hbox1.below hb2 (by omega)).alloc _, (hbox2.below hb2 (by omega)).alloc _, (hbox3.below hb2 (by omega)).alloc _, Box.new w2 W H (.slice (some ⟨k, 0, none⟩) (W * H) e),
    (hrow.alloc _).congr (fun i _ => by simp), HR.out.below (hbel2.alloc hbel2.size _), HS.out.below (hbel2.alloc hbel2.size _), hbel2.alloc hbel2.size _⟩ :
    JoinRel w (w2.alloc (.cells #[.int .i64 W, .int .i64 H, .slice (some ⟨k, 0, none⟩) (W * H) e] 24)) W H A D c d f g (fun i => (f i || g i)) w2.heap.size k e 0)
  clear hb2 q0 q1 q2 q3 q4 q5 q6 r0 r1 r2 r3 r4 r5 r6 hbox1 hbox2 hbox3 hrow
  go_wp2
  go_loopw [9] (fun i wr => ∃ j : Nat, j ≤ W * H ∧ i = .int .i64 j ∧ JoinRel w wr W H A D c d f g (fun i => (f i || g i)) w2.heap.size k e j) (fun i _ => W * H - (intOf i).toNat)
  case atStart => exact ⟨0, Nat.zero_le _, rfl, R0.out⟩
  case round =>
    obtain ⟨j, hj, rfl, R⟩ := hrel
    have q2 := R.out.c2
    have q6 := R.out.lt
    have r2 := R.a.c2
    have s2 := R.b.c2
    by_cases hlt : j < W * H
    · obtain ⟨b, o, rfl, hbl, hc⟩ := R.ca (by omega)
      obtain ⟨b', o', rfl, hbl', hc'⟩ := R.cb (by omega)
      obtain ⟨u, hu⟩ : ∃ u, f j = u := ⟨_, rfl⟩
      obtain ⟨v, hv⟩ : ∃ v, g j = v := ⟨_, rfl⟩
      have c3 := hc j hlt
      have c4 := hc' j hlt
      have c1 := R.row.cell hlt
      clear hc hc'
      simp only [Nat.lt_irrefl, if_false, hu] at c1
      rw [hu] at c3
      rw [hv] at c4
      have c2 := R.row.free j
      have HU := Lib.hid hu
      have HV := Lib.hid hv
      have HR2 := Lib.hid R
      have hkw := R.row.lt
      clear hu hv R
      have y1 : (0 : Int) ≤ (j : Int) := by omega
      have y2 : (j : Int) < (W : Int) * (H : Int) := by have := Int.ofNat_lt.2 hlt; simpa using this
      clear HR HS HC R0 hbel1 hbel2
      cases u
      · go_wp2
        refine wp_region_still_tail 16 (by kernel_rfl) (by kernel_rfl) ?_
        simp only [List.take_succ_cons, List.take_zero, List.drop_succ_cons, List.drop_zero]
        iterate 16 (with_reducible refine wpStill_step ?_; intro K hK; go_simp; with_reducible refine hK _ ?_; clear hK K)
        with_reducible refine wpStill_nil ?_
        change wpList _ _ _ _ _ wr.drew
        go_wp2
        refine ⟨⟨j + 1, by omega, by go_num, ⟨(HR2.out.a.far (by simp; omega) _).drew, (HR2.out.b.far (by simp; omega) _).drew, (HR2.out.res.far (by simp; omega) _).drew, (HR2.out.out.far (by simp; omega) _).drew, ((HR2.out.row.set_ j _).drew.congr fun i hi => ?_),
          HR2.out.ca.below (((Below.refl _ _).setCell (by simp; omega) _).drew), HR2.out.cb.below (((Below.refl _ _).setCell (by simp; omega) _).drew), (HR2.out.bel.setCell (by simp; omega) _).drew⟩⟩, by simp [intOf]; omega⟩
        by_cases e : i = j
        · subst e; rw [if_pos rfl, if_pos (by omega), HU.out, HV.out]; rfl
        · rw [if_neg e]
          by_cases e' : i < j
          · rw [if_pos e', if_pos (by omega)]
          · rw [if_neg e', if_neg (by omega)]
      · go_wp2
        refine wp_region_still_tail 16 (by kernel_rfl) (by kernel_rfl) ?_
        simp only [List.take_succ_cons, List.take_zero, List.drop_succ_cons, List.drop_zero]
        iterate 9 (with_reducible refine wpStill_step ?_; intro K hK; go_simp; with_reducible refine hK _ ?_; clear hK K)
        iterate 5 (with_reducible refine still_skip ?_ ?_; kernel_rfl)
        iterate 2 (with_reducible refine wpStill_step ?_; intro K hK; go_simp; with_reducible refine hK _ ?_; clear hK K)
        with_reducible refine wpStill_nil ?_
        change wpList _ _ _ _ _ wr.drew
        go_wp2
        refine ⟨⟨j + 1, by omega, by go_num, ⟨(HR2.out.a.far (by simp; omega) _).drew, (HR2.out.b.far (by simp; omega) _).drew, (HR2.out.res.far (by simp; omega) _).drew, (HR2.out.out.far (by simp; omega) _).drew, ((HR2.out.row.set_ j _).drew.congr fun i hi => ?_),
          HR2.out.ca.below (((Below.refl _ _).setCell (by simp; omega) _).drew), HR2.out.cb.below (((Below.refl _ _).setCell (by simp; omega) _).drew), (HR2.out.bel.setCell (by simp; omega) _).drew⟩⟩, by simp [intOf]; omega⟩
        by_cases e : i = j
        · subst e; rw [if_pos rfl, if_pos (by omega), HU.out, HV.out]; rfl
        · rw [if_neg e]
          by_cases e' : i < j
          · rw [if_pos e', if_pos (by omega)]
          · rw [if_neg e', if_neg (by omega)]
    · have e : j = W * H := by omega
      subst e
      obtain ⟨p0, p1, p2, p3, p4, p5, p6⟩ := R.res.all
      have q0 := R.out.c0
      have q1 := R.out.c1
      have HR2 := Lib.hid R
      clear R
      go_wp2
      refine bodyPost_ret (v := .tuple #[.agg #[.int .i64 W, .int .i64 H, .slice (some ⟨k, 0, none⟩) (W * H) e], .int .i64 0]) (by simp [results, Try.results70, go_sem, p0, p1, p2]) rfl ?_
      exact fin_ref (by omega) (by omega) (HR2.out.row.congr fun i hi => by simp [hi]) HR2.out.bel

end Go.Proofs.Ytnamjpdbadjgpaa
