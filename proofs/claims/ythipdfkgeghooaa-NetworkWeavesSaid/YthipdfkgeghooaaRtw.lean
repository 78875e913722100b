/- The reference's copy of a network. -/
import Derived.Test.YthipdfkgeghooaaNck
namespace Go.Proofs.Ythipdfkgeghooaa
open Go.RowKit
set_option maxRecDepth 100000
set_option linter.unusedVariables false
set_option linter.unusedSimpArgs false

theorem own_row0 {w : World} {base g n cap : Nat} {f : Nat → Int} (h : w.ownsRow base 3 1 (.slice (some ⟨g, 0, none⟩) n cap) n (L2.news n f)) (hn : 0 < n) : L2.Row w g n f := by
  obtain ⟨A, c, e, _, hr⟩ := L2.Own.out (show L2.Own w base _ n f from h)
  cases e
  obtain ⟨k, e2, _, h3⟩ := hr hn
  cases e2
  exact h3
theorem iappend_none (g : Nat) (A : Option Addr) (c : Nat) (ty : TypeId) (w : World) : (Builtin.append_ #[22, 22] ty #[.slice (some ⟨g, 0, none⟩) 0 0, .slice A 0 c]).run Try.prog w = .ok (.slice (some ⟨g, 0, none⟩) 0 0) w := by
  obtain ⟨i0, hi, hz0, hz1, hz2⟩ := info_parts L2.TryI.info3
  cases A <;> simp [Builtin.append_, run_underlying Try.underlying22, sizeOf, typeInfo, hi, Builtin.lenOf, Builtin.firstCells, storeCells, loadCells, loadCellsFrom]

/-- .. at a step of a region that draws its order. -/
theorem istep_none {ops : Array Oper} {o : Oper} {a : Act} {w : World} {K : Act → World → Prop} {Q : Exit → Act → World → Prop} {E : Prop} (hgd : o.guard = none) (s x : Operand)
    (ho : o.op = .call { callee := .builtin .append, args := #[s, x], argTypes := #[22, 22] }) (g : Nat) (A : Option Addr) (c : Nat) (hs : a.eval s = .slice (some ⟨g, 0, none⟩) 0 0) (hx : a.eval x = .slice A 0 c)
    (h : ∀ w', w = w' → K (a.put o.dst (.slice (some ⟨g, 0, none⟩) 0 0)) w') : if Region.wanted o (yielded ops a.tmps) = true then Oper.wp Try.prog o a w K Q else E := by
  have hw : Region.wanted o (yielded ops a.tmps) = true := by simp [Region.wanted, hgd]
  rw [if_pos hw]
  have hr := iappend_none g A c o.type w
  unfold Oper.wp execOp
  simp only [ho, resolve, invoke, builtin, Sem.run_bind, Sem.run_pure, Result.andThen_ok, List.map_toArray, List.map_cons, List.map_nil, hs, hx, hr]
  exact h w rfl

theorem itwin_keep {W2 w' : World} {g : Nat} {W H : Int} {v : Value} (hb : IBox W2 g W H v) (h : Below (g + 1) W2 w') :
    w'.cell? ⟨g, 0, none⟩ = some (.int .i64 W) ∧ w'.cell? ⟨g, 1, none⟩ = some (.int .i64 H) ∧ w'.cell? ⟨g, 2, none⟩ = some v :=
  have hx := hb.below h (by omega)
  ⟨hx.c0, hx.c1, hx.c2⟩

set_option maxHeartbeats 800000 in
theorem itwin_some (W H : Int) (A : Option Addr) (n c : Nat) (f : Nat → Int) (w : World) (hn : n ≤ 4200) (h0 : 0 < n) (hr : L2.Holds w w.heap.size A n f) :
    Calls Try.prog 11 #[.agg #[.int .i64 W, .int .i64 H, .slice A n c]] w fun e w' => ∃ k d, e = .returned (.agg #[.int .i64 W, .int .i64 H, .slice (some ⟨k, 0, none⟩) n d]) ∧ w.heap.size ≤ k ∧ L2.Row w' k n f ∧ Below w.heap.size w w' := by
  obtain ⟨b, o, rfl, hlt, hc⟩ := hr h0
  obtain ⟨i0, hi, hz0, hz1, hz2⟩ := info_parts L2.TryI.info3
  have HC := Lib.hid hc
  clear hc
  have hbox1 := (IBox.new w W H (.slice (some ⟨b, o, none⟩) n c)).alloc (.cells #[.int .i64 0, .int .i64 0, .slice none 0 0] 24)
  have hbox2 := IBox.new (w.alloc (.cells #[.int .i64 W, .int .i64 H, .slice (some ⟨b, o, none⟩) n c] 24)) 0 0 (.slice none 0 0)
  have hbel : Below w.heap.size w ((w.alloc (.cells #[.int .i64 W, .int .i64 H, .slice (some ⟨b, o, none⟩) n c] 24)).alloc (.cells #[.int .i64 0, .int .i64 0, .slice none 0 0] 24)) := ((Below.refl _ _).alloc (Nat.le_refl _) _).alloc (by simp) _
  have hsz : ((w.alloc (.cells #[.int .i64 W, .int .i64 H, .slice (some ⟨b, o, none⟩) n c] 24)).alloc (.cells #[.int .i64 0, .int .i64 0, .slice none 0 0] 24)).heap.size = w.heap.size + 2 := by simp
  go_enter Try.func11, Try.ntmps11
  go_wp2
  simp only [World.size_alloc] at hbox2
  generalize (w.alloc (.cells #[.int .i64 W, .int .i64 H, .slice (some ⟨b, o, none⟩) n c] 24)).alloc (.cells #[.int .i64 0, .int .i64 0, .slice none 0 0] 24) = W2 at *
  have HK := Lib.hid (fun w' (h : Below (w.heap.size + 1) W2 w') => itwin_keep hbox1 h)
  have HN : Hid (∀ w', Below w.heap.size W2 w' → ∀ j u, (L2.news n f)[j]? = some u → w'.cell? (Addr.add ⟨b, o, none⟩ j) = some u) := by
    intro w' hb' j u hj
    obtain ⟨hj', rfl⟩ := L2.news_get hj
    have e : Addr.add ⟨b, o, none⟩ j = ⟨b, o + j, none⟩ := by unfold Addr.add; by_cases h : j = 0 <;> simp [h]
    rw [e]
    exact ((hbel.trans hb').cell (p := ⟨b, o + j, none⟩) hlt).trans (HC.out j hj')
  obtain ⟨q0, q1, q2, q3, q4, q5, q6⟩ := hbox1.all
  have HP := Lib.hid hbox2
  have HB := Lib.hid hbel
  clear hbox1 hbox2 hbel hr
  go_region_held3 (fun w' => w'.cell? ⟨w.heap.size, 0, none⟩ = some (.int .i64 W) ∧ w'.cell? ⟨w.heap.size, 1, none⟩ = some (.int .i64 H) ∧ w'.cell? ⟨w.heap.size, 2, none⟩ = some (.slice (some ⟨b, o, none⟩) n c))
    (first
      | exact HK.out _ (Below.refl _ _).drew
      | exact HK.out _ ((Below.refl _ _).drew.alloc (by simp; omega) _)
      | exact HK.out _ (hbx.mono (by omega))
      | exact HK.out _ ((((hbx.mono (by omega)).setCell (by simp) _).setCell (by simp) _).setCell (by simp) _))
    (first
      | (refine step_append_grows rfl (.tmp 7) (.tmp 9) 22 rfl 3 i0 (.int .i64 0) 1 8 Try.underlying22 hi hz0 hz1 hz2 rfl Nat.one_pos (some ⟨w.heap.size + 2, 0, none⟩) 0 0 [] rfl ?_ rfl ?_ ⟨b, o, none⟩ n c (L2.news n f) rfl ?_ ?_ L2.news_one ?_ ?_ ?_ ?_
         intro h; cases h
         intro _ _ j u h; simp at h
         rw [L2.news_length]; omega
         exact HN.out _ ((Below.refl _ _).drew.alloc (by simp; omega) _)
         omega
         unfold maxLen; omega
         omega
         intro v' w1 hown hgr
         have hbx : Below W2.heap.size W2 w1 := ((Below.refl _ _).drew.alloc (by simp) _).grown hgr (by simp) (by simp)
         obtain ⟨g, cap, hv, hg1, hg2⟩ := hown.form (by omega)
         subst hv
         obtain ⟨p0, p1, p2, p3, p4, p5, p6⟩ := (HP.out.below hbx (by omega)).all))
  simp only [Nat.zero_add, List.nil_append] at hown
  have hrow := own_row0 hown h0
  have hgb : w.heap.size + 2 ≤ g := by simp at hg1; omega
  have hb2 := HB.out.trans (hbx.mono (by omega))
  go_wp2
  refine bodyPost_ret (v := .agg #[.int .i64 W, .int .i64 H, .slice (some ⟨g, 0, none⟩) n cap]) (by simp [results, Try.results11, go_sem, p0, p1, p2]) rfl ⟨g, cap, rfl, by omega, ?_, ?_⟩
  · exact ((hrow.far (by simp; omega) _).far (by simp; omega) _).far (by simp; omega) _
  · exact ((hb2.setCell (by simp) _).setCell (by simp) _).setCell (by simp) _

set_option maxHeartbeats 800000 in
theorem itwin_none (W H : Int) (A : Option Addr) (c : Nat) (w : World) :
    Calls Try.prog 11 #[.agg #[.int .i64 W, .int .i64 H, .slice A 0 c]] w fun e w' => ∃ k, e = .returned (.agg #[.int .i64 W, .int .i64 H, .slice (some ⟨k, 0, none⟩) 0 0]) ∧ Below w.heap.size w w' := by
  have hbox1 := (IBox.new w W H (.slice A 0 c)).alloc (.cells #[.int .i64 0, .int .i64 0, .slice none 0 0] 24)
  have hbox2 := IBox.new (w.alloc (.cells #[.int .i64 W, .int .i64 H, .slice A 0 c] 24)) 0 0 (.slice none 0 0)
  have hbel : Below w.heap.size w ((w.alloc (.cells #[.int .i64 W, .int .i64 H, .slice A 0 c] 24)).alloc (.cells #[.int .i64 0, .int .i64 0, .slice none 0 0] 24)) := ((Below.refl _ _).alloc (Nat.le_refl _) _).alloc (by simp) _
  have hsz : ((w.alloc (.cells #[.int .i64 W, .int .i64 H, .slice A 0 c] 24)).alloc (.cells #[.int .i64 0, .int .i64 0, .slice none 0 0] 24)).heap.size = w.heap.size + 2 := by simp
  go_enter Try.func11, Try.ntmps11
  go_wp2
  simp only [World.size_alloc] at hbox2
  generalize (w.alloc (.cells #[.int .i64 W, .int .i64 H, .slice A 0 c] 24)).alloc (.cells #[.int .i64 0, .int .i64 0, .slice none 0 0] 24) = W2 at *
  have HK := Lib.hid (fun w' (h : Below (w.heap.size + 1) W2 w') => itwin_keep hbox1 h)
  obtain ⟨q0, q1, q2, q3, q4, q5, q6⟩ := hbox1.all
  have HP := Lib.hid hbox2
  have HB := Lib.hid hbel
  clear hbox1 hbox2 hbel
  go_region_held3 (fun w' => w'.cell? ⟨w.heap.size, 0, none⟩ = some (.int .i64 W) ∧ w'.cell? ⟨w.heap.size, 1, none⟩ = some (.int .i64 H) ∧ w'.cell? ⟨w.heap.size, 2, none⟩ = some (.slice A 0 c))
    (first
      | exact HK.out _ (Below.refl _ _).drew
      | exact HK.out _ ((Below.refl _ _).drew.alloc (by simp; omega) _)
      | exact HK.out _ (hbx.mono (by omega))
      | exact HK.out _ ((((hbx.mono (by omega)).setCell (by simp) _).setCell (by simp) _).setCell (by simp) _))
    (first
      | (refine istep_none rfl (.tmp 7) (.tmp 9) rfl (w.heap.size + 2) A c rfl rfl ?_
         intro w1 hw1
         have hbx : Below W2.heap.size W2 w1 := hw1 ▸ ((Below.refl _ _).drew.alloc (by simp) _)
         clear hw1
         obtain ⟨p0, p1, p2, p3, p4, p5, p6⟩ := (HP.out.below hbx (by omega)).all))
  go_wp2
  refine bodyPost_ret (v := .agg #[.int .i64 W, .int .i64 H, .slice (some ⟨w.heap.size + 2, 0, none⟩) 0 0]) (by simp [results, Try.results11, go_sem, p0, p1, p2]) rfl ⟨_, rfl, ?_⟩
  exact (((HB.out.trans (hbx.mono (by omega))).setCell (by simp) _).setCell (by simp) _).setCell (by simp) _
theorem itwin_all {W H : Int} {A : Option Addr} {n c : Nat} {f : Nat → Int} (w : World) (hn : n ≤ 4200) (ha : L2.Holds w w.heap.size A n f) : Calls Try.prog 11 #[.agg #[.int .i64 W, .int .i64 H, .slice A n c]] w (RM w W H n f) := by
  rcases Nat.eq_zero_or_pos n with rfl | h0
  · exact (itwin_none W H A c w).mono fun e w' ⟨k, he, hb⟩ => ⟨_, _, he, L2.Holds.none_, hb⟩
  · exact (itwin_some W H A n c f w hn h0 ha).mono fun e w' ⟨k, d, he, hk, hr, hb⟩ => ⟨_, _, he, hr.holds hr.lt, hb⟩
end Go.Proofs.Ythipdfkgeghooaa
