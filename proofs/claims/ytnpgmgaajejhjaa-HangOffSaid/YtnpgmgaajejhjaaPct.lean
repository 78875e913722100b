/- The program's Count. -/
import Derived.Test.YtnpgmgaajejhjaaThi
import Derived.Test.YtnpgmgaajejhjaaRct
import Derived.Stop.RegionWithIn
import Derived.RangeFuncCalls
namespace Go.Proofs.Ytnpgmgaajejhjaa
open Go.RowKit Go.Shelf
set_option maxRecDepth 100000
set_option linter.unusedVariables false
set_option linter.unusedSimpArgs false

attribute [local go_sem] Oper.semAt_some
/-- What lies while the crossings are counted: s is the heap's size at the call. -/
structure QI (w : World) (s gb W H : Nat) (f : Nat → Bool) (pre : List Th) (X : World) : Prop where
  a : Boxed X (s + 1) 3 (.int .i64 (crs W H f true (min pre.length W) : Nat))
  b : Boxed X (s + 2) 3 (.int .i64 (crs W H f false (pre.length - W) : Nat))
  bel : Below s w X
  sz : gb + 1 < X.heap.size
theorem qi_own (w : World) (s gb W H : Nat) (f : Nat → Bool) (hs : s ≤ w.heap.size) (B : Nat) (hB : s ≤ B) : OwnFrom B (QI w s gb W H f) := by
  have h1 := OwnFrom.and (OwnFrom.and (Own.from (boxed_own (β := List Th) (s + 1) 3 (fun l => .int .i64 (crs W H f true (min l.length W) : Nat))) B) (Own.from (boxed_own (β := List Th) (s + 2) 3 (fun l => .int .i64 (crs W H f false (l.length - W) : Nat))) B)) (ownFrom_below (β := List Th) (w₀ := w) hs hB)
  intro l X Y row h hg hr
  obtain ⟨⟨r1, r2⟩, r3⟩ := h1 l X Y row ⟨⟨h.a, h.b⟩, h.bel⟩ hg hr
  exact ⟨r1, r2, r3, Nat.lt_of_lt_of_le h.sz hg.size⟩
theorem KB.a {P : Nat → Prop} {w : World} (hn : ∀ b, P b → b < w.heap.size) (X : World) (o : Obj) (hX : w.heap.size ≤ X.heap.size) : KB P X (X.alloc o) := fun b hb => Below.heap_alloc X o b (Nat.lt_of_lt_of_le (hn b hb) hX)
theorem KB.w {P : Nat → Prop} {B : Nat} {X Y : World} (h : Below B X Y) (hn : ∀ b, P b → b < B) : KB P X Y := fun b hb => h.block b (hn b hb)
theorem thok_alloc {W H : Nat} {f : Nat → Bool} {pre : List Th} {x : Th} {X : World} (o : Obj) (h : ThOk W H f pre x X) : ThOk W H f pre x (X.alloc o) := ⟨h.1, h.2.1, h.2.2.alloc o⟩
theorem others_below {X Y : World} (h : Below X.heap.size X Y) : KeepsOthers X Y := KeepsOthers.of_grownBy (grown_of h) fun j o e _ => by cases e
set_option maxHeartbeats 3200000 in
theorem pct_ok (W H b o c : Nat) (f : Nat → Bool) (w : World) (hW0 : 1 ≤ W) (hW : W ≤ 64) (hH0 : 1 ≤ H) (hH : H ≤ 64) (hb : b < w.heap.size) (hr : ∀ i, i < W * H → w.cell? ⟨b, o + i, none⟩ = some (.bool (f i))) (hx : chk (W : Nat) (H : Nat) (W * H) = 0) :
    Calls Try.prog 19 #[.agg #[.int .i64 (W : Nat), .int .i64 (H : Nat), .slice (some ⟨b, o, none⟩) (W * H) c]] w fun e w' => e = .returned (.tuple #[.int .i64 (crs W H f true W : Nat), .int .i64 (crs W H f false H : Nat), .int .i64 0]) ∧ Below w.heap.size w w' := by
  have hmf := mk_fn
  have hWH : W * H ≤ 4096 := Nat.mul_le_mul hW hH
  have HK := Lib.hid (fun u => (show Calls Try.prog 64 #[.agg #[.int .i64 (W : Nat), .int .i64 (H : Nat), .slice (some ⟨b, o, none⟩) (W * H) c]] u fun e w' => e = .returned (.int .i64 0) ∧ Below u.heap.size u w' from by have h := chk_any (W : Nat) (H : Nat) (some ⟨b, o, none⟩) (W * H) c u (by omega); rwa [hx] at h))
  have HT := Lib.hid (fun u (hu : Below w.heap.size w u) => thr_any W H b o c f u hW0 hW hH0 hH (Nat.lt_of_lt_of_le hb hu.size) (fun i hi => (hu.cell (p := ⟨b, o + i, none⟩) hb).trans (hr i hi)))
  have X0 := Lib.hid (((Box.new w (W : Nat) (H : Nat) (.slice (some ⟨b, o, none⟩) (W * H) c)).alloc (.cells #[.int .i64 0] 3)).alloc (.cells #[.int .i64 0] 3))
  have hu0 : Below w.heap.size w (((w.alloc (.cells #[.int .i64 (W : Nat), .int .i64 (H : Nat), .slice (some ⟨b, o, none⟩) (W * H) c] 24)).alloc (.cells #[.int .i64 0] 3)).alloc (.cells #[.int .i64 0] 3)) := (((Below.refl _ _).alloc (Nat.le_refl _) _).alloc (by simp) _).alloc (by simp; omega) _
  have ha0 : Boxed (((w.alloc (.cells #[.int .i64 (W : Nat), .int .i64 (H : Nat), .slice (some ⟨b, o, none⟩) (W * H) c] 24)).alloc (.cells #[.int .i64 0] 3)).alloc (.cells #[.int .i64 0] 3)) (w.heap.size + 1) 3 (.int .i64 0) := by
    have h := (Boxed.new (w.alloc (.cells #[.int .i64 (W : Nat), .int .i64 (H : Nat), .slice (some ⟨b, o, none⟩) (W * H) c] 24)) 3 (.int .i64 0)).alloc (.cells #[.int .i64 0] 3)
    rwa [World.size_alloc] at h
  have hb0 : Boxed (((w.alloc (.cells #[.int .i64 (W : Nat), .int .i64 (H : Nat), .slice (some ⟨b, o, none⟩) (W * H) c] 24)).alloc (.cells #[.int .i64 0] 3)).alloc (.cells #[.int .i64 0] 3)) (w.heap.size + 2) 3 (.int .i64 0) := by
    have h := Boxed.new ((w.alloc (.cells #[.int .i64 (W : Nat), .int .i64 (H : Nat), .slice (some ⟨b, o, none⟩) (W * H) c] 24)).alloc (.cells #[.int .i64 0] 3)) 3 (.int .i64 0)
    rwa [World.size_alloc, World.size_alloc] at h
  refine (callsIn_wide (n := 4)).1 ?_
  refine callsIn_of_wp_marks Try.func19 rfl trivial ?_ rfl
  simp only [Try.ntmps19, List.size_toArray, List.length_cons, List.length_nil, Nat.reduceAdd, Nat.reduceSub, Array.replicate_succ, Array.replicate_zero, List.push_toArray, List.append_toArray, List.nil_append, List.cons_append]
  obtain ⟨q0, q1, q2, q3, q4, q5, q6⟩ := X0.out.all
  gi_wp2_with (first
    | (refine ⟨trivial, ?_⟩; gi_at_call 64; refine (callsIn_wide.2 (HK.out _)).mono ?_; rintro e w1 ⟨rfl, hb1⟩; have hu1 := hu0.trans (hb1.mono hu0.size); have X1 := X0.out.below hb1 X0.out.lt; have a1 : Boxed w1 (w.heap.size + 1) 3 (.int .i64 0) := (hb1.block _ ha0.lt).trans ha0; have b1 : Boxed w1 (w.heap.size + 2) 3 (.int .i64 0) := (hb1.block _ hb0.lt).trans hb0; obtain ⟨r0, r1, r2, r3, r4, r5, r6⟩ := X1.all)
    | (refine ⟨trivial, ?_⟩; gi_at_call 65; refine (callsIn_wide.2 (HT.out _ hu1)).mono ?_; rintro e w2 ⟨rfl, hTG, hb2⟩))
  have hs2 : w.heap.size + 2 < w1.heap.size := b1.lt
  have hG := Lib.hid hTG
  have hu2 := hu1.trans (hb2.mono hu1.size)
  have a2 : Boxed w2 (w.heap.size + 1) 3 (.int .i64 0) := (hb2.block _ a1.lt).trans a1
  have b2 : Boxed w2 (w.heap.size + 2) 3 (.int .i64 0) := (hb2.block _ b1.lt).trans b1
  have hQ0 : QI w w.heap.size w1.heap.size W H f [] w2 := ⟨by simpa [crs] using a2, by simpa [crs] using b2, hu2, hTG.k.lt⟩
  have hkl : w1.heap.size + 1 < w2.heap.size := hTG.k.lt
  have hbl : b < w1.heap.size := Nat.lt_of_lt_of_le hb hu1.size
  obtain ⟨gb, hgb⟩ : ∃ g, w1.heap.size = g := ⟨_, rfl⟩
  simp only [hgb] at hG hs2 hkl hbl hQ0 ⊢
  clear q0 q1 q2 q3 q4 q5 q6 r0 r1 r2 r3 r4 r5 r6 X1 a1 b1 a2 b2 hTG HK HT X0 hu0 ha0 hb0 hb1 hb2 hx hr
  have hn0 : ∀ p, (p = b ∨ p = gb ∨ p = gb + 1) → p < w2.heap.size := by
    rintro p (rfl | rfl | rfl) <;> omega
  refine fresh_range (F := Fence.wide) rfl (by omega) (gf := 100) (lb := #[.pointer (some ⟨gb, 0, none⟩), .pointer (some ⟨gb + 1, 0, none⟩)]) rfl trivial (enters_of Try.func100 (by kernel_rfl) rfl)
    (thi_seq (fun p => p = b ∨ p = gb ∨ p = gb + 1) 3 gb (gb + 1) W H b o c f (by omega) (.inr (.inl rfl)) (.inr (.inr rfl)) (.inl rfl) w2 hG.out) (fun _ => rfl)
    (fun h k => KB.t h k) (fun X l o o' hl h h1 h2 => KB.b (w := w2) hn0 X l o o' hl h h1 h2) (fun X o hX => KB.a hn0 X o hX) (fun x => .cells #[.bool x.wp, .int .i64 (x.at_ : Nat)] 89) (fun pre x X h => thok_alloc _ h) (fun pre x X l o o' _ hl ho h => thok_put o' hl ho h)
    (QI w w.heap.size gb W H f) (fun _ _ _ => False) (qi_own w w.heap.size gb W H f (Nat.le_refl _) _ (by omega)) (fun _ _ _ _ _ hs _ _ => hs) hQ0
    (fun x X => { tmps := #[.agg #[.int .i64 (W : Nat), .int .i64 (H : Nat), .slice (some ⟨b, o, none⟩) (W * H) c], .pointer (some ⟨w.heap.size, 0, none⟩), .pointer (some ⟨w.heap.size + 1, 0, none⟩), .pointer (some ⟨w.heap.size + 1 + 1, 0, none⟩), .int .i64 0, .pointer (some ⟨X.heap.size, 0, none⟩), .slice (some ⟨x.k, 0, none⟩) (nc W H x.wp) (nc W H x.wp), .agg #[.int .i64 (W : Nat), .int .i64 (H : Nat), .slice (some ⟨b, o, none⟩) (W * H) c], .int .i64 0, .int .i64 0, .bool false, undef, .agg #[.int .i64 (W : Nat), .int .i64 (H : Nat), .slice (some ⟨b, o, none⟩) (W * H) c], .func (.func 100) #[] #[.pointer (some ⟨gb, 0, none⟩), .pointer (some ⟨gb + 1, 0, none⟩)], .agg #[.bool x.wp, .int .i64 (x.at_ : Nat)], .slice (some ⟨x.k, 0, none⟩) (nc W H x.wp) (nc W H x.wp), undef, undef, undef, undef, undef, undef, undef, undef, undef, undef, undef, undef], defers := [] }) ?assign ?body ?done ?stop
  case assign =>
    intro l x X K hK
    unfold the
    gi_wp2
    first | exact hK | (simpa using hK)
  case body =>
    rintro l pre ⟨wp, at_, k⟩ X X1 hob hI ⟨hlen, hth, hv⟩
    dsimp only at hob hth hv ⊢
    have c0 := Lib.cell_of_heap hob 0
    have hs1 : w.heap.size ≤ X1.heap.size := hI.bel.size
    unfold thn at hth
    by_cases hlt : pre.length < W
    · rw [if_pos hlt] at hth
      obtain ⟨rfl, rfl⟩ := Prod.mk.inj hth
      simp only [nc, if_true] at hv ⊢
      have hN1 : 1 ≤ H := by assumption
      have hN2 : H ≤ 64 := by assumption
      have hC := fun u (h : Below X1.heap.size X1 u) => pcro_any k H H (sd W H f true (pre.length)) hN1 hN2 u (Nat.lt_of_lt_of_le hv.lt h.size) (fun i hi => (h.cell (p := ⟨k, i, none⟩) hv.lt).trans (hv.cell hi))
      have hcl := crs_le W H f true hW hH (pre.length)
      have hql : cro H (sd W H f true (pre.length)) H ≤ 64 := Nat.le_trans (cro_le _ _ _) hN2
      have hS : crs W H f true (pre.length + 1) = crs W H f true (pre.length) + cro H (sd W H f true (pre.length)) H := crs_succ W H f true (pre.length)
      have ea : min pre.length W = pre.length := by omega
      have eb : pre.length - W = 0 := by omega
      have fa : ∀ y, min (pre ++ [(⟨true, pre.length, y⟩ : Th)]).length W = pre.length + 1 := fun y => by rw [List.length_append]; simp; omega
      have fb : ∀ y, (pre ++ [(⟨true, pre.length, y⟩ : Th)]).length - W = 0 := fun y => by rw [List.length_append]; simp; omega
      have hown : Boxed X1 (w.heap.size + 1) 3 (.int .i64 (crs W H f true (pre.length) : Nat)) := by have h := hI.a; rwa [ea] at h
      have hoth := hI.b
      rw [eb] at hoth
      generalize hcS : crs W H f true (pre.length) = cS at *
      generalize hqS : cro H (sd W H f true (pre.length)) H = qS at *
      have hat : pre.length < 64 := by omega
      have hfin : ∀ Y, Below X1.heap.size X1 Y → KeepsOthers X1 (Y.setCell ⟨w.heap.size + 1, 0, none⟩ (.int .i64 ((cS : Int) + (qS : Int)))) ∧ KB (fun p => p = b ∨ p = gb ∨ p = gb + 1) X1 (Y.setCell ⟨w.heap.size + 1, 0, none⟩ (.int .i64 ((cS : Int) + (qS : Int)))) ∧
          QI w w.heap.size gb W H f (pre ++ [⟨true, pre.length, k⟩]) (Y.setCell ⟨w.heap.size + 1, 0, none⟩ (.int .i64 ((cS : Int) + (qS : Int)))) := by
        intro Y hY
        have o1 : Boxed Y (w.heap.size + 1) 3 (.int .i64 (cS : Nat)) := (hY.block _ hown.lt).trans hown
        have o2 := show Boxed Y _ 3 _ from (hY.block _ hoth.lt).trans hoth
        refine ⟨(others_below hY).trans (KeepsOthers.setCell _ _ _), fun p hp => (Below.heap_setCell Y _ _ p ?_).trans (hY.block p ?_), ⟨?_, ?_, (hI.bel.trans (hY.mono hs1)).setCell (by simp) _, by rw [World.size_setCell]; exact Nat.lt_of_lt_of_le hI.sz hY.size⟩⟩
        · rcases hp with rfl | rfl | rfl <;> simp <;> omega
        · have hz := hI.sz
          rcases hp with rfl | rfl | rfl <;> omega
        · have h := o1.set (.int .i64 ((cS : Int) + (qS : Int)))
          rw [fa, hS, Int.natCast_add]; exact h
        · rw [fb]; exact o2.other (by omega) _
      clear hI hoth hS hcS hqS hlen hv hob hQ0 hn0
      have HC := Lib.hid hC
      have HFn := Lib.hid hfin
      have hcell := hown.cell
      have hfroz := hown.frozen
      have hol := hown.lt
      clear hC hfin
      gi_wp2
      gi_region_with (refine ⟨trivial, ?_⟩; gi_at_call 66; refine (CallsIn.inRound l (callsIn_wide.2 (HC.out _ (by first | exact Below.refl _ _ | exact (Below.refl _ _).drew)))).mono ?_; rintro e u1 ⟨rfl, hb4⟩; have hb5 : Below X1.heap.size X1 u1 := (by first | exact hb4 | exact (Below.refl _ _).drew.trans hb4); have hcell2 : u1.cell? ⟨w.heap.size + 1, 0, none⟩ = some (.int .i64 (cS : Nat)) := (hb5.cell (p := ⟨w.heap.size + 1, 0, none⟩) hol).trans hcell; have hfroz2 : u1.frozen? ⟨w.heap.size + 1, 0, none⟩ = false := (hb5.frozen (p := ⟨w.heap.size + 1, 0, none⟩) hol).trans hfroz)
      all_goals
        gi_wp2
        rw [show IntKind.i64.wrap ((cS : Int) + (qS : Int)) = (cS : Int) + (qS : Int) from IntWalk.i64_in _ (by omega)]
        exact HFn.out _ hb5
    · rw [if_neg hlt] at hth
      obtain ⟨rfl, rfl⟩ := Prod.mk.inj hth
      simp only [nc, Bool.false_eq_true, if_false] at hv ⊢
      have hN1 : 1 ≤ W := by assumption
      have hN2 : W ≤ 64 := by assumption
      have hC := fun u (h : Below X1.heap.size X1 u) => pcro_any k W W (sd W H f false (pre.length - W)) hN1 hN2 u (Nat.lt_of_lt_of_le hv.lt h.size) (fun i hi => (h.cell (p := ⟨k, i, none⟩) hv.lt).trans (hv.cell hi))
      have hcl := crs_le W H f false hW hH (pre.length - W)
      have hql : cro W (sd W H f false (pre.length - W)) W ≤ 64 := Nat.le_trans (cro_le _ _ _) hN2
      have hS : crs W H f false (pre.length - W + 1) = crs W H f false (pre.length - W) + cro W (sd W H f false (pre.length - W)) W := crs_succ W H f false (pre.length - W)
      have ea : pre.length - W = pre.length - W := rfl
      have eb : min pre.length W = W := by omega
      have fa : ∀ y, (pre ++ [(⟨false, pre.length - W, y⟩ : Th)]).length - W = pre.length - W + 1 := fun y => by rw [List.length_append]; simp; omega
      have fb : ∀ y, min (pre ++ [(⟨false, pre.length - W, y⟩ : Th)]).length W = W := fun y => by rw [List.length_append]; simp; omega
      have hown : Boxed X1 (w.heap.size + 2) 3 (.int .i64 (crs W H f false (pre.length - W) : Nat)) := by have h := hI.b; rwa [ea] at h
      have hoth := hI.a
      rw [eb] at hoth
      generalize hcS : crs W H f false (pre.length - W) = cS at *
      generalize hqS : cro W (sd W H f false (pre.length - W)) W = qS at *
      have hat : pre.length - W < 64 := by omega
      have hfin : ∀ Y, Below X1.heap.size X1 Y → KeepsOthers X1 (Y.setCell ⟨w.heap.size + 2, 0, none⟩ (.int .i64 ((cS : Int) + (qS : Int)))) ∧ KB (fun p => p = b ∨ p = gb ∨ p = gb + 1) X1 (Y.setCell ⟨w.heap.size + 2, 0, none⟩ (.int .i64 ((cS : Int) + (qS : Int)))) ∧
          QI w w.heap.size gb W H f (pre ++ [⟨false, pre.length - W, k⟩]) (Y.setCell ⟨w.heap.size + 2, 0, none⟩ (.int .i64 ((cS : Int) + (qS : Int)))) := by
        intro Y hY
        have o1 : Boxed Y (w.heap.size + 2) 3 (.int .i64 (cS : Nat)) := (hY.block _ hown.lt).trans hown
        have o2 := show Boxed Y _ 3 _ from (hY.block _ hoth.lt).trans hoth
        refine ⟨(others_below hY).trans (KeepsOthers.setCell _ _ _), fun p hp => (Below.heap_setCell Y _ _ p ?_).trans (hY.block p ?_), ⟨?_, ?_, (hI.bel.trans (hY.mono hs1)).setCell (by simp) _, by rw [World.size_setCell]; exact Nat.lt_of_lt_of_le hI.sz hY.size⟩⟩
        · rcases hp with rfl | rfl | rfl <;> simp <;> omega
        · have hz := hI.sz
          rcases hp with rfl | rfl | rfl <;> omega
        · rw [fb]; exact o2.other (by omega) _
        · have h := o1.set (.int .i64 ((cS : Int) + (qS : Int)))
          rw [fa, hS, Int.natCast_add]; exact h
      clear hI hoth hS hcS hqS hlen hv hob hQ0 hn0
      have HC := Lib.hid hC
      have HFn := Lib.hid hfin
      have hcell := hown.cell
      have hfroz := hown.frozen
      have hol := hown.lt
      clear hC hfin
      gi_wp2
      gi_region_with (refine ⟨trivial, ?_⟩; gi_at_call 66; refine (CallsIn.inRound l (callsIn_wide.2 (HC.out _ (by first | exact Below.refl _ _ | exact (Below.refl _ _).drew)))).mono ?_; rintro e u1 ⟨rfl, hb4⟩; have hb5 : Below X1.heap.size X1 u1 := (by first | exact hb4 | exact (Below.refl _ _).drew.trans hb4); have hcell2 : u1.cell? ⟨w.heap.size + 2, 0, none⟩ = some (.int .i64 (cS : Nat)) := (hb5.cell (p := ⟨w.heap.size + 2, 0, none⟩) hol).trans hcell; have hfroz2 : u1.frozen? ⟨w.heap.size + 2, 0, none⟩ = false := (hb5.frozen (p := ⟨w.heap.size + 2, 0, none⟩) hol).trans hfroz)
      all_goals
        gi_wp2
        rw [show IntKind.i64.wrap ((cS : Int) + (qS : Int)) = (cS : Int) + (qS : Int) from IntWalk.i64_in _ (by omega)]
        exact HFn.out _ hb5
  case done =>
    rintro D ys X hD hS hI hK
    have ea : min ys.length W = W := by omega
    have eb : ys.length - W = H := by omega
    have o1 := hI.a
    have o2 := hI.b
    rw [ea] at o1
    rw [eb] at o2
    have q1 := o1.cell
    have q2 := o2.cell
    have q3 := o1.frozen
    have q4 := o2.frozen
    generalize hSt : crs W H f true W = St at *
    generalize hSf : crs W H f false H = Sf at *
    have hbel := hI.bel
    have hDs : w.heap.size ≤ D := by omega
    clear hI ea eb
    gi_wp2
    gi_region
    all_goals
      gi_wp2
      have hlD : w.heap.size + 2 < D := by omega
      have hKZ : (((X.setCell ⟨w.heap.size + 1, 0, none⟩ (.int .i64 (St : Nat))).setCell ⟨w.heap.size + 1 + 1, 0, none⟩ (.int .i64 (Sf : Nat))).drew).heap[D]? = some (.deferred (some [])) :=
        (Below.heap_setCell _ ⟨w.heap.size + 1 + 1, 0, none⟩ _ D (by simp; omega)).trans ((Below.heap_setCell X ⟨w.heap.size + 1, 0, none⟩ _ D (by simp; omega)).trans hK)
      have g1 : Boxed (((X.setCell ⟨w.heap.size + 1, 0, none⟩ (.int .i64 (St : Nat))).setCell ⟨w.heap.size + 1 + 1, 0, none⟩ (.int .i64 (Sf : Nat))).drew) (w.heap.size + 1) 3 (.int .i64 (St : Nat)) := ((o1.set (.int .i64 (St : Nat))).other (by omega) _)
      have g2 : Boxed (((X.setCell ⟨w.heap.size + 1, 0, none⟩ (.int .i64 (St : Nat))).setCell ⟨w.heap.size + 1 + 1, 0, none⟩ (.int .i64 (Sf : Nat))).drew) (w.heap.size + 1 + 1) 3 (.int .i64 (Sf : Nat)) := ((Boxed.other (B' := w.heap.size + 1) o2 (by omega) (.int .i64 (St : Nat))).set (.int .i64 (Sf : Nat)))
      have hbZ : Below w.heap.size w (((X.setCell ⟨w.heap.size + 1, 0, none⟩ (.int .i64 (St : Nat))).setCell ⟨w.heap.size + 1 + 1, 0, none⟩ (.int .i64 (Sf : Nat))).drew) := ((hbel.setCell (by simp) _).setCell (by simp; omega) _).drew
      generalize ((X.setCell ⟨w.heap.size + 1, 0, none⟩ (.int .i64 (St : Nat))).setCell ⟨w.heap.size + 1 + 1, 0, none⟩ (.int .i64 (Sf : Nat))).drew = Z at *
      have e1 : (Z.putObj D (.deferred none)).cell? ⟨w.heap.size + 1, 0, none⟩ = some (.int .i64 (St : Nat)) := (show Boxed (Z.putObj D (.deferred none)) (w.heap.size + 1) 3 _ from (World.putObj_heap_other (by omega)).trans g1).cell
      have e2 : (Z.putObj D (.deferred none)).cell? ⟨w.heap.size + 1 + 1, 0, none⟩ = some (.int .i64 (Sf : Nat)) := (show Boxed (Z.putObj D (.deferred none)) (w.heap.size + 1 + 1) 3 _ from (World.putObj_heap_other (by omega)).trans g2).cell
      have hbP : Below w.heap.size w (Z.putObj D (.deferred none)) := hbZ.grown (grownBy_putObj' Z D _) hbZ.size (fun k e => by cases e; omega)
      refine ⟨by simp, .inl ⟨_, _, rfl, run_takeDeferred hKZ, ?_⟩⟩
      refine ⟨.tuple #[.int .i64 (St : Nat), .int .i64 (Sf : Nat), .int .i64 0], by simp [results, Try.results19, go_sem, e1, e2], ?_, hbP⟩
      rw [hSt, hSf]
  case stop =>
    rintro D c pre X _ h _
    exact h.elim
end Go.Proofs.Ytnpgmgaajejhjaa
