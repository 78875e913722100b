/- The program's Crossings. -/
import Derived.Test.YtnpgmgaajejhjaaPct
namespace Go.Proofs.Ytnpgmgaajejhjaa
open Go.RowKit Go.Shelf
set_option maxRecDepth 100000
set_option linter.unusedVariables false
set_option linter.unusedSimpArgs false

attribute [local go_sem] Oper.semAt_some
/-- What lies while the thread that is asked for is sought: s is the heap's size at the call, ab the variable of what is asked. -/
structure RI (w : World) (s ab gb tgt : Nat) (warp : Bool) (a : Int) (pre : List Th) (X : World) : Prop where
  r1 : Boxed X (s + 1) 3 (.int .i64 0)
  r2 : Boxed X (s + 2) 27 (.int .i64 0)
  ask : X.heap[ab]? = some (.cells #[.bool warp, .int .i64 a] 89 (0, 0))
  bel : Below s w X
  sz : gb + 1 < X.heap.size
  le : pre.length ≤ tgt
/-- .. and when it was found. -/
structure RX (w : World) (s : Nat) (q : Nat) (pre : List Th) (X : World) : Prop where
  r1 : Boxed X (s + 1) 3 (.int .i64 (q : Nat))
  r2 : Boxed X (s + 2) 27 (.int .i64 0)
  bel : Below s w X
theorem cells_own {β : Type} (B : Nat) (cs : Array Value) (t : TypeId) : Own (fun (_ : β) X => X.heap[B]? = some (.cells cs t (0, 0))) := by
  intro _ X Y row h hg hrow
  exact (hg.block B (Array.getElem?_eq_some_iff.1 h).1 (fun e => by obtain ⟨o, ho, hc⟩ := hrow B e.symm; rw [h] at ho; cases ho; cases hc)).trans h
theorem ri_own (w : World) (s ab gb tgt : Nat) (warp : Bool) (a : Int) (hs : s ≤ w.heap.size) (B : Nat) (hB : s ≤ B) : OwnFrom B (RI w s ab gb tgt warp a) := by
  have h1 := OwnFrom.and (OwnFrom.and (OwnFrom.and (Own.from (boxed_own (β := List Th) (s + 1) 3 (fun _ => .int .i64 0)) B) (Own.from (boxed_own (β := List Th) (s + 2) 27 (fun _ => .int .i64 0)) B)) (Own.from (cells_own (β := List Th) ab #[.bool warp, .int .i64 a] 89) B)) (ownFrom_below (β := List Th) (w₀ := w) hs hB)
  intro l X Y row h hg hr
  obtain ⟨⟨⟨r1, r2⟩, r3⟩, r4⟩ := h1 l X Y row ⟨⟨⟨h.r1, h.r2⟩, h.ask⟩, h.bel⟩ hg hr
  exact ⟨r1, r2, r3, r4, Nat.lt_of_lt_of_le h.sz hg.size, h.le⟩
theorem rx_own (w : World) (s q : Nat) (hs : s ≤ w.heap.size) (B : Nat) (hB : s ≤ B) : OwnFrom B (RX w s q) := by
  have h1 := OwnFrom.and (OwnFrom.and (Own.from (boxed_own (β := List Th) (s + 1) 3 (fun _ => .int .i64 (q : Nat))) B) (Own.from (boxed_own (β := List Th) (s + 2) 27 (fun _ => .int .i64 0)) B)) (ownFrom_below (β := List Th) (w₀ := w) hs hB)
  intro l X Y row h hg hr
  obtain ⟨⟨r1, r2⟩, r3⟩ := h1 l X Y row ⟨⟨h.r1, h.r2⟩, h.bel⟩ hg hr
  exact ⟨r1, r2, r3⟩
set_option maxHeartbeats 3200000 in
theorem pcs_gen (W H b o c : Nat) (f : Nat → Bool) (warp : Bool) (a : Int) (tgt : Nat) (w : World) (hW0 : 1 ≤ W) (hW : W ≤ 64) (hH0 : 1 ≤ H) (hH : H ≤ 64) (hb : b < w.heap.size) (hr : ∀ i, i < W * H → w.cell? ⟨b, o + i, none⟩ = some (.bool (f i))) (hx : chk (W : Nat) (H : Nat) (W * H) = 0)
    (htg : tgt ≤ W + H) (hne : ∀ i, i < W + H → i ≠ tgt → ((thn W i).1 == warp && (((thn W i).2 : Nat) : Int) == a) = false) (heq : tgt < W + H → (thn W tgt).1 = warp ∧ (((thn W tgt).2 : Nat) : Int) = a) (r1 r2 : Int)
    (hr1 : tgt < W + H → r1 = (cro (nc W H warp) (sd W H f warp (thn W tgt).2) (nc W H warp) : Nat) ∧ r2 = 0) (hr2 : tgt = W + H → r1 = 0 ∧ r2 = 2) :
    Calls Try.prog 22 #[.agg #[.int .i64 (W : Nat), .int .i64 (H : Nat), .slice (some ⟨b, o, none⟩) (W * H) c], .bool warp, .int .i64 a] w fun e w' => e = .returned (.tuple #[.int .i64 r1, .int .i64 r2]) ∧ Below w.heap.size w w' := by
  have hmf := mk_fn
  have hWH : W * H ≤ 4096 := Nat.mul_le_mul hW hH
  have HK := Lib.hid (fun u => (show Calls Try.prog 64 #[.agg #[.int .i64 (W : Nat), .int .i64 (H : Nat), .slice (some ⟨b, o, none⟩) (W * H) c]] u fun e w' => e = .returned (.int .i64 0) ∧ Below u.heap.size u w' from by have h := chk_any (W : Nat) (H : Nat) (some ⟨b, o, none⟩) (W * H) c u (by omega); rwa [hx] at h))
  have HT := Lib.hid (fun u (hu : Below w.heap.size w u) => thr_any W H b o c f u hW0 hW hH0 hH (Nat.lt_of_lt_of_le hb hu.size) (fun i hi => (hu.cell (p := ⟨b, o + i, none⟩) hb).trans (hr i hi)))
  have X0 := Lib.hid (((Box.new w (W : Nat) (H : Nat) (.slice (some ⟨b, o, none⟩) (W * H) c)).alloc (.cells #[.int .i64 0] 3)).alloc (.cells #[.int .i64 0] 27))
  have hu0 : Below w.heap.size w (((w.alloc (.cells #[.int .i64 (W : Nat), .int .i64 (H : Nat), .slice (some ⟨b, o, none⟩) (W * H) c] 24)).alloc (.cells #[.int .i64 0] 3)).alloc (.cells #[.int .i64 0] 27)) := (((Below.refl _ _).alloc (Nat.le_refl _) _).alloc (by simp) _).alloc (by simp; omega) _
  have ha0 : Boxed (((w.alloc (.cells #[.int .i64 (W : Nat), .int .i64 (H : Nat), .slice (some ⟨b, o, none⟩) (W * H) c] 24)).alloc (.cells #[.int .i64 0] 3)).alloc (.cells #[.int .i64 0] 27)) (w.heap.size + 1) 3 (.int .i64 0) := by
    have h := (Boxed.new (w.alloc (.cells #[.int .i64 (W : Nat), .int .i64 (H : Nat), .slice (some ⟨b, o, none⟩) (W * H) c] 24)) 3 (.int .i64 0)).alloc (.cells #[.int .i64 0] 27)
    rwa [World.size_alloc] at h
  have hb0 : Boxed (((w.alloc (.cells #[.int .i64 (W : Nat), .int .i64 (H : Nat), .slice (some ⟨b, o, none⟩) (W * H) c] 24)).alloc (.cells #[.int .i64 0] 3)).alloc (.cells #[.int .i64 0] 27)) (w.heap.size + 2) 27 (.int .i64 0) := by
    have h := Boxed.new ((w.alloc (.cells #[.int .i64 (W : Nat), .int .i64 (H : Nat), .slice (some ⟨b, o, none⟩) (W * H) c] 24)).alloc (.cells #[.int .i64 0] 3)) 27 (.int .i64 0)
    rwa [World.size_alloc, World.size_alloc] at h
  refine (callsIn_wide (n := 4)).1 ?_
  refine callsIn_of_wp_marks Try.func22 rfl trivial ?_ rfl
  simp only [Try.ntmps22, List.size_toArray, List.length_cons, List.length_nil, Nat.reduceAdd, Nat.reduceSub, Array.replicate_succ, Array.replicate_zero, List.push_toArray, List.append_toArray, List.nil_append, List.cons_append]
  obtain ⟨q0, q1, q2, q3, q4, q5, q6⟩ := X0.out.all
  gi_wp2_with (first
    | (refine ⟨trivial, ?_⟩; gi_at_call 64; refine (callsIn_wide.2 (HK.out _)).mono ?_; rintro e w1 ⟨rfl, hb1⟩; have hu1 := hu0.trans (hb1.mono hu0.size); have X1 := X0.out.below hb1 X0.out.lt; have a1 : Boxed w1 (w.heap.size + 1) 3 (.int .i64 0) := (hb1.block _ ha0.lt).trans ha0; have b1 : Boxed w1 (w.heap.size + 2) 27 (.int .i64 0) := (hb1.block _ hb0.lt).trans hb0; obtain ⟨r0, r1', r2', r3, r4, r5, r6⟩ := (X1.alloc (.cells #[.bool warp, .int .i64 a] 89)).all)
    | (refine ⟨trivial, ?_⟩; gi_at_call 65; refine (callsIn_wide.2 (HT.out _ (hu1.alloc hu1.size _))).mono ?_; rintro e w2 ⟨rfl, hTG, hb2⟩))
  obtain ⟨ab, hab⟩ : ∃ g, w1.heap.size = g := ⟨_, rfl⟩
  have hask : w2.heap[ab]? = some (.cells #[.bool warp, .int .i64 a] 89 (0, 0)) := by
    rw [← hab]
    exact (hb2.block _ (by simp)).trans (World.alloc_heap_new w1 _)
  have hs2 : w.heap.size + 2 < w1.heap.size := b1.lt
  have hsz1 : (w1.alloc (.cells #[.bool warp, .int .i64 a] 89)).heap.size = ab + 1 := by rw [World.size_alloc, hab]
  have hu2 := (hu1.alloc hu1.size (.cells #[.bool warp, .int .i64 a] 89)).trans (hb2.mono (by have := hu1.size; simp; omega))
  have a2 : Boxed w2 (w.heap.size + 1) 3 (.int .i64 0) := (hb2.block _ (by simp; omega)).trans (a1.alloc _)
  have b2 : Boxed w2 (w.heap.size + 2) 27 (.int .i64 0) := (hb2.block _ (by simp; omega)).trans (b1.alloc _)
  rw [hsz1] at hTG
  have hG := Lib.hid hTG
  have hQ0 : RI w w.heap.size ab (ab + 1) tgt warp a [] w2 := ⟨a2, b2, hask, hu2, hTG.k.lt, Nat.zero_le _⟩
  have hkl : ab + 1 + 1 < w2.heap.size := hTG.k.lt
  have hbl : b < ab := by rw [← hab]; exact Nat.lt_of_lt_of_le hb hu1.size
  simp only [hab] at hs2 ⊢
  clear q0 q1 q2 q3 q4 q5 q6 r0 r1' r2' r3 r4 r5 r6 X1 a1 b1 a2 b2 hTG HK HT X0 hu0 ha0 hb0 hb1 hb2 hx hr hsz1 hask hu2
  have hn0 : ∀ p, (p = b ∨ p = ab + 1 ∨ p = ab + 1 + 1) → p < w2.heap.size := by
    rintro p (rfl | rfl | rfl) <;> omega
  refine fresh_range (F := Fence.wide) rfl (by omega) (gf := 100) (lb := #[.pointer (some ⟨ab + 1, 0, none⟩), .pointer (some ⟨ab + 1 + 1, 0, none⟩)]) rfl trivial (enters_of Try.func100 (by kernel_rfl) rfl)
    (thi_seq (fun p => p = b ∨ p = ab + 1 ∨ p = ab + 1 + 1) 3 (ab + 1) (ab + 1 + 1) W H b o c f (by omega) (.inr (.inl rfl)) (.inr (.inr rfl)) (.inl rfl) w2 hG.out) (fun _ => rfl)
    (fun h k => KB.t h k) (fun X l o o' hl h h1 h2 => KB.b (w := w2) hn0 X l o o' hl h h1 h2) (fun X o hX => KB.a hn0 X o hX) (fun x => .cells #[.bool x.wp, .int .i64 (x.at_ : Nat)] 89) (fun pre x X h => thok_alloc _ h) (fun pre x X l o o' _ hl ho h => thok_put o' hl ho h)
    (RI w w.heap.size ab (ab + 1) tgt warp a) (fun cd pre X => cd = .ret ∧ tgt < W + H ∧ RX w w.heap.size (cro (nc W H warp) (sd W H f warp (thn W tgt).2) (nc W H warp)) pre X) (ri_own w w.heap.size ab (ab + 1) tgt warp a (Nat.le_refl _) _ (by omega))
    (fun cd s X Y row hs hg hr => ⟨hs.1, hs.2.1, rx_own w w.heap.size _ (Nat.le_refl _) _ (by omega) s X Y row hs.2.2 hg hr⟩) hQ0
    (fun x X => { tmps := #[.agg #[.int .i64 (W : Nat), .int .i64 (H : Nat), .slice (some ⟨b, o, none⟩) (W * H) c], .bool warp, .int .i64 a, .pointer (some ⟨w.heap.size, 0, none⟩), undef, undef, .pointer (some ⟨w.heap.size + 1, 0, none⟩), .pointer (some ⟨w.heap.size + 1 + 1, 0, none⟩), .int .i64 0, .pointer (some ⟨ab, 0, none⟩), .pointer (some ⟨X.heap.size, 0, none⟩), .slice (some ⟨x.k, 0, none⟩) (nc W H x.wp) (nc W H x.wp), .agg #[.int .i64 (W : Nat), .int .i64 (H : Nat), .slice (some ⟨b, o, none⟩) (W * H) c], .int .i64 0, .int .i64 0, .bool false, undef, .bool warp, .int .i64 a, .agg #[.bool warp, .int .i64 a], .agg #[.int .i64 (W : Nat), .int .i64 (H : Nat), .slice (some ⟨b, o, none⟩) (W * H) c], .func (.func 100) #[] #[.pointer (some ⟨ab + 1, 0, none⟩), .pointer (some ⟨ab + 1 + 1, 0, none⟩)], .agg #[.bool x.wp, .int .i64 (x.at_ : Nat)], .slice (some ⟨x.k, 0, none⟩) (nc W H x.wp) (nc W H x.wp), undef, undef, undef, undef, undef], defers := [] }) ?assign ?body ?done ?stop
  case assign =>
    intro l x X K hK
    unfold the
    gi_wp2
    first | exact hK | (simpa using hK)
  case body =>
    rintro l pre ⟨wp, at_, k⟩ X X1 hob hI ⟨hlen, hth, hv⟩
    dsimp only at hob hth hv ⊢
    obtain ⟨h1, h2⟩ : wp = (thn W pre.length).1 ∧ at_ = (thn W pre.length).2 := Prod.mk.inj hth
    have c0 := Lib.cell_of_heap hob 0
    have c1 := Lib.cell_of_heap hob 1
    have c2 := Lib.cell_of_heap hI.ask 0
    have c3 := Lib.cell_of_heap hI.ask 1
    have hs1 : w.heap.size ≤ X1.heap.size := hI.bel.size
    by_cases hit : pre.length = tgt
    · subst hit
      obtain ⟨hw1, ha⟩ := heq hlen
      have hwp : wp = warp := h1.trans hw1
      subst hwp
      have hat : (at_ : Int) = a := by rw [h2]; exact ha
      have hN : nc W H wp ≤ 64 ∧ 1 ≤ nc W H wp := by unfold nc; split <;> omega
      have hC := fun u (h : Below X1.heap.size X1 u) => pcro_any k (nc W H wp) (nc W H wp) (sd W H f wp at_) hN.2 hN.1 u (Nat.lt_of_lt_of_le hv.lt h.size) (fun i hi => (h.cell (p := ⟨k, i, none⟩) hv.lt).trans (hv.cell hi))
      rw [← h2]
      have hq : cro (nc W H wp) (sd W H f wp at_) (nc W H wp) ≤ 64 := Nat.le_trans (cro_le _ _ _) hN.1
      generalize hqq : cro (nc W H wp) (sd W H f wp at_) (nc W H wp) = q at hC hq ⊢
      have o1 := hI.r1
      have o2 := hI.r2
      have hfin : ∀ Y, Below X1.heap.size X1 Y → KeepsOthers X1 ((Y.setCell ⟨w.heap.size + 1, 0, none⟩ (.int .i64 (q : Nat))).setCell ⟨w.heap.size + 2, 0, none⟩ (.int .i64 0)) ∧ KB (fun p => p = b ∨ p = ab + 1 ∨ p = ab + 1 + 1) X1 ((Y.setCell ⟨w.heap.size + 1, 0, none⟩ (.int .i64 (q : Nat))).setCell ⟨w.heap.size + 2, 0, none⟩ (.int .i64 0)) ∧
          RX w w.heap.size q (pre ++ [⟨wp, at_, k⟩]) ((Y.setCell ⟨w.heap.size + 1, 0, none⟩ (.int .i64 (q : Nat))).setCell ⟨w.heap.size + 2, 0, none⟩ (.int .i64 0)) := by
        intro Y hY
        have p1 : Boxed Y (w.heap.size + 1) 3 (.int .i64 0) := (hY.block _ o1.lt).trans o1
        have p2 : Boxed Y (w.heap.size + 2) 27 (.int .i64 0) := (hY.block _ o2.lt).trans o2
        refine ⟨((others_below hY).trans (KeepsOthers.setCell _ _ _)).trans (KeepsOthers.setCell _ _ _), fun p hp => (Below.heap_setCell _ _ _ p ?_).trans ((Below.heap_setCell Y _ _ p ?_).trans (hY.block p ?_)), ⟨(p1.set _).other (by omega) _, (p2.other (by omega) _).set _, ((hI.bel.trans (hY.mono hs1)).setCell (by simp) _).setCell (by simp) _⟩⟩
        · rcases hp with rfl | rfl | rfl <;> simp <;> omega
        · rcases hp with rfl | rfl | rfl <;> simp <;> omega
        · have hz := hI.sz
          rcases hp with rfl | rfl | rfl <;> omega
      have q1 := o1.cell
      have q2 := o2.cell
      have q3 := o1.frozen
      have q4 := o2.frozen
      have l1 := o1.lt
      have l2 := o2.lt
      clear hI hth h1 h2 hv hob hQ0 hn0 heq hne hr1 hr2
      have HC := Lib.hid hC
      have HFn := Lib.hid hfin
      clear hC hfin
      have hu : ¬ (¬ (at_ : Int) = a) := fun h => h hat
      gi_wp2
      all_goals first | (exact (hu ‹_›).elim) | skip
      refine ⟨trivial, ?_⟩
      gi_at_call 66
      refine (CallsIn.inRound l (callsIn_wide.2 (HC.out _ (by first | exact Below.refl _ _ | exact (Below.refl _ _).drew)))).mono ?_
      rintro e u1 ⟨rfl, hb4⟩
      have p1 : Boxed u1 (w.heap.size + 1) 3 (.int .i64 0) := (hb4.block _ l1).trans o1
      have p2 : Boxed u1 (w.heap.size + 2) 27 (.int .i64 0) := (hb4.block _ l2).trans o2
      have e1 := p1.cell
      have e2 := p2.cell
      have e3 := p1.frozen
      have e4 := p2.frozen
      have hF := HFn.out u1 hb4
      gi_wp2
      exact ⟨hF.1, rfl, hlen, hF.2.2⟩
    · have hf := hne pre.length hlen hit
      rw [← h1, ← h2] at hf
      have hle := hI.le
      have hfin : RI w w.heap.size ab (ab + 1) tgt warp a (pre ++ [⟨wp, at_, k⟩]) X1 := ⟨hI.r1, hI.r2, hI.ask, hI.bel, hI.sz, by rw [List.length_append]; simp; omega⟩
      have HF := Lib.hid hfin
      clear hfin hI hth h1 h2 hv hob hQ0 hn0 heq hne hr1 hr2
      have hu := show ∀ (h : wp = warp) (h' : (at_ : Int) = a), False from fun h h' => by rw [h, h'] at hf; simp at hf
      gi_wp2
      all_goals first
        | exact ⟨KeepsOthers.refl _, KB.refl _ _, HF.out⟩
        | (exact (hu ‹_› ‹_›).elim)
  case done =>
    rintro D ys X hD hS hI hK
    have hT : tgt = W + H := by have := hI.le; omega
    obtain ⟨rfl, rfl⟩ := hr2 hT
    have o1 := hI.r1
    have o2 := hI.r2
    have hbel := hI.bel
    have q3 := o1.frozen
    have q4 := o2.frozen
    have q5 := o1.cell
    have q6 := o2.cell
    clear hI
    gi_wp2
    all_goals
      have hlD : w.heap.size + 2 < D := by omega
      have hKZ : ((X.setCell ⟨w.heap.size + 1, 0, none⟩ (.int .i64 0)).setCell ⟨w.heap.size + 1 + 1, 0, none⟩ (.int .i64 2)).heap[D]? = some (.deferred (some [])) :=
        (Below.heap_setCell _ ⟨w.heap.size + 1 + 1, 0, none⟩ _ D (by simp; omega)).trans ((Below.heap_setCell X ⟨w.heap.size + 1, 0, none⟩ _ D (by simp; omega)).trans hK)
      have g1 : Boxed ((X.setCell ⟨w.heap.size + 1, 0, none⟩ (.int .i64 0)).setCell ⟨w.heap.size + 1 + 1, 0, none⟩ (.int .i64 2)) (w.heap.size + 1) 3 (.int .i64 0) := ((o1.set (.int .i64 0)).other (by omega) _)
      have g2 : Boxed ((X.setCell ⟨w.heap.size + 1, 0, none⟩ (.int .i64 0)).setCell ⟨w.heap.size + 1 + 1, 0, none⟩ (.int .i64 2)) (w.heap.size + 1 + 1) 27 (.int .i64 2) := ((Boxed.other (B' := w.heap.size + 1) o2 (by omega) (.int .i64 0)).set (.int .i64 2))
      have hbZ : Below w.heap.size w ((X.setCell ⟨w.heap.size + 1, 0, none⟩ (.int .i64 0)).setCell ⟨w.heap.size + 1 + 1, 0, none⟩ (.int .i64 2)) := ((hbel.setCell (by simp) _).setCell (by simp; omega) _)
      generalize (X.setCell ⟨w.heap.size + 1, 0, none⟩ (.int .i64 0)).setCell ⟨w.heap.size + 1 + 1, 0, none⟩ (.int .i64 2) = Z at *
      have e1 : (Z.putObj D (.deferred none)).cell? ⟨w.heap.size + 1, 0, none⟩ = some (.int .i64 0) := (show Boxed (Z.putObj D (.deferred none)) (w.heap.size + 1) 3 _ from (World.putObj_heap_other (by omega)).trans g1).cell
      have e2 : (Z.putObj D (.deferred none)).cell? ⟨w.heap.size + 1 + 1, 0, none⟩ = some (.int .i64 2) := (show Boxed (Z.putObj D (.deferred none)) (w.heap.size + 1 + 1) 27 _ from (World.putObj_heap_other (by omega)).trans g2).cell
      have hbP : Below w.heap.size w (Z.putObj D (.deferred none)) := hbZ.grown (grownBy_putObj' Z D _) hbZ.size (fun k e => by cases e; omega)
      refine ⟨by simp, .inl ⟨_, _, rfl, run_takeDeferred hKZ, ?_⟩⟩
      exact ⟨.tuple #[.int .i64 0, .int .i64 2], by simp [results, Try.results22, go_sem, e1, e2], rfl, hbP⟩
  case stop =>
    rintro D cd pre X hD ⟨rfl, hlt, hX⟩ hK
    obtain ⟨rfl, rfl⟩ := hr1 hlt
    have o1 := hX.r1
    have o2 := hX.r2
    have hbel := hX.bel
    have hlD : w.heap.size + 2 < D := by omega
    generalize hq : cro (nc W H warp) (sd W H f warp (thn W tgt).2) (nc W H warp) = q at o1
    clear hX
    gi_wp2
    have e1 : (X.putObj D (.deferred none)).cell? ⟨w.heap.size + 1, 0, none⟩ = some (.int .i64 (q : Nat)) := (show Boxed (X.putObj D (.deferred none)) (w.heap.size + 1) 3 _ from (World.putObj_heap_other (by omega)).trans o1).cell
    have e2 : (X.putObj D (.deferred none)).cell? ⟨w.heap.size + 1 + 1, 0, none⟩ = some (.int .i64 0) := (show Boxed (X.putObj D (.deferred none)) (w.heap.size + 1 + 1) 27 _ from (World.putObj_heap_other (by omega)).trans o2).cell
    have hbP : Below w.heap.size w (X.putObj D (.deferred none)) := hbel.grown (grownBy_putObj' X D _) hbel.size (fun k e => by cases e; omega)
    refine ⟨by simp, .inl ⟨_, _, rfl, run_takeDeferred hK, ?_⟩⟩
    exact ⟨.tuple #[.int .i64 (q : Nat), .int .i64 0], by simp [results, Try.results22, go_sem, e1, e2], by first | rfl | rw [hq], hbP⟩
end Go.Proofs.Ytnpgmgaajejhjaa
