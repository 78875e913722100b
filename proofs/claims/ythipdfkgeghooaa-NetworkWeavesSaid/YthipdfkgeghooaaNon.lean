/- On of the program. -/
import Derived.Test.YthipdfkgeghooaaNit
namespace Go.Proofs.Ythipdfkgeghooaa
open Go.RowKit Go.Shelf
set_option maxRecDepth 100000
set_option linter.unusedVariables false
set_option linter.unusedSimpArgs false

attribute [local go_sem] Oper.semAt_some
/-- Whether each end of a threading is on its shaft. -/
def onB (S N n : Nat) (b : Nat → Nat) (m : Nat) (l : Nat → Nat) : Bool := decide (∀ x, x < m → l x < S ∧ l x % N = b (x % n))
theorem bxb {w w' : World} {B : Nat} {t : TypeId} {v : Value} (h : Boxed w B t v) (hb : Below w.heap.size w w') : Boxed w' B t v := (hb.block B h.lt).trans h
/-- The mark of a loop is taken off: variables stay. -/
theorem bx_take {X : World} {D B : Nat} {t : TypeId} {v : Value} (h : Boxed X B t v) (hK : X.heap[D]? = some (.deferred (some []))) : Boxed (X.putObj D (.deferred none)) B t v :=
  (World.putObj_heap_other (fun e => by subst e; rw [show X.heap[B]? = _ from h] at hK; cases hK)).trans h
theorem bel_take {w X : World} {B D : Nat} (h : Below B w X) (hB : B ≤ D) (hK : X.heap[D]? = some (.deferred (some []))) : Below B w (X.putObj D (.deferred none)) :=
  h.grown (grownBy_putObj' X D (.deferred none)) (Nat.le_trans hB (Nat.le_of_lt (Array.getElem?_eq_some_iff.1 hK).1)) (fun k e => by cases e; exact hB)
theorem tmodn (x n : Nat) : ((x : Nat) : Int).tmod ((n : Nat) : Int) = ((x % n : Nat) : Int) := rfl
set_option maxHeartbeats 1600000 in
theorem on_ok (S N n : Nat) (A : Option Addr) (c : Nat) (b : Nat → Nat) (hO : NOk S N n b) (D : Option Addr) (m d : Nat) (l : Nat → Nat) (hm : m ≤ 400) (w : World) (hb : NH w A n b) (hl : L2.Holds w w.heap.size D m (fun i => ((l i : Nat) : Int))) (hc : L2.lchk m (fun i => ((l i : Nat) : Int)) = 0) :
    Calls Try.prog 14 #[.agg #[.int .i64 (S : Nat), .int .i64 (N : Nat), .slice A n c], .slice D m d] w fun e w' => e = .returned (.tuple #[.bool (onB S N n b m l), .int .i64 0]) ∧ Below w.heap.size w w' := by
  have hmf := mk_fn
  have HO := Lib.hid hO
  have zN : ¬ N = 0 := by have := hO.n0; omega
  have HC := Lib.hid (fun u (hu : Below w.heap.size w u) => nck_any (S : Nat) (N : Nat) A n c (fun i => ((b i : Nat) : Int)) u (by have := hO.l1; omega) ((hb.below hu).more hu.size))
  have HT := Lib.hid (fun u (hu : Below w.heap.size w u) => lc_any D m d (fun i => ((l i : Nat) : Int)) u (by omega) ((hl.below hu).more hu.size))
  rw [nck_zero hO (fun _ _ => rfl)] at HC
  rw [hc] at HT
  have HB := Lib.hid (fun u (hu : Below w.heap.size w u) => (show NH u A n b from (hb.below hu).more hu.size))
  have HL := Lib.hid (fun u (hu : Below w.heap.size w u) => (hl.below hu).more hu.size)
  clear hO hc hb hl
  have z0 : ((0 : Int) != 0) = false := rfl
  refine (callsIn_wide (n := 4)).1 ?_
  refine callsIn_of_wp_marks Try.func14 rfl trivial ?_ rfl
  simp only [Try.ntmps14, List.size_toArray, List.length_cons, List.length_nil, Nat.reduceAdd, Nat.reduceSub, Array.replicate_succ, Array.replicate_zero, List.push_toArray, List.append_toArray, List.nil_append, List.cons_append]
  have hbw : Below w.heap.size w ((((w.alloc (.cells #[.int .i64 (S : Nat), .int .i64 (N : Nat), .slice A n c] 24)).alloc (.cells #[.slice D m d] 22)).alloc (.cells #[.bool false] 4)).alloc (.cells #[.int .i64 0] 27)) := (((bel_alloc w _).alloc (by simp) _).alloc (by simp; omega) _).alloc (by simp; omega) _
  have x1 : IBox ((((w.alloc (.cells #[.int .i64 (S : Nat), .int .i64 (N : Nat), .slice A n c] 24)).alloc (.cells #[.slice D m d] 22)).alloc (.cells #[.bool false] 4)).alloc (.cells #[.int .i64 0] 27)) w.heap.size (S : Nat) (N : Nat) (.slice A n c) := (((IBox.new w _ _ _).alloc _).alloc _).alloc _
  have x2 : SBox ((((w.alloc (.cells #[.int .i64 (S : Nat), .int .i64 (N : Nat), .slice A n c] 24)).alloc (.cells #[.slice D m d] 22)).alloc (.cells #[.bool false] 4)).alloc (.cells #[.int .i64 0] 27)) (w.heap.size + 1) (.slice D m d) := (((by simpa using SBox.new (w.alloc (.cells #[.int .i64 (S : Nat), .int .i64 (N : Nat), .slice A n c] 24)) (.slice D m d) : SBox _ (w.heap.size + 1) _).alloc _).alloc _)
  have x3 : Boxed ((((w.alloc (.cells #[.int .i64 (S : Nat), .int .i64 (N : Nat), .slice A n c] 24)).alloc (.cells #[.slice D m d] 22)).alloc (.cells #[.bool false] 4)).alloc (.cells #[.int .i64 0] 27)) (w.heap.size + 2) 4 (.bool false) := ((by simpa using Boxed.new ((w.alloc (.cells #[.int .i64 (S : Nat), .int .i64 (N : Nat), .slice A n c] 24)).alloc (.cells #[.slice D m d] 22)) 4 (.bool false) : Boxed _ (w.heap.size + 2) 4 _).alloc _)
  have x4 : Boxed ((((w.alloc (.cells #[.int .i64 (S : Nat), .int .i64 (N : Nat), .slice A n c] 24)).alloc (.cells #[.slice D m d] 22)).alloc (.cells #[.bool false] 4)).alloc (.cells #[.int .i64 0] 27)) (w.heap.size + 3) 27 (.int .i64 0) := by simpa using Boxed.new (((w.alloc (.cells #[.int .i64 (S : Nat), .int .i64 (N : Nat), .slice A n c] 24)).alloc (.cells #[.slice D m d] 22)).alloc (.cells #[.bool false] 4)) 27 (.int .i64 0)
  gi_upto_region 1 with (fail)
  generalize ((((w.alloc (.cells #[.int .i64 (S : Nat), .int .i64 (N : Nat), .slice A n c] 24)).alloc (.cells #[.slice D m d] 22)).alloc (.cells #[.bool false] 4)).alloc (.cells #[.int .i64 0] 27)) = w0 at *
  have X1 := Lib.hid x1
  have X2 := Lib.hid x2
  have X3 := Lib.hid x3
  have X4 := Lib.hid x4
  have LB0 := Lib.hid hbw
  clear x1 x2 x3 x4 hbw
  obtain ⟨q0, q1, q2, q3, q4, q5, q6⟩ := X1.out.all
  gi_wp2_with (refine ⟨trivial, ?_⟩; gi_at_call 18; with_reducible refine CallsIn.mono (callsIn_wide.2 (HC.out _ LB0.out)) ?_; rintro e w1 ⟨rfl, hb1⟩; have LB1 := Lib.hid (LB0.out.trans (hb1.mono LB0.out.size)); have X21 := Lib.hid (X2.out.below hb1 X2.out.lt); obtain ⟨p0, p1, p2⟩ := X21.out.all)
  have X1 := Lib.hid (X1.out.below hb1 X1.out.lt)
  have X3 := Lib.hid (bxb X3.out hb1)
  have X4 := Lib.hid (bxb X4.out hb1)
  clear q0 q1 q2 q3 q4 q5 q6 X2 LB0 hb1
  obtain ⟨q0, q1, q2, q3, q4, q5, q6⟩ := X1.out.all
  gi_wp2_with (first | (refine ⟨trivial, ?_⟩; gi_at_call 38; with_reducible refine CallsIn.mono (callsIn_wide.2 (ends_any S N n A c m _)) ?_; rintro e w3 ⟨rfl, rfl⟩) | (refine ⟨trivial, ?_⟩; gi_at_call 44; with_reducible refine CallsIn.mono (callsIn_wide.2 (HT.out _ LB1.out)) ?_; rintro e w2 ⟨rfl, rfl⟩))
  have HEN := Lib.hid (en_new S N n A c m b w2 (HO.out.l0) (HO.out.l1) (HB.out _ LB1.out))
  clear q0 q1 q2 q3 q4 q5 q6 p0 p1 p2
  obtain ⟨bb, oo, hA, hbl, -⟩ : ∃ b2 o2, A = some ⟨b2, o2, none⟩ ∧ b2 < w2.heap.size ∧ True := by
    obtain ⟨b2, o2, e1, e2, _⟩ := HB.out _ LB1.out (by have := HO.out.l0; omega)
    exact ⟨b2, o2, e1, e2, trivial⟩
  have hbU : Below w2.heap.size w2 ((w2.alloc (.cells #[.int .i64 (S : Nat), .int .i64 (N : Nat), .slice A n c] 24)).alloc (.cells #[.int .i64 (m : Nat)] 3)) := (bel_alloc w2 _).alloc (by simp) _
  have hsz : ((w2.alloc (.cells #[.int .i64 (S : Nat), .int .i64 (N : Nat), .slice A n c] 24)).alloc (.cells #[.int .i64 (m : Nat)] 3)).heap.size = w2.heap.size + 2 := by simp
  have X1 := Lib.hid (X1.out.below hbU X1.out.lt)
  have X2 := Lib.hid (X21.out.below hbU X21.out.lt)
  have X3 := Lib.hid (bxb X3.out hbU)
  have X4 := Lib.hid (bxb X4.out hbU)
  have LBU := Lib.hid (LB1.out.trans (hbU.mono LB1.out.size))
  have s2 := Lib.hid (LB1.out.size)
  clear hbU X21 LB1
  generalize ((w2.alloc (.cells #[.int .i64 (S : Nat), .int .i64 (N : Nat), .slice A n c] 24)).alloc (.cells #[.int .i64 (m : Nat)] 3)) = wU at *
  generalize hs2 : w2.heap.size = z2 at *
  have HLU := Lib.hid (HL.out _ LBU.out)
  refine wpIn_rangeFunc_ownF (F := Fence.wide) (n := 4) (encs := enc n b (m := m)) rfl (by omega) (gf := 53) (lb := #[.pointer (some ⟨z2 + 1, 0, none⟩), .pointer (some ⟨z2, 0, none⟩)]) rfl trivial (enters_of Try.func53 (by kernel_rfl) rfl)
    (ends_stops (z2 + 1) z2 m S N A n c b 3 (by omega) (by omega) wU HEN.out)
    (fun h k => KB.t h k) (fun X l o o' hl h h1 h2 => KB.b (w := wU) HEN.out.lt X l o o' hl h h1 h2) (Below.refl _ _) (fun _ => rfl)
    (fun pre X => Below wU.heap.size wU X ∧ ∀ x : Fin m, x ∈ pre → l x.1 < S ∧ l x.1 % N = b (x.1 % n))
    (fun c pre X => c = .ret ∧ Below w.heap.size w X ∧ Boxed X (w.heap.size + 2) 4 (.bool false) ∧ Boxed X (w.heap.size + 3) 27 (.int .i64 0) ∧ ∃ x : Fin m, ¬ (l x.1 < S ∧ l x.1 % N = b (x.1 % n)))
    ?ownI ?ownX ⟨Below.refl _ _, fun x hx => by cases hx⟩ ?act ?assign ?body ?done ?stop
  case assign =>
    intro l x X K hK
    dsimp only [enc]
    gi_wp2
    exact hK
  case ownI =>
    intro pre X Y row h hg hr
    exact ⟨h.1.grown hg (h.1.size) (fun r e => (hr r e).1), h.2⟩
  case ownX =>
    intro c pre X Y row h hg hr
    obtain ⟨h1, h2, h3, h4, h5⟩ := h
    have hne : ∀ p, p < wU.heap.size → some p ≠ row := fun p hp e => by have := (hr p e.symm).1; omega
    have l3 := X3.out.lt
    have l4 := X4.out.lt
    exact ⟨h1, h2.grown hg (by have := h3.lt; omega) (fun r e => by have := (hr r e).1; have := LBU.out.size; omega), h3.kept hg (hne _ l3), h4.kept hg (hne _ l4), h5⟩
  case body =>
    rintro l1 pre x X ⟨hX, hpre⟩ hlt
    have Y1 := X1.out.below hX X1.out.lt
    have Y2 := X2.out.below hX X2.out.lt
    have hl2 := (HLU.out.below hX) (Nat.lt_of_le_of_lt (Nat.zero_le _) x.2)
    obtain ⟨db, dof, rfl, hdl, hdc⟩ := hl2
    have a0 : X.cell? ⟨db, dof + x.1, none⟩ = some (.int .i64 ((l x.1 : Nat) : Int)) := hdc x.1 x.2
    obtain ⟨q0, q1, q2, q3, q4, q5, q6⟩ := Y1.all
    obtain ⟨p0, p1, p2⟩ := Y2.all
    have y1 : (x.1 : Int) < (m : Int) := by have := x.2; omega
    have y2 : (0 : Int) ≤ (x.1 : Int) := by omega
    have z3 := tmodn (l x.1) N
    have HX := Lib.hid hX
    have HP := Lib.hid hpre
    have B3 := Lib.hid (bxb X3.out hX)
    have B4 := Lib.hid (bxb X4.out hX)
    obtain ⟨v, hv⟩ : ∃ v, l x.1 = v := ⟨_, rfl⟩
    have HV := Lib.hid hv
    rw [hv] at a0 z3
    clear hX hpre hdc hv Y1 Y2
    have HW := Lib.hid (LBU.out.trans (HX.out.mono LBU.out.size))
    by_cases h1 : v < S
    · have y3 : decide ((S : Int) ≤ (v : Int)) = false := by simp; omega
      by_cases h2 : v % N = b (x.1 % n)
      · rw [h2] at z3
        have HP2 := Lib.hid (show ∀ y : Fin m, y ∈ pre ++ [x] → l y.1 < S ∧ l y.1 % N = b (y.1 % n) from fun y hy => by
          rcases List.mem_append.1 hy with h | h
          · exact HP.out y h
          · obtain rfl : y = x := by simpa using h
            rw [HV.out]; exact ⟨h1, h2⟩)
        clear h2
        obtain ⟨r, hr⟩ : ∃ r, b (x.1 % n) = r := ⟨_, rfl⟩
        rw [hr] at z3
        rw [hr]
        clear hr
        have y4 : ((r : Int) != (r : Int)) = false := by simp
        gi_wp2
        exact ⟨KeepsOthers.refl _, KB.refl _ _, HX.out, HP2.out⟩
      · have y4 : (((v % N : Nat) : Int) != ((b (x.1 % n) : Nat) : Int)) = true := by simp; omega
        have HBAD := Lib.hid (show ∃ x : Fin m, ¬ (l x.1 < S ∧ l x.1 % N = b (x.1 % n)) from ⟨x, by rw [HV.out]; exact fun q => h2 q.2⟩)
        generalize v % N = vm at *
        generalize b (x.1 % n) = r at *
        clear h2
        have hset : Below w.heap.size w ((X.setCell ⟨w.heap.size + 2, 0, none⟩ (.bool false)).setCell ⟨w.heap.size + 3, 0, none⟩ (.int .i64 0)) := ((HW.out).setCell (by simp) _).setCell (by simp) _
        have hk : KeepsOthers X ((X.setCell ⟨w.heap.size + 2, 0, none⟩ (.bool false)).setCell ⟨w.heap.size + 3, 0, none⟩ (.int .i64 0)) := (KeepsOthers.setCell _ _ _).trans (KeepsOthers.setCell _ _ _)
        have h3 := (B3.out.set (.bool false)).other (B' := w.heap.size + 3) (by omega) (.int .i64 0)
        have h4 := (B4.out.other (B' := w.heap.size + 2) (by omega) (.bool false)).set (.int .i64 0)
        have f3 := B3.out.cell
        have f4 := (B4.out.other (B' := w.heap.size + 2) (by omega) (.bool false)).cell
        have g3 := B3.out.frozen
        have g4 := (B4.out.other (B' := w.heap.size + 2) (by omega) (.bool false)).frozen
        gi_wp2
        exact ⟨hk, rfl, hset, h3, h4, HBAD.out⟩
    · have y3 : decide ((S : Int) ≤ (v : Int)) = true := by simp; omega
      have HBAD := Lib.hid (show ∃ x : Fin m, ¬ (l x.1 < S ∧ l x.1 % N = b (x.1 % n)) from ⟨x, by rw [HV.out]; exact fun q => h1 q.1⟩)
      have hset : Below w.heap.size w ((X.setCell ⟨w.heap.size + 2, 0, none⟩ (.bool false)).setCell ⟨w.heap.size + 3, 0, none⟩ (.int .i64 0)) := ((HW.out).setCell (by simp) _).setCell (by simp) _
      have hk : KeepsOthers X ((X.setCell ⟨w.heap.size + 2, 0, none⟩ (.bool false)).setCell ⟨w.heap.size + 3, 0, none⟩ (.int .i64 0)) := (KeepsOthers.setCell _ _ _).trans (KeepsOthers.setCell _ _ _)
      have h3 := (B3.out.set (.bool false)).other (B' := w.heap.size + 3) (by omega) (.int .i64 0)
      have h4 := (B4.out.other (B' := w.heap.size + 2) (by omega) (.bool false)).set (.int .i64 0)
      have f3 := B3.out.cell
      have f4 := (B4.out.other (B' := w.heap.size + 2) (by omega) (.bool false)).cell
      have g3 := B3.out.frozen
      have g4 := (B4.out.other (B' := w.heap.size + 2) (by omega) (.bool false)).frozen
      gi_wp2
      exact ⟨hk, rfl, hset, h3, h4, HBAD.out⟩
  case done =>
    rintro D' ys X hD rfl ⟨hX, hall⟩ hK
    have B3 := Lib.hid (bxb X3.out hX)
    have B4 := Lib.hid (bxb X4.out hX)
    have Hr := Lib.hid (show onB S N n b m l = true from decide_eq_true fun x hx => hall ⟨x, hx⟩ (by rw [fr_all]; simp))
    have HW := Lib.hid (LBU.out.trans (hX.mono LBU.out.size))
    have HX := Lib.hid hX
    clear hX hall
    have f3 := B3.out.cell
    have f4 := (B4.out.other (B' := w.heap.size + 2) (by omega) (.bool true)).cell
    have g3 := B3.out.frozen
    have g4 := (B4.out.other (B' := w.heap.size + 2) (by omega) (.bool true)).frozen
    gi_wp2
    have hY3 := (B3.out.set (.bool true)).other (B' := w.heap.size + 3) (by omega) (.int .i64 0)
    have hY4 := (B4.out.other (B' := w.heap.size + 2) (by omega) (.bool true)).set (.int .i64 0)
    have hK2 : ((X.setCell ⟨w.heap.size + 2, 0, none⟩ (.bool true)).setCell ⟨w.heap.size + 3, 0, none⟩ (.int .i64 0)).heap[D']? = some (.deferred (some [])) :=
      (Below.heap_setCell _ ⟨w.heap.size + 3, 0, none⟩ _ D' (by have := X4.out.lt; simp; omega)).trans ((Below.heap_setCell _ ⟨w.heap.size + 2, 0, none⟩ _ D' (by have := X3.out.lt; simp; omega)).trans hK)
    have hbY : Below w.heap.size w ((X.setCell ⟨w.heap.size + 2, 0, none⟩ (.bool true)).setCell ⟨w.heap.size + 3, 0, none⟩ (.int .i64 0)) := ((HW.out).setCell (by simp) _).setCell (by simp) _
    have e3 := (bx_take hY3 hK2).cell
    have e4 := (bx_take hY4 hK2).cell
    refine ⟨by simp, .inl ⟨_, _, rfl, run_takeDeferred hK2, ?_⟩⟩
    exact ⟨.tuple #[.bool true, .int .i64 0], by simp [results, Try.results14, go_sem, e3, e4], by rw [Hr.out], bel_take hbY (by have := LBU.out.size; omega) hK2⟩
  case stop =>
    rintro D' c pre X hD _ ⟨rfl, hX, h3, h4, hx⟩ hK
    have Hr := Lib.hid (show onB S N n b m l = false from decide_eq_false fun q => by obtain ⟨x, hx⟩ := hx; exact hx (q x.1 x.2))
    gi_wp2
    have e3 := (bx_take h3 hK).cell
    have e4 := (bx_take h4 hK).cell
    refine ⟨by simp, .inl ⟨_, _, rfl, run_takeDeferred hK, ?_⟩⟩
    exact ⟨.tuple #[.bool false, .int .i64 0], by simp [results, Try.results14, go_sem, e3, e4], by rw [Hr.out], bel_take hX (by have := LBU.out.size; omega) hK⟩
set_option maxHeartbeats 800000 in
theorem on_bad (S N : Int) (A : Option Addr) (n c : Nat) (f : Nat → Int) (D : Option Addr) (m d : Nat) (l : Nat → Int) (w : World) (hn : n ≤ 100000) (hm : m ≤ 100000) (hf : L2.Holds w w.heap.size A n f) (hl : L2.Holds w w.heap.size D m l) (hz : nck S N n f = 8) :
    Calls Try.prog 14 #[.agg #[.int .i64 S, .int .i64 N, .slice A n c], .slice D m d] w fun e w' => e = .returned (.tuple #[.bool false, .int .i64 8]) ∧ Below w.heap.size w w' := by
  have HC := Lib.hid (fun u (hu : Below w.heap.size w u) => nck_any S N A n c f u hn ((hf.below hu).more hu.size))
  rw [hz] at HC
  clear hf hl hz
  have z8 : ((8 : Int) != 0) = true := rfl
  have LB0 := Lib.hid (show Below w.heap.size w ((((w.alloc (.cells #[.int .i64 S, .int .i64 N, .slice A n c] 24)).alloc (.cells #[.slice D m d] 22)).alloc (.cells #[.bool false] 4)).alloc (.cells #[.int .i64 0] 27)) from (((bel_alloc w _).alloc (by simp) _).alloc (by simp; omega) _).alloc (by simp; omega) _)
  have X1 := Lib.hid (show IBox ((((w.alloc (.cells #[.int .i64 S, .int .i64 N, .slice A n c] 24)).alloc (.cells #[.slice D m d] 22)).alloc (.cells #[.bool false] 4)).alloc (.cells #[.int .i64 0] 27)) w.heap.size S N (.slice A n c) from (((IBox.new w _ _ _).alloc _).alloc _).alloc _)
  have X2 := Lib.hid (show SBox ((((w.alloc (.cells #[.int .i64 S, .int .i64 N, .slice A n c] 24)).alloc (.cells #[.slice D m d] 22)).alloc (.cells #[.bool false] 4)).alloc (.cells #[.int .i64 0] 27)) (w.heap.size + 1) (.slice D m d) from (((by simpa using SBox.new (w.alloc (.cells #[.int .i64 S, .int .i64 N, .slice A n c] 24)) (.slice D m d) : SBox _ (w.heap.size + 1) _).alloc _).alloc _))
  have X3 := Lib.hid (show Boxed ((((w.alloc (.cells #[.int .i64 S, .int .i64 N, .slice A n c] 24)).alloc (.cells #[.slice D m d] 22)).alloc (.cells #[.bool false] 4)).alloc (.cells #[.int .i64 0] 27)) (w.heap.size + 2) 4 (.bool false) from ((by simpa using Boxed.new ((w.alloc (.cells #[.int .i64 S, .int .i64 N, .slice A n c] 24)).alloc (.cells #[.slice D m d] 22)) 4 (.bool false) : Boxed _ (w.heap.size + 2) 4 _).alloc _))
  have X4 := Lib.hid (show Boxed ((((w.alloc (.cells #[.int .i64 S, .int .i64 N, .slice A n c] 24)).alloc (.cells #[.slice D m d] 22)).alloc (.cells #[.bool false] 4)).alloc (.cells #[.int .i64 0] 27)) (w.heap.size + 3) 27 (.int .i64 0) from by simpa using Boxed.new (((w.alloc (.cells #[.int .i64 S, .int .i64 N, .slice A n c] 24)).alloc (.cells #[.slice D m d] 22)).alloc (.cells #[.bool false] 4)) 27 (.int .i64 0))
  go_enter Try.func14, Try.ntmps14
  go_upto_region 1 with (fail)
  generalize ((((w.alloc (.cells #[.int .i64 S, .int .i64 N, .slice A n c] 24)).alloc (.cells #[.slice D m d] 22)).alloc (.cells #[.bool false] 4)).alloc (.cells #[.int .i64 0] 27)) = w0 at *
  obtain ⟨q0, q1, q2, q3, q4, q5, q6⟩ := X1.out.all
  go_wp2_with fail
  clear q0 q1 q2 q3 q4 q5 q6
  with_reducible refine Calls.mono (HC.out _ LB0.out) ?_
  rintro e w1 ⟨rfl, hb⟩
  have LB1 := Lib.hid (LB0.out.trans (hb.mono LB0.out.size))
  have X2 := Lib.hid (X2.out.below hb X2.out.lt)
  have X3 := Lib.hid (bxb X3.out hb)
  have X4 := Lib.hid (bxb X4.out hb)
  clear hb LB0
  have g3 := X3.out.frozen
  have f3 := X3.out.cell
  have f4 := (X4.out.other (B' := w.heap.size + 2) (by omega) (.bool false)).cell
  have g4 := (X4.out.other (B' := w.heap.size + 2) (by omega) (.bool false)).frozen
  have hY3 := (X3.out.set (.bool false)).other (B' := w.heap.size + 3) (by omega) (.int .i64 8)
  have hY4 := (X4.out.other (B' := w.heap.size + 2) (by omega) (.bool false)).set (.int .i64 8)
  have e3 := hY3.cell
  have e4 := hY4.cell
  go_wp2
  refine bodyPost_ret (v := .tuple #[.bool false, .int .i64 8]) (by simp [results, Try.results14, go_sem, e3, e4]) rfl ?_
  exact ⟨rfl, (LB1.out.setCell (by first | (simp; done) | (simp; omega)) _).setCell (by first | (simp; done) | (simp; omega)) _⟩
set_option maxHeartbeats 800000 in
theorem on_l (S N : Int) (A : Option Addr) (n c : Nat) (f : Nat → Int) (D : Option Addr) (m d : Nat) (l : Nat → Int) (w : World) (hn : n ≤ 100000) (hm : m ≤ 100000) (hf : L2.Holds w w.heap.size A n f) (hl : L2.Holds w w.heap.size D m l) (hz : nck S N n f = 0) (z : Int) (hl2 : L2.lchk m l = z) (hz0 : (z != 0) = true) :
    Calls Try.prog 14 #[.agg #[.int .i64 S, .int .i64 N, .slice A n c], .slice D m d] w fun e w' => e = .returned (.tuple #[.bool false, .int .i64 z]) ∧ Below w.heap.size w w' := by
  have HC := Lib.hid (fun u (hu : Below w.heap.size w u) => nck_any S N A n c f u hn ((hf.below hu).more hu.size))
  rw [hz] at HC
  have z0 : ((0 : Int) != 0) = false := rfl
  have HT := Lib.hid (fun u (hu : Below w.heap.size w u) => lc_any D m d l u hm ((hl.below hu).more hu.size))
  rw [hl2] at HT
  clear hf hl hz hl2
  have LB0 := Lib.hid (show Below w.heap.size w ((((w.alloc (.cells #[.int .i64 S, .int .i64 N, .slice A n c] 24)).alloc (.cells #[.slice D m d] 22)).alloc (.cells #[.bool false] 4)).alloc (.cells #[.int .i64 0] 27)) from (((bel_alloc w _).alloc (by simp) _).alloc (by simp; omega) _).alloc (by simp; omega) _)
  have X1 := Lib.hid (show IBox ((((w.alloc (.cells #[.int .i64 S, .int .i64 N, .slice A n c] 24)).alloc (.cells #[.slice D m d] 22)).alloc (.cells #[.bool false] 4)).alloc (.cells #[.int .i64 0] 27)) w.heap.size S N (.slice A n c) from (((IBox.new w _ _ _).alloc _).alloc _).alloc _)
  have X2 := Lib.hid (show SBox ((((w.alloc (.cells #[.int .i64 S, .int .i64 N, .slice A n c] 24)).alloc (.cells #[.slice D m d] 22)).alloc (.cells #[.bool false] 4)).alloc (.cells #[.int .i64 0] 27)) (w.heap.size + 1) (.slice D m d) from (((by simpa using SBox.new (w.alloc (.cells #[.int .i64 S, .int .i64 N, .slice A n c] 24)) (.slice D m d) : SBox _ (w.heap.size + 1) _).alloc _).alloc _))
  have X3 := Lib.hid (show Boxed ((((w.alloc (.cells #[.int .i64 S, .int .i64 N, .slice A n c] 24)).alloc (.cells #[.slice D m d] 22)).alloc (.cells #[.bool false] 4)).alloc (.cells #[.int .i64 0] 27)) (w.heap.size + 2) 4 (.bool false) from ((by simpa using Boxed.new ((w.alloc (.cells #[.int .i64 S, .int .i64 N, .slice A n c] 24)).alloc (.cells #[.slice D m d] 22)) 4 (.bool false) : Boxed _ (w.heap.size + 2) 4 _).alloc _))
  have X4 := Lib.hid (show Boxed ((((w.alloc (.cells #[.int .i64 S, .int .i64 N, .slice A n c] 24)).alloc (.cells #[.slice D m d] 22)).alloc (.cells #[.bool false] 4)).alloc (.cells #[.int .i64 0] 27)) (w.heap.size + 3) 27 (.int .i64 0) from by simpa using Boxed.new (((w.alloc (.cells #[.int .i64 S, .int .i64 N, .slice A n c] 24)).alloc (.cells #[.slice D m d] 22)).alloc (.cells #[.bool false] 4)) 27 (.int .i64 0))
  go_enter Try.func14, Try.ntmps14
  go_upto_region 1 with (fail)
  generalize ((((w.alloc (.cells #[.int .i64 S, .int .i64 N, .slice A n c] 24)).alloc (.cells #[.slice D m d] 22)).alloc (.cells #[.bool false] 4)).alloc (.cells #[.int .i64 0] 27)) = w0 at *
  obtain ⟨q0, q1, q2, q3, q4, q5, q6⟩ := X1.out.all
  go_wp2_with fail
  clear q0 q1 q2 q3 q4 q5 q6
  with_reducible refine Calls.mono (HC.out _ LB0.out) ?_
  rintro e w1 ⟨rfl, hb⟩
  have LB1 := Lib.hid (LB0.out.trans (hb.mono LB0.out.size))
  have X2 := Lib.hid (X2.out.below hb X2.out.lt)
  have X3 := Lib.hid (bxb X3.out hb)
  have X4 := Lib.hid (bxb X4.out hb)
  clear hb LB0
  obtain ⟨p0, p1, p2⟩ := X2.out.all
  go_wp2_with fail
  with_reducible refine Calls.mono (HT.out _ LB1.out) ?_
  rintro e w2 ⟨rfl, rfl⟩
  have g3 := X3.out.frozen
  have f3 := X3.out.cell
  have f4 := (X4.out.other (B' := w.heap.size + 2) (by omega) (.bool false)).cell
  have g4 := (X4.out.other (B' := w.heap.size + 2) (by omega) (.bool false)).frozen
  have hY3 := (X3.out.set (.bool false)).other (B' := w.heap.size + 3) (by omega) (.int .i64 z)
  have hY4 := (X4.out.other (B' := w.heap.size + 2) (by omega) (.bool false)).set (.int .i64 z)
  have e3 := hY3.cell
  have e4 := hY4.cell
  go_wp2
  refine bodyPost_ret (v := .tuple #[.bool false, .int .i64 z]) (by simp [results, Try.results14, go_sem, e3, e4]) rfl ?_
  exact ⟨rfl, (LB1.out.setCell (by first | (simp; done) | (simp; omega)) _).setCell (by first | (simp; done) | (simp; omega)) _⟩
end Go.Proofs.Ythipdfkgeghooaa
