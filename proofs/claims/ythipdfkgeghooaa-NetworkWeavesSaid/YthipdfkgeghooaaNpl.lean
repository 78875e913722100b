/- Plain of the program. -/
import Derived.Test.YthipdfkgeghooaaNon
namespace Go.Proofs.Ythipdfkgeghooaa
open Go.RowKit Go.Shelf
set_option maxRecDepth 100000
set_option linter.unusedVariables false
set_option linter.unusedSimpArgs false

attribute [local go_sem] Oper.semAt_some
/-- Neighbouring ends have other parities. -/
def alt (n : Nat) (b : Nat → Nat) : Bool := decide (∀ x, x < n → ¬ b x % 2 = b ((x + 1) % n) % 2)
/-- Whether a network makes plain weave. -/
def plB (N n : Nat) (b : Nat → Nat) : Bool := alt n b && decide (N % 2 = 0)
set_option maxHeartbeats 800000 in
theorem pl_bad (S N : Int) (A : Option Addr) (n c : Nat) (f : Nat → Int) (w : World) (hn : n ≤ 100000) (hf : L2.Holds w w.heap.size A n f) (hz : nck S N n f = 8) :
    Calls Try.prog 16 #[.agg #[.int .i64 S, .int .i64 N, .slice A n c]] w fun e w' => e = .returned (.tuple #[.bool false, .int .i64 8]) ∧ Below w.heap.size w w' := by
  have HC := Lib.hid (fun u (hu : Below w.heap.size w u) => nck_any S N A n c f u hn ((hf.below hu).more hu.size))
  rw [hz] at HC
  clear hf hz
  have z8 : ((8 : Int) != 0) = true := rfl
  have LB0 := Lib.hid (show Below w.heap.size w (((w.alloc (.cells #[.int .i64 S, .int .i64 N, .slice A n c] 24)).alloc (.cells #[.bool false] 4)).alloc (.cells #[.int .i64 0] 27)) from ((bel_alloc w _).alloc (by simp) _).alloc (by simp; omega) _)
  have X1 := Lib.hid (show IBox (((w.alloc (.cells #[.int .i64 S, .int .i64 N, .slice A n c] 24)).alloc (.cells #[.bool false] 4)).alloc (.cells #[.int .i64 0] 27)) w.heap.size S N (.slice A n c) from ((IBox.new w _ _ _).alloc _).alloc _)
  have X3 := Lib.hid (show Boxed (((w.alloc (.cells #[.int .i64 S, .int .i64 N, .slice A n c] 24)).alloc (.cells #[.bool false] 4)).alloc (.cells #[.int .i64 0] 27)) (w.heap.size + 1) 4 (.bool false) from ((by simpa using Boxed.new (w.alloc (.cells #[.int .i64 S, .int .i64 N, .slice A n c] 24)) 4 (.bool false) : Boxed _ (w.heap.size + 1) 4 _).alloc _))
  have X4 := Lib.hid (show Boxed (((w.alloc (.cells #[.int .i64 S, .int .i64 N, .slice A n c] 24)).alloc (.cells #[.bool false] 4)).alloc (.cells #[.int .i64 0] 27)) (w.heap.size + 2) 27 (.int .i64 0) from by simpa using Boxed.new ((w.alloc (.cells #[.int .i64 S, .int .i64 N, .slice A n c] 24)).alloc (.cells #[.bool false] 4)) 27 (.int .i64 0))
  go_enter Try.func16, Try.ntmps16
  go_upto_region 1 with (fail)
  generalize (((w.alloc (.cells #[.int .i64 S, .int .i64 N, .slice A n c] 24)).alloc (.cells #[.bool false] 4)).alloc (.cells #[.int .i64 0] 27)) = w0 at *
  obtain ⟨q0, q1, q2, q3, q4, q5, q6⟩ := X1.out.all
  go_wp2_with fail
  clear q0 q1 q2 q3 q4 q5 q6
  with_reducible refine Calls.mono (HC.out _ LB0.out) ?_
  rintro e w1 ⟨rfl, hb⟩
  have LB1 := Lib.hid (LB0.out.trans (hb.mono LB0.out.size))
  have X3 := Lib.hid (bxb X3.out hb)
  have X4 := Lib.hid (bxb X4.out hb)
  clear hb LB0
  have g3 := X3.out.frozen
  have f3 := X3.out.cell
  have f4 := (X4.out.other (B' := w.heap.size + 1) (by omega) (.bool false)).cell
  have g4 := (X4.out.other (B' := w.heap.size + 1) (by omega) (.bool false)).frozen
  have hY3 := (X3.out.set (.bool false)).other (B' := w.heap.size + 2) (by omega) (.int .i64 8)
  have hY4 := (X4.out.other (B' := w.heap.size + 1) (by omega) (.bool false)).set (.int .i64 8)
  have e3 := hY3.cell
  have e4 := hY4.cell
  go_wp2
  refine bodyPost_ret (v := .tuple #[.bool false, .int .i64 8]) (by simp [results, Try.results16, go_sem, e3, e4]) rfl ?_
  exact ⟨rfl, (LB1.out.setCell (by first | (simp; done) | (simp; omega)) _).setCell (by first | (simp; done) | (simp; omega)) _⟩
set_option maxHeartbeats 1600000 in
theorem pl_ok (S N n : Nat) (A : Option Addr) (c : Nat) (b : Nat → Nat) (hO : NOk S N n b) (w : World) (hb : NH w A n b) :
    Calls Try.prog 16 #[.agg #[.int .i64 (S : Nat), .int .i64 (N : Nat), .slice A n c]] w fun e w' => e = .returned (.tuple #[.bool (plB N n b), .int .i64 0]) ∧ Below w.heap.size w w' := by
  have hmf := mk_fn
  have HO := Lib.hid hO
  have HC := Lib.hid (fun u (hu : Below w.heap.size w u) => nck_any (S : Nat) (N : Nat) A n c (fun i => ((b i : Nat) : Int)) u (by have := hO.l1; omega) ((hb.below hu).more hu.size))
  rw [nck_zero hO (fun _ _ => rfl)] at HC
  have HB := Lib.hid (fun u (hu : Below w.heap.size w u) => (show NH u A n b from (hb.below hu).more hu.size))
  clear hO hb
  have z0 : ((0 : Int) != 0) = false := rfl
  refine (callsIn_wide (n := 4)).1 ?_
  refine callsIn_of_wp_marks Try.func16 rfl trivial ?_ rfl
  simp only [Try.ntmps16, List.size_toArray, List.length_cons, List.length_nil, Nat.reduceAdd, Nat.reduceSub, Array.replicate_succ, Array.replicate_zero, List.push_toArray, List.append_toArray, List.nil_append, List.cons_append]
  have LB0 := Lib.hid (show Below w.heap.size w (((w.alloc (.cells #[.int .i64 (S : Nat), .int .i64 (N : Nat), .slice A n c] 24)).alloc (.cells #[.bool false] 4)).alloc (.cells #[.int .i64 0] 27)) from ((bel_alloc w _).alloc (by simp) _).alloc (by simp; omega) _)
  have X1 := Lib.hid (show IBox (((w.alloc (.cells #[.int .i64 (S : Nat), .int .i64 (N : Nat), .slice A n c] 24)).alloc (.cells #[.bool false] 4)).alloc (.cells #[.int .i64 0] 27)) w.heap.size (S : Nat) (N : Nat) (.slice A n c) from ((IBox.new w _ _ _).alloc _).alloc _)
  have X3 := Lib.hid (show Boxed (((w.alloc (.cells #[.int .i64 (S : Nat), .int .i64 (N : Nat), .slice A n c] 24)).alloc (.cells #[.bool false] 4)).alloc (.cells #[.int .i64 0] 27)) (w.heap.size + 1) 4 (.bool false) from ((by simpa using Boxed.new (w.alloc (.cells #[.int .i64 (S : Nat), .int .i64 (N : Nat), .slice A n c] 24)) 4 (.bool false) : Boxed _ (w.heap.size + 1) 4 _).alloc _))
  have X4 := Lib.hid (show Boxed (((w.alloc (.cells #[.int .i64 (S : Nat), .int .i64 (N : Nat), .slice A n c] 24)).alloc (.cells #[.bool false] 4)).alloc (.cells #[.int .i64 0] 27)) (w.heap.size + 2) 27 (.int .i64 0) from by simpa using Boxed.new ((w.alloc (.cells #[.int .i64 (S : Nat), .int .i64 (N : Nat), .slice A n c] 24)).alloc (.cells #[.bool false] 4)) 27 (.int .i64 0))
  gi_upto_region 1 with (fail)
  generalize (((w.alloc (.cells #[.int .i64 (S : Nat), .int .i64 (N : Nat), .slice A n c] 24)).alloc (.cells #[.bool false] 4)).alloc (.cells #[.int .i64 0] 27)) = w0 at *
  obtain ⟨q0, q1, q2, q3, q4, q5, q6⟩ := X1.out.all
  gi_wp2_with (first | (refine ⟨trivial, ?_⟩; gi_at_call 38; with_reducible refine CallsIn.mono (callsIn_wide.2 (ends_any S N n A c n _)) ?_; rintro e w3 ⟨rfl, rfl⟩) | (refine ⟨trivial, ?_⟩; gi_at_call 18; with_reducible refine CallsIn.mono (callsIn_wide.2 (HC.out _ LB0.out)) ?_; rintro e w2 ⟨rfl, hb1⟩; have LB1 := Lib.hid (LB0.out.trans (hb1.mono LB0.out.size)); have X11 := Lib.hid (X1.out.below hb1 X1.out.lt); obtain ⟨p0, p1, p2, p3, p4, p5, p6⟩ := X11.out.all))
  have X3 := Lib.hid (bxb X3.out hb1)
  have X4 := Lib.hid (bxb X4.out hb1)
  clear q0 q1 q2 q3 q4 q5 q6 p0 p1 p2 p3 p4 p5 p6 LB0 hb1 X1
  have HEN := Lib.hid (en_new S N n A c n b w2 (HO.out.l0) (HO.out.l1) (HB.out _ LB1.out))
  have hbU : Below w2.heap.size w2 ((w2.alloc (.cells #[.int .i64 (S : Nat), .int .i64 (N : Nat), .slice A n c] 24)).alloc (.cells #[.int .i64 (n : Nat)] 3)) := (bel_alloc w2 _).alloc (by simp) _
  have hsz : ((w2.alloc (.cells #[.int .i64 (S : Nat), .int .i64 (N : Nat), .slice A n c] 24)).alloc (.cells #[.int .i64 (n : Nat)] 3)).heap.size = w2.heap.size + 2 := by simp
  have X1 := Lib.hid (X11.out.below hbU X11.out.lt)
  have X3 := Lib.hid (bxb X3.out hbU)
  have X4 := Lib.hid (bxb X4.out hbU)
  have LBU := Lib.hid (LB1.out.trans (hbU.mono LB1.out.size))
  clear hbU X11 LB1
  generalize ((w2.alloc (.cells #[.int .i64 (S : Nat), .int .i64 (N : Nat), .slice A n c] 24)).alloc (.cells #[.int .i64 (n : Nat)] 3)) = wU at *
  generalize hs2 : w2.heap.size = z2 at *
  refine wpIn_rangeFunc_ownF (F := Fence.wide) (n := 4) (encs := enc n b (m := n)) rfl (by omega) (gf := 53) (lb := #[.pointer (some ⟨z2 + 1, 0, none⟩), .pointer (some ⟨z2, 0, none⟩)]) rfl trivial (enters_of Try.func53 (by kernel_rfl) rfl)
    (ends_stops (z2 + 1) z2 n S N A n c b 3 (by omega) (by have := HO.out.l1; omega) wU HEN.out)
    (fun h k => KB.t h k) (fun X l o o' hl h h1 h2 => KB.b (w := wU) HEN.out.lt X l o o' hl h h1 h2) (Below.refl _ _) (fun _ => rfl)
    (fun pre X => Below wU.heap.size wU X ∧ ∀ x : Fin n, x ∈ pre → ¬ b x.1 % 2 = b ((x.1 + 1) % n) % 2)
    (fun c pre X => c = .ret ∧ Below w.heap.size w X ∧ Boxed X (w.heap.size + 1) 4 (.bool false) ∧ Boxed X (w.heap.size + 2) 27 (.int .i64 0) ∧ ∃ x : Fin n, b x.1 % 2 = b ((x.1 + 1) % n) % 2)
    ?ownI ?ownX ⟨Below.refl _ _, fun x hx => by cases hx⟩ ?act ?assign ?body ?done ?stop
  case assign =>
    intro l x X K hK
    dsimp only [enc]
    gi_wp2
    exact hK
  case ownI =>
    intro pre X Y row h hg hr
    exact ⟨h.1.grown hg (h.1.size) (fun r e => (hr r e).1), h.2⟩
  case ownX =>
    intro c pre X Y row h hg hr
    obtain ⟨h1, h2, h3, h4, h5⟩ := h
    have hne : ∀ p, p < wU.heap.size → some p ≠ row := fun p hp e => by have := (hr p e.symm).1; omega
    have l3 := X3.out.lt
    have l4 := X4.out.lt
    exact ⟨h1, h2.grown hg (by have := h3.lt; omega) (fun r e => by have := (hr r e).1; have := LBU.out.size; omega), h3.kept hg (hne _ l3), h4.kept hg (hne _ l4), h5⟩
  case body =>
    rintro l1 pre x X ⟨hX, hpre⟩ hlt
    have Y1 := Lib.hid (X1.out.below hX X1.out.lt)
    have HR := Lib.hid (rest_any S N n A c b (x.1 + 1) X HO.out.l0 HO.out.l1 ((HEN.out.nh.below hX).more hX.size))
    obtain ⟨q0, q1, q2, q3, q4, q5, q6⟩ := Y1.out.all
    have y1 : IntKind.i64.wrap ((x.1 : Int) + 1) = ((x.1 + 1 : Nat) : Int) := by rw [IntWalk.i64_in _ (by have := x.2; have := HO.out.l1; omega)]; simp
    rw [show ((x.1 + 1 : Nat) : Int) = (x.1 : Int) + 1 by simp] at y1 HR
    have HX := Lib.hid hX
    have HP := Lib.hid hpre
    have B3 := Lib.hid (bxb X3.out hX)
    have B4 := Lib.hid (bxb X4.out hX)
    have xm : x.1 % n = x.1 := Nat.mod_eq_of_lt x.2
    rw [xm]
    have HQ := Lib.hid (show ∀ (h : ¬ b x.1 % 2 = b ((x.1 + 1) % n) % 2) (y : Fin n), y ∈ pre ++ [x] → ¬ b y.1 % 2 = b ((y.1 + 1) % n) % 2 from fun h y hy => by
      rcases List.mem_append.1 hy with h' | h'
      · exact HP.out y h'
      · obtain rfl : y = x := by simpa using h'
        exact h)
    have HBAD := Lib.hid (show ∀ h : b x.1 % 2 = b ((x.1 + 1) % n) % 2, ∃ x : Fin n, b x.1 % 2 = b ((x.1 + 1) % n) % 2 from fun h => ⟨x, h⟩)
    obtain ⟨r, hr⟩ : ∃ r, b x.1 = r := ⟨_, rfl⟩
    obtain ⟨t, ht⟩ : ∃ t, b ((x.1 + 1) % n) = t := ⟨_, rfl⟩
    rw [hr]
    rw [ht] at HR
    have HQ := Lib.hid (fun h : ¬ r % 2 = t % 2 => HQ.out (by rw [hr, ht]; exact h))
    have HBAD := Lib.hid (fun h : r % 2 = t % 2 => HBAD.out (by rw [hr, ht]; exact h))
    clear hX hpre hr ht xm HP
    have t1 : ((r : Nat) : Int).tmod 2 = ((r % 2 : Nat) : Int) := rfl
    have t2 : ((t : Nat) : Int).tmod 2 = ((t % 2 : Nat) : Int) := rfl
    by_cases he : r % 2 = t % 2
    · have HBAD := Lib.hid (HBAD.out he)
      have y2 : (((r % 2 : Nat) : Int) == ((t % 2 : Nat) : Int)) = true := by simp; omega
      clear he HQ
      gi_wp2_with (refine ⟨trivial, ?_⟩; gi_at_call 46; with_reducible refine CallsIn.mono (CallsIn.inRound l1 (callsIn_wide.2 HR.out)) ?_; rintro e u1 ⟨rfl, hb⟩; have HKO := Lib.hid (KeepsOthers.of_grownBy (grown_of hb) (fun j o e => by cases e)); have HW1 := Lib.hid (LBU.out.trans ((HX.out.trans (hb.mono HX.out.size)).mono LBU.out.size)); have C3 := Lib.hid (bxb B3.out hb); have C4 := Lib.hid (bxb B4.out hb); have f3 := C3.out.cell; have f4 := (C4.out.other (B' := w.heap.size + 1) (by omega) (.bool false)).cell; have g3 := C3.out.frozen; have g4 := (C4.out.other (B' := w.heap.size + 1) (by omega) (.bool false)).frozen; clear q0 q1 q2 q3 q4 q5 q6)
      have hset : Below w.heap.size w ((u1.setCell ⟨w.heap.size + 1, 0, none⟩ (.bool false)).setCell ⟨w.heap.size + 2, 0, none⟩ (.int .i64 0)) := ((HW1.out).setCell (by simp) _).setCell (by simp) _
      have hk : KeepsOthers X ((u1.setCell ⟨w.heap.size + 1, 0, none⟩ (.bool false)).setCell ⟨w.heap.size + 2, 0, none⟩ (.int .i64 0)) := HKO.out.trans ((KeepsOthers.setCell _ _ _).trans (KeepsOthers.setCell _ _ _))
      have h3 := (C3.out.set (.bool false)).other (B' := w.heap.size + 2) (by omega) (.int .i64 0)
      have h4 := (C4.out.other (B' := w.heap.size + 1) (by omega) (.bool false)).set (.int .i64 0)
      exact ⟨hk, rfl, hset, h3, h4, HBAD.out⟩
    · have HQ := Lib.hid (HQ.out he)
      have y2 : (((r % 2 : Nat) : Int) == ((t % 2 : Nat) : Int)) = false := by simp; omega
      clear he HBAD
      gi_wp2_with (refine ⟨trivial, ?_⟩; gi_at_call 46; with_reducible refine CallsIn.mono (CallsIn.inRound l1 (callsIn_wide.2 HR.out)) ?_; rintro e u1 ⟨rfl, hb⟩; have HKO := Lib.hid (KeepsOthers.of_grownBy (grown_of hb) (fun j o e => by cases e)); have HW1 := Lib.hid (LBU.out.trans ((HX.out.trans (hb.mono HX.out.size)).mono LBU.out.size)); have C3 := Lib.hid (bxb B3.out hb); have C4 := Lib.hid (bxb B4.out hb); clear q0 q1 q2 q3 q4 q5 q6)
      exact ⟨HKO.out, KB.of hb (fun p hp => Nat.lt_of_lt_of_le (HEN.out.lt p hp) HX.out.size), HX.out.trans (hb.mono HX.out.size), HQ.out⟩
  case done =>
    rintro D' ys X hD rfl ⟨hX, hall⟩ hK
    have B3 := Lib.hid (bxb X3.out hX)
    have B4 := Lib.hid (bxb X4.out hX)
    have B1 := Lib.hid (X1.out.below hX X1.out.lt)
    have HA := Lib.hid (show alt n b = true from decide_eq_true fun x hx => hall ⟨x, hx⟩ (by rw [fr_all]; simp))
    have HW := Lib.hid (LBU.out.trans (hX.mono LBU.out.size))
    have HX := Lib.hid hX
    clear hX hall
    have t1 : ((N : Nat) : Int).tmod 2 = ((N % 2 : Nat) : Int) := rfl
    obtain ⟨q0, q1, q2, q3, q4, q5, q6⟩ := B1.out.all
    by_cases he : N % 2 = 0
    · have y2 : (((N % 2 : Nat) : Int) == 0) = true := by simp; omega
      have Hr := Lib.hid (show plB N n b = true from by unfold plB; rw [HA.out, decide_eq_true he]; rfl)
      have f3 := B3.out.cell
      have f4 := (B4.out.other (B' := w.heap.size + 1) (by omega) (.bool true)).cell
      have g3 := B3.out.frozen
      have g4 := (B4.out.other (B' := w.heap.size + 1) (by omega) (.bool true)).frozen
      generalize N % 2 = nm at *
      gi_wp2
      have hY3 := (B3.out.set (.bool true)).other (B' := w.heap.size + 2) (by omega) (.int .i64 0)
      have hY4 := (B4.out.other (B' := w.heap.size + 1) (by omega) (.bool true)).set (.int .i64 0)
      have hK2 : ((X.setCell ⟨w.heap.size + 1, 0, none⟩ (.bool true)).setCell ⟨w.heap.size + 2, 0, none⟩ (.int .i64 0)).heap[D']? = some (.deferred (some [])) :=
        (Below.heap_setCell _ ⟨w.heap.size + 2, 0, none⟩ _ D' (by have := X4.out.lt; simp; omega)).trans ((Below.heap_setCell _ ⟨w.heap.size + 1, 0, none⟩ _ D' (by have := X3.out.lt; simp; omega)).trans hK)
      have hbY : Below w.heap.size w ((X.setCell ⟨w.heap.size + 1, 0, none⟩ (.bool true)).setCell ⟨w.heap.size + 2, 0, none⟩ (.int .i64 0)) := ((HW.out).setCell (by simp) _).setCell (by simp) _
      have e3 := (bx_take hY3 hK2).cell
      have e4 := (bx_take hY4 hK2).cell
      refine ⟨by simp, .inl ⟨_, _, rfl, run_takeDeferred hK2, ?_⟩⟩
      exact ⟨.tuple #[.bool true, .int .i64 0], by simp [results, Try.results16, go_sem, e3, e4], by rw [Hr.out], bel_take hbY (by have := LBU.out.size; omega) hK2⟩
    · have y2 : (((N % 2 : Nat) : Int) == 0) = false := by simp; omega
      have Hr := Lib.hid (show plB N n b = false from by unfold plB; rw [HA.out, decide_eq_false he]; rfl)
      have f3 := B3.out.cell
      have f4 := (B4.out.other (B' := w.heap.size + 1) (by omega) (.bool false)).cell
      have g3 := B3.out.frozen
      have g4 := (B4.out.other (B' := w.heap.size + 1) (by omega) (.bool false)).frozen
      generalize N % 2 = nm at *
      gi_wp2
      have hY3 := (B3.out.set (.bool false)).other (B' := w.heap.size + 2) (by omega) (.int .i64 0)
      have hY4 := (B4.out.other (B' := w.heap.size + 1) (by omega) (.bool false)).set (.int .i64 0)
      have hK2 : ((X.setCell ⟨w.heap.size + 1, 0, none⟩ (.bool false)).setCell ⟨w.heap.size + 2, 0, none⟩ (.int .i64 0)).heap[D']? = some (.deferred (some [])) :=
        (Below.heap_setCell _ ⟨w.heap.size + 2, 0, none⟩ _ D' (by have := X4.out.lt; simp; omega)).trans ((Below.heap_setCell _ ⟨w.heap.size + 1, 0, none⟩ _ D' (by have := X3.out.lt; simp; omega)).trans hK)
      have hbY : Below w.heap.size w ((X.setCell ⟨w.heap.size + 1, 0, none⟩ (.bool false)).setCell ⟨w.heap.size + 2, 0, none⟩ (.int .i64 0)) := ((HW.out).setCell (by simp) _).setCell (by simp) _
      have e3 := (bx_take hY3 hK2).cell
      have e4 := (bx_take hY4 hK2).cell
      refine ⟨by simp, .inl ⟨_, _, rfl, run_takeDeferred hK2, ?_⟩⟩
      exact ⟨.tuple #[.bool false, .int .i64 0], by simp [results, Try.results16, go_sem, e3, e4], by rw [Hr.out], bel_take hbY (by have := LBU.out.size; omega) hK2⟩
  case stop =>
    rintro D' c pre X hD _ ⟨rfl, hX, h3, h4, hx⟩ hK
    have Hr := Lib.hid (show plB N n b = false by unfold plB; rw [show alt n b = false from decide_eq_false fun q => by obtain ⟨x, hx⟩ := hx; exact q x.1 x.2 hx]; rfl)
    gi_wp2
    have e3 := (bx_take h3 hK).cell
    have e4 := (bx_take h4 hK).cell
    refine ⟨by simp, .inl ⟨_, _, rfl, run_takeDeferred hK, ?_⟩⟩
    exact ⟨.tuple #[.bool false, .int .i64 0], by simp [results, Try.results16, go_sem, e3, e4], by rw [Hr.out], bel_take hX (by have := LBU.out.size; omega) hK⟩
end Go.Proofs.Ythipdfkgeghooaa
