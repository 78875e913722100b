/- Draw of the program. -/
import Derived.Test.YthipdfkgeghooaaNcl
import Derived.Test.YthipdfkgeghooaaRhr
import Derived.Test.YthipdfkgeghooaaGe
import Derived.RangeFuncWrites
import Derived.RangeFuncNested
namespace Go.Proofs.Ythipdfkgeghooaa
open Go.RowKit Go.Shelf
set_option maxRecDepth 100000
set_option linter.unusedVariables false
set_option linter.unusedSimpArgs false

attribute [local go_sem] Oper.semAt_some
section
variable {F : Fence} {n : Nat} {P : Program} {ops : Array Oper} {Q : Exit → Act → World → Prop} {md : Region.Mode} {S : World → Prop} {D : List Nat}
/-- The one operation that may come next. -/
theorem anyD_one {k i : Nat} {o : Oper} {l : Array Bool} {a : Act} {w : World} (hr : Region.ready md ops l = [i]) (ho : ops[i]? = some o)
    (h : ∀ K' : Act → World → Prop, (∀ b u, (i ∈ D ∨ S u) → wpAnyD F n P md ops Q S D k (l.setIfInBounds i true) b u → K' b u) → if Region.wanted o (yielded ops a.tmps) = true then Oper.wpIn F n P o a w K' Q else (∀ f, o.about P w a.eval = some f → F.fn f) ∧ K' (a.put o.dst undef) w) :
    wpAnyD F n P md ops Q S D (k + 1) l a w :=
  ⟨fun e => (by rw [hr] at e; cases e), fun j hj => by
    rw [hr] at hj
    obtain rfl : j = i := by simpa using hj
    exact wpOpIn_step ho fun K' hK => h K' fun b u h1 h2 => hK b u ⟨h1, h2⟩⟩
theorem anyD_done {k : Nat} {l : Array Bool} {a : Act} {w : World} (hr : Region.ready md ops l = []) (h : Q .normal a w) : wpAnyD F n P md ops Q S D k l a w := by
  cases k with
  | zero => exact ⟨hr, h⟩
  | succ k => exact ⟨fun _ => h, fun j hj => by rw [hr] at hj; cases hj⟩
end
/-- The nearest shaft, by a search. -/
def nv (S N r : Nat) (h : Int) : Nat := ((List.range S).find? fun v => decide (v % N = r ∧ ∀ s, s < S → s % N = r → aw v h < aw s h ∨ (aw v h = aw s h ∧ v ≤ s))).getD 0
theorem nv_eq {S N r : Nat} {h : Int} {v : Nat} (hv : Nst S N r h v) : nv S N r h = v := by
  unfold nv
  cases hf : (List.range S).find? (fun v => decide (v % N = r ∧ ∀ s, s < S → s % N = r → aw v h < aw s h ∨ (aw v h = aw s h ∧ v ≤ s))) with
  | none =>
    have := List.find?_eq_none.1 hf v (List.mem_range.2 hv.1)
    exact absurd (decide_eq_true ⟨hv.2.1, hv.2.2⟩) this
  | some u =>
    have h1 := List.find?_some hf
    have h2 := List.mem_of_find?_eq_some hf
    have h3 := of_decide_eq_true h1
    exact Nst.same (S := S) (N := N) (r := r) (h := h) ⟨List.mem_range.1 h2, h3.1, h3.2⟩ hv
theorem lst_nv {S N r j : Nat} {h : Int} (hd : S % N = 0) (hN : 1 ≤ N) (hr : r < N) (hl : Lst N r h (S / N) j) : cls N r j = ((nv S N r h : Nat) : Int) := by
  rw [nv_eq (nst_of hd hN hr hl.lt hl.le hl.fst)]
  rfl
theorem nv_nst {S N r : Nat} {h : Int} (hd : S % N = 0) (hN : 1 ≤ N) (hS : N ≤ S) (hr : r < N) : Nst S N r h (nv S N r h) := by
  have key : ∀ i, 1 ≤ i → ∃ j, Lst N r h i j := by
    intro i
    induction i with
    | zero => intro h; omega
    | succ i ih =>
      intro _
      rcases Nat.eq_zero_or_pos i with rfl | hi
      · exact ⟨0, Lst.one N r h⟩
      · obtain ⟨j, hj⟩ := ih hi
        by_cases q : aw (cls N r i) h < aw (cls N r j) h
        · exact ⟨i, by omega, fun t ht => by
            rcases Nat.lt_or_ge t i with h1 | h1
            · have := hj.le t h1; omega
            · have e : t = i := by omega
              rw [e]; exact Int.le_refl _, fun t ht => by have := hj.le t ht; omega⟩
        · exact ⟨j, by have := hj.lt; omega, fun t ht => by
            rcases Nat.lt_or_ge t i with h1 | h1
            · exact hj.le t h1
            · have e : t = i := by omega
              rw [e]; omega, hj.fst⟩
  obtain ⟨j, hj⟩ := key (S / N) (Nat.div_pos hS hN)
  have h1 := nst_of hd hN hr hj.lt hj.le hj.fst
  rw [nv_eq h1]
  exact h1
/-- The threading of a line. -/
def drf (S N n : Nat) (b : Nat → Nat) (h : Nat → Int) (x : Nat) : Int := ((nv S N (b (x % n)) (h x) : Nat) : Int)
set_option maxHeartbeats 800000 in
theorem dr_bad (S N : Int) (A : Option Addr) (n c : Nat) (f : Nat → Int) (D : Option Addr) (m d : Nat) (l : Nat → Int) (w : World) (hn : n ≤ 100000) (hm : m ≤ 100000) (hf : L2.Holds w w.heap.size A n f) (hl : L2.Holds w w.heap.size D m l) (hz : nck S N n f = 8) :
    Calls Try.prog 12 #[.agg #[.int .i64 S, .int .i64 N, .slice A n c], .slice D m d] w fun e w' => e = .returned (.tuple #[.slice none 0 0, .int .i64 8]) ∧ Below w.heap.size w w' := by
  have HC := Lib.hid (fun u (hu : Below w.heap.size w u) => nck_any S N A n c f u hn ((hf.below hu).more hu.size))
  rw [hz] at HC
  clear hf hl hz
  have z8 : ((8 : Int) != 0) = true := rfl
  have LB0 := Lib.hid (show Below w.heap.size w ((w.alloc (.cells #[.int .i64 S, .int .i64 N, .slice A n c] 24)).alloc (.cells #[.slice D m d] 22)) from (bel_alloc w _).alloc (by simp) _)
  have X1 := Lib.hid (show IBox ((w.alloc (.cells #[.int .i64 S, .int .i64 N, .slice A n c] 24)).alloc (.cells #[.slice D m d] 22)) w.heap.size S N (.slice A n c) from (IBox.new w _ _ _).alloc _)
  have X2 := Lib.hid (show SBox ((w.alloc (.cells #[.int .i64 S, .int .i64 N, .slice A n c] 24)).alloc (.cells #[.slice D m d] 22)) (w.heap.size + 1) (.slice D m d) from by simpa using SBox.new (w.alloc (.cells #[.int .i64 S, .int .i64 N, .slice A n c] 24)) (.slice D m d))
  go_enter Try.func12, Try.ntmps12
  go_upto_region 1 with (fail)
  generalize ((w.alloc (.cells #[.int .i64 S, .int .i64 N, .slice A n c] 24)).alloc (.cells #[.slice D m d] 22)) = w0 at *
  obtain ⟨q0, q1, q2, q3, q4, q5, q6⟩ := X1.out.all
  go_wp2_with fail
  clear q0 q1 q2 q3 q4 q5 q6
  with_reducible refine Calls.mono (HC.out _ LB0.out) ?_
  rintro e w1 ⟨rfl, hb⟩
  have LB1 := Lib.hid (LB0.out.trans (hb.mono LB0.out.size))
  have X2 := Lib.hid (X2.out.below hb X2.out.lt)
  clear hb LB0
  obtain ⟨p0, p1, p2⟩ := X2.out.all
  go_wp2
  refine bodyPost_ret (v := .tuple #[.slice none 0 0, .int .i64 8]) (by simp [results, Try.results12, go_sem]) rfl ?_
  exact ⟨rfl, LB1.out⟩
set_option maxHeartbeats 800000 in
theorem dr_l (S N : Int) (A : Option Addr) (n c : Nat) (f : Nat → Int) (D : Option Addr) (m d : Nat) (l : Nat → Int) (w : World) (hn : n ≤ 100000) (hm : m ≤ 100000) (hf : L2.Holds w w.heap.size A n f) (hl : L2.Holds w w.heap.size D m l) (hz : nck S N n f = 0) (hh : hts m l = false) :
    Calls Try.prog 12 #[.agg #[.int .i64 S, .int .i64 N, .slice A n c], .slice D m d] w fun e w' => e = .returned (.tuple #[.slice none 0 0, .int .i64 8]) ∧ Below w.heap.size w w' := by
  have HC := Lib.hid (fun u (hu : Below w.heap.size w u) => nck_any S N A n c f u hn ((hf.below hu).more hu.size))
  rw [hz] at HC
  have HT := Lib.hid (fun u (hu : Below w.heap.size w u) => upto_any 1000 D m d l u hm ((hl.below hu).more hu.size))
  have HI := Lib.hid (fun u => islen_any m u)
  clear hf hl hz
  have z0 : ((0 : Int) != 0) = false := rfl
  cases h1 : len64 m
  · rw [h1] at HI
    have LB0 := Lib.hid (show Below w.heap.size w ((w.alloc (.cells #[.int .i64 S, .int .i64 N, .slice A n c] 24)).alloc (.cells #[.slice D m d] 22)) from (bel_alloc w _).alloc (by simp) _)
    have X1 := Lib.hid (show IBox ((w.alloc (.cells #[.int .i64 S, .int .i64 N, .slice A n c] 24)).alloc (.cells #[.slice D m d] 22)) w.heap.size S N (.slice A n c) from (IBox.new w _ _ _).alloc _)
    have X2 := Lib.hid (show SBox ((w.alloc (.cells #[.int .i64 S, .int .i64 N, .slice A n c] 24)).alloc (.cells #[.slice D m d] 22)) (w.heap.size + 1) (.slice D m d) from by simpa using SBox.new (w.alloc (.cells #[.int .i64 S, .int .i64 N, .slice A n c] 24)) (.slice D m d))
    go_enter Try.func12, Try.ntmps12
    go_upto_region 1 with (fail)
    generalize ((w.alloc (.cells #[.int .i64 S, .int .i64 N, .slice A n c] 24)).alloc (.cells #[.slice D m d] 22)) = w0 at *
    obtain ⟨q0, q1, q2, q3, q4, q5, q6⟩ := X1.out.all
    go_wp2_with fail
    clear q0 q1 q2 q3 q4 q5 q6
    with_reducible refine Calls.mono (HC.out _ LB0.out) ?_
    rintro e w1 ⟨rfl, hb⟩
    have LB1 := Lib.hid (LB0.out.trans (hb.mono LB0.out.size))
    have X2 := Lib.hid (X2.out.below hb X2.out.lt)
    clear hb LB0
    obtain ⟨p0, p1, p2⟩ := X2.out.all
    go_wp2_with (go_at_call 36; with_reducible refine Calls.mono (HI.out _) ?_; rintro e w2 ⟨rfl, rfl⟩)
    refine bodyPost_ret (v := .tuple #[.slice none 0 0, .int .i64 8]) (by simp [results, Try.results12, go_sem]) rfl ?_
    exact ⟨rfl, LB1.out⟩
  · rw [h1] at HI
    have h2 : upTo 1000 m l = false := by unfold hts at hh; rw [h1] at hh; simpa using hh
    rw [h2] at HT
    have LB0 := Lib.hid (show Below w.heap.size w ((w.alloc (.cells #[.int .i64 S, .int .i64 N, .slice A n c] 24)).alloc (.cells #[.slice D m d] 22)) from (bel_alloc w _).alloc (by simp) _)
    have X1 := Lib.hid (show IBox ((w.alloc (.cells #[.int .i64 S, .int .i64 N, .slice A n c] 24)).alloc (.cells #[.slice D m d] 22)) w.heap.size S N (.slice A n c) from (IBox.new w _ _ _).alloc _)
    have X2 := Lib.hid (show SBox ((w.alloc (.cells #[.int .i64 S, .int .i64 N, .slice A n c] 24)).alloc (.cells #[.slice D m d] 22)) (w.heap.size + 1) (.slice D m d) from by simpa using SBox.new (w.alloc (.cells #[.int .i64 S, .int .i64 N, .slice A n c] 24)) (.slice D m d))
    go_enter Try.func12, Try.ntmps12
    go_upto_region 1 with (fail)
    generalize ((w.alloc (.cells #[.int .i64 S, .int .i64 N, .slice A n c] 24)).alloc (.cells #[.slice D m d] 22)) = w0 at *
    obtain ⟨q0, q1, q2, q3, q4, q5, q6⟩ := X1.out.all
    go_wp2_with fail
    clear q0 q1 q2 q3 q4 q5 q6
    with_reducible refine Calls.mono (HC.out _ LB0.out) ?_
    rintro e w1 ⟨rfl, hb⟩
    have LB1 := Lib.hid (LB0.out.trans (hb.mono LB0.out.size))
    have X2 := Lib.hid (X2.out.below hb X2.out.lt)
    clear hb LB0
    obtain ⟨p0, p1, p2⟩ := X2.out.all
    go_wp2_with (first | (go_at_call 36; with_reducible refine Calls.mono (HI.out _) ?_; rintro e w2 ⟨rfl, rfl⟩) | (go_at_call 37; with_reducible refine Calls.mono (HT.out _ LB1.out) ?_; rintro e w2 ⟨rfl, rfl⟩))
    refine bodyPost_ret (v := .tuple #[.slice none 0 0, .int .i64 8]) (by simp [results, Try.results12, go_sem]) rfl ?_
    exact ⟨rfl, LB1.out⟩
set_option maxHeartbeats 3200000 in
theorem dr_ok (S N n : Nat) (A : Option Addr) (c : Nat) (b : Nat → Nat) (hO : NOk S N n b) (D : Option Addr) (m d : Nat) (l : Nat → Int) (w : World) (hb : NH w A n b) (hl : L2.Holds w w.heap.size D m l) (hh : hts m l = true) :
    Calls Try.prog 12 #[.agg #[.int .i64 (S : Nat), .int .i64 (N : Nat), .slice A n c], .slice D m d] w fun e w' => ∃ k, e = .returned (.tuple #[.slice (some ⟨k, 0, none⟩) m m, .int .i64 0]) ∧ L2.Row w' k m (drf S N n b l) ∧ Below w.heap.size w w' := by
  have hmf := mk_fn
  have HO := Lib.hid hO
  have h1 : len64 m = true ∧ upTo 1000 m l = true := by unfold hts at hh; simpa using hh
  have hm1 := of_decide_eq_true h1.1
  have HU := Lib.hid (upTo_of h1.2)
  have HC := Lib.hid (fun u (hu : Below w.heap.size w u) => nck_any (S : Nat) (N : Nat) A n c (fun i => ((b i : Nat) : Int)) u (by have := hO.l1; omega) ((hb.below hu).more hu.size))
  rw [nck_zero hO (fun _ _ => rfl)] at HC
  have HT := Lib.hid (fun u (hu : Below w.heap.size w u) => upto_any 1000 D m d l u (by omega) ((hl.below hu).more hu.size))
  have HI := Lib.hid (fun u => islen_any m u)
  rw [h1.1] at HI
  rw [h1.2] at HT
  have HB := Lib.hid (fun u (hu : Below w.heap.size w u) => (show NH u A n b from (hb.below hu).more hu.size))
  have HL := Lib.hid (fun u (hu : Below w.heap.size w u) => hl.below hu)
  have HAB := Lib.hid (show ∀ a, A = some a → a.block < w.heap.size from fun a ha => by
    obtain ⟨b0, o0, e0, l0, _⟩ := hb (by have := hO.l0; omega)
    rw [ha] at e0; cases e0; exact l0)
  clear hO hb hl hh h1
  have z0 : ((0 : Int) != 0) = false := rfl
  have hmk := fun u => mki_run m (by omega) u
  refine (callsIn_wide (n := 4)).1 ?_
  refine callsIn_of_wp_marks Try.func12 rfl trivial ?_ rfl
  simp only [Try.ntmps12, List.size_toArray, List.length_cons, List.length_nil, Nat.reduceAdd, Nat.reduceSub, Array.replicate_succ, Array.replicate_zero, List.push_toArray, List.append_toArray, List.nil_append, List.cons_append]
  have LB0 := Lib.hid (show Below w.heap.size w ((w.alloc (.cells #[.int .i64 (S : Nat), .int .i64 (N : Nat), .slice A n c] 24)).alloc (.cells #[.slice D m d] 22)) from (bel_alloc w _).alloc (by simp) _)
  have X1 := Lib.hid (show IBox ((w.alloc (.cells #[.int .i64 (S : Nat), .int .i64 (N : Nat), .slice A n c] 24)).alloc (.cells #[.slice D m d] 22)) w.heap.size (S : Nat) (N : Nat) (.slice A n c) from (IBox.new w _ _ _).alloc _)
  have X2 := Lib.hid (show SBox ((w.alloc (.cells #[.int .i64 (S : Nat), .int .i64 (N : Nat), .slice A n c] 24)).alloc (.cells #[.slice D m d] 22)) (w.heap.size + 1) (.slice D m d) from by simpa using SBox.new (w.alloc (.cells #[.int .i64 (S : Nat), .int .i64 (N : Nat), .slice A n c] 24)) (.slice D m d))
  gi_upto_region 1 with (fail)
  generalize ((w.alloc (.cells #[.int .i64 (S : Nat), .int .i64 (N : Nat), .slice A n c] 24)).alloc (.cells #[.slice D m d] 22)) = w0 at *
  obtain ⟨q0, q1, q2, q3, q4, q5, q6⟩ := X1.out.all
  gi_wp2_with (first | (refine ⟨trivial, ?_⟩; gi_at_call 36; with_reducible refine CallsIn.mono (callsIn_wide.2 (HI.out _)) ?_; rintro e w3 ⟨rfl, rfl⟩) | (refine ⟨trivial, ?_⟩; gi_at_call 18; with_reducible refine CallsIn.mono (callsIn_wide.2 (HC.out _ LB0.out)) ?_; rintro e w2 ⟨rfl, hb1⟩; have LB1 := Lib.hid (LB0.out.trans (hb1.mono LB0.out.size)); have X11 := Lib.hid (X1.out.below hb1 X1.out.lt); have X21 := Lib.hid (X2.out.below hb1 X2.out.lt); obtain ⟨p0, p1, p2⟩ := X21.out.all) | (refine ⟨trivial, ?_⟩; gi_at_call 37; with_reducible refine CallsIn.mono (callsIn_wide.2 (HT.out _ LB1.out)) ?_; rintro e w2 ⟨rfl, rfl⟩; have X12 := Lib.hid ((X11.out.alloc (.cells (madeCells #[.int .i64 0] m) 3)).alloc (.cells #[.slice (some ⟨w2.heap.size, 0, none⟩) m m] 22)); obtain ⟨r0, r1, r2, r3, r4, r5, r6⟩ := X12.out.all; have X22 := Lib.hid ((X21.out.alloc (.cells (madeCells #[.int .i64 0] m) 3)).alloc (.cells #[.slice (some ⟨w2.heap.size, 0, none⟩) m m] 22)); obtain ⟨t0, t1, t2⟩ := X22.out.all) | (refine ⟨trivial, ?_⟩; gi_at_call 38; with_reducible refine CallsIn.mono (callsIn_wide.2 (ends_any S N n A c m _)) ?_; rintro e w3 ⟨rfl, rfl⟩))
  clear q0 q1 q2 q3 q4 q5 q6 p0 p1 p2 r0 r1 r2 r3 r4 r5 r6 t0 t1 t2 X1 X2 LB0 hb1
  have HEN0 := Lib.hid (en_new S N n A c m b ((w2.alloc (.cells (madeCells #[.int .i64 0] m) 3)).alloc (.cells #[.slice (some ⟨w2.heap.size, 0, none⟩) m m] 22)) (HO.out.l0) (HO.out.l1) (HB.out _ (LB1.out.trans (((bel_alloc w2 _).alloc (by simp) _).mono LB1.out.size))))
  have hro : L2.Row ((w2.alloc (.cells (madeCells #[.int .i64 0] m) 3)).alloc (.cells #[.slice (some ⟨w2.heap.size, 0, none⟩) m m] 22)) w2.heap.size m (fun _ => 0) := ((L2.RowL.made w2 m).row).alloc _
  have htb : Boxed ((w2.alloc (.cells (madeCells #[.int .i64 0] m) 3)).alloc (.cells #[.slice (some ⟨w2.heap.size, 0, none⟩) m m] 22)) (w2.heap.size + 1) 22 (.slice (some ⟨w2.heap.size, 0, none⟩) m m) := by simpa using Boxed.new (w2.alloc (.cells (madeCells #[.int .i64 0] m) 3)) 22 (.slice (some ⟨w2.heap.size, 0, none⟩) m m)
  have hbV : Below w2.heap.size w2 ((w2.alloc (.cells (madeCells #[.int .i64 0] m) 3)).alloc (.cells #[.slice (some ⟨w2.heap.size, 0, none⟩) m m] 22)) := (bel_alloc w2 _).alloc (by simp) _
  have hsV : ((w2.alloc (.cells (madeCells #[.int .i64 0] m) 3)).alloc (.cells #[.slice (some ⟨w2.heap.size, 0, none⟩) m m] 22)).heap.size = w2.heap.size + 2 := by simp
  rw [show w2.heap.size + 1 + 1 = w2.heap.size + 2 from rfl] at *
  generalize ((w2.alloc (.cells (madeCells #[.int .i64 0] m) 3)).alloc (.cells #[.slice (some ⟨w2.heap.size, 0, none⟩) m m] 22)) = wV at *
  rw [hsV] at HEN0
  have LBV := Lib.hid (LB1.out.trans (hbV.mono LB1.out.size))
  have z21 := LB1.out.size
  have z22 : w.heap.size + 1 < w2.heap.size := X21.out.lt
  clear hbV X11 X21
  have hbU : Below wV.heap.size wV ((wV.alloc (.cells #[.int .i64 (S : Nat), .int .i64 (N : Nat), .slice A n c] 24)).alloc (.cells #[.int .i64 (m : Nat)] 3)) := (bel_alloc wV _).alloc (by simp) _
  have hsz : ((wV.alloc (.cells #[.int .i64 (S : Nat), .int .i64 (N : Nat), .slice A n c] 24)).alloc (.cells #[.int .i64 (m : Nat)] 3)).heap.size = w2.heap.size + 4 := by simp [hsV]
  have X1 := Lib.hid (X12.out.below hbU X12.out.lt)
  have X2 := Lib.hid (X22.out.below hbU X22.out.lt)
  have X3 := Lib.hid (bxb htb hbU)
  have XR := Lib.hid (hro.below hbU (by rw [hsV]; omega))
  have LBU := Lib.hid (LBV.out.trans (hbU.mono LBV.out.size))
  clear hbU X12 X22 htb hro
  generalize ((wV.alloc (.cells #[.int .i64 (S : Nat), .int .i64 (N : Nat), .slice A n c] 24)).alloc (.cells #[.int .i64 (m : Nat)] 3)) = wU at *
  have HEN := Lib.hid HEN0.out
  have z23 : wU.heap.size = w2.heap.size + 4 := hsz
  clear HEN0
  generalize hs2 : w2.heap.size = kb at *
  clear hsV
  have HLU := Lib.hid (HL.out _ LBU.out)
  refine wpIn_rangeFunc_ownH (F := Fence.wide) (n := 4) (encs := enc n b (m := m)) rfl (by omega) (gf := 53) (lb := #[.pointer (some ⟨kb + 2 + 1, 0, none⟩), .pointer (some ⟨kb + 2, 0, none⟩)]) rfl trivial (enters_of Try.func53 (by kernel_rfl) rfl)
    (ends_stops (kb + 2 + 1) (kb + 2) m S N A n c b 3 (by omega) (by omega) wU HEN.out)
    (fun h k => KB.t h k) (fun X l o o' hl h h1 h2 => KB.b (w := wU) HEN.out.lt X l o o' hl h h1 h2) (Below.refl _ _) (fun _ => rfl)
    (fun pre X => But kb wU X ∧ ∃ t, L2.Row X kb m t ∧ ∀ x : Fin m, x ∈ pre → t x.1 = drf S N n b l x.1)
    (fun _ _ _ => False) ?ownI (fun _ _ _ _ _ hs _ _ => hs) ⟨⟨rfl, rfl, rfl, Nat.le_refl _, fun _ _ _ => rfl⟩, _, XR.out, fun x hx => by cases hx⟩
    (fun x a' W => ∃ xb, a' = { tmps := #[.agg #[.int .i64 (S : Nat), .int .i64 (N : Nat), .slice A n c], .slice D m d, .pointer (some ⟨w.heap.size, 0, none⟩), .pointer (some ⟨w.heap.size + 1, 0, none⟩), .slice none 0 0, .int .i64 0, .int .i64 0, .pointer (some ⟨kb + 1, 0, none⟩), .pointer (some ⟨xb, 0, none⟩), .int .i64 ((b (x.1 % n) : Nat) : Int), .agg #[.int .i64 (S : Nat), .int .i64 (N : Nat), .slice A n c], .int .i64 0, .int .i64 0, .bool false, undef, .slice D m d, .int .i64 (m : Nat), .bool true, .bool false, .bool false, .slice D m d, .bool true, .bool false, .bool false, .slice D m d, .int .i64 (m : Nat), .slice (some ⟨kb, 0, none⟩) m m, .agg #[.int .i64 (S : Nat), .int .i64 (N : Nat), .slice A n c], .slice D m d, .int .i64 (m : Nat), .func (.func 53) #[] #[.pointer (some ⟨kb + 2 + 1, 0, none⟩), .pointer (some ⟨kb + 2, 0, none⟩)], .int .i64 (x.1 : Nat), .int .i64 ((b (x.1 % n) : Nat) : Int), undef, undef, undef, undef, undef, undef, undef, undef, undef], defers := [] } ∧ wU.heap.size ≤ xb ∧ Boxed W xb 3 (.int .i64 (x.1 : Nat)))
    ?ownA ?assign ?body ?done ?stop
  case ownI =>
    rintro pre X Y row ⟨h, t, h2, h3⟩ hg hr
    have hne : ∀ p, p < wU.heap.size → some p ≠ row := fun p hp e => by have := (hr p e.symm).1; omega
    obtain ⟨cs, g1, g2⟩ := h2
    exact ⟨⟨hg.os.trans h.os, hg.tape.trans h.tape, hg.output.trans h.output, Nat.le_trans h.size hg.size, fun p hp hk => (hg.block p (Nat.lt_of_lt_of_le hp h.size) (hne p hp)).trans (h.block p hp hk)⟩, t, ⟨cs, (hg.block kb (by have := h.size; omega) (hne kb (by omega))).trans g1, g2⟩, h3⟩
  case ownA =>
    rintro x a' u X Y row ⟨xb, h1, h2, h3⟩ hg hr
    refine ⟨xb, h1, h2, h3.kept hg fun e => ?_⟩
    obtain ⟨_, o, ho, hc⟩ := hr xb e.symm
    rw [show X.heap[xb]? = _ from h3] at ho
    cases ho; cases hc
  case assign =>
    rintro l1 pre x X K ⟨hX, t, hr, ht⟩ hK
    dsimp only [enc]
    gi_wp2
    have hal : Below X.heap.size X (X.alloc (.cells #[.int .i64 (x.1 : Nat)] 3)) := bel_alloc X _
    have hsx := hX.size
    refine hK _ _ ((KeepsOthers.alloc X _).from _) (KB.of hal (fun p hp => Nat.lt_of_lt_of_le (HEN.out.lt p hp) hsx)) ⟨⟨hX.os, hX.tape, hX.output, Nat.le_trans hsx hal.size, fun p hp hk => (hal.block p (Nat.lt_of_lt_of_le hp hsx)).trans (hX.block p hp hk)⟩, t, hr.alloc _, ht⟩ ⟨X.heap.size, rfl, hsx, Boxed.new X 3 _⟩
  case body =>
    rintro l1 pre x a' X hl1 hrec ⟨hX, t, hr, ht⟩ ⟨xb, rfl, hxb, hbx⟩ hlt
    have hsx := hX.size
    have Y1 : IBox X w.heap.size (S : Nat) (N : Nat) (.slice A n c) := (hX.block _ X1.out.lt (by omega)).trans X1.out
    have Y2 : SBox X (w.heap.size + 1) (.slice D m d) := (hX.block _ X2.out.lt (by omega)).trans X2.out
    have Y3 : Boxed X (kb + 1) 22 (.slice (some ⟨kb, 0, none⟩) m m) := (hX.block _ X3.out.lt (by omega)).trans X3.out
    have hxm := x.2
    obtain ⟨db, dof, rfl, hdl, hdc⟩ := HLU.out (Nat.lt_of_le_of_lt (Nat.zero_le _) hxm)
    have a0 : X.cell? ⟨db, dof + x.1, none⟩ = some (.int .i64 (l x.1)) := (World.cell?_of_block (w := wU) (w' := X) (a := ⟨db, dof + x.1, none⟩) (hX.block db (by omega) (by omega))).trans (hdc x.1 hxm)
    have hu := HU.out x.1 hxm
    have HHG := Lib.hid (show Hg X (w.heap.size + 1) xb (l x.1) from ⟨⟨_, db, dof, m, d, x.1, rfl, Y2, hbx.cell, hbx.lt, by omega, hxm, a0⟩, hu.1, hu.2⟩)
    have hOx := HO.out
    have hrr : b (x.1 % n) < N := hOx.b _ (Nat.mod_lt _ (by have := hOx.l0; omega))
    have HSF := Lib.hid (fun u => sof_any S N n A c (b (x.1 % n)) u hOx.n0 (by have := hOx.ns; have := hOx.s1; omega) hOx.s1 hOx.dv hrr)
    have HNR := Lib.hid (fun u A' c' (hu : Below X.heap.size X u) (hA' : L2.Holds u u.heap.size A' (S / N) (cls N (b (x.1 % n)))) => nrs_any N (b (x.1 % n)) (S / N) (w.heap.size + 1) xb A' c' (l x.1) u (Nat.div_pos hOx.ns hOx.n0) (fun j hj => by have := cls_lt hOx.dv hrr hj; have := hOx.s1; omega) (by have := Nat.div_le_self S N; have := hOx.s1; omega) hA' (HHG.out.next hu))
    have HLN := Lib.hid (fun j (hj : Lst N (b (x.1 % n)) (l x.1) (S / N) j) => (show cls N (b (x.1 % n)) j = drf S N n b l x.1 from lst_nv hOx.dv hOx.n0 hrr hj))
    have HSW := Lib.hid (show ∀ u, Below X.heap.size X u → u.cell? ⟨kb + 1, 0, none⟩ = some (.slice (some ⟨kb, 0, none⟩) m m) ∧ u.cell? ⟨xb, 0, none⟩ = some (.int .i64 (x.1 : Nat)) ∧ u.cell? ⟨w.heap.size, 0, none⟩ = some (.int .i64 (S : Nat)) ∧ u.cell? ⟨w.heap.size, 1, none⟩ = some (.int .i64 (N : Nat)) ∧ u.cell? ⟨w.heap.size, 2, none⟩ = some (.slice A n c) from fun u hu => ⟨(bxb Y3 hu).cell, (bxb hbx hu).cell, (Y1.below hu Y1.lt).c0, (Y1.below hu Y1.lt).c1, (Y1.below hu Y1.lt).c2⟩)
    have HX := Lib.hid hX
    have HR := Lib.hid hr
    have HT := Lib.hid ht
    have y1 : (x.1 : Int) < (m : Int) := by omega
    have y2 : (0 : Int) ≤ (x.1 : Int) := by omega
    generalize b (x.1 % n) = rr at *
    clear hX hr ht a0 hu hOx hrr hdc Y1 Y2 Y3 hbx
    gi_wp2
    refine wpIn_region_any (by kernel_rfl) ?_
    try (change wpAnyIn _ _ _ _ _ _ _ _ _ (World.drew _))
    have hSw := HSW.out X.drew (Below.refl _ _).drew
    refine anyD_in (S := fun u : World => u.cell? ⟨kb + 1, 0, none⟩ = some (.slice (some ⟨kb, 0, none⟩) m m) ∧ u.cell? ⟨xb, 0, none⟩ = some (.int .i64 (x.1 : Nat)) ∧ u.cell? ⟨w.heap.size, 0, none⟩ = some (.int .i64 (S : Nat)) ∧ u.cell? ⟨w.heap.size, 1, none⟩ = some (.int .i64 (N : Nat)) ∧ u.cell? ⟨w.heap.size, 2, none⟩ = some (.slice A n c)) (D := [7, 8]) _ _ _ _ ?_
    refine anyD_takeR [7, 8] (i := 0) (v := ?_) (by kernel_rfl) rfl (by kernel_rfl) (by kernel_rfl) (by kernel_rfl) (by kernel_rfl) (by kernel_rfl) (by kernel_rfl) (fun _ _ _ h => h) ⟨Or.inl ⟨by kernel_rfl, ?_⟩, fun _ => rfl⟩ hSw ?_
    rotate_left
    · (intro u hu; obtain ⟨h0, h1, h2, h3, h4⟩ := hu; first | (go_simp; done) | (go_simp; with_reducible rfl))
    try simp only [Act.put, List.getElem_toArray, List.getElem_cons_succ, List.getElem_cons_zero, List.setIfInBounds_toArray, List.set_cons_zero, List.set_cons_succ]
    refine anyD_takeR [7, 8] (i := 1) (v := ?_) (by kernel_rfl) rfl (by kernel_rfl) (by kernel_rfl) (by kernel_rfl) (by kernel_rfl) (by kernel_rfl) (by kernel_rfl) (fun _ _ _ h => h) ⟨Or.inl ⟨by kernel_rfl, ?_⟩, fun _ => rfl⟩ hSw ?_
    rotate_left
    · (intro u hu; obtain ⟨h0, h1, h2, h3, h4⟩ := hu; first | (go_simp; done) | (go_simp; with_reducible rfl))
    try simp only [Act.put, List.getElem_toArray, List.getElem_cons_succ, List.getElem_cons_zero, List.setIfInBounds_toArray, List.set_cons_zero, List.set_cons_succ]
    refine anyD_takeR [4, 6, 7, 8] (i := 2) (v := ?_) (by kernel_rfl) rfl (by kernel_rfl) (by kernel_rfl) (by kernel_rfl) (by kernel_rfl) (by kernel_rfl) (by kernel_rfl) (fun _ _ _ h => h) ⟨Or.inl ⟨by kernel_rfl, ?_⟩, fun _ => rfl⟩ hSw ?_
    rotate_left
    · (intro u hu; obtain ⟨h0, h1, h2, h3, h4⟩ := hu; first | (go_simp; done) | (go_simp; with_reducible rfl))
    try simp only [Act.put, List.getElem_toArray, List.getElem_cons_succ, List.getElem_cons_zero, List.setIfInBounds_toArray, List.set_cons_zero, List.set_cons_succ]
    refine anyD_takeR [4, 6, 7, 8] (i := 3) (v := ?_) (by kernel_rfl) rfl (by kernel_rfl) (by kernel_rfl) (by kernel_rfl) (by kernel_rfl) (by kernel_rfl) (by kernel_rfl) (fun _ _ _ h => h) ⟨Or.inl ⟨by kernel_rfl, ?_⟩, fun _ => rfl⟩ hSw ?_
    rotate_left
    · (intro u hu; obtain ⟨h0, h1, h2, h3, h4⟩ := hu; first | (go_simp; done) | (go_simp; with_reducible rfl))
    try simp only [Act.put, List.getElem_toArray, List.getElem_cons_succ, List.getElem_cons_zero, List.setIfInBounds_toArray, List.set_cons_zero, List.set_cons_succ]
    refine anyD_takeR [6, 7, 8] (i := 5) (v := ?_) (by kernel_rfl) rfl (by kernel_rfl) (by kernel_rfl) (by kernel_rfl) (by kernel_rfl) (by kernel_rfl) (by kernel_rfl) (fun _ _ _ h => h) ⟨Or.inl ⟨by kernel_rfl, ?_⟩, fun _ => rfl⟩ hSw ?_
    rotate_left
    · (intro u hu; obtain ⟨h0, h1, h2, h3, h4⟩ := hu; first | (go_simp; done) | (go_simp; with_reducible rfl))
    try simp only [Act.put, List.getElem_toArray, List.getElem_cons_succ, List.getElem_cons_zero, List.setIfInBounds_toArray, List.set_cons_zero, List.set_cons_succ]
    refine anyD_one (i := 4) (by kernel_rfl) rfl (fun K hK => ?_)
    go_simp
    gi_wp2_with (refine ⟨trivial, ?_⟩; gi_at_call 40; with_reducible refine CallsIn.mono (CallsIn.inRound l1 (callsIn_wide.2 (HSF.out _))) ?_; rintro e u1 ⟨A1, c1, rfl, hA0, hA1, hb1⟩)
    have HB1 := Lib.hid ((Below.refl X.heap.size X).drew.trans hb1)
    refine hK _ _ (.inr (HSW.out _ HB1.out)) ?_
    clear hK K
    refine anyD_one (i := 6) (by kernel_rfl) rfl (fun K hK => ?_)
    go_simp
    gi_wp2_with (refine ⟨trivial, ?_⟩; gi_at_call 39; with_reducible refine CallsIn.mono (CallsIn.inRound l1 (callsIn_wide.2 (HNR.out _ _ _ HB1.out hA1))) ?_; rintro e u2 ⟨j, rfl, hj, hb2⟩)
    have HB2 := Lib.hid (HB1.out.trans (hb2.mono HB1.out.size))
    refine hK _ _ (.inr (HSW.out _ HB2.out)) ?_
    clear hK K hb1 hb2 hA0 hA1
    have hv := HLN.out j hj
    generalize cls N rr j = cv at *
    subst hv
    refine anyD_ofb (by kernel_rfl) ?_
    have hR2 := HR.out.below HB2.out HR.out.lt
    have g1 := hR2.free x.1
    have g2 := hR2.cell hxm
    refine wpAnyIn_ready (rs := [7]) (by kernel_rfl) (by simp) ?_
    refine AllReadyIn.cons rfl (fun K hK => ?_) AllReadyIn.nil
    go_simp
    gi_wp2
    try (refine hK _ _ ?_; clear hK K)
    refine wpAnyIn_ready (rs := [8]) (by kernel_rfl) (by simp) ?_
    refine AllReadyIn.cons rfl (fun K hK => ?_) AllReadyIn.nil
    go_simp
    gi_wp2
    try (refine hK _ _ ?_; clear hK K)
    refine wpAnyIn_done (by kernel_rfl) ?_ _
    gi_wp2
    have hR3 := hR2.set_ x.1 (drf S N n b l x.1)
    have hbk : But kb wU (u2.setCell ⟨kb, x.1, none⟩ (.int .i64 (drf S N n b l x.1))) := by
      have h2 := HB2.out
      have h1 := HX.out
      exact ⟨h2.os.trans h1.os, h2.tape.trans h1.tape, h2.output.trans h1.output, by simpa using Nat.le_trans h1.size h2.size, fun p hp hk => (Below.heap_setCell u2 ⟨kb, x.1, none⟩ _ p hk).trans ((h2.block p (Nat.lt_of_lt_of_le hp h1.size)).trans (h1.block p hp hk))⟩
    refine ⟨((KeepsOthers.of_grownBy (grown_of HB2.out) (fun j o e => by cases e)).trans (KeepsOthers.setCell _ _ _)).from _, fun p hp => ?_, hbk, _, hR3, fun y hy => ?_⟩
    · have hp1 := HEN.out.lt p hp
      refine (Below.heap_setCell u2 ⟨kb, x.1, none⟩ _ p ?_).trans (HB2.out.block p (by omega))
      rcases hp with rfl | rfl | ⟨a, ha, rfl⟩
      · simp; omega
      · simp
      · have := HAB.out a ha
        simp
        omega
    · rcases List.mem_append.1 hy with h | h
      · by_cases e : y.1 = x.1
        · simp [e]
        · simp only [e, if_false]
          exact HT.out y h
      · obtain rfl : y = x := by simpa using h
        simp
  case done =>
    rintro D' ys X hD rfl ⟨hX, t, hr, ht⟩ hK
    have Y3 : Boxed X (kb + 1) 22 (.slice (some ⟨kb, 0, none⟩) m m) := (hX.block _ X3.out.lt (by omega)).trans X3.out
    have q0 := Y3.cell
    have hbw := hX.below LBU.out z21
    gi_wp2
    refine ⟨by simp, .inl ⟨_, _, rfl, run_takeDeferred hK, ?_⟩⟩
    refine ⟨.tuple #[.slice (some ⟨kb, 0, none⟩) m m, .int .i64 0], by simp [results, Try.results12, go_sem], kb, rfl, ?_, bel_take hbw (by omega) hK⟩
    have hR2 : L2.Row X kb m (drf S N n b l) := hr.congr fun i hi => ht ⟨i, hi⟩ (by rw [fr_all]; simp)
    obtain ⟨cs, g1, g2⟩ := hR2
    exact ⟨cs, (World.putObj_heap_other (fun e => by rw [e] at g1; rw [g1] at hK; cases hK)).trans g1, g2⟩
  case stop =>
    rintro D' c pre X _ _ h _
    exact h.elim
end Go.Proofs.Ythipdfkgeghooaa
