/- The program's threads: the iterator's contract. -/
import Derived.Test.YtnpgmgaajejhjaaRgl
import Derived.Test.YtnpgmgaajejhjaaIsu
import Derived.Laws.EntriesVeiled
namespace Go.Proofs.Ytnpgmgaajejhjaa
open Go.RowKit Go.Shelf
set_option maxRecDepth 100000
set_option linter.unusedVariables false
set_option linter.unusedSimpArgs false

attribute [local go_sem] Oper.semAt_some
/-- A thread that is handed over: an end or a pick, its number, the block of its sides. -/
structure Th where
  (wp : Bool)
  (at_ k : Nat)
def thn (W : Nat) (i : Nat) : Bool × Nat := if i < W then (true, i) else (false, i - W)
def the (W H : Nat) (x : Th) : Array Value := #[.agg #[.bool x.wp, .int .i64 (x.at_ : Nat)], .slice (some ⟨x.k, 0, none⟩) (nc W H x.wp) (nc W H x.wp)]
/-- The thread is the next one, and its sides lie at its block. -/
def ThOk (W H : Nat) (f : Nat → Bool) (pre : List Th) (x : Th) (X : World) : Prop :=
  pre.length < W + H ∧ (x.wp, x.at_) = thn W pre.length ∧ VR X x.k 3 (nc W H x.wp) (fun i => .int .i64 (sv (sd W H f x.wp x.at_ i)))
theorem thok_put {W H : Nat} {f : Nat → Bool} {pre : List Th} {x : Th} {X : World} {l : Nat} {o : Obj} (o' : Obj) (hl : X.heap[l]? = some o) (ho : o.isCells = false) (h : ThOk W H f pre x X) : ThOk W H f pre x (X.putObj l o') := by
  obtain ⟨h1, h2, cs, h3, h4⟩ := h
  refine ⟨h1, h2, cs, ?_, h4⟩
  rw [World.putObj_heap_other (fun e => by rw [e, hl] at h3; cases h3; cases ho)]
  exact h3
theorem TG.keep {P : Nat → Prop} {v v' : World} {gb kb W H b o c : Nat} {f : Nat → Bool} (h : TG v gb kb W H b o c f) (hk : KB P v v') (p1 : P gb) (p2 : P kb) (p3 : P b) : TG v' gb kb W H b o c f := by
  refine ⟨(hk gb p1).trans h.g, (hk kb p2).trans h.k, fun i hi => (hk.cell b (o + i) p3).trans (h.r i hi), ?_, h.w0, h.w1, h.h0, h.h1⟩
  have e := hk b p3
  rw [Array.getElem?_eq_getElem h.b0] at e
  exact (Array.getElem?_eq_some_iff.1 e).1
theorem grown_of {w w' : World} (h : Below w.heap.size w w') : w.grownBy w' none := ⟨h.os, h.tape, h.output, h.size, fun k hk _ => h.block k hk⟩
set_option maxHeartbeats 1600000 in
theorem thi_in (n : Nat) (hn : 1 ≤ n) (P : Nat → Prop) (l gb kb W H b o c : Nat) (f : Nat → Bool) (p1 : P gb) (p2 : P kb) (p3 : P b) (J Jx : List Th → World → Prop) (W0 : World) (hG : TG W0 gb kb W H b o c f) (hJ : AbidesFrom W0.heap.size J)
    (hY : ∀ pre x W1, J pre W1 → ThOk W H f pre x W1 → YieldAt Fence.wide (n - 1) Try.prog l (the W H x) W1 fun e W' => (e = .returned (.bool true) ∧ J (pre ++ [x]) W' ∧ KB P W1 W') ∨ (e = .returned (.bool false) ∧ Jx (pre ++ [x]) W'))
    (h0 : J [] W0) :
    CallsIn Fence.wide n Try.prog 100 #[.func (.yield l) #[] #[], .pointer (some ⟨gb, 0, none⟩), .pointer (some ⟨kb, 0, none⟩)] W0 fun e W' => (∃ v, e = .returned v) ∧ ((∃ xs, xs.length = W + H ∧ J xs W') ∨ (∃ pre, Jx pre W')) := by
  have hmf := mk_fn
  have hw0 := hG.w0
  have hw1 := hG.w1
  have hh0 := hG.h0
  have hh1 := hG.h1
  have HG0 := Lib.hid hG
  clear hG
  refine callsIn_of_wp Try.func100 rfl trivial ?_ rfl
  simp only [Try.ntmps100, List.size_toArray, List.length_cons, List.length_nil, Nat.reduceAdd, Nat.reduceSub, Array.replicate_succ, Array.replicate_zero, List.push_toArray, List.append_toArray, List.nil_append, List.cons_append]
  obtain ⟨q0, q1, q2, q3, q4, q5, q6⟩ := HG0.out.g.all
  gi_wp2
  clear q0 q1 q2 q3 q4 q5 q6
  gi_loopw [10] (fun v wr => ∃ x : Nat, x ≤ W ∧ v = .int .i64 (x : Nat) ∧ Hid (TG wr gb kb W H b o c f) ∧ ∃ pre, pre.length = x ∧ J pre wr) (fun v _ => W - (intOf v).toNat)
  case atStart => exact ⟨0, Nat.zero_le _, rfl, HG0, [], rfl, h0⟩
  case round =>
    obtain ⟨x, hx, rfl, HG, pre, hpre, hJs⟩ := hrel
    by_cases hlt : x < W
    · have x1 : (x : Int) < (W : Int) := by omega
      have hb1 : Below wr.heap.size wr (wr.alloc (.cells #[.int .i64 (x : Nat)] 3)) := (Below.refl _ _).alloc (Nat.le_refl _) _
      have HG1 := Lib.hid (HG.out.next hb1)
      have HX := Lib.hid (Boxed.new wr 3 (.int .i64 (x : Nat)))
      have HS := Lib.hid (end_says HG1.out wr.heap.size x hlt HX.out)
      obtain ⟨q0, q1, q2, q3, q4, q5, q6⟩ := HG1.out.g.all
      gi_wp2_with (refine ⟨trivial, ?_⟩; gi_at_call 101; refine (callsIn_wide.2 (sides_any H hh1 102 _ _ _ _ HS.out (enters_of Try.func102 (by kernel_rfl) rfl))).mono ?_; rintro e w2 ⟨k, rfl, hk, hv, hb2⟩; have hc : w2.cell? ⟨wr.heap.size, 0, none⟩ = some (.int .i64 (x : Nat)) := (hb2.cell (p := ⟨wr.heap.size, 0, none⟩) (by simp)).trans HX.out.cell; obtain ⟨fn, tmps, assign, body, hy, hR⟩ := hY pre ⟨true, x, k⟩ w2 (hJ _ wr w2 none hJs (grown_of (hb1.trans (hb2.mono hb1.size))) (fun r e => by cases e)) ⟨by omega, by unfold thn; rw [hpre, if_pos hlt], hv⟩; dsimp only [the, nc] at hy; simp only [if_true] at hy)
      clear q0 q1 q2 q3 q4 q5 q6
      refine hR.mono ?_
      rintro e W3 (⟨rfl, hJ3, hk3⟩ | ⟨rfl, hJx3⟩)
      · have HG3 := Lib.hid ((HG1.out.next hb2).keep hk3 p1 p2 p3)
        gi_wp2
        go_roundw
        case rel => exact ⟨x + 1, by omega, by simp, HG3, _, by rw [List.length_append, hpre]; rfl, hJ3⟩
        case measure => simp [intOf]; omega
      · gi_wp2
        refine bodyPost_ret (results_none rfl _ _ _) rfl ?_
        exact ⟨⟨_, rfl⟩, .inr ⟨_, hJx3⟩⟩
    · have e : x = W := by omega
      subst e
      have x1 : ¬ (x : Int) < (x : Int) := by omega
      obtain ⟨q0, q1, q2, q3, q4, q5, q6⟩ := HG.out.g.all
      gi_wp2
      clear q0 q1 q2 q3 q4 q5 q6
      gi_loopw [26] (fun v wr => ∃ y : Nat, y ≤ H ∧ v = .int .i64 (y : Nat) ∧ Hid (TG wr gb kb x H b o c f) ∧ ∃ pre, pre.length = x + y ∧ J pre wr) (fun v _ => H - (intOf v).toNat)
      case atStart => exact ⟨0, Nat.zero_le _, rfl, HG, pre, hpre, hJs⟩
      case round =>
        obtain ⟨y, hy0, rfl, HG2, pre2, hpre2, hJs2⟩ := hrel
        by_cases hlt2 : y < H
        · have x2 : (y : Int) < (H : Int) := by omega
          have hb1 : Below wr.heap.size wr (wr.alloc (.cells #[.int .i64 (y : Nat)] 3)) := (Below.refl _ _).alloc (Nat.le_refl _) _
          have HG3 := Lib.hid (HG2.out.next hb1)
          have HX := Lib.hid (Boxed.new wr 3 (.int .i64 (y : Nat)))
          have HS := Lib.hid (pick_says HG3.out wr.heap.size y hlt2 HX.out)
          obtain ⟨q0, q1, q2, q3, q4, q5, q6⟩ := HG3.out.g.all
          gi_wp2_with (refine ⟨trivial, ?_⟩; gi_at_call 101; refine (callsIn_wide.2 (sides_any x hw1 103 _ _ _ _ HS.out (enters_of Try.func103 (by kernel_rfl) rfl))).mono ?_; rintro e w2 ⟨k, rfl, hk, hv, hb2⟩; have hc : w2.cell? ⟨wr.heap.size, 0, none⟩ = some (.int .i64 (y : Nat)) := (hb2.cell (p := ⟨wr.heap.size, 0, none⟩) (by simp)).trans HX.out.cell; obtain ⟨fn, tmps, assign, body, hy, hR⟩ := hY pre2 ⟨false, y, k⟩ w2 (hJ _ wr w2 none hJs2 (grown_of (hb1.trans (hb2.mono hb1.size))) (fun r e => by cases e)) ⟨by omega, by unfold thn; rw [hpre2, if_neg (by omega), Nat.add_sub_cancel_left], hv⟩; dsimp only [the, nc] at hy; simp only [Bool.false_eq_true, if_false] at hy)
          clear q0 q1 q2 q3 q4 q5 q6
          refine hR.mono ?_
          rintro e W3 (⟨rfl, hJ3, hk3⟩ | ⟨rfl, hJx3⟩)
          · have HG4 := Lib.hid ((HG3.out.next hb2).keep hk3 p1 p2 p3)
            gi_wp2
            go_roundw
            case rel => exact ⟨y + 1, by omega, by simp, HG4, _, by rw [List.length_append, hpre2]; rfl, hJ3⟩
            case measure => simp [intOf]; omega
          · gi_wp2
            refine bodyPost_ret (results_none rfl _ _ _) rfl ?_
            exact ⟨⟨_, rfl⟩, .inr ⟨_, hJx3⟩⟩
        · have e : y = H := by omega
          subst e
          have x2 : ¬ (y : Int) < (y : Int) := by omega
          gi_wp2
          go_end0
          exact ⟨⟨_, rfl⟩, .inl ⟨_, hpre2, hJs2⟩⟩
theorem thi_seq (P : Nat → Prop) (n gb kb W H b o c : Nat) (f : Nat → Bool) (hn : 1 ≤ n) (p1 : P gb) (p2 : P kb) (p3 : P b) (w : World) (hG : TG w gb kb W H b o c f) :
    SeqW Fence.wide n Try.prog 100 #[.pointer (some ⟨gb, 0, none⟩), .pointer (some ⟨kb, 0, none⟩)] (the W H) (ThOk W H f) (KB P) (fun xs => xs.length = W + H) w :=
  fun l J Jx X hX hJ hY h0 => thi_in n hn P l gb kb W H b o c f p1 p2 p3 J Jx X (hG.next hX) hJ hY h0
/-- threads hands back the iterator. -/
theorem thr_any (W H b o c : Nat) (f : Nat → Bool) (w : World) (hW0 : 1 ≤ W) (hW : W ≤ 64) (hH0 : 1 ≤ H) (hH : H ≤ 64) (hb : b < w.heap.size) (hr : ∀ i, i < W * H → w.cell? ⟨b, o + i, none⟩ = some (.bool (f i))) :
    Calls Try.prog 65 #[.agg #[.int .i64 (W : Nat), .int .i64 (H : Nat), .slice (some ⟨b, o, none⟩) (W * H) c]] w fun e w' => e = .returned (.func (.func 100) #[] #[.pointer (some ⟨w.heap.size, 0, none⟩), .pointer (some ⟨w.heap.size + 1, 0, none⟩)]) ∧ TG w' w.heap.size (w.heap.size + 1) W H b o c f ∧ Below w.heap.size w w' := by
  have hmf := mk_fn
  have hB : Below w.heap.size w ((w.alloc (.cells #[.int .i64 (W : Nat), .int .i64 (H : Nat), .slice (some ⟨b, o, none⟩) (W * H) c] 24)).alloc (.cells #[.func (.func 99) #[] #[.pointer (some ⟨w.heap.size, 0, none⟩)]] 95)) := ((Below.refl _ _).alloc (Nat.le_refl _) _).alloc (by simp) _
  have hG : TG ((w.alloc (.cells #[.int .i64 (W : Nat), .int .i64 (H : Nat), .slice (some ⟨b, o, none⟩) (W * H) c] 24)).alloc (.cells #[.func (.func 99) #[] #[.pointer (some ⟨w.heap.size, 0, none⟩)]] 95)) w.heap.size (w.heap.size + 1) W H b o c f :=
    ⟨(Box.new w _ _ _).alloc _, by simpa using Boxed.new (w.alloc (.cells #[.int .i64 (W : Nat), .int .i64 (H : Nat), .slice (some ⟨b, o, none⟩) (W * H) c] 24)) 95 (.func (.func 99) #[] #[.pointer (some ⟨w.heap.size, 0, none⟩)]), fun i hi => (hB.cell (p := ⟨b, o + i, none⟩) hb).trans (hr i hi), Nat.lt_of_lt_of_le hb hB.size, hW0, hW, hH0, hH⟩
  have HG := Lib.hid hG
  have HB := Lib.hid hB
  clear hG hB hr
  go_enter Try.func65, Try.ntmps65
  go_wp2
  go_ret
  exact ⟨rfl, HG.out, HB.out⟩
end Go.Proofs.Ytnpgmgaajejhjaa
