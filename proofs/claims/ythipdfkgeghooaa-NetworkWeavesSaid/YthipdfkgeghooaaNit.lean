/- The ends of a network: the iterator. -/
import Derived.Test.YthipdfkgeghooaaNis
import Derived.RangeFuncBox
import Derived.RangeFuncLeaves
import Derived.RangeFuncNested
import Derived.RangeFuncFrom
import Derived.Shelf.Abstract
import Derived.Shelf.RegionOpen
import Derived.OwnWalkIn
import Derived.TacticsInMore
import Derived.LoopNIn
import Derived.LoopIn
import Derived.BigRegionIn
import Derived.Sort.CutIn
import Derived.Laws.EntriesVeiled
namespace Go.Proofs.Ythipdfkgeghooaa
open Go.RowKit Go.Shelf
set_option maxRecDepth 100000
set_option linter.unusedVariables false
set_option linter.unusedSimpArgs false

attribute [local go_sem] Oper.semAt_some
/-- The blocks of which P speaks lie as they lay. -/
def KB (P : Nat → Prop) (W W' : World) : Prop := ∀ b, P b → W'.heap[b]? = W.heap[b]?
theorem KB.refl (P : Nat → Prop) (W : World) : KB P W W := fun _ _ => rfl
theorem KB.t {P : Nat → Prop} {A B C : World} (h : KB P A B) (k : KB P B C) : KB P A C := fun b hb => (k b hb).trans (h b hb)
theorem KB.b {P : Nat → Prop} {w : World} (hn : ∀ b, P b → b < w.heap.size) (W : World) (l : Nat) (o o' : Obj) (hl : w.heap.size ≤ l) (h : W.heap[l]? = some o) (h1 : o.isCells = false) (h2 : o.isWalk = false) : KB P W (W.putObj l o') :=
  fun b hb => (belowK_b (Nat.le_refl w.heap.size) W l o o' hl h h1 h2).block b (hn b hb)
theorem KB.cell {P : Nat → Prop} {W W' : World} (h : KB P W W') (b o : Nat) (h1 : P b) : W'.cell? ⟨b, o, none⟩ = W.cell? ⟨b, o, none⟩ := by
  simp [World.cell?, h b h1]
theorem KB.of {P : Nat → Prop} {B : Nat} {W W' : World} (h : Below B W W') (hn : ∀ b, P b → b < B) : KB P W W' := fun b hb => h.block b (hn b hb)
/-- The first k numbers below H. -/
def fr (H k : Nat) : List (Fin H) := (List.finRange H).take k
theorem fr_len {H k : Nat} (h : k ≤ H) : (fr H k).length = k := by simp [fr]; omega
theorem fr_succ {H k : Nat} (h : k < H) : fr H (k + 1) = fr H k ++ [⟨k, h⟩] := by
  unfold fr
  rw [List.take_add_one]
  simp [h]
theorem fr_all (H : Nat) : fr H H = List.finRange H := by
  unfold fr
  exact List.take_of_length_le (by simp)
theorem grown_of {w w' : World} (h : Below w.heap.size w w') : w.grownBy w' none := ⟨h.os, h.tape, h.output, h.size, fun k hk _ => h.block k hk⟩
/-- What the iterator reads: the number of ends, the network, its base. -/
structure EN (w : World) (cb gb m S N : Nat) (A : Option Addr) (n c : Nat) (b : Nat → Nat) : Prop where
  co : Boxed w cb 3 (.int .i64 (m : Nat))
  bx : IBox w gb (S : Nat) (N : Nat) (.slice A n c)
  nh : NH w A n b
  n0 : 1 ≤ n
  n1 : n ≤ 64
/-- The blocks that the iterator reads. -/
def EP (cb gb : Nat) (A : Option Addr) (p : Nat) : Prop := p = cb ∨ p = gb ∨ ∃ a, A = some a ∧ p = a.block
section
variable {w w' : World} {cb gb m S N n c : Nat} {A : Option Addr} {b : Nat → Nat}
theorem EN.keep (h : EN w cb gb m S N A n c b) (hk : KB (EP cb gb A) w w') : EN w' cb gb m S N A n c b := by
  refine ⟨(hk cb (.inl rfl)).trans h.co, (hk gb (.inr (.inl rfl))).trans h.bx, fun h0 => ?_, h.n0, h.n1⟩
  obtain ⟨bb, o, rfl, hl, hc⟩ := h.nh h0
  have e := hk bb (.inr (.inr ⟨_, rfl, rfl⟩))
  refine ⟨bb, o, rfl, ?_, fun i hi => (hk.cell bb (o + i) (.inr (.inr ⟨_, rfl, rfl⟩))).trans (hc i hi)⟩
  rw [Array.getElem?_eq_getElem hl] at e
  exact (Array.getElem?_eq_some_iff.1 e).1
theorem EN.lt (h : EN w cb gb m S N A n c b) : ∀ p, EP cb gb A p → p < w.heap.size := by
  rintro p (rfl | rfl | ⟨a, rfl, rfl⟩)
  · exact h.co.lt
  · exact h.bx.lt
  · obtain ⟨bb, o, e, hl, _⟩ := h.nh (by have := h.n0; omega)
    cases e
    exact hl
theorem EN.next (h : EN w cb gb m S N A n c b) (hb : Below w.heap.size w w') : EN w' cb gb m S N A n c b := h.keep (KB.of hb h.lt)
end
/-- An end, and the rest of its shafts. -/
def enc (n : Nat) (b : Nat → Nat) {m : Nat} (x : Fin m) : Array Value := #[.int .i64 (x.1 : Nat), .int .i64 ((b (x.1 % n) : Nat) : Int)]
set_option maxHeartbeats 800000 in
theorem ends_in (l cb gb m S N : Nat) (A : Option Addr) (n c : Nat) (b : Nat → Nat) (k0 : Nat) (hk0 : 1 ≤ k0) (J Jx : List (Fin m) → World → Prop) (W0 : World) (hm : m ≤ 100000) (hE : EN W0 cb gb m S N A n c b) (hJ : AbidesFrom W0.heap.size J)
    (hY : ∀ pre x W1, J pre W1 → pre.length < m → YieldAt Fence.wide (k0 - 1) Try.prog l (enc n b x) W1 fun e W' => (e = .returned (.bool true) ∧ J (pre ++ [x]) W' ∧ KB (EP cb gb A) W1 W') ∨ (e = .returned (.bool false) ∧ Jx (pre ++ [x]) W'))
    (h0 : J [] W0) :
    CallsIn Fence.wide k0 Try.prog 53 #[.func (.yield l) #[] #[], .pointer (some ⟨cb, 0, none⟩), .pointer (some ⟨gb, 0, none⟩)] W0 fun e W' => (∃ v, e = .returned v) ∧ ((∃ xs, xs = fr m m ∧ J xs W') ∨ (∃ pre, True ∧ Jx pre W')) := by
  have HE0 := Lib.hid hE
  clear hE
  refine callsIn_of_wp Try.func53 rfl trivial ?_ rfl
  simp only [Try.ntmps53, List.size_toArray, List.length_cons, List.length_nil, Nat.reduceAdd, Nat.reduceSub, Array.replicate_succ, Array.replicate_zero, List.push_toArray, List.append_toArray, List.nil_append, List.cons_append]
  have q7 := HE0.out.co.cell
  gi_wp2
  clear q7
  gi_loopw [6] (fun v wr => ∃ x : Nat, x ≤ m ∧ v = .int .i64 (x : Nat) ∧ Hid (EN wr cb gb m S N A n c b) ∧ J (fr m x) wr) (fun v _ => m - (intOf v).toNat)
  case atStart => exact ⟨0, Nat.zero_le _, rfl, HE0, by simpa [fr] using h0⟩
  case round =>
    obtain ⟨x, hx, rfl, HG, hJs⟩ := hrel
    by_cases hlt : x < m
    · have x1 : (x : Int) < (m : Int) := by omega
      obtain ⟨q0, q1, q2, q3, q4, q5, q6⟩ := HG.out.bx.all
      have HC := Lib.hid (rest_any S N n A c b x wr HG.out.n0 HG.out.n1 HG.out.nh)
      gi_wp2_with (refine ⟨trivial, ?_⟩; gi_at_call 46; refine (callsIn_wide.2 HC.out).mono ?_; rintro e w2 ⟨rfl, hb2⟩; have hJ2 : J (fr m x) w2 := hJ _ wr w2 none hJs (grown_of hb2) (fun r e => by cases e); obtain ⟨fn, tmps, assign, body, hy, hR⟩ := hY (fr m x) ⟨x, hlt⟩ w2 hJ2 (by rw [fr_len (by omega)]; exact hlt); dsimp only [enc] at hy)
      clear q0 q1 q2 q3 q4 q5 q6
      refine hR.mono ?_
      rintro e W3 (⟨rfl, hJ3, hk3⟩ | ⟨rfl, hJx3⟩)
      · have HG3 := Lib.hid ((HG.out.next hb2).keep hk3)
        gi_wp2
        go_roundw
        case rel => exact ⟨x + 1, by omega, by simp, HG3, by rw [fr_succ hlt]; exact hJ3⟩
        case measure => simp [intOf]; omega
      · gi_wp2
        refine bodyPost_ret (results_none rfl _ _ _) rfl ?_
        exact ⟨⟨_, rfl⟩, .inr ⟨_, trivial, hJx3⟩⟩
    · obtain rfl : x = m := by omega
      have x1 : ¬ (x : Int) < (x : Int) := by omega
      gi_wp2
      go_end0

      first | exact ⟨⟨_, rfl⟩, .inl hJs⟩ | exact ⟨⟨_, rfl⟩, .inl ⟨_, rfl, hJs⟩⟩
theorem ends_stops (cb gb m S N : Nat) (A : Option Addr) (n c : Nat) (b : Nat → Nat) (k0 : Nat) (hk0 : 1 ≤ k0) (hm : m ≤ 100000) (w : World) (hE : EN w cb gb m S N A n c b) :
    SeqStopsK Fence.wide k0 Try.prog 53 #[.pointer (some ⟨cb, 0, none⟩), .pointer (some ⟨gb, 0, none⟩)] (enc n b (m := m)) (KB (EP cb gb A)) (fun ys => ys = fr m m) (fun _ => True) m w :=
  fun l J Jx X hX hJ _ hY h0 => ends_in l cb gb m S N A n c b k0 hk0 J Jx X hm (hE.next hX) hJ hY h0
theorem ends_any (S N n : Nat) (A : Option Addr) (c m : Nat) (w : World) :
    Calls Try.prog 38 #[.agg #[.int .i64 (S : Nat), .int .i64 (N : Nat), .slice A n c], .int .i64 (m : Nat)] w fun e w' => e = .returned (.func (.func 53) #[] #[.pointer (some ⟨w.heap.size + 1, 0, none⟩), .pointer (some ⟨w.heap.size, 0, none⟩)]) ∧ w' = (w.alloc (.cells #[.int .i64 (S : Nat), .int .i64 (N : Nat), .slice A n c] 24)).alloc (.cells #[.int .i64 (m : Nat)] 3) := by
  have hmf := mk_fn
  go_enter Try.func38, Try.ntmps38
  go_wp2
  go_ret
  exact ⟨rfl, rfl⟩
theorem en_new (S N n : Nat) (A : Option Addr) (c m : Nat) (b : Nat → Nat) (w : World) (hn : 1 ≤ n) (hn2 : n ≤ 64) (hb : NH w A n b) :
    EN ((w.alloc (.cells #[.int .i64 (S : Nat), .int .i64 (N : Nat), .slice A n c] 24)).alloc (.cells #[.int .i64 (m : Nat)] 3)) (w.heap.size + 1) w.heap.size m S N A n c b :=
  ⟨by simpa using Boxed.new (w.alloc (.cells #[.int .i64 (S : Nat), .int .i64 (N : Nat), .slice A n c] 24)) 3 (.int .i64 (m : Nat)), (IBox.new w _ _ _).alloc _, hb.next ((bel_alloc w _).alloc (by simp) _), hn, hn2⟩
end Go.Proofs.Ythipdfkgeghooaa
