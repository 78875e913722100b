/- The program's changes: the iterator's contract. -/
import Derived.Test.YtnpgmgaajejhjaaRcr
import Derived.RangeFuncBox
import Derived.RangeFuncLeaves
import Derived.RangeFuncNested
import Derived.RangeFuncFrom
import Derived.Shelf.Abstract
import Derived.Shelf.RegionOpen
import Derived.WalkKit
import Derived.OwnWalkIn
import Derived.TacticsInMore
import Derived.LoopNIn
import Derived.LoopIn
import Derived.BigRegionIn
import Derived.Sort.CutIn
namespace Go.Proofs.Ytnpgmgaajejhjaa
open Go.RowKit Go.Shelf
set_option maxRecDepth 100000
set_option linter.unusedVariables false
set_option linter.unusedSimpArgs false

attribute [local go_sem] Oper.semAt_some
/-- The blocks of which P speaks lie as they lay. -/
def KB (P : Nat → Prop) (W W' : World) : Prop := ∀ b, P b → W'.heap[b]? = W.heap[b]?
theorem KB.refl (P : Nat → Prop) (W : World) : KB P W W := fun _ _ => rfl
theorem KB.t {P : Nat → Prop} {A B C : World} (h : KB P A B) (k : KB P B C) : KB P A C := fun b hb => (k b hb).trans (h b hb)
theorem KB.b {P : Nat → Prop} {w : World} (hn : ∀ b, P b → b < w.heap.size) (W : World) (l : Nat) (o o' : Obj) (hl : w.heap.size ≤ l) (h : W.heap[l]? = some o) (h1 : o.isCells = false) (h2 : o.isWalk = false) : KB P W (W.putObj l o') :=
  fun b hb => (belowK_b (Nat.le_refl w.heap.size) W l o o' hl h h1 h2).block b (hn b hb)
theorem KB.cell {P : Nat → Prop} {W W' : World} (h : KB P W W') (b o : Nat) (h1 : P b) : W'.cell? ⟨b, o, none⟩ = W.cell? ⟨b, o, none⟩ := by
  simp [World.cell?, h b h1]
/-- A side as a number: 0 is the face. -/
def sv (b : Bool) : Int := if b = true then 0 else 1
theorem sv_ne (a b : Bool) : (sv a != sv b) = (a != b) := by cases a <;> cases b <;> rfl
/-- The cells among the first k that differ from the one before. -/
def chs (n : Nat) (s : Nat → Bool) (k : Nat) : List Nat := (List.range k).filter (dif n s)
theorem chs_len (n : Nat) (s : Nat → Bool) (k : Nat) : (chs n s k).length = cro n s k := by
  unfold chs cro
  rw [List.countP_eq_length_filter]
theorem chs_yes {n : Nat} {s : Nat → Bool} {k : Nat} (h : dif n s k = true) : chs n s (k + 1) = chs n s k ++ [k] := by
  unfold chs; rw [List.range_succ, List.filter_append, List.filter_cons, if_pos h, List.filter_nil]
theorem chs_no {n : Nat} {s : Nat → Bool} {k : Nat} (h : dif n s k = false) : chs n s (k + 1) = chs n s k := by
  unfold chs; rw [List.range_succ, List.filter_append, List.filter_cons, if_neg (by rw [h]; decide), List.filter_nil, List.append_nil]
theorem bef_succ {n k : Nat} (h : k < n) : (k + 1 + n - 1) % n = k := by
  rw [show k + 1 + n - 1 = k + n by omega, Nat.add_mod_right, Nat.mod_eq_of_lt h]
set_option maxHeartbeats 800000 in
theorem chg_in (F : Fence) (n : Nat) (h68 : F.fn 121) (hro : F.round = none) (hn : 1 ≤ n) (P : Nat → Prop) (l B2 b N cap : Nat) (hN0 : 1 ≤ N) (hN : N ≤ 64) (s : Nat → Bool) (hb : P b) (h2 : P B2) (J Jx : List Nat → World → Prop) (W0 : World) (hJ : AbidesFrom W0.heap.size J)
    (hY : ∀ pre x W1, J pre W1 → pre.length < N → YieldAt F (n - 1) Try.prog l #[.int .i64 (x : Nat)] W1 fun e W' =>
      (e = .returned (.bool true) ∧ J (pre ++ [x]) W' ∧ KB P W1 W') ∨ (e = .returned (.bool false) ∧ Jx (pre ++ [x]) W'))
    (hB2 : W0.cell? ⟨B2, 0, none⟩ = some (.slice (some ⟨b, 0, none⟩) N cap)) (hrow : ∀ i, i < N → W0.cell? ⟨b, i, none⟩ = some (.int .i64 (sv (s i)))) (h0 : J [] W0) :
    CallsIn F n Try.prog 121 #[.func (.yield l) #[] #[], .pointer (some ⟨B2, 0, none⟩)] W0 fun e W' => (∃ v, e = .returned v) ∧
      ((∃ ys, ys = chs N s N ∧ J ys W') ∨ (∃ pre, True ∧ Jx pre W')) := by
  have hn1 : IntKind.i64.wrap ((N : Int) - 1) = ((N - 1 : Nat) : Int) := by rw [show (N : Int) - 1 = ((N - 1 : Nat) : Int) by omega]; exact IntWalk.i64_in _ (by omega)
  have r0 := hrow (N - 1) (by omega)
  have y1 : ((N - 1 : Nat) : Int) < (N : Int) := by omega
  have y2 : (0 : Int) ≤ ((N - 1 : Nat) : Int) := by omega
  have e0 : (0 + N - 1) % N = N - 1 := by rw [Nat.zero_add, Nat.mod_eq_of_lt (by omega)]
  have HE0 := Lib.hid e0
  have HR := Lib.hid hrow
  clear e0 hrow
  refine callsIn_of_wp Try.func121 rfl h68 ?_ hro
  simp only [Try.ntmps121, List.size_toArray, List.length_cons, List.length_nil, Nat.reduceAdd, Nat.reduceSub, Array.replicate_succ, Array.replicate_zero, List.push_toArray, List.append_toArray, List.nil_append, List.cons_append]
  gi_wp2
  gi_loopw [3, 14] (fun bf i wr => ∃ k : Nat, k ≤ N ∧ i = .int .i64 (k : Nat) ∧ bf = .int .i64 (sv (s ((k + N - 1) % N))) ∧ J (chs N s k) wr ∧ KB P W0 wr)
    (fun _ i _ => N - (intOf i).toNat)
  case atStart => exact ⟨0, Nat.zero_le _, rfl, by rw [HE0.out], by simpa [chs] using h0, KB.refl _ _⟩
  case round =>
    obtain ⟨k, hk, rfl, rfl, hJs, hkb⟩ := hrel
    by_cases hlt : k < N
    · have c2 := (hkb.cell B2 0 h2).trans hB2
      have c3 := (hkb.cell b k hb).trans (HR.out k hlt)
      have x1 : (k : Int) < (N : Int) := by omega
      have HB := Lib.hid (bef_succ hlt)
      obtain ⟨u1, hu1⟩ : ∃ z, sv (s k) = z := ⟨_, rfl⟩
      obtain ⟨u2, hu2⟩ : ∃ z, sv (s ((k + N - 1) % N)) = z := ⟨_, rfl⟩
      have hd : dif N s k = (u1 != u2) := by rw [← hu1, ← hu2, sv_ne]; rfl
      rw [hu1] at c3
      rw [hu2]
      have HB1 := Lib.hid hu1
      clear hu1 hu2
      cases hdd : (u1 != u2) with
      | false =>
        rw [hdd] at hd
        have HC := Lib.hid (chs_no hd)
        clear hd
        have hee : (u1 == u2) = true := by simpa using hdd
        gi_wp2
        refine ⟨(fun f h => by cases h), ?_⟩
        gi_wp2
        go_roundw
        case rel => exact ⟨k + 1, by omega, by simp, by rw [HB.out, HB1.out], by rw [HC.out]; exact hJs, hkb⟩
        case measure => simp [intOf]; omega
      | true =>
        rw [hdd] at hd
        have HC := Lib.hid (chs_yes hd)
        have hlen : (chs N s k).length < N := by rw [chs_len]; exact Nat.lt_of_le_of_lt (cro_le _ _ _) hlt
        obtain ⟨fn, tmps, assign, body, hy, hR⟩ := hY _ k wr hJs hlen
        have hee : (u1 == u2) = false := by simpa using hdd
        clear hd hlen
        gi_wp2
        refine hR.mono ?_
        rintro e W3 (⟨rfl, hJ3, hk3⟩ | ⟨rfl, hJx3⟩)
        · gi_wp2
          go_roundw
          case rel => exact ⟨k + 1, by omega, by simp, by rw [HB.out, HB1.out], by rw [HC.out]; exact hJ3, hkb.t hk3⟩
          case measure => simp [intOf]; omega
        · gi_wp2
          refine bodyPost_ret (results_none rfl _ _ _) rfl ?_
          first | exact ⟨⟨_, rfl⟩, .inr ⟨_, trivial, hJx3⟩⟩ | exact ⟨⟨_, rfl⟩, .inr ⟨_, hJx3⟩⟩
    · obtain rfl : k = N := by omega
      have x1 : ¬ (k : Int) < (k : Int) := by omega
      gi_wp2
      go_end0
      first | exact ⟨⟨_, rfl⟩, .inl ⟨_, rfl, hJs⟩⟩ | exact ⟨⟨_, rfl⟩, .inl hJs⟩
end Go.Proofs.Ytnpgmgaajejhjaa
