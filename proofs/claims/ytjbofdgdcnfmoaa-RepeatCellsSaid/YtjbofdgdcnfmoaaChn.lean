/- slices.Chunk of a row of cells, by the width of a grid: the iterator's contract. -/
import Derived.RangeFuncBox
import Derived.RangeFuncLeaves
import Derived.RangeFuncNested
import Derived.Shelf.Abstract
import Derived.Shelf.RegionOpen
import Derived.WalkKit
import Derived.OwnWalkIn
import Derived.TacticsInMore
import Derived.LoopNIn
import Derived.LoopIn
import Derived.BigRegionIn
import Derived.Sort.CutIn
import Derived.Test.YtjbofdgdcnfmoaaSya
namespace Go.Proofs.Ytjbofdgdcnfmoaa
open Go.RowKit Go.Shelf
set_option maxRecDepth 100000
set_option linter.unusedVariables false
set_option linter.unusedSimpArgs false

attribute [local go_sem] Oper.semAt_some
/-- The blocks of which P speaks lie as they lay. -/
def KB (P : Nat → Prop) (W W' : World) : Prop := ∀ b, P b → W'.heap[b]? = W.heap[b]?
theorem KB.refl (P : Nat → Prop) (W : World) : KB P W W := fun _ _ => rfl
theorem KB.t {P : Nat → Prop} {A B C : World} (h : KB P A B) (k : KB P B C) : KB P A C := fun b hb => (k b hb).trans (h b hb)
theorem KB.b {P : Nat → Prop} {w : World} (hn : ∀ b, P b → b < w.heap.size) (W : World) (l : Nat) (o o' : Obj) (hl : w.heap.size ≤ l) (h : W.heap[l]? = some o) (h1 : o.isCells = false) (h2 : o.isWalk = false) : KB P W (W.putObj l o') :=
  fun b hb => (belowK_b (Nat.le_refl w.heap.size) W l o o' hl h h1 h2).block b (hn b hb)
theorem KB.cell {P : Nat → Prop} {W W' : World} (h : KB P W W') (b o : Nat) (h1 : P b) : W'.cell? ⟨b, o, none⟩ = W.cell? ⟨b, o, none⟩ := by
  simp [World.cell?, h b h1]
/-- The first k numbers below H. -/
def fr (H k : Nat) : List (Fin H) := (List.finRange H).take k
theorem fr_len {H k : Nat} (h : k ≤ H) : (fr H k).length = k := by simp [fr]; omega
theorem fr_succ {H k : Nat} (h : k < H) : fr H (k + 1) = fr H k ++ [⟨k, h⟩] := by
  unfold fr
  rw [List.take_add_one]
  simp [h]
theorem fr_all (H : Nat) : fr H H = List.finRange H := by
  unfold fr
  exact List.take_of_length_le (by simp)
set_option maxHeartbeats 800000 in
theorem chunk1_in (F : Fence) (n : Nat) (h143 : F.fn 143) (hro : F.round = none) (hn : 1 ≤ n) (P : Nat → Prop) (l B2 B3 b off W H cap : Nat) (hW0 : 1 ≤ W) (hW : W ≤ 64) (hH : H ≤ 64) (hcap : W * H ≤ cap) (hb : P b) (h2 : P B2) (h3 : P B3) (J Jx : List (Fin H) → World → Prop) (W0 : World) (hJ : AbidesFrom W0.heap.size J)
    (hY : ∀ pre x W1, J pre W1 → pre.length < H → YieldAt F (n - 1) Try.prog l #[.slice (some ⟨b, off + x.1 * W, none⟩) W W] W1 fun e W' =>
      (e = .returned (.bool true) ∧ J (pre ++ [x]) W' ∧ KB P W1 W') ∨ (e = .returned (.bool false) ∧ Jx (pre ++ [x]) W'))
    (hB2 : W0.cell? ⟨B2, 0, none⟩ = some (.slice (some ⟨b, off, none⟩) (W * H) cap)) (hB3 : W0.cell? ⟨B3, 0, none⟩ = some (.int .i64 (W : Nat))) (h0 : J [] W0) :
    CallsIn F n Try.prog 143 #[.func (.yield l) #[] #[], .pointer (some ⟨B2, 0, none⟩), .pointer (some ⟨B3, 0, none⟩)] W0 fun e W' => (∃ v, e = .returned v) ∧
      ((∃ ys, ys = List.finRange H ∧ J ys W') ∨ (∃ pre, (∃ k, k ≤ H ∧ pre = fr H k) ∧ Jx pre W')) := by
  refine callsIn_of_wp Try.func143 rfl h143 ?_ hro
  simp only [Try.ntmps143, List.size_toArray, List.length_cons, List.length_nil, Nat.reduceAdd, Nat.reduceSub, Array.replicate_succ, Array.replicate_zero, List.push_toArray, List.append_toArray, List.nil_append, List.cons_append]
  gi_wp2
  gi_loopw [4] (fun i wr => ∃ k : Nat, k ≤ H ∧ i = .int .i64 ((k * W : Nat) : Int) ∧ J (fr H k) wr ∧ KB P W0 wr)
    (fun i _ => W * H - (intOf i).toNat)
  case atStart => exact ⟨0, Nat.zero_le _, by simp, by simpa [fr] using h0, KB.refl _ _⟩
  case round =>
    obtain ⟨k, hk, rfl, hJs, hkb⟩ := hrel
    have c2 := (hkb.cell B2 0 h2).trans hB2
    have c3 := (hkb.cell B3 0 h3).trans hB3
    have hWH : W * H ≤ 4096 := Nat.mul_le_mul hW hH
    by_cases hlt : k < H
    · have e1 : k * W + W ≤ W * H := by rw [← Nat.succ_mul, Nat.mul_comm W H]; exact Nat.mul_le_mul_right W hlt
      obtain ⟨p, hp⟩ : ∃ p, k * W = p := ⟨_, rfl⟩
      rw [hp] at e1 ⊢
      have x1 : decide (((p : Nat) : Int) < ((W * H : Nat) : Int)) = true := by simp; omega
      have x2 : (p : Int) ≤ ((W * H : Nat) : Int) := by omega
      have x3 : (0 : Int) ≤ (p : Int) := by omega
      have x4 : ((W * H : Nat) : Int) ≤ (cap : Int) := by omega
      have hmin : min (W : Int) ((W * H - p : Nat) : Int) = (W : Int) := by omega
      have x5 : (p : Int) + (W : Int) ≤ (cap : Int) := by omega
      have x6 : IntKind.i64.wrap ((p : Int) + (W : Int)) = (p : Int) + (W : Int) := IntWalk.i64_in _ (by omega)
      obtain ⟨fn, tmps, assign, body, hy, hR⟩ := hY _ ⟨k, hlt⟩ wr.drew (hJ _ wr wr.drew none hJs ⟨rfl, rfl, rfl, Nat.le_refl _, fun _ _ _ => rfl⟩ (fun r e => by cases e)) (by rw [fr_len hk]; exact hlt)
      dsimp only at hy
      rw [hp] at hy
      gi_wp2
      gi_cut [5] from 6 (fun s5 wc => s5 = .int .i64 (W : Nat) ∧ wc = wr.drew)
      case first =>
        gi_region
        all_goals
          gi_wp2_with fail
          gi_meet
          case rel => exact ⟨rfl, rfl⟩
      case rest =>
        obtain ⟨rfl, rfl⟩ := hcut
        have hkd := hkb.t (show KB P wr wr.drew from fun _ _ => rfl)
        have c4 : wr.drew.cell? ⟨B2, 0, none⟩ = some (.slice (some ⟨b, off, none⟩) (W * H) cap) := c2
        generalize wr.drew = wv at *
        gi_wp2
        refine hR.mono ?_
        rintro e W3 (⟨rfl, hJ3, hk3⟩ | ⟨rfl, hJx3⟩)
        · have c2' := (hkd.t hk3).cell B2 0 h2
          have c3' := (hkd.t hk3).cell B3 0 h3
          rw [hB2] at c2'
          rw [hB3] at c3'
          gi_wp2
          go_roundw
          case rel => exact ⟨k + 1, by omega, by rw [Nat.succ_mul, hp]; simp, by rw [fr_succ hlt]; exact hJ3, hkd.t hk3⟩
          case measure => simp [intOf]; omega
        · gi_wp2
          refine bodyPost_ret (results_none rfl _ _ _) rfl ?_
          exact ⟨⟨_, rfl⟩, .inr ⟨_, ⟨k + 1, by omega, (fr_succ hlt).symm⟩, hJx3⟩⟩
    · obtain rfl : k = H := by omega
      have e2 : k * W = W * k := Nat.mul_comm _ _
      have x1 : decide (((k * W : Nat) : Int) < ((W * k : Nat) : Int)) = false := by rw [e2]; simp
      gi_wp2
      go_end0
      exact ⟨⟨_, rfl⟩, .inl ⟨_, fr_all k, hJs⟩⟩
theorem chunk_stops (F : Fence) (n : Nat) (h143 : F.fn 143) (hro : F.round = none) (hn : 1 ≤ n) (P : Nat → Prop) (B2 B3 b off W H cap : Nat) (hW0 : 1 ≤ W) (hW : W ≤ 64) (hH : H ≤ 64) (hcap : W * H ≤ cap) (hb : P b) (h2 : P B2) (h3 : P B3)
    (w : World) (hn0 : ∀ b, P b → b < w.heap.size) (hB2 : w.cell? ⟨B2, 0, none⟩ = some (.slice (some ⟨b, off, none⟩) (W * H) cap)) (hB3 : w.cell? ⟨B3, 0, none⟩ = some (.int .i64 (W : Nat))) :
    SeqStopsK F n Try.prog 143 #[.pointer (some ⟨B2, 0, none⟩), .pointer (some ⟨B3, 0, none⟩)] (fun x : Fin H => #[Value.slice (some ⟨b, off + x.1 * W, none⟩) W W]) (KB P) (fun ys => ys = List.finRange H) (fun pre => ∃ k, k ≤ H ∧ pre = fr H k) H w :=
  fun l J Jx W0 hW0' hJ _ hY h0 => chunk1_in F n h143 hro hn P l B2 B3 b off W H cap hW0 hW hH hcap hb h2 h3 J Jx W0 hJ hY ((hW0'.cell (p := ⟨B2, 0, none⟩) (hn0 _ h2)).trans hB2) ((hW0'.cell (p := ⟨B3, 0, none⟩) (hn0 _ h3)).trans hB3) h0
end Go.Proofs.Ytjbofdgdcnfmoaa
