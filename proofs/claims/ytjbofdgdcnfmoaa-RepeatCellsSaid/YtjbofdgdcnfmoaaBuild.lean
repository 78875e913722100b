/- The program's 'build': a new row of W * H cells, each the answer of the function value that is handed over. -/
import Derived.Test.YtjbofdgdcnfmoaaChk
import Derived.Shelf.GgClosure.Gives
namespace Go.Proofs.Ytjbofdgdcnfmoaa
open Go.RowKit
set_option maxRecDepth 100000
set_option linter.unusedVariables false
set_option linter.unusedSimpArgs false

theorem Try.info4 : (Try.prog.info? 4).map (fun i => (i.zero, i.size, i.bytes)) = some (some (.bool false), 1, 1) := by kernel_rfl

theorem make_run (W H : Nat) (hN : W * H ≤ 4096) (w : World) :
    (Instr.makeSlice 22 (.int .i64 ((W : Int) * (H : Int))) (.int .i64 ((W : Int) * (H : Int)))).run Try.prog w = .ok (.slice (some ⟨w.heap.size, 0, none⟩) (W * H) (W * H)) (w.alloc (.cells (madeCells #[.bool false] (W * H)) 4)) := by
  have h := run_make_row' (P := Try.prog) 22 4 (.bool false) 1 Try.underlying22 Try.info4 rfl .i64 .i64 (W * H) (by omega) (by omega) w
  rw [Int.natCast_mul] at h
  exact h

theorem Row.made (w : World) (n : Nat) : Row (w.alloc (.cells (madeCells #[.bool false] n) 4)) w.heap.size n (fun _ => false) := by
  refine ⟨madeCells #[.bool false] n, ?_, Nat.le_of_eq (size_madeCells _ _).symm, fun i hi => ?_⟩
  · show (w.heap.push _)[w.heap.size]? = _
    rw [Array.getElem?_push, if_pos rfl]
  · simp [madeCells, hi, Nat.mod_one]

/-- What is asked of the function value that 'build' calls: at each place of the grid it answers 'F', and writes nothing that was there. -/
def Gives (g : Nat) (lb : Array Value) (w0 : World) (W H : Nat) (F : Nat → Nat → Bool) : Prop :=
  ∀ (w : World) (x y : Nat), Below w0.heap.size w0 w → x < W → y < H → Calls Try.prog g (#[.int .i64 x, .int .i64 y] ++ lb) w fun e w' => e = .returned (.bool (F x y)) ∧ Below w.heap.size w w'

/-- The cells that stand behind the first m of them have been written. -/
def part (W : Nat) (F : Nat → Nat → Bool) (m : Nat) : Nat → Bool := fun i => if i < m then F (i % W) (i / W) else false
theorem part_zero (W : Nat) (F : Nat → Nat → Bool) : part W F 0 = fun _ => false := by funext i; simp [part]
theorem part_succ {W : Nat} (F : Nat → Nat → Bool) (x y : Nat) (hx : x < W) : (fun j => if j = y * W + x then F x y else part W F (y * W + x) j) = part W F (y * W + x + 1) := by
  funext j
  unfold part
  by_cases e : j = y * W + x
  · subst e
    have h1 : (y * W + x) % W = x := by rw [Nat.mul_comm, Nat.mul_add_mod, Nat.mod_eq_of_lt hx]
    have h2 : (y * W + x) / W = y := by rw [Nat.mul_comm, Nat.mul_add_div (by omega), Nat.div_eq_of_lt hx]; omega
    simp [h1, h2]
  · rw [if_neg e]
    by_cases h : j < y * W + x
    · rw [if_pos h, if_pos (by omega)]
    · rw [if_neg h, if_neg (by omega)]

set_option maxHeartbeats 800000 in
theorem build_any (W H : Nat) (hW0 : 1 ≤ W) (hW : W ≤ 64) (hH0 : 1 ≤ H) (hH : H ≤ 64) (g : Nat) (lb : Array Value) (F : Nat → Nat → Bool) (w : World) (hG : Gives g lb w W H F)
    (eg : ∀ args w, (callFunc g args).run Try.prog w = .ok (.enter g args) w) :
    Calls Try.prog 86 #[.int .i64 W, .int .i64 H, .func (.func g) #[] lb] w fun e w' =>
      ∃ k, e = .returned (.agg #[.int .i64 W, .int .i64 H, .slice (some ⟨k, 0, none⟩) (W * H) (W * H)]) ∧ w.heap.size ≤ k ∧ Row w' k (W * H) (fun i => F (i % W) (i / W)) ∧ Below w.heap.size w w' := by
  have hN : W * H ≤ 4096 := Nat.mul_le_mul hW hH
  have hNi : (W : Int) * (H : Int) ≤ 4096 := by have := Int.ofNat_le.2 hN; simpa using this
  have hNi0 : 0 ≤ (W : Int) * (H : Int) := by have := Int.natCast_nonneg (W * H); simpa using this
  have hmk := make_run W H hN
  have HG := Lib.hid hG
  clear hG
  go_enter Try.func86, Try.ntmps86
  go_wp2
  go_loopw [15] (fun i wr => ∃ k : Nat, k ≤ H ∧ i = .int .i64 k ∧ Row wr (w.heap.size + 1) (W * H) (part W F (k * W)) ∧ Box wr w.heap.size 0 0 (.slice none 0 0) ∧ Below w.heap.size w wr) (fun i _ => H - (intOf i).toNat)
  case atStart =>
    refine ⟨0, Nat.zero_le _, rfl, ?_, (Box.new w 0 0 _).alloc _, (((Below.refl _ _).alloc (Nat.le_refl _) _).alloc (by simp) _)⟩
    rw [Nat.zero_mul, part_zero]
    have h := Row.made (w.alloc (Obj.cells #[Value.int IntKind.i64 0, Value.int IntKind.i64 0, Value.slice none 0 0] 24)) (W * H)
    simpa using h
  case round =>
    obtain ⟨k, hk, rfl, hrow, hbox, hbel⟩ := hrel
    obtain ⟨wo, rfl⟩ : ∃ wo : World, wo = wr := ⟨_, rfl⟩
    by_cases hlt : k < H
    · go_wp2
      go_loopw [19] (fun i wr => ∃ x : Nat, x ≤ W ∧ i = .int .i64 x ∧ Row wr (w.heap.size + 1) (W * H) (part W F (k * W + x)) ∧ Box wr w.heap.size 0 0 (.slice none 0 0) ∧ Below w.heap.size w wr) (fun i _ => W - (intOf i).toNat)
      case atStart => exact ⟨0, Nat.zero_le _, rfl, hrow, hbox, hbel⟩
      case round =>
        obtain ⟨x, hx, rfl, hrow2, hbox2, hbel2⟩ := hrel
        by_cases hltx : x < W
        · have b1 := mul_bd (W := (W : Int)) (y := (k : Int)) (by omega) (by omega) (by omega) (by omega)
          have b2 : k * W + x < W * H := by
            have h := Nat.mul_le_mul_right W (show k + 1 ≤ H by omega)
            rw [Nat.add_mul, Nat.one_mul, Nat.mul_comm H W] at h
            omega
          have b3 : (k : Int) * (W : Int) + (x : Int) < (W : Int) * (H : Int) := by have := Int.ofNat_lt.2 b2; simpa using this
          go_wp2_with (go_at_fn g; refine (HG.out _ x k hbel2 hltx hlt).mono ?_; rintro e w1 ⟨rfl, hb1⟩; have hrow3 := hrow2.below hb1 hrow2.lt; have hcl := hrow3.cell b2; have hfr := hrow3.free (k * W + x))
          go_roundw
          case rel => exact ⟨x + 1, by omega, by go_num, by have h := hrow3.set_ (k * W + x) (F x k); rw [part_succ F x k hltx] at h; exact h, (hbox2.below hb1 hbox2.lt).far (by simp) _, (hbel2.trans (hb1.mono hbel2.size)).setCell (by simp) _⟩
          case measure => simp [intOf]; omega
        · have e : x = W := by omega
          subst e
          go_wp2
          go_roundw
          case rel => exact ⟨k + 1, by omega, by go_num, by rw [Nat.add_mul, Nat.one_mul]; exact hrow2, hbox2, hbel2⟩
          case measure => simp [intOf]; omega
    · have e : k = H := by omega
      subst e
      obtain ⟨q0, q1, q2, q3, q4, q5, q6⟩ := hbox.all
      go_wp2
      refine bodyPost_ret (v := .agg #[.int .i64 W, .int .i64 k, .slice (some ⟨w.heap.size + 1, 0, none⟩) (W * k) (W * k)]) (by simp [results, Try.results86, go_sem, q0, q1, q2]) rfl ⟨_, rfl, by omega, ?_, ?_⟩
      · refine (((hrow.far (by simp) _).far (by simp) _).far (by simp) _).congr fun i hi => ?_
        unfold part
        rw [if_pos (by rw [Nat.mul_comm]; exact hi)]
      · exact ((hbel.setCell (by simp) _).setCell (by simp) _).setCell (by simp) _
end Go.Proofs.Ytjbofdgdcnfmoaa
