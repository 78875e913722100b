/- The program's 'build': a new list, each element the answer of the function value that is handed over. -/
import Derived.Test.YtcmpoblbjjoaiaaDoorBase
import Derived.Shelf.GgClosure.Gives
namespace Go.Proofs.YtcmpoblbjjoaiaaDoor
open Go.RowKit
set_option linter.unusedVariables false
set_option linter.unusedSimpArgs false

theorem Tryd.infoI : (Tryd.prog.info? 3).map (fun i => (i.zero, i.size, i.bytes)) = some (some (.int .i64 0), 1, 8) := by kernel_rfl

theorem make_run (n : Nat) (hN : n ≤ 4096) (w : World) :
    (Instr.makeSlice 22 (.int .i64 n) (.int .i64 n)).run Tryd.prog w = .ok (.slice (some ⟨w.heap.size, 0, none⟩) n n) (w.alloc (.cells (madeCells #[.int .i64 0] n) 3)) :=
  run_make_row' (P := Tryd.prog) 22 3 (.int .i64 0) 8 Tryd.underlying22 Tryd.infoI rfl .i64 .i64 n (by omega) (by omega) w

theorem Row.made (w : World) (n : Nat) : Row (w.alloc (.cells (madeCells #[.int .i64 0] n) 3)) w.heap.size n (fun _ => 0) := by
  refine ⟨madeCells #[.int .i64 0] n, ?_, Nat.le_of_eq (size_madeCells _ _).symm, fun i hi => ?_⟩
  · show (w.heap.push _)[w.heap.size]? = _
    rw [Array.getElem?_push, if_pos rfl]
  · simp [madeCells, hi, Nat.mod_one]

/-- What is asked of the function value that 'build' calls: at each place it answers 'F', and writes nothing that was there. -/
def Gives (g : Nat) (lb : Array Value) (w0 : World) (n : Nat) (F : Nat → Int) : Prop :=
  ∀ (w : World) (x : Nat), Below w0.heap.size w0 w → x < n → Calls Tryd.prog g (#[.int .i64 x] ++ lb) w fun e w' => e = .returned (.int .i64 (F x)) ∧ Below w.heap.size w w'

def part (F : Nat → Int) (m : Nat) : Nat → Int := fun i => if i < m then F i else 0
theorem part_zero (F : Nat → Int) : part F 0 = fun _ => 0 := by funext i; simp [part]
theorem part_succ (F : Nat → Int) (x : Nat) : (fun j => if j = x then F x else part F x j) = part F (x + 1) := by
  funext j
  unfold part
  by_cases e : j = x
  · subst e; simp
  · rw [if_neg e]
    by_cases h : j < x
    · rw [if_pos h, if_pos (by omega)]
    · rw [if_neg h, if_neg (by omega)]

set_option maxHeartbeats 800000 in
theorem build_any (n : Nat) (hN : n ≤ 4096) (g : Nat) (lb : Array Value) (F : Nat → Int) (w : World) (hG : Gives g lb w n F)
    (eg : ∀ args w, (callFunc g args).run Tryd.prog w = .ok (.enter g args) w) :
    Calls Tryd.prog 31 #[.int .i64 n, .func (.func g) #[] lb] w fun e w' =>
      ∃ k, e = .returned (.slice (some ⟨k, 0, none⟩) n n) ∧ w.heap.size ≤ k ∧ Row w' k n F ∧ Below w.heap.size w w' := by
  have hmk := make_run n hN
  have HG := Lib.hid hG
  clear hG
  go_enter Tryd.func31, Tryd.ntmps31
  go_wp2
  go_loopw [10] (fun i wr => ∃ k : Nat, k ≤ n ∧ i = .int .i64 k ∧ Row wr w.heap.size n (part F k) ∧ Below w.heap.size w wr) (fun i _ => n - (intOf i).toNat)
  case atStart => exact ⟨0, Nat.zero_le _, rfl, by rw [part_zero]; exact Row.made w n, (Below.refl _ _).alloc (Nat.le_refl _) _⟩
  case round =>
    obtain ⟨k, hk, rfl, hrow, hbel⟩ := hrel
    by_cases hlt : k < n
    · go_wp2_with (go_at_fn g; refine (HG.out _ k hbel hlt).mono ?_; rintro e w1 ⟨rfl, hb1⟩; have hrow3 := hrow.below hb1 hrow.lt; have hcl := hrow3.cell hlt; have hfr := hrow3.free k)
      go_roundw
      case rel => exact ⟨k + 1, by omega, by go_num, by have h := hrow3.set_ k (F k); rw [part_succ F k] at h; exact h, (hbel.trans (hb1.mono hbel.size)).setCell (by simp) _⟩
      case measure => simp [intOf]; omega
    · have e : k = n := by omega
      subst e
      go_wp2
      go_ret
      exact ⟨_, rfl, Nat.le_refl _, hrow.congr fun i hi => by simp [part, hi], hbel⟩
end Go.Proofs.YtcmpoblbjjoaiaaDoor
