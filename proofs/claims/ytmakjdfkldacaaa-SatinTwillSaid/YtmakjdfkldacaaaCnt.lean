/- The program's Count. -/
import Derived.Test.YtmakjdfkldacaaaGa
import Derived.Test.YtmakjdfkldacaaaStm
namespace Go.Proofs.Ytmakjdfkldacaaa
open Go.RowKit
set_option maxRecDepth 100000
set_option linter.unusedVariables false
set_option linter.unusedSimpArgs false

set_option maxHeartbeats 400000 in
theorem count_err (W H : Int) (A : Option Addr) (n c : Nat) (w : World) (err : Int) (hn : n ≤ 4200) (hx : chk W H n = err) (hne : (err != 0) = true) :
    Calls Try.prog 55 #[.agg #[.int .i64 W, .int .i64 H, .slice A n c]] w fun e w' => e = .returned (.tuple #[.int .i64 0, .int .i64 err]) ∧ Below w.heap.size w w' := by
  have HC := Lib.hid (chk_err (A := A) (c := c) hn hx)
  clear hx
  have hbel := Lib.hid ((Below.refl w.heap.size w).alloc (Nat.le_refl _) (.cells #[.int .i64 W, .int .i64 H, .slice A n c] 24))
  go_enter Try.func55, Try.ntmps55
  go_wp2_with fail
  refine (HC.out _).mono ?_
  rintro e w1 ⟨rfl, hb1⟩
  go_wp2
  go_ret2
  exact ⟨rfl, hbel.out.trans (hb1.mono hbel.out.size)⟩

set_option maxHeartbeats 800000 in
theorem count_ok (W H : Nat) (A : Option Addr) (c : Nat) (f : Nat → Bool) (w : World) (hr : Holds w w.heap.size A (W * H) f) (hW0 : 1 ≤ W) (hW : W ≤ 64) (hH0 : 1 ≤ H) (hH : H ≤ 64) :
    Calls Try.prog 55 #[.agg #[.int .i64 W, .int .i64 H, .slice A (W * H) c]] w fun e w' => e = .returned (.tuple #[.int .i64 (cnt f (W * H)), .int .i64 0]) ∧ Below w.heap.size w w' := by
  have hN0 : 0 < W * H := Nat.mul_pos hW0 hH0
  have hN : W * H ≤ 4096 := Nat.mul_le_mul hW hH
  obtain ⟨b, o, rfl, hlt, hc⟩ := hr hN0
  have HC := Lib.hid hc
  clear hc
  have hbx := Lib.hid (Box.new w W H (.slice (some ⟨b, o, none⟩) (W * H) c))
  have hbel := Lib.hid ((Below.refl w.heap.size w).alloc (Nat.le_refl _) (.cells #[.int .i64 W, .int .i64 H, .slice (some ⟨b, o, none⟩) (W * H) c] 24))
  go_enter Try.func55, Try.ntmps55
  go_wp2_with fail
  refine (chk_valid (some ⟨b, o, none⟩) c _ hW0 hW hH0 hH).mono ?_
  rintro e w1 ⟨rfl, hb1⟩
  obtain ⟨q0, q1, q2, q3, q4, q5, q6⟩ := (hbx.out.below hb1 (by simp)).all
  have hbel1 := Lib.hid (hbel.out.trans (hb1.mono hbel.out.size))
  clear hb1
  have HC1 := Lib.hid (fun i (hi : i < W * H) => (hbel1.out.cell (p := ⟨b, o + i, none⟩) hlt).trans (HC.out i hi))
  go_wp2
  clear q0 q1 q2 q3 q4 q5
  go_loop [5, 16] (fun t i => ∃ k : Nat, k ≤ W * H ∧ i = .int .i64 k ∧ t = .int .i64 (cnt f k : Int)) (fun _ i => W * H - (intOf i).toNat)
  case atStart => exact ⟨0, Nat.zero_le _, rfl, rfl⟩
  case round =>
    obtain ⟨k, hk, rfl, rfl⟩ := hrel
    have hle := cnt_le f k
    by_cases hlk : k < W * H
    · have c1 := HC1.out k hlk
      obtain ⟨u, hu⟩ : ∃ u, f k = u := ⟨_, rfl⟩
      rw [hu] at c1
      have hs : cnt f (k + 1) = cnt f k + if u then 1 else 0 := by rw [cnt, hu]
      have HS := Lib.hid hs
      clear hu hs
      have y1 : (k : Int) < (W : Int) * (H : Int) := by have := Int.ofNat_lt.2 hlk; simpa using this
      generalize hm : cnt f k = m at *
      have HM := Lib.hid hm
      clear hm
      cases u
      all_goals
        go_wp2
        refine ⟨⟨k + 1, by omega, by go_num, congrArg (Value.int .i64) (by rw [HS.out]; simp)⟩, by simp [intOf]; omega⟩
    · have e : k = W * H := by omega
      subst e
      go_wp2
      go_ret2
      exact ⟨rfl, hbel1.out⟩
end Go.Proofs.Ytmakjdfkldacaaa
