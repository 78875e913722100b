/- The reference's Count and Text. -/
import Derived.Test.YtnamjpdbadjgpaaCnt
import Derived.Test.YtnamjpdbadjgpaaRefm
import Derived.Test.YtnamjpdbadjgpaaText
import Derived.Test.YtnamjpdbadjgpaaPair
namespace Go.Proofs.Ytnamjpdbadjgpaa
open Go.RowKit
set_option linter.unusedVariables false
set_option linter.unusedSimpArgs false

set_option maxHeartbeats 400000 in
theorem rcount_err (W H : Int) (A : Option Addr) (n c : Nat) (w : World) (err : Int) (hn : n ≤ 4200) (hx : chk W H n = err) (hne : (err != 0) = true) :
    Calls Try.prog 26 #[.agg #[.int .i64 W, .int .i64 H, .slice A n c]] w fun e w' => e = .returned (.tuple #[.int .i64 0, .int .i64 err]) ∧ Below w.heap.size w w' := by
  have HC := Lib.hid (fun w => rchk_err (A := A) (c := c) hn hx w)
  clear hx
  have L0 := Lib.hid (Box.new w W H (.slice A n c))
  have B0 := Lib.hid ((Below.refl w.heap.size w).alloc (Nat.le_refl _) (.cells #[.int .i64 W, .int .i64 H, .slice A n c] 24))
  go_enter Try.func26, Try.ntmps26
  go_wp2_with fail
  refine (HC.out _).mono ?_
  rintro e w1 ⟨rfl, hb⟩
  have L1 := Lib.hid (L0.out.below hb L0.out.lt)
  have B1 := Lib.hid (B0.out.trans (hb.mono B0.out.size))
  clear hb L0 B0
  obtain ⟨q0, q1, q2, q3, q4, q5, q6⟩ := L1.out.all
  go_wp2_with fail
  refine (HC.out _).mono ?_
  rintro e w2 ⟨rfl, hb⟩
  have B2 := Lib.hid (B1.out.trans (hb.mono B1.out.size))
  clear hb B1 L1 q0 q1 q2 q3 q4 q5 q6
  go_wp2
  go_ret2
  exact ⟨rfl, B2.out⟩

set_option maxHeartbeats 400000 in
theorem rtext_err (W H : Int) (A : Option Addr) (n c : Nat) (w : World) (err : Int) (hn : n ≤ 4200) (hx : chk W H n = err) (hne : (err != 0) = true) :
    Calls Try.prog 28 #[.agg #[.int .i64 W, .int .i64 H, .slice A n c]] w fun e w' => e = .returned (.tuple #[.string ⟨#[]⟩, .int .i64 err]) ∧ Below w.heap.size w w' := by
  have HC := Lib.hid (fun w => rchk_err (A := A) (c := c) hn hx w)
  clear hx
  have L0 := Lib.hid (Box.new w W H (.slice A n c))
  have B0 := Lib.hid ((Below.refl w.heap.size w).alloc (Nat.le_refl _) (.cells #[.int .i64 W, .int .i64 H, .slice A n c] 24))
  go_enter Try.func28, Try.ntmps28
  go_wp2_with fail
  refine (HC.out _).mono ?_
  rintro e w1 ⟨rfl, hb⟩
  have L1 := Lib.hid (L0.out.below hb L0.out.lt)
  have B1 := Lib.hid (B0.out.trans (hb.mono B0.out.size))
  clear hb L0 B0
  obtain ⟨q0, q1, q2, q3, q4, q5, q6⟩ := L1.out.all
  go_wp2_with fail
  refine (HC.out _).mono ?_
  rintro e w2 ⟨rfl, hb⟩
  have B2 := Lib.hid (B1.out.trans (hb.mono B1.out.size))
  clear hb B1 L1 q0 q1 q2 q3 q4 q5 q6
  go_wp2
  go_ret2
  exact ⟨rfl, B2.out⟩

set_option maxHeartbeats 1600000 in
theorem rcount_ok (W H : Nat) (A : Option Addr) (c : Nat) (f : Nat → Bool) (w : World) (hr : Holds w w.heap.size A (W * H) f) (hW0 : 1 ≤ W) (hW : W ≤ 64) (hH0 : 1 ≤ H) (hH : H ≤ 64) :
    Calls Try.prog 26 #[.agg #[.int .i64 W, .int .i64 H, .slice A (W * H) c]] w fun e w' => e = .returned (.tuple #[.int .i64 (cnt f (W * H)), .int .i64 0]) ∧ Below w.heap.size w w' := by
  have hN0 : 0 < W * H := Nat.mul_pos hW0 hH0
  have hN : W * H ≤ 4096 := Nat.mul_le_mul hW hH
  have HC := Lib.hid (fun w => rchk_err (A := A) (c := c) (prod_le hW hH) (chk_zero hW0 hW hH0 hH) w)
  obtain ⟨b, o, rfl, hlt, hc⟩ := hr hN0
  have HD := Lib.hid hc
  clear hc hr
  have L0 := Lib.hid (Box.new w W H (.slice (some ⟨b, o, none⟩) (W * H) c))
  have B0 := Lib.hid ((Below.refl w.heap.size w).alloc (Nat.le_refl _) (.cells #[.int .i64 W, .int .i64 H, .slice (some ⟨b, o, none⟩) (W * H) c] 24))
  go_enter Try.func26, Try.ntmps26
  go_wp2_with fail
  refine (HC.out _).mono ?_
  rintro e w1 ⟨rfl, hb⟩
  have L1 := Lib.hid (L0.out.below hb L0.out.lt)
  have B1 := Lib.hid (B0.out.trans (hb.mono B0.out.size))
  have HC1 := Lib.hid (fun i (hi : i < W * H) => (B1.out.cell (p := ⟨b, o + i, none⟩) hlt).trans (HD.out i hi))
  clear hb L0 B0 HC HD
  generalize hN' : W * H = N at *
  go_wp2
  go_loop [4, 5] (fun t i => ∃ k : Nat, k ≤ N ∧ i = .int .i64 k ∧ t = .int .i64 (cnt f k : Int)) (fun _ i => N - (intOf i).toNat)
  case atStart => exact ⟨0, Nat.zero_le _, rfl, rfl⟩
  case round =>
    obtain ⟨k, hk, rfl, rfl⟩ := hrel
    have hle := cnt_le f k
    obtain ⟨q0, q1, q2, q3, q4, q5, q6⟩ := L1.out.all
    by_cases hlk : k < N
    · have c1 := HC1.out k hlk
      obtain ⟨u, hu⟩ : ∃ u, f k = u := ⟨_, rfl⟩
      rw [hu] at c1
      have hs : cnt f (k + 1) = cnt f k + if u then 1 else 0 := by rw [cnt, hu]
      have HS := Lib.hid hs
      clear hu hs
      have y1 : (k : Int) < (N : Int) := by omega
      generalize hm : cnt f k = m at *
      have HM := Lib.hid hm
      clear hm
      cases u
      all_goals
        go_wp2
        refine ⟨⟨k + 1, by omega, by go_num, congrArg (Value.int .i64) (by rw [HS.out]; simp)⟩, by simp [intOf]; omega⟩
    · have e : k = N := by omega
      subst e
      go_wp2
      go_ret2
      exact ⟨rfl, B1.out⟩

theorem str_app (l : List UInt8) (b : UInt8) : (⟨l.toArray⟩ : ByteArray) ++ ⟨#[b]⟩ = ⟨(l ++ [b]).toArray⟩ := by
  apply ByteArray.ext
  simp [ByteArray.data_append]

set_option maxHeartbeats 1600000 in
theorem rtext_ok (W H : Nat) (A : Option Addr) (c : Nat) (f : Nat → Bool) (w : World) (hr : Holds w w.heap.size A (W * H) f) (hW0 : 1 ≤ W) (hW : W ≤ 64) (hH0 : 1 ≤ H) (hH : H ≤ 64) :
    Calls Try.prog 28 #[.agg #[.int .i64 W, .int .i64 H, .slice A (W * H) c]] w fun e w' => e = .returned (.tuple #[.string ⟨(rowsT W H f H).toArray⟩, .int .i64 0]) ∧ Below w.heap.size w w' := by
  have HC := Lib.hid (fun w => rchk_err (A := A) (c := c) (prod_le hW hH) (chk_zero hW0 hW hH0 hH) w)
  have HR := Lib.hid hr
  clear hr
  have L0 := Lib.hid (Box.new w W H (.slice A (W * H) c))
  have B0 := Lib.hid ((Below.refl w.heap.size w).alloc (Nat.le_refl _) (.cells #[.int .i64 W, .int .i64 H, .slice A (W * H) c] 24))
  go_enter Try.func28, Try.ntmps28
  go_wp2_with fail
  refine (HC.out _).mono ?_
  rintro e w1 ⟨rfl, hb⟩
  have L1 := Lib.hid (L0.out.below hb L0.out.lt)
  have B1 := Lib.hid (B0.out.trans (hb.mono B0.out.size))
  clear hb L0 B0 HC
  obtain ⟨q0, q1, q2, q3, q4, q5, q6⟩ := L1.out.all
  go_wp2
  clear q0 q1 q2 q3 q4 q5
  go_loopw [4, 5] (fun s i wr => ∃ k : Nat, k ≤ H ∧ s = .string ⟨(rowsT W H f k).toArray⟩ ∧ i = .int .i64 ((H : Int) - 1 - (k : Int)) ∧ Box wr w.heap.size W H (.slice A (W * H) c) ∧ Below w.heap.size w wr) (fun _ i _ => (intOf i + 1).toNat)
  case atStart => exact ⟨0, Nat.zero_le _, rfl, by simp, L1.out, B1.out⟩
  case round =>
    obtain ⟨k, hk, rfl, rfl, hbx, hbl⟩ := hrel
    obtain ⟨wo, rfl⟩ : ∃ wo : World, wo = wr := ⟨_, rfl⟩
    by_cases hlt : k < H
    · have q0 := hbx.c0
      have X1 := Lib.hid hbx
      have Y1 := Lib.hid hbl
      clear hbx hbl
      have y0 : 0 ≤ (H : Int) - 1 - (k : Int) := by omega
      have yd : decide ((k : Int) ≤ (H : Int) - 1) = true := by simp; omega
      go_wp2
      clear q0
      go_loopw [4, 6] (fun s i wr => ∃ x : Nat, x ≤ W ∧ s = .string ⟨(rowsT W H f k ++ cellsL W f (H - 1 - k) x).toArray⟩ ∧ i = .int .i64 x ∧ Box wr w.heap.size W H (.slice A (W * H) c) ∧ Below w.heap.size w wr) (fun _ i _ => W - (intOf i).toNat)
      case atStart => exact ⟨0, Nat.zero_le _, by simp [cellsL], rfl, X1.out, Y1.out⟩
      case round =>
        obtain ⟨x, hx, rfl, rfl, hbx, hbl⟩ := hrel
        by_cases hlx : x < W
        · obtain ⟨q0, q1, q2, q3, q4, q5, q6⟩ := hbx.all
          have HA := Lib.hid (at_nat W H A c x ((H : Int) - 1 - (k : Int)) f wr w.heap.size (HR.out.below hbl) hbl.size hW hH x (H - 1 - k) rfl (by omega) hlx (by omega))
          have X2 := Lib.hid hbx
          have Y2 := Lib.hid hbl
          clear hbx hbl
          have hl : k * (W + 1) ≤ 64 * 65 := Nat.mul_le_mul (by omega) (by omega)
          have hlen : (rowsT W H f k).length + (cellsL W f (H - 1 - k) x).length + 1 ≤ 9223372036854775807 := by rw [rowsT_length, cellsL_length]; omega
          obtain ⟨u, hu⟩ : ∃ u, f ((H - 1 - k) * W + x) = u := ⟨_, rfl⟩
          have hs := cellsL_succ W f (H - 1 - k) x
          rw [hu] at hs HA
          have HS := Lib.hid hs
          clear hs hu
          cases u
          all_goals
            go_wp2_with fail
            refine HA.out.mono ?_
            rintro e w2 ⟨rfl, hb2⟩
            have X3 := Lib.hid (X2.out.below hb2 X2.out.lt)
            have Y3 := Lib.hid (Y2.out.trans (hb2.mono Y2.out.size))
            clear hb2 q0 q1 q2 q3 q4 q5 q6
            go_wp2
            exact ⟨⟨x + 1, by omega, congrArg Value.string (by rw [str_app, HS.out, ← List.append_assoc]; rfl), by go_num, X3.out, Y3.out⟩, by simp [intOf]; omega⟩
        · have e : x = W := by omega
          subst e
          have hl : k * (x + 1) ≤ 64 * 65 := Nat.mul_le_mul (by omega) (by omega)
          have hlen : (rowsT x H f k).length + (cellsL x f (H - 1 - k) x).length + 1 ≤ 9223372036854775807 := by rw [rowsT_length, cellsL_length]; omega
          have q0 := hbx.c0
          have X2 := Lib.hid hbx
          have Y2 := Lib.hid hbl
          clear hbx hbl
          go_wp2
          exact ⟨⟨k + 1, by omega, congrArg Value.string (by rw [str_app, rowsT_succ, rowL, ← List.append_assoc]), congrArg (Value.int .i64) (by omega), X2.out, Y2.out⟩, by simp [intOf]; omega⟩
    · have e : k = H := by omega
      subst e
      have y0 : (k : Int) - 1 - (k : Int) < 0 := by omega
      have Y1 := Lib.hid hbl
      clear hbl
      go_wp2
      go_ret2
      exact ⟨rfl, Y1.out⟩
end Go.Proofs.Ytnamjpdbadjgpaa
