/- Reverse and Tile, the program's and the reference's. -/
import Derived.Test.YtcmpoblbjjoaiaaDoorRun
import Derived.Test.YtcmpoblbjjoaiaaDoorChk
namespace Go.Proofs.YtcmpoblbjjoaiaaDoor
open Go.RowKit
set_option linter.unusedVariables false
set_option linter.unusedSimpArgs false

theorem chk_is {A : Option Addr} {n : Nat} (c : Nat) {f : Nat → Int} {err : Int} (hn : n ≤ 420) (hx : lchk n f = err) (w : World) (hr : Holds w w.heap.size A n f) :
    Calls Tryd.prog 18 #[.slice A n c] w fun e w' => e = .returned (.int .i64 err) ∧ Below w.heap.size w w' := by
  subst hx
  exact check_any A n c f w hn hr
theorem rchk_is {A : Option Addr} {n : Nat} (c : Nat) {f : Nat → Int} {err : Int} (hn : n ≤ 420) (hx : lchk n f = err) (w : World) (hr : Holds w w.heap.size A n f) :
    Calls Tryd.prog 26 #[.slice A n c] w fun e w' => e = .returned (.int .i64 err) ∧ Below w.heap.size w w' := by
  subst hx
  exact rcheck_any A n c f w hn hr
theorem lchk_le {n : Nat} {f : Nat → Int} (h : lchk n f = 0) : n ≤ 400 := by
  unfold lchk at h
  split at h
  · cases h
  · omega
theorem Lst.new {w : World} {A : Option Addr} {n c : Nat} {f : Nat → Int} (h : Holds w w.heap.size A n f) : Lst (w.alloc (.cells #[.slice A n c] 22)) w.heap.size A n c f :=
  ⟨by simp only [World.cell?, heap_alloc_new]; rfl, by simp, (h.below (below_box w _ _)).more (by simp)⟩

set_option maxHeartbeats 400000 in
theorem rev_err (A : Option Addr) (n c : Nat) (f F : Nat → Int) (w : World) (err : Int) (hn : n ≤ 420) (hr : Holds w w.heap.size A n f) (hx : lchk n f = err) (hne : (err != 0) = true) :
    Calls Tryd.prog 13 #[.slice A n c] w (LOut w 0 F err) := by
  have HB := Lib.hid (below_box w (.slice A n c) 22)
  have HC := Lib.hid (chk_is c hn hx _ (Lst.new (c := c) hr).cells)
  clear hx hr
  go_enter Tryd.func13, Tryd.ntmps13
  go_wp2_with fail
  refine HC.out.mono ?_
  rintro e w1 ⟨rfl, hb⟩
  have HF := Lib.hid (HB.out.trans (hb.mono HB.out.size))
  clear hb
  go_wp2
  go_ret2
  exact LOut.err HF.out

set_option maxHeartbeats 400000 in
theorem rev_ok (A : Option Addr) (n c : Nat) (f : Nat → Int) (w : World) (hn : n ≤ 400) (hr : Holds w w.heap.size A n f) (hx : lchk n f = 0) :
    Calls Tryd.prog 13 #[.slice A n c] w (LOut w n (fun x => f (n - 1 - x)) 0) := by
  have hmf := mk_fn
  have HL := Lib.hid (Lst.new (c := c) hr)
  have HB := Lib.hid (below_box w (.slice A n c) 22)
  have HC := Lib.hid (chk_is c (by omega) hx _ HL.out.cells)
  clear hx hr
  go_enter Tryd.func13, Tryd.ntmps13
  go_wp2_with fail
  refine HC.out.mono ?_
  rintro e w1 ⟨rfl, hb⟩
  have HF := Lib.hid (HB.out.trans (hb.mono HB.out.size))
  have HL1 := Lib.hid (HL.out.below hb)
  have q0 := HL1.out.box
  clear hb
  go_wp2_with fail
  refine (build_any n (by omega) 37 _ _ _ (rev_clo HL1.out hn) (Go.Proofs.enters_of Tryd.func37 (by kernel_rfl) rfl)).mono ?_
  rintro e w2 ⟨k, rfl, hk, hrow, hb2⟩
  have hz := HF.out.size
  have HG := Lib.hid (LOut.row (c := n) (Nat.le_trans hz hk) hrow (HF.out.trans (hb2.mono hz)))
  clear hk hrow hb2 hz q0
  go_wp2
  go_ret2
  exact HG.out

/-- The error of Tile, or 0. -/
def tchk (n : Nat) (f : Nat → Int) (t : Int) : Int := if lchk n f ≠ 0 then lchk n f else if t < 0 then 2 else if 0 < n ∧ 400 / (n : Int) < t then 4 else 0

theorem tile_le {n : Nat} {f : Nat → Int} {t : Int} (h : tchk n f t = 0) : lchk n f = 0 ∧ 0 ≤ t ∧ (0 < n → t ≤ 400 / (n : Int)) := by
  unfold tchk at h
  split at h
  · exact absurd h (by assumption)
  · rename_i h1
    split at h
    · cases h
    · split at h
      · cases h
      · exact ⟨by omega, by omega, fun hn => by omega⟩

theorem tile_mul {n T : Nat} (h : 0 < n → (T : Int) ≤ 400 / (n : Int)) : n * T ≤ 400 := by
  rcases Nat.eq_zero_or_pos n with h0 | h0
  · subst h0; simp
  · have h1 := h h0
    have h2 : T ≤ 400 / n := Int.ofNat_le.1 (by rw [Int.natCast_ediv]; exact h1)
    calc n * T ≤ n * (400 / n) := Nat.mul_le_mul_left _ h2
      _ ≤ 400 := Nat.mul_div_le 400 n

set_option maxHeartbeats 1600000 in
theorem tile_err (A : Option Addr) (n c : Nat) (f F : Nat → Int) (t : Int) (w : World) (err : Int) (hn : n ≤ 420) (hr : Holds w w.heap.size A n f) (ht0 : -9223372036854775808 ≤ t) (ht1 : t ≤ 9223372036854775807) (hx : tchk n f t = err) (hne : (err != 0) = true) :
    Calls Tryd.prog 12 #[.slice A n c, .int .i64 t] w (LOut w 0 F err) := by
  have HL := Lib.hid (Lst.new (c := c) hr)
  have HB := Lib.hid (below_box w (.slice A n c) 22)
  obtain ⟨e1, he1⟩ : ∃ e1, lchk n f = e1 := ⟨_, rfl⟩
  have HC := Lib.hid (chk_is c hn he1 _ HL.out.cells)
  have hx' : (if e1 ≠ 0 then e1 else if t < 0 then 2 else if 0 < n ∧ 400 / (n : Int) < t then 4 else 0) = err := by rw [← hx, ← he1]; rfl
  clear hx hr he1
  by_cases g1 : e1 = 0
  · subst g1
    rw [if_neg (by simp)] at hx'
    by_cases g2 : t < 0
    · have d2 : decide (t < 0) = true := by simp [g2]
      rw [if_pos g2] at hx'
      subst hx'
      go_enter Tryd.func12, Tryd.ntmps12
      go_wp2_with fail
      refine HC.out.mono ?_
      rintro e w1 ⟨rfl, hb⟩
      have HF := Lib.hid (HB.out.trans (hb.mono HB.out.size))
      clear hb
      go_wp2
      go_ret2
      exact LOut.err HF.out
    · have d2 : decide (t < 0) = false := by simp [g2]
      rw [if_neg g2] at hx'
      by_cases g3 : 0 < n ∧ 400 / (n : Int) < t
      · rw [if_pos g3] at hx'
        subst hx'
        obtain ⟨g3, g4⟩ := g3
        have z1 : ¬ n = 0 := by omega
        obtain ⟨q, hq⟩ : ∃ q, 400 / (n : Int) = q := ⟨_, rfl⟩
        have q0 : 0 ≤ q := by rw [← hq]; exact Int.ediv_nonneg (by omega) (by omega)
        have q1 : q ≤ 400 := by rw [← hq]; exact Int.ediv_le_self _ (by omega)
        rw [hq] at g4
        have z3 : (400 : Int).tdiv (n : Int) = q := by rw [Int.tdiv_eq_ediv_of_nonneg (by omega)]; exact hq
        have d4 : decide (q < t) = true := by simp [g4]
        have d3 : decide ((0 : Int) < (n : Int)) = true := by simp; omega
        go_enter Tryd.func12, Tryd.ntmps12
        go_wp2_with fail
        refine HC.out.mono ?_
        rintro e w1 ⟨rfl, hb⟩
        have HF := Lib.hid (HB.out.trans (hb.mono HB.out.size))
        have q9 := (HL.out.below hb).box
        clear hb
        go_wp2
        go_ret2
        exact LOut.err HF.out
      · rw [if_neg g3] at hx'
        subst hx'
        simp at hne
  · have g1' : (e1 != 0) = true := by simp [g1]
    rw [if_pos g1] at hx'
    subst hx'
    clear hne
    go_enter Tryd.func12, Tryd.ntmps12
    go_wp2_with fail
    refine HC.out.mono ?_
    rintro e w1 ⟨rfl, hb⟩
    have HF := Lib.hid (HB.out.trans (hb.mono HB.out.size))
    clear hb
    go_wp2
    go_ret2
    exact LOut.err HF.out

set_option maxHeartbeats 1600000 in
theorem tile_ok (A : Option Addr) (n c : Nat) (f : Nat → Int) (T : Nat) (w : World) (hr : Holds w w.heap.size A n f) (hT : T ≤ 9223372036854775807) (hx : lchk n f = 0) (hq : 0 < n → (T : Int) ≤ 400 / (n : Int)) :
    Calls Tryd.prog 12 #[.slice A n c, .int .i64 T] w (LOut w (n * T) (fun x => f (x % n)) 0) := by
  have hmf := mk_fn
  have hn := lchk_le hx
  have hmul := tile_mul hq
  have HL := Lib.hid (Lst.new (c := c) hr)
  have HB := Lib.hid (below_box w (.slice A n c) 22)
  have HC := Lib.hid (chk_is c (by omega) hx _ HL.out.cells)
  have d2 : decide ((T : Int) < 0) = false := by simp
  clear hx hr
  obtain ⟨N, hN⟩ : ∃ N, n * T = N := ⟨_, rfl⟩
  have hNi : (n : Int) * (T : Int) = (N : Int) := by rw [← hN, Int.natCast_mul]
  rw [hN] at hmul
  rw [hN]
  rcases Nat.eq_zero_or_pos n with h0 | h0
  · subst h0
    obtain rfl : N = 0 := by omega
    clear hq hN hNi
    go_enter Tryd.func12, Tryd.ntmps12
    go_wp2_with fail
    refine HC.out.mono ?_
    rintro e w1 ⟨rfl, hb⟩
    have HF := Lib.hid (HB.out.trans (hb.mono HB.out.size))
    have HL1 := Lib.hid (HL.out.below hb)
    have q0 := HL1.out.box
    clear hb
    go_wp2_with fail
    refine (build_any 0 (by omega) 36 _ _ _ (tile_clo HL1.out (by omega) 0 (by omega) (fun h => absurd h (by omega))) (Go.Proofs.enters_of Tryd.func36 (by kernel_rfl) rfl)).mono ?_
    rintro e w2 ⟨k, rfl, hk, hrow, hb2⟩
    have hz := HF.out.size
    have HG := Lib.hid (LOut.row (c := 0) (Nat.le_trans hz hk) hrow (HF.out.trans (hb2.mono hz)))
    clear hk hrow hb2 hz q0
    go_wp2
    go_ret2
    exact HG.out
  · have z1 : ¬ n = 0 := by omega
    have hq := hq h0
    obtain ⟨q, hqe⟩ : ∃ q, 400 / (n : Int) = q := ⟨_, rfl⟩
    have q0 : 0 ≤ q := by rw [← hqe]; exact Int.ediv_nonneg (by omega) (by omega)
    have q1 : q ≤ 400 := by rw [← hqe]; exact Int.ediv_le_self _ (by omega)
    rw [hqe] at hq
    have z3 : (400 : Int).tdiv (n : Int) = q := by rw [Int.tdiv_eq_ediv_of_nonneg (by omega)]; exact hqe
    have d4 : decide (q < (T : Int)) = false := by simp; omega
    have d3 : decide ((0 : Int) < (n : Int)) = true := by simp; omega
    have wr : IntKind.i64.wrap ((n : Int) * (T : Int)) = (N : Int) := by rw [hNi]; exact IntWalk.i64_in _ (by omega)
    clear hN hqe
    go_enter Tryd.func12, Tryd.ntmps12
    go_wp2_with fail
    refine HC.out.mono ?_
    rintro e w1 ⟨rfl, hb⟩
    have HF := Lib.hid (HB.out.trans (hb.mono HB.out.size))
    have HL1 := Lib.hid (HL.out.below hb)
    have q0 := HL1.out.box
    clear hb
    go_wp2_with fail
    refine (build_any N (by omega) 36 _ _ _ (tile_clo HL1.out hn N hmul (fun _ => h0)) (Go.Proofs.enters_of Tryd.func36 (by kernel_rfl) rfl)).mono ?_
    rintro e w2 ⟨k, rfl, hk, hrow, hb2⟩
    have hz := HF.out.size
    have HG := Lib.hid (LOut.row (c := N) (Nat.le_trans hz hk) hrow (HF.out.trans (hb2.mono hz)))
    clear hk hrow hb2 hz q0
    go_wp2
    go_ret2
    exact HG.out
end Go.Proofs.YtcmpoblbjjoaiaaDoor
