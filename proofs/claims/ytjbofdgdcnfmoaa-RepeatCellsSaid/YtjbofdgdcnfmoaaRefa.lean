/- The reference's Not, And and Or. -/
import Derived.Test.YtjbofdgdcnfmoaaOps
import Derived.Test.YtjbofdgdcnfmoaaTwin
import Derived.StillTailTactics
namespace Go.Proofs.Ytjbofdgdcnfmoaa
open Go.RowKit
set_option maxRecDepth 100000
set_option linter.unusedVariables false
set_option linter.unusedSimpArgs false

/-- A grid came back, in a new row, with no error (its capacity is open). -/
def OkRef (w : World) (W H : Nat) (F : Nat → Bool) (e : Ending) (w' : World) : Prop :=
  ∃ k d, e = .returned (.tuple #[.agg #[.int .i64 W, .int .i64 H, .slice (some ⟨k, 0, none⟩) (W * H) d], .int .i64 0]) ∧ w.heap.size ≤ k ∧ Row w' k (W * H) F ∧ Below w.heap.size w w'
theorem fin_ref {w w2 : World} {W H k r d : Nat} {F : Nat → Bool} {a b u : Value} (hr : w.heap.size ≤ r) (hk : r < k) (hrow : Row w2 k (W * H) F) (hb : Below w.heap.size w w2) :
    OkRef w W H F (.returned (.tuple #[.agg #[.int .i64 W, .int .i64 H, .slice (some ⟨k, 0, none⟩) (W * H) d], .int .i64 0])) (((w2.setCell ⟨r, 0, none⟩ a).setCell ⟨r, 1, none⟩ b).setCell ⟨r, 2, none⟩ u) :=
  ⟨k, d, rfl, by omega, ((hrow.far (by simp; omega) _).far (by simp; omega) _).far (by simp; omega) _, ((hb.setCell hr _).setCell hr _).setCell hr _⟩

theorem rchk_valid {W H : Nat} (A : Option Addr) (c : Nat) (w : World) (hW0 : 1 ≤ W) (hW : W ≤ 64) (hH0 : 1 ≤ H) (hH : H ≤ 64) :
    Calls Try.prog 75 #[.agg #[.int .i64 W, .int .i64 H, .slice A (W * H) c]] w fun e w' => e = .returned (.int .i64 0) ∧ Below w.heap.size w w' := by
  have h := rchk_any W H A (W * H) c w (by have := Nat.mul_le_mul hW hH; omega)
  rw [chk_zero hW0 hW hH0 hH] at h
  exact h
theorem rchk_err {W H : Int} {A : Option Addr} {n c : Nat} {err : Int} (hn : n ≤ 4200) (hx : chk W H n = err) (w : World) :
    Calls Try.prog 75 #[.agg #[.int .i64 W, .int .i64 H, .slice A n c]] w fun e w' => e = .returned (.int .i64 err) ∧ Below w.heap.size w w' := by
  have h := rchk_any W H A n c w hn
  rw [hx] at h
  exact h

set_option maxHeartbeats 800000 in
theorem rnot_err (W H : Int) (A : Option Addr) (n c : Nat) (w : World) (err : Int) (hn : n ≤ 4200) (hx : chk W H n = err) (hne : (err != 0) = true) :
    Calls Try.prog 129 #[.agg #[.int .i64 W, .int .i64 H, .slice A n c]] w (ErrGrid w err) := by
  have HC := Lib.hid (rchk_err (A := A) (c := c) hn hx)
  clear hx
  go_enter Try.func129, Try.ntmps129
  go_wp2_with fail
  refine (HC.out _).mono ?_
  rintro e w1 ⟨rfl, hb1⟩
  obtain ⟨hbox1, hbox2, hbel1, hsz1⟩ := after2 hb1
  clear hb1
  obtain ⟨q0, q1, q2, q3, q4, q5, q6⟩ := hbox1.all
  go_wp2_with fail
  refine (HC.out _).mono ?_
  rintro e w2 ⟨rfl, hb2⟩
  have hbox3 := hbox2.below hb2 (by omega)
  have hbel2 := hbel1.trans (hb2.mono hbel1.size)
  clear hb2
  obtain ⟨p0, p1, p2, p3, p4, p5, p6⟩ := hbox3.all
  go_wp2
  refine bodyPost_ret (v := .tuple #[.agg #[.int .i64 0, .int .i64 0, .slice none 0 0], .int .i64 err]) (by simp [results, Try.results129, go_sem, p0, p1, p2]) rfl ?_
  exact fin_err (by omega) hbel2

/-- The reference's Not behind k rounds. -/
structure NotRel (w wr : World) (W H : Nat) (f : Nat → Bool) (r o k d : Nat) (m : Nat) : Prop where
  out : Box wr o W H (.slice (some ⟨k, 0, none⟩) (W * H) d)
  res : Box wr r 0 0 (.slice none 0 0)
  row : Row wr k (W * H) (fun i => if i < m then !f i else f i)
  bel : Below w.heap.size w wr

set_option maxHeartbeats 1600000 in
theorem rnot_ok (W H : Nat) (A : Option Addr) (c : Nat) (f : Nat → Bool) (w : World) (hr : Holds w w.heap.size A (W * H) f) (hW0 : 1 ≤ W) (hW : W ≤ 64) (hH0 : 1 ≤ H) (hH : H ≤ 64) :
    Calls Try.prog 129 #[.agg #[.int .i64 W, .int .i64 H, .slice A (W * H) c]] w (OkRef w W H fun i => !f i) := by
  have hN : W * H ≤ 4096 := Nat.mul_le_mul hW hH
  have hN0 : 0 < W * H := Nat.mul_pos hW0 hH0
  have HR := Lib.hid hr
  clear hr
  go_enter Try.func129, Try.ntmps129
  go_wp2_with fail
  refine (rchk_valid A c _ hW0 hW hH0 hH).mono ?_
  rintro e w1 ⟨rfl, hb1⟩
  obtain ⟨hbox1, hbox2, hbel1, hsz1⟩ := after2 hb1
  clear hb1
  obtain ⟨q0, q1, q2, q3, q4, q5, q6⟩ := hbox1.all
  go_wp2_with fail
  refine (twin_some W H A (W * H) c f _ (by omega) hN0 ((HR.out.below hbel1).more hbel1.size)).mono ?_
  rintro e w2 ⟨k, d, rfl, hk, hrow, hb2⟩
  have hbox3 := hbox2.below hb2 (by omega)
  have hbel2 := hbel1.trans (hb2.mono hbel1.size)
  have hsz2 := hb2.size
  have hkl := hrow.lt
  clear hb2 q0 q1 q2 q3 q4 q5 q6
  have R0 := Lib.hid (⟨Box.new w2 W H (.slice (some ⟨k, 0, none⟩) (W * H) d), hbox3.alloc _, (hrow.alloc _).congr (fun i _ => by simp), hbel2.alloc hbel2.size _⟩ :
    NotRel w (w2.alloc (.cells #[.int .i64 W, .int .i64 H, .slice (some ⟨k, 0, none⟩) (W * H) d] 24)) W H f (w.heap.size + 1) w2.heap.size k d 0)
  clear hbox1 hbox2 hbox3 hrow
  go_wp2
  go_loopw [5] (fun i wr => ∃ j : Nat, j ≤ W * H ∧ i = .int .i64 j ∧ NotRel w wr W H f (w.heap.size + 1) w2.heap.size k d j) (fun i _ => W * H - (intOf i).toNat)
  case atStart => exact ⟨0, Nat.zero_le _, rfl, R0.out⟩
  case round =>
    obtain ⟨j, hj, rfl, R⟩ := hrel
    obtain ⟨q0, q1, q2, q3, q4, q5, q6⟩ := R.out.all
    by_cases hlt : j < W * H
    · obtain ⟨u, hu⟩ : ∃ u, f j = u := ⟨_, rfl⟩
      have c1 := R.row.cell hlt
      simp only [Nat.lt_irrefl, if_false, hu] at c1
      have c2 := R.row.free j
      have HU := Lib.hid hu
      have HR2 := Lib.hid R
      have hkw := R.row.lt
      clear hu R
      have y1 : (0 : Int) ≤ (j : Int) := by omega
      have y2 : (j : Int) < (W : Int) * (H : Int) := by have := Int.ofNat_lt.2 hlt; simpa using this
      go_wp2
      go_still_tail 10, (by kernel_rfl)
      change wpList _ _ _ _ _ wr.drew
      go_wp2
      refine ⟨⟨j + 1, by omega, by go_num, ⟨HR2.out.out.drew.far (by simp; omega) _, HR2.out.res.drew.far (by simp; omega) _, ((HR2.out.row.drew.set_ j (!u)).congr fun i hi => ?_), HR2.out.bel.drew.setCell (by simp; omega) _⟩⟩, by simp [intOf]; omega⟩
      by_cases e : i = j
      · subst e; simp [HU.out]
      · rw [if_neg e]
        by_cases e' : i < j
        · rw [if_pos e', if_pos (by omega)]
        · rw [if_neg e', if_neg (by omega)]
    · have e : j = W * H := by omega
      subst e
      obtain ⟨p0, p1, p2, p3, p4, p5, p6⟩ := R.res.all
      have HR2 := Lib.hid R
      clear R
      go_wp2
      refine bodyPost_ret (v := .tuple #[.agg #[.int .i64 W, .int .i64 H, .slice (some ⟨k, 0, none⟩) (W * H) d], .int .i64 0]) (by simp [results, Try.results129, go_sem, p0, p1, p2]) rfl ?_
      exact fin_ref (by omega) (by omega) (HR2.out.row.congr fun i hi => by simp [hi]) HR2.out.bel
end Go.Proofs.Ytjbofdgdcnfmoaa
