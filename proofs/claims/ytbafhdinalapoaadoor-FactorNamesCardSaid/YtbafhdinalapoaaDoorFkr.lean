/- Columns, Rows and Count of the reference. -/
import Derived.Test.YtbafhdinalapoaaDoorFct
import Derived.Test.YtbafhdinalapoaaDoorRkd
import Derived.Deep.DeepCutAuto
namespace Go.Proofs.YtbafhdinalapoaaDoor
open Go.RowKit
set_option linter.unusedVariables false
set_option linter.unusedSimpArgs false
set_option maxRecDepth 100000

open L2 (nd ren)
theorem rgchk (W H : Int) (A : Option Addr) (n c : Nat) (w : World) (err : Int) (hn : n ≤ 4200) (hx : chk W H n = err) :
    Calls Tryd.prog 28 #[.agg #[.int .i64 W, .int .i64 H, .slice A n c]] w fun e w' => e = .returned (.int .i64 err) ∧ Below w.heap.size w w' := by
  exact rchk_err hn hx w
theorem fchk_ok {W H : Nat} (hW0 : 1 ≤ W) (hW : W ≤ 64) (hH0 : 1 ≤ H) (hH : H ≤ 64) : chk (W : Int) (H : Int) (W * H) = 0 := by
  exact chk_zero hW0 hW hH0 hH

set_option maxHeartbeats 800000 in
theorem rcolumns_err (W H : Int) (A : Option Addr) (n c : Nat) (F : Nat → Int) (w : World) (err : Int) (hn : n ≤ 4200) (hx : chk W H n = err) (hne : (err != 0) = true) :
    Calls Tryd.prog 21 #[.agg #[.int .i64 W, .int .i64 H, .slice A n c]] w (L2.LOut w 0 F err) := by
  have L0 := Lib.hid (show Below w.heap.size w (w.alloc (.cells #[.int .i64 W, .int .i64 H, .slice A n c] 25)) from (Below.refl _ _).alloc (Nat.le_refl _) _)
  have X0 := Lib.hid (Box.new w W H (.slice A n c))
  have HC := Lib.hid (fun v => rgchk W H A n c v err hn hx)
  clear hx
  go_enter Tryd.func21, Tryd.ntmps21
  obtain ⟨q0, q1, q2, q3, q4, q5, q6⟩ := X0.out.all
  go_wp2_with fail
  clear q0 q1 q2 q3 q4 q5 q6
  refine (HC.out _).mono ?_
  rintro e w1 ⟨rfl, hb⟩
  have X1 := Lib.hid (X0.out.below hb X0.out.lt)
  have L1 := Lib.hid (L0.out.trans (hb.mono L0.out.size))
  clear hb X0 L0
  obtain ⟨q0, q1, q2, q3, q4, q5, q6⟩ := X1.out.all
  go_wp2_with fail
  clear q0 q1 q2 q3 q4 q5 q6
  refine (HC.out _).mono ?_
  rintro e w2 ⟨rfl, hb⟩
  have L2' := Lib.hid (L1.out.trans (hb.mono L1.out.size))
  clear hb
  go_wp2
  go_ret2
  exact L2.LOut.err L2'.out


set_option maxHeartbeats 800000 in
theorem rrows_err (W H : Int) (A : Option Addr) (n c : Nat) (F : Nat → Int) (w : World) (err : Int) (hn : n ≤ 4200) (hx : chk W H n = err) (hne : (err != 0) = true) :
    Calls Tryd.prog 23 #[.agg #[.int .i64 W, .int .i64 H, .slice A n c]] w (L2.LOut w 0 F err) := by
  have L0 := Lib.hid (show Below w.heap.size w (w.alloc (.cells #[.int .i64 W, .int .i64 H, .slice A n c] 25)) from (Below.refl _ _).alloc (Nat.le_refl _) _)
  have X0 := Lib.hid (Box.new w W H (.slice A n c))
  have HC := Lib.hid (fun v => rgchk W H A n c v err hn hx)
  clear hx
  go_enter Tryd.func23, Tryd.ntmps23
  obtain ⟨q0, q1, q2, q3, q4, q5, q6⟩ := X0.out.all
  go_wp2_with fail
  clear q0 q1 q2 q3 q4 q5 q6
  refine (HC.out _).mono ?_
  rintro e w1 ⟨rfl, hb⟩
  have X1 := Lib.hid (X0.out.below hb X0.out.lt)
  have L1 := Lib.hid (L0.out.trans (hb.mono L0.out.size))
  clear hb X0 L0
  obtain ⟨q0, q1, q2, q3, q4, q5, q6⟩ := X1.out.all
  go_wp2_with fail
  clear q0 q1 q2 q3 q4 q5 q6
  refine (HC.out _).mono ?_
  rintro e w2 ⟨rfl, hb⟩
  have L2' := Lib.hid (L1.out.trans (hb.mono L1.out.size))
  clear hb
  go_wp2
  go_ret2
  exact L2.LOut.err L2'.out


set_option maxHeartbeats 800000 in
theorem rcolumns_ok (W H : Nat) (b o cap : Nat) (f : Nat → Bool) (w : World) (hr : Holds w w.heap.size (some ⟨b, o, none⟩) (W * H) f) (hcap : W * H ≤ cap) (hW0 : 1 ≤ W) (hW : W ≤ 64) (hH0 : 1 ≤ H) (hH : H ≤ 64) :
    Calls Tryd.prog 21 #[.agg #[.int .i64 W, .int .i64 H, .slice (some ⟨b, o, none⟩) (W * H) cap]] w (L2.LOut w W (ren (rc H (tnf W H f))) 0) := by
  have L0 := Lib.hid (show Below w.heap.size w (w.alloc (.cells #[.int .i64 W, .int .i64 H, .slice (some ⟨b, o, none⟩) (W * H) cap] 25)) from (Below.refl _ _).alloc (Nat.le_refl _) _)
  have X0 := Lib.hid (Box.new w W H (.slice (some ⟨b, o, none⟩) (W * H) cap))
  have hck : chk (W : Int) (H : Int) (W * H) = 0 := fchk_ok hW0 hW hH0 hH
  have HC := Lib.hid (fun v => rgchk W H (some ⟨b, o, none⟩) (W * H) cap v 0 (Nat.le_trans (Nat.mul_le_mul hW hH) (by omega)) hck)
  have HT := Lib.hid (fun v (h : Below w.heap.size w v) => turned_any W H (some ⟨b, o, none⟩) cap f v ((hr.below h).more h.size) hW0 hW hH0 hH)
  have HK := Lib.hid (fun v (h : Below w.heap.size w v) => rkinds_any W H (some ⟨b, o, none⟩) cap f v.heap.size v ((hr.below h).more h.size) (Nat.le_refl _) hW hH)
  have HK2 := Lib.hid (fun v (k : Nat) (h : Row v k (H * W) (tnf W H f)) => rkinds_any H W (some ⟨k, 0, none⟩) (H * W) (tnf W H f) v.heap.size v (h.holds h.lt) (Nat.le_refl _) hH hW)
  clear hr hcap hck
  go_enter Tryd.func21, Tryd.ntmps21
  obtain ⟨q0, q1, q2, q3, q4, q5, q6⟩ := X0.out.all
  go_wp2_with fail
  clear q0 q1 q2 q3 q4 q5 q6
  refine (HC.out _).mono ?_
  rintro e w1 ⟨rfl, hb⟩
  have X1 := Lib.hid (X0.out.below hb X0.out.lt)
  have L1 := Lib.hid (L0.out.trans (hb.mono L0.out.size))
  clear hb X0 L0
  obtain ⟨q0, q1, q2, q3, q4, q5, q6⟩ := X1.out.all
  go_wp2_with fail
  clear q0 q1 q2 q3 q4 q5 q6
  refine (HT.out _ L1.out).mono ?_
  rintro e w2 ⟨k, rfl, hk, hrow, hb⟩
  have X2 := Lib.hid (X1.out.below hb X1.out.lt)
  have L2' := Lib.hid (L1.out.trans (hb.mono L1.out.size))
  have HKR := Lib.hid (HK2.out w2 k hrow)
  clear hb X1 L1 hrow hk
  go_wp2_with fail
  refine HKR.out.mono ?_
  rintro e w3 ⟨A1, c1, A2, c2, rfl, hr1, hr2, hb⟩
  have X3 := Lib.hid (X2.out.below hb X2.out.lt)
  have L3 := Lib.hid (L2'.out.trans (hb.mono L2'.out.size))
  have hle := L2'.out.size
  clear hb
  go_wp2
  go_ret2
  refine ⟨A1, c1, rfl, fun e => ?_, fun h => ?_, L3.out⟩
  · exact absurd e (by obtain ⟨k, e', _⟩ := hr1 (by omega); rw [e']; simp)
  · obtain ⟨k, e, h1, h2⟩ := hr1 h
    exact ⟨k, e, by omega, h2⟩


set_option maxHeartbeats 800000 in
theorem rrows_ok (W H : Nat) (b o cap : Nat) (f : Nat → Bool) (w : World) (hr : Holds w w.heap.size (some ⟨b, o, none⟩) (W * H) f) (hcap : W * H ≤ cap) (hW0 : 1 ≤ W) (hW : W ≤ 64) (hH0 : 1 ≤ H) (hH : H ≤ 64) :
    Calls Tryd.prog 23 #[.agg #[.int .i64 W, .int .i64 H, .slice (some ⟨b, o, none⟩) (W * H) cap]] w (L2.LOut w H (ren (rc W f)) 0) := by
  have L0 := Lib.hid (show Below w.heap.size w (w.alloc (.cells #[.int .i64 W, .int .i64 H, .slice (some ⟨b, o, none⟩) (W * H) cap] 25)) from (Below.refl _ _).alloc (Nat.le_refl _) _)
  have X0 := Lib.hid (Box.new w W H (.slice (some ⟨b, o, none⟩) (W * H) cap))
  have hck : chk (W : Int) (H : Int) (W * H) = 0 := fchk_ok hW0 hW hH0 hH
  have HC := Lib.hid (fun v => rgchk W H (some ⟨b, o, none⟩) (W * H) cap v 0 (Nat.le_trans (Nat.mul_le_mul hW hH) (by omega)) hck)
  have HT := Lib.hid (fun v (h : Below w.heap.size w v) => turned_any W H (some ⟨b, o, none⟩) cap f v ((hr.below h).more h.size) hW0 hW hH0 hH)
  have HK := Lib.hid (fun v (h : Below w.heap.size w v) => rkinds_any W H (some ⟨b, o, none⟩) cap f v.heap.size v ((hr.below h).more h.size) (Nat.le_refl _) hW hH)
  have HK2 := Lib.hid (fun v (k : Nat) (h : Row v k (H * W) (tnf W H f)) => rkinds_any H W (some ⟨k, 0, none⟩) (H * W) (tnf W H f) v.heap.size v (h.holds h.lt) (Nat.le_refl _) hH hW)
  clear hr hcap hck
  go_enter Tryd.func23, Tryd.ntmps23
  obtain ⟨q0, q1, q2, q3, q4, q5, q6⟩ := X0.out.all
  go_wp2_with fail
  clear q0 q1 q2 q3 q4 q5 q6
  refine (HC.out _).mono ?_
  rintro e w1 ⟨rfl, hb⟩
  have X1 := Lib.hid (X0.out.below hb X0.out.lt)
  have L1 := Lib.hid (L0.out.trans (hb.mono L0.out.size))
  clear hb X0 L0
  obtain ⟨q0, q1, q2, q3, q4, q5, q6⟩ := X1.out.all
  go_wp2_with fail
  clear q0 q1 q2 q3 q4 q5 q6
  refine (HK.out _ L1.out).mono ?_
  rintro e w3 ⟨A1, c1, A2, c2, rfl, hr1, hr2, hb⟩
  have L3 := Lib.hid (L1.out.trans (hb.mono L1.out.size))
  have hle := L1.out.size
  clear hb
  go_wp2
  go_ret2
  refine ⟨A1, c1, rfl, fun e => ?_, fun h => ?_, L3.out⟩
  · exact absurd e (by obtain ⟨k, e', _⟩ := hr1 (by omega); rw [e']; simp)
  · obtain ⟨k, e, h1, h2⟩ := hr1 h
    exact ⟨k, e, by omega, h2⟩


set_option maxHeartbeats 800000 in
theorem rcount_err (W H : Int) (A : Option Addr) (n c : Nat) (w : World) (err : Int) (hn : n ≤ 4200) (hx : chk W H n = err) (hne : (err != 0) = true) :
    Calls Tryd.prog 24 #[.agg #[.int .i64 W, .int .i64 H, .slice A n c]] w fun e w' => e = .returned (.tuple #[.int .i64 0, .int .i64 0, .int .i64 err]) ∧ Below w.heap.size w w' := by
  have L0 := Lib.hid (show Below w.heap.size w (w.alloc (.cells #[.int .i64 W, .int .i64 H, .slice A n c] 25)) from (Below.refl _ _).alloc (Nat.le_refl _) _)
  have X0 := Lib.hid (Box.new w W H (.slice A n c))
  have HC := Lib.hid (fun v => rgchk W H A n c v err hn hx)
  clear hx
  go_enter Tryd.func24, Tryd.ntmps24
  obtain ⟨q0, q1, q2, q3, q4, q5, q6⟩ := X0.out.all
  go_wp2_with fail
  clear q0 q1 q2 q3 q4 q5 q6
  refine (HC.out _).mono ?_
  rintro e w1 ⟨rfl, hb⟩
  have X1 := Lib.hid (X0.out.below hb X0.out.lt)
  have L1 := Lib.hid (L0.out.trans (hb.mono L0.out.size))
  clear hb X0 L0
  obtain ⟨q0, q1, q2, q3, q4, q5, q6⟩ := X1.out.all
  go_wp2_with fail
  clear q0 q1 q2 q3 q4 q5 q6
  refine (HC.out _).mono ?_
  rintro e w2 ⟨rfl, hb⟩
  have L2' := Lib.hid (L1.out.trans (hb.mono L1.out.size))
  clear hb
  go_wp2
  exact bodyPost_ret (v := .tuple #[.int .i64 0, .int .i64 0, .int .i64 err]) (by simp [results, Tryd.results24, go_sem]) rfl ⟨rfl, L2'.out⟩


set_option maxHeartbeats 800000 in
theorem rcount_ok (W H : Nat) (b o cap : Nat) (f : Nat → Bool) (w : World) (hr : Holds w w.heap.size (some ⟨b, o, none⟩) (W * H) f) (hcap : W * H ≤ cap) (hW0 : 1 ≤ W) (hW : W ≤ 64) (hH0 : 1 ≤ H) (hH : H ≤ 64) :
    Calls Tryd.prog 24 #[.agg #[.int .i64 W, .int .i64 H, .slice (some ⟨b, o, none⟩) (W * H) cap]] w fun e w' => e = .returned (.tuple #[.int .i64 (nd (rc H (tnf W H f)) W : Nat), .int .i64 (nd (rc W f) H : Nat), .int .i64 0]) ∧ Below w.heap.size w w' := by
  have L0 := Lib.hid (show Below w.heap.size w (w.alloc (.cells #[.int .i64 W, .int .i64 H, .slice (some ⟨b, o, none⟩) (W * H) cap] 25)) from (Below.refl _ _).alloc (Nat.le_refl _) _)
  have X0 := Lib.hid (Box.new w W H (.slice (some ⟨b, o, none⟩) (W * H) cap))
  have hck : chk (W : Int) (H : Int) (W * H) = 0 := fchk_ok hW0 hW hH0 hH
  have HC := Lib.hid (fun v => rgchk W H (some ⟨b, o, none⟩) (W * H) cap v 0 (Nat.le_trans (Nat.mul_le_mul hW hH) (by omega)) hck)
  have HT := Lib.hid (fun v (h : Below w.heap.size w v) => turned_any W H (some ⟨b, o, none⟩) cap f v ((hr.below h).more h.size) hW0 hW hH0 hH)
  have HK := Lib.hid (fun v (h : Below w.heap.size w v) => rkinds_any W H (some ⟨b, o, none⟩) cap f v.heap.size v ((hr.below h).more h.size) (Nat.le_refl _) hW hH)
  have HK2 := Lib.hid (fun v (k : Nat) (h : Row v k (H * W) (tnf W H f)) => rkinds_any H W (some ⟨k, 0, none⟩) (H * W) (tnf W H f) v.heap.size v (h.holds h.lt) (Nat.le_refl _) hH hW)
  clear hr hcap hck
  go_enter Tryd.func24, Tryd.ntmps24
  obtain ⟨q0, q1, q2, q3, q4, q5, q6⟩ := X0.out.all
  go_wp2_with fail
  clear q0 q1 q2 q3 q4 q5 q6
  refine (HC.out _).mono ?_
  rintro e w1 ⟨rfl, hb⟩
  have X1 := Lib.hid (X0.out.below hb X0.out.lt)
  have L1 := Lib.hid (L0.out.trans (hb.mono L0.out.size))
  clear hb X0 L0
  obtain ⟨q0, q1, q2, q3, q4, q5, q6⟩ := X1.out.all
  go_wp2_with fail
  clear q0 q1 q2 q3 q4 q5 q6
  refine (HT.out _ L1.out).mono ?_
  rintro e w2 ⟨k, rfl, hk, hrow, hb⟩
  have X2 := Lib.hid (X1.out.below hb X1.out.lt)
  have L2' := Lib.hid (L1.out.trans (hb.mono L1.out.size))
  have HKR := Lib.hid (HK2.out w2 k hrow)
  clear hb X1 L1 hrow hk
  go_wp2_with fail
  refine HKR.out.mono ?_
  rintro e w3 ⟨A1, c1, A2, c2, rfl, hr1, hr2, hb⟩
  have X3 := Lib.hid (X2.out.below hb X2.out.lt)
  have L3 := Lib.hid (L2'.out.trans (hb.mono L2'.out.size))
  have hle := L2'.out.size
  clear hb hr1 hr2
  obtain ⟨q0, q1, q2, q3, q4, q5, q6⟩ := X3.out.all
  go_wp2_with fail
  clear q0 q1 q2 q3 q4 q5 q6
  refine (HK.out _ L3.out).mono ?_
  rintro e w4 ⟨A3, c3, A4, c4, rfl, hr3, hr4, hb⟩
  have L4 := Lib.hid (L3.out.trans (hb.mono L3.out.size))
  clear hb hr3 hr4
  go_wp2
  exact bodyPost_ret (v := .tuple #[.int .i64 (nd (rc H (tnf W H f)) W : Nat), .int .i64 (nd (rc W f) H : Nat), .int .i64 0]) (by simp [results, Tryd.results24, go_sem]) rfl ⟨rfl, L4.out⟩
end Go.Proofs.YtbafhdinalapoaaDoor
