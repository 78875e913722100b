/- Columns, Rows and Count of the program, of any grid. -/
import Derived.Test.YtbafhdinalapoaaDoorFct
import Derived.Test.YtbafhdinalapoaaDoorRkd
import Derived.Deep.DeepCutAuto
namespace Go.Proofs.YtbafhdinalapoaaDoor
open Go.RowKit
set_option linter.unusedVariables false
set_option linter.unusedSimpArgs false
set_option maxRecDepth 100000

open L2 (nd ren)
set_option maxHeartbeats 800000 in
theorem sorted_err (W H : Int) (A : Option Addr) (n c : Nat) (w : World) (err : Int) (hn : n ≤ 4200) (hx : chk W H n = err) (hne : (err != 0) = true) :
    Calls Tryd.prog 35 #[.agg #[.int .i64 W, .int .i64 H, .slice A n c]] w fun e w' => e = .returned (.tuple #[.agg #[.slice none 0 0, .slice none 0 0, .slice none 0 0, .slice none 0 0], .int .i64 err]) ∧ Below w.heap.size w w' := by
  have L0 := Lib.hid (show Below w.heap.size w ((w.alloc (.cells #[.int .i64 W, .int .i64 H, .slice A n c] 25)).alloc (.cells #[.slice none 0 0, .slice none 0 0, .slice none 0 0, .slice none 0 0] 65)) from ((Below.refl _ _).alloc (Nat.le_refl _) _).alloc (by simp) _)
  have HC := Lib.hid (turn_err W H A n c ((w.alloc (.cells #[.int .i64 W, .int .i64 H, .slice A n c] 25)).alloc (.cells #[.slice none 0 0, .slice none 0 0, .slice none 0 0, .slice none 0 0] 65)) err hn hx hne)
  have R0 := Lib.hid (Q4.new (w.alloc (.cells #[.int .i64 W, .int .i64 H, .slice A n c] 25)) (.slice none 0 0) (.slice none 0 0) (.slice none 0 0) (.slice none 0 0))
  have hs0 : ((w.alloc (.cells #[.int .i64 W, .int .i64 H, .slice A n c] 25)).alloc (.cells #[.slice none 0 0, .slice none 0 0, .slice none 0 0, .slice none 0 0] 65)).heap.size = w.heap.size + 2 := by simp
  clear hx
  go_enter Tryd.func35, Tryd.ntmps35
  go_wp2_with fail
  simp only [World.size_alloc] at R0
  generalize (w.alloc (.cells #[.int .i64 W, .int .i64 H, .slice A n c] 25)).alloc (.cells #[.slice none 0 0, .slice none 0 0, .slice none 0 0, .slice none 0 0] 65) = v0 at *
  refine HC.out.mono ?_
  rintro e w1 ⟨rfl, hb⟩
  have L1 := Lib.hid (L0.out.trans (hb.mono L0.out.size))
  have L2' := Lib.hid (L1.out.alloc L1.out.size (.cells #[.int .i64 0, .int .i64 0, .slice none 0 0] 25))
  have R1 := Lib.hid ((R0.out.below hb R0.out.lt).below ((Below.refl w1.heap.size w1).alloc (Nat.le_refl _) (.cells #[.int .i64 0, .int .i64 0, .slice none 0 0] 25)) (Nat.lt_of_lt_of_le R0.out.lt hb.size))
  have hq := Lib.hid (R1.out.fill (.slice none 0 0) (.slice none 0 0) (.slice none 0 0) (.slice none 0 0)).all
  obtain ⟨z0, z1, z2, z3, z4, z5, z6, z7, z8⟩ := R1.out.all
  clear hb
  go_wp2
  clear z0 z1 z2 z3 z4 z5 z6 z7 z8
  obtain ⟨y0, y1, y2, y3, y4, y5, y6, y7, y8⟩ := hq.out
  refine bodyPost_ret (v := .tuple #[.agg #[.slice none 0 0, .slice none 0 0, .slice none 0 0, .slice none 0 0], .int .i64 err]) (by simp [results, Tryd.results35, go_sem, y0, y1, y2, y3]) rfl ⟨rfl, ?_⟩
  exact Below.setCell (Below.setCell (Below.setCell (Below.setCell L2'.out (by simp) _) (by simp) _) (by simp) _) (by simp) _


set_option maxHeartbeats 800000 in
theorem columns_err (W H : Int) (A : Option Addr) (n c : Nat) (F : Nat → Int) (w : World) (err : Int) (hn : n ≤ 4200) (hx : chk W H n = err) (hne : (err != 0) = true) :
    Calls Tryd.prog 20 #[.agg #[.int .i64 W, .int .i64 H, .slice A n c]] w (L2.LOut w 0 F err) := by
  have L0 := Lib.hid (show Below w.heap.size w (w.alloc (.cells #[.int .i64 W, .int .i64 H, .slice A n c] 25)) from (Below.refl _ _).alloc (Nat.le_refl _) _)
  have HC := Lib.hid (sorted_err W H A n c (w.alloc (.cells #[.int .i64 W, .int .i64 H, .slice A n c] 25)) err hn hx hne)
  clear hx
  go_enter Tryd.func20, Tryd.ntmps20
  go_wp2_with fail
  refine HC.out.mono ?_
  rintro e w1 ⟨rfl, hb⟩
  have L1 := Lib.hid (L0.out.trans (hb.mono L0.out.size))
  have HB := Lib.hid (L1.out.alloc L1.out.size (.cells #[.slice none 0 0, .slice none 0 0, .slice none 0 0, .slice none 0 0] 65))
  obtain ⟨z0, z1, z2, z3, z4, z5, z6, z7, z8⟩ := (Q4.new w1 (.slice none 0 0) (.slice none 0 0) (.slice none 0 0) (.slice none 0 0)).all
  clear hb
  go_wp2
  exact bodyPost_ret (v := .tuple #[.slice none 0 0, .int .i64 err]) (by simp [results, Tryd.results20, go_sem]) rfl (L2.LOut.err HB.out)
set_option maxHeartbeats 800000 in
theorem columns_ok (W H : Nat) (b o cap : Nat) (f : Nat → Bool) (w : World) (hr : Holds w w.heap.size (some ⟨b, o, none⟩) (W * H) f) (hcap : W * H ≤ cap) (hW0 : 1 ≤ W) (hW : W ≤ 64) (hH0 : 1 ≤ H) (hH : H ≤ 64) :
    Calls Tryd.prog 20 #[.agg #[.int .i64 W, .int .i64 H, .slice (some ⟨b, o, none⟩) (W * H) cap]] w (L2.LOut w W (ren (rc H (tnf W H f))) 0) := by
  have L0 := Lib.hid (show Below w.heap.size w (w.alloc (.cells #[.int .i64 W, .int .i64 H, .slice (some ⟨b, o, none⟩) (W * H) cap] 25)) from (Below.refl _ _).alloc (Nat.le_refl _) _)
  have HS := Lib.hid (sorted_ok W H b o cap f _ ((hr.below L0.out).more L0.out.size) hcap hW0 hW hH0 hH)
  clear hr hcap
  go_enter Tryd.func20, Tryd.ntmps20
  go_wp2_with fail
  refine HS.out.mono ?_
  rintro e w1 ⟨A1, c1, A2, c2, A3, c3, A4, c4, rfl, hr1, -, hr3, -, hb⟩
  have L1 := Lib.hid (L0.out.trans (hb.mono L0.out.size))
  have Z := Lib.hid (Q4.new w1 (.slice A1 W c1) (.slice A2 (nd (rc H (tnf W H f)) W) c2) (.slice A3 H c3) (.slice A4 (nd (rc W f) H) c4))
  have HB := Lib.hid (L1.out.alloc L1.out.size (.cells #[.slice A1 W c1, .slice A2 (nd (rc H (tnf W H f)) W) c2, .slice A3 H c3, .slice A4 (nd (rc W f) H) c4] 65))
  have HRR := Lib.hid (hr1)
  have hle := L0.out.size
  clear hb hr1 hr3 HS
  obtain ⟨z0, z1, z2, z3, z4, z5, z6, z7, z8⟩ := Z.out.all
  go_wp2
  refine bodyPost_ret (v := .tuple #[.slice A1 W c1, .int .i64 0]) (by simp [results, Tryd.results20, go_sem]) rfl ⟨A1, c1, rfl, ?_, fun h => ?_, HB.out⟩
  · intro e
    exact absurd e (by obtain ⟨k, e', _⟩ := HRR.out (by omega); rw [e']; simp)
  · obtain ⟨k, e, h1, h2⟩ := HRR.out h
    exact ⟨k, e, by simp at h1 hle; omega, h2.alloc _⟩


set_option maxHeartbeats 800000 in
theorem rows_err (W H : Int) (A : Option Addr) (n c : Nat) (F : Nat → Int) (w : World) (err : Int) (hn : n ≤ 4200) (hx : chk W H n = err) (hne : (err != 0) = true) :
    Calls Tryd.prog 22 #[.agg #[.int .i64 W, .int .i64 H, .slice A n c]] w (L2.LOut w 0 F err) := by
  have L0 := Lib.hid (show Below w.heap.size w (w.alloc (.cells #[.int .i64 W, .int .i64 H, .slice A n c] 25)) from (Below.refl _ _).alloc (Nat.le_refl _) _)
  have HC := Lib.hid (sorted_err W H A n c (w.alloc (.cells #[.int .i64 W, .int .i64 H, .slice A n c] 25)) err hn hx hne)
  clear hx
  go_enter Tryd.func22, Tryd.ntmps22
  go_wp2_with fail
  refine HC.out.mono ?_
  rintro e w1 ⟨rfl, hb⟩
  have L1 := Lib.hid (L0.out.trans (hb.mono L0.out.size))
  have HB := Lib.hid (L1.out.alloc L1.out.size (.cells #[.slice none 0 0, .slice none 0 0, .slice none 0 0, .slice none 0 0] 65))
  obtain ⟨z0, z1, z2, z3, z4, z5, z6, z7, z8⟩ := (Q4.new w1 (.slice none 0 0) (.slice none 0 0) (.slice none 0 0) (.slice none 0 0)).all
  clear hb
  go_wp2
  exact bodyPost_ret (v := .tuple #[.slice none 0 0, .int .i64 err]) (by simp [results, Tryd.results22, go_sem]) rfl (L2.LOut.err HB.out)
set_option maxHeartbeats 800000 in
theorem rows_ok (W H : Nat) (b o cap : Nat) (f : Nat → Bool) (w : World) (hr : Holds w w.heap.size (some ⟨b, o, none⟩) (W * H) f) (hcap : W * H ≤ cap) (hW0 : 1 ≤ W) (hW : W ≤ 64) (hH0 : 1 ≤ H) (hH : H ≤ 64) :
    Calls Tryd.prog 22 #[.agg #[.int .i64 W, .int .i64 H, .slice (some ⟨b, o, none⟩) (W * H) cap]] w (L2.LOut w H (ren (rc W f)) 0) := by
  have L0 := Lib.hid (show Below w.heap.size w (w.alloc (.cells #[.int .i64 W, .int .i64 H, .slice (some ⟨b, o, none⟩) (W * H) cap] 25)) from (Below.refl _ _).alloc (Nat.le_refl _) _)
  have HS := Lib.hid (sorted_ok W H b o cap f _ ((hr.below L0.out).more L0.out.size) hcap hW0 hW hH0 hH)
  clear hr hcap
  go_enter Tryd.func22, Tryd.ntmps22
  go_wp2_with fail
  refine HS.out.mono ?_
  rintro e w1 ⟨A1, c1, A2, c2, A3, c3, A4, c4, rfl, hr1, -, hr3, -, hb⟩
  have L1 := Lib.hid (L0.out.trans (hb.mono L0.out.size))
  have Z := Lib.hid (Q4.new w1 (.slice A1 W c1) (.slice A2 (nd (rc H (tnf W H f)) W) c2) (.slice A3 H c3) (.slice A4 (nd (rc W f) H) c4))
  have HB := Lib.hid (L1.out.alloc L1.out.size (.cells #[.slice A1 W c1, .slice A2 (nd (rc H (tnf W H f)) W) c2, .slice A3 H c3, .slice A4 (nd (rc W f) H) c4] 65))
  have HRR := Lib.hid (hr3)
  have hle := L0.out.size
  clear hb hr1 hr3 HS
  obtain ⟨z0, z1, z2, z3, z4, z5, z6, z7, z8⟩ := Z.out.all
  go_wp2
  refine bodyPost_ret (v := .tuple #[.slice A3 H c3, .int .i64 0]) (by simp [results, Tryd.results22, go_sem]) rfl ⟨A3, c3, rfl, ?_, fun h => ?_, HB.out⟩
  · intro e
    exact absurd e (by obtain ⟨k, e', _⟩ := HRR.out (by omega); rw [e']; simp)
  · obtain ⟨k, e, h1, h2⟩ := HRR.out h
    exact ⟨k, e, by simp at h1 hle; omega, h2.alloc _⟩


set_option maxHeartbeats 800000 in
theorem count_err (W H : Int) (A : Option Addr) (n c : Nat) (w : World) (err : Int) (hn : n ≤ 4200) (hx : chk W H n = err) (hne : (err != 0) = true) :
    Calls Tryd.prog 15 #[.agg #[.int .i64 W, .int .i64 H, .slice A n c]] w fun e w' => e = .returned (.tuple #[.int .i64 0, .int .i64 0, .int .i64 err]) ∧ Below w.heap.size w w' := by
  have L0 := Lib.hid (show Below w.heap.size w (w.alloc (.cells #[.int .i64 W, .int .i64 H, .slice A n c] 25)) from (Below.refl _ _).alloc (Nat.le_refl _) _)
  have HC := Lib.hid (sorted_err W H A n c (w.alloc (.cells #[.int .i64 W, .int .i64 H, .slice A n c] 25)) err hn hx hne)
  clear hx
  go_enter Tryd.func15, Tryd.ntmps15
  go_wp2_with fail
  refine HC.out.mono ?_
  rintro e w1 ⟨rfl, hb⟩
  have L1 := Lib.hid (L0.out.trans (hb.mono L0.out.size))
  have HB := Lib.hid (L1.out.alloc L1.out.size (.cells #[.slice none 0 0, .slice none 0 0, .slice none 0 0, .slice none 0 0] 65))
  have Z := Lib.hid (Q4.new w1 (.slice none 0 0) (.slice none 0 0) (.slice none 0 0) (.slice none 0 0))
  clear hb
  go_upto_region 2 with fail
  generalize w1.alloc (.cells #[.slice none 0 0, .slice none 0 0, .slice none 0 0, .slice none 0 0] 65) = w2 at *
  obtain ⟨z0, z1, z2, z3, z4, z5, z6, z7, z8⟩ := Z.out.all
  go_quiet (fail)
  clear z0 z1 z2 z3 z4 z5 z6 z7 z8
  have HF := Lib.hid (Go.Proofs.below_drewN' HB.out nq)
  go_wp2
  exact bodyPost_ret (v := .tuple #[.int .i64 0, .int .i64 0, .int .i64 err]) (by simp [results, Tryd.results15, go_sem]) rfl ⟨rfl, HF.out⟩
end Go.Proofs.YtbafhdinalapoaaDoor
