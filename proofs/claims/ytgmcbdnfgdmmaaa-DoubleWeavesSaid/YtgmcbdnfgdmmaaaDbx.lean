/- Merged: Dwv Dbk Dev. -/
import Derived.Test.YtgmcbdnfgdmmaaaDax
import Derived.Test.YtgmcbdnfgdmmaaaLal

/- Weave and Face of the program. -/
namespace Go.Proofs.Ytgmcbdnfgdmmaaa
open Go.RowKit
set_option maxRecDepth 100000
set_option linter.unusedVariables false
set_option linter.unusedSimpArgs false

/-- fit of three grids that have just been put in a row. -/
theorem fit_three (W H X Y U V : Int) (A B C : Option Addr) (n c m d k e : Nat) (hn : n ≤ 4200) (hm : m ≤ 4200) (hk : k ≤ 4200) (w : World) :
    Calls Try.prog 90 #[.slice (some ⟨w.heap.size, 0, none⟩) 3 3] (w.alloc (.cells #[.int .i64 W, .int .i64 H, .slice A n c, .int .i64 X, .int .i64 Y, .slice B m d, .int .i64 U, .int .i64 V, .slice C k e] 24)) fun e w' =>
      e = .returned (.int .i64 (fitZ (chk W H n) (chk X Y m) (chk U V k) W H X Y U V)) ∧ Below w.heap.size w w' := by
  have hB := bel_alloc w (.cells #[.int .i64 W, .int .i64 H, .slice A n c, .int .i64 X, .int .i64 Y, .slice B m d, .int .i64 U, .int .i64 V, .slice C k e] 24)
  have hx := World.alloc_heap_new w (.cells #[.int .i64 W, .int .i64 H, .slice A n c, .int .i64 X, .int .i64 Y, .slice B m d, .int .i64 U, .int .i64 V, .slice C k e] 24)
  have hlt : w.heap.size < (w.alloc (.cells #[.int .i64 W, .int .i64 H, .slice A n c, .int .i64 X, .int .i64 Y, .slice B m d, .int .i64 U, .int .i64 V, .slice C k e] 24)).heap.size := by simp
  have h := fit_any w.heap.size (fun i => match i with | 0 => W | 1 => X | _ => U) (fun i => match i with | 0 => H | 1 => Y | _ => V) (fun i => match i with | 0 => A | 1 => B | _ => C) (fun i => match i with | 0 => n | 1 => m | _ => k) (fun i => match i with | 0 => c | 1 => d | _ => e) (w.alloc (.cells #[.int .i64 W, .int .i64 H, .slice A n c, .int .i64 X, .int .i64 Y, .slice B m d, .int .i64 U, .int .i64 V, .slice C k e] 24))
    ⟨fun i hi => by
      rcases (show i = 0 ∨ i = 1 ∨ i = 2 by omega) with rfl | rfl | rfl
      · exact ⟨by rw [Lib.cell_of_heap hx]; rfl, by rw [Lib.cell_of_heap hx]; rfl, by rw [Lib.cell_of_heap hx]; rfl⟩
      · exact ⟨by rw [Lib.cell_of_heap hx]; rfl, by rw [Lib.cell_of_heap hx]; rfl, by rw [Lib.cell_of_heap hx]; rfl⟩
      · exact ⟨by rw [Lib.cell_of_heap hx]; rfl, by rw [Lib.cell_of_heap hx]; rfl, by rw [Lib.cell_of_heap hx]; rfl⟩, hlt⟩
    (fun i hi => by rcases (show i = 0 ∨ i = 1 ∨ i = 2 by omega) with rfl | rfl | rfl; exact hn; exact hm; exact hk)
  exact h.mono fun e w' h => ⟨h.1, hB.trans (h.2.mono hB.size)⟩
theorem fitZ_valid {W H : Nat} (hW0 : 1 ≤ W) (hW : W ≤ 64) (hH0 : 1 ≤ H) (hH : H ≤ 64) : fitZ (chk W H (W * H)) (chk W H (W * H)) (chk W H (W * H)) W H W H W H = 0 := by
  rw [chk_zero hW0 hW hH0 hH]; unfold fitZ; simp
set_option maxHeartbeats 1600000 in
theorem weave_err {W H X Y U V : Int} {A B C : Option Addr} {n c m d k e : Nat} (hn : n ≤ 4200) (hm : m ≤ 4200) (hk : k ≤ 4200) {z : Int} (hz : fitZ (chk W H n) (chk X Y m) (chk U V k) W H X Y U V = z) (hne : (z != 0) = true) (w : World) :
    Calls Try.prog 48 #[.agg #[.int .i64 W, .int .i64 H, .slice A n c], .agg #[.int .i64 X, .int .i64 Y, .slice B m d], .agg #[.int .i64 U, .int .i64 V, .slice C k e]] w (ErrGrid w z) := by
  have HK := Lib.hid (fun u => fit_three W H X Y U V A B C n c m d k e hn hm hk u)
  rw [hz] at HK
  clear hz hn hm hk
  have LB0 := Lib.hid (Below.refl w.heap.size w)
  have XA := Lib.hid (Box.new w W H (.slice A n c))
  have LB0 := Lib.hid (LB0.out.alloc LB0.out.size (.cells #[.int .i64 W, .int .i64 H, .slice A n c] 24))
  have XA := Lib.hid (XA.out.alloc (.cells #[.int .i64 X, .int .i64 Y, .slice B m d] 24))
  have XB := Box.new (w.alloc (.cells #[.int .i64 W, .int .i64 H, .slice A n c] 24)) X Y (.slice B m d)
  rw [show ((w.alloc (.cells #[.int .i64 W, .int .i64 H, .slice A n c] 24))).heap.size = w.heap.size + 1 by simp] at XB
  have XB := Lib.hid XB
  have LB0 := Lib.hid (LB0.out.alloc LB0.out.size (.cells #[.int .i64 X, .int .i64 Y, .slice B m d] 24))
  have XA := Lib.hid (XA.out.alloc (.cells #[.int .i64 U, .int .i64 V, .slice C k e] 24))
  have XB := Lib.hid (XB.out.alloc (.cells #[.int .i64 U, .int .i64 V, .slice C k e] 24))
  have XC := Box.new ((w.alloc (.cells #[.int .i64 W, .int .i64 H, .slice A n c] 24)).alloc (.cells #[.int .i64 X, .int .i64 Y, .slice B m d] 24)) U V (.slice C k e)
  rw [show (((w.alloc (.cells #[.int .i64 W, .int .i64 H, .slice A n c] 24)).alloc (.cells #[.int .i64 X, .int .i64 Y, .slice B m d] 24))).heap.size = w.heap.size + 2 by simp] at XC
  have XC := Lib.hid XC
  have LB0 := Lib.hid (LB0.out.alloc LB0.out.size (.cells #[.int .i64 U, .int .i64 V, .slice C k e] 24))
  have XA := Lib.hid (XA.out.alloc (.cells #[.int .i64 0, .int .i64 0, .slice none 0 0] 24))
  have XB := Lib.hid (XB.out.alloc (.cells #[.int .i64 0, .int .i64 0, .slice none 0 0] 24))
  have XC := Lib.hid (XC.out.alloc (.cells #[.int .i64 0, .int .i64 0, .slice none 0 0] 24))
  have XR := Box.new (((w.alloc (.cells #[.int .i64 W, .int .i64 H, .slice A n c] 24)).alloc (.cells #[.int .i64 X, .int .i64 Y, .slice B m d] 24)).alloc (.cells #[.int .i64 U, .int .i64 V, .slice C k e] 24)) 0 0 (.slice none 0 0)
  rw [show ((((w.alloc (.cells #[.int .i64 W, .int .i64 H, .slice A n c] 24)).alloc (.cells #[.int .i64 X, .int .i64 Y, .slice B m d] 24)).alloc (.cells #[.int .i64 U, .int .i64 V, .slice C k e] 24))).heap.size = w.heap.size + 3 by simp] at XR
  have XR := Lib.hid XR
  have LB0 := Lib.hid (LB0.out.alloc LB0.out.size (.cells #[.int .i64 0, .int .i64 0, .slice none 0 0] 24))
  go_enter Try.func48, Try.ntmps48
  go_upto_region 1 with (fail)
  generalize (((w.alloc (.cells #[.int .i64 W, .int .i64 H, .slice A n c] 24)).alloc (.cells #[.int .i64 X, .int .i64 Y, .slice B m d] 24)).alloc (.cells #[.int .i64 U, .int .i64 V, .slice C k e] 24)).alloc (.cells #[.int .i64 0, .int .i64 0, .slice none 0 0] 24) = w0 at *
  obtain ⟨rb, hrb⟩ : ∃ rb, w.heap.size + 3 = rb := ⟨_, rfl⟩
  have hrw : w.heap.size ≤ rb := by omega
  rw [hrb] at XR ⊢
  clear hrb
  obtain ⟨q0, q1, q2, q3, q4, q5, q6⟩ := XA.out.all
  obtain ⟨q7, q8, q9, q10, q11, q12, q13⟩ := XB.out.all
  obtain ⟨q14, q15, q16, q17, q18, q19, q20⟩ := XC.out.all
  go_wp2_with fail
  clear q0 q1 q2 q3 q4 q5 q6 q7 q8 q9 q10 q11 q12 q13 q14 q15 q16 q17 q18 q19 q20
  with_reducible refine Calls.mono (HK.out _) ?_
  rintro e w1 ⟨rfl, hb⟩
  have LB1 := Lib.hid (LB0.out.trans (hb.mono LB0.out.size))
  have XA := Lib.hid (XA.out.below hb XA.out.lt)
  have XB := Lib.hid (XB.out.below hb XB.out.lt)
  have XC := Lib.hid (XC.out.below hb XC.out.lt)
  have XR := Lib.hid (XR.out.below hb XR.out.lt)
  clear hb LB0 
  obtain ⟨q0, q1, q2, q3, q4, q5, q6⟩ := XR.out.all
  go_wp2
  refine bodyPost_ret (v := .tuple #[.agg #[.int .i64 0, .int .i64 0, .slice none 0 0], .int .i64 z]) (by simp [results, Try.results48, go_sem, q0, q1, q2, q3, q4, q5]) rfl ?_
  exact ⟨rfl, ((LB1.out.setCell (p := ⟨rb, 0, none⟩) hrw _).setCell (p := ⟨rb, 1, none⟩) hrw _).setCell (p := ⟨rb, 2, none⟩) hrw _⟩
set_option maxHeartbeats 1600000 in
theorem face_err {W H X Y U V : Int} {A B C : Option Addr} {n c m d k e : Nat} (hn : n ≤ 4200) (hm : m ≤ 4200) (hk : k ≤ 4200) {z : Int} (hz : fitZ (chk W H n) (chk X Y m) (chk U V k) W H X Y U V = z) (hne : (z != 0) = true) (w : World) :
    Calls Try.prog 44 #[.agg #[.int .i64 W, .int .i64 H, .slice A n c], .agg #[.int .i64 X, .int .i64 Y, .slice B m d], .agg #[.int .i64 U, .int .i64 V, .slice C k e]] w (ErrGrid w z) := by
  have HK := Lib.hid (fun u => fit_three W H X Y U V A B C n c m d k e hn hm hk u)
  rw [hz] at HK
  clear hz hn hm hk
  have LB0 := Lib.hid (Below.refl w.heap.size w)
  have XA := Lib.hid (Box.new w W H (.slice A n c))
  have LB0 := Lib.hid (LB0.out.alloc LB0.out.size (.cells #[.int .i64 W, .int .i64 H, .slice A n c] 24))
  have XA := Lib.hid (XA.out.alloc (.cells #[.int .i64 X, .int .i64 Y, .slice B m d] 24))
  have XB := Box.new (w.alloc (.cells #[.int .i64 W, .int .i64 H, .slice A n c] 24)) X Y (.slice B m d)
  rw [show ((w.alloc (.cells #[.int .i64 W, .int .i64 H, .slice A n c] 24))).heap.size = w.heap.size + 1 by simp] at XB
  have XB := Lib.hid XB
  have LB0 := Lib.hid (LB0.out.alloc LB0.out.size (.cells #[.int .i64 X, .int .i64 Y, .slice B m d] 24))
  have XA := Lib.hid (XA.out.alloc (.cells #[.int .i64 U, .int .i64 V, .slice C k e] 24))
  have XB := Lib.hid (XB.out.alloc (.cells #[.int .i64 U, .int .i64 V, .slice C k e] 24))
  have XC := Box.new ((w.alloc (.cells #[.int .i64 W, .int .i64 H, .slice A n c] 24)).alloc (.cells #[.int .i64 X, .int .i64 Y, .slice B m d] 24)) U V (.slice C k e)
  rw [show (((w.alloc (.cells #[.int .i64 W, .int .i64 H, .slice A n c] 24)).alloc (.cells #[.int .i64 X, .int .i64 Y, .slice B m d] 24))).heap.size = w.heap.size + 2 by simp] at XC
  have XC := Lib.hid XC
  have LB0 := Lib.hid (LB0.out.alloc LB0.out.size (.cells #[.int .i64 U, .int .i64 V, .slice C k e] 24))
  have XA := Lib.hid (XA.out.alloc (.cells #[.int .i64 0, .int .i64 0, .slice none 0 0] 24))
  have XB := Lib.hid (XB.out.alloc (.cells #[.int .i64 0, .int .i64 0, .slice none 0 0] 24))
  have XC := Lib.hid (XC.out.alloc (.cells #[.int .i64 0, .int .i64 0, .slice none 0 0] 24))
  have XR := Box.new (((w.alloc (.cells #[.int .i64 W, .int .i64 H, .slice A n c] 24)).alloc (.cells #[.int .i64 X, .int .i64 Y, .slice B m d] 24)).alloc (.cells #[.int .i64 U, .int .i64 V, .slice C k e] 24)) 0 0 (.slice none 0 0)
  rw [show ((((w.alloc (.cells #[.int .i64 W, .int .i64 H, .slice A n c] 24)).alloc (.cells #[.int .i64 X, .int .i64 Y, .slice B m d] 24)).alloc (.cells #[.int .i64 U, .int .i64 V, .slice C k e] 24))).heap.size = w.heap.size + 3 by simp] at XR
  have XR := Lib.hid XR
  have LB0 := Lib.hid (LB0.out.alloc LB0.out.size (.cells #[.int .i64 0, .int .i64 0, .slice none 0 0] 24))
  go_enter Try.func44, Try.ntmps44
  go_upto_region 1 with (fail)
  generalize (((w.alloc (.cells #[.int .i64 W, .int .i64 H, .slice A n c] 24)).alloc (.cells #[.int .i64 X, .int .i64 Y, .slice B m d] 24)).alloc (.cells #[.int .i64 U, .int .i64 V, .slice C k e] 24)).alloc (.cells #[.int .i64 0, .int .i64 0, .slice none 0 0] 24) = w0 at *
  obtain ⟨rb, hrb⟩ : ∃ rb, w.heap.size + 3 = rb := ⟨_, rfl⟩
  have hrw : w.heap.size ≤ rb := by omega
  rw [hrb] at XR ⊢
  clear hrb
  obtain ⟨q0, q1, q2, q3, q4, q5, q6⟩ := XA.out.all
  obtain ⟨q7, q8, q9, q10, q11, q12, q13⟩ := XB.out.all
  obtain ⟨q14, q15, q16, q17, q18, q19, q20⟩ := XC.out.all
  go_wp2_with fail
  clear q0 q1 q2 q3 q4 q5 q6 q7 q8 q9 q10 q11 q12 q13 q14 q15 q16 q17 q18 q19 q20
  with_reducible refine Calls.mono (HK.out _) ?_
  rintro e w1 ⟨rfl, hb⟩
  have LB1 := Lib.hid (LB0.out.trans (hb.mono LB0.out.size))
  have XA := Lib.hid (XA.out.below hb XA.out.lt)
  have XB := Lib.hid (XB.out.below hb XB.out.lt)
  have XC := Lib.hid (XC.out.below hb XC.out.lt)
  have XR := Lib.hid (XR.out.below hb XR.out.lt)
  clear hb LB0 
  obtain ⟨q0, q1, q2, q3, q4, q5, q6⟩ := XR.out.all
  go_wp2
  refine bodyPost_ret (v := .tuple #[.agg #[.int .i64 0, .int .i64 0, .slice none 0 0], .int .i64 z]) (by simp [results, Try.results44, go_sem, q0, q1, q2, q3, q4, q5]) rfl ?_
  exact ⟨rfl, ((LB1.out.setCell (p := ⟨rb, 0, none⟩) hrw _).setCell (p := ⟨rb, 1, none⟩) hrw _).setCell (p := ⟨rb, 2, none⟩) hrw _⟩
set_option maxHeartbeats 1600000 in
theorem weave_many {W H : Nat} {A B C : Option Addr} {c d e : Nat} (hW0 : 1 ≤ W) (hW : W ≤ 64) (hH0 : 1 ≤ H) (hH : H ≤ 64) (hbig : 32 < W ∨ 32 < H) (w : World) :
    Calls Try.prog 48 #[.agg #[.int .i64 (W : Nat), .int .i64 (H : Nat), .slice A (W * H) c], .agg #[.int .i64 (W : Nat), .int .i64 (H : Nat), .slice B (W * H) d], .agg #[.int .i64 (W : Nat), .int .i64 (H : Nat), .slice C (W * H) e]] w (ErrGrid w 4) := by
  have hM : W * H ≤ 4096 := Nat.mul_le_mul hW hH
  have HK := Lib.hid (fun u => fit_three (W : Nat) (H : Nat) (W : Nat) (H : Nat) (W : Nat) (H : Nat) A B C (W * H) c (W * H) d (W * H) e (by omega) (by omega) (by omega) u)
  rw [fitZ_valid hW0 hW hH0 hH] at HK
  generalize W * H = M at *
  have LB0 := Lib.hid (Below.refl w.heap.size w)
  have XA := Lib.hid (Box.new w (W : Nat) (H : Nat) (.slice A M c))
  have LB0 := Lib.hid (LB0.out.alloc LB0.out.size (.cells #[.int .i64 (W : Nat), .int .i64 (H : Nat), .slice A M c] 24))
  have XA := Lib.hid (XA.out.alloc (.cells #[.int .i64 (W : Nat), .int .i64 (H : Nat), .slice B M d] 24))
  have XB := Box.new (w.alloc (.cells #[.int .i64 (W : Nat), .int .i64 (H : Nat), .slice A M c] 24)) (W : Nat) (H : Nat) (.slice B M d)
  rw [show ((w.alloc (.cells #[.int .i64 (W : Nat), .int .i64 (H : Nat), .slice A M c] 24))).heap.size = w.heap.size + 1 by simp] at XB
  have XB := Lib.hid XB
  have LB0 := Lib.hid (LB0.out.alloc LB0.out.size (.cells #[.int .i64 (W : Nat), .int .i64 (H : Nat), .slice B M d] 24))
  have XA := Lib.hid (XA.out.alloc (.cells #[.int .i64 (W : Nat), .int .i64 (H : Nat), .slice C M e] 24))
  have XB := Lib.hid (XB.out.alloc (.cells #[.int .i64 (W : Nat), .int .i64 (H : Nat), .slice C M e] 24))
  have XC := Box.new ((w.alloc (.cells #[.int .i64 (W : Nat), .int .i64 (H : Nat), .slice A M c] 24)).alloc (.cells #[.int .i64 (W : Nat), .int .i64 (H : Nat), .slice B M d] 24)) (W : Nat) (H : Nat) (.slice C M e)
  rw [show (((w.alloc (.cells #[.int .i64 (W : Nat), .int .i64 (H : Nat), .slice A M c] 24)).alloc (.cells #[.int .i64 (W : Nat), .int .i64 (H : Nat), .slice B M d] 24))).heap.size = w.heap.size + 2 by simp] at XC
  have XC := Lib.hid XC
  have LB0 := Lib.hid (LB0.out.alloc LB0.out.size (.cells #[.int .i64 (W : Nat), .int .i64 (H : Nat), .slice C M e] 24))
  have XA := Lib.hid (XA.out.alloc (.cells #[.int .i64 0, .int .i64 0, .slice none 0 0] 24))
  have XB := Lib.hid (XB.out.alloc (.cells #[.int .i64 0, .int .i64 0, .slice none 0 0] 24))
  have XC := Lib.hid (XC.out.alloc (.cells #[.int .i64 0, .int .i64 0, .slice none 0 0] 24))
  have XR := Box.new (((w.alloc (.cells #[.int .i64 (W : Nat), .int .i64 (H : Nat), .slice A M c] 24)).alloc (.cells #[.int .i64 (W : Nat), .int .i64 (H : Nat), .slice B M d] 24)).alloc (.cells #[.int .i64 (W : Nat), .int .i64 (H : Nat), .slice C M e] 24)) 0 0 (.slice none 0 0)
  rw [show ((((w.alloc (.cells #[.int .i64 (W : Nat), .int .i64 (H : Nat), .slice A M c] 24)).alloc (.cells #[.int .i64 (W : Nat), .int .i64 (H : Nat), .slice B M d] 24)).alloc (.cells #[.int .i64 (W : Nat), .int .i64 (H : Nat), .slice C M e] 24))).heap.size = w.heap.size + 3 by simp] at XR
  have XR := Lib.hid XR
  have LB0 := Lib.hid (LB0.out.alloc LB0.out.size (.cells #[.int .i64 0, .int .i64 0, .slice none 0 0] 24))
  go_enter Try.func48, Try.ntmps48
  go_upto_region 1 with (fail)
  generalize (((w.alloc (.cells #[.int .i64 (W : Nat), .int .i64 (H : Nat), .slice A M c] 24)).alloc (.cells #[.int .i64 (W : Nat), .int .i64 (H : Nat), .slice B M d] 24)).alloc (.cells #[.int .i64 (W : Nat), .int .i64 (H : Nat), .slice C M e] 24)).alloc (.cells #[.int .i64 0, .int .i64 0, .slice none 0 0] 24) = w0 at *
  obtain ⟨rb, hrb⟩ : ∃ rb, w.heap.size + 3 = rb := ⟨_, rfl⟩
  have hrw : w.heap.size ≤ rb := by omega
  rw [hrb] at XR ⊢
  clear hrb
  obtain ⟨q0, q1, q2, q3, q4, q5, q6⟩ := XA.out.all
  obtain ⟨q7, q8, q9, q10, q11, q12, q13⟩ := XB.out.all
  obtain ⟨q14, q15, q16, q17, q18, q19, q20⟩ := XC.out.all
  go_wp2_with fail
  clear q0 q1 q2 q3 q4 q5 q6 q7 q8 q9 q10 q11 q12 q13 q14 q15 q16 q17 q18 q19 q20
  with_reducible refine Calls.mono (HK.out _) ?_
  rintro e w1 ⟨rfl, hb⟩
  have LB1 := Lib.hid (LB0.out.trans (hb.mono LB0.out.size))
  have XA := Lib.hid (XA.out.below hb XA.out.lt)
  have XB := Lib.hid (XB.out.below hb XB.out.lt)
  have XC := Lib.hid (XC.out.below hb XC.out.lt)
  have XR := Lib.hid (XR.out.below hb XR.out.lt)
  clear hb LB0 
  by_cases hw : 32 < W
  · have y1 : (32 : Int) < (W : Int) := by omega
    have y2 : decide ((W : Int) > 32) = true := by simp; omega
    skip
    obtain ⟨q0, q1, q2, q3, q4, q5, q6⟩ := XA.out.all
    obtain ⟨r0, r1, r2, r3, r4, r5, r6⟩ := XR.out.all
    go_wp2
    refine bodyPost_ret (v := .tuple #[.agg #[.int .i64 0, .int .i64 0, .slice none 0 0], .int .i64 4]) (by simp [results, Try.results48, go_sem, r0, r1, r2, r3, r4, r5]) rfl ?_
    exact ⟨rfl, ((LB1.out.setCell (p := ⟨rb, 0, none⟩) hrw _).setCell (p := ⟨rb, 1, none⟩) hrw _).setCell (p := ⟨rb, 2, none⟩) hrw _⟩
  · have y1 : ¬ (32 : Int) < (W : Int) := by omega
    have y2 : decide ((W : Int) > 32) = false := by simp; omega
    have y3 : (32 : Int) < (H : Int) := by omega
    have y4 : decide ((H : Int) > 32) = true := by simp; omega
    skip
    obtain ⟨q0, q1, q2, q3, q4, q5, q6⟩ := XA.out.all
    obtain ⟨r0, r1, r2, r3, r4, r5, r6⟩ := XR.out.all
    go_wp2
    refine bodyPost_ret (v := .tuple #[.agg #[.int .i64 0, .int .i64 0, .slice none 0 0], .int .i64 4]) (by simp [results, Try.results48, go_sem, r0, r1, r2, r3, r4, r5]) rfl ?_
    exact ⟨rfl, ((LB1.out.setCell (p := ⟨rb, 0, none⟩) hrw _).setCell (p := ⟨rb, 1, none⟩) hrw _).setCell (p := ⟨rb, 2, none⟩) hrw _⟩
set_option maxHeartbeats 3200000 in
theorem weave_ok {W H : Nat} {A B C : Option Addr} {c d e : Nat} {a b m : Nat → Bool} (hW0 : 1 ≤ W) (hW : W ≤ 32) (hH0 : 1 ≤ H) (hH : H ≤ 32) (w : World) (ha : Holds w w.heap.size A (W * H) a) (hbb : Holds w w.heap.size B (W * H) b) (hm : Holds w w.heap.size C (W * H) m) :
    Calls Try.prog 48 #[.agg #[.int .i64 (W : Nat), .int .i64 (H : Nat), .slice A (W * H) c], .agg #[.int .i64 (W : Nat), .int .i64 (H : Nat), .slice B (W * H) d], .agg #[.int .i64 (W : Nat), .int .i64 (H : Nat), .slice C (W * H) e]] w (OkRef w (2 * W) (2 * H) (dbl W a b m)) := by
  have hM : W * H ≤ 4096 := Nat.mul_le_mul (show W ≤ 64 by omega) (show H ≤ 64 by omega)
  have HK := Lib.hid (fun u => fit_three (W : Nat) (H : Nat) (W : Nat) (H : Nat) (W : Nat) (H : Nat) A B C (W * H) c (W * H) d (W * H) e (by omega) (by omega) (by omega) u)
  rw [fitZ_valid hW0 (by omega) hH0 (by omega)] at HK
  have HA := Lib.hid ha
  have HB := Lib.hid hbb
  have HM := Lib.hid hm
  have HGR := Lib.hid (fun (u : World) (X : Box u w.heap.size (W : Nat) (H : Nat) (.slice A (W * H) c)) (Y : Box u (w.heap.size + 1) (W : Nat) (H : Nat) (.slice B (W * H) d)) (Z : Box u (w.heap.size + 2) (W : Nat) (H : Nat) (.slice C (W * H) e)) (LB : Below w.heap.size w u) =>
    weave_clo (w := u) (ga := w.heap.size) (gm := w.heap.size + 2) (gb := w.heap.size + 1) ⟨X, (ha.below LB).more LB.size, hW0, by omega, hH0, by omega⟩ ⟨Z, (hm.below LB).more LB.size, hW0, by omega, hH0, by omega⟩ ⟨Y, (hbb.below LB).more LB.size, hW0, by omega, hH0, by omega⟩ hW hH)
  have hmf := mk_fn
  have w1e : IntKind.i64.wrap (2 * (W : Int)) = ((2 * W : Nat) : Int) := by rw [IntWalk.i64_in _ (by omega)]; omega
  have w2e : IntKind.i64.wrap (2 * (H : Int)) = ((2 * H : Nat) : Int) := by rw [IntWalk.i64_in _ (by omega)]; omega
  have HDB := Lib.hid (fun (u : World) (hG : Gives 96 #[.pointer (some ⟨w.heap.size, 0, none⟩), .pointer (some ⟨w.heap.size + 2, 0, none⟩), .pointer (some ⟨w.heap.size + 1, 0, none⟩)] u (2 * W) (2 * H) (dxy W a b m)) => dbuild_any (2 * W) (2 * H) (by omega) (by omega) (by omega) (by omega) 96 _ _ u hG (Go.Proofs.enters_of Try.func96 (by kernel_rfl) rfl))
  have y1 : ¬ (32 : Int) < (W : Int) := by omega
  have y2 : decide ((W : Int) > 32) = false := by simp; omega
  have y3 : ¬ (32 : Int) < (H : Int) := by omega
  have y4 : decide ((H : Int) > 32) = false := by simp; omega
  have HFN := Lib.hid (show (fun i => dxy W a b m (i % (2 * W)) (i / (2 * W))) = dbl W a b m from rfl)
  rw [HFN.out] at HDB
  obtain ⟨W2, hW2⟩ : ∃ z, 2 * W = z := ⟨_, rfl⟩
  obtain ⟨H2, hH2⟩ : ∃ z, 2 * H = z := ⟨_, rfl⟩
  rw [hW2] at w1e HDB HGR ⊢
  rw [hH2] at w2e HDB HGR ⊢
  clear ha hbb hm hW2 hH2 HFN
  obtain ⟨M, hMe⟩ : ∃ M, W * H = M := ⟨_, rfl⟩
  have HME := Lib.hid hMe
  rw [hMe] at hM HK HA HB HM HGR ⊢
  clear hMe
  have LB0 := Lib.hid (Below.refl w.heap.size w)
  have XA := Lib.hid (Box.new w (W : Nat) (H : Nat) (.slice A M c))
  have LB0 := Lib.hid (LB0.out.alloc LB0.out.size (.cells #[.int .i64 (W : Nat), .int .i64 (H : Nat), .slice A M c] 24))
  have XA := Lib.hid (XA.out.alloc (.cells #[.int .i64 (W : Nat), .int .i64 (H : Nat), .slice B M d] 24))
  have XB := Box.new (w.alloc (.cells #[.int .i64 (W : Nat), .int .i64 (H : Nat), .slice A M c] 24)) (W : Nat) (H : Nat) (.slice B M d)
  rw [show ((w.alloc (.cells #[.int .i64 (W : Nat), .int .i64 (H : Nat), .slice A M c] 24))).heap.size = w.heap.size + 1 by simp] at XB
  have XB := Lib.hid XB
  have LB0 := Lib.hid (LB0.out.alloc LB0.out.size (.cells #[.int .i64 (W : Nat), .int .i64 (H : Nat), .slice B M d] 24))
  have XA := Lib.hid (XA.out.alloc (.cells #[.int .i64 (W : Nat), .int .i64 (H : Nat), .slice C M e] 24))
  have XB := Lib.hid (XB.out.alloc (.cells #[.int .i64 (W : Nat), .int .i64 (H : Nat), .slice C M e] 24))
  have XC := Box.new ((w.alloc (.cells #[.int .i64 (W : Nat), .int .i64 (H : Nat), .slice A M c] 24)).alloc (.cells #[.int .i64 (W : Nat), .int .i64 (H : Nat), .slice B M d] 24)) (W : Nat) (H : Nat) (.slice C M e)
  rw [show (((w.alloc (.cells #[.int .i64 (W : Nat), .int .i64 (H : Nat), .slice A M c] 24)).alloc (.cells #[.int .i64 (W : Nat), .int .i64 (H : Nat), .slice B M d] 24))).heap.size = w.heap.size + 2 by simp] at XC
  have XC := Lib.hid XC
  have LB0 := Lib.hid (LB0.out.alloc LB0.out.size (.cells #[.int .i64 (W : Nat), .int .i64 (H : Nat), .slice C M e] 24))
  have XA := Lib.hid (XA.out.alloc (.cells #[.int .i64 0, .int .i64 0, .slice none 0 0] 24))
  have XB := Lib.hid (XB.out.alloc (.cells #[.int .i64 0, .int .i64 0, .slice none 0 0] 24))
  have XC := Lib.hid (XC.out.alloc (.cells #[.int .i64 0, .int .i64 0, .slice none 0 0] 24))
  have XR := Box.new (((w.alloc (.cells #[.int .i64 (W : Nat), .int .i64 (H : Nat), .slice A M c] 24)).alloc (.cells #[.int .i64 (W : Nat), .int .i64 (H : Nat), .slice B M d] 24)).alloc (.cells #[.int .i64 (W : Nat), .int .i64 (H : Nat), .slice C M e] 24)) 0 0 (.slice none 0 0)
  rw [show ((((w.alloc (.cells #[.int .i64 (W : Nat), .int .i64 (H : Nat), .slice A M c] 24)).alloc (.cells #[.int .i64 (W : Nat), .int .i64 (H : Nat), .slice B M d] 24)).alloc (.cells #[.int .i64 (W : Nat), .int .i64 (H : Nat), .slice C M e] 24))).heap.size = w.heap.size + 3 by simp] at XR
  have XR := Lib.hid XR
  have LB0 := Lib.hid (LB0.out.alloc LB0.out.size (.cells #[.int .i64 0, .int .i64 0, .slice none 0 0] 24))
  go_enter Try.func48, Try.ntmps48
  go_upto_region 1 with (fail)
  generalize (((w.alloc (.cells #[.int .i64 (W : Nat), .int .i64 (H : Nat), .slice A M c] 24)).alloc (.cells #[.int .i64 (W : Nat), .int .i64 (H : Nat), .slice B M d] 24)).alloc (.cells #[.int .i64 (W : Nat), .int .i64 (H : Nat), .slice C M e] 24)).alloc (.cells #[.int .i64 0, .int .i64 0, .slice none 0 0] 24) = w0 at *
  obtain ⟨rb, hrb⟩ : ∃ rb, w.heap.size + 3 = rb := ⟨_, rfl⟩
  have hrw : w.heap.size ≤ rb := by omega
  rw [hrb] at XR ⊢
  clear hrb
  obtain ⟨q0, q1, q2, q3, q4, q5, q6⟩ := XA.out.all
  obtain ⟨q7, q8, q9, q10, q11, q12, q13⟩ := XB.out.all
  obtain ⟨q14, q15, q16, q17, q18, q19, q20⟩ := XC.out.all
  go_wp2_with fail
  clear q0 q1 q2 q3 q4 q5 q6 q7 q8 q9 q10 q11 q12 q13 q14 q15 q16 q17 q18 q19 q20
  with_reducible refine Calls.mono (HK.out _) ?_
  rintro e w1 ⟨rfl, hb⟩
  have LB1 := Lib.hid (LB0.out.trans (hb.mono LB0.out.size))
  have XA := Lib.hid (XA.out.below hb XA.out.lt)
  have XB := Lib.hid (XB.out.below hb XB.out.lt)
  have XC := Lib.hid (XC.out.below hb XC.out.lt)
  have XR := Lib.hid (XR.out.below hb XR.out.lt)
  clear hb LB0 
  obtain ⟨q0, q1, q2, q3, q4, q5, q6⟩ := XA.out.all
  have hrl := XR.out.lt
  go_wp2_with fail
  clear q0 q1 q2 q3 q4 q5 q6
  with_reducible refine Calls.mono (HDB.out _ (HGR.out _ XA.out XB.out XC.out LB1.out)) ?_
  rintro e w2 ⟨k, d2, rfl, hk, hkc, hrow, hb⟩
  have XR := Lib.hid (XR.out.below hb XR.out.lt)
  have LB2 := Lib.hid (LB1.out.trans (hb.mono LB1.out.size))
  obtain ⟨q0, q1, q2, q3, q4, q5, q6⟩ := XR.out.all
  have HR := Lib.hid hrow
  clear hrow hb
  obtain ⟨N2, hN2⟩ : ∃ z, W2 * H2 = z := ⟨_, rfl⟩
  have HN2 := Lib.hid hN2
  rw [hN2] at HR ⊢
  clear hN2
  go_wp2
  refine bodyPost_ret (v := .tuple #[.agg #[.int .i64 (W2 : Nat), .int .i64 (H2 : Nat), .slice (some ⟨k, 0, none⟩) N2 d2], .int .i64 0]) (by simp [results, Try.results48, go_sem, q0, q1, q2, q3, q4, q5]) rfl ?_
  rw [← HN2.out] at HR ⊢
  exact fin_ref hrw (by omega) HR.out LB2.out
set_option maxHeartbeats 3200000 in
theorem face_ok {W H : Nat} {A B C : Option Addr} {c d e : Nat} {a b m : Nat → Bool} (hW0 : 1 ≤ W) (hW : W ≤ 64) (hH0 : 1 ≤ H) (hH : H ≤ 64) (w : World) (ha : Holds w w.heap.size A (W * H) a) (hbb : Holds w w.heap.size B (W * H) b) (hm : Holds w w.heap.size C (W * H) m) :
    Calls Try.prog 44 #[.agg #[.int .i64 (W : Nat), .int .i64 (H : Nat), .slice A (W * H) c], .agg #[.int .i64 (W : Nat), .int .i64 (H : Nat), .slice B (W * H) d], .agg #[.int .i64 (W : Nat), .int .i64 (H : Nat), .slice C (W * H) e]] w (OkRef w W H (fun i => if m i then a i else b i)) := by
  have hM : W * H ≤ 4096 := Nat.mul_le_mul (show W ≤ 64 by omega) (show H ≤ 64 by omega)
  have HK := Lib.hid (fun u => fit_three (W : Nat) (H : Nat) (W : Nat) (H : Nat) (W : Nat) (H : Nat) A B C (W * H) c (W * H) d (W * H) e (by omega) (by omega) (by omega) u)
  rw [fitZ_valid hW0 (by omega) hH0 (by omega)] at HK
  have HA := Lib.hid ha
  have HB := Lib.hid hbb
  have HM := Lib.hid hm
  have HGR := Lib.hid (fun (u : World) (X : Box u w.heap.size (W : Nat) (H : Nat) (.slice A (W * H) c)) (Y : Box u (w.heap.size + 1) (W : Nat) (H : Nat) (.slice B (W * H) d)) (Z : Box u (w.heap.size + 2) (W : Nat) (H : Nat) (.slice C (W * H) e)) (LB : Below w.heap.size w u) =>
    face_clo (w := u) (ga := w.heap.size) (gm := w.heap.size + 2) (gb := w.heap.size + 1) ⟨X, (ha.below LB).more LB.size, hW0, by omega, hH0, by omega⟩ ⟨Z, (hm.below LB).more LB.size, hW0, by omega, hH0, by omega⟩ ⟨Y, (hbb.below LB).more LB.size, hW0, by omega, hH0, by omega⟩)
  have hmf := mk_fn
  have HDB := Lib.hid (fun (u : World) (hG : Gives 92 #[.pointer (some ⟨w.heap.size, 0, none⟩), .pointer (some ⟨w.heap.size + 2, 0, none⟩), .pointer (some ⟨w.heap.size + 1, 0, none⟩)] u W H (fun x y => if m (y * W + x) then a (y * W + x) else b (y * W + x))) => dbuild_any W H (by omega) (by omega) (by omega) (by omega) 92 _ _ u hG (Go.Proofs.enters_of Try.func92 (by kernel_rfl) rfl))
  clear ha hbb hm
  obtain ⟨M, hMe⟩ : ∃ M, W * H = M := ⟨_, rfl⟩
  have HME := Lib.hid hMe
  rw [hMe] at hM HK HA HB HM HGR ⊢
  clear hMe
  have LB0 := Lib.hid (Below.refl w.heap.size w)
  have XA := Lib.hid (Box.new w (W : Nat) (H : Nat) (.slice A M c))
  have LB0 := Lib.hid (LB0.out.alloc LB0.out.size (.cells #[.int .i64 (W : Nat), .int .i64 (H : Nat), .slice A M c] 24))
  have XA := Lib.hid (XA.out.alloc (.cells #[.int .i64 (W : Nat), .int .i64 (H : Nat), .slice B M d] 24))
  have XB := Box.new (w.alloc (.cells #[.int .i64 (W : Nat), .int .i64 (H : Nat), .slice A M c] 24)) (W : Nat) (H : Nat) (.slice B M d)
  rw [show ((w.alloc (.cells #[.int .i64 (W : Nat), .int .i64 (H : Nat), .slice A M c] 24))).heap.size = w.heap.size + 1 by simp] at XB
  have XB := Lib.hid XB
  have LB0 := Lib.hid (LB0.out.alloc LB0.out.size (.cells #[.int .i64 (W : Nat), .int .i64 (H : Nat), .slice B M d] 24))
  have XA := Lib.hid (XA.out.alloc (.cells #[.int .i64 (W : Nat), .int .i64 (H : Nat), .slice C M e] 24))
  have XB := Lib.hid (XB.out.alloc (.cells #[.int .i64 (W : Nat), .int .i64 (H : Nat), .slice C M e] 24))
  have XC := Box.new ((w.alloc (.cells #[.int .i64 (W : Nat), .int .i64 (H : Nat), .slice A M c] 24)).alloc (.cells #[.int .i64 (W : Nat), .int .i64 (H : Nat), .slice B M d] 24)) (W : Nat) (H : Nat) (.slice C M e)
  rw [show (((w.alloc (.cells #[.int .i64 (W : Nat), .int .i64 (H : Nat), .slice A M c] 24)).alloc (.cells #[.int .i64 (W : Nat), .int .i64 (H : Nat), .slice B M d] 24))).heap.size = w.heap.size + 2 by simp] at XC
  have XC := Lib.hid XC
  have LB0 := Lib.hid (LB0.out.alloc LB0.out.size (.cells #[.int .i64 (W : Nat), .int .i64 (H : Nat), .slice C M e] 24))
  have XA := Lib.hid (XA.out.alloc (.cells #[.int .i64 0, .int .i64 0, .slice none 0 0] 24))
  have XB := Lib.hid (XB.out.alloc (.cells #[.int .i64 0, .int .i64 0, .slice none 0 0] 24))
  have XC := Lib.hid (XC.out.alloc (.cells #[.int .i64 0, .int .i64 0, .slice none 0 0] 24))
  have XR := Box.new (((w.alloc (.cells #[.int .i64 (W : Nat), .int .i64 (H : Nat), .slice A M c] 24)).alloc (.cells #[.int .i64 (W : Nat), .int .i64 (H : Nat), .slice B M d] 24)).alloc (.cells #[.int .i64 (W : Nat), .int .i64 (H : Nat), .slice C M e] 24)) 0 0 (.slice none 0 0)
  rw [show ((((w.alloc (.cells #[.int .i64 (W : Nat), .int .i64 (H : Nat), .slice A M c] 24)).alloc (.cells #[.int .i64 (W : Nat), .int .i64 (H : Nat), .slice B M d] 24)).alloc (.cells #[.int .i64 (W : Nat), .int .i64 (H : Nat), .slice C M e] 24))).heap.size = w.heap.size + 3 by simp] at XR
  have XR := Lib.hid XR
  have LB0 := Lib.hid (LB0.out.alloc LB0.out.size (.cells #[.int .i64 0, .int .i64 0, .slice none 0 0] 24))
  go_enter Try.func44, Try.ntmps44
  go_upto_region 1 with (fail)
  generalize (((w.alloc (.cells #[.int .i64 (W : Nat), .int .i64 (H : Nat), .slice A M c] 24)).alloc (.cells #[.int .i64 (W : Nat), .int .i64 (H : Nat), .slice B M d] 24)).alloc (.cells #[.int .i64 (W : Nat), .int .i64 (H : Nat), .slice C M e] 24)).alloc (.cells #[.int .i64 0, .int .i64 0, .slice none 0 0] 24) = w0 at *
  obtain ⟨rb, hrb⟩ : ∃ rb, w.heap.size + 3 = rb := ⟨_, rfl⟩
  have hrw : w.heap.size ≤ rb := by omega
  rw [hrb] at XR ⊢
  clear hrb
  obtain ⟨q0, q1, q2, q3, q4, q5, q6⟩ := XA.out.all
  obtain ⟨q7, q8, q9, q10, q11, q12, q13⟩ := XB.out.all
  obtain ⟨q14, q15, q16, q17, q18, q19, q20⟩ := XC.out.all
  go_wp2_with fail
  clear q0 q1 q2 q3 q4 q5 q6 q7 q8 q9 q10 q11 q12 q13 q14 q15 q16 q17 q18 q19 q20
  with_reducible refine Calls.mono (HK.out _) ?_
  rintro e w1 ⟨rfl, hb⟩
  have LB1 := Lib.hid (LB0.out.trans (hb.mono LB0.out.size))
  have XA := Lib.hid (XA.out.below hb XA.out.lt)
  have XB := Lib.hid (XB.out.below hb XB.out.lt)
  have XC := Lib.hid (XC.out.below hb XC.out.lt)
  have XR := Lib.hid (XR.out.below hb XR.out.lt)
  clear hb LB0 
  obtain ⟨q0, q1, q2, q3, q4, q5, q6⟩ := XA.out.all
  have hrl := XR.out.lt
  go_wp2_with fail
  clear q0 q1 q2 q3 q4 q5 q6
  with_reducible refine Calls.mono (HDB.out _ (HGR.out _ XA.out XB.out XC.out LB1.out)) ?_
  rintro e w2 ⟨k, d2, rfl, hk, hkc, hrow, hb⟩
  have XR := Lib.hid (XR.out.below hb XR.out.lt)
  have LB2 := Lib.hid (LB1.out.trans (hb.mono LB1.out.size))
  obtain ⟨q0, q1, q2, q3, q4, q5, q6⟩ := XR.out.all
  have HR := Lib.hid hrow
  clear hrow hb
  rw [HME.out] at HR ⊢
  go_wp2
  refine bodyPost_ret (v := .tuple #[.agg #[.int .i64 (W : Nat), .int .i64 (H : Nat), .slice (some ⟨k, 0, none⟩) M d2], .int .i64 0]) (by simp [results, Try.results44, go_sem, q0, q1, q2, q3, q4, q5]) rfl ?_
  rw [← HME.out] at HR ⊢
  exact fin_ref hrw (by omega) (HR.out.congr fun i hi => by rw [show i / W * W + i % W = i from nat_div_mod W i]) LB2.out
end Go.Proofs.Ytgmcbdnfgdmmaaa

/- Back and Tube of the program. -/
namespace Go.Proofs.Ytgmcbdnfgdmmaaa
open Go.RowKit
set_option maxRecDepth 100000
set_option linter.unusedVariables false
set_option linter.unusedSimpArgs false

/-- The cells of the back. -/
def bkf (W : Nat) (f : Nat → Bool) (i : Nat) : Bool := !f (i / W * W + (W - 1 - i % W))
set_option maxHeartbeats 1600000 in
theorem back_err {W H : Int} {A : Option Addr} {n c : Nat} {z : Int} (hn : n ≤ 4200) (hz : chk W H n = z) (hne : (z != 0) = true) (w : World) : Calls Try.prog 45 #[.agg #[.int .i64 W, .int .i64 H, .slice A n c]] w (ErrGrid w z) := by
  have HK := Lib.hid (fun u => mirror_err W H A n c 0 u z hn hz hne)
  clear hz
  have LB0 := Lib.hid (Below.refl w.heap.size w)
  have XA := Lib.hid (Box.new w W H (.slice A n c))
  have LB0 := Lib.hid (LB0.out.alloc LB0.out.size (.cells #[.int .i64 W, .int .i64 H, .slice A n c] 24))
  have XA := Lib.hid (XA.out.alloc (.cells #[.int .i64 0, .int .i64 0, .slice none 0 0] 24))
  have XR := Box.new (w.alloc (.cells #[.int .i64 W, .int .i64 H, .slice A n c] 24)) 0 0 (.slice none 0 0)
  rw [show ((w.alloc (.cells #[.int .i64 W, .int .i64 H, .slice A n c] 24))).heap.size = w.heap.size + 1 by simp] at XR
  have XR := Lib.hid XR
  have LB0 := Lib.hid (LB0.out.alloc LB0.out.size (.cells #[.int .i64 0, .int .i64 0, .slice none 0 0] 24))
  go_enter Try.func45, Try.ntmps45
  go_upto_region 1 with (fail)
  generalize (w.alloc (.cells #[.int .i64 W, .int .i64 H, .slice A n c] 24)).alloc (.cells #[.int .i64 0, .int .i64 0, .slice none 0 0] 24) = w0 at *
  obtain ⟨rb, hrb⟩ : ∃ rb, w.heap.size + 1 = rb := ⟨_, rfl⟩
  have hrw : w.heap.size ≤ rb := by omega
  rw [hrb] at XR ⊢
  clear hrb
  obtain ⟨q0, q1, q2, q3, q4, q5, q6⟩ := XA.out.all
  go_wp2_with fail
  clear q0 q1 q2 q3 q4 q5 q6
  with_reducible refine Calls.mono (HK.out _) ?_
  rintro e w1 ⟨rfl, hb⟩
  have LB1 := Lib.hid (LB0.out.trans (hb.mono LB0.out.size))
  have XA := Lib.hid (XA.out.below hb XA.out.lt)
  have XR := Lib.hid (XR.out.below hb XR.out.lt)
  clear hb LB0 
  have hb := bel_alloc w1 (.cells #[.int .i64 0, .int .i64 0, .slice none 0 0] 24)
  have LB2 := Lib.hid (LB1.out.trans (hb.mono LB1.out.size))
  have XA := Lib.hid (XA.out.below hb XA.out.lt)
  have XR := Lib.hid (XR.out.below hb XR.out.lt)
  clear hb LB1
  go_upto_region 2 with (fail)
  generalize w1.alloc (.cells #[.int .i64 0, .int .i64 0, .slice none 0 0] 24) = w2 at *
  obtain ⟨q0, q1, q2, q3, q4, q5, q6⟩ := XR.out.all
  go_wp2
  refine bodyPost_ret (v := .tuple #[.agg #[.int .i64 0, .int .i64 0, .slice none 0 0], .int .i64 z]) (by simp [results, Try.results45, go_sem, q0, q1, q2, q3, q4, q5]) rfl ?_
  exact ⟨rfl, ((LB2.out.setCell (p := ⟨rb, 0, none⟩) hrw _).setCell (p := ⟨rb, 1, none⟩) hrw _).setCell (p := ⟨rb, 2, none⟩) hrw _⟩
set_option maxHeartbeats 1600000 in
theorem back_ok {W H : Nat} {A : Option Addr} {c : Nat} {f : Nat → Bool} (hW0 : 1 ≤ W) (hW : W ≤ 64) (hH0 : 1 ≤ H) (hH : H ≤ 64) (w : World) (hf : Holds w w.heap.size A (W * H) f) : Calls Try.prog 45 #[.agg #[.int .i64 (W : Nat), .int .i64 (H : Nat), .slice A (W * H) c]] w (OkGrid w W H (bkf W f)) := by
  have HK := Lib.hid (fun (u : World) (LB : Below w.heap.size w u) => mirror_ok0 W H A c f u ((hf.below LB).more LB.size) hW0 hW hH0 hH)
  have HN := Lib.hid (fun (u : World) (k d : Nat) (h : Row u k (W * H) (fun i => f (i / W * W + (W - 1 - i % W)))) => not_ok W H (some ⟨k, 0, none⟩) d _ u (h.holds h.lt) hW0 hW hH0 hH)
  have HBF := Lib.hid (show (fun i => !f (i / W * W + (W - 1 - i % W))) = bkf W f from rfl)
  simp only [HBF.out] at HN
  clear hf HBF
  obtain ⟨M, hMe⟩ : ∃ M, W * H = M := ⟨_, rfl⟩
  have HME := Lib.hid hMe
  rw [hMe] at HK HN ⊢
  clear hMe
  have LB0 := Lib.hid (Below.refl w.heap.size w)
  have XA := Lib.hid (Box.new w (W : Nat) (H : Nat) (.slice A M c))
  have LB0 := Lib.hid (LB0.out.alloc LB0.out.size (.cells #[.int .i64 (W : Nat), .int .i64 (H : Nat), .slice A M c] 24))
  have XA := Lib.hid (XA.out.alloc (.cells #[.int .i64 0, .int .i64 0, .slice none 0 0] 24))
  have XR := Box.new (w.alloc (.cells #[.int .i64 (W : Nat), .int .i64 (H : Nat), .slice A M c] 24)) 0 0 (.slice none 0 0)
  rw [show ((w.alloc (.cells #[.int .i64 (W : Nat), .int .i64 (H : Nat), .slice A M c] 24))).heap.size = w.heap.size + 1 by simp] at XR
  have XR := Lib.hid XR
  have LB0 := Lib.hid (LB0.out.alloc LB0.out.size (.cells #[.int .i64 0, .int .i64 0, .slice none 0 0] 24))
  go_enter Try.func45, Try.ntmps45
  go_upto_region 1 with (fail)
  generalize (w.alloc (.cells #[.int .i64 (W : Nat), .int .i64 (H : Nat), .slice A M c] 24)).alloc (.cells #[.int .i64 0, .int .i64 0, .slice none 0 0] 24) = w0 at *
  obtain ⟨rb, hrb⟩ : ∃ rb, w.heap.size + 1 = rb := ⟨_, rfl⟩
  have hrw : w.heap.size ≤ rb := by omega
  rw [hrb] at XR ⊢
  clear hrb
  obtain ⟨q0, q1, q2, q3, q4, q5, q6⟩ := XA.out.all
  go_wp2_with fail
  clear q0 q1 q2 q3 q4 q5 q6
  with_reducible refine Calls.mono (HK.out _ LB0.out) ?_
  rintro e w1 ⟨k, rfl, hk, hrow, hb⟩
  have LB1 := Lib.hid (LB0.out.trans (hb.mono LB0.out.size))
  have XA := Lib.hid (XA.out.below hb XA.out.lt)
  have XR := Lib.hid (XR.out.below hb XR.out.lt)
  have HR := Lib.hid hrow
  clear hb LB0 hrow
  rw [HME.out] at HR ⊢
  have XM := Box.new w1 (W : Nat) (H : Nat) (.slice (some ⟨k, 0, none⟩) M M)
  obtain ⟨mb, hmb⟩ : ∃ mb, w1.heap.size = mb := ⟨_, rfl⟩
  rw [hmb] at XM
  have XM := Lib.hid XM
  have hb := bel_alloc w1 (.cells #[.int .i64 (W : Nat), .int .i64 (H : Nat), .slice (some ⟨k, 0, none⟩) M M] 24)
  have LB2 := Lib.hid (LB1.out.trans (hb.mono LB1.out.size))
  have XA := Lib.hid (XA.out.below hb XA.out.lt)
  have XR := Lib.hid (XR.out.below hb XR.out.lt)
  have HR := Lib.hid (HR.out.below hb HR.out.lt)
  clear hb LB1
  go_upto_region 2 with (fail)
  generalize w1.alloc (.cells #[.int .i64 (W : Nat), .int .i64 (H : Nat), .slice (some ⟨k, 0, none⟩) M M] 24) = w2 at *
  clear hmb
  have hrl := XR.out.lt
  obtain ⟨q0, q1, q2, q3, q4, q5, q6⟩ := XM.out.all
  go_wp2_with fail
  clear q0 q1 q2 q3 q4 q5 q6
  with_reducible refine Calls.mono (HN.out _ k M HR.out) ?_
  rintro e w3 ⟨k2, rfl, hk2, hrow, hb⟩
  have LB3 := Lib.hid (LB2.out.trans (hb.mono LB2.out.size))
  have XA := Lib.hid (XA.out.below hb XA.out.lt)
  have XR := Lib.hid (XR.out.below hb XR.out.lt)
  have HR := Lib.hid (HR.out.below hb HR.out.lt)
  have XM := Lib.hid (XM.out.below hb XM.out.lt)
  have HR2 := Lib.hid hrow
  clear hb LB2 hrow
  rw [HME.out] at HR2 ⊢
  obtain ⟨q0, q1, q2, q3, q4, q5, q6⟩ := XR.out.all
  go_wp2
  refine bodyPost_ret (v := .tuple #[.agg #[.int .i64 (W : Nat), .int .i64 (H : Nat), .slice (some ⟨k2, 0, none⟩) M M], .int .i64 0]) (by simp [results, Try.results45, go_sem, q0, q1, q2, q3, q4, q5]) rfl ?_
  rw [← HME.out] at HR2 ⊢
  exact fin_ok hrw (by omega) HR2.out LB3.out
set_option maxHeartbeats 1600000 in
theorem tube_err {W H : Int} {A : Option Addr} {n c : Nat} {z : Int} (hn : n ≤ 4200) (hz : chk W H n = z) (hne : (z != 0) = true) (w : World) : Calls Try.prog 46 #[.agg #[.int .i64 W, .int .i64 H, .slice A n c]] w (ErrGrid w z) := by
  have HK := Lib.hid (fun u => back_err (A := A) (c := c) hn hz hne u)
  clear hz
  have LB0 := Lib.hid (Below.refl w.heap.size w)
  have XA := Lib.hid (Box.new w W H (.slice A n c))
  have LB0 := Lib.hid (LB0.out.alloc LB0.out.size (.cells #[.int .i64 W, .int .i64 H, .slice A n c] 24))
  have XA := Lib.hid (XA.out.alloc (.cells #[.int .i64 0, .int .i64 0, .slice none 0 0] 24))
  have XR := Box.new (w.alloc (.cells #[.int .i64 W, .int .i64 H, .slice A n c] 24)) 0 0 (.slice none 0 0)
  rw [show ((w.alloc (.cells #[.int .i64 W, .int .i64 H, .slice A n c] 24))).heap.size = w.heap.size + 1 by simp] at XR
  have XR := Lib.hid XR
  have LB0 := Lib.hid (LB0.out.alloc LB0.out.size (.cells #[.int .i64 0, .int .i64 0, .slice none 0 0] 24))
  go_enter Try.func46, Try.ntmps46
  go_upto_region 1 with (fail)
  generalize (w.alloc (.cells #[.int .i64 W, .int .i64 H, .slice A n c] 24)).alloc (.cells #[.int .i64 0, .int .i64 0, .slice none 0 0] 24) = w0 at *
  obtain ⟨rb, hrb⟩ : ∃ rb, w.heap.size + 1 = rb := ⟨_, rfl⟩
  have hrw : w.heap.size ≤ rb := by omega
  rw [hrb] at XR ⊢
  clear hrb
  obtain ⟨q0, q1, q2, q3, q4, q5, q6⟩ := XA.out.all
  go_wp2_with fail
  clear q0 q1 q2 q3 q4 q5 q6
  with_reducible refine Calls.mono (HK.out _) ?_
  rintro e w1 ⟨rfl, hb⟩
  have LB1 := Lib.hid (LB0.out.trans (hb.mono LB0.out.size))
  have XA := Lib.hid (XA.out.below hb XA.out.lt)
  have XR := Lib.hid (XR.out.below hb XR.out.lt)
  clear hb LB0 
  have hb := bel_alloc w1 (.cells #[.int .i64 0, .int .i64 0, .slice none 0 0] 24)
  have LB2 := Lib.hid (LB1.out.trans (hb.mono LB1.out.size))
  have XA := Lib.hid (XA.out.below hb XA.out.lt)
  have XR := Lib.hid (XR.out.below hb XR.out.lt)
  clear hb LB1
  go_upto_region 2 with (fail)
  generalize w1.alloc (.cells #[.int .i64 0, .int .i64 0, .slice none 0 0] 24) = w2 at *
  obtain ⟨q0, q1, q2, q3, q4, q5, q6⟩ := XR.out.all
  go_wp2
  refine bodyPost_ret (v := .tuple #[.agg #[.int .i64 0, .int .i64 0, .slice none 0 0], .int .i64 z]) (by simp [results, Try.results46, go_sem, q0, q1, q2, q3, q4, q5]) rfl ?_
  exact ⟨rfl, ((LB2.out.setCell (p := ⟨rb, 0, none⟩) hrw _).setCell (p := ⟨rb, 1, none⟩) hrw _).setCell (p := ⟨rb, 2, none⟩) hrw _⟩
set_option maxHeartbeats 1600000 in
theorem tube_many {W H : Nat} {A : Option Addr} {c : Nat} {f : Nat → Bool} (hW0 : 1 ≤ W) (hW : W ≤ 64) (hH0 : 1 ≤ H) (hH : H ≤ 64) (hbig : 32 < W ∨ 32 < H) (w : World) (hf : Holds w w.heap.size A (W * H) f) : Calls Try.prog 46 #[.agg #[.int .i64 (W : Nat), .int .i64 (H : Nat), .slice A (W * H) c]] w (ErrGrid w 4) := by
  have HK := Lib.hid (fun (u : World) (LB : Below w.heap.size w u) => back_ok (A := A) (c := c) hW0 (by omega) hH0 (by omega) u ((hf.below LB).more LB.size))
  have HU := Lib.hid (fun (u : World) => dbuild_any W H hW0 (by omega) hH0 (by omega) 94 #[] _ u (up_clo u W H) (Go.Proofs.enters_of Try.func94 (by kernel_rfl) rfl))
  have HV := Lib.hid (fun (u : World) (k d m e : Nat) => weave_many (A := A) (B := some ⟨k, 0, none⟩) (C := some ⟨m, 0, none⟩) (c := c) (d := d) (e := e) hW0 hW hH0 hH hbig u)
  clear hf
  obtain ⟨M, hMe⟩ : ∃ M, W * H = M := ⟨_, rfl⟩
  have HME := Lib.hid hMe
  simp only [hMe] at HK HU HV ⊢
  clear hMe
  have LB0 := Lib.hid (Below.refl w.heap.size w)
  have XA := Lib.hid (Box.new w (W : Nat) (H : Nat) (.slice A M c))
  have LB0 := Lib.hid (LB0.out.alloc LB0.out.size (.cells #[.int .i64 (W : Nat), .int .i64 (H : Nat), .slice A M c] 24))
  have XA := Lib.hid (XA.out.alloc (.cells #[.int .i64 0, .int .i64 0, .slice none 0 0] 24))
  have XR := Box.new (w.alloc (.cells #[.int .i64 (W : Nat), .int .i64 (H : Nat), .slice A M c] 24)) 0 0 (.slice none 0 0)
  rw [show ((w.alloc (.cells #[.int .i64 (W : Nat), .int .i64 (H : Nat), .slice A M c] 24))).heap.size = w.heap.size + 1 by simp] at XR
  have XR := Lib.hid XR
  have LB0 := Lib.hid (LB0.out.alloc LB0.out.size (.cells #[.int .i64 0, .int .i64 0, .slice none 0 0] 24))
  go_enter Try.func46, Try.ntmps46
  go_upto_region 1 with (fail)
  generalize (w.alloc (.cells #[.int .i64 (W : Nat), .int .i64 (H : Nat), .slice A M c] 24)).alloc (.cells #[.int .i64 0, .int .i64 0, .slice none 0 0] 24) = w0 at *
  obtain ⟨rb, hrb⟩ : ∃ rb, w.heap.size + 1 = rb := ⟨_, rfl⟩
  have hrw : w.heap.size ≤ rb := by omega
  rw [hrb] at XR ⊢
  clear hrb
  obtain ⟨q0, q1, q2, q3, q4, q5, q6⟩ := XA.out.all
  go_wp2_with fail
  clear q0 q1 q2 q3 q4 q5 q6
  with_reducible refine Calls.mono (HK.out _ LB0.out) ?_
  rintro e w1 ⟨k, rfl, hk, hrow, hb⟩
  have LB1 := Lib.hid (LB0.out.trans (hb.mono LB0.out.size))
  have XA := Lib.hid (XA.out.below hb XA.out.lt)
  have XR := Lib.hid (XR.out.below hb XR.out.lt)
  have HR := Lib.hid hrow
  clear hb LB0 hrow
  rw [HME.out] at HR ⊢
  have XM := Box.new w1 (W : Nat) (H : Nat) (.slice (some ⟨k, 0, none⟩) M M)
  obtain ⟨mb, hmb⟩ : ∃ mb, w1.heap.size = mb := ⟨_, rfl⟩
  rw [hmb] at XM
  have XM := Lib.hid XM
  have hb := bel_alloc w1 (.cells #[.int .i64 (W : Nat), .int .i64 (H : Nat), .slice (some ⟨k, 0, none⟩) M M] 24)
  have LB2 := Lib.hid (LB1.out.trans (hb.mono LB1.out.size))
  have XA := Lib.hid (XA.out.below hb XA.out.lt)
  have XR := Lib.hid (XR.out.below hb XR.out.lt)
  have HR := Lib.hid (HR.out.below hb HR.out.lt)
  clear hb LB1
  go_upto_region 2 with (fail)
  generalize w1.alloc (.cells #[.int .i64 (W : Nat), .int .i64 (H : Nat), .slice (some ⟨k, 0, none⟩) M M] 24) = w2 at *
  clear hmb
  obtain ⟨q0, q1, q2, q3, q4, q5, q6⟩ := XA.out.all
  go_wp2_with fail
  clear q0 q1 q2 q3 q4 q5 q6
  with_reducible refine Calls.mono (HU.out _) ?_
  rintro e w3 ⟨k2, d2, rfl, hk2, hd2, hrow, hb⟩
  have LB3 := Lib.hid (LB2.out.trans (hb.mono LB2.out.size))
  have XA := Lib.hid (XA.out.below hb XA.out.lt)
  have XR := Lib.hid (XR.out.below hb XR.out.lt)
  have HR := Lib.hid (HR.out.below hb HR.out.lt)
  have XM := Lib.hid (XM.out.below hb XM.out.lt)
  have HR2 := Lib.hid hrow
  clear hb LB2 hrow
  have XU := Box.new w3 (W : Nat) (H : Nat) (.slice (some ⟨k2, 0, none⟩) M d2)
  obtain ⟨ub, hub⟩ : ∃ ub, w3.heap.size = ub := ⟨_, rfl⟩
  rw [hub] at XU
  have XU := Lib.hid XU
  have hb := bel_alloc w3 (.cells #[.int .i64 (W : Nat), .int .i64 (H : Nat), .slice (some ⟨k2, 0, none⟩) M d2] 24)
  have LB4 := Lib.hid (LB3.out.trans (hb.mono LB3.out.size))
  have XA := Lib.hid (XA.out.below hb XA.out.lt)
  have XR := Lib.hid (XR.out.below hb XR.out.lt)
  have HR := Lib.hid (HR.out.below hb HR.out.lt)
  have XM := Lib.hid (XM.out.below hb XM.out.lt)
  have HR2 := Lib.hid (HR2.out.below hb HR2.out.lt)
  clear hb LB3
  go_upto_region 5 with (fail)
  generalize w3.alloc (.cells #[.int .i64 (W : Nat), .int .i64 (H : Nat), .slice (some ⟨k2, 0, none⟩) M d2] 24) = w4 at *
  clear hub
  have hrl := XR.out.lt
  obtain ⟨q0, q1, q2, q3, q4, q5, q6⟩ := XA.out.all
  obtain ⟨q7, q8, q9, q10, q11, q12, q13⟩ := XM.out.all
  obtain ⟨q14, q15, q16, q17, q18, q19, q20⟩ := XU.out.all
  go_wp2_with fail
  clear q0 q1 q2 q3 q4 q5 q6 q7 q8 q9 q10 q11 q12 q13 q14 q15 q16 q17 q18 q19 q20
  with_reducible refine Calls.mono (HV.out _ k M k2 d2) ?_
  rintro e w5 ⟨rfl, hb⟩
  have LB5 := Lib.hid (LB4.out.trans (hb.mono LB4.out.size))
  have XA := Lib.hid (XA.out.below hb XA.out.lt)
  have XR := Lib.hid (XR.out.below hb XR.out.lt)
  have HR := Lib.hid (HR.out.below hb HR.out.lt)
  have XM := Lib.hid (XM.out.below hb XM.out.lt)
  have HR2 := Lib.hid (HR2.out.below hb HR2.out.lt)
  have XU := Lib.hid (XU.out.below hb XU.out.lt)
  clear hb LB4 
  obtain ⟨q0, q1, q2, q3, q4, q5, q6⟩ := XR.out.all
  go_wp2
  refine bodyPost_ret (v := .tuple #[.agg #[.int .i64 0, .int .i64 0, .slice none 0 0], .int .i64 4]) (by simp [results, Try.results46, go_sem, q0, q1, q2, q3, q4, q5]) rfl ?_
  exact ⟨rfl, ((LB5.out.setCell (p := ⟨rb, 0, none⟩) hrw _).setCell (p := ⟨rb, 1, none⟩) hrw _).setCell (p := ⟨rb, 2, none⟩) hrw _⟩
set_option maxHeartbeats 1600000 in
theorem tube_ok {W H : Nat} {A : Option Addr} {c : Nat} {f : Nat → Bool} (hW0 : 1 ≤ W) (hW : W ≤ 32) (hH0 : 1 ≤ H) (hH : H ≤ 32) (w : World) (hf : Holds w w.heap.size A (W * H) f) : Calls Try.prog 46 #[.agg #[.int .i64 (W : Nat), .int .i64 (H : Nat), .slice A (W * H) c]] w (OkRef w (2 * W) (2 * H) (dbl W f (bkf W f) (fun _ => true))) := by
  have HK := Lib.hid (fun (u : World) (LB : Below w.heap.size w u) => back_ok (A := A) (c := c) hW0 (by omega) hH0 (by omega) u ((hf.below LB).more LB.size))
  have HU := Lib.hid (fun (u : World) => dbuild_any W H hW0 (by omega) hH0 (by omega) 94 #[] _ u (up_clo u W H) (Go.Proofs.enters_of Try.func94 (by kernel_rfl) rfl))
  have HV := Lib.hid (fun (u : World) (LB : Below w.heap.size w u) (k d m e : Nat) (h1 : Row u k (W * H) (bkf W f)) (h2 : Row u m (W * H) (fun _ => true)) => weave_ok (A := A) (B := some ⟨k, 0, none⟩) (C := some ⟨m, 0, none⟩) (c := c) (d := d) (e := e) hW0 hW hH0 hH u ((hf.below LB).more LB.size) (h1.holds h1.lt) (h2.holds h2.lt))
  obtain ⟨F, hF⟩ : ∃ F, dbl W f (bkf W f) (fun _ => true) = F := ⟨_, rfl⟩
  obtain ⟨W2, hW2⟩ : ∃ z, 2 * W = z := ⟨_, rfl⟩
  obtain ⟨H2, hH2⟩ : ∃ z, 2 * H = z := ⟨_, rfl⟩
  simp only [hF, hW2, hH2] at HV ⊢
  clear hF hW2 hH2
  clear hf
  obtain ⟨M, hMe⟩ : ∃ M, W * H = M := ⟨_, rfl⟩
  have HME := Lib.hid hMe
  simp only [hMe] at HK HU HV ⊢
  clear hMe
  have LB0 := Lib.hid (Below.refl w.heap.size w)
  have XA := Lib.hid (Box.new w (W : Nat) (H : Nat) (.slice A M c))
  have LB0 := Lib.hid (LB0.out.alloc LB0.out.size (.cells #[.int .i64 (W : Nat), .int .i64 (H : Nat), .slice A M c] 24))
  have XA := Lib.hid (XA.out.alloc (.cells #[.int .i64 0, .int .i64 0, .slice none 0 0] 24))
  have XR := Box.new (w.alloc (.cells #[.int .i64 (W : Nat), .int .i64 (H : Nat), .slice A M c] 24)) 0 0 (.slice none 0 0)
  rw [show ((w.alloc (.cells #[.int .i64 (W : Nat), .int .i64 (H : Nat), .slice A M c] 24))).heap.size = w.heap.size + 1 by simp] at XR
  have XR := Lib.hid XR
  have LB0 := Lib.hid (LB0.out.alloc LB0.out.size (.cells #[.int .i64 0, .int .i64 0, .slice none 0 0] 24))
  go_enter Try.func46, Try.ntmps46
  go_upto_region 1 with (fail)
  generalize (w.alloc (.cells #[.int .i64 (W : Nat), .int .i64 (H : Nat), .slice A M c] 24)).alloc (.cells #[.int .i64 0, .int .i64 0, .slice none 0 0] 24) = w0 at *
  obtain ⟨rb, hrb⟩ : ∃ rb, w.heap.size + 1 = rb := ⟨_, rfl⟩
  have hrw : w.heap.size ≤ rb := by omega
  rw [hrb] at XR ⊢
  clear hrb
  obtain ⟨q0, q1, q2, q3, q4, q5, q6⟩ := XA.out.all
  go_wp2_with fail
  clear q0 q1 q2 q3 q4 q5 q6
  with_reducible refine Calls.mono (HK.out _ LB0.out) ?_
  rintro e w1 ⟨k, rfl, hk, hrow, hb⟩
  have LB1 := Lib.hid (LB0.out.trans (hb.mono LB0.out.size))
  have XA := Lib.hid (XA.out.below hb XA.out.lt)
  have XR := Lib.hid (XR.out.below hb XR.out.lt)
  have HR := Lib.hid hrow
  clear hb LB0 hrow
  rw [HME.out] at HR ⊢
  have XM := Box.new w1 (W : Nat) (H : Nat) (.slice (some ⟨k, 0, none⟩) M M)
  obtain ⟨mb, hmb⟩ : ∃ mb, w1.heap.size = mb := ⟨_, rfl⟩
  rw [hmb] at XM
  have XM := Lib.hid XM
  have hb := bel_alloc w1 (.cells #[.int .i64 (W : Nat), .int .i64 (H : Nat), .slice (some ⟨k, 0, none⟩) M M] 24)
  have LB2 := Lib.hid (LB1.out.trans (hb.mono LB1.out.size))
  have XA := Lib.hid (XA.out.below hb XA.out.lt)
  have XR := Lib.hid (XR.out.below hb XR.out.lt)
  have HR := Lib.hid (HR.out.below hb HR.out.lt)
  clear hb LB1
  go_upto_region 2 with (fail)
  generalize w1.alloc (.cells #[.int .i64 (W : Nat), .int .i64 (H : Nat), .slice (some ⟨k, 0, none⟩) M M] 24) = w2 at *
  clear hmb
  obtain ⟨q0, q1, q2, q3, q4, q5, q6⟩ := XA.out.all
  go_wp2_with fail
  clear q0 q1 q2 q3 q4 q5 q6
  with_reducible refine Calls.mono (HU.out _) ?_
  rintro e w3 ⟨k2, d2, rfl, hk2, hd2, hrow, hb⟩
  have LB3 := Lib.hid (LB2.out.trans (hb.mono LB2.out.size))
  have XA := Lib.hid (XA.out.below hb XA.out.lt)
  have XR := Lib.hid (XR.out.below hb XR.out.lt)
  have HR := Lib.hid (HR.out.below hb HR.out.lt)
  have XM := Lib.hid (XM.out.below hb XM.out.lt)
  have HR2 := Lib.hid hrow
  clear hb LB2 hrow
  have XU := Box.new w3 (W : Nat) (H : Nat) (.slice (some ⟨k2, 0, none⟩) M d2)
  obtain ⟨ub, hub⟩ : ∃ ub, w3.heap.size = ub := ⟨_, rfl⟩
  rw [hub] at XU
  have XU := Lib.hid XU
  have hb := bel_alloc w3 (.cells #[.int .i64 (W : Nat), .int .i64 (H : Nat), .slice (some ⟨k2, 0, none⟩) M d2] 24)
  have LB4 := Lib.hid (LB3.out.trans (hb.mono LB3.out.size))
  have XA := Lib.hid (XA.out.below hb XA.out.lt)
  have XR := Lib.hid (XR.out.below hb XR.out.lt)
  have HR := Lib.hid (HR.out.below hb HR.out.lt)
  have XM := Lib.hid (XM.out.below hb XM.out.lt)
  have HR2 := Lib.hid (HR2.out.below hb HR2.out.lt)
  clear hb LB3
  go_upto_region 5 with (fail)
  generalize w3.alloc (.cells #[.int .i64 (W : Nat), .int .i64 (H : Nat), .slice (some ⟨k2, 0, none⟩) M d2] 24) = w4 at *
  clear hub
  have hrl := XR.out.lt
  obtain ⟨q0, q1, q2, q3, q4, q5, q6⟩ := XA.out.all
  obtain ⟨q7, q8, q9, q10, q11, q12, q13⟩ := XM.out.all
  obtain ⟨q14, q15, q16, q17, q18, q19, q20⟩ := XU.out.all
  go_wp2_with fail
  clear q0 q1 q2 q3 q4 q5 q6 q7 q8 q9 q10 q11 q12 q13 q14 q15 q16 q17 q18 q19 q20
  with_reducible refine Calls.mono (HV.out _ LB4.out k M k2 d2 HR.out HR2.out) ?_
  rintro e w5 ⟨k3, d3, rfl, hk3, hrow, hb⟩
  have LB5 := Lib.hid (LB4.out.trans (hb.mono LB4.out.size))
  have XA := Lib.hid (XA.out.below hb XA.out.lt)
  have XR := Lib.hid (XR.out.below hb XR.out.lt)
  have HR := Lib.hid (HR.out.below hb HR.out.lt)
  have XM := Lib.hid (XM.out.below hb XM.out.lt)
  have HR2 := Lib.hid (HR2.out.below hb HR2.out.lt)
  have XU := Lib.hid (XU.out.below hb XU.out.lt)
  have HR3 := Lib.hid hrow
  clear hb LB4 hrow
  obtain ⟨N2, hN2⟩ : ∃ z, W2 * H2 = z := ⟨_, rfl⟩
  have HN2 := Lib.hid hN2
  rw [hN2] at HR3 ⊢
  clear hN2
  obtain ⟨q0, q1, q2, q3, q4, q5, q6⟩ := XR.out.all
  go_wp2
  refine bodyPost_ret (v := .tuple #[.agg #[.int .i64 (W2 : Nat), .int .i64 (H2 : Nat), .slice (some ⟨k3, 0, none⟩) N2 d3], .int .i64 0]) (by simp [results, Try.results46, go_sem, q0, q1, q2, q3, q4, q5]) rfl ?_
  rw [← HN2.out] at HR3 ⊢
  exact fin_ref hrw (by omega) HR3.out LB5.out
end Go.Proofs.Ytgmcbdnfgdmmaaa

/- everySecond of the program. -/
namespace Go.Proofs.Ytgmcbdnfgdmmaaa
open Go.RowKit
set_option maxRecDepth 100000
set_option linter.unusedVariables false
set_option linter.unusedSimpArgs false

/-- Every second end and every second pick. -/
def esl (W nE nP x0 y0 : Nat) : List Nat := evl nE x0 ++ (evl nP y0).map fun y => y + W
section
variable {W H nE nP x0 y0 : Nat}
theorem esl_len : (esl W nE nP x0 y0).length = nE + nP := by unfold esl; rw [List.length_append, List.length_map, evl_len, evl_len]
/-- Its elements as a function. -/
def esf (W nE x0 y0 i : Nat) : Int := if i < nE then ((2 * i + x0 : Nat) : Int) else ((2 * (i - nE) + y0 + W : Nat) : Int)
theorem esl_at {i : Nat} (h : i < nE + nP) : lf (esl W nE nP x0 y0) i = esf W nE x0 y0 i := by
  unfold lf esl esf
  rw [List.getD_eq_getElem?_getD, List.getElem?_append, evl_len]
  by_cases e : i < nE
  · rw [if_pos e, if_pos e, ← List.getD_eq_getElem?_getD, evl_get e]
  · rw [if_neg e, if_neg e, List.getElem?_map]
    have := evl_get (n := nP) (s := y0) (i := i - nE) (by omega)
    rw [List.getD_eq_getElem?_getD] at this
    cases hq : (evl nP y0)[i - nE]?
    · have h2 := List.getElem?_eq_none_iff.1 hq; rw [evl_len] at h2; omega
    · rename_i v
      rw [hq] at this
      have h3 : v = 2 * (i - nE) + y0 := this
      show ((v + W : Nat) : Int) = _; rw [h3]
theorem esl_mem {x : Nat} (hE : ∀ k, k < nE → 2 * k + x0 < W) (hP : ∀ k, k < nP → 2 * k + y0 < H) (h : x ∈ esl W nE nP x0 y0) : x < W + H := by
  unfold esl at h
  rcases List.mem_append.1 h with h | h
  · obtain ⟨i, hi, rfl⟩ := evl_mem h; have := hE i hi; omega
  · obtain ⟨y, hy, rfl⟩ := List.mem_map.1 h; obtain ⟨i, hi, rfl⟩ := evl_mem hy; have := hP i hi; omega
theorem esl_set (hE : ∀ k, k < nE → 2 * k + x0 < W) (hP : ∀ k, k < nP → 2 * k + y0 < H) : setB (W + H) (esl W nE nP x0 y0).length (lf (esl W nE nP x0 y0)) = true := by
  unfold setB
  rw [decide_eq_true_iff, esl_len]
  intro i hi
  have key : ∀ i, i < nE + nP → (i < nE → esf W nE x0 y0 i = ((2 * i + x0 : Nat) : Int) ∧ 2 * i + x0 < W) ∧ (¬ i < nE → esf W nE x0 y0 i = ((2 * (i - nE) + y0 + W : Nat) : Int) ∧ 2 * (i - nE) + y0 < H) := fun i hi => by
    unfold esf
    exact ⟨fun h => ⟨if_pos h, hE i h⟩, fun h => ⟨if_neg h, hP _ (by omega)⟩⟩
  rw [esl_at hi]
  obtain ⟨k1, k2⟩ := key i hi
  refine ⟨?_, fun h0 => ?_⟩
  · by_cases e : i < nE
    · obtain ⟨e1, e2⟩ := k1 e; omega
    · obtain ⟨e1, e2⟩ := k2 e; omega
  · rw [esl_at (by omega)]
    obtain ⟨k3, k4⟩ := key (i - 1) (by omega)
    by_cases e : i < nE
    · obtain ⟨e1, e2⟩ := k1 e; obtain ⟨e3, e4⟩ := k3 (by omega); omega
    · obtain ⟨e1, e2⟩ := k2 e
      by_cases e5 : i - 1 < nE
      · obtain ⟨e3, e4⟩ := k3 e5; omega
      · obtain ⟨e3, e4⟩ := k4 e5; omega
theorem esl_En (hE : ∀ k, k < nE → 2 * k + x0 < W) : lEn W (esl W nE nP x0 y0) = evl nE x0 := by
  unfold lEn esl
  rw [List.filter_append, List.filter_eq_self.2 (fun x hx => by obtain ⟨i, hi, rfl⟩ := evl_mem hx; exact decide_eq_true (hE i hi)), List.filter_eq_nil_iff.2 (fun x hx => by
    obtain ⟨y, hy, rfl⟩ := List.mem_map.1 hx; simp), List.append_nil]
theorem esl_Pi (hE : ∀ k, k < nE → 2 * k + x0 < W) : lPi W (esl W nE nP x0 y0) = evl nP y0 := by
  unfold lPi esl
  rw [List.filter_append, List.filter_eq_nil_iff.2 (fun x hx => by obtain ⟨i, hi, rfl⟩ := evl_mem hx; have := hE i hi; simp; omega), List.filter_eq_self.2 (fun x hx => by
    obtain ⟨y, hy, rfl⟩ := List.mem_map.1 hx; simp), List.nil_append, List.map_map]
  conv => rhs; rw [← List.map_id (evl nP y0)]
  refine List.map_congr_left fun i _ => ?_
  show i + W - W = i
  omega
end
theorem own_ll {w : World} {base : Nat} {D : Option Addr} {d : Nat} {l : List Nat} (h : L2.Own w base (.slice D l.length d) l.length (lf l)) : LL w D l := by
  obtain ⟨A, c, e, _, hr⟩ := h.out
  cases e
  exact LL.of hr
/-- A grid came back, and an error. -/
def OnR (w : World) (W H N : Nat) (F : Nat → Bool) (e : Ending) (w' : World) : Prop :=
  ∃ A c z, e = .returned (.tuple #[.agg #[.int .i64 (W : Nat), .int .i64 (H : Nat), .slice A N c], .int .i64 z]) ∧ Holds w' w'.heap.size A N F ∧ Below w.heap.size w w'
/-- A grid came back. -/
def GrR (w : World) (W H N : Nat) (F : Nat → Bool) (e : Ending) (w' : World) : Prop :=
  ∃ A c, e = .returned (.agg #[.int .i64 (W : Nat), .int .i64 (H : Nat), .slice A N c]) ∧ Holds w' w'.heap.size A N F ∧ Below w.heap.size w w'
theorem Holds.apart {w : World} {A : Option Addr} {n : Nat} {f : Nat → Bool} {B g : Nat} {X Y : Int} {D : Option Addr} {m d : Nat} (h : Holds w B A n f) (h0 : 0 < n) (hx : Box w g X Y (.slice D m d)) : ∀ b o, A = some ⟨b, o, none⟩ → b ≠ g := by
  intro b o e hg
  obtain ⟨b', o', e', _, hc⟩ := h h0
  rw [e] at e'
  cases e'
  subst hg
  have h1 := hc 0 h0
  rw [Lib.cell_of_heap hx, Nat.add_zero] at h1
  match o, h1 with
  | 0, h1 => cases h1
  | 1, h1 => cases h1
  | 2, h1 => cases h1
  | o + 3, h1 => simp at h1
theorem Holds.far {w : World} {A : Option Addr} {n : Nat} {f : Nat → Bool} {B : Nat} (h : Holds w B A n f) {p : Addr} (hne : 0 < n → ∀ b o, A = some ⟨b, o, none⟩ → b ≠ p.block) (u : Value) : Holds (w.setCell p u) B A n f := fun h0 => by
  obtain ⟨b, o, e, hb, hc⟩ := h h0
  exact ⟨b, o, e, hb, fun i hi => (World.cell?_of_block (w := w) (w' := w.setCell p u) (a := ⟨b, o + i, none⟩) (Below.heap_setCell w p u b (hne h0 b o e))).trans (hc i hi)⟩
set_option maxHeartbeats 3200000 in
theorem es_core (W H nE nP x0 y0 : Nat) (hx : x0 < 2) (hy : y0 < 2) (hW0 : 1 ≤ W) (hW : W ≤ 64) (hH0 : 1 ≤ H) (hH : H ≤ 64) (hE : ∀ k, 2 * k + x0 < W ↔ k < nE) (hP : ∀ k, 2 * k + y0 < H ↔ k < nP) (hEn : nE ≤ 64) (hPn : nP ≤ 64)
    (A : Option Addr) (M c : Nat) (w : World) (V U N : Nat) (F : Nat → Bool)
    (HON : ∀ u D d, Below w.heap.size w u → LL u D (esl W nE nP x0 y0) → Calls Try.prog 64 #[.agg #[.int .i64 (W : Nat), .int .i64 (H : Nat), .slice A M c], .slice D (esl W nE nP x0 y0).length d] u (OnR u V U N F)) :
    Calls Try.prog 88 #[.agg #[.int .i64 (W : Nat), .int .i64 (H : Nat), .slice A M c], .int .i64 (x0 : Nat), .int .i64 (y0 : Nat)] w (GrR w V U N F) := by
  have HO := Lib.hid HON
  have HE := Lib.hid hE
  have HP := Lib.hid hP
  have HAT := Lib.hid (fun i (h : i < nE + nP) => (esl_at (W := W) (x0 := x0) (y0 := y0) h).symm)
  have HF1 := Lib.hid (fun k (h : k < nE) => show esf W nE x0 y0 k = ((2 * k + x0 : Nat) : Int) from if_pos h)
  have HF2 := Lib.hid (fun k => show esf W nE x0 y0 (nE + k) = ((2 * k + y0 + W : Nat) : Int) by unfold esf; rw [if_neg (by omega), Nat.add_sub_cancel_left])
  have hlen := esl_len (W := W) (nE := nE) (nP := nP) (x0 := x0) (y0 := y0)
  obtain ⟨l, hl⟩ : ∃ l, esl W nE nP x0 y0 = l := ⟨_, rfl⟩
  rw [hl] at HO HAT hlen
  obtain ⟨f, hf⟩ : ∃ f, esf W nE x0 y0 = f := ⟨_, rfl⟩
  rw [hf] at HAT HF1 HF2
  have HL := Lib.hid hlen
  rw [hlen] at HO
  clear HON hE hP hl hf hlen
  have LB0 := Lib.hid (Below.refl w.heap.size w)
  have XA := Lib.hid (Box.new w (W : Nat) (H : Nat) (.slice A M c))
  have LB0 := Lib.hid (LB0.out.alloc LB0.out.size (.cells #[.int .i64 (W : Nat), .int .i64 (H : Nat), .slice A M c] 24))
  have XA := Lib.hid (XA.out.alloc (.cells #[.int .i64 0, .int .i64 0, .slice none 0 0] 24))
  have XR := Box.new (w.alloc (.cells #[.int .i64 (W : Nat), .int .i64 (H : Nat), .slice A M c] 24)) 0 0 (.slice none 0 0)
  rw [show ((w.alloc (.cells #[.int .i64 (W : Nat), .int .i64 (H : Nat), .slice A M c] 24))).heap.size = w.heap.size + 1 by simp] at XR
  have XR := Lib.hid XR
  have LB0 := Lib.hid (LB0.out.alloc LB0.out.size (.cells #[.int .i64 0, .int .i64 0, .slice none 0 0] 24))
  go_enter Try.func88, Try.ntmps88
  go_upto_region 1 with (fail)
  generalize (w.alloc (.cells #[.int .i64 (W : Nat), .int .i64 (H : Nat), .slice A M c] 24)).alloc (.cells #[.int .i64 0, .int .i64 0, .slice none 0 0] 24) = w0 at *
  obtain ⟨rb, hrb⟩ : ∃ rb, w.heap.size + 1 = rb := ⟨_, rfl⟩
  have hrw : w.heap.size ≤ rb := by omega
  have hrw2 : w.heap.size < rb := by omega
  rw [hrb] at XR ⊢
  clear hrb
  have hr0 := XR.out.lt
  obtain ⟨bs, hbs⟩ : ∃ bs, w0.heap.size = bs := ⟨_, rfl⟩
  have HBS := Lib.hid hbs
  have B0 : Hid (Below bs w0 w0) := Lib.hid (Below.refl _ _)
  rw [hbs] at hr0
  clear hbs
  go_wp2
  go_loopw [1, 7] (fun x q wr => ∃ k : Nat, k ≤ nE ∧ x = .int .i64 ((2 * k + x0 : Nat) : Int) ∧ Hid (L2.Own wr bs q k f) ∧ Hid (Below bs w0 wr)) (fun x _ _ => W + 1 - (intOf x).toNat)
  case atStart => exact ⟨0, Nat.zero_le _, by rw [Nat.mul_zero, Nat.zero_add], Lib.hid (L2.Own.nil _ _ _), B0⟩
  case round =>
    obtain ⟨k, hk, rfl, HQ, HB⟩ := hrel
    have XA1 := Lib.hid (XA.out.below HB.out (by omega))
    obtain ⟨q0, q1, q2, q3, q4, q5, q6⟩ := XA1.out.all
    by_cases hlt : k < nE
    · have y1 := (HE.out k).2 hlt
      have HFk := Lib.hid (HF1.out k hlt)
      have w1e : IntKind.i64.wrap (((2 * k + x0 : Nat) : Int) + 2) = ((2 * (k + 1) + x0 : Nat) : Int) := by rw [IntWalk.i64_in _ (by omega)]; omega
      have HNX := Lib.hid (show W + 1 - (2 * (k + 1) + x0) < W + 1 - (2 * k + x0) by omega)
      obtain ⟨x2, hx2⟩ : ∃ z, 2 * (k + 1) + x0 = z := ⟨_, rfl⟩
      obtain ⟨x1, hx1⟩ : ∃ z, 2 * k + x0 = z := ⟨_, rfl⟩
      rw [hx1] at y1 HFk w1e HNX
      rw [hx1]
      rw [hx2] at w1e HNX
      have HX2 := Lib.hid hx2
      clear hx1 hx2
      have y2 : (x1 : Int) < (W : Int) := by omega
      have hsz : bs ≤ wr.heap.size := by have := HB.out.size; have := HBS.out; omega
      go_wp2_with (at_builtin; refine L2.app1 _ rfl _ _ (by rfl) bs (by rfl) HQ.out (x1 : Int) (by rfl) HFk.out (by omega) hsz ?_; intro v' w5 hown5 hb5; have HO5 := Lib.hid hown5; have HB5 := Lib.hid hb5; clear hown5 hb5)
      go_roundw
      case rel => exact ⟨k + 1, by omega, by rw [HX2.out], HO5, Lib.hid (HB.out.trans HB5.out)⟩
      case measure => simpa [intOf] using HNX.out
    · have e : k = nE := by omega
      have y1 : ¬ 2 * k + x0 < W := fun h => hlt ((HE.out k).1 h)
      have HQ1 := Lib.hid (show L2.Own wr bs u7 nE f by rw [← e]; exact HQ.out)
      obtain ⟨x1, hx1⟩ : ∃ z, 2 * k + x0 = z := ⟨_, rfl⟩
      rw [hx1] at y1 ⊢
      have y2 : ¬ (x1 : Int) < (W : Int) := by omega
      clear hx1 e HQ hlt
      go_wp2
      clear q0 q1 q2 q3 q4 q5 q6 XA1
      have B1 := HB
      clear HB
      go_loopw [2, 7] (fun y q wr => ∃ k : Nat, k ≤ nP ∧ y = .int .i64 ((2 * k + y0 : Nat) : Int) ∧ Hid (L2.Own wr bs q (nE + k) f) ∧ Hid (Below bs w0 wr)) (fun y _ _ => H + 1 - (intOf y).toNat)
      case atStart => exact ⟨0, Nat.zero_le _, by rw [Nat.mul_zero, Nat.zero_add], by rw [Nat.add_zero]; exact HQ1, B1⟩
      case round =>
        obtain ⟨k, hk, rfl, HQ, HB⟩ := hrel
        clear HQ1 B1
        have XA1 := Lib.hid (XA.out.below HB.out (by omega))
        obtain ⟨q0, q1, q2, q3, q4, q5, q6⟩ := XA1.out.all
        by_cases hlt : k < nP
        · have y1 := (HP.out k).2 hlt
          have HFk := Lib.hid (HF2.out k)
          have w1e : IntKind.i64.wrap (((2 * k + y0 : Nat) : Int) + 2) = ((2 * (k + 1) + y0 : Nat) : Int) := by rw [IntWalk.i64_in _ (by omega)]; omega
          have w2e : IntKind.i64.wrap ((W : Int) + ((2 * k + y0 : Nat) : Int)) = ((2 * k + y0 + W : Nat) : Int) := by rw [IntWalk.i64_in _ (by omega)]; omega
          have HNX := Lib.hid (show H + 1 - (2 * (k + 1) + y0) < H + 1 - (2 * k + y0) by omega)
          obtain ⟨z1, hz1⟩ : ∃ z, 2 * k + y0 + W = z := ⟨_, rfl⟩
          rw [hz1] at HFk w2e
          obtain ⟨x2, hx2⟩ : ∃ z, 2 * (k + 1) + y0 = z := ⟨_, rfl⟩
          obtain ⟨x3, hx3⟩ : ∃ z, 2 * k + y0 = z := ⟨_, rfl⟩
          rw [hx3] at y1 w1e HNX w2e
          rw [hx3]
          rw [hx2] at w1e HNX
          have HX2 := Lib.hid hx2
          clear hx3 hx2 hz1
          have y4 : (x3 : Int) < (H : Int) := by omega
          have hsz : bs ≤ wr.heap.size := by have := HB.out.size; have := HBS.out; omega
          go_wp2_with (at_builtin; refine L2.app1 _ rfl _ _ (by rfl) bs (by rfl) HQ.out (z1 : Int) (by rfl) HFk.out (by omega) hsz ?_; intro v' w5 hown5 hb5; have HO5 := Lib.hid hown5; have HB5 := Lib.hid hb5; clear hown5 hb5)
          go_roundw
          case rel => exact ⟨k + 1, by omega, by rw [HX2.out], HO5, Lib.hid (HB.out.trans HB5.out)⟩
          case measure => simpa [intOf] using HNX.out
        · have e : k = nP := by omega
          have y1 : ¬ 2 * k + y0 < H := fun h => hlt ((HP.out k).1 h)
          rw [e] at HQ
          obtain ⟨D, d, rfl⟩ := orow_shape HQ.out
          obtain ⟨x3, hx3⟩ : ∃ z, 2 * k + y0 = z := ⟨_, rfl⟩
          rw [hx3] at y1 ⊢
          have y4 : ¬ (x3 : Int) < (H : Int) := by omega
          have LB1 := Lib.hid (LB0.out.trans (HB.out.mono (by omega)))
          have XR1 := Lib.hid (XR.out.below HB.out hr0)
          have HLL := Lib.hid (own_ll (base := bs) (D := D) (d := d) (l := l) (by rw [HL.out]; exact HQ.out.congr HAT.out))
          clear hx3 e HQ hlt
          go_wp2_with fail
          clear q0 q1 q2 q3 q4 q5 q6
          with_reducible refine Calls.mono (HO.out _ _ _ LB1.out HLL.out) ?_
          rintro e w2 ⟨A2, c2, z2, rfl, hh, hb⟩
          have LB2 := Lib.hid (LB1.out.trans (hb.mono LB1.out.size))
          have XR2 := Lib.hid (XR1.out.below hb XR1.out.lt)
          have HH := Lib.hid hh
          clear hb hh LB1 XR1 XA1
          have hb := bel_alloc w2 (.cells #[.int .i64 (V : Nat), .int .i64 (U : Nat), .slice A2 N c2] 24)
          have XR3 := Lib.hid (XR2.out.below hb XR2.out.lt)
          have LB3 := Lib.hid (LB2.out.trans (hb.mono LB2.out.size))
          have HH3 := Lib.hid (HH.out.below hb)
          have HAP := Lib.hid (fun h0 => HH.out.apart h0 XR2.out)
          have XN := Lib.hid (Box.new w2 (V : Nat) (U : Nat) (.slice A2 N c2))
          go_upto_region 9 with (fail)
          have hsz2 : w2.heap.size ≤ (w2.alloc (.cells #[.int .i64 (V : Nat), .int .i64 (U : Nat), .slice A2 N c2] 24)).heap.size := by simp
          have hrl := XR2.out.lt
          obtain ⟨nb, hnb⟩ : ∃ nb, w2.heap.size = nb := ⟨_, rfl⟩
          rw [hnb] at XN HH3 hsz2 hrl
          try rw [hnb]
          clear hnb hb XR2 LB2 HH
          generalize w2.alloc (.cells #[.int .i64 (V : Nat), .int .i64 (U : Nat), .slice A2 N c2] 24) = w3 at *
          obtain ⟨q0, q1, q2, q3, q4, q5, q6⟩ := XN.out.all
          obtain ⟨r0, r1, r2, r3, r4, r5, r6⟩ := XR3.out.all
          go_wp2
          refine bodyPost_ret (v := .agg #[.int .i64 (V : Nat), .int .i64 (U : Nat), .slice A2 N c2]) (by simp [results, Try.results88, go_sem, r0, r1, r2, r3, r4, r5]) rfl ?_
          refine ⟨A2, c2, rfl, ?_, ((LB3.out.setCell (p := ⟨rb, 0, none⟩) hrw _).setCell (p := ⟨rb, 1, none⟩) hrw _).setCell (p := ⟨rb, 2, none⟩) hrw _⟩
          exact ((((HH3.out.far (p := ⟨rb, 0, none⟩) (fun h0 => HAP.out h0) _).far (p := ⟨rb, 1, none⟩) (fun h0 => HAP.out h0) _).far (p := ⟨rb, 2, none⟩) (fun h0 => HAP.out h0) _)).more (by simpa using hsz2)
/-- A cell of the cloth of every second end and pick. -/
def e2f (P : Nat) (g : Nat → Bool) (x0 y0 k : Nat) : Bool := g ((2 * (k / P) + y0) * (2 * P) + (2 * (k % P) + x0))
theorem es_even (P Q x0 y0 : Nat) (hx : x0 < 2) (hy : y0 < 2) (hP0 : 1 ≤ P) (hP : P ≤ 32) (hQ0 : 1 ≤ Q) (hQ : Q ≤ 32) (A : Option Addr) (c : Nat) (g : Nat → Bool) (w : World) (hg : Holds w w.heap.size A (2 * P * (2 * Q)) g) :
    Calls Try.prog 88 #[.agg #[.int .i64 ((2 * P : Nat) : Int), .int .i64 ((2 * Q : Nat) : Int), .slice A (2 * P * (2 * Q)) c], .int .i64 (x0 : Nat), .int .i64 (y0 : Nat)] w (GrR w P Q (P * Q) (e2f P g x0 y0)) := by
  refine es_core (2 * P) (2 * Q) P Q x0 y0 hx hy (by omega) (by omega) (by omega) (by omega) (fun k => by omega) (fun k => by omega) (by omega) (by omega) A _ c w P Q _ _ (fun u D d hb hl => ?_)
  have hE : ∀ k, k < P → 2 * k + x0 < 2 * P := fun k hk => by omega
  have hPi : ∀ k, k < Q → 2 * k + y0 < 2 * Q := fun k hk => by omega
  have h := ponly_n (2 * P) (2 * Q) A c g (esl (2 * P) P Q x0 y0) D d u ((hg.below hb).more hb.size) (by omega) (by omega) (by omega) (by omega) (by rw [esl_len]; omega) hl (fun b hb => by have := esl_mem hE hPi hb; omega) (fun b hb => esl_mem hE hPi hb) (esl_set hE hPi)
    (by rw [esl_En hE, evl_len]; omega) (by rw [esl_Pi hE, evl_len]; omega)
  rw [esl_En hE, esl_Pi hE, evl_len, evl_len] at h
  refine h.mono fun e w' ⟨A', c', he, _, hh, hbb⟩ => ⟨A', c', 0, he, fun h0 => ?_, hbb⟩
  obtain ⟨b, o, e1, h1, h2⟩ := hh h0
  refine ⟨b, o, e1, h1, fun i hi => ?_⟩
  rw [h2 i hi]
  have a1 : i % P < P := Nat.mod_lt _ (by omega)
  have a2 : i / P < Q := (Nat.div_lt_iff_lt_mul (by omega)).2 (by rwa [Nat.mul_comm])
  congr 2
  unfold onF e2f
  rw [evl_len, evl_get a1, evl_get a2]
/-- If there are both. -/
theorem es_pos (W H nE nP x0 y0 : Nat) (hx : x0 < 2) (hy : y0 < 2) (hW0 : 1 ≤ W) (hW : W ≤ 64) (hH0 : 1 ≤ H) (hH : H ≤ 64) (hEe : ∀ k, 2 * k + x0 < W ↔ k < nE) (hPe : ∀ k, 2 * k + y0 < H ↔ k < nP) (h1 : 0 < nE) (h2 : 0 < nP) (hEn : nE ≤ 64) (hPn : nP ≤ 64)
    (A : Option Addr) (c : Nat) (g : Nat → Bool) (w : World) (hg : Holds w w.heap.size A (W * H) g) :
    Calls Try.prog 88 #[.agg #[.int .i64 (W : Nat), .int .i64 (H : Nat), .slice A (W * H) c], .int .i64 (x0 : Nat), .int .i64 (y0 : Nat)] w (GrR w nE nP (nE * nP) (onF W g (evl nE x0) (evl nP y0))) := by
  refine es_core W H nE nP x0 y0 hx hy hW0 hW hH0 hH hEe hPe hEn hPn A _ c w nE nP _ (onF W g (evl nE x0) (evl nP y0)) (fun u D d hb hl => ?_)
  have hE : ∀ k, k < nE → 2 * k + x0 < W := fun k hk => (hEe k).2 hk
  have hPi : ∀ k, k < nP → 2 * k + y0 < H := fun k hk => (hPe k).2 hk
  have h := ponly_n W H A c g (esl W nE nP x0 y0) D d u ((hg.below hb).more hb.size) (by omega) (by omega) (by omega) (by omega) (by rw [esl_len]; omega) hl (fun b hb => by have := esl_mem hE hPi hb; omega) (fun b hb => esl_mem hE hPi hb) (esl_set hE hPi)
    (by rw [esl_En hE, evl_len]; omega) (by rw [esl_Pi hE, evl_len]; omega)
  rw [esl_En hE, esl_Pi hE, evl_len, evl_len] at h
  exact h.mono fun e w' ⟨A', c', he, _, hh, hbb⟩ => ⟨A', c', 0, he, hh, hbb⟩
/-- If there is none of one kind. -/
theorem es_none (W H nE nP x0 y0 : Nat) (hx : x0 < 2) (hy : y0 < 2) (hW0 : 1 ≤ W) (hW : W ≤ 64) (hH0 : 1 ≤ H) (hH : H ≤ 64) (hEe : ∀ k, 2 * k + x0 < W ↔ k < nE) (hPe : ∀ k, 2 * k + y0 < H ↔ k < nP) (h0 : nE = 0 ∨ nP = 0) (hEn : nE ≤ 64) (hPn : nP ≤ 64)
    (A : Option Addr) (c : Nat) (g : Nat → Bool) (w : World) (hg : Holds w w.heap.size A (W * H) g) :
    Calls Try.prog 88 #[.agg #[.int .i64 (W : Nat), .int .i64 (H : Nat), .slice A (W * H) c], .int .i64 (x0 : Nat), .int .i64 (y0 : Nat)] w (GrR w 0 0 0 (fun _ => false)) := by
  refine es_core W H nE nP x0 y0 hx hy hW0 hW hH0 hH hEe hPe hEn hPn A _ c w 0 0 0 _ (fun u D d hb hl => ?_)
  have hE : ∀ k, k < nE → 2 * k + x0 < W := fun k hk => (hEe k).2 hk
  have hPi : ∀ k, k < nP → 2 * k + y0 < H := fun k hk => (hPe k).2 hk
  have h := ponly_short W H A c g (esl W nE nP x0 y0) D d u ((hg.below hb).more hb.size) (by omega) (by omega) (by omega) (by omega) (by rw [esl_len]; omega) hl (fun b hb => by have := esl_mem hE hPi hb; omega) (esl_set hE hPi)
    (by rw [esl_En hE, esl_Pi hE, evl_len, evl_len]; exact h0)
  exact h.mono fun e w' ⟨he, hbb⟩ => ⟨none, 0, 22, he, Holds.none_, hbb⟩
end Go.Proofs.Ytgmcbdnfgdmmaaa
