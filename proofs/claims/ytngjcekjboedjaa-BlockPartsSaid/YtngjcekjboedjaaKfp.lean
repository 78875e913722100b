/- Layer 13 of the program: Fill. -/
import Derived.Test.YtngjcekjboedjaaKow
namespace Go.Proofs.Ytngjcekjboedjaa
open Go.RowKit
set_option maxRecDepth 100000
set_option linter.unusedVariables false
set_option linter.unusedSimpArgs false

theorem rmade (w : World) (n : Nat) : L2.Row (w.alloc (.cells (madeCells #[.int .i64 0] n) 3)) w.heap.size n (fun _ => 0) := by
  refine ⟨madeCells #[.int .i64 0] n, World.alloc_heap_new w _, Nat.le_of_eq (size_madeCells _ _).symm, fun i hi => ?_⟩
  simp [madeCells, hi, Nat.mod_one]
theorem Try.info3i : (Try.prog.info? 3).map (fun i => (i.zero, i.size, i.bytes)) = some (some (.int .i64 0), 1, 8) := by kernel_rfl
theorem mki_run (N : Nat) (hN : N ≤ 4096) (w : World) :
    (Instr.makeSlice 45 (.int .i64 (N : Nat)) (.int .i64 (N : Nat))).run Try.prog w = .ok (.slice (some ⟨w.heap.size, 0, none⟩) N N) (w.alloc (.cells (madeCells #[.int .i64 0] N) 3)) :=
  run_make_row' (P := Try.prog) 45 3 (.int .i64 0) 8 Try.underlying45 Try.info3i rfl .i64 .i64 N (by omega) (by omega) w
/-- A grid came back, and an error. -/
def RG (w : World) (X Y : Int) (N : Nat) (F : Nat → Bool) (z : Int) (e : Ending) (w' : World) : Prop :=
  ∃ A c, e = .returned (.tuple #[.agg #[.int .i64 X, .int .i64 Y, .slice A N c], .int .i64 z]) ∧ Holds w' w'.heap.size A N F ∧ Below w.heap.size w w'
theorem RG.err {w w' : World} {z : Int} {e : Ending} {F : Nat → Bool} (h : ErrGrid w z e w') : RG w 0 0 0 F z e w' := ⟨none, 0, h.1, Holds.none_, h.2⟩
theorem RG.ok {w w' : World} {W H : Nat} {e : Ending} {F : Nat → Bool} (h : OkG w W H F e w') : RG w (W : Nat) (H : Nat) (W * H) F 0 e w' := by
  obtain ⟨A, c, he, _, hh, hb⟩ := h
  exact ⟨A, c, he, hh, hb⟩
/-- Of what was there, block k alone may have turned, a row of numbers. -/
structure ButI (k : Nat) (w w' : World) : Prop where
  os : w'.os = w.os
  tape : w'.tape = w.tape
  output : w'.output = w.output
  size : w.heap.size ≤ w'.heap.size
  block : ∀ b, b < w.heap.size → b ≠ k → w'.heap[b]? = w.heap[b]?
  row : ∃ cs, w.heap[k]? = some (.cells cs 3 (0, 0))
theorem ButI.box {k g : Nat} {w w' : World} {W H : Int} {v : Value} (h : ButI k w w') (hx : Box w g W H v) : Box w' g W H v := by
  have hg : g ≠ k := by
    rintro rfl
    obtain ⟨cs, h1⟩ := h.row
    unfold Box at hx
    rw [h1] at hx
    cases hx
  exact (h.block g hx.lt hg).trans hx
theorem ButI.belw {k B : Nat} {w0 w w' : World} (h : ButI k w w') (hb : Below B w0 w) (hk : B ≤ k) (hB : B ≤ w0.heap.size) : Below B w0 w' :=
  ⟨h.os.trans hb.os, h.tape.trans hb.tape, h.output.trans hb.output, Nat.le_trans hb.size h.size, fun b hbb => (h.block b (by have := hb.size; omega) (by omega)).trans (hb.block b hbb)⟩
theorem ButI.set {k i : Nat} {w w' : World} {v : Value} (h : ButI k w w') : ButI k w (w'.setCell ⟨k, i, none⟩ v) :=
  ⟨h.os, h.tape, h.output, by simpa using h.size, fun b hb hne => (Below.heap_setCell _ _ _ b hne).trans (h.block b hb hne), h.row⟩
theorem ButI.refl {k : Nat} {w : World} (h : ∃ cs, w.heap[k]? = some (.cells cs 3 (0, 0))) : ButI k w w := ⟨rfl, rfl, rfl, Nat.le_refl _, fun _ _ _ => rfl, h⟩
theorem atz {f : Nat → Bool} {j : Nat} (h : f j = false) (i : Nat) : (if i = j then (1 : Int) else if i < j then (if f i then 0 else 1) else 0) = if i < j + 1 then (if f i then 0 else 1) else 0 := by
  by_cases e : i = j
  · subst e; simp [h]
  · rw [if_neg e]
    by_cases e2 : i < j
    · rw [if_pos e2, if_pos (show i < j + 1 by omega)]
    · rw [if_neg e2, if_neg (show ¬ i < j + 1 by omega)]
theorem ato {f : Nat → Bool} {j : Nat} (h : f j = true) (i : Nat) : (if i < j then (if f i then (0 : Int) else 1) else 0) = if i < j + 1 then (if f i then 0 else 1) else 0 := by
  by_cases e : i = j
  · subst e; simp [h]
  · by_cases e2 : i < j
    · rw [if_pos e2, if_pos (show i < j + 1 by omega)]
    · rw [if_neg e2, if_neg (show ¬ i < j + 1 by omega)]
/-- A row of bools is no grid's variable. -/
theorem holds_ne_box {w : World} {B g n k e : Nat} {A D : Option Addr} {f : Nat → Bool} {W H : Int} (h : Holds w B A n f) (hx : Box w g W H (.slice D k e)) : 0 < n → ∀ b o, A = some ⟨b, o, none⟩ → b ≠ g := fun hn b o hA hb => by
  obtain ⟨b', o', e1, _, hc⟩ := h hn
  rw [hA] at e1
  cases e1
  subst hb
  have h0 := hc 0 hn
  rw [Lib.cell_of_heap hx] at h0
  match o, h0 with
  | 0, h0 => simp at h0
  | 1, h0 => simp at h0
  | 2, h0 => simp at h0
  | n + 3, h0 => simp at h0
/-- Two grids in a new slice. -/
theorem gls2 {w : World} (a b : GV) (ha : Holds w w.heap.size a.A a.n a.f) (hb : Holds w w.heap.size b.A b.n b.f) :
    GLs (w.alloc (.cells #[.int .i64 a.W, .int .i64 a.H, .slice a.A a.n a.c, .int .i64 b.W, .int .i64 b.H, .slice b.A b.n b.c] 24)) (some ⟨w.heap.size, 0, none⟩) 2 (fun i => if i = 0 then a else b) := fun _ => by
  have hB := bel_alloc w (.cells #[.int .i64 a.W, .int .i64 a.H, .slice a.A a.n a.c, .int .i64 b.W, .int .i64 b.H, .slice b.A b.n b.c] 24)
  have hn := halloc w (.cells #[.int .i64 a.W, .int .i64 a.H, .slice a.A a.n a.c, .int .i64 b.W, .int .i64 b.H, .slice b.A b.n b.c] 24)
  refine ⟨_, _, rfl, by simp, fun i hi => ?_⟩
  rcases (show i = 0 ∨ i = 1 by omega) with rfl | rfl
  · exact ⟨by rw [Lib.cell_of_heap hn]; rfl, by rw [Lib.cell_of_heap hn]; rfl, by rw [Lib.cell_of_heap hn]; rfl, (ha.below hB).more hB.size⟩
  · exact ⟨by rw [Lib.cell_of_heap hn]; rfl, by rw [Lib.cell_of_heap hn]; rfl, by rw [Lib.cell_of_heap hn]; rfl, (hb.below hB).more hB.size⟩
theorem fill_err {W H X Y U V : Int} {A B C : Option Addr} {n c m d k e : Nat} {z : Int} (F : Nat → Bool) (hn : n ≤ 4200) (hz : chk W H n = z) (hne : z ≠ 0) (w : World) :
    Calls Try.prog 45 #[.agg #[.int .i64 W, .int .i64 H, .slice A n c], .agg #[.int .i64 X, .int .i64 Y, .slice B m d], .agg #[.int .i64 U, .int .i64 V, .slice C k e]] w (RG w 0 0 0 F z) := by
  have HK := Lib.hid (fun u => chk_err (A := A) (c := c) hn hz u)
  have y1 : (z != 0) = true := by rw [bne_iff_ne]; exact hne
  clear hz hne
  have LB0 := Lib.hid (Below.refl w.heap.size w)
  have X1 := Lib.hid (Box.new w W H (.slice A n c))
  have LB0 := Lib.hid (LB0.out.alloc LB0.out.size (.cells #[.int .i64 W, .int .i64 H, .slice A n c] 24))
  have X1 := Lib.hid (X1.out.alloc (.cells #[.int .i64 X, .int .i64 Y, .slice B m d] 24))
  have X2 := Box.new (w.alloc (.cells #[.int .i64 W, .int .i64 H, .slice A n c] 24)) X Y (.slice B m d)
  rw [show ((w.alloc (.cells #[.int .i64 W, .int .i64 H, .slice A n c] 24))).heap.size = w.heap.size + 1 by simp] at X2
  have X2 := Lib.hid X2
  have LB0 := Lib.hid (LB0.out.alloc LB0.out.size (.cells #[.int .i64 X, .int .i64 Y, .slice B m d] 24))
  have X1 := Lib.hid (X1.out.alloc (.cells #[.int .i64 U, .int .i64 V, .slice C k e] 24))
  have X2 := Lib.hid (X2.out.alloc (.cells #[.int .i64 U, .int .i64 V, .slice C k e] 24))
  have X3 := Box.new ((w.alloc (.cells #[.int .i64 W, .int .i64 H, .slice A n c] 24)).alloc (.cells #[.int .i64 X, .int .i64 Y, .slice B m d] 24)) U V (.slice C k e)
  rw [show (((w.alloc (.cells #[.int .i64 W, .int .i64 H, .slice A n c] 24)).alloc (.cells #[.int .i64 X, .int .i64 Y, .slice B m d] 24))).heap.size = w.heap.size + 2 by simp] at X3
  have X3 := Lib.hid X3
  have LB0 := Lib.hid (LB0.out.alloc LB0.out.size (.cells #[.int .i64 U, .int .i64 V, .slice C k e] 24))
  have X1 := Lib.hid (X1.out.alloc (.cells #[.int .i64 0, .int .i64 0, .slice none 0 0] 24))
  have X2 := Lib.hid (X2.out.alloc (.cells #[.int .i64 0, .int .i64 0, .slice none 0 0] 24))
  have X3 := Lib.hid (X3.out.alloc (.cells #[.int .i64 0, .int .i64 0, .slice none 0 0] 24))
  have R0 := Box.new (((w.alloc (.cells #[.int .i64 W, .int .i64 H, .slice A n c] 24)).alloc (.cells #[.int .i64 X, .int .i64 Y, .slice B m d] 24)).alloc (.cells #[.int .i64 U, .int .i64 V, .slice C k e] 24)) 0 0 (.slice none 0 0)
  rw [show ((((w.alloc (.cells #[.int .i64 W, .int .i64 H, .slice A n c] 24)).alloc (.cells #[.int .i64 X, .int .i64 Y, .slice B m d] 24)).alloc (.cells #[.int .i64 U, .int .i64 V, .slice C k e] 24))).heap.size = w.heap.size + 3 by simp] at R0
  have R0 := Lib.hid R0
  have LB0 := Lib.hid (LB0.out.alloc LB0.out.size (.cells #[.int .i64 0, .int .i64 0, .slice none 0 0] 24))
  go_enter Try.func45, Try.ntmps45
  go_upto_region 1 with (fail)
  generalize (((w.alloc (.cells #[.int .i64 W, .int .i64 H, .slice A n c] 24)).alloc (.cells #[.int .i64 X, .int .i64 Y, .slice B m d] 24)).alloc (.cells #[.int .i64 U, .int .i64 V, .slice C k e] 24)).alloc (.cells #[.int .i64 0, .int .i64 0, .slice none 0 0] 24) = w0 at *
  obtain ⟨q0, q1, q2, q3, q4, q5, q6⟩ := X1.out.all
  go_wp2_with fail
  clear q0 q1 q2 q3 q4 q5 q6
  with_reducible refine Calls.mono (HK.out _) ?_
  rintro e w1 ⟨rfl, hb⟩
  have LB1 := Lib.hid (LB0.out.trans (hb.mono LB0.out.size))
  have X1 := Lib.hid (X1.out.below hb X1.out.lt)
  have X2 := Lib.hid (X2.out.below hb X2.out.lt)
  have X3 := Lib.hid (X3.out.below hb X3.out.lt)
  have R0 := Lib.hid (R0.out.below hb R0.out.lt)
  clear hb LB0 
  obtain ⟨rb, hrb⟩ : ∃ z, w.heap.size + 3 = z := ⟨_, rfl⟩
  have hrw : w.heap.size ≤ rb := by omega
  rw [hrb] at R0 ⊢
  clear hrb
  obtain ⟨q0, q1, q2, q3, q4, q5, q6⟩ := R0.out.all
  go_wp2
  refine bodyPost_ret (v := .tuple #[.agg #[.int .i64 0, .int .i64 0, .slice none 0 0], .int .i64 z]) (by simp [results, Try.results45, go_sem, q0, q1, q2, q3, q4, q5]) rfl ?_
  exact RG.err (fin_err hrw LB1.out)
set_option maxHeartbeats 3200000 in
theorem fill_any (W H : Nat) {X Y U V : Int} {A B C : Option Addr} {c m d k e : Nat} {f a b : Nat → Bool} (hW0 : 1 ≤ W) (hW : W ≤ 64) (hH0 : 1 ≤ H) (hH : H ≤ 64) (w : World) (hf : Holds w w.heap.size A (W * H) f) (ha : Holds w w.heap.size B m a) (hb1 : Holds w w.heap.size C k b)
    (P Q : Int) (N : Nat) (F : Nat → Bool) (z : Int)
    (hJ : ∀ u D E, Below w.heap.size w u → GLs u D 2 (fun i => if i = 0 then ⟨X, Y, B, m, d, a⟩ else ⟨U, V, C, k, e, b⟩) → L2.Holds u u.heap.size E (W * H) (fun i => if f i then 0 else 1) → Calls Try.prog 53 #[.slice D 2 2, .slice E (W * H) (W * H), .int .i64 (W : Nat)] u (RG u P Q N F z)) :
    Calls Try.prog 45 #[.agg #[.int .i64 (W : Nat), .int .i64 (H : Nat), .slice A (W * H) c], .agg #[.int .i64 X, .int .i64 Y, .slice B m d], .agg #[.int .i64 U, .int .i64 V, .slice C k e]] w (RG w P Q N F z) := by
  have HK := Lib.hid (fun u => chk_valid A c u hW0 hW hH0 hH)
  have HJ := Lib.hid hJ
  have HF := Lib.hid hf
  have HA := Lib.hid ha
  have HB := Lib.hid hb1
  have hM : W * H ≤ 4096 := Nat.mul_le_mul hW hH
  clear hf ha hb1 hJ
  generalize W * H = M at *
  have hmk := mki_run M hM
  have y1 : ((0 : Int) != 0) = false := rfl
  have LB0 := Lib.hid (Below.refl w.heap.size w)
  have X1 := Lib.hid (Box.new w (W : Nat) (H : Nat) (.slice A M c))
  have LB0 := Lib.hid (LB0.out.alloc LB0.out.size (.cells #[.int .i64 (W : Nat), .int .i64 (H : Nat), .slice A M c] 24))
  have X1 := Lib.hid (X1.out.alloc (.cells #[.int .i64 X, .int .i64 Y, .slice B m d] 24))
  have X2 := Box.new (w.alloc (.cells #[.int .i64 (W : Nat), .int .i64 (H : Nat), .slice A M c] 24)) X Y (.slice B m d)
  rw [show ((w.alloc (.cells #[.int .i64 (W : Nat), .int .i64 (H : Nat), .slice A M c] 24))).heap.size = w.heap.size + 1 by simp] at X2
  have X2 := Lib.hid X2
  have LB0 := Lib.hid (LB0.out.alloc LB0.out.size (.cells #[.int .i64 X, .int .i64 Y, .slice B m d] 24))
  have X1 := Lib.hid (X1.out.alloc (.cells #[.int .i64 U, .int .i64 V, .slice C k e] 24))
  have X2 := Lib.hid (X2.out.alloc (.cells #[.int .i64 U, .int .i64 V, .slice C k e] 24))
  have X3 := Box.new ((w.alloc (.cells #[.int .i64 (W : Nat), .int .i64 (H : Nat), .slice A M c] 24)).alloc (.cells #[.int .i64 X, .int .i64 Y, .slice B m d] 24)) U V (.slice C k e)
  rw [show (((w.alloc (.cells #[.int .i64 (W : Nat), .int .i64 (H : Nat), .slice A M c] 24)).alloc (.cells #[.int .i64 X, .int .i64 Y, .slice B m d] 24))).heap.size = w.heap.size + 2 by simp] at X3
  have X3 := Lib.hid X3
  have LB0 := Lib.hid (LB0.out.alloc LB0.out.size (.cells #[.int .i64 U, .int .i64 V, .slice C k e] 24))
  have X1 := Lib.hid (X1.out.alloc (.cells #[.int .i64 0, .int .i64 0, .slice none 0 0] 24))
  have X2 := Lib.hid (X2.out.alloc (.cells #[.int .i64 0, .int .i64 0, .slice none 0 0] 24))
  have X3 := Lib.hid (X3.out.alloc (.cells #[.int .i64 0, .int .i64 0, .slice none 0 0] 24))
  have R0 := Box.new (((w.alloc (.cells #[.int .i64 (W : Nat), .int .i64 (H : Nat), .slice A M c] 24)).alloc (.cells #[.int .i64 X, .int .i64 Y, .slice B m d] 24)).alloc (.cells #[.int .i64 U, .int .i64 V, .slice C k e] 24)) 0 0 (.slice none 0 0)
  rw [show ((((w.alloc (.cells #[.int .i64 (W : Nat), .int .i64 (H : Nat), .slice A M c] 24)).alloc (.cells #[.int .i64 X, .int .i64 Y, .slice B m d] 24)).alloc (.cells #[.int .i64 U, .int .i64 V, .slice C k e] 24))).heap.size = w.heap.size + 3 by simp] at R0
  have R0 := Lib.hid R0
  have LB0 := Lib.hid (LB0.out.alloc LB0.out.size (.cells #[.int .i64 0, .int .i64 0, .slice none 0 0] 24))
  go_enter Try.func45, Try.ntmps45
  go_upto_region 1 with (fail)
  generalize (((w.alloc (.cells #[.int .i64 (W : Nat), .int .i64 (H : Nat), .slice A M c] 24)).alloc (.cells #[.int .i64 X, .int .i64 Y, .slice B m d] 24)).alloc (.cells #[.int .i64 U, .int .i64 V, .slice C k e] 24)).alloc (.cells #[.int .i64 0, .int .i64 0, .slice none 0 0] 24) = w0 at *
  obtain ⟨q0, q1, q2, q3, q4, q5, q6⟩ := X1.out.all
  go_wp2_with fail
  clear q0 q1 q2 q3 q4 q5 q6
  with_reducible refine Calls.mono (HK.out _) ?_
  rintro e w1 ⟨rfl, hb⟩
  have LB1 := Lib.hid (LB0.out.trans (hb.mono LB0.out.size))
  have X1 := Lib.hid (X1.out.below hb X1.out.lt)
  have X2 := Lib.hid (X2.out.below hb X2.out.lt)
  have X3 := Lib.hid (X3.out.below hb X3.out.lt)
  have R0 := Lib.hid (R0.out.below hb R0.out.lt)
  clear hb LB0 
  obtain ⟨rb, hrb⟩ : ∃ z, w.heap.size + 3 = z := ⟨_, rfl⟩
  have hrw : w.heap.size ≤ rb := by omega
  have h12 : w.heap.size + 1 < rb := by omega
  rw [hrb] at R0 ⊢
  clear hrb
  obtain ⟨p0, p1, p2, p3, p4, p5, p6⟩ := X1.out.all
  have M0 := Lib.hid (rmade w1 M)
  have hb := bel_alloc w1 (.cells (madeCells #[.int .i64 0] M) 3)
  have LB2 := Lib.hid (LB1.out.trans (hb.mono LB1.out.size))
  have X1 := Lib.hid (X1.out.below hb X1.out.lt)
  have X2 := Lib.hid (X2.out.below hb X2.out.lt)
  have X3 := Lib.hid (X3.out.below hb X3.out.lt)
  have R0 := Lib.hid (R0.out.below hb R0.out.lt)
  have LB1s := Lib.hid LB1.out.size
  clear hb LB1
  obtain ⟨q0, q1, q2, q3, q4, q5, q6⟩ := X1.out.all
  obtain ⟨mk, hmk0⟩ : ∃ z, madeCells #[.int .i64 0] M = z := ⟨_, rfl⟩
  rw [hmk0] at hmk
  rw [hmk0] at M0 q0 q1 q2 q3 q4 q5 q6 LB2 X1 X2 X3 R0
  clear hmk0
  obtain ⟨kb, hkb⟩ : ∃ z, w1.heap.size = z := ⟨_, rfl⟩
  have hk0 : w.heap.size ≤ kb := by have h1 := LB1s.out; omega
  go_upto_region 5 with (fail)
  clear p0 p1 p2 p3 p4 p5 p6
  rw [hkb] at M0
  clear hkb
  generalize w1.alloc (.cells mk 3) = w2 at *
  go_wp2
  clear q0 q1 q2 q3 q4 q5 q6
  go_loopw [25] (fun i wr => ∃ j : Nat, j ≤ M ∧ i = .int .i64 j ∧ Hid (L2.Row wr kb M (fun t => if t < j then (if f t then 0 else 1) else 0)) ∧ Hid (ButI kb w2 wr)) (fun i _ => M - (intOf i).toNat)
  case atStart => exact ⟨0, Nat.zero_le _, rfl, Lib.hid (M0.out.congr fun i hi => by simp), Lib.hid (ButI.refl (by obtain ⟨cs, h1, _⟩ := M0.out; exact ⟨cs, h1⟩))⟩
  case round =>
    obtain ⟨j, hj, rfl, HR, HU⟩ := hrel
    have X1r := Lib.hid (HU.out.box X1.out)
    by_cases hlt : j < M
    · have y2 : (j : Int) < (M : Int) := by omega
      have y3 : (0 : Int) ≤ (j : Int) := by omega
      obtain ⟨bf, of, ef, hbf, hcf⟩ := HF.out (by omega)
      have a0 := ((HU.out.belw LB2.out hk0 (Nat.le_refl _)).cell (p := ⟨bf, of + j, none⟩) hbf).trans (hcf j hlt)
      obtain ⟨bv, hbv⟩ : ∃ z, f j = z := ⟨_, rfl⟩
      rw [hbv] at a0
      subst ef
      have hfr := HR.out.free j
      have hcl := HR.out.cell hlt
      have HN := Lib.hid (HR.out.set_ j 1)
      have HQ := Lib.hid (HU.out.set (i := j) (v := .int .i64 1))
      clear hcf
      cases bv
      · go_wp2
        go_roundw
        case rel => exact ⟨j + 1, by omega, by go_num, Lib.hid (HN.out.congr fun i _ => atz hbv i), HQ⟩
        case measure => simp [intOf]; omega
      · go_wp2
        go_roundw
        case rel => exact ⟨j + 1, by omega, by go_num, Lib.hid (HR.out.congr fun i _ => ato hbv i), HU⟩
        case measure => simp [intOf]; omega
    · have e : j = M := by omega
      have y2 : ¬ (j : Int) < (M : Int) := by omega
      have X2r := Lib.hid (HU.out.box X2.out)
      have X3r := Lib.hid (HU.out.box X3.out)
      have R0r := Lib.hid (HU.out.box R0.out)
      have LB3 := Lib.hid (HU.out.belw LB2.out hk0 (Nat.le_refl _))
      have HE := Lib.hid (show L2.Row wr kb M (fun t => if f t then 0 else 1) from HR.out.congr fun i hi => by rw [if_pos (by omega)])
      clear HR HU e X1 X2 X3 R0 M0 LB2
      obtain ⟨q0, q1, q2, q3, q4, q5, q6⟩ := X1r.out.all
      obtain ⟨s0, s1, s2, s3, s4, s5, s6⟩ := X2r.out.all
      obtain ⟨t0, t1, t2, t3, t4, t5, t6⟩ := X3r.out.all
      have hb := bel_alloc wr (.cells #[.int .i64 X, .int .i64 Y, .slice B m d, .int .i64 U, .int .i64 V, .slice C k e] 24)
      have LB4 := Lib.hid (LB3.out.trans (hb.mono LB3.out.size))
      have hg2 := Lib.hid (gls2 (w := wr) ⟨X, Y, B, m, d, a⟩ ⟨U, V, C, k, e, b⟩ ((HA.out.below LB3.out).more LB3.out.size) ((HB.out.below LB3.out).more LB3.out.size))
      have HE2 := Lib.hid (HE.out.below hb HE.out.lt)
      have R4 := Lib.hid (R0r.out.below hb R0r.out.lt)
      clear hb LB3 R0r
      go_wp2_with fail
      with_reducible refine Calls.mono (HJ.out _ _ _ LB4.out hg2.out (HE2.out.holds HE2.out.lt)) ?_
      rintro e w5 ⟨A2, c2, rfl, hh, hb⟩
      have LB5 := Lib.hid (LB4.out.trans (hb.mono LB4.out.size))
      have R5 := Lib.hid (R4.out.below hb R4.out.lt)
      clear hb
      obtain ⟨v0, v1, v2, v3, v4, v5, v6⟩ := R5.out.all
      have HH := Lib.hid (hh.st3 (holds_ne_box hh R5.out) (.int .i64 P) (.int .i64 Q) (.slice A2 N c2))
      go_wp2
      refine bodyPost_ret (v := .tuple #[.agg #[.int .i64 P, .int .i64 Q, .slice A2 N c2], .int .i64 z]) (by simp [results, Try.results45, go_sem, v0, v1, v2, v3, v4, v5]) rfl ?_
      exact ⟨A2, c2, rfl, HH.out.more (by simp), bel_st3 LB5.out hrw _ _ _⟩
end Go.Proofs.Ytngjcekjboedjaa
