/- blank, split of the program. -/
import Derived.Test.YtmcdfnhpaneanaaPck
import Derived.Test.YtmcdfnhpaneanaaPma
import Derived.BigRegion
namespace Go.Proofs.Ytmcdfnhpaneanaa
open Go.RowKit
set_option maxRecDepth 100000
set_option linter.unusedVariables false
set_option linter.unusedSimpArgs false

set_option maxHeartbeats 1600000 in
theorem blank_any (W H : Nat) (A : Option Addr) (n c : Nat) (w : World) (hW0 : 1 ≤ W) (hW : W ≤ 64) (hH0 : 1 ≤ H) (hH : H ≤ 64) :
    Calls Try.prog 74 #[.agg #[.int .i64 (W : Nat), .int .i64 (H : Nat), .slice A n c]] w fun e w' => ∃ k, e = .returned (.agg #[.int .i64 (W : Nat), .int .i64 (H : Nat), .slice (some ⟨k, 0, none⟩) (W * H) (W * H)]) ∧ w.heap.size ≤ k ∧ Row w' k (W * H) (fun _ => false) ∧ Below w.heap.size w w' := by
  have hM : W * H ≤ 4096 := Nat.mul_le_mul hW hH
  have hmk := make_run W H hM
  have e1 : IntKind.i64.wrap ((W : Int) * (H : Int)) = (W : Int) * (H : Int) := by rw [← Int.natCast_mul]; exact IntWalk.i64_in _ (by omega)
  have LB0 := Lib.hid (Below.refl w.heap.size w)
  have X1 := IBox.new w (W : Nat) (H : Nat) (.slice A n c)
  have X1 := Lib.hid X1
  have LB0 := Lib.hid (LB0.out.alloc LB0.out.size (.cells #[.int .i64 (W : Nat), .int .i64 (H : Nat), .slice A n c] 24))
  have X1 := Lib.hid (X1.out.alloc (.cells #[.int .i64 0, .int .i64 0, .slice none 0 0] 27))
  have X2 := Box.new (w.alloc (.cells #[.int .i64 (W : Nat), .int .i64 (H : Nat), .slice A n c] 24)) 0 0 (.slice none 0 0)
  rw [show ((w.alloc (.cells #[.int .i64 (W : Nat), .int .i64 (H : Nat), .slice A n c] 24))).heap.size = w.heap.size + 1 by simp] at X2
  have X2 := Lib.hid X2
  have LB0 := Lib.hid (LB0.out.alloc LB0.out.size (.cells #[.int .i64 0, .int .i64 0, .slice none 0 0] 27))
  go_enter Try.func74, Try.ntmps74
  go_upto_region 1 with (fail)
  generalize (w.alloc (.cells #[.int .i64 (W : Nat), .int .i64 (H : Nat), .slice A n c] 24)).alloc (.cells #[.int .i64 0, .int .i64 0, .slice none 0 0] 27) = w0 at *
  obtain ⟨rb, hrb⟩ : ∃ z, w.heap.size + 1 = z := ⟨_, rfl⟩
  have hrw : w.heap.size < rb := by omega
  rw [hrb] at X2 ⊢
  clear hrb
  obtain ⟨q0, q1, q2, q3, q4, q5, q6⟩ := X1.out.all
  obtain ⟨p0, p1, p2, p3, p4, p5, p6⟩ := X2.out.all
  have HR := Lib.hid (Row.made w0 (W * H))
  have HL := Lib.hid X2.out.lt
  have HLB := Lib.hid LB0.out.size
  go_region
  all_goals
    go_wp2_with fail
    have hz : ∀ x y z : Value, (((w0.setCell ⟨rb, 0, none⟩ x).setCell ⟨rb, 1, none⟩ y).setCell ⟨rb, 2, none⟩ z).heap.size = w0.heap.size := fun x y z => by simp
    have xr := X2.out.st3 (W : Nat) (H : Nat) (.slice (some ⟨w0.heap.size, 0, none⟩) (W * H) (W * H))
    have xb := bel_st3 LB0.out (g := rb) (by omega) (.int .i64 (W : Nat)) (.int .i64 (H : Nat)) (.slice (some ⟨w0.heap.size, 0, none⟩) (W * H) (W * H))
    have hz1 := hz (.int .i64 (W : Nat)) (.int .i64 (H : Nat)) (.slice (some ⟨w0.heap.size, 0, none⟩) (W * H) (W * H))
    clear q0 q1 q2 q3 q4 q5 q6 p0 p1 p2 p3 p4 p5 p6 hz
    generalize ((w0.setCell ⟨rb, 0, none⟩ (.int .i64 (W : Nat))).setCell ⟨rb, 1, none⟩ (.int .i64 (H : Nat))).setCell ⟨rb, 2, none⟩ (.slice (some ⟨w0.heap.size, 0, none⟩) (W * H) (W * H)) = w1 at *
    have hr := Row.made w1 (W * H)
    have xa := xr.alloc (.cells (madeCells #[.bool false] (W * H)) 4)
    have xc := xb.alloc xb.size (.cells (madeCells #[.bool false] (W * H)) 4)
    rw [hz1] at hr
    generalize w1.alloc (.cells (madeCells #[.bool false] (W * H)) 4) = w2 at *
    obtain ⟨p0, p1, p2, p3, p4, p5, p6⟩ := xa.all
    refine bodyPost_ret (v := .agg #[.int .i64 (W : Nat), .int .i64 (H : Nat), .slice (some ⟨w0.heap.size, 0, none⟩) (W * H) (W * H)]) (by simp [results, Try.results74, go_sem, p0, p1, p2]) rfl ?_
    exact ⟨w0.heap.size, rfl, LB0.out.size, hr, xc.drew⟩
/-- Whether the end, the pick of a cell has its colour. -/
def hE (W : Nat) (f a : Nat → Int) (i : Nat) : Bool := a (i % W) == f i
def hP (W : Nat) (f b : Nat → Int) (i : Nat) : Bool := b (i / W) == f i
/-- Forced up; open. -/
def upF (W : Nat) (f a b : Nat → Int) (i : Nat) : Bool := hE W f a i && !hP W f b i
def opF (W : Nat) (f a b : Nat → Int) (i : Nat) : Bool := hE W f a i && hP W f b i
/-- No cell is impossible. -/
def AllF (W M : Nat) (f a b : Nat → Int) : Prop := ∀ i, i < M → (hE W f a i || hP W f b i) = true
/-- What 'split' hands back. -/
def SplR (W H : Nat) (f a b : Nat → Int) (w : World) (e : Ending) (w' : World) : Prop :=
  (∃ A1 c1 A2 c2, e = .returned (.tuple #[.agg #[.int .i64 (W : Nat), .int .i64 (H : Nat), .slice A1 (W * H) c1], .agg #[.int .i64 (W : Nat), .int .i64 (H : Nat), .slice A2 (W * H) c2], .int .i64 0]) ∧ AllF W (W * H) f a b ∧ Holds w' w'.heap.size A1 (W * H) (upF W f a b) ∧ Holds w' w'.heap.size A2 (W * H) (opF W f a b) ∧ Below w.heap.size w w') ∨
  (e = .returned (.tuple #[.agg #[.int .i64 0, .int .i64 0, .slice none 0 0], .agg #[.int .i64 0, .int .i64 0, .slice none 0 0], .int .i64 6]) ∧ ¬ AllF W (W * H) f a b ∧ Below w.heap.size w w')
theorem bst3 {B : Nat} {w u : World} (h : Below B w u) {g : Nat} (hg : B ≤ g) (a b d : Value) : Below B w (((u.setCell ⟨g, 0, none⟩ a).setCell ⟨g, 1, none⟩ b).setCell ⟨g, 2, none⟩ d) := bel_st3 h hg a b d
theorem IBox.st3f {w : World} {g k : Nat} {X Y : Int} {v : Value} (h : IBox w g X Y v) (hk : g ≠ k) (x y z : Value) : IBox (((w.setCell ⟨k, 0, none⟩ x).setCell ⟨k, 1, none⟩ y).setCell ⟨k, 2, none⟩ z) g X Y v :=
  ((h.far (p := ⟨k, 0, none⟩) hk x).far (p := ⟨k, 1, none⟩) hk y).far (p := ⟨k, 2, none⟩) hk z
set_option maxHeartbeats 6400000 in
theorem split_any (W H : Nat) (A B C : Option Addr) (c d e : Nat) (f a b : Nat → Int) (w : World) (hf : L2.Holds w w.heap.size A (W * H) f) (ha : L2.Holds w w.heap.size B W a) (hb1 : L2.Holds w w.heap.size C H b) (W0 : 1 ≤ W) (W1 : W ≤ 64) (H0 : 1 ≤ H) (H1 : H ≤ 64) :
    Calls Try.prog 44 #[.agg #[.int .i64 (W : Nat), .int .i64 (H : Nat), .slice A (W * H) c], .slice B W d, .slice C H e] w (SplR W H f a b w) := by
  have hM : W * H ≤ 4096 := Nat.mul_le_mul W1 H1
  have HM1 := Lib.hid (fun j (hj : j < W * H) => (show j % W < W ∧ j / W < H from ⟨Nat.mod_lt _ (by omega), div_bd hj⟩))
  have HBL := Lib.hid (fun u => blank_any W H A (W * H) c u W0 W1 H0 H1)
  have HF := Lib.hid (fun u (hb : Below w.heap.size w u) => (hf.below hb))
  have HWA := Lib.hid (fun u (hb : Below w.heap.size w u) => (ha.below hb))
  have HWB := Lib.hid (fun u (hb : Below w.heap.size w u) => (hb1.below hb))
  have hm0 : 0 < W * H := Nat.mul_pos W0 H0
  clear hf ha hb1
  unfold SplR
  obtain ⟨M, hMe⟩ : ∃ M, W * H = M := ⟨_, rfl⟩
  rw [hMe] at hM hm0 HM1 HF HBL ⊢
  clear hMe
  have LB0 := Lib.hid (Below.refl w.heap.size w)
  have X1 := IBox.new w (W : Nat) (H : Nat) (.slice A M c)
  have X1 := Lib.hid X1
  have LB0 := Lib.hid (LB0.out.alloc LB0.out.size (.cells #[.int .i64 (W : Nat), .int .i64 (H : Nat), .slice A M c] 24))
  have X1 := Lib.hid (X1.out.alloc (.cells #[.int .i64 0, .int .i64 0, .slice none 0 0] 27))
  have R1 := Box.new (w.alloc (.cells #[.int .i64 (W : Nat), .int .i64 (H : Nat), .slice A M c] 24)) 0 0 (.slice none 0 0)
  rw [show ((w.alloc (.cells #[.int .i64 (W : Nat), .int .i64 (H : Nat), .slice A M c] 24))).heap.size = w.heap.size + 1 by simp] at R1
  have R1 := Lib.hid R1
  have LB0 := Lib.hid (LB0.out.alloc LB0.out.size (.cells #[.int .i64 0, .int .i64 0, .slice none 0 0] 27))
  have X1 := Lib.hid (X1.out.alloc (.cells #[.int .i64 0, .int .i64 0, .slice none 0 0] 27))
  have R1 := Lib.hid (R1.out.alloc (.cells #[.int .i64 0, .int .i64 0, .slice none 0 0] 27))
  have R2 := Box.new ((w.alloc (.cells #[.int .i64 (W : Nat), .int .i64 (H : Nat), .slice A M c] 24)).alloc (.cells #[.int .i64 0, .int .i64 0, .slice none 0 0] 27)) 0 0 (.slice none 0 0)
  rw [show (((w.alloc (.cells #[.int .i64 (W : Nat), .int .i64 (H : Nat), .slice A M c] 24)).alloc (.cells #[.int .i64 0, .int .i64 0, .slice none 0 0] 27))).heap.size = w.heap.size + 2 by simp] at R2
  have R2 := Lib.hid R2
  have LB0 := Lib.hid (LB0.out.alloc LB0.out.size (.cells #[.int .i64 0, .int .i64 0, .slice none 0 0] 27))
  go_enter Try.func44, Try.ntmps44
  go_upto_region 1 with (fail)
  generalize ((w.alloc (.cells #[.int .i64 (W : Nat), .int .i64 (H : Nat), .slice A M c] 24)).alloc (.cells #[.int .i64 0, .int .i64 0, .slice none 0 0] 27)).alloc (.cells #[.int .i64 0, .int .i64 0, .slice none 0 0] 27) = w0 at *
  obtain ⟨r2, hr2⟩ : ∃ z, w.heap.size + 2 = z := ⟨_, rfl⟩
  have hw2 : w.heap.size + 2 = r2 := hr2
  try rw [show w.heap.size + 1 + 1 = w.heap.size + 2 from rfl]
  rw [hr2] at R2 ⊢
  clear hr2
  obtain ⟨r1, hr1⟩ : ∃ z, w.heap.size + 1 = z := ⟨_, rfl⟩
  have hw1 : w.heap.size + 1 = r1 := hr1
  rw [hr1] at R1 ⊢
  clear hr1
  have n1 : w.heap.size < r1 := by omega
  have n2 : w.heap.size < r2 := by omega
  have n12 : r1 < r2 := by omega
  have n21 : r2 ≠ r1 := by omega
  have n12' : r1 ≠ r2 := by omega
  have h12 : r1 ≤ r2 := by omega
  have nx1 : w.heap.size ≠ r1 := by omega
  have nx2 : w.heap.size ≠ r2 := by omega
  have hl1 : r2 < w0.heap.size := R2.out.lt
  clear hw1 hw2
  obtain ⟨q0, q1, q2, q3, q4, q5, q6⟩ := X1.out.all
  have HK := Lib.hid (fun (u : World) (h : Below r1 w0 u) => (show u.cell? ⟨w.heap.size, 0, none⟩ = some (.int .i64 (W : Nat)) ∧ u.cell? ⟨w.heap.size, 1, none⟩ = some (.int .i64 (H : Nat)) ∧ u.cell? ⟨w.heap.size, 2, none⟩ = some (.slice A M c) from ⟨(h.cell (p := ⟨w.heap.size, 0, none⟩) n1).trans q0, (h.cell (p := ⟨w.heap.size, 1, none⟩) n1).trans q1, (h.cell (p := ⟨w.heap.size, 2, none⟩) n1).trans q2⟩))
  have D0 := Lib.hid (Below.refl w0.heap.size w0).drew
  have G0 := Lib.hid (D0.out.mono (show r1 ≤ w0.heap.size by omega))
  go_region_held3 (fun u => u.cell? ⟨w.heap.size, 0, none⟩ = some (.int .i64 (W : Nat)) ∧ u.cell? ⟨w.heap.size, 1, none⟩ = some (.int .i64 (H : Nat)) ∧ u.cell? ⟨w.heap.size, 2, none⟩ = some (.slice A M c))
    (first
      | with_reducible exact HK.out _ G0.out
      | with_reducible exact HK.out _ G2.out
      | with_reducible exact HK.out _ G3.out
      | with_reducible exact HK.out _ (bel_st3 G3.out (Nat.le_refl _) _ _ _)
      | with_reducible exact HK.out _ (bel_st3 (bel_st3 G3.out (Nat.le_refl _) _ _ _) h12 _ _ _))
    ((first
      | (go_at_call 74
         with_reducible refine Calls.mono (HBL.out w0.drew) ?_
         rintro e u2 ⟨ka, rfl, hka, hh1, hb1⟩
         have HB2 := Lib.hid (D0.out.trans (hb1.mono D0.out.size))
         have HH1 := Lib.hid hh1
         have G2 := Lib.hid (HB2.out.mono (show r1 ≤ w0.heap.size by omega)))
      | (go_at_call 74
         with_reducible refine Calls.mono (HBL.out u2) ?_
         rintro e u3 ⟨kb, rfl, hkb, hh2, hb2⟩
         have HB3 := Lib.hid (HB2.out.trans (hb2.mono HB2.out.size))
         have HH2 := Lib.hid hh2
         have HH1 := Lib.hid (HH1.out.below hb2 HH1.out.lt)
         have hkab : ka < kb := Nat.lt_of_lt_of_le hh1.lt hkb
         have G3 := Lib.hid (HB3.out.mono (show r1 ≤ w0.heap.size by omega))
         obtain ⟨r10, r11, r12, r13, r14, r15, r16⟩ := (R1.out.below HB3.out R1.out.lt).all
         obtain ⟨r20, r21, r22, r23, r24, r25, r26⟩ := (R2.out.below HB3.out R2.out.lt).all)))
  have hka0 : w0.heap.size ≤ ka := hka
  have R1b := (R1.out.below HB3.out R1.out.lt)
  have R2b := (R2.out.below HB3.out R2.out.lt)
  have X1b := (X1.out.below HB3.out X1.out.lt)
  have LBb := LB0.out.trans (HB3.out.mono LB0.out.size)
  have va := (.slice (some ⟨ka, 0, none⟩) M M : Value)
  have Z1 := Lib.hid ((R1b.st3 (W : Nat) (H : Nat) (.slice (some ⟨ka, 0, none⟩) M M)).st3f n12' (.int .i64 (W : Nat)) (.int .i64 (H : Nat)) (.slice (some ⟨kb, 0, none⟩) M M))
  have Z2 := Lib.hid ((R2b.st3f n21 (.int .i64 (W : Nat)) (.int .i64 (H : Nat)) (.slice (some ⟨ka, 0, none⟩) M M)).st3 (W : Nat) (H : Nat) (.slice (some ⟨kb, 0, none⟩) M M))
  have ZX := Lib.hid ((X1b.st3f nx1 (.int .i64 (W : Nat)) (.int .i64 (H : Nat)) (.slice (some ⟨ka, 0, none⟩) M M)).st3f nx2 (.int .i64 (W : Nat)) (.int .i64 (H : Nat)) (.slice (some ⟨kb, 0, none⟩) M M))
  have ZA := Lib.hid ((HH1.out.st3 (show ka ≠ r1 by omega) (.int .i64 (W : Nat)) (.int .i64 (H : Nat)) (.slice (some ⟨ka, 0, none⟩) M M)).st3 (show ka ≠ r2 by omega) (.int .i64 (W : Nat)) (.int .i64 (H : Nat)) (.slice (some ⟨kb, 0, none⟩) M M))
  have ZB := Lib.hid ((HH2.out.st3 (show kb ≠ r1 by omega) (.int .i64 (W : Nat)) (.int .i64 (H : Nat)) (.slice (some ⟨ka, 0, none⟩) M M)).st3 (show kb ≠ r2 by omega) (.int .i64 (W : Nat)) (.int .i64 (H : Nat)) (.slice (some ⟨kb, 0, none⟩) M M))
  have ZL := Lib.hid (bel_st3 (bel_st3 LBb (g := r1) (by omega) (.int .i64 (W : Nat)) (.int .i64 (H : Nat)) (.slice (some ⟨ka, 0, none⟩) M M)) (g := r2) (by omega) (.int .i64 (W : Nat)) (.int .i64 (H : Nat)) (.slice (some ⟨kb, 0, none⟩) M M))
  clear va q0 q1 q2 q3 q4 q5 q6 r10 r11 r12 r13 r14 r15 r16 r20 r21 r22 r23 r24 r25 r26 R1b R2b X1b LBb HH1 HH2 HB2 HB3 G0 G2 G3 D0 HK hh1 hh2 hb1 hb2 X1 R1 R2 LB0
  generalize ((((((u3.setCell ⟨r1, 0, none⟩ (.int .i64 (W : Nat))).setCell ⟨r1, 1, none⟩ (.int .i64 (H : Nat))).setCell ⟨r1, 2, none⟩ (.slice (some ⟨ka, 0, none⟩) M M)).setCell ⟨r2, 0, none⟩ (.int .i64 (W : Nat))).setCell ⟨r2, 1, none⟩ (.int .i64 (H : Nat))).setCell ⟨r2, 2, none⟩ (.slice (some ⟨kb, 0, none⟩) M M)) = w3 at *
  obtain ⟨q0, q1, q2, q3, q4, q5, q6⟩ := ZX.out.all
  go_wp2
  clear q0 q1 q2 q3 q4 q5 q6
  go_loopw [20] (fun i wr => ∃ j : Nat, j ≤ M ∧ i = .int .i64 (j : Nat) ∧ Hid (∀ i, i < j → (hE W f a i || hP W f b i) = true) ∧ Hid (Row wr ka M (fun i => if i < j then upF W f a b i else false)) ∧ Hid (Row wr kb M (fun i => if i < j then opF W f a b i else false)) ∧ Hid (Box wr r1 (W : Nat) (H : Nat) (.slice (some ⟨ka, 0, none⟩) M M)) ∧ Hid (Box wr r2 (W : Nat) (H : Nat) (.slice (some ⟨kb, 0, none⟩) M M)) ∧ Hid (IBox wr w.heap.size (W : Nat) (H : Nat) (.slice A M c)) ∧ Hid (Below w.heap.size w wr)) (fun i _ => M - (intOf i).toNat)
  case atStart => exact ⟨0, Nat.zero_le _, rfl, Lib.hid (fun i h => absurd h (by omega)), Lib.hid (ZA.out.congr fun i _ => by rw [if_neg (by omega)]), Lib.hid (ZB.out.congr fun i _ => by rw [if_neg (by omega)]), Z1, Z2, ZX, ZL⟩
  case round =>
    obtain ⟨j, hj, rfl, HFI, HRA, HRB, Y1, Y2, YX, YL⟩ := hrel
    clear Z1 Z2 ZX ZA ZB ZL
    by_cases hlt : j < M
    · obtain ⟨hxl, hyl⟩ := HM1.out j hlt
      obtain ⟨bf, of, ef, lf_, cf⟩ := HF.out _ YL.out (by omega)
      obtain ⟨ba, oa, ea, la, ca⟩ := HWA.out _ YL.out (by omega)
      obtain ⟨bb, ob, eb, lb, cb⟩ := HWB.out _ YL.out (by omega)
      have c0 := cf j hlt
      have c1 := ca _ hxl
      have c2 := cb _ hyl
      have y1 : (j : Int) < (M : Int) := by omega
      have y2 : (0 : Int) ≤ (j : Int) := by omega
      have z1 : ¬ W = 0 := by omega
      have Z2' := Lib.hid (show (j : Int).tmod (W : Int) = ((j % W : Nat) : Int) from by rw [Int.tmod_eq_emod_of_nonneg (by omega)]; simp)
      have Z3' := Lib.hid (show (j : Int).tdiv (W : Int) = ((j / W : Nat) : Int) from by rw [Int.tdiv_eq_ediv_of_nonneg (by omega)]; simp)
      have HEJ := Lib.hid (show hE W f a j = (a (j % W) == f j) from rfl)
      have HPJ := Lib.hid (show hP W f b j = (b (j / W) == f j) from rfl)
      obtain ⟨jx, hjx⟩ : ∃ z, j % W = z := ⟨_, rfl⟩
      obtain ⟨jy, hjy⟩ : ∃ z, j / W = z := ⟨_, rfl⟩
      rw [hjx] at Z2' c1 hxl HEJ
      rw [hjy] at Z3' c2 hyl HPJ
      clear hjx hjy cf ca cb
      have Z4' := Lib.hid (show wrap64 (jy : Int) = (jy : Int) from IntWalk.wrap64_in _ (by omega))
      have y3 : (jx : Int) < (W : Int) := by omega
      have y4 : (jy : Int) < (H : Int) := by omega
      have y5 : (0 : Int) ≤ (jx : Int) := by omega
      have y6 : (0 : Int) ≤ (jy : Int) := by omega
      have z2 := Z2'.out
      have z3 := Z3'.out
      have z4 := Z4'.out
      have z5 : IntKind.i64.wrap (jy : Int) = (jy : Int) := (IntWalk.i64_left _).trans z4
      clear Z2' Z3' Z4'
      obtain ⟨fv, hfv⟩ : ∃ z, f j = z := ⟨_, rfl⟩
      obtain ⟨av, hav⟩ : ∃ z, a jx = z := ⟨_, rfl⟩
      obtain ⟨bv, hbv⟩ : ∃ z, b jy = z := ⟨_, rfl⟩
      rw [hfv] at c0 HEJ HPJ
      rw [hav] at c1 HEJ
      rw [hbv] at c2 HPJ
      clear hfv hav hbv
      subst ef ea eb
      obtain ⟨pe, hpe⟩ : ∃ z, (av == fv) = z := ⟨_, rfl⟩
      obtain ⟨pp, hpp⟩ : ∃ z, (bv == fv) = z := ⟨_, rfl⟩
      rw [hpe] at HEJ
      rw [hpp] at HPJ
      obtain ⟨q0, q1, q2, q3, q4, q5, q6⟩ := YX.out.all
      go_wp2
      have hSw : (fun u : World => u.cell? ⟨w.heap.size, 0, none⟩ = some (.int .i64 (W : Nat)) ∧ u.cell? ⟨ba, oa + jx, none⟩ = some (.int .i64 av) ∧ u.cell? ⟨bb, ob + jy, none⟩ = some (.int .i64 bv)) wr.drew := ⟨q0, c1, c2⟩
      clear q0 q1 q2 q3 q4 q5 q6 c0 c1 c2
      refine wp_region_held (S := fun u : World => u.cell? ⟨w.heap.size, 0, none⟩ = some (.int .i64 (W : Nat)) ∧ u.cell? ⟨ba, oa + jx, none⟩ = some (.int .i64 av) ∧ u.cell? ⟨bb, ob + jy, none⟩ = some (.int .i64 bv)) (by kernel_rfl) ?_
      try (change wpAnyH _ _ _ _ _ _ _ _ (World.drew _))
      refine wpAnyH_take (i := 0) (v := ?_) rfl (by kernel_rfl) (by kernel_rfl) (by kernel_rfl) (fun _ _ _ h => h) (Or.inl ⟨by kernel_rfl, ?_⟩) hSw ?_
      rotate_left
      · (intro u hu; obtain ⟨h0, h1, h2⟩ := hu; first | (go_simp; done) | (go_simp; with_reducible rfl))
      try simp only [Act.put, List.getElem_toArray, List.getElem_cons_succ, List.getElem_cons_zero, List.setIfInBounds_toArray, List.set_cons_zero, List.set_cons_succ]
      refine wpAnyH_take (i := 1) (v := ?_) rfl (by kernel_rfl) (by kernel_rfl) (by kernel_rfl) (fun _ _ _ h => h) (Or.inl ⟨by kernel_rfl, ?_⟩) hSw ?_
      rotate_left
      · (intro u hu; obtain ⟨h0, h1, h2⟩ := hu; first | (go_simp; done) | (go_simp; with_reducible rfl))
      try simp only [Act.put, List.getElem_toArray, List.getElem_cons_succ, List.getElem_cons_zero, List.setIfInBounds_toArray, List.set_cons_zero, List.set_cons_succ]
      refine wpAnyH_take (i := 2) (v := ?_) rfl (by kernel_rfl) (by kernel_rfl) (by kernel_rfl) (fun _ _ _ h => h) (Or.inl ⟨by kernel_rfl, ?_⟩) hSw ?_
      rotate_left
      · (intro u hu; obtain ⟨h0, h1, h2⟩ := hu; first | (go_simp; done) | (go_simp; with_reducible rfl))
      try simp only [Act.put, List.getElem_toArray, List.getElem_cons_succ, List.getElem_cons_zero, List.setIfInBounds_toArray, List.set_cons_zero, List.set_cons_succ]
      refine wpAnyH_take (i := 3) (v := ?_) rfl (by kernel_rfl) (by kernel_rfl) (by kernel_rfl) (fun _ _ _ h => h) (Or.inl ⟨by kernel_rfl, ?_⟩) hSw ?_
      rotate_left
      · (intro u hu; obtain ⟨h0, h1, h2⟩ := hu; first | (go_simp; done) | (go_simp; with_reducible rfl))
      try simp only [Act.put, List.getElem_toArray, List.getElem_cons_succ, List.getElem_cons_zero, List.setIfInBounds_toArray, List.set_cons_zero, List.set_cons_succ]
      refine wpAnyH_take (i := 4) (v := ?_) rfl (by kernel_rfl) (by kernel_rfl) (by kernel_rfl) (fun _ _ _ h => h) (Or.inl ⟨by kernel_rfl, ?_⟩) hSw ?_
      rotate_left
      · (intro u hu; obtain ⟨h0, h1, h2⟩ := hu; first | (go_simp; done) | (go_simp; with_reducible rfl))
      try simp only [Act.put, List.getElem_toArray, List.getElem_cons_succ, List.getElem_cons_zero, List.setIfInBounds_toArray, List.set_cons_zero, List.set_cons_succ]
      refine wpAnyH_take (i := 5) (v := ?_) rfl (by kernel_rfl) (by kernel_rfl) (by kernel_rfl) (fun _ _ _ h => h) (Or.inl ⟨by kernel_rfl, ?_⟩) hSw ?_
      rotate_left
      · (intro u hu; obtain ⟨h0, h1, h2⟩ := hu; first | (go_simp; done) | (go_simp; with_reducible rfl))
      try simp only [Act.put, List.getElem_toArray, List.getElem_cons_succ, List.getElem_cons_zero, List.setIfInBounds_toArray, List.set_cons_zero, List.set_cons_succ]
      refine wpAnyH_take (i := 6) (v := ?_) rfl (by kernel_rfl) (by kernel_rfl) (by kernel_rfl) (fun _ _ _ h => h) (Or.inl ⟨by kernel_rfl, ?_⟩) hSw ?_
      rotate_left
      · (intro u hu; obtain ⟨h0, h1, h2⟩ := hu; first | (go_simp; done) | (go_simp; with_reducible rfl))
      try simp only [Act.put, List.getElem_toArray, List.getElem_cons_succ, List.getElem_cons_zero, List.setIfInBounds_toArray, List.set_cons_zero, List.set_cons_succ]
      refine wpAnyH_take (i := 7) (v := ?_) rfl (by kernel_rfl) (by kernel_rfl) (by kernel_rfl) (fun _ _ _ h => h) (Or.inl ⟨by kernel_rfl, ?_⟩) hSw ?_
      rotate_left
      · (intro u hu; obtain ⟨h0, h1, h2⟩ := hu; first | (go_simp; done) | (go_simp; with_reducible rfl))
      try simp only [Act.put, List.getElem_toArray, List.getElem_cons_succ, List.getElem_cons_zero, List.setIfInBounds_toArray, List.set_cons_zero, List.set_cons_succ]
      refine wpAnyH_take (i := 8) (v := ?_) rfl (by kernel_rfl) (by kernel_rfl) (by kernel_rfl) (fun _ _ _ h => h) (Or.inl ⟨by kernel_rfl, ?_⟩) hSw ?_
      rotate_left
      · (intro u hu; obtain ⟨h0, h1, h2⟩ := hu; first | (go_simp; done) | (go_simp; with_reducible rfl))
      try simp only [Act.put, List.getElem_toArray, List.getElem_cons_succ, List.getElem_cons_zero, List.setIfInBounds_toArray, List.set_cons_zero, List.set_cons_succ]
      refine wpAnyH_take (i := 9) (v := ?_) rfl (by kernel_rfl) (by kernel_rfl) (by kernel_rfl) (fun _ _ _ h => h) (Or.inl ⟨by kernel_rfl, ?_⟩) hSw ?_
      rotate_left
      · (intro u hu; obtain ⟨h0, h1, h2⟩ := hu; first | (go_simp; done) | (go_simp; with_reducible rfl))
      try simp only [Act.put, List.getElem_toArray, List.getElem_cons_succ, List.getElem_cons_zero, List.setIfInBounds_toArray, List.set_cons_zero, List.set_cons_succ]
      refine wpAnyH_take (i := 10) (v := ?_) rfl (by kernel_rfl) (by kernel_rfl) (by kernel_rfl) (fun _ _ _ h => h) (Or.inl ⟨by kernel_rfl, ?_⟩) hSw ?_
      rotate_left
      · (intro u hu; obtain ⟨h0, h1, h2⟩ := hu; first | (go_simp; done) | (go_simp; with_reducible rfl))
      try simp only [Act.put, List.getElem_toArray, List.getElem_cons_succ, List.getElem_cons_zero, List.setIfInBounds_toArray, List.set_cons_zero, List.set_cons_succ]
      refine wpAnyH_take (i := 11) (v := ?_) rfl (by kernel_rfl) (by kernel_rfl) (by kernel_rfl) (fun _ _ _ h => h) (Or.inl ⟨by kernel_rfl, ?_⟩) hSw ?_
      rotate_left
      · (intro u hu; obtain ⟨h0, h1, h2⟩ := hu; first | (go_simp; done) | (go_simp; with_reducible rfl))
      try simp only [Act.put, List.getElem_toArray, List.getElem_cons_succ, List.getElem_cons_zero, List.setIfInBounds_toArray, List.set_cons_zero, List.set_cons_succ]
      refine wpAnyH_take (i := 12) (v := ?_) rfl (by kernel_rfl) (by kernel_rfl) (by kernel_rfl) (fun _ _ _ h => h) (Or.inl ⟨by kernel_rfl, ?_⟩) hSw ?_
      rotate_left
      · (intro u hu; obtain ⟨h0, h1, h2⟩ := hu; first | (go_simp; done) | (go_simp; with_reducible rfl))
      try simp only [Act.put, List.getElem_toArray, List.getElem_cons_succ, List.getElem_cons_zero, List.setIfInBounds_toArray, List.set_cons_zero, List.set_cons_succ]
      refine wpAnyH_take (i := 13) (v := ?_) rfl (by kernel_rfl) (by kernel_rfl) (by kernel_rfl) (fun _ _ _ h => h) (Or.inl ⟨by kernel_rfl, ?_⟩) hSw ?_
      rotate_left
      · (intro u hu; obtain ⟨h0, h1, h2⟩ := hu; first | (go_simp; done) | (go_simp; with_reducible rfl))
      try simp only [Act.put, List.getElem_toArray, List.getElem_cons_succ, List.getElem_cons_zero, List.setIfInBounds_toArray, List.set_cons_zero, List.set_cons_succ]
      refine wpAnyH_take (i := 14) (v := ?_) rfl (by kernel_rfl) (by kernel_rfl) (by kernel_rfl) (fun _ _ _ h => h) (Or.inl ⟨by kernel_rfl, ?_⟩) hSw ?_
      rotate_left
      · (intro u hu; obtain ⟨h0, h1, h2⟩ := hu; first | (go_simp; done) | (go_simp; with_reducible rfl))
      try simp only [Act.put, List.getElem_toArray, List.getElem_cons_succ, List.getElem_cons_zero, List.setIfInBounds_toArray, List.set_cons_zero, List.set_cons_succ]
      refine wpAnyH_take (i := 15) (v := ?_) rfl (by kernel_rfl) (by kernel_rfl) (by kernel_rfl) (fun _ _ _ h => h) (Or.inl ⟨by kernel_rfl, ?_⟩) hSw ?_
      rotate_left
      · (intro u hu; obtain ⟨h0, h1, h2⟩ := hu; first | (go_simp; done) | (go_simp; with_reducible rfl))
      try simp only [Act.put, List.getElem_toArray, List.getElem_cons_succ, List.getElem_cons_zero, List.setIfInBounds_toArray, List.set_cons_zero, List.set_cons_succ]
      refine wpAnyH_take (i := 16) (v := ?_) rfl (by kernel_rfl) (by kernel_rfl) (by kernel_rfl) (fun _ _ _ h => h) (Or.inl ⟨by kernel_rfl, ?_⟩) hSw ?_
      rotate_left
      · (intro u hu; obtain ⟨h0, h1, h2⟩ := hu; first | (go_simp; done) | (go_simp; with_reducible rfl))
      try simp only [Act.put, List.getElem_toArray, List.getElem_cons_succ, List.getElem_cons_zero, List.setIfInBounds_toArray, List.set_cons_zero, List.set_cons_succ]
      refine wpAnyH_take (i := 17) (v := ?_) rfl (by kernel_rfl) (by kernel_rfl) (by kernel_rfl) (fun _ _ _ h => h) (Or.inl ⟨by kernel_rfl, ?_⟩) hSw ?_
      rotate_left
      · (intro u hu; obtain ⟨h0, h1, h2⟩ := hu; first | (go_simp; done) | (go_simp; with_reducible rfl))
      try simp only [Act.put, List.getElem_toArray, List.getElem_cons_succ, List.getElem_cons_zero, List.setIfInBounds_toArray, List.set_cons_zero, List.set_cons_succ]
      refine wpAnyH_take (i := 18) (v := ?_) rfl (by kernel_rfl) (by kernel_rfl) (by kernel_rfl) (fun _ _ _ h => h) (Or.inl ⟨by kernel_rfl, ?_⟩) hSw ?_
      rotate_left
      · (intro u hu; obtain ⟨h0, h1, h2⟩ := hu; first | (go_simp; done) | (go_simp; with_reducible rfl))
      try simp only [Act.put, List.getElem_toArray, List.getElem_cons_succ, List.getElem_cons_zero, List.setIfInBounds_toArray, List.set_cons_zero, List.set_cons_succ]
      refine wpAnyH_take (i := 19) (v := ?_) rfl (by kernel_rfl) (by kernel_rfl) (by kernel_rfl) (fun _ _ _ h => h) (Or.inl ⟨by kernel_rfl, ?_⟩) hSw ?_
      rotate_left
      · (intro u hu; obtain ⟨h0, h1, h2⟩ := hu; first | (go_simp; done) | (go_simp; with_reducible rfl))
      try simp only [Act.put, List.getElem_toArray, List.getElem_cons_succ, List.getElem_cons_zero, List.setIfInBounds_toArray, List.set_cons_zero, List.set_cons_succ]
      refine wpAnyH_done (by kernel_rfl) ?_ _
      clear hSw z1 z2 z3 z4 z5 hpe hpp
      obtain ⟨wv, hwv⟩ : ∃ z, wr.drew = z := ⟨_, rfl⟩
      have YL2 := Lib.hid YL.out.drew
      have YX2 : Hid (IBox wr.drew _ _ _ _) := Lib.hid YX.out.drew
      have Y12 : Hid (Box wr.drew _ _ _ _) := Lib.hid Y1.out.drew
      have Y22 : Hid (Box wr.drew _ _ _ _) := Lib.hid Y2.out.drew
      have RA2 : Hid (Row wr.drew _ _ _) := Lib.hid HRA.out.drew
      have RB2 : Hid (Row wr.drew _ _ _) := Lib.hid HRB.out.drew
      rw [hwv] at YL2 YX2 Y12 Y22 RA2 RB2 ⊢
      clear hwv YL YX Y1 Y2 HRA HRB
      have nak : r1 ≠ ka ∧ r2 ≠ ka ∧ r1 ≠ kb ∧ r2 ≠ kb ∧ w.heap.size ≠ ka ∧ w.heap.size ≠ kb ∧ ka ≠ kb := by omega
      have hsk : w.heap.size ≤ ka ∧ w.heap.size ≤ kb ∧ w.heap.size ≤ r1 ∧ w.heap.size ≤ r2 := by omega
      have NAK := Lib.hid nak
      have HSK := Lib.hid hsk
      clear nak hsk
      obtain ⟨r10, r11, r12, r13, r14, r15, r16⟩ := Y12.out.all
      obtain ⟨r20, r21, r22, r23, r24, r25, r26⟩ := Y22.out.all
      by_cases hbad : pe = false ∧ pp = false
      · obtain ⟨rfl, rfl⟩ := hbad
        have hno : Hid (¬ AllF W M f a b) := Lib.hid (fun h => by have := h j hlt; rw [HEJ.out, HPJ.out] at this; cases this)
        go_wp2
        have P1 := (Y12.out.st3 0 0 (.slice none 0 0)).st3f n12' (.int .i64 0) (.int .i64 0) (.slice none 0 0)
        have P2 := (Y22.out.st3f n21 (.int .i64 0) (.int .i64 0) (.slice none 0 0)).st3 0 0 (.slice none 0 0)
        have PL := bel_st3 (bel_st3 YL2.out (g := r1) HSK.out.2.2.1 (.int .i64 0) (.int .i64 0) (.slice none 0 0)) (g := r2) HSK.out.2.2.2 (.int .i64 0) (.int .i64 0) (.slice none 0 0)
        generalize ((((((wv.setCell ⟨r1, 0, none⟩ (.int .i64 0)).setCell ⟨r1, 1, none⟩ (.int .i64 0)).setCell ⟨r1, 2, none⟩ (.slice none 0 0)).setCell ⟨r2, 0, none⟩ (.int .i64 0)).setCell ⟨r2, 1, none⟩ (.int .i64 0)).setCell ⟨r2, 2, none⟩ (.slice none 0 0)) = wz at *
        obtain ⟨s0, s1, s2, s3, s4, s5, s6⟩ := P1.all
        obtain ⟨t0, t1, t2, t3, t4, t5, t6⟩ := P2.all
        refine bodyPost_ret (v := .tuple #[.agg #[.int .i64 0, .int .i64 0, .slice none 0 0], .agg #[.int .i64 0, .int .i64 0, .slice none 0 0], .int .i64 6]) (by simp [results, Try.results44, go_sem, s0, s1, s2, t0, t1, t2]) rfl ?_
        exact .inr ⟨rfl, hno.out, PL⟩
      · have HGO := Lib.hid (show (hE W f a j || hP W f b j) = true from by rw [HEJ.out, HPJ.out]; cases pe <;> cases pp <;> simp_all)
        have HUP := Lib.hid (show upF W f a b j = (pe && !pp) from by unfold upF; rw [HEJ.out, HPJ.out])
        have HOP := Lib.hid (show opF W f a b j = (pe && pp) from by unfold opF; rw [HEJ.out, HPJ.out])
        have x1 := RA2.out.cell hlt
        have x2 := RA2.out.free j
        have x3 := RB2.out.cell hlt
        have x4 := RB2.out.free j
        have x5 := RA2.out.lt
        have x6 := RB2.out.lt
        obtain ⟨x7, x8, x9, x10, x11, x12, x13⟩ := NAK.out
        obtain ⟨bu, hbu⟩ : ∃ z, (pe && !pp) = z := ⟨_, rfl⟩
        obtain ⟨bo, hbo⟩ : ∃ z, (pe && pp) = z := ⟨_, rfl⟩
        rw [hbu] at HUP
        rw [hbo] at HOP
        have HSTEP := Lib.hid (show Row ((wv.setCell ⟨ka, j, none⟩ (.bool bu)).setCell ⟨kb, j, none⟩ (.bool bo)) ka M (fun i => if i < j + 1 then upF W f a b i else false) ∧ Row ((wv.setCell ⟨ka, j, none⟩ (.bool bu)).setCell ⟨kb, j, none⟩ (.bool bo)) kb M (fun i => if i < j + 1 then opF W f a b i else false) from
          ⟨((RA2.out.set_ j bu).far (p := ⟨kb, j, none⟩) x13 (.bool bo)).congr (fun i hi => by
            by_cases e : i = j
            · rw [if_pos e, if_pos (by omega), e, HUP.out]
            · rw [if_neg e]; by_cases h : i < j <;> simp [h, show (i < j + 1) = (i < j) from by simp; omega]),
           ((RB2.out.far (p := ⟨ka, j, none⟩) x13.symm (.bool bu)).set_ j bo).congr (fun i hi => by
            by_cases e : i = j
            · rw [if_pos e, if_pos (by omega), e, HOP.out]
            · rw [if_neg e]; by_cases h : i < j <;> simp [h, show (i < j + 1) = (i < j) from by simp; omega])⟩)
        have HSB := Lib.hid (show Box ((wv.setCell ⟨ka, j, none⟩ (.bool bu)).setCell ⟨kb, j, none⟩ (.bool bo)) r1 (W : Nat) (H : Nat) (.slice (some ⟨ka, 0, none⟩) M M) ∧ Box ((wv.setCell ⟨ka, j, none⟩ (.bool bu)).setCell ⟨kb, j, none⟩ (.bool bo)) r2 (W : Nat) (H : Nat) (.slice (some ⟨kb, 0, none⟩) M M) ∧ IBox ((wv.setCell ⟨ka, j, none⟩ (.bool bu)).setCell ⟨kb, j, none⟩ (.bool bo)) w.heap.size (W : Nat) (H : Nat) (.slice (some ⟨bf, of, none⟩) M c) ∧ Below w.heap.size w ((wv.setCell ⟨ka, j, none⟩ (.bool bu)).setCell ⟨kb, j, none⟩ (.bool bo)) from
          ⟨(Y12.out.far (p := ⟨ka, j, none⟩) x7 _).far (p := ⟨kb, j, none⟩) x9 _, (Y22.out.far (p := ⟨ka, j, none⟩) x8 _).far (p := ⟨kb, j, none⟩) x10 _, (YX2.out.far (p := ⟨ka, j, none⟩) x11 _).far (p := ⟨kb, j, none⟩) x12 _, (YL2.out.setCell (p := ⟨ka, j, none⟩) HSK.out.1 _).setCell (p := ⟨kb, j, none⟩) HSK.out.2.1 _⟩)
        have HFI2 := Lib.hid (fun i (hi : i < j + 1) => (show (hE W f a i || hP W f b i) = true from if e : i = j then by rw [e]; exact HGO.out else HFI.out i (by omega)))
        clear HGO HUP HOP
        cases pe <;> cases pp
        case neg.false.false => exact absurd ⟨rfl, rfl⟩ hbad
        all_goals
          simp only [Bool.and_true, Bool.and_false, Bool.not_true, Bool.not_false, Bool.false_and, Bool.true_and] at hbu hbo
          subst hbu hbo
          clear hbad
          go_wp2
          go_roundw
          case rel => exact ⟨j + 1, by omega, by go_num, HFI2, Lib.hid HSTEP.out.1, Lib.hid HSTEP.out.2, Lib.hid HSB.out.1, Lib.hid HSB.out.2.1, Lib.hid HSB.out.2.2.1, Lib.hid HSB.out.2.2.2⟩
          case measure => simp [intOf]; omega
    · have e : j = M := by omega
      have HOK := Lib.hid (show AllF W M f a b from fun i hi => HFI.out i (by omega))
      have HA9 := Lib.hid (HRA.out.congr (f' := upF W f a b) fun i hi => if_pos (by omega))
      have HB9 := Lib.hid (HRB.out.congr (f' := opF W f a b) fun i hi => if_pos (by omega))
      have nak : ka ≠ r1 ∧ ka ≠ r2 ∧ kb ≠ r1 ∧ kb ≠ r2 := by omega
      have hsk : w.heap.size ≤ r1 ∧ w.heap.size ≤ r2 := by omega
      have y1 : ¬ (j : Int) < (M : Int) := by omega
      clear e HFI HRA HRB
      obtain ⟨r10, r11, r12, r13, r14, r15, r16⟩ := Y1.out.all
      obtain ⟨r20, r21, r22, r23, r24, r25, r26⟩ := Y2.out.all
      go_wp2
      go_region
      go_wp2_with fail
      have P1 := (Y1.out.st3 (W : Nat) (H : Nat) (.slice (some ⟨ka, 0, none⟩) M M)).st3f n12' (.int .i64 (W : Nat)) (.int .i64 (H : Nat)) (.slice (some ⟨kb, 0, none⟩) M M)
      have P2 := (Y2.out.st3f n21 (.int .i64 (W : Nat)) (.int .i64 (H : Nat)) (.slice (some ⟨ka, 0, none⟩) M M)).st3 (W : Nat) (H : Nat) (.slice (some ⟨kb, 0, none⟩) M M)
      have PL := bel_st3 (bel_st3 YL.out (g := r1) hsk.1 (.int .i64 (W : Nat)) (.int .i64 (H : Nat)) (.slice (some ⟨ka, 0, none⟩) M M)) (g := r2) hsk.2 (.int .i64 (W : Nat)) (.int .i64 (H : Nat)) (.slice (some ⟨kb, 0, none⟩) M M)
      have PA := (HA9.out.st3 nak.1 (.int .i64 (W : Nat)) (.int .i64 (H : Nat)) (.slice (some ⟨ka, 0, none⟩) M M)).st3 nak.2.1 (.int .i64 (W : Nat)) (.int .i64 (H : Nat)) (.slice (some ⟨kb, 0, none⟩) M M)
      have PB := (HB9.out.st3 nak.2.2.1 (.int .i64 (W : Nat)) (.int .i64 (H : Nat)) (.slice (some ⟨ka, 0, none⟩) M M)).st3 nak.2.2.2 (.int .i64 (W : Nat)) (.int .i64 (H : Nat)) (.slice (some ⟨kb, 0, none⟩) M M)
      generalize ((((((wr.setCell ⟨r1, 0, none⟩ (.int .i64 (W : Nat))).setCell ⟨r1, 1, none⟩ (.int .i64 (H : Nat))).setCell ⟨r1, 2, none⟩ (.slice (some ⟨ka, 0, none⟩) M M)).setCell ⟨r2, 0, none⟩ (.int .i64 (W : Nat))).setCell ⟨r2, 1, none⟩ (.int .i64 (H : Nat))).setCell ⟨r2, 2, none⟩ (.slice (some ⟨kb, 0, none⟩) M M)) = wz at *
      obtain ⟨s0, s1, s2, s3, s4, s5, s6⟩ := P1.all
      obtain ⟨t0, t1, t2, t3, t4, t5, t6⟩ := P2.all
      refine bodyPost_ret (v := .tuple #[.agg #[.int .i64 (W : Nat), .int .i64 (H : Nat), .slice (some ⟨ka, 0, none⟩) M M], .agg #[.int .i64 (W : Nat), .int .i64 (H : Nat), .slice (some ⟨kb, 0, none⟩) M M], .int .i64 0]) (by simp [results, Try.results44, go_sem, s0, s1, s2, t0, t1, t2]) rfl ?_
      exact .inl ⟨_, _, _, _, rfl, HOK.out, PA.holds PA.lt, PB.holds PB.lt, PL.drew⟩
end Go.Proofs.Ytmcdfnhpaneanaa
