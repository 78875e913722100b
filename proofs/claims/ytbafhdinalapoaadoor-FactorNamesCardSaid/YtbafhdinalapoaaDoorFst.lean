/- The program's sorted and Count, of valid grids; has and uses. -/
import Derived.Test.YtbafhdinalapoaaDoorFrk
import Derived.Test.YtbafhdinalapoaaDoorIUsd
import Derived.Deep.RegionHeld3
import Derived.Deep.DeepCutAuto
namespace Go.Proofs.YtbafhdinalapoaaDoor
open Go.RowKit
set_option linter.unusedVariables false
set_option linter.unusedSimpArgs false
set_option maxRecDepth 100000

open L2 (nd ren)
/-- The cells of a turned grid. -/
def tnf (W H : Nat) (f : Nat → Bool) (i : Nat) : Bool := f (i % H * W + i / H)
/-- What sorted hands back of a valid grid: the kinds of its columns, their first columns, the kinds of its rows, their first rows. -/
def SOut (w : World) (W H : Nat) (f : Nat → Bool) (e : Ending) (w' : World) : Prop :=
  ∃ A1 c1 A2 c2 A3 c3 A4 c4, e = .returned (.tuple #[.agg #[.slice A1 W c1, .slice A2 (nd (rc H (tnf W H f)) W) c2, .slice A3 H c3, .slice A4 (nd (rc W f) H) c4], .int .i64 0]) ∧
    (0 < W → ∃ k, A1 = some ⟨k, 0, none⟩ ∧ w.heap.size ≤ k ∧ L2.Row w' k W (ren (rc H (tnf W H f)))) ∧ (0 < nd (rc H (tnf W H f)) W → ∃ q, A2 = some ⟨q, 0, none⟩ ∧ w.heap.size ≤ q ∧ L2.Row w' q (nd (rc H (tnf W H f)) W) (fun k => (frn (rc H (tnf W H f)) W k : Nat))) ∧
    (0 < H → ∃ k, A3 = some ⟨k, 0, none⟩ ∧ w.heap.size ≤ k ∧ L2.Row w' k H (ren (rc W f))) ∧ (0 < nd (rc W f) H → ∃ q, A4 = some ⟨q, 0, none⟩ ∧ w.heap.size ≤ q ∧ L2.Row w' q (nd (rc W f) H) (fun k => (frn (rc W f) H k : Nat))) ∧ Below w.heap.size w w'
theorem turn_tnf (W H : Nat) (A : Option Addr) (c : Nat) (f : Nat → Bool) (w : World) (hr : Holds w w.heap.size A (W * H) f) (hW0 : 1 ≤ W) (hW : W ≤ 64) (hH0 : 1 ≤ H) (hH : H ≤ 64) :
    Calls Tryd.prog 32 #[.agg #[.int .i64 W, .int .i64 H, .slice A (W * H) c]] w (OkGrid w H W (tnf W H f)) := turn_ok W H A c f w hr hW0 hW hH0 hH

/-- A variable of four slices. -/
def Q4 (w : World) (g : Nat) (a b c d : Value) : Prop := w.heap[g]? = some (.cells #[a, b, c, d] 65 (0, 0))
section
variable {w w' : World} {g : Nat} {a b c d : Value}
theorem Q4.lt (h : Q4 w g a b c d) : g < w.heap.size := by
  unfold Q4 at h
  rcases Nat.lt_or_ge g w.heap.size with hlt | hge
  · exact hlt
  · rw [Array.getElem?_eq_none hge] at h; cases h
theorem Q4.all (h : Q4 w g a b c d) : w.cell? ⟨g, 0, none⟩ = some a ∧ w.cell? ⟨g, 1, none⟩ = some b ∧ w.cell? ⟨g, 2, none⟩ = some c ∧ w.cell? ⟨g, 3, none⟩ = some d ∧ w.frozen? ⟨g, 0, none⟩ = false ∧ w.frozen? ⟨g, 1, none⟩ = false ∧ w.frozen? ⟨g, 2, none⟩ = false ∧ w.frozen? ⟨g, 3, none⟩ = false ∧ g < w.heap.size := by
  refine ⟨?_, ?_, ?_, ?_, ?_, ?_, ?_, ?_, h.lt⟩ <;> (unfold Q4 at h; simp [World.cell?, World.frozen?, h])
theorem Q4.below {B : Nat} (h : Q4 w g a b c d) (hb : Below B w w') (hg : g < B) : Q4 w' g a b c d := (hb.block g hg).trans h
theorem Q4.new (w : World) (a b c d : Value) : Q4 (w.alloc (.cells #[a, b, c, d] 65)) w.heap.size a b c d := heap_alloc_new w _
theorem Q4.fill (h : Q4 w g a b c d) (x y u v : Value) : Q4 ((((w.setCell ⟨g, 0, none⟩ x).setCell ⟨g, 1, none⟩ y).setCell ⟨g, 2, none⟩ u).setCell ⟨g, 3, none⟩ v) g x y u v := by
  unfold Q4 at h ⊢
  simp [World.setCell, Array.getElem?_modify, h]
end

set_option maxHeartbeats 1600000 in
theorem sorted_ok (W H : Nat) (b o cap : Nat) (f : Nat → Bool) (w : World) (hr : Holds w w.heap.size (some ⟨b, o, none⟩) (W * H) f) (hcap : W * H ≤ cap) (hW0 : 1 ≤ W) (hW : W ≤ 64) (hH0 : 1 ≤ H) (hH : H ≤ 64) :
    Calls Tryd.prog 35 #[.agg #[.int .i64 W, .int .i64 H, .slice (some ⟨b, o, none⟩) (W * H) cap]] w (SOut w W H f) := by
  have HR := Lib.hid hr
  have HC := Lib.hid hcap
  clear hr hcap
  have G0 := Lib.hid ((Box.new w W H (.slice (some ⟨b, o, none⟩) (W * H) cap)).alloc (.cells #[.slice none 0 0, .slice none 0 0, .slice none 0 0, .slice none 0 0] 65))
  have L0 := Lib.hid (show Below w.heap.size w ((w.alloc (.cells #[.int .i64 W, .int .i64 H, .slice (some ⟨b, o, none⟩) (W * H) cap] 25)).alloc (.cells #[.slice none 0 0, .slice none 0 0, .slice none 0 0, .slice none 0 0] 65)) from ((Below.refl _ _).alloc (Nat.le_refl _) _).alloc (by simp) _)
  have R0 := Lib.hid (Q4.new (w.alloc (.cells #[.int .i64 W, .int .i64 H, .slice (some ⟨b, o, none⟩) (W * H) cap] 25)) (.slice none 0 0) (.slice none 0 0) (.slice none 0 0) (.slice none 0 0))
  have hs0 : ((w.alloc (.cells #[.int .i64 W, .int .i64 H, .slice (some ⟨b, o, none⟩) (W * H) cap] 25)).alloc (.cells #[.slice none 0 0, .slice none 0 0, .slice none 0 0, .slice none 0 0] 65)).heap.size = w.heap.size + 2 := by simp
  go_enter Tryd.func35, Tryd.ntmps35
  go_wp2_with fail
  simp only [World.size_alloc] at R0
  generalize (w.alloc (.cells #[.int .i64 W, .int .i64 H, .slice (some ⟨b, o, none⟩) (W * H) cap] 25)).alloc (.cells #[.slice none 0 0, .slice none 0 0, .slice none 0 0, .slice none 0 0] 65) = v0 at *
  refine (turn_tnf W H (some ⟨b, o, none⟩) cap f v0 ((HR.out.below L0.out).more L0.out.size) hW0 hW hH0 hH).mono ?_
  rintro e w1 ⟨k, rfl, hk, hrow, hb⟩
  have hk2 := hrow.lt
  have hbv : Below w1.heap.size w1 (w1.alloc (.cells #[.int .i64 H, .int .i64 W, .slice (some ⟨k, 0, none⟩) (H * W) (H * W)] 25)) := (Below.refl _ _).alloc (Nat.le_refl _) _
  have G2 := Lib.hid ((G0.out.below hb G0.out.lt).below hbv (Nat.lt_of_lt_of_le G0.out.lt hb.size))
  have Z2 := Lib.hid ((R0.out.below hb R0.out.lt).below hbv (Nat.lt_of_lt_of_le R0.out.lt hb.size))
  have R2 := Lib.hid (hrow.below hbv hk2)
  have T2 : Hid (Box (w1.alloc (.cells #[.int .i64 H, .int .i64 W, .slice (some ⟨k, 0, none⟩) (H * W) (H * W)] 25)) w1.heap.size H W (.slice (some ⟨k, 0, none⟩) (H * W) (H * W))) := Lib.hid (Box.new w1 H W _)
  have LB2 := Lib.hid ((L0.out.trans (hb.mono L0.out.size)).trans (hbv.mono (Nat.le_trans L0.out.size hb.size)))
  have hs2 : (w1.alloc (.cells #[.int .i64 H, .int .i64 W, .slice (some ⟨k, 0, none⟩) (H * W) (H * W)] 25)).heap.size = w1.heap.size + 1 := by simp
  have hs1 := hb.size
  have HK := Lib.hid hk
  clear hb hrow hk hbv
  go_upto_region 4 with fail
  generalize w1.alloc (.cells #[.int .i64 H, .int .i64 W, .slice (some ⟨k, 0, none⟩) (H * W) (H * W)] 25) = v2 at *
  have HS : Hid (∀ w', Below v2.heap.size v2 w' → w'.cell? ⟨w.heap.size, 0, none⟩ = some (.int .i64 W) ∧ w'.cell? ⟨w.heap.size, 1, none⟩ = some (.int .i64 H) ∧ w'.cell? ⟨w.heap.size, 2, none⟩ = some (.slice (some ⟨b, o, none⟩) (W * H) cap) ∧ w'.cell? ⟨w1.heap.size, 0, none⟩ = some (.int .i64 H) ∧ w'.cell? ⟨w1.heap.size, 1, none⟩ = some (.int .i64 W) ∧ w'.cell? ⟨w1.heap.size, 2, none⟩ = some (.slice (some ⟨k, 0, none⟩) (H * W) (H * W))) := Lib.hid (fun w' h => by
    have y1 := (G2.out.below h G2.out.lt).all
    have y2 := (T2.out.below h T2.out.lt).all
    exact ⟨y1.1, y1.2.1, y1.2.2.1, y2.1, y2.2.1, y2.2.2.1⟩)
  have K1 := Lib.hid (fun w' (h : Below v2.heap.size v2 w') => frk_any H W k 0 (H * W) (tnf W H f) (v2.heap.size) w' ((R2.out.holds R2.out.lt).below h) h.size (Nat.le_refl _) hH0 hH hW)
  have K2 := Lib.hid (fun w' (h : Below v2.heap.size v2 w') => frk_any W H b o cap f w.heap.size w' (HR.out.below (LB2.out.trans (h.mono LB2.out.size))) (Nat.le_trans LB2.out.size h.size) HC.out hW0 hW hH)
  have HT : Hid (∀ (w' : World) (i : Nat) (x : Value), (w'.cell? ⟨w.heap.size, 0, none⟩ = some (.int .i64 W) ∧ w'.cell? ⟨w.heap.size, 1, none⟩ = some (.int .i64 H) ∧ w'.cell? ⟨w.heap.size, 2, none⟩ = some (.slice (some ⟨b, o, none⟩) (W * H) cap) ∧ w'.cell? ⟨w1.heap.size, 0, none⟩ = some (.int .i64 H) ∧ w'.cell? ⟨w1.heap.size, 1, none⟩ = some (.int .i64 W) ∧ w'.cell? ⟨w1.heap.size, 2, none⟩ = some (.slice (some ⟨k, 0, none⟩) (H * W) (H * W))) → ((w'.setCell ⟨w.heap.size + 1, i, none⟩ x).cell? ⟨w.heap.size, 0, none⟩ = some (.int .i64 W) ∧ (w'.setCell ⟨w.heap.size + 1, i, none⟩ x).cell? ⟨w.heap.size, 1, none⟩ = some (.int .i64 H) ∧ (w'.setCell ⟨w.heap.size + 1, i, none⟩ x).cell? ⟨w.heap.size, 2, none⟩ = some (.slice (some ⟨b, o, none⟩) (W * H) cap) ∧ (w'.setCell ⟨w.heap.size + 1, i, none⟩ x).cell? ⟨w1.heap.size, 0, none⟩ = some (.int .i64 H) ∧ (w'.setCell ⟨w.heap.size + 1, i, none⟩ x).cell? ⟨w1.heap.size, 1, none⟩ = some (.int .i64 W) ∧ (w'.setCell ⟨w.heap.size + 1, i, none⟩ x).cell? ⟨w1.heap.size, 2, none⟩ = some (.slice (some ⟨k, 0, none⟩) (H * W) (H * W)))) := Lib.hid (fun w' i x h => by
    obtain ⟨a0, a1, a2, a3, a4, a5⟩ := h
    have e1 : w.heap.size ≠ w.heap.size + 1 := by omega
    have e2 : w1.heap.size ≠ w.heap.size + 1 := by omega
    exact ⟨(World.cell?_of_block (Below.heap_setCell w' ⟨w.heap.size + 1, i, none⟩ x _ e1)).trans a0, (World.cell?_of_block (Below.heap_setCell w' ⟨w.heap.size + 1, i, none⟩ x _ e1)).trans a1, (World.cell?_of_block (Below.heap_setCell w' ⟨w.heap.size + 1, i, none⟩ x _ e1)).trans a2,
      (World.cell?_of_block (Below.heap_setCell w' ⟨w.heap.size + 1, i, none⟩ x _ e2)).trans a3, (World.cell?_of_block (Below.heap_setCell w' ⟨w.heap.size + 1, i, none⟩ x _ e2)).trans a4, (World.cell?_of_block (Below.heap_setCell w' ⟨w.heap.size + 1, i, none⟩ x _ e2)).trans a5⟩)
  have hz := Below.refl v2.heap.size v2
  have hbx := hz.drew
  have hSu := HS.out _ hbx
  clear hz
  go_region_held3 (fun w' => w'.cell? ⟨w.heap.size, 0, none⟩ = some (.int .i64 W) ∧ w'.cell? ⟨w.heap.size, 1, none⟩ = some (.int .i64 H) ∧ w'.cell? ⟨w.heap.size, 2, none⟩ = some (.slice (some ⟨b, o, none⟩) (W * H) cap) ∧ w'.cell? ⟨w1.heap.size, 0, none⟩ = some (.int .i64 H) ∧ w'.cell? ⟨w1.heap.size, 1, none⟩ = some (.int .i64 W) ∧ w'.cell? ⟨w1.heap.size, 2, none⟩ = some (.slice (some ⟨k, 0, none⟩) (H * W) (H * W)))
    (first
      | with_reducible exact hSu
      | with_reducible exact HT.out _ _ _ (HT.out _ _ _ hSu)
      | with_reducible exact HT.out _ _ _ (HT.out _ _ _ (HT.out _ _ _ (HT.out _ _ _ hSu))))
    (first
      | (go_at_call 62
         with_reducible refine Calls.mono (K1.out _ hbx) ?_
         rintro e u ⟨A1, c1, A2, c2, rfl, hq1, hq2, hbu⟩
         have HQ1 := Lib.hid hq1
         have HQ2 := Lib.hid hq2
         have HBU := Lib.hid hbu
         have hbx := hbx.trans (hbu.mono hbx.size)
         have hSu := HS.out _ hbx
         clear hq1 hq2)
      | (go_at_call 62
         with_reducible refine Calls.mono (K2.out _ hbx) ?_
         rintro e u ⟨A3, c3, A4, c4, rfl, hq3, hq4, hbu⟩
         have HQ3 := Lib.hid hq3
         have HQ4 := Lib.hid hq4
         have HBU2 := Lib.hid hbu
         have hbx := hbx.trans (hbu.mono hbx.size)
         obtain ⟨z0, z1, z2, z3, z4, z5, z6, z7, z8⟩ := (Z2.out.below hbx Z2.out.lt).all
         have hSu := HS.out _ hbx
         clear hq3 hq4))
  have hq := (Z2.out.below hbx Z2.out.lt).fill (.slice A1 W c1) (.slice A2 (nd (rc H (tnf W H f)) W) c2) (.slice A3 H c3) (.slice A4 (nd (rc W f) H) c4)
  have HQQ := Lib.hid (hq.fill (.slice A1 W c1) (.slice A2 (nd (rc H (tnf W H f)) W) c2) (.slice A3 H c3) (.slice A4 (nd (rc W f) H) c4)).all
  obtain ⟨y0, y1, y2, y3, y4, y5, y6, y7, y8⟩ := hq.all
  have hle : w.heap.size ≤ v2.heap.size := LB2.out.size
  have hs3 : w.heap.size + 2 ≤ v2.heap.size := by omega
  have fb : ∀ (z : World) (a b c d : Value), Below w.heap.size w z → Below w.heap.size w ((((z.setCell ⟨w.heap.size + 1, 0, none⟩ a).setCell ⟨w.heap.size + 1, 1, none⟩ b).setCell ⟨w.heap.size + 1, 2, none⟩ c).setCell ⟨w.heap.size + 1, 3, none⟩ d) := fun z a b c d h =>
    Below.setCell (Below.setCell (Below.setCell (Below.setCell h (by simp) _) (by simp) _) (by simp) _) (by simp) _
  have fr : ∀ (z : World) (a b c d : Value) (q n : Nat) (F : Nat → Int), w.heap.size + 2 ≤ q → L2.Row z q n F → L2.Row ((((z.setCell ⟨w.heap.size + 1, 0, none⟩ a).setCell ⟨w.heap.size + 1, 1, none⟩ b).setCell ⟨w.heap.size + 1, 2, none⟩ c).setCell ⟨w.heap.size + 1, 3, none⟩ d) q n F :=
    fun z a b c d q n F h1 h2 => (((h2.far (by simp; omega) _).far (by simp; omega) _).far (by simp; omega) _).far (by simp; omega) _
  have HX : Hid (∀ wf, wf = ((((((((u.setCell ⟨w.heap.size + 1, 0, none⟩ (.slice A1 W c1)).setCell ⟨w.heap.size + 1, 1, none⟩ (.slice A2 (nd (rc H (tnf W H f)) W) c2)).setCell ⟨w.heap.size + 1, 2, none⟩ (.slice A3 H c3)).setCell ⟨w.heap.size + 1, 3, none⟩ (.slice A4 (nd (rc W f) H) c4)).setCell ⟨w.heap.size + 1, 0, none⟩ (.slice A1 W c1)).setCell ⟨w.heap.size + 1, 1, none⟩ (.slice A2 (nd (rc H (tnf W H f)) W) c2)).setCell ⟨w.heap.size + 1, 2, none⟩ (.slice A3 H c3)).setCell ⟨w.heap.size + 1, 3, none⟩ (.slice A4 (nd (rc W f) H) c4)) → SOut w W H f (.returned (.tuple #[.agg #[.slice A1 W c1, .slice A2 (nd (rc H (tnf W H f)) W) c2, .slice A3 H c3, .slice A4 (nd (rc W f) H) c4], .int .i64 0])) wf) := by
    rintro wf rfl
    refine ⟨A1, c1, A2, c2, A3, c3, A4, c4, rfl, fun h => ?_, fun h => ?_, fun h => ?_, fun h => ?_, fb _ _ _ _ _ (fb _ _ _ _ _ (LB2.out.trans (hbx.mono hle)))⟩
    · obtain ⟨q, e, h1, h2⟩ := HQ1.out h
      have h3 : w.heap.size + 2 ≤ q := Nat.le_trans hs3 h1
      exact ⟨q, e, by omega, fr _ _ _ _ _ _ _ _ h3 (fr _ _ _ _ _ _ _ _ h3 (h2.below HBU2.out h2.lt))⟩
    · obtain ⟨q, e, h1, h2⟩ := HQ2.out h
      have h3 : w.heap.size + 2 ≤ q := Nat.le_trans hs3 h1
      exact ⟨q, e, by omega, fr _ _ _ _ _ _ _ _ h3 (fr _ _ _ _ _ _ _ _ h3 (h2.below HBU2.out h2.lt))⟩
    · obtain ⟨q, e, h1, h2⟩ := HQ3.out h
      have h3 : w.heap.size + 2 ≤ q := Nat.le_trans hs3 (Nat.le_trans HBU.out.size h1)
      exact ⟨q, e, by omega, fr _ _ _ _ _ _ _ _ h3 (fr _ _ _ _ _ _ _ _ h3 h2)⟩
    · obtain ⟨q, e, h1, h2⟩ := HQ4.out h
      have h3 : w.heap.size + 2 ≤ q := Nat.le_trans hs3 (Nat.le_trans HBU.out.size h1)
      exact ⟨q, e, by omega, fr _ _ _ _ _ _ _ _ h3 (fr _ _ _ _ _ _ _ _ h3 h2)⟩
  clear hq fb fr hSu z0 z1 z2 z3 z4 z5 z6 z7 z8 HQ1 HQ2 HQ3 HQ4
  go_wp2
  clear y0 y1 y2 y3 y4 y5 y6 y7 y8
  obtain ⟨y0, y1, y2, y3, y4, y5, y6, y7, y8⟩ := HQQ.out
  have hx := HX.out _ rfl
  generalize (((((((u.setCell ⟨w.heap.size + 1, 0, none⟩ (.slice A1 W c1)).setCell ⟨w.heap.size + 1, 1, none⟩ (.slice A2 (nd (rc H (tnf W H f)) W) c2)).setCell ⟨w.heap.size + 1, 2, none⟩ (.slice A3 H c3)).setCell ⟨w.heap.size + 1, 3, none⟩ (.slice A4 (nd (rc W f) H) c4)).setCell ⟨w.heap.size + 1, 0, none⟩ (.slice A1 W c1)).setCell ⟨w.heap.size + 1, 1, none⟩ (.slice A2 (nd (rc H (tnf W H f)) W) c2)).setCell ⟨w.heap.size + 1, 2, none⟩ (.slice A3 H c3)).setCell ⟨w.heap.size + 1, 3, none⟩ (.slice A4 (nd (rc W f) H) c4) = wf at *
  exact bodyPost_ret (v := .tuple #[.agg #[.slice A1 W c1, .slice A2 (nd (rc H (tnf W H f)) W) c2, .slice A3 H c3, .slice A4 (nd (rc W f) H) c4], .int .i64 0]) (by simp [results, Tryd.results35, go_sem, y0, y1, y2, y3]) rfl hx
end Go.Proofs.YtbafhdinalapoaaDoor
