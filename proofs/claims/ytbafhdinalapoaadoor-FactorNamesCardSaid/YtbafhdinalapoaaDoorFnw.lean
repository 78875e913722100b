/- The statement FactorNames: the walk. -/
import Derived.Test.YtbafhdinalapoaaDoorFnm
import Derived.Deep.Grids
namespace Go.Proofs.YtbafhdinalapoaaDoor
open Go.RowKit
set_option linter.unusedVariables false
set_option linter.unusedSimpArgs false
set_option maxRecDepth 100000

open L2 (nd ren)
theorem irow_drew {w : World} {g n : Nat} {f : Nat → Int} (h : L2.Row w g n f) : L2.Row w.drew g n f := h
theorem in_drew {D : Dr} {w : World} {B : Nat} (h : D.In w B) : D.In w.drew B := ⟨h.th, h.tr, h.ti⟩
theorem al4 {w : World} {g a ca b cb c cc : Nat} {P : PD} (h : DBox w g (P.dr a ca b cb c cc)) (s t n m k : Nat) (e1 : P.S = s) (e2 : P.T = t) (e3 : P.n = n) (e4 : P.m = m) (e5 : P.T * P.S = k) :
    w.cell? ⟨g, 0, none⟩ = some (.int .i64 s) ∧ w.cell? ⟨g, 1, none⟩ = some (.int .i64 t) ∧ w.cell? ⟨g, 2, none⟩ = some (.slice (some ⟨a, 0, none⟩) n ca) ∧ w.cell? ⟨g, 3, none⟩ = some (.slice (some ⟨b, 0, none⟩) m cb) ∧
    w.cell? ⟨g, 4, none⟩ = some (.int .i64 t) ∧ w.cell? ⟨g, 5, none⟩ = some (.int .i64 s) ∧ w.cell? ⟨g, 6, none⟩ = some (.slice (some ⟨c, 0, none⟩) k cc) ∧ g < w.heap.size := by
  subst e1 e2 e3 e4 e5
  exact h.all
theorem npa {w : World} {g a ca b cb c cc : Nat} (h : DBox w g (np.dr a ca b cb c cc)) : w.cell? ⟨g, 0, none⟩ = some (.int .i64 2) ∧ w.cell? ⟨g, 1, none⟩ = some (.int .i64 2) ∧ w.cell? ⟨g, 2, none⟩ = some (.slice (some ⟨a, 0, none⟩) 4 ca) ∧ w.cell? ⟨g, 3, none⟩ = some (.slice (some ⟨b, 0, none⟩) 3 cb) ∧
    w.cell? ⟨g, 4, none⟩ = some (.int .i64 2) ∧ w.cell? ⟨g, 5, none⟩ = some (.int .i64 2) ∧ w.cell? ⟨g, 6, none⟩ = some (.slice (some ⟨c, 0, none⟩) 4 cc) ∧ g < w.heap.size := al4 h 2 2 4 3 4 rfl rfl rfl rfl rfl
theorem tra {w : World} {g a ca b cb c cc : Nat} (h : DBox w g (trn.dr a ca b cb c cc)) : w.cell? ⟨g, 0, none⟩ = some (.int .i64 2) ∧ w.cell? ⟨g, 1, none⟩ = some (.int .i64 2) ∧ w.cell? ⟨g, 2, none⟩ = some (.slice (some ⟨a, 0, none⟩) 4 ca) ∧ w.cell? ⟨g, 3, none⟩ = some (.slice (some ⟨b, 0, none⟩) 3 cb) ∧
    w.cell? ⟨g, 4, none⟩ = some (.int .i64 2) ∧ w.cell? ⟨g, 5, none⟩ = some (.int .i64 2) ∧ w.cell? ⟨g, 6, none⟩ = some (.slice (some ⟨c, 0, none⟩) 4 cc) ∧ g < w.heap.size := al4 h 2 2 4 3 4 rfl rfl rfl rfl rfl
theorem ota {w : World} {g a ca b cb c cc : Nat} (h : DBox w g (ot.dr a ca b cb c cc)) : w.cell? ⟨g, 0, none⟩ = some (.int .i64 2) ∧ w.cell? ⟨g, 1, none⟩ = some (.int .i64 2) ∧ w.cell? ⟨g, 2, none⟩ = some (.slice (some ⟨a, 0, none⟩) 4 ca) ∧ w.cell? ⟨g, 3, none⟩ = some (.slice (some ⟨b, 0, none⟩) 3 cb) ∧
    w.cell? ⟨g, 4, none⟩ = some (.int .i64 2) ∧ w.cell? ⟨g, 5, none⟩ = some (.int .i64 2) ∧ w.cell? ⟨g, 6, none⟩ = some (.slice (some ⟨c, 0, none⟩) 4 cc) ∧ g < w.heap.size := al4 h 2 2 4 3 4 rfl rfl rfl rfl rfl
theorem twa {w : World} {g a ca b cb c cc : Nat} (h : DBox w g (tw.dr a ca b cb c cc)) : w.cell? ⟨g, 0, none⟩ = some (.int .i64 2) ∧ w.cell? ⟨g, 1, none⟩ = some (.int .i64 1) ∧ w.cell? ⟨g, 2, none⟩ = some (.slice (some ⟨a, 0, none⟩) 2 ca) ∧ w.cell? ⟨g, 3, none⟩ = some (.slice (some ⟨b, 0, none⟩) 1 cb) ∧
    w.cell? ⟨g, 4, none⟩ = some (.int .i64 1) ∧ w.cell? ⟨g, 5, none⟩ = some (.int .i64 2) ∧ w.cell? ⟨g, 6, none⟩ = some (.slice (some ⟨c, 0, none⟩) 2 cc) ∧ g < w.heap.size := al4 h 2 1 2 1 2 rfl rfl rfl rfl rfl
theorem spa {w : World} {g a ca b cb c cc : Nat} (h : DBox w g (sp.dr a ca b cb c cc)) : w.cell? ⟨g, 0, none⟩ = some (.int .i64 2) ∧ w.cell? ⟨g, 1, none⟩ = some (.int .i64 1) ∧ w.cell? ⟨g, 2, none⟩ = some (.slice (some ⟨a, 0, none⟩) 2 ca) ∧ w.cell? ⟨g, 3, none⟩ = some (.slice (some ⟨b, 0, none⟩) 1 cb) ∧
    w.cell? ⟨g, 4, none⟩ = some (.int .i64 1) ∧ w.cell? ⟨g, 5, none⟩ = some (.int .i64 2) ∧ w.cell? ⟨g, 6, none⟩ = some (.slice (some ⟨c, 0, none⟩) 2 cc) ∧ g < w.heap.size := al4 h 2 1 2 1 2 rfl rfl rfl rfl rfl
theorem brow_lit (w : World) : Row (w.alloc (.cells #[.bool true, .bool true] 4)) w.heap.size 2 (fun _ => true) :=
  ⟨#[.bool true, .bool true], heap_new w _, by simp, fun i hi => by
    rcases i with _ | _ | i
    · rfl
    · rfl
    · omega⟩
/-- The draft 'twice', where it is laid. -/
theorem tw_made (v : World) : DBox ((((v.alloc (.cells #[.int .i64 0, .int .i64 1] 3)).alloc (.cells #[.int .i64 0] 3)).alloc (.cells #[.bool true, .bool true] 4)).alloc (.cells #[.int .i64 2, .int .i64 1, .slice (some ⟨v.heap.size, 0, none⟩) 2 2, .slice (some ⟨v.heap.size + 1, 0, none⟩) 1 1, .int .i64 1, .int .i64 2, .slice (some ⟨v.heap.size + 2, 0, none⟩) 2 2] 27)) (v.heap.size + 3) (tw.dr v.heap.size 2 (v.heap.size + 1) 1 (v.heap.size + 2) 2) ∧
    (tw.dr v.heap.size 2 (v.heap.size + 1) 1 (v.heap.size + 2) 2).In ((((v.alloc (.cells #[.int .i64 0, .int .i64 1] 3)).alloc (.cells #[.int .i64 0] 3)).alloc (.cells #[.bool true, .bool true] 4)).alloc (.cells #[.int .i64 2, .int .i64 1, .slice (some ⟨v.heap.size, 0, none⟩) 2 2, .slice (some ⟨v.heap.size + 1, 0, none⟩) 1 1, .int .i64 1, .int .i64 2, .slice (some ⟨v.heap.size + 2, 0, none⟩) 2 2] 27)) (v.heap.size + 4) ∧
    Below v.heap.size v ((((v.alloc (.cells #[.int .i64 0, .int .i64 1] 3)).alloc (.cells #[.int .i64 0] 3)).alloc (.cells #[.bool true, .bool true] 4)).alloc (.cells #[.int .i64 2, .int .i64 1, .slice (some ⟨v.heap.size, 0, none⟩) 2 2, .slice (some ⟨v.heap.size + 1, 0, none⟩) 1 1, .int .i64 1, .int .i64 2, .slice (some ⟨v.heap.size + 2, 0, none⟩) 2 2] 27)) := by
  have h4 := DBox.new (((v.alloc (.cells #[.int .i64 0, .int .i64 1] 3)).alloc (.cells #[.int .i64 0] 3)).alloc (.cells #[.bool true, .bool true] 4)) (tw.dr v.heap.size 2 (v.heap.size + 1) 1 (v.heap.size + 2) 2)
  have h1 := irow_lit v [0, 1]
  have h2 := irow_lit (v.alloc (.cells #[.int .i64 0, .int .i64 1] 3)) [0]
  have h3 := brow_lit ((v.alloc (.cells #[.int .i64 0, .int .i64 1] 3)).alloc (.cells #[.int .i64 0] 3))
  simp only [World.size_alloc] at h2 h3 h4
  refine ⟨h4, ⟨?_, ?_, ?_⟩, (((((Below.refl _ _).alloc (Nat.le_refl _) _).alloc (by simp) _).alloc (by simp; omega) _).alloc (by simp; omega) _)⟩
  · exact L2.Row.holds ((((h1.alloc _).alloc _).alloc _).congr (f' := fun i => (tw.F i : Nat)) (by decide)) (by omega)
  · exact L2.Row.holds (((h2.alloc _).alloc _).congr (f' := fun i => (tw.G i : Nat)) (by decide)) (by omega)
  · exact (((h3.alloc _)).congr (f' := fun i => tw.L (i % tw.T) (i / tw.T)) (by decide)).holds (by omega)
/-- The draft 'spare', where it is laid. -/
theorem sp_made (v : World) (x cx y cy z cz : Nat) (hd : (tw.dr x cx y cy z cz).In v v.heap.size) :
    DBox ((v.alloc (.cells (#[.int .i64 2, .int .i64 1, .slice (some ⟨v.heap.size + 1, 0, none⟩) 2 2, .slice (some ⟨y, 0, none⟩) 1 cy, .int .i64 1, .int .i64 2, .slice (some ⟨z, 0, none⟩) 2 cz]) 27)).alloc (.cells #[.int .i64 0, .int .i64 0] 3)) v.heap.size (sp.dr (v.heap.size + 1) 2 y cy z cz) ∧
    (sp.dr (v.heap.size + 1) 2 y cy z cz).In ((v.alloc (.cells (#[.int .i64 2, .int .i64 1, .slice (some ⟨v.heap.size + 1, 0, none⟩) 2 2, .slice (some ⟨y, 0, none⟩) 1 cy, .int .i64 1, .int .i64 2, .slice (some ⟨z, 0, none⟩) 2 cz]) 27)).alloc (.cells #[.int .i64 0, .int .i64 0] 3)) (v.heap.size + 2) ∧
    Below v.heap.size v ((v.alloc (.cells (#[.int .i64 2, .int .i64 1, .slice (some ⟨v.heap.size + 1, 0, none⟩) 2 2, .slice (some ⟨y, 0, none⟩) 1 cy, .int .i64 1, .int .i64 2, .slice (some ⟨z, 0, none⟩) 2 cz]) 27)).alloc (.cells #[.int .i64 0, .int .i64 0] 3)) := by
  have h1 : DBox ((v.alloc (.cells (#[.int .i64 2, .int .i64 1, .slice (some ⟨v.heap.size + 1, 0, none⟩) 2 2, .slice (some ⟨y, 0, none⟩) 1 cy, .int .i64 1, .int .i64 2, .slice (some ⟨z, 0, none⟩) 2 cz]) 27)).alloc (.cells #[.int .i64 0, .int .i64 0] 3)) v.heap.size (sp.dr (v.heap.size + 1) 2 y cy z cz) := (DBox.new v (sp.dr (v.heap.size + 1) 2 y cy z cz)).alloc _
  have h2 := irow_lit (v.alloc (.cells (#[.int .i64 2, .int .i64 1, .slice (some ⟨v.heap.size + 1, 0, none⟩) 2 2, .slice (some ⟨y, 0, none⟩) 1 cy, .int .i64 1, .int .i64 2, .slice (some ⟨z, 0, none⟩) 2 cz]) 27)) [0, 0]
  simp only [World.size_alloc] at h2
  have hb := two_below v (.cells (#[.int .i64 2, .int .i64 1, .slice (some ⟨v.heap.size + 1, 0, none⟩) 2 2, .slice (some ⟨y, 0, none⟩) 1 cy, .int .i64 1, .int .i64 2, .slice (some ⟨z, 0, none⟩) 2 cz]) 27) (.cells #[.int .i64 0, .int .i64 0] 3)
  have hd2 := hd.below hb
  refine ⟨h1, ⟨?_, ?_, ?_⟩, hb⟩
  · exact L2.Row.holds (h2.congr (f' := fun i => (sp.F i : Nat)) (by decide)) (by omega)
  · exact hd2.tr.more (by omega)
  · exact hd2.ti.more (by omega)
theorem mk246 (w : World) : (Instr.makeSlice 23 (.int .i64 246) (.int .i64 246)).run Tryd.prog w = .ok (.slice (some ⟨w.heap.size, 0, none⟩) 246 246) (w.alloc (.cells (madeCells #[.bool false] 246) 4)) := by
  have h := run_make_row' (P := Tryd.prog) 23 4 (.bool false) 1 Tryd.underlying23 Tryd.info4 rfl .i64 .i64 246 (by omega) (by omega) w
  exact h

theorem wrap_id {x : Int} (h1 : -1000000 ≤ x) (h2 : x ≤ 1000000) : IntKind.i64.wrap x = x := IntWalk.i64_in _ (by omega)
theorem mf_bit : ∀ x, x < 41 → ∀ y, y < 6 → mf (y * 41 + x) = (bits BinOp.and IntKind.i64 (((x : Nat) : Int) / 2 ^ y) 1 == 1) := by decide +kernel
/-- What the loops keep that fill the grid of 41 ends. -/
structure NR (W : World) (x y : Nat) (wr : World) : Prop where
  bel : Below W.heap.size W wr
  box : Box wr (W.heap.size + 1) 41 6 (.slice (some ⟨W.heap.size, 0, none⟩) 246 246)
  row : Row wr W.heap.size 246 (fun i => if i % 41 < x ∨ (i % 41 = x ∧ i / 41 < y) then mf i else false)
theorem NR.turn {W : World} {x y : Nat} {wr : World} (h : NR W x y wr) (hy : 6 ≤ y) : NR W (x + 1) 0 wr :=
  ⟨h.bel, h.box, h.row.congr fun i hi => by
    have : i / 41 < 6 := by omega
    by_cases h1 : i % 41 < x + 1
    · rw [if_pos (by omega), if_pos (by omega)]
    · rw [if_neg (by omega), if_neg (by omega)]⟩
theorem NR.put {W : World} {x y : Nat} {wr : World} (h : NR W x y wr) (hx : x < 41) (hy : y < 6) (b : Bool) (hb : mf (y * 41 + x) = b) : NR W x (y + 1) (wr.setCell ⟨W.heap.size, y * 41 + x, none⟩ (.bool b)).drew :=
  ⟨(h.bel.setCell (Nat.le_refl _) _).drew, (h.box.far (by simp) _).drew, ((h.row.set_ (y * 41 + x) b).drew).congr fun i hi => by
    by_cases e : i = y * 41 + x
    · subst e
      rw [if_pos rfl, if_pos (by omega), hb]
    · rw [if_neg e]
      by_cases h1 : i % 41 < x ∨ (i % 41 = x ∧ i / 41 < y)
      · rw [if_pos h1, if_pos (by omega)]
      · rw [if_neg h1, if_neg (by omega)]⟩
set_option maxHeartbeats 6000000 in
theorem fn_any (w : World) (hE : Env w) : Calls Tryd.prog 3 #[] w fun e w' => e = .returned (.bool true) ∧ Below w.heap.size w w' := by
  have HE := Lib.hid (fun v (h : Below w.heap.size w v) => hE.next h)
  clear hE
  have LB0 := Lib.hid (Below.refl w.heap.size w)
  go_enter Tryd.func3, Tryd.ntmps3
  go_wp2_with fail
  refine (cloth_any ⟨#[120, 120, 46, 46, 10, 46, 46, 120, 120, 10, 120, 120, 46, 46, 10]⟩ 4 3 12 nf parse_n1 _).mono ?_
  rintro e w1 ⟨k1, rfl, -, hrow, hb⟩
  have LB1 := Lib.hid (LB0.out.trans (hb.mono LB0.out.size))
  clear hb LB0
  have R1 := Lib.hid (hrow)
  clear hrow
  go_wp2_with fail
  refine (nm_of k1 _ (HE.out _ LB1.out) R1.out).mono ?_
  rintro e w2 ⟨a, ca, b, cb, c, cc, rfl, hin, hb⟩
  have hba := (show Below _ _ (w2.alloc (.cells #[.int .i64 2, .int .i64 2, .slice (some ⟨a, 0, none⟩) 4 ca, .slice (some ⟨b, 0, none⟩) 3 cb, .int .i64 2, .int .i64 2, .slice (some ⟨c, 0, none⟩) 4 cc] 27)) from hb.trans (((Below.refl _ _).alloc (Nat.le_refl _) _).mono hb.size))
  have DA2 := Lib.hid (show DBox (w2.alloc (.cells #[.int .i64 2, .int .i64 2, .slice (some ⟨a, 0, none⟩) 4 ca, .slice (some ⟨b, 0, none⟩) 3 cb, .int .i64 2, .int .i64 2, .slice (some ⟨c, 0, none⟩) 4 cc] 27)) w2.heap.size (np.dr a ca b cb c cc) from DBox.new w2 (np.dr a ca b cb c cc))
  have IA2 := Lib.hid (hin.next ((Below.refl _ _).alloc (Nat.le_refl _) (.cells #[.int .i64 2, .int .i64 2, .slice (some ⟨a, 0, none⟩) 4 ca, .slice (some ⟨b, 0, none⟩) 3 cb, .int .i64 2, .int .i64 2, .slice (some ⟨c, 0, none⟩) 4 cc] 27)))
  clear hb hin
  have LB2 := Lib.hid (LB1.out.trans (hba.mono LB1.out.size))
  have R2 := Lib.hid (R1.out.below hba R1.out.lt)
  clear hba LB1 R1
  clear R2
  obtain ⟨q0, q1, q2, q3, q4, q5, q6, q7⟩ := npa DA2.out
  go_wp2_with fail
  clear q0 q1 q2 q3 q4 q5 q6 q7
  refine (nm_ren a ca b cb c cc _ _ _ (by simp) (by simp) IA2.out).mono ?_
  rintro e w3 ⟨x, cx, y, cy, z, cz, rfl, hin, hb⟩
  have hba := (show Below _ _ (w3.alloc (.cells #[.int .i64 2, .int .i64 2, .slice (some ⟨x, 0, none⟩) 4 cx, .slice (some ⟨y, 0, none⟩) 3 cy, .int .i64 2, .int .i64 2, .slice (some ⟨z, 0, none⟩) 4 cz] 27)) from hb.trans (((Below.refl _ _).alloc (Nat.le_refl _) _).mono hb.size))
  have DB3 := Lib.hid (show DBox (w3.alloc (.cells #[.int .i64 2, .int .i64 2, .slice (some ⟨x, 0, none⟩) 4 cx, .slice (some ⟨y, 0, none⟩) 3 cy, .int .i64 2, .int .i64 2, .slice (some ⟨z, 0, none⟩) 4 cz] 27)) w3.heap.size (trn.dr x cx y cy z cz) from DBox.new w3 (trn.dr x cx y cy z cz))
  have IB3 := Lib.hid (hin.next ((Below.refl _ _).alloc (Nat.le_refl _) (.cells #[.int .i64 2, .int .i64 2, .slice (some ⟨x, 0, none⟩) 4 cx, .slice (some ⟨y, 0, none⟩) 3 cy, .int .i64 2, .int .i64 2, .slice (some ⟨z, 0, none⟩) 4 cz] 27)))
  clear hb hin
  have LB3 := Lib.hid (LB2.out.trans (hba.mono LB2.out.size))
  have DA3 := Lib.hid (DA2.out.next hba)
  have IA3 := Lib.hid (IA2.out.next hba)
  clear hba LB2 DA2 IA2
  obtain ⟨q0, q1, q2, q3, q4, q5, q6, q7⟩ := npa DA3.out
  obtain ⟨r0, r1, r2, r3, r4, r5, r6, r7⟩ := tra DB3.out
  go_wp2_with fail
  clear q0 q1 q2 q3 q4 q5 q6 q7 r0 r1 r2 r3 r4 r5 r6 r7
  refine (nm_m1 a ca b cb c cc x cx y cy z cz _ IA3.out IB3.out).mono ?_
  rintro e w4 hm3
  obtain ⟨p1, pc1, p2, pc2, rfl, hm1, hm2, hb⟩ := hm3.rows
  clear hm3
  have M4 := Lib.hid (hm1)
  have N4 := Lib.hid (hm2)
  clear hm1 hm2
  have LB4 := Lib.hid (LB3.out.trans (hb.mono LB3.out.size))
  have DA4 := Lib.hid (DA3.out.next hb)
  have IA4 := Lib.hid (IA3.out.next hb)
  have DB4 := Lib.hid (DB3.out.next hb)
  have IB4 := Lib.hid (IB3.out.next hb)
  clear hb LB3 DA3 IA3 DB3 IB3
  clear DB4
  clear IB4
  obtain ⟨q0, q1, q2, q3, q4, q5, q6, q7⟩ := npa DA4.out
  go_wp2_with fail
  clear q0 q1 q2 q3 q4 q5 q6 q7
  refine (nm_l1 a ca b cb c cc _ IA4.out).mono ?_
  rintro e w5 ⟨rfl, hb⟩
  have LB5 := Lib.hid (LB4.out.trans (hb.mono LB4.out.size))
  have DA5 := Lib.hid (DA4.out.next hb)
  have IA5 := Lib.hid (IA4.out.next hb)
  have M5 := Lib.hid (M4.out.next hb)
  have N5 := Lib.hid (N4.out.next hb)
  clear hb LB4 DA4 IA4 M4 N4
  obtain ⟨ht1, ht2, hba⟩ := tw_made w5
  have ht2 := ht2.more (show w5.heap.size + 4 ≤ ((((w5.alloc (.cells #[.int .i64 0, .int .i64 1] 3)).alloc (.cells #[.int .i64 0] 3)).alloc (.cells #[.bool true, .bool true] 4)).alloc (.cells #[.int .i64 2, .int .i64 1, .slice (some ⟨w5.heap.size, 0, none⟩) 2 2, .slice (some ⟨w5.heap.size + 1, 0, none⟩) 1 1, .int .i64 1, .int .i64 2, .slice (some ⟨w5.heap.size + 2, 0, none⟩) 2 2] 27)).heap.size by simp)
  have DT6 := Lib.hid (ht1)
  have IT6 := Lib.hid (ht2)
  clear ht1 ht2
  have LB6 := Lib.hid (LB5.out.trans (hba.mono LB5.out.size))
  have DA6 := Lib.hid (DA5.out.next hba)
  have IA6 := Lib.hid (IA5.out.next hba)
  have M6 := Lib.hid (M5.out.next hba)
  have N6 := Lib.hid (N5.out.next hba)
  clear hba LB5 DA5 IA5 M5 N5
  obtain ⟨q0, q1, q2, q3, q4, q5, q6, q7⟩ := twa DT6.out
  go_wp2_with fail
  clear q0 q1 q2 q3 q4 q5 q6 q7
  generalize hgg : ((((w5.alloc (.cells #[.int .i64 0, .int .i64 1] 3)).alloc (.cells #[.int .i64 0] 3)).alloc (.cells #[.bool true, .bool true] 4)).alloc (.cells #[.int .i64 2, .int .i64 1, .slice (some ⟨w5.heap.size, 0, none⟩) 2 2, .slice (some ⟨w5.heap.size + 1, 0, none⟩) 1 1, .int .i64 1, .int .i64 2, .slice (some ⟨w5.heap.size + 2, 0, none⟩) 2 2] 27)) = v5 at *
  clear hgg
  generalize w5.heap.size = sz at *
  refine (nm_l2 sz 2 (sz + 1) 1 (sz + 2) 2 _ IT6.out).mono ?_
  rintro e w7 ⟨rfl, hb⟩
  have LB7 := Lib.hid (LB6.out.trans (hb.mono LB6.out.size))
  have DA7 := Lib.hid (DA6.out.next hb)
  have IA7 := Lib.hid (IA6.out.next hb)
  have M7 := Lib.hid (M6.out.next hb)
  have N7 := Lib.hid (N6.out.next hb)
  have DT7 := Lib.hid (DT6.out.next hb)
  have IT7 := Lib.hid (IT6.out.next hb)
  clear hb LB6 DA6 IA6 M6 N6 DT6 IT6
  obtain ⟨hs1, hs2, hba⟩ := sp_made w7 sz 2 (sz + 1) 1 (sz + 2) 2 IT7.out
  have hs2 := hs2.more (show w7.heap.size + 2 ≤ ((w7.alloc (.cells #[.int .i64 2, .int .i64 1, .slice (some ⟨w7.heap.size + 1, 0, none⟩) 2 2, .slice (some ⟨sz + 1, 0, none⟩) 1 1, .int .i64 1, .int .i64 2, .slice (some ⟨sz + 2, 0, none⟩) 2 2] 27)).alloc (.cells #[.int .i64 0, .int .i64 0] 3)).heap.size by simp)
  obtain ⟨t0, t1, t2, t3, t4, t5, t6, t7⟩ := twa DT7.out
  obtain ⟨q0, q1, q2, q3, q4, q5, q6, q7⟩ := spa hs1
  have DS8 := Lib.hid (hs1)
  have IS8 := Lib.hid (hs2)
  clear hs1 hs2
  have LB8 := Lib.hid (LB7.out.trans (hba.mono LB7.out.size))
  have DA8 := Lib.hid (DA7.out.next hba)
  have IA8 := Lib.hid (IA7.out.next hba)
  have M8 := Lib.hid (M7.out.next hba)
  have N8 := Lib.hid (N7.out.next hba)
  have DT8 := Lib.hid (DT7.out.next hba)
  have IT8 := Lib.hid (IT7.out.next hba)
  clear hba LB7 DA7 IA7 M7 N7 DT7 IT7
  go_wp2_with fail
  clear t0 t1 t2 t3 t4 t5 t6 t7 q0 q1 q2 q3 q4 q5 q6 q7
  generalize hgg : ((w7.alloc (.cells #[.int .i64 2, .int .i64 1, .slice (some ⟨w7.heap.size + 1, 0, none⟩) 2 2, .slice (some ⟨sz + 1, 0, none⟩) 1 1, .int .i64 1, .int .i64 2, .slice (some ⟨sz + 2, 0, none⟩) 2 2] 27)).alloc (.cells #[.int .i64 0, .int .i64 0] 3)) = v7 at *
  clear hgg
  generalize w7.heap.size = sy at *
  refine (nm_l3 (sy + 1) 2 (sz + 1) 1 (sz + 2) 2 _ IS8.out).mono ?_
  rintro e w9 ⟨rfl, hb⟩
  have LB9 := Lib.hid (LB8.out.trans (hb.mono LB8.out.size))
  have DA9 := Lib.hid (DA8.out.next hb)
  have IA9 := Lib.hid (IA8.out.next hb)
  have M9 := Lib.hid (M8.out.next hb)
  have N9 := Lib.hid (N8.out.next hb)
  have DT9 := Lib.hid (DT8.out.next hb)
  have IT9 := Lib.hid (IT8.out.next hb)
  have DS9 := Lib.hid (DS8.out.next hb)
  have IS9 := Lib.hid (IS8.out.next hb)
  clear hb LB8 DA8 IA8 M8 N8 DT8 IT8 DS8 IS8
  obtain ⟨q0, q1, q2, q3, q4, q5, q6, q7⟩ := twa DT9.out
  obtain ⟨r0, r1, r2, r3, r4, r5, r6, r7⟩ := spa DS9.out
  go_wp2_with fail
  clear q0 q1 q2 q3 q4 q5 q6 q7 r0 r1 r2 r3 r4 r5 r6 r7
  refine (nm_m2 sz 2 (sz + 1) 1 (sz + 2) 2 (sy + 1) 2 (sz + 1) 1 (sz + 2) 2 _ IT9.out IS9.out).mono ?_
  rintro e w10 hm3
  obtain ⟨e1, ec1, e2, ec2, rfl, hm1, hm2, hb⟩ := hm3.rows
  clear hm3
  clear hm1 hm2
  have LB10 := Lib.hid (LB9.out.trans (hb.mono LB9.out.size))
  have DA10 := Lib.hid (DA9.out.next hb)
  have IA10 := Lib.hid (IA9.out.next hb)
  have M10 := Lib.hid (M9.out.next hb)
  have N10 := Lib.hid (N9.out.next hb)
  have DT10 := Lib.hid (DT9.out.next hb)
  have IT10 := Lib.hid (IT9.out.next hb)
  have DS10 := Lib.hid (DS9.out.next hb)
  have IS10 := Lib.hid (IS9.out.next hb)
  clear hb LB9 DA9 IA9 M9 N9 DT9 IT9 DS9 IS9
  clear DS10
  clear IS10
  obtain ⟨q0, q1, q2, q3, q4, q5, q6, q7⟩ := npa DA10.out
  obtain ⟨r0, r1, r2, r3, r4, r5, r6, r7⟩ := twa DT10.out
  go_wp2_with fail
  clear q0 q1 q2 q3 q4 q5 q6 q7 r0 r1 r2 r3 r4 r5 r6 r7
  refine (nm_m3 a ca b cb c cc sz 2 (sz + 1) 1 (sz + 2) 2 _ IA10.out IT10.out).mono ?_
  rintro e w11 hm3
  obtain ⟨f1, fc1, f2, fc2, rfl, hm1, hm2, hb⟩ := hm3.rows
  clear hm3
  clear hm1 hm2
  have LB11 := Lib.hid (LB10.out.trans (hb.mono LB10.out.size))
  have DA11 := Lib.hid (DA10.out.next hb)
  have IA11 := Lib.hid (IA10.out.next hb)
  have M11 := Lib.hid (M10.out.next hb)
  have N11 := Lib.hid (N10.out.next hb)
  have DT11 := Lib.hid (DT10.out.next hb)
  have IT11 := Lib.hid (IT10.out.next hb)
  clear hb LB10 DA10 IA10 M10 N10 DT10 IT10
  clear DT11
  clear IT11
  obtain ⟨q0, q1, q2, q3, q4, q5, q6, q7⟩ := npa DA11.out
  go_wp2_with fail
  clear q0 q1 q2 q3 q4 q5 q6 q7
  refine (nm_twin a ca b cb c cc _ IA11.out).mono ?_
  rintro e w12 ⟨u, cu, g, cg, h, ch, rfl, ro1, ro2, ro3, hz, hb⟩
  have hh : h < w12.heap.size := ro3.lt
  have do0 : DBox (w12.alloc (.cells #[.int .i64 2, .int .i64 2, .slice (some ⟨u, 0, none⟩) 4 cu, .slice (some ⟨g, 0, none⟩) 3 cg, .int .i64 2, .int .i64 2, .slice (some ⟨h, 0, none⟩) 4 ch] 27)) w12.heap.size (np.dr u cu g cg h ch) := DBox.new w12 (np.dr u cu g cg h ch)
  have do1 : DBox ((w12.alloc (.cells #[.int .i64 2, .int .i64 2, .slice (some ⟨u, 0, none⟩) 4 cu, .slice (some ⟨g, 0, none⟩) 3 cg, .int .i64 2, .int .i64 2, .slice (some ⟨h, 0, none⟩) 4 ch] 27)).setCell ⟨h, 0, none⟩ (.bool false)).drew w12.heap.size (ot.dr u cu g cg h ch) := (do0.far (show w12.heap.size ≠ h by omega) _).drew
  have io1 : (ot.dr u cu g cg h ch).In ((w12.alloc (.cells #[.int .i64 2, .int .i64 2, .slice (some ⟨u, 0, none⟩) 4 cu, .slice (some ⟨g, 0, none⟩) 3 cg, .int .i64 2, .int .i64 2, .slice (some ⟨h, 0, none⟩) 4 ch] 27)).setCell ⟨h, 0, none⟩ (.bool false)).drew ((w12.alloc (.cells #[.int .i64 2, .int .i64 2, .slice (some ⟨u, 0, none⟩) 4 cu, .slice (some ⟨g, 0, none⟩) 3 cg, .int .i64 2, .int .i64 2, .slice (some ⟨h, 0, none⟩) 4 ch] 27)).setCell ⟨h, 0, none⟩ (.bool false)).drew.heap.size := in_drew (ot_in cu cg ch (ro1.alloc (.cells #[.int .i64 2, .int .i64 2, .slice (some ⟨u, 0, none⟩) 4 cu, .slice (some ⟨g, 0, none⟩) 3 cg, .int .i64 2, .int .i64 2, .slice (some ⟨h, 0, none⟩) 4 ch] 27)) (ro2.alloc (.cells #[.int .i64 2, .int .i64 2, .slice (some ⟨u, 0, none⟩) 4 cu, .slice (some ⟨g, 0, none⟩) 3 cg, .int .i64 2, .int .i64 2, .slice (some ⟨h, 0, none⟩) 4 ch] 27)) (ro3.alloc (.cells #[.int .i64 2, .int .i64 2, .slice (some ⟨u, 0, none⟩) 4 cu, .slice (some ⟨g, 0, none⟩) 3 cg, .int .i64 2, .int .i64 2, .slice (some ⟨h, 0, none⟩) 4 ch] 27)))
  have rc1 : (w12.alloc (.cells #[.int .i64 2, .int .i64 2, .slice (some ⟨u, 0, none⟩) 4 cu, .slice (some ⟨g, 0, none⟩) 3 cg, .int .i64 2, .int .i64 2, .slice (some ⟨h, 0, none⟩) 4 ch] 27)).cell? ⟨h, 0, none⟩ = some (.bool true) := (ro3.alloc (.cells #[.int .i64 2, .int .i64 2, .slice (some ⟨u, 0, none⟩) 4 cu, .slice (some ⟨g, 0, none⟩) 3 cg, .int .i64 2, .int .i64 2, .slice (some ⟨h, 0, none⟩) 4 ch] 27)).cell (show 0 < 4 by omega)
  have rc2 : (w12.alloc (.cells #[.int .i64 2, .int .i64 2, .slice (some ⟨u, 0, none⟩) 4 cu, .slice (some ⟨g, 0, none⟩) 3 cg, .int .i64 2, .int .i64 2, .slice (some ⟨h, 0, none⟩) 4 ch] 27)).frozen? ⟨h, 0, none⟩ = false := (ro3.alloc (.cells #[.int .i64 2, .int .i64 2, .slice (some ⟨u, 0, none⟩) 4 cu, .slice (some ⟨g, 0, none⟩) 3 cg, .int .i64 2, .int .i64 2, .slice (some ⟨h, 0, none⟩) 4 ch] 27)).free 0
  have hba : Below _ _ ((w12.alloc (.cells #[.int .i64 2, .int .i64 2, .slice (some ⟨u, 0, none⟩) 4 cu, .slice (some ⟨g, 0, none⟩) 3 cg, .int .i64 2, .int .i64 2, .slice (some ⟨h, 0, none⟩) 4 ch] 27)).setCell ⟨h, 0, none⟩ (.bool false)).drew := ((hb.trans (((Below.refl _ _).alloc (Nat.le_refl _) (.cells #[.int .i64 2, .int .i64 2, .slice (some ⟨u, 0, none⟩) 4 cu, .slice (some ⟨g, 0, none⟩) 3 cg, .int .i64 2, .int .i64 2, .slice (some ⟨h, 0, none⟩) 4 ch] 27)).mono hb.size)).setCell hz _).drew
  obtain ⟨q0, q1, q2, q3, q4, q5, q6, q7⟩ := npa do0
  clear hb ro1 ro2 ro3
  have DO12 := Lib.hid (do1)
  have IO12 := Lib.hid (io1)
  clear do1 io1 do0
  have LB12 := Lib.hid (LB11.out.trans (hba.mono LB11.out.size))
  have DA12 := Lib.hid (DA11.out.next hba)
  have IA12 := Lib.hid (IA11.out.next hba)
  have M12 := Lib.hid (M11.out.next hba)
  have N12 := Lib.hid (N11.out.next hba)
  clear hba LB11 DA11 IA11 M11 N11
  go_wp2
  generalize hgg : (w12.alloc (.cells #[.int .i64 2, .int .i64 2, .slice (some ⟨u, 0, none⟩) 4 cu, .slice (some ⟨g, 0, none⟩) 3 cg, .int .i64 2, .int .i64 2, .slice (some ⟨h, 0, none⟩) 4 ch] 27)) = vv at *
  clear hgg
  go_still_tail 10, (by kernel_rfl)
  change wpList _ _ _ _ _ vv.drew
  obtain ⟨r0, r1, r2, r3, r4, r5, r6, r7⟩ := ota DO12.out
  obtain ⟨s0, s1, s2, s3, s4, s5, s6, s7⟩ := npa DA12.out
  go_wp2_with fail
  clear q0 q1 q2 q3 q4 q5 q6 q7 r0 r1 r2 r3 r4 r5 r6 r7 s0 s1 s2 s3 s4 s5 s6 s7 rc1 rc2
  generalize hgg : (vv.setCell ⟨h, 0, none⟩ (.bool false)).drew = v12 at *
  clear hgg
  refine (nm_m4 a ca b cb c cc u cu g cg h ch _ IA12.out IO12.out).mono ?_
  rintro e w13 hm3
  obtain ⟨j1, jc1, j2, jc2, rfl, hm1, hm2, hb⟩ := hm3.rows
  clear hm3 hm1 hm2
  have LB13 := Lib.hid (LB12.out.trans (hb.mono LB12.out.size))
  have DA13 := Lib.hid (DA12.out.next hb)
  have IA13 := Lib.hid (IA12.out.next hb)
  have M13 := Lib.hid (M12.out.next hb)
  have N13 := Lib.hid (N12.out.next hb)
  have DO13 := Lib.hid (DO12.out.next hb)
  have IO13 := Lib.hid (IO12.out.next hb)
  clear hb LB12 DA12 IA12 M12 N12 DO12 IO12
  clear DO13
  clear IO13
  obtain ⟨q0, q1, q2, q3, q4, q5, q6, q7⟩ := npa DA13.out
  go_wp2_with fail
  clear q0 q1 q2 q3 q4 q5 q6 q7
  refine (nm_m5 a ca b cb c cc _ IA13.out).mono ?_
  rintro e w14 hm3
  obtain ⟨l1, lc1, l2, lc2, rfl, hm1, hm2, hb⟩ := hm3.rows
  clear hm3
  clear hm1 hm2
  have LB14 := Lib.hid (LB13.out.trans (hb.mono LB13.out.size))
  have DA14 := Lib.hid (DA13.out.next hb)
  have IA14 := Lib.hid (IA13.out.next hb)
  have M14 := Lib.hid (M13.out.next hb)
  have N14 := Lib.hid (N13.out.next hb)
  clear hb LB13 DA13 IA13 M13 N13
  go_wp2_with fail
  refine (nm_of0 _).mono ?_
  rintro e w15 ⟨rfl, hb⟩
  have hba := (show Below _ _ (w15.alloc (.cells #[.int .i64 0, .int .i64 0, .slice none 0 0, .slice none 0 0, .int .i64 0, .int .i64 0, .slice none 0 0] 27)) from hb.trans (((Below.refl _ _).alloc (Nat.le_refl _) _).mono hb.size))
  clear hb
  have LB15 := Lib.hid (LB14.out.trans (hba.mono LB14.out.size))
  have DA15 := Lib.hid (DA14.out.next hba)
  have IA15 := Lib.hid (IA14.out.next hba)
  have M15 := Lib.hid (M14.out.next hba)
  have N15 := Lib.hid (N14.out.next hba)
  clear hba LB14 DA14 IA14 M14 N14
  go_wp2_with fail
  refine (nm_cnt0 _).mono ?_
  rintro e w16 ⟨rfl, hb⟩
  have LB16 := Lib.hid (LB15.out.trans (hb.mono LB15.out.size))
  have DA16 := Lib.hid (DA15.out.next hb)
  have IA16 := Lib.hid (IA15.out.next hb)
  have M16 := Lib.hid (M15.out.next hb)
  have N16 := Lib.hid (N15.out.next hb)
  clear hb LB15 DA15 IA15 M15 N15

  have KLB := Lib.hid (fun v (h : Below w16.heap.size w16 v) => LB16.out.trans (h.mono LB16.out.size))
  have KDA := Lib.hid (fun v (h : Below w16.heap.size w16 v) => DA16.out.next h)
  have KIA := Lib.hid (fun v (h : Below w16.heap.size w16 v) => IA16.out.next h)
  have KM := Lib.hid (fun v (h : Below w16.heap.size w16 v) => M16.out.next h)
  have KN := Lib.hid (fun v (h : Below w16.heap.size w16 v) => N16.out.next h)
  clear LB16 DA16 IA16 M16 N16
  have hba : Below w16.heap.size w16 ((w16.alloc (.cells (madeCells #[.bool false] 246) 4)).alloc (.cells #[.int .i64 41, .int .i64 6, .slice (some ⟨w16.heap.size, 0, none⟩) 246 246] 25)) := ((Below.refl w16.heap.size w16).alloc (Nat.le_refl _) (.cells (madeCells #[.bool false] 246) 4)).alloc (by simp) (.cells #[.int .i64 41, .int .i64 6, .slice (some ⟨w16.heap.size, 0, none⟩) 246 246] 25)
  have hg1 : Box ((w16.alloc (.cells (madeCells #[.bool false] 246) 4)).alloc (.cells #[.int .i64 41, .int .i64 6, .slice (some ⟨w16.heap.size, 0, none⟩) 246 246] 25)) (w16.heap.size + 1) 41 6 (.slice (some ⟨w16.heap.size, 0, none⟩) 246 246) := by
    have := Box.new (w16.alloc (.cells (madeCells #[.bool false] 246) 4)) 41 6 (.slice (some ⟨w16.heap.size, 0, none⟩) 246 246)
    simp only [World.size_alloc] at this
    exact this
  have hg2 : Row ((w16.alloc (.cells (madeCells #[.bool false] 246) 4)).alloc (.cells #[.int .i64 41, .int .i64 6, .slice (some ⟨w16.heap.size, 0, none⟩) 246 246] 25)) w16.heap.size 246 (fun _ => false) := (Row.made w16 246).alloc _
  have S0 := Lib.hid (show NR w16 0 0 ((w16.alloc (.cells (madeCells #[.bool false] 246) 4)).alloc (.cells #[.int .i64 41, .int .i64 6, .slice (some ⟨w16.heap.size, 0, none⟩) 246 246] 25)) from ⟨hba, hg1, hg2.congr (fun i _ => by simp)⟩)
  clear hba hg1 hg2
  have hmk := mk246
  go_wp2_with fail
  clear hmk
  go_loopw [35] (fun i wr => ∃ x : Nat, x ≤ 41 ∧ i = .int .i64 x ∧ Hid (NR w16 x 0 wr)) (fun i _ => 41 - (intOf i).toNat)
  case atStart => exact ⟨0, Nat.zero_le _, rfl, S0⟩
  case round =>
    clear S0
    obtain ⟨x, hx, rfl, hS⟩ := hrel
    by_cases hlx : x < 41
    · have x1 : decide ((x : Int) < 41) = true := by simp; omega
      go_wp2_with fail
      go_loopw [36] (fun i wr => ∃ y : Nat, y ≤ 6 ∧ i = .int .i64 y ∧ Hid (NR w16 x y wr)) (fun i _ => 6 - (intOf i).toNat)
      case atStart => exact ⟨0, Nat.zero_le _, rfl, hS⟩
      case round =>
        clear hS
        obtain ⟨y, hy, rfl, hS⟩ := hrel
        by_cases hly : y < 6
        · have y1 : decide ((y : Int) < 6) = true := by simp; omega
          have hi : y * 41 + x < 246 := by omega
          obtain ⟨q0, q1, q2, q3, q4, q5, q6⟩ := hS.out.box.all
          have r1 := hS.out.row.cell hi
          have r2 := hS.out.row.free (y * 41 + x)
          have r3 := hS.out.row.lt
          have e1 : IntKind.i64.wrap ((y : Int) * 41) = (y : Int) * 41 := wrap_id (by omega) (by omega)
          have e2 : IntKind.i64.wrap ((y : Int) * 41 + (x : Int)) = (y : Int) * 41 + (x : Int) := wrap_id (by omega) (by omega)
          have e3 : (0 : Int) ≤ (y : Int) * 41 + (x : Int) := by omega
          have e4 : (y : Int) * 41 + (x : Int) < 246 := by omega
          have e5 : ((y : Int) * 41 + (x : Int)).toNat = y * 41 + x := by omega
          go_wp2
          go_still_tail 12, (by kernel_rfl)
          change wpList _ _ _ _ _ wr.drew
          go_wp2
          exact ⟨⟨y + 1, by omega, by go_num, Lib.hid (hS.out.put hlx hly _ (mf_bit x hlx y hly))⟩, by simp [intOf]; omega⟩
        · have e : y = 6 := by omega
          have y1 : decide ((y : Int) < 6) = false := by simp; omega
          go_wp2
          exact ⟨⟨x + 1, by omega, by go_num, Lib.hid (hS.out.turn (by omega))⟩, by simp [intOf]; omega⟩
    · have e : x = 41 := by omega
      subst e
      have x1 : decide (((41 : Nat) : Int) < 41) = false := by simp
      have hba := hS.out.bel
      have G0 := Lib.hid hS.out.box
      have R0 := Lib.hid (hS.out.row.congr (f' := mf) (fun i hi => by simp; intro h; omega))
      have LB0 := Lib.hid (KLB.out _ hba)
      have DA0 := Lib.hid (KDA.out _ hba)
      have IA0 := Lib.hid (KIA.out _ hba)
      have M0 := Lib.hid (KM.out _ hba)
      have N0 := Lib.hid (KN.out _ hba)
      clear KLB KDA KIA KM KN hba hS
      obtain ⟨q0, q1, q2, q3, q4, q5, q6⟩ := G0.out.all
      go_wp2_with fail
      clear q0 q1 q2 q3 q4 q5 q6
      refine (nm_ofm _ _ (HE.out _ LB0.out) R0.out).mono ?_
      rintro e w1 ⟨rfl, hb⟩
      have hba := (show Below _ _ (w1.alloc (.cells #[.int .i64 0, .int .i64 0, .slice none 0 0, .slice none 0 0, .int .i64 0, .int .i64 0, .slice none 0 0] 27)) from hb.trans (((Below.refl _ _).alloc (Nat.le_refl _) _).mono hb.size))
      clear hb
      have LB1 := Lib.hid (LB0.out.trans (hba.mono LB0.out.size))
      have DA1 := Lib.hid (DA0.out.next hba)
      have IA1 := Lib.hid (IA0.out.next hba)
      have M1 := Lib.hid (M0.out.next hba)
      have N1 := Lib.hid (N0.out.next hba)
      have G1 := Lib.hid (G0.out.below hba G0.out.lt)
      have R1 := Lib.hid (R0.out.below hba R0.out.lt)
      clear hba LB0 DA0 IA0 M0 N0 G0 R0
      obtain ⟨q0, q1, q2, q3, q4, q5, q6⟩ := G1.out.all
      go_wp2_with fail
      clear q0 q1 q2 q3 q4 q5 q6
      refine (nm_cntm _ _ R1.out).mono ?_
      rintro e w2 ⟨rfl, hb⟩
      have LB2 := Lib.hid (LB1.out.trans (hb.mono LB1.out.size))
      have DA2 := Lib.hid (DA1.out.next hb)
      have IA2 := Lib.hid (IA1.out.next hb)
      have M2 := Lib.hid (M1.out.next hb)
      have N2 := Lib.hid (N1.out.next hb)
      have G2 := Lib.hid (G1.out.below hb G1.out.lt)
      have R2 := Lib.hid (R1.out.below hb R1.out.lt)
      clear hb LB1 DA1 IA1 M1 N1 G1 R1
      clear G2
      clear R2
      obtain ⟨q0, q1, q2, q3, q4, q5, q6, q7⟩ := npa DA2.out
      go_wp2_with fail
      clear q0 q1 q2 q3 q4 q5 q6 q7
      refine (nm_th a ca _ (IA2.out).th).mono ?_
      rintro e w3 ⟨rfl, hb⟩
      have LB3 := Lib.hid (LB2.out.trans (hb.mono LB2.out.size))
      have DA3 := Lib.hid (DA2.out.next hb)
      have IA3 := Lib.hid (IA2.out.next hb)
      have M3 := Lib.hid (M2.out.next hb)
      have N3 := Lib.hid (N2.out.next hb)
      clear hb LB2 DA2 IA2 M2 N2
      obtain ⟨q0, q1, q2, q3, q4, q5, q6, q7⟩ := npa DA3.out
      go_wp2_with fail
      clear q0 q1 q2 q3 q4 q5 q6 q7
      refine (nm_tr b cb _ (IA3.out).tr).mono ?_
      rintro e w4 ⟨rfl, hb⟩
      have LB4 := Lib.hid (LB3.out.trans (hb.mono LB3.out.size))
      have DA4 := Lib.hid (DA3.out.next hb)
      have IA4 := Lib.hid (IA3.out.next hb)
      have M4 := Lib.hid (M3.out.next hb)
      have N4 := Lib.hid (N3.out.next hb)
      clear hb LB3 DA3 IA3 M3 N3
      go_wp2_with fail
      refine (nm_10 p1 pc1 _ M4.out).mono ?_
      rintro e w5 ⟨rfl, hb⟩
      have LB5 := Lib.hid (LB4.out.trans (hb.mono LB4.out.size))
      have DA5 := Lib.hid (DA4.out.next hb)
      have IA5 := Lib.hid (IA4.out.next hb)
      have M5 := Lib.hid (M4.out.next hb)
      have N5 := Lib.hid (N4.out.next hb)
      clear hb LB4 DA4 IA4 M4 N4
      go_wp2_with fail
      refine (nm_10 p2 pc2 _ N5.out).mono ?_
      rintro e w6 ⟨rfl, hb⟩
      have LB6 := Lib.hid (LB5.out.trans (hb.mono LB5.out.size))
      have DA6 := Lib.hid (DA5.out.next hb)
      have IA6 := Lib.hid (IA5.out.next hb)
      have M6 := Lib.hid (M5.out.next hb)
      have N6 := Lib.hid (N5.out.next hb)
      clear hb LB5 DA5 IA5 M5 N5
      go_wp2_with fail
      refine (alive_any _ (HE.out _ LB6.out)).mono ?_
      rintro e w7 ⟨rfl, hb⟩
      have LB7 := Lib.hid (LB6.out.trans (hb.mono LB6.out.size))
      have DA7 := Lib.hid (DA6.out.next hb)
      have IA7 := Lib.hid (IA6.out.next hb)
      have M7 := Lib.hid (M6.out.next hb)
      have N7 := Lib.hid (N6.out.next hb)
      clear hb LB6 DA6 IA6 M6 N6
      go_wp2
      go_ret
      exact ⟨rfl, LB7.out⟩
end Go.Proofs.YtbafhdinalapoaaDoor
