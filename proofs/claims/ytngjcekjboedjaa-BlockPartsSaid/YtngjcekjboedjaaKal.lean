/- Layer 13: row, fit, alive. -/
import Derived.Test.YtngjcekjboedjaaKff
import Derived.Test.YtngjcekjboedjaaKse
import Derived.Deep.RegionHeld3
import Derived.Deep.DeepCutAuto
namespace Go.Proofs.Ytngjcekjboedjaa
open Go.RowKit
set_option maxRecDepth 100000
set_option linter.unusedVariables false
set_option linter.unusedSimpArgs false

theorem row_any (A : Option Addr) (n c : Nat) (w : World) :
    Calls Try.prog 63 #[.slice A n c] w fun e w' => e = .returned (.agg #[.int .i64 (n : Nat), .int .i64 1, .slice A n c]) ∧ Below w.heap.size w w' := by
  have hX := Box.new w 0 0 (.slice none 0 0)
  obtain ⟨q0, q1, q2, q3, q4, q5, q6⟩ := hX.all
  have LB := Lib.hid (bel_alloc w (.cells #[.int .i64 0, .int .i64 0, .slice none 0 0] 24))
  clear hX
  go_enter Try.func63, Try.ntmps63
  go_wp2
  refine bodyPost_ret (v := .agg #[.int .i64 (n : Nat), .int .i64 1, .slice A n c]) (by simp [results, Try.results63, go_sem, q0, q1, q2, q3, q4, q5]) rfl ?_
  first
    | exact ⟨rfl, LB.out⟩
    | exact ⟨rfl, bel_st3 LB.out (Nat.le_refl _) _ _ _⟩
    | exact ⟨rfl, bel_alloc w _⟩
theorem ck {u : World} {o : Obj} {p : Addr} {x : Value} (h : u.cell? p = some x) : (u.alloc o).cell? p = some x := by
  have hb : p.block < u.heap.size := by
    rcases Nat.lt_or_ge p.block u.heap.size with hb | hb
    · exact hb
    · simp [World.cell?, Array.getElem?_eq_none hb] at h
  exact ((bel_alloc u o).cell (p := p) hb).trans h
theorem ckd {u : World} {o : Obj} {p : Addr} {x : Value} (h : u.cell? p = some x) : ((u.alloc o).drew).cell? p = some x := ck (o := o) h
theorem cn {u : World} {cs : Array Value} {t : TypeId} {i : Nat} {x : Value} (h : cs[i]? = some x) : (u.alloc (.cells cs t)).cell? ⟨u.heap.size, i, none⟩ = some x := by
  rw [Lib.cell_of_heap (World.alloc_heap_new u _)]; exact h
theorem cb {u w : World} {k o : Nat} {x : Value} (hb : Below u.heap.size u w) (h : u.cell? ⟨k, o, none⟩ = some x) : w.cell? ⟨k, o, none⟩ = some x := (hb.cell (p := ⟨k, o, none⟩) (lt_of_cell h)).trans h
/-- A row of one bool came back as a grid. -/
def R1 (u : World) (k : Nat) (b : Bool) (e : Ending) (w' : World) : Prop := e = .returned (.agg #[.int .i64 1, .int .i64 1, .slice (some ⟨k, 0, none⟩) 1 1]) ∧ w'.cell? ⟨k, 0, none⟩ = some (.bool b) ∧ Below u.heap.size u w'
theorem row1 (u : World) (k : Nat) (b : Bool) (h : u.cell? ⟨k, 0, none⟩ = some (.bool b)) : Calls Try.prog 63 #[.slice (some ⟨k, 0, none⟩) 1 1] u (R1 u k b) :=
  (row_any (some ⟨k, 0, none⟩) 1 1 u).mono fun e w' h2 => ⟨h2.1, cb h2.2 h, h2.2⟩
theorem holds1 {u : World} {k : Nat} {b : Bool} {f : Nat → Bool} (h : u.cell? ⟨k, 0, none⟩ = some (.bool b)) (hf : f 0 = b) : Holds u u.heap.size (some ⟨k, 0, none⟩) 1 f := fun _ => ⟨k, 0, rfl, lt_of_cell h, fun i hi => by
  rw [show i = 0 by omega, Nat.add_zero, hf]; exact h⟩
theorem holds2 {u : World} {k : Nat} {b d : Bool} {f : Nat → Bool} (h : u.cell? ⟨k, 0, none⟩ = some (.bool b)) (h1 : u.cell? ⟨k, 1, none⟩ = some (.bool d)) (hf : f 0 = b) (hg : f 1 = d) : Holds u u.heap.size (some ⟨k, 0, none⟩) 2 f := fun _ => ⟨k, 0, rfl, lt_of_cell h, fun i hi => by
  rcases (show i = 0 ∨ i = 1 by omega) with rfl | rfl
  · rw [hf]; exact h
  · rw [hg]; exact h1⟩
def row10 (i : Nat) : Bool := i == 0
/-- The first example. -/
theorem fill_ex1 (u : World) (kp k1 k2 : Nat) (h0 : u.cell? ⟨kp, 0, none⟩ = some (.bool true)) (h1 : u.cell? ⟨kp, 1, none⟩ = some (.bool false)) (h2 : u.cell? ⟨k1, 0, none⟩ = some (.bool true)) (h3 : u.cell? ⟨k2, 0, none⟩ = some (.bool false)) :
    Calls Try.prog 45 #[.agg #[.int .i64 2, .int .i64 1, .slice (some ⟨kp, 0, none⟩) 2 2], .agg #[.int .i64 1, .int .i64 1, .slice (some ⟨k1, 0, none⟩) 1 1], .agg #[.int .i64 1, .int .i64 1, .slice (some ⟨k2, 0, none⟩) 1 1]] u (RG u 2 1 2 row10 0) :=
  (fill_ok (W := 2) (H := 1) (u := 1) (v := 1) (A := some ⟨kp, 0, none⟩) (B := some ⟨k1, 0, none⟩) (C := some ⟨k2, 0, none⟩) (c := 2) (d := 1) (e := 1) (f := row10) (a := fun _ => true) (b := fun _ => false) (w := u) (by omega) (by omega) (holds2 h0 h1 rfl rfl) (by omega) (by omega) (holds1 h2 rfl) (holds1 h3 rfl) (by omega) (by omega)).mono fun e w' ⟨A, c, he, hh, hb⟩ =>
    ⟨A, c, he, hh.congr (fun i hi => by rcases (show i = 0 ∨ i = 1 by omega) with rfl | rfl <;> decide +kernel), hb⟩
theorem fill_ex2 (u : World) (kp k1 k2 d1 d2 : Nat) (h0 : u.cell? ⟨kp, 0, none⟩ = some (.bool true)) (h1 : u.cell? ⟨kp, 1, none⟩ = some (.bool false)) (h2 : Row u k1 4 (fun _ => false)) (h3 : Row u k2 4 (fun _ => false)) :
    Calls Try.prog 45 #[.agg #[.int .i64 2, .int .i64 1, .slice (some ⟨kp, 0, none⟩) 2 2], .agg #[.int .i64 2, .int .i64 2, .slice (some ⟨k1, 0, none⟩) 4 d1], .agg #[.int .i64 2, .int .i64 2, .slice (some ⟨k2, 0, none⟩) 4 d2]] u (RG u 4 2 8 (fun _ => false) 0) :=
  (fill_ok (W := 2) (H := 1) (u := 2) (v := 2) (A := some ⟨kp, 0, none⟩) (B := some ⟨k1, 0, none⟩) (C := some ⟨k2, 0, none⟩) (c := 2) (d := d1) (e := d2) (f := row10) (a := fun _ => false) (b := fun _ => false) (w := u) (by omega) (by omega) (holds2 h0 h1 rfl rfl) (by omega) (by omega) (h2.holds h2.lt) (h3.holds h3.lt) (by omega) (by omega)).mono fun e w' ⟨A, c, he, hh, hb⟩ =>
    ⟨A, c, he, hh.congr (fun i hi => by unfold fil joF; show (if (if row10 (i / (2 * 2) / 2 * 2 + i % (2 * 2) / 2) = true then 0 else 1) = 0 then fun _ => false else fun _ => false : Nat → Bool) _ = false; simp), hb⟩
theorem zero22 (w : World) : Calls Try.prog 64 #[.int .i64 2, .int .i64 2] w fun e w' => ∃ k, e = .returned (.agg #[.int .i64 2, .int .i64 2, .slice (some ⟨k, 0, none⟩) 4 4]) ∧ w.heap.size ≤ k ∧ Row w' k 4 (fun _ => false) ∧ Below w.heap.size w w' :=
  zero_int 2 2 2 2 rfl rfl (by omega) (by omega) w
def g42 (i : Nat) : Bool := [true, true, false, false, true, true, false, false].getD i false
theorem units_ex (u : World) (k : Nat) (h : Row u k 8 g42) : Calls Try.prog 51 #[.agg #[.int .i64 4, .int .i64 2, .slice (some ⟨k, 0, none⟩) 8 8], .int .i64 2, .int .i64 2] u fun e w' => ∃ A c A2 c2, e = .returned (.tuple #[.slice A 2 c, .slice A2 2 c2, .int .i64 0]) ∧ L2.Holds w' w'.heap.size A2 2 (fun i => (i : Int)) ∧ Below u.heap.size u w' :=
  (units_ok 2 2 2 1 (A := some ⟨k, 0, none⟩) (c := 8) g42 u (h.holds h.lt) (by omega) (by omega) (by omega) (by omega) (by omega) (by omega) (fun k => bl (2 * 2) (ptF (2 * 2) 2 2 2 g42 k)) (fun _ => rfl)).mono fun e w' ⟨A, c, A2, c2, he, _, hp, hb⟩ => by
    have e1 : (us (fun k => bl (2 * 2) (ptF (2 * 2) 2 2 2 g42 k)) (2 * 1)).length = 2 := by decide +kernel
    rw [e1] at he
    refine ⟨A, c, A2, c2, he, fun h0 => ?_, hb⟩
    obtain ⟨b, o, e2, hl, hc⟩ := hp h0
    refine ⟨b, o, e2, hl, fun i hi => ?_⟩
    rw [hc i hi]
    show some (Value.int .i64 ((ua (fun k => bl (2 * 2) (ptF (2 * 2) 2 2 2 g42 k)) i : Nat) : Int)) = some (.int .i64 (i : Int))
    have e3 : ∀ i, i < 2 → ua (fun k => bl (2 * 2) (ptF (2 * 2) 2 2 2 g42 k)) i = i := by decide +kernel
    rw [e3 i hi]
def x01 (i : Nat) : Int := [0, 1].getD i 0
def x23 (i : Nat) : Int := [2, 3].getD i 0
def x010 (i : Nat) : Int := [0, 1, 0].getD i 0
def LX (A0 A1 : Option Addr) : Nat → IV
  | 0 => ⟨A0, 2, 2, x01⟩
  | _ + 1 => ⟨A1, 2, 2, x23⟩
theorem lx_ctz (A0 A1 : Option Addr) : ctz 2 (LX A0 A1) = 0 := by kernel_rfl
theorem lx_sp (A0 A1 : Option Addr) : ∀ i, i < 6 → spF 2 (fun i => (LX A0 A1 i).f) (fun i => (x010 i).toNat) i = [0, 1, 2, 3, 0, 1].getD i 0 := fun i hi => by
  rcases (show i = 0 ∨ i = 1 ∨ i = 2 ∨ i = 3 ∨ i = 4 ∨ i = 5 by omega) with rfl | rfl | rfl | rfl | rfl | rfl <;> kernel_rfl
theorem spell_ex (u : World) (kb ku k0 k1 : Nat) (h0 : u.cell? ⟨kb, 0, none⟩ = some (.int .i64 0)) (h1 : u.cell? ⟨kb, 1, none⟩ = some (.int .i64 1)) (h2 : u.cell? ⟨kb, 2, none⟩ = some (.int .i64 0))
    (g0 : u.cell? ⟨ku, 0, none⟩ = some (.slice (some ⟨k0, 0, none⟩) 2 2)) (g1 : u.cell? ⟨ku, 1, none⟩ = some (.slice (some ⟨k1, 0, none⟩) 2 2)) (a0 : u.cell? ⟨k0, 0, none⟩ = some (.int .i64 0)) (a1 : u.cell? ⟨k0, 1, none⟩ = some (.int .i64 1)) (b0 : u.cell? ⟨k1, 0, none⟩ = some (.int .i64 2)) (b1 : u.cell? ⟨k1, 1, none⟩ = some (.int .i64 3)) :
    Calls Try.prog 59 #[.slice (some ⟨kb, 0, none⟩) 3 3, .slice (some ⟨ku, 0, none⟩) 2 2] u (RL u 6 (fun i => [0, 1, 2, 3, 0, 1].getD i 0) 0) := by
  have hf : L2.Holds u u.heap.size (some ⟨kb, 0, none⟩) 3 x010 := fun _ => ⟨kb, 0, rfl, lt_of_cell h0, fun i hi => by
    rcases (show i = 0 ∨ i = 1 ∨ i = 2 by omega) with rfl | rfl | rfl
    · exact h0
    · exact h1
    · exact h2⟩
  have hL : ILs u (some ⟨ku, 0, none⟩) 2 (LX (some ⟨k0, 0, none⟩) (some ⟨k1, 0, none⟩)) := fun _ => ⟨ku, 0, rfl, lt_of_cell g0, fun i hi => by
    rcases (show i = 0 ∨ i = 1 by omega) with rfl | rfl
    · exact ⟨g0, fun _ => ⟨k0, 0, rfl, lt_of_cell a0, fun j (hj : j < 2) => by
        rcases (show j = 0 ∨ j = 1 by omega) with rfl | rfl
        · exact a0
        · exact a1⟩, (fun h => by cases h), Nat.le_refl _⟩
    · exact ⟨g1, fun _ => ⟨k1, 0, rfl, lt_of_cell b0, fun j (hj : j < 2) => by
        rcases (show j = 0 ∨ j = 1 by omega) with rfl | rfl
        · exact b0
        · exact b1⟩, (fun h => by cases h), Nat.le_refl _⟩⟩
  refine (spell_ok (some ⟨kb, 0, none⟩) 3 3 x010 (some ⟨ku, 0, none⟩) 2 2 (LX (some ⟨k0, 0, none⟩) (some ⟨k1, 0, none⟩)) u hf (by omega) hL (by decide +kernel) (lx_ctz _ _) (by decide +kernel) (by show 3 * 2 ≤ 400; omega)).mono fun e w' ⟨A, c, he, hh, hb⟩ => ⟨A, c, he, fun h0 => ?_, hb⟩
  obtain ⟨b, o, e2, hl, hc⟩ := hh h0
  refine ⟨b, o, e2, hl, fun i (hi : i < 6) => ?_⟩
  rw [hc i hi]
  exact congrArg (fun z => some (Value.int .i64 z)) (lx_sp (some ⟨k0, 0, none⟩) (some ⟨k1, 0, none⟩) i hi)
end Go.Proofs.Ytngjcekjboedjaa
