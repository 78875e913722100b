/- Merged: Sym Sya Syd. -/
import Derived.Test.YtmakjdfkldacaaaGa
import Derived.Test.YtmakjdfkldacaaaGb
import Derived.Maps.AppendAt
import Derived.Lib.SliceRun

/- A grid without memory, and the four operations on it; what lies while operations are applied. -/
namespace Go.Proofs.Ytmakjdfkldacaaa
open Go.RowKit
set_option maxRecDepth 100000
set_option linter.unusedVariables false
set_option linter.unusedSimpArgs false

/-- A grid without its memory. -/
structure GD where
  (W H : Nat)
  (f : Nat → Bool)
structure GD.Ok (g : GD) : Prop where
  w0 : 1 ≤ g.W
  w1 : g.W ≤ 64
  h0 : 1 ≤ g.H
  h1 : g.H ≤ 64
def GD.m0 (g : GD) : GD := ⟨g.W, g.H, fun i => g.f (i / g.W * g.W + (g.W - 1 - i % g.W))⟩
def GD.m1 (g : GD) : GD := ⟨g.W, g.H, fun i => g.f ((g.H - 1 - i / g.W) * g.W + i % g.W)⟩
def GD.tn (g : GD) : GD := ⟨g.H, g.W, fun i => g.f (i % g.H * g.W + i / g.H)⟩
def GD.nt (g : GD) : GD := ⟨g.W, g.H, fun i => !g.f i⟩
def GD.c (F : GD → GD) (b : Bool) (g : GD) : GD := if b = true then F g else g
/-- The grid with an operation applied, of which the four parts are told. -/
def GD.apb (g : GD) (b1 b2 b4 b8 : Bool) : GD := (((g.c GD.m0 b1).c GD.m1 b2).c GD.tn b4).c GD.nt b8
theorem GD.Ok.tn {g : GD} (h : g.Ok) : g.tn.Ok := ⟨h.h0, h.h1, h.w0, h.w1⟩
theorem GD.Ok.m0 {g : GD} (h : g.Ok) : g.m0.Ok := ⟨h.w0, h.w1, h.h0, h.h1⟩
theorem GD.Ok.m1 {g : GD} (h : g.Ok) : g.m1.Ok := ⟨h.w0, h.w1, h.h0, h.h1⟩
theorem GD.Ok.nt {g : GD} (h : g.Ok) : g.nt.Ok := ⟨h.w0, h.w1, h.h0, h.h1⟩
theorem GD.Ok.apb {g : GD} (h : g.Ok) (b1 b2 b4 b8 : Bool) : (g.apb b1 b2 b4 b8).Ok := by
  cases b1 <;> cases b2 <;> cases b4 <;> cases b8 <;> exact ⟨by first | exact h.w0 | exact h.h0, by first | exact h.w1 | exact h.h1, by first | exact h.h0 | exact h.w0, by first | exact h.h1 | exact h.w1⟩
/-- A row of the call's own, of any capacity. -/
def COut (w : World) (n : Nat) (f : Nat → Bool) (e : Ending) (w' : World) : Prop := ∃ k d, e = .returned (.slice (some ⟨k, 0, none⟩) n d) ∧ n ≤ d ∧ w.heap.size ≤ k ∧ Row w' k n f ∧ Below w.heap.size w w'
end Go.Proofs.Ytmakjdfkldacaaa

/- Both sides' Apply of a valid grid. -/
namespace Go.Proofs.Ytmakjdfkldacaaa
open Go.RowKit
set_option maxRecDepth 100000
set_option linter.unusedVariables false
set_option linter.unusedSimpArgs false

theorem wrapOk {P : Ending → World → Prop} {e : Ending} {w : World} (h : P e w) : P e w := h
theorem box_field2 {w : World} {g : Nat} {W H : Int} {v : Value} (u : Value) (h : Box w g W H v) : Box (w.setCell ⟨g, 2, none⟩ u) g W H u := by
  unfold Box at h ⊢
  simp only [World.setCell, Array.getElem?_modify, h]
  rfl
theorem box_set3 {w : World} {g : Nat} {W H : Int} {v : Value} (h : Box w g W H v) (W' H' : Int) (u : Value) : Box (((w.setCell ⟨g, 0, none⟩ (.int .i64 W')).setCell ⟨g, 1, none⟩ (.int .i64 H')).setCell ⟨g, 2, none⟩ u) g W' H' u := by
  unfold Box at h ⊢
  simp only [World.setCell, Array.getElem?_modify, h]
  rfl
/-- What lies while an operation is applied: the grid's variable at g, the result's at r, the cells at (b, o). -/
structure AS (w v : World) (g r : Nat) (G : GD) (b o d : Nat) : Prop where
  box : Box v g G.W G.H (.slice (some ⟨b, o, none⟩) (G.W * G.H) d)
  res : Box v r 0 0 (.slice none 0 0)
  cells : ∀ i, i < G.W * G.H → v.cell? ⟨b, o + i, none⟩ = some (.bool (G.f i))
  bel : Below w.heap.size w v
  ok : G.Ok
  g0 : w.heap.size ≤ g
  r0 : w.heap.size ≤ r
  gr : g ≠ r
  bl : b < v.heap.size
  bg : b ≠ g
  br : b ≠ r
theorem AS.next {w v v' : World} {g r : Nat} {G : GD} {b o d : Nat} (h : AS w v g r G b o d) (hb : Below v.heap.size v v') : AS w v' g r G b o d :=
  ⟨h.box.below hb h.box.lt, h.res.below hb h.res.lt, fun i hi => (hb.cell (p := ⟨b, o + i, none⟩) h.bl).trans (h.cells i hi), h.bel.trans (hb.mono h.bel.size), h.ok, h.g0, h.r0, h.gr, Nat.lt_of_lt_of_le h.bl hb.size, h.bg, h.br⟩
theorem AS.holds {w v : World} {g r : Nat} {G : GD} {b o d : Nat} (h : AS w v g r G b o d) : Holds v v.heap.size (some ⟨b, o, none⟩) (G.W * G.H) G.f := fun _ => ⟨b, o, rfl, h.bl, h.cells⟩
/-- A result is laid into the grid's variable. -/
theorem AS.put {w v v' : World} {g r : Nat} {G : GD} {b o d : Nat} (h : AS w v g r G b o d) (hb : Below v.heap.size v v') {G' : GD} {k d' : Nat} (hk : v.heap.size ≤ k) (hr : Row v' k (G'.W * G'.H) G'.f) (ok' : G'.Ok) :
    AS w (((v'.setCell ⟨g, 0, none⟩ (.int .i64 (G'.W : Nat))).setCell ⟨g, 1, none⟩ (.int .i64 (G'.H : Nat))).setCell ⟨g, 2, none⟩ (.slice (some ⟨k, 0, none⟩) (G'.W * G'.H) d')) g r G' k 0 d' ∧
    Row (((v'.setCell ⟨g, 0, none⟩ (.int .i64 (G'.W : Nat))).setCell ⟨g, 1, none⟩ (.int .i64 (G'.H : Nat))).setCell ⟨g, 2, none⟩ (.slice (some ⟨k, 0, none⟩) (G'.W * G'.H) d')) k (G'.W * G'.H) G'.f := by
  have n := h.next hb
  have hg := h.box.lt
  have hr2 := h.res.lt
  have h0 := h.bel.size
  have hrow : Row (((v'.setCell ⟨g, 0, none⟩ (.int .i64 (G'.W : Nat))).setCell ⟨g, 1, none⟩ (.int .i64 (G'.H : Nat))).setCell ⟨g, 2, none⟩ (.slice (some ⟨k, 0, none⟩) (G'.W * G'.H) d')) k (G'.W * G'.H) G'.f :=
    ((hr.far (by simp; omega) _).far (by simp; omega) _).far (by simp; omega) _
  refine ⟨⟨box_set3 n.box _ _ _, ((n.res.far (by simp; exact fun e => h.gr e.symm) _).far (by simp; exact fun e => h.gr e.symm) _).far (by simp; exact fun e => h.gr e.symm) _, fun i hi => by rw [Nat.zero_add]; exact hrow.cell hi, ((n.bel.setCell h.g0 _).setCell h.g0 _).setCell h.g0 _, ok', h.g0, h.r0, h.gr, hrow.lt, by omega, by omega⟩, hrow⟩
theorem AS.put2 {w v v' : World} {g r : Nat} {G : GD} {b o d : Nat} (h : AS w v g r G b o d) (hb : Below v.heap.size v v') {k d' : Nat} (hk : v.heap.size ≤ k) (hr : Row v' k (G.W * G.H) G.f) :
    AS w (v'.setCell ⟨g, 2, none⟩ (.slice (some ⟨k, 0, none⟩) (G.W * G.H) d')) g r G k 0 d' ∧ Row (v'.setCell ⟨g, 2, none⟩ (.slice (some ⟨k, 0, none⟩) (G.W * G.H) d')) k (G.W * G.H) G.f := by
  have n := h.next hb
  have hg := h.box.lt
  have hr2 := h.res.lt
  have hrow : Row (v'.setCell ⟨g, 2, none⟩ (.slice (some ⟨k, 0, none⟩) (G.W * G.H) d')) k (G.W * G.H) G.f := hr.far (by simp; omega) _
  exact ⟨⟨box_field2 _ n.box, n.res.far (by simp; exact fun e => h.gr e.symm) _, fun i hi => by rw [Nat.zero_add]; exact hrow.cell hi, n.bel.setCell h.g0 _, h.ok, h.g0, h.r0, h.gr, hrow.lt, by omega, by omega⟩, hrow⟩
theorem as_new (w : World) (G : GD) (b o d : Nat) (ok : G.Ok) (hr : Holds w w.heap.size (some ⟨b, o, none⟩) (G.W * G.H) G.f) :
    AS w ((w.alloc (.cells #[.int .i64 (G.W : Nat), .int .i64 (G.H : Nat), .slice (some ⟨b, o, none⟩) (G.W * G.H) d] 24)).alloc (.cells #[.int .i64 0, .int .i64 0, .slice none 0 0] 24)) w.heap.size (w.heap.size + 1) G b o d := by
  obtain ⟨h1, h2, h3⟩ := boxes2 w (G.W : Nat) (G.H : Nat) 0 0 (.slice (some ⟨b, o, none⟩) (G.W * G.H) d) (.slice none 0 0)
  obtain ⟨b', o', e, hl, hc⟩ := hr (Nat.mul_pos ok.w0 ok.h0)
  cases e
  exact ⟨h1, h2, fun i hi => (h3.cell (p := ⟨b, o + i, none⟩) hl).trans (hc i hi), h3, ok, Nat.le_refl _, by omega, by omega, Nat.lt_of_lt_of_le hl h3.size, by omega, by omega⟩
/-- A grid came back, in a row of the call's own. -/
def OkG (w : World) (G : GD) (e : Ending) (w' : World) : Prop := ∃ k d, e = .returned (.agg #[.int .i64 (G.W : Nat), .int .i64 (G.H : Nat), .slice (some ⟨k, 0, none⟩) (G.W * G.H) d]) ∧ w.heap.size ≤ k ∧ Row w' k (G.W * G.H) G.f ∧ Below w.heap.size w w'
theorem okg_fin {w v : World} {r k d : Nat} {G : GD} (h : Row v k (G.W * G.H) G.f) (hk : w.heap.size ≤ k) (hr : w.heap.size ≤ r) (hne : k ≠ r) (hb : Below w.heap.size w v) (a b c : Value) :
    OkG w G (.returned (.agg #[.int .i64 (G.W : Nat), .int .i64 (G.H : Nat), .slice (some ⟨k, 0, none⟩) (G.W * G.H) d])) (((v.setCell ⟨r, 0, none⟩ a).setCell ⟨r, 1, none⟩ b).setCell ⟨r, 2, none⟩ c) :=
  ⟨k, d, rfl, hk, ((h.far (by simp; omega) _).far (by simp; omega) _).far (by simp; omega) _, ((hb.setCell hr _).setCell hr _).setCell hr _⟩
-- the operations as contracts about grids without memory
theorem p_m0 (G : GD) (ok : G.Ok) (b o d : Nat) (w : World) (hr : Holds w w.heap.size (some ⟨b, o, none⟩) (G.W * G.H) G.f) :
    Calls Try.prog 34 #[.agg #[.int .i64 (G.W : Nat), .int .i64 (G.H : Nat), .slice (some ⟨b, o, none⟩) (G.W * G.H) d], .int .i64 0] w (OkGrid w G.W G.H G.m0.f) := mirror_ok0 G.W G.H _ d G.f w hr ok.w0 ok.w1 ok.h0 ok.h1
theorem p_m1 (G : GD) (ok : G.Ok) (b o d : Nat) (w : World) (hr : Holds w w.heap.size (some ⟨b, o, none⟩) (G.W * G.H) G.f) :
    Calls Try.prog 34 #[.agg #[.int .i64 (G.W : Nat), .int .i64 (G.H : Nat), .slice (some ⟨b, o, none⟩) (G.W * G.H) d], .int .i64 1] w (OkGrid w G.W G.H G.m1.f) := mirror_ok1 G.W G.H _ d G.f w hr ok.w0 ok.w1 ok.h0 ok.h1
theorem p_tn (G : GD) (ok : G.Ok) (b o d : Nat) (w : World) (hr : Holds w w.heap.size (some ⟨b, o, none⟩) (G.W * G.H) G.f) :
    Calls Try.prog 33 #[.agg #[.int .i64 (G.W : Nat), .int .i64 (G.H : Nat), .slice (some ⟨b, o, none⟩) (G.W * G.H) d]] w (OkGrid w G.H G.W G.tn.f) := turn_ok G.W G.H _ d G.f w hr ok.w0 ok.w1 ok.h0 ok.h1
theorem p_nt (G : GD) (ok : G.Ok) (b o d : Nat) (w : World) (hr : Holds w w.heap.size (some ⟨b, o, none⟩) (G.W * G.H) G.f) :
    Calls Try.prog 14 #[.agg #[.int .i64 (G.W : Nat), .int .i64 (G.H : Nat), .slice (some ⟨b, o, none⟩) (G.W * G.H) d]] w (OkGrid w G.W G.H G.nt.f) := not_ok G.W G.H _ d G.f w hr ok.w0 ok.w1 ok.h0 ok.h1
theorem twice_bits {v : Int} : True := trivial
end Go.Proofs.Ytmakjdfkldacaaa

/- Which grids have a motif, which numbers are operations: both sides. -/
namespace Go.Proofs.Ytmakjdfkldacaaa
open Go.RowKit
set_option maxRecDepth 100000
set_option linter.unusedVariables false
set_option linter.unusedSimpArgs false

/-- The error of a grid, as layer 7 asks. -/
def schk (W H : Int) (n : Nat) : Int := if chk W H n ≠ 0 then chk W H n else if 16 < W ∨ 16 < H then 4 else 0
theorem schk_ok {W H : Int} {n : Nat} (h : schk W H n = 0) : chk W H n = 0 ∧ W ≤ 16 ∧ H ≤ 16 := by
  unfold schk at h
  by_cases hx : chk W H n = 0
  · rw [if_neg (by simpa using hx)] at h
    by_cases h1 : 16 < W ∨ 16 < H
    · rw [if_pos h1] at h; cases h
    · exact ⟨hx, by omega, by omega⟩
  · rw [if_pos hx] at h; exact absurd h hx
end Go.Proofs.Ytmakjdfkldacaaa
