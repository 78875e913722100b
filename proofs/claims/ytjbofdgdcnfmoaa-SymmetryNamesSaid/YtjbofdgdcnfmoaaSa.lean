/- Merged: Sym Sya Syd. -/
import Derived.Test.YtjbofdgdcnfmoaaGa
import Derived.Test.YtjbofdgdcnfmoaaGb
import Derived.Maps.AppendAt
import Derived.Lib.SliceRun

/- A grid without memory, and the four operations on it; what lies while operations are applied. -/
namespace Go.Proofs.Ytjbofdgdcnfmoaa
open Go.RowKit
set_option maxRecDepth 100000
set_option linter.unusedVariables false
set_option linter.unusedSimpArgs false

/-- A grid without its memory. -/
structure GD where
  (W H : Nat)
  (f : Nat → Bool)
structure GD.Ok (g : GD) : Prop where
  w0 : 1 ≤ g.W
  w1 : g.W ≤ 64
  h0 : 1 ≤ g.H
  h1 : g.H ≤ 64
def GD.m0 (g : GD) : GD := ⟨g.W, g.H, fun i => g.f (i / g.W * g.W + (g.W - 1 - i % g.W))⟩
def GD.m1 (g : GD) : GD := ⟨g.W, g.H, fun i => g.f ((g.H - 1 - i / g.W) * g.W + i % g.W)⟩
def GD.tn (g : GD) : GD := ⟨g.H, g.W, fun i => g.f (i % g.H * g.W + i / g.H)⟩
def GD.nt (g : GD) : GD := ⟨g.W, g.H, fun i => !g.f i⟩
def GD.c (F : GD → GD) (b : Bool) (g : GD) : GD := if b = true then F g else g
/-- The grid with an operation applied, of which the four parts are told. -/
def GD.apb (g : GD) (b1 b2 b4 b8 : Bool) : GD := (((g.c GD.m0 b1).c GD.m1 b2).c GD.tn b4).c GD.nt b8
theorem GD.Ok.tn {g : GD} (h : g.Ok) : g.tn.Ok := ⟨h.h0, h.h1, h.w0, h.w1⟩
theorem GD.Ok.m0 {g : GD} (h : g.Ok) : g.m0.Ok := ⟨h.w0, h.w1, h.h0, h.h1⟩
theorem GD.Ok.m1 {g : GD} (h : g.Ok) : g.m1.Ok := ⟨h.w0, h.w1, h.h0, h.h1⟩
theorem GD.Ok.nt {g : GD} (h : g.Ok) : g.nt.Ok := ⟨h.w0, h.w1, h.h0, h.h1⟩
theorem GD.Ok.apb {g : GD} (h : g.Ok) (b1 b2 b4 b8 : Bool) : (g.apb b1 b2 b4 b8).Ok := by
  cases b1 <;> cases b2 <;> cases b4 <;> cases b8 <;> exact ⟨by first | exact h.w0 | exact h.h0, by first | exact h.w1 | exact h.h1, by first | exact h.h0 | exact h.w0, by first | exact h.h1 | exact h.w1⟩
/-- A row of the call's own, of any capacity. -/
def COut (w : World) (n : Nat) (f : Nat → Bool) (e : Ending) (w' : World) : Prop := ∃ k d, e = .returned (.slice (some ⟨k, 0, none⟩) n d) ∧ n ≤ d ∧ w.heap.size ≤ k ∧ Row w' k n f ∧ Below w.heap.size w w'
set_option maxHeartbeats 1600000 in
theorem clone_any (b o n c : Nat) (f : Nat → Bool) (w : World) (h0 : 0 < n) (hn : n ≤ 5000) (hr : Holds w w.heap.size (some ⟨b, o, none⟩) n f) :
    Calls Try.prog 117 #[.slice (some ⟨b, o, none⟩) n c] w (COut w n f) := by
  have A := Lib.hid (show ∀ j, j < n → w.cell? ⟨b, o + j, none⟩ = some (.bool (f j)) by
    obtain ⟨b', o', e, _, h⟩ := hr h0
    cases e
    exact h)
  clear hr
  obtain ⟨i0, hi, hz0, hz1, hz2⟩ := info_parts Try.info4
  have q22 : ∀ (w : World) (a : Option Addr) (n c n' c' : Nat), (binOp .eql 22 (.slice a n c) (.slice none n' c')).run Try.prog w = .ok (.bool a.isNone) w := fun w a n c n' c' => Lib.run_eql_slice_nil w _ _ a n c n' c' Try.underlying22
  go_enter Try.func117, Try.ntmps117
  go_wp2_with (at_builtin; refine wpList_append_own _ rfl _ _ 22 rfl w.heap.size 4 i0 (.bool false) 1 1 Try.underlying22 hi hz0 hz1 hz2 rfl (by decide) _ _ _ rfl (World.ownsRow_made w #[] 0 (Nat.le_refl _) (Nat.zero_le _) rfl) ⟨b, o, none⟩ n c (news n f) rfl ?qc1 ?qc2 ?qc3 ?qc4 ?qc5 ?qc6 ?_)
  case qc1 => simp [news_length]
  case qc2 =>
    intro j u hj
    obtain ⟨h1, rfl⟩ := news_get hj
    rw [Addr.add_lit]
    refine Lib.cell?_alloc_some _ ?_
    exact A.out j h1
  case qc3 => exact news_one
  case qc4 => unfold maxLen; omega
  case qc5 => omega
  case qc6 => simp
  intro v' w1 hown hgrow hnil
  try simp only [Nat.zero_add] at hown
  obtain ⟨g, cap, rfl, hgl, hcap⟩ : ∃ g cap, v' = .slice (some ⟨g, 0, none⟩) n cap ∧ w.heap.size ≤ g ∧ n ≤ cap := by
    rcases hown.2 with ⟨_, h1⟩ | ⟨g, cap, cur, h1, h2, h3, h4, _⟩
    · omega
    · exact ⟨g, cap, h1, h2, h4⟩
  have hrow : Row w1 g n f := Row.of_own (by simpa using hown) h0
  have hb : Below w.heap.size w w1 := ((Below.refl _ w).alloc (Nat.le_refl _) _).grown hgrow (by simp) (by intro k hk; simp [Value.ownBlock] at hk; omega)
  go_wp2
  go_ret
  exact ⟨g, cap, rfl, hcap, hgl, hrow, hb⟩
end Go.Proofs.Ytjbofdgdcnfmoaa

/- Both sides' Apply of a valid grid. -/
namespace Go.Proofs.Ytjbofdgdcnfmoaa
open Go.RowKit
set_option maxRecDepth 100000
set_option linter.unusedVariables false
set_option linter.unusedSimpArgs false

theorem wrapOk {P : Ending → World → Prop} {e : Ending} {w : World} (h : P e w) : P e w := h
theorem box_field2 {w : World} {g : Nat} {W H : Int} {v : Value} (u : Value) (h : Box w g W H v) : Box (w.setCell ⟨g, 2, none⟩ u) g W H u := by
  unfold Box at h ⊢
  simp only [World.setCell, Array.getElem?_modify, h]
  rfl
theorem box_set3 {w : World} {g : Nat} {W H : Int} {v : Value} (h : Box w g W H v) (W' H' : Int) (u : Value) : Box (((w.setCell ⟨g, 0, none⟩ (.int .i64 W')).setCell ⟨g, 1, none⟩ (.int .i64 H')).setCell ⟨g, 2, none⟩ u) g W' H' u := by
  unfold Box at h ⊢
  simp only [World.setCell, Array.getElem?_modify, h]
  rfl
/-- What lies while an operation is applied: the grid's variable at g, the result's at r, the cells at (b, o). -/
structure AS (w v : World) (g r : Nat) (G : GD) (b o d : Nat) : Prop where
  box : Box v g G.W G.H (.slice (some ⟨b, o, none⟩) (G.W * G.H) d)
  res : Box v r 0 0 (.slice none 0 0)
  cells : ∀ i, i < G.W * G.H → v.cell? ⟨b, o + i, none⟩ = some (.bool (G.f i))
  bel : Below w.heap.size w v
  ok : G.Ok
  g0 : w.heap.size ≤ g
  r0 : w.heap.size ≤ r
  gr : g ≠ r
  bl : b < v.heap.size
  bg : b ≠ g
  br : b ≠ r
theorem AS.next {w v v' : World} {g r : Nat} {G : GD} {b o d : Nat} (h : AS w v g r G b o d) (hb : Below v.heap.size v v') : AS w v' g r G b o d :=
  ⟨h.box.below hb h.box.lt, h.res.below hb h.res.lt, fun i hi => (hb.cell (p := ⟨b, o + i, none⟩) h.bl).trans (h.cells i hi), h.bel.trans (hb.mono h.bel.size), h.ok, h.g0, h.r0, h.gr, Nat.lt_of_lt_of_le h.bl hb.size, h.bg, h.br⟩
theorem AS.holds {w v : World} {g r : Nat} {G : GD} {b o d : Nat} (h : AS w v g r G b o d) : Holds v v.heap.size (some ⟨b, o, none⟩) (G.W * G.H) G.f := fun _ => ⟨b, o, rfl, h.bl, h.cells⟩
/-- A result is laid into the grid's variable. -/
theorem AS.put {w v v' : World} {g r : Nat} {G : GD} {b o d : Nat} (h : AS w v g r G b o d) (hb : Below v.heap.size v v') {G' : GD} {k d' : Nat} (hk : v.heap.size ≤ k) (hr : Row v' k (G'.W * G'.H) G'.f) (ok' : G'.Ok) :
    AS w (((v'.setCell ⟨g, 0, none⟩ (.int .i64 (G'.W : Nat))).setCell ⟨g, 1, none⟩ (.int .i64 (G'.H : Nat))).setCell ⟨g, 2, none⟩ (.slice (some ⟨k, 0, none⟩) (G'.W * G'.H) d')) g r G' k 0 d' ∧
    Row (((v'.setCell ⟨g, 0, none⟩ (.int .i64 (G'.W : Nat))).setCell ⟨g, 1, none⟩ (.int .i64 (G'.H : Nat))).setCell ⟨g, 2, none⟩ (.slice (some ⟨k, 0, none⟩) (G'.W * G'.H) d')) k (G'.W * G'.H) G'.f := by
  have n := h.next hb
  have hg := h.box.lt
  have hr2 := h.res.lt
  have h0 := h.bel.size
  have hrow : Row (((v'.setCell ⟨g, 0, none⟩ (.int .i64 (G'.W : Nat))).setCell ⟨g, 1, none⟩ (.int .i64 (G'.H : Nat))).setCell ⟨g, 2, none⟩ (.slice (some ⟨k, 0, none⟩) (G'.W * G'.H) d')) k (G'.W * G'.H) G'.f :=
    ((hr.far (by simp; omega) _).far (by simp; omega) _).far (by simp; omega) _
  refine ⟨⟨box_set3 n.box _ _ _, ((n.res.far (by simp; exact fun e => h.gr e.symm) _).far (by simp; exact fun e => h.gr e.symm) _).far (by simp; exact fun e => h.gr e.symm) _, fun i hi => by rw [Nat.zero_add]; exact hrow.cell hi, ((n.bel.setCell h.g0 _).setCell h.g0 _).setCell h.g0 _, ok', h.g0, h.r0, h.gr, hrow.lt, by omega, by omega⟩, hrow⟩
theorem AS.put2 {w v v' : World} {g r : Nat} {G : GD} {b o d : Nat} (h : AS w v g r G b o d) (hb : Below v.heap.size v v') {k d' : Nat} (hk : v.heap.size ≤ k) (hr : Row v' k (G.W * G.H) G.f) :
    AS w (v'.setCell ⟨g, 2, none⟩ (.slice (some ⟨k, 0, none⟩) (G.W * G.H) d')) g r G k 0 d' ∧ Row (v'.setCell ⟨g, 2, none⟩ (.slice (some ⟨k, 0, none⟩) (G.W * G.H) d')) k (G.W * G.H) G.f := by
  have n := h.next hb
  have hg := h.box.lt
  have hr2 := h.res.lt
  have hrow : Row (v'.setCell ⟨g, 2, none⟩ (.slice (some ⟨k, 0, none⟩) (G.W * G.H) d')) k (G.W * G.H) G.f := hr.far (by simp; omega) _
  exact ⟨⟨box_field2 _ n.box, n.res.far (by simp; exact fun e => h.gr e.symm) _, fun i hi => by rw [Nat.zero_add]; exact hrow.cell hi, n.bel.setCell h.g0 _, h.ok, h.g0, h.r0, h.gr, hrow.lt, by omega, by omega⟩, hrow⟩
theorem as_new (w : World) (G : GD) (b o d : Nat) (ok : G.Ok) (hr : Holds w w.heap.size (some ⟨b, o, none⟩) (G.W * G.H) G.f) :
    AS w ((w.alloc (.cells #[.int .i64 (G.W : Nat), .int .i64 (G.H : Nat), .slice (some ⟨b, o, none⟩) (G.W * G.H) d] 24)).alloc (.cells #[.int .i64 0, .int .i64 0, .slice none 0 0] 24)) w.heap.size (w.heap.size + 1) G b o d := by
  obtain ⟨h1, h2, h3⟩ := boxes2 w (G.W : Nat) (G.H : Nat) 0 0 (.slice (some ⟨b, o, none⟩) (G.W * G.H) d) (.slice none 0 0)
  obtain ⟨b', o', e, hl, hc⟩ := hr (Nat.mul_pos ok.w0 ok.h0)
  cases e
  exact ⟨h1, h2, fun i hi => (h3.cell (p := ⟨b, o + i, none⟩) hl).trans (hc i hi), h3, ok, Nat.le_refl _, by omega, by omega, Nat.lt_of_lt_of_le hl h3.size, by omega, by omega⟩
/-- A grid came back, in a row of the call's own. -/
def OkG (w : World) (G : GD) (e : Ending) (w' : World) : Prop := ∃ k d, e = .returned (.agg #[.int .i64 (G.W : Nat), .int .i64 (G.H : Nat), .slice (some ⟨k, 0, none⟩) (G.W * G.H) d]) ∧ w.heap.size ≤ k ∧ Row w' k (G.W * G.H) G.f ∧ Below w.heap.size w w'
theorem okg_fin {w v : World} {r k d : Nat} {G : GD} (h : Row v k (G.W * G.H) G.f) (hk : w.heap.size ≤ k) (hr : w.heap.size ≤ r) (hne : k ≠ r) (hb : Below w.heap.size w v) (a b c : Value) :
    OkG w G (.returned (.agg #[.int .i64 (G.W : Nat), .int .i64 (G.H : Nat), .slice (some ⟨k, 0, none⟩) (G.W * G.H) d])) (((v.setCell ⟨r, 0, none⟩ a).setCell ⟨r, 1, none⟩ b).setCell ⟨r, 2, none⟩ c) :=
  ⟨k, d, rfl, hk, ((h.far (by simp; omega) _).far (by simp; omega) _).far (by simp; omega) _, ((hb.setCell hr _).setCell hr _).setCell hr _⟩
-- the operations as contracts about grids without memory
theorem p_m0 (G : GD) (ok : G.Ok) (b o d : Nat) (w : World) (hr : Holds w w.heap.size (some ⟨b, o, none⟩) (G.W * G.H) G.f) :
    Calls Try.prog 118 #[.agg #[.int .i64 (G.W : Nat), .int .i64 (G.H : Nat), .slice (some ⟨b, o, none⟩) (G.W * G.H) d], .int .i64 0] w (OkGrid w G.W G.H G.m0.f) := mirror_ok0 G.W G.H _ d G.f w hr ok.w0 ok.w1 ok.h0 ok.h1
theorem p_m1 (G : GD) (ok : G.Ok) (b o d : Nat) (w : World) (hr : Holds w w.heap.size (some ⟨b, o, none⟩) (G.W * G.H) G.f) :
    Calls Try.prog 118 #[.agg #[.int .i64 (G.W : Nat), .int .i64 (G.H : Nat), .slice (some ⟨b, o, none⟩) (G.W * G.H) d], .int .i64 1] w (OkGrid w G.W G.H G.m1.f) := mirror_ok1 G.W G.H _ d G.f w hr ok.w0 ok.w1 ok.h0 ok.h1
theorem p_tn (G : GD) (ok : G.Ok) (b o d : Nat) (w : World) (hr : Holds w w.heap.size (some ⟨b, o, none⟩) (G.W * G.H) G.f) :
    Calls Try.prog 119 #[.agg #[.int .i64 (G.W : Nat), .int .i64 (G.H : Nat), .slice (some ⟨b, o, none⟩) (G.W * G.H) d]] w (OkGrid w G.H G.W G.tn.f) := turn_ok G.W G.H _ d G.f w hr ok.w0 ok.w1 ok.h0 ok.h1
theorem p_nt (G : GD) (ok : G.Ok) (b o d : Nat) (w : World) (hr : Holds w w.heap.size (some ⟨b, o, none⟩) (G.W * G.H) G.f) :
    Calls Try.prog 120 #[.agg #[.int .i64 (G.W : Nat), .int .i64 (G.H : Nat), .slice (some ⟨b, o, none⟩) (G.W * G.H) d]] w (OkGrid w G.W G.H G.nt.f) := not_ok G.W G.H _ d G.f w hr ok.w0 ok.w1 ok.h0 ok.h1
theorem r_m0 (G : GD) (ok : G.Ok) (b o d : Nat) (w : World) (hr : Holds w w.heap.size (some ⟨b, o, none⟩) (G.W * G.H) G.f) :
    Calls Try.prog 127 #[.agg #[.int .i64 (G.W : Nat), .int .i64 (G.H : Nat), .slice (some ⟨b, o, none⟩) (G.W * G.H) d], .int .i64 0] w (OkGrid w G.W G.H G.m0.f) := rmirror_ok0 G.W G.H _ d G.f w hr ok.w0 ok.w1 ok.h0 ok.h1
theorem r_m1 (G : GD) (ok : G.Ok) (b o d : Nat) (w : World) (hr : Holds w w.heap.size (some ⟨b, o, none⟩) (G.W * G.H) G.f) :
    Calls Try.prog 127 #[.agg #[.int .i64 (G.W : Nat), .int .i64 (G.H : Nat), .slice (some ⟨b, o, none⟩) (G.W * G.H) d], .int .i64 1] w (OkGrid w G.W G.H G.m1.f) := rmirror_ok1 G.W G.H _ d G.f w hr ok.w0 ok.w1 ok.h0 ok.h1
theorem r_tn (G : GD) (ok : G.Ok) (b o d : Nat) (w : World) (hr : Holds w w.heap.size (some ⟨b, o, none⟩) (G.W * G.H) G.f) :
    Calls Try.prog 128 #[.agg #[.int .i64 (G.W : Nat), .int .i64 (G.H : Nat), .slice (some ⟨b, o, none⟩) (G.W * G.H) d]] w (fun e w' => ∃ k, e = .returned (.agg #[.int .i64 (G.H : Nat), .int .i64 (G.W : Nat), .slice (some ⟨k, 0, none⟩) (G.H * G.W) (G.H * G.W)]) ∧ w.heap.size ≤ k ∧ Row w' k (G.H * G.W) G.tn.f ∧ Below w.heap.size w w') := turned_any G.W G.H _ d G.f w hr ok.w0 ok.w1 ok.h0 ok.h1
theorem r_nt (G : GD) (ok : G.Ok) (b o d : Nat) (w : World) (hr : Holds w w.heap.size (some ⟨b, o, none⟩) (G.W * G.H) G.f) :
    Calls Try.prog 129 #[.agg #[.int .i64 (G.W : Nat), .int .i64 (G.H : Nat), .slice (some ⟨b, o, none⟩) (G.W * G.H) d]] w (OkRef w G.W G.H G.nt.f) := rnot_ok G.W G.H _ d G.f w hr ok.w0 ok.w1 ok.h0 ok.h1
theorem r_tw (G : GD) (ok : G.Ok) (b o d : Nat) (w : World) (hr : Holds w w.heap.size (some ⟨b, o, none⟩) (G.W * G.H) G.f) :
    Calls Try.prog 33 #[.agg #[.int .i64 (G.W : Nat), .int .i64 (G.H : Nat), .slice (some ⟨b, o, none⟩) (G.W * G.H) d]] w (OkG w G) := twin_some _ _ _ _ d G.f w (Nat.le_trans (Nat.mul_le_mul ok.w1 ok.h1) (by omega)) (Nat.mul_pos ok.w0 ok.h0) hr
theorem twice_bits {v : Int} : True := trivial
end Go.Proofs.Ytjbofdgdcnfmoaa

/- Which grids have a motif, which numbers are operations: both sides. -/
namespace Go.Proofs.Ytjbofdgdcnfmoaa
open Go.RowKit
set_option maxRecDepth 100000
set_option linter.unusedVariables false
set_option linter.unusedSimpArgs false

/-- The error of a grid, as layer 7 asks. -/
def schk (W H : Int) (n : Nat) : Int := if chk W H n ≠ 0 then chk W H n else if 16 < W ∨ 16 < H then 4 else 0
theorem isop_any (v : Int) (w : World) : Calls Try.prog 93 #[.int .i64 v] w fun e w' => e = .returned (.bool (decide (0 ≤ v ∧ v < 16))) ∧ w' = w := by
  by_cases h1 : 0 ≤ v
  · by_cases h2 : v < 16
    · have e : decide (0 ≤ v ∧ v < 16) = true := by simp [h1, h2]
      rw [e]
      clear e
      go_enter Try.func93, Try.ntmps93
      go_wp2
      go_ret
      exact ⟨rfl, rfl⟩
    · have e : decide (0 ≤ v ∧ v < 16) = false := by simp [h2]
      rw [e]
      clear e
      go_enter Try.func93, Try.ntmps93
      go_wp2
      go_ret
      exact ⟨rfl, rfl⟩
  · have e : decide (0 ≤ v ∧ v < 16) = false := by simp [h1]
    rw [e]
    clear e
    go_enter Try.func93, Try.ntmps93
    go_wp2
    go_ret
    exact ⟨rfl, rfl⟩
theorem ris_any (v : Int) (w : World) : Calls Try.prog 67 #[.int .i64 v] w fun e w' => e = .returned (.bool (decide (0 ≤ v ∧ v < 16))) ∧ w' = w := by
  by_cases h1 : 0 ≤ v
  · by_cases h2 : v < 16
    · have e : decide (0 ≤ v ∧ v < 16) = true := by simp [h1, h2]
      rw [e]
      clear e
      go_enter Try.func67, Try.ntmps67
      go_wp2
      go_ret
      exact ⟨rfl, rfl⟩
    · have e : decide (0 ≤ v ∧ v < 16) = false := by simp [h2]
      rw [e]
      clear e
      go_enter Try.func67, Try.ntmps67
      go_wp2
      go_ret
      exact ⟨rfl, rfl⟩
  · have e : decide (0 ≤ v ∧ v < 16) = false := by simp [h1]
    rw [e]
    clear e
    go_enter Try.func67, Try.ntmps67
    go_wp2
    go_ret
    exact ⟨rfl, rfl⟩
set_option maxHeartbeats 800000 in
theorem start_err (W H : Int) (A : Option Addr) (n c : Nat) (w : World) (hn : n ≤ 4200) (z : Int) (hx : chk W H n = z) (hne : (z != 0) = true) :
    Calls Try.prog 103 #[.agg #[.int .i64 W, .int .i64 H, .slice A n c]] w fun e w' => e = .returned (.int .i64 z) ∧ Below w.heap.size w w' := by
  have HC := Lib.hid (fun v => rchk_err (A := A) (c := c) hn hx v)
  have LB0 := Lib.hid (show Below w.heap.size w (w.alloc (.cells #[.int .i64 W, .int .i64 H, .slice A n c] 24)) from (Below.refl _ _).alloc (Nat.le_refl _) _)
  have X0 := Lib.hid (Box.new w W H (.slice A n c))
  clear hx
  go_enter Try.func103, Try.ntmps103
  obtain ⟨q0, q1, q2, q3, q4, q5, q6⟩ := X0.out.all
  go_wp2_with fail
  clear q0 q1 q2 q3 q4 q5 q6
  refine (HC.out _).mono ?_
  rintro e w1 ⟨rfl, hb⟩
  have LB1 := Lib.hid (LB0.out.trans (hb.mono LB0.out.size))
  have X1 := Lib.hid (X0.out.below hb X0.out.lt)
  clear hb
  obtain ⟨q0, q1, q2, q3, q4, q5, q6⟩ := X1.out.all
  go_wp2_with fail
  clear q0 q1 q2 q3 q4 q5 q6
  refine (HC.out _).mono ?_
  rintro e w2 ⟨rfl, hb⟩
  have LB2 := Lib.hid (LB1.out.trans (hb.mono LB1.out.size))
  clear hb
  go_wp2
  go_ret
  exact ⟨rfl, LB2.out⟩
set_option maxHeartbeats 1600000 in
theorem check1_err (W H : Int) (A : Option Addr) (n c kk : Nat) (w : World) (hn : n ≤ 4200) (hb : Box w kk W H (.slice A n c)) (z : Int) (hx : chk W H n = z) (hne : (z != 0) = true) :
    Calls Try.prog 92 #[.slice (some ⟨kk, 0, none⟩) 1 1] w fun e w' => e = .returned (.int .i64 z) ∧ Below w.heap.size w w' := by
  have HC := Lib.hid (fun v => chk_err (A := A) (c := c) hn hx v)
  have LB0 := Lib.hid (show Below w.heap.size w (w.alloc (.cells #[.int .i64 W, .int .i64 H, .slice A n c] 24)) from (Below.refl _ _).alloc (Nat.le_refl _) _)
  have X0 := Lib.hid (Box.new w W H (.slice A n c))
  have HB := Lib.hid hb
  have HBa := Lib.hid (hb.alloc (.cells #[.int .i64 W, .int .i64 H, .slice A n c] 24))
  obtain ⟨p0, p1, p2, p3, p4, p5, p6⟩ := hb.all
  clear hx hb
  go_enter Try.func92, Try.ntmps92
  go_wp2
  refine wp_loop_rounds 2 ?_
  rw [rounds_succ]
  obtain ⟨q0, q1, q2, q3, q4, q5, q6⟩ := X0.out.all
  go_wp2_with fail
  clear q0 q1 q2 q3 q4 q5 q6 p0 p1 p2 p3 p4 p5 p6
  refine (HC.out _).mono ?_
  rintro e w1 ⟨rfl, hb⟩
  have LB1 := Lib.hid (LB0.out.trans (hb.mono LB0.out.size))
  have B1 := Lib.hid (HBa.out.below hb HBa.out.lt)
  clear hb
  go_wp2
  go_ret
  exact ⟨rfl, LB1.out⟩
set_option maxHeartbeats 800000 in
theorem start_w (W H : Int) (A : Option Addr) (n c : Nat) (w : World) (hn : n ≤ 4200) (hx : chk W H n = 0) (h1 : 16 < W) :
    Calls Try.prog 103 #[.agg #[.int .i64 W, .int .i64 H, .slice A n c]] w fun e w' => e = .returned (.int .i64 4) ∧ Below w.heap.size w w' := by
  have HC := Lib.hid (fun v => rchk_err (A := A) (c := c) hn hx v)
  have LB0 := Lib.hid (show Below w.heap.size w (w.alloc (.cells #[.int .i64 W, .int .i64 H, .slice A n c] 24)) from (Below.refl _ _).alloc (Nat.le_refl _) _)
  have X0 := Lib.hid (Box.new w W H (.slice A n c))
  clear hx
  go_enter Try.func103, Try.ntmps103
  obtain ⟨q0, q1, q2, q3, q4, q5, q6⟩ := X0.out.all
  go_wp2_with fail
  clear q0 q1 q2 q3 q4 q5 q6
  refine (HC.out _).mono ?_
  rintro e w1 ⟨rfl, hb⟩
  have LB1 := Lib.hid (LB0.out.trans (hb.mono LB0.out.size))
  have X1 := Lib.hid (X0.out.below hb X0.out.lt)
  clear hb
  obtain ⟨q0, q1, q2, q3, q4, q5, q6⟩ := X1.out.all
  go_wp2
  go_ret
  exact ⟨rfl, LB1.out⟩
set_option maxHeartbeats 1600000 in
theorem check1_w (W H : Int) (A : Option Addr) (n c kk : Nat) (w : World) (hn : n ≤ 4200) (hb : Box w kk W H (.slice A n c)) (hx : chk W H n = 0) (h1 : 16 < W) :
    Calls Try.prog 92 #[.slice (some ⟨kk, 0, none⟩) 1 1] w fun e w' => e = .returned (.int .i64 4) ∧ Below w.heap.size w w' := by
  have HC := Lib.hid (fun v => chk_err (A := A) (c := c) hn hx v)
  have LB0 := Lib.hid (show Below w.heap.size w (w.alloc (.cells #[.int .i64 W, .int .i64 H, .slice A n c] 24)) from (Below.refl _ _).alloc (Nat.le_refl _) _)
  have X0 := Lib.hid (Box.new w W H (.slice A n c))
  have HB := Lib.hid hb
  have HBa := Lib.hid (hb.alloc (.cells #[.int .i64 W, .int .i64 H, .slice A n c] 24))
  obtain ⟨p0, p1, p2, p3, p4, p5, p6⟩ := hb.all
  clear hx hb
  go_enter Try.func92, Try.ntmps92
  go_wp2
  refine wp_loop_rounds 2 ?_
  rw [rounds_succ]
  obtain ⟨q0, q1, q2, q3, q4, q5, q6⟩ := X0.out.all
  go_wp2_with fail
  clear q0 q1 q2 q3 q4 q5 q6 p0 p1 p2 p3 p4 p5 p6
  refine (HC.out _).mono ?_
  rintro e w1 ⟨rfl, hb⟩
  have LB1 := Lib.hid (LB0.out.trans (hb.mono LB0.out.size))
  have B1 := Lib.hid (HBa.out.below hb HBa.out.lt)
  clear hb
  go_wp2
  rw [rounds_succ]
  go_wp2
  refine wp_loop_rounds 2 ?_
  rw [rounds_succ]
  obtain ⟨p0, p1, p2, p3, p4, p5, p6⟩ := B1.out.all
  obtain ⟨q0, q1, q2, q3, q4, q5, q6⟩ := (Box.new w1 W H (.slice A n c)).all
  have LB2 := Lib.hid (LB1.out.alloc LB1.out.size (.cells #[.int .i64 W, .int .i64 H, .slice A n c] 24))
  go_wp2
  go_ret
  exact ⟨rfl, LB2.out⟩
set_option maxHeartbeats 800000 in
theorem start_h (W H : Int) (A : Option Addr) (n c : Nat) (w : World) (hn : n ≤ 4200) (hx : chk W H n = 0) (h0 : ¬ 16 < W) (h1 : 16 < H) :
    Calls Try.prog 103 #[.agg #[.int .i64 W, .int .i64 H, .slice A n c]] w fun e w' => e = .returned (.int .i64 4) ∧ Below w.heap.size w w' := by
  have HC := Lib.hid (fun v => rchk_err (A := A) (c := c) hn hx v)
  have LB0 := Lib.hid (show Below w.heap.size w (w.alloc (.cells #[.int .i64 W, .int .i64 H, .slice A n c] 24)) from (Below.refl _ _).alloc (Nat.le_refl _) _)
  have X0 := Lib.hid (Box.new w W H (.slice A n c))
  clear hx
  go_enter Try.func103, Try.ntmps103
  obtain ⟨q0, q1, q2, q3, q4, q5, q6⟩ := X0.out.all
  go_wp2_with fail
  clear q0 q1 q2 q3 q4 q5 q6
  refine (HC.out _).mono ?_
  rintro e w1 ⟨rfl, hb⟩
  have LB1 := Lib.hid (LB0.out.trans (hb.mono LB0.out.size))
  have X1 := Lib.hid (X0.out.below hb X0.out.lt)
  clear hb
  obtain ⟨q0, q1, q2, q3, q4, q5, q6⟩ := X1.out.all
  go_wp2
  go_ret
  exact ⟨rfl, LB1.out⟩
set_option maxHeartbeats 1600000 in
theorem check1_h (W H : Int) (A : Option Addr) (n c kk : Nat) (w : World) (hn : n ≤ 4200) (hb : Box w kk W H (.slice A n c)) (hx : chk W H n = 0) (h0 : ¬ 16 < W) (h1 : 16 < H) :
    Calls Try.prog 92 #[.slice (some ⟨kk, 0, none⟩) 1 1] w fun e w' => e = .returned (.int .i64 4) ∧ Below w.heap.size w w' := by
  have HC := Lib.hid (fun v => chk_err (A := A) (c := c) hn hx v)
  have LB0 := Lib.hid (show Below w.heap.size w (w.alloc (.cells #[.int .i64 W, .int .i64 H, .slice A n c] 24)) from (Below.refl _ _).alloc (Nat.le_refl _) _)
  have X0 := Lib.hid (Box.new w W H (.slice A n c))
  have HB := Lib.hid hb
  have HBa := Lib.hid (hb.alloc (.cells #[.int .i64 W, .int .i64 H, .slice A n c] 24))
  obtain ⟨p0, p1, p2, p3, p4, p5, p6⟩ := hb.all
  clear hx hb
  go_enter Try.func92, Try.ntmps92
  go_wp2
  refine wp_loop_rounds 2 ?_
  rw [rounds_succ]
  obtain ⟨q0, q1, q2, q3, q4, q5, q6⟩ := X0.out.all
  go_wp2_with fail
  clear q0 q1 q2 q3 q4 q5 q6 p0 p1 p2 p3 p4 p5 p6
  refine (HC.out _).mono ?_
  rintro e w1 ⟨rfl, hb⟩
  have LB1 := Lib.hid (LB0.out.trans (hb.mono LB0.out.size))
  have B1 := Lib.hid (HBa.out.below hb HBa.out.lt)
  clear hb
  go_wp2
  rw [rounds_succ]
  go_wp2
  refine wp_loop_rounds 2 ?_
  rw [rounds_succ]
  obtain ⟨p0, p1, p2, p3, p4, p5, p6⟩ := B1.out.all
  obtain ⟨q0, q1, q2, q3, q4, q5, q6⟩ := (Box.new w1 W H (.slice A n c)).all
  have LB2 := Lib.hid (LB1.out.alloc LB1.out.size (.cells #[.int .i64 W, .int .i64 H, .slice A n c] 24))
  go_wp2
  go_ret
  exact ⟨rfl, LB2.out⟩
set_option maxHeartbeats 800000 in
theorem start_ok (W H : Int) (A : Option Addr) (n c : Nat) (w : World) (hn : n ≤ 4200) (hx : chk W H n = 0) (h0 : ¬ 16 < W) (h1 : ¬ 16 < H) :
    Calls Try.prog 103 #[.agg #[.int .i64 W, .int .i64 H, .slice A n c]] w fun e w' => e = .returned (.int .i64 0) ∧ Below w.heap.size w w' := by
  have HC := Lib.hid (fun v => rchk_err (A := A) (c := c) hn hx v)
  have LB0 := Lib.hid (show Below w.heap.size w (w.alloc (.cells #[.int .i64 W, .int .i64 H, .slice A n c] 24)) from (Below.refl _ _).alloc (Nat.le_refl _) _)
  have X0 := Lib.hid (Box.new w W H (.slice A n c))
  clear hx
  go_enter Try.func103, Try.ntmps103
  obtain ⟨q0, q1, q2, q3, q4, q5, q6⟩ := X0.out.all
  go_wp2_with fail
  clear q0 q1 q2 q3 q4 q5 q6
  refine (HC.out _).mono ?_
  rintro e w1 ⟨rfl, hb⟩
  have LB1 := Lib.hid (LB0.out.trans (hb.mono LB0.out.size))
  have X1 := Lib.hid (X0.out.below hb X0.out.lt)
  clear hb
  obtain ⟨q0, q1, q2, q3, q4, q5, q6⟩ := X1.out.all
  go_wp2
  go_ret
  exact ⟨rfl, LB1.out⟩
set_option maxHeartbeats 1600000 in
theorem check1_ok (W H : Int) (A : Option Addr) (n c kk : Nat) (w : World) (hn : n ≤ 4200) (hb : Box w kk W H (.slice A n c)) (hx : chk W H n = 0) (h0 : ¬ 16 < W) (h1 : ¬ 16 < H) :
    Calls Try.prog 92 #[.slice (some ⟨kk, 0, none⟩) 1 1] w fun e w' => e = .returned (.int .i64 0) ∧ Below w.heap.size w w' := by
  have HC := Lib.hid (fun v => chk_err (A := A) (c := c) hn hx v)
  have LB0 := Lib.hid (show Below w.heap.size w (w.alloc (.cells #[.int .i64 W, .int .i64 H, .slice A n c] 24)) from (Below.refl _ _).alloc (Nat.le_refl _) _)
  have X0 := Lib.hid (Box.new w W H (.slice A n c))
  have HB := Lib.hid hb
  have HBa := Lib.hid (hb.alloc (.cells #[.int .i64 W, .int .i64 H, .slice A n c] 24))
  obtain ⟨p0, p1, p2, p3, p4, p5, p6⟩ := hb.all
  clear hx hb
  go_enter Try.func92, Try.ntmps92
  go_wp2
  refine wp_loop_rounds 2 ?_
  rw [rounds_succ]
  obtain ⟨q0, q1, q2, q3, q4, q5, q6⟩ := X0.out.all
  go_wp2_with fail
  clear q0 q1 q2 q3 q4 q5 q6 p0 p1 p2 p3 p4 p5 p6
  refine (HC.out _).mono ?_
  rintro e w1 ⟨rfl, hb⟩
  have LB1 := Lib.hid (LB0.out.trans (hb.mono LB0.out.size))
  have B1 := Lib.hid (HBa.out.below hb HBa.out.lt)
  clear hb
  go_wp2
  rw [rounds_succ]
  go_wp2
  refine wp_loop_rounds 2 ?_
  rw [rounds_succ]
  obtain ⟨p0, p1, p2, p3, p4, p5, p6⟩ := B1.out.all
  obtain ⟨q0, q1, q2, q3, q4, q5, q6⟩ := (Box.new w1 W H (.slice A n c)).all
  have LB2 := Lib.hid (LB1.out.alloc LB1.out.size (.cells #[.int .i64 W, .int .i64 H, .slice A n c] 24))
  go_wp2
  rw [rounds_succ]
  go_wp2
  go_ret
  exact ⟨rfl, LB2.out⟩
theorem start_any (W H : Int) (A : Option Addr) (n c : Nat) (w : World) (hn : n ≤ 4200) : Calls Try.prog 103 #[.agg #[.int .i64 W, .int .i64 H, .slice A n c]] w fun e w' => e = .returned (.int .i64 (schk W H n)) ∧ Below w.heap.size w w' := by
  unfold schk
  by_cases hx : chk W H n = 0
  · rw [if_neg (by simpa using hx)]
    by_cases h1 : 16 < W
    · rw [if_pos (Or.inl h1)]; exact start_w W H A n c w hn hx h1
    · by_cases h2 : 16 < H
      · rw [if_pos (Or.inr h2)]; exact start_h W H A n c w hn hx h1 h2
      · rw [if_neg (by omega)]; exact start_ok W H A n c w hn hx h1 h2
  · rw [if_pos hx]; exact start_err W H A n c w hn _ rfl (by simpa using hx)
theorem check1_any (W H : Int) (A : Option Addr) (n c kk : Nat) (w : World) (hn : n ≤ 4200) (hb : Box w kk W H (.slice A n c)) : Calls Try.prog 92 #[.slice (some ⟨kk, 0, none⟩) 1 1] w fun e w' => e = .returned (.int .i64 (schk W H n)) ∧ Below w.heap.size w w' := by
  unfold schk
  by_cases hx : chk W H n = 0
  · rw [if_neg (by simpa using hx)]
    by_cases h1 : 16 < W
    · rw [if_pos (Or.inl h1)]; exact check1_w W H A n c kk w hn hb hx h1
    · by_cases h2 : 16 < H
      · rw [if_pos (Or.inr h2)]; exact check1_h W H A n c kk w hn hb hx h1 h2
      · rw [if_neg (by omega)]; exact check1_ok W H A n c kk w hn hb hx h1 h2
  · rw [if_pos hx]; exact check1_err W H A n c kk w hn hb _ rfl (by simpa using hx)
/-- The reference's Great answers this. -/
theorem great7_n (W H : Int) (A : Option Addr) (n c : Nat) (w : World) (h : 500 < n) : Calls Try.prog 57 #[.agg #[.int .i64 W, .int .i64 H, .slice A n c]] w fun e w' => e = .returned (.bool true) ∧ Below w.heap.size w w' := by
  have LB0 := Lib.hid (show Below w.heap.size w (w.alloc (.cells #[.int .i64 W, .int .i64 H, .slice A n c] 24)) from (Below.refl _ _).alloc (Nat.le_refl _) _)
  have X0 := Lib.hid (Box.new w W H (.slice A n c))
  have x1 : decide ((500 : Int) < (n : Int)) = true := by simp; omega
  go_enter Try.func57, Try.ntmps57
  obtain ⟨q0, q1, q2, q3, q4, q5, q6⟩ := X0.out.all
  go_wp2
  go_ret
  exact ⟨rfl, LB0.out⟩
set_option maxHeartbeats 800000 in
theorem great7_bad (W H : Int) (A : Option Addr) (n c : Nat) (w : World) (h : n ≤ 500) (z : Int) (hx : schk W H n = z) (hne : ¬ z = 0) : Calls Try.prog 57 #[.agg #[.int .i64 W, .int .i64 H, .slice A n c]] w fun e w' => e = .returned (.bool false) ∧ Below w.heap.size w w' := by
  have LB0 := Lib.hid (show Below w.heap.size w (w.alloc (.cells #[.int .i64 W, .int .i64 H, .slice A n c] 24)) from (Below.refl _ _).alloc (Nat.le_refl _) _)
  have X0 := Lib.hid (Box.new w W H (.slice A n c))
  have HC := Lib.hid (fun v => (show Calls Try.prog 103 #[.agg #[.int .i64 W, .int .i64 H, .slice A n c]] v fun e w' => e = .returned (.int .i64 z) ∧ Below v.heap.size v w' by have := start_any W H A n c v (by omega); rw [hx] at this; exact this))
  have x1 : decide ((500 : Int) < (n : Int)) = false := by simp; omega
  have x2 : (z == 0) = false := by simpa using hne
  clear hx
  go_enter Try.func57, Try.ntmps57
  obtain ⟨q0, q1, q2, q3, q4, q5, q6⟩ := X0.out.all
  go_wp2_with fail
  clear q0 q1 q2 q3 q4 q5 q6
  refine (HC.out _).mono ?_
  rintro e w1 ⟨rfl, hb⟩
  have LB1 := Lib.hid (LB0.out.trans (hb.mono LB0.out.size))
  obtain ⟨q0, q1, q2, q3, q4, q5, q6⟩ := (X0.out.below hb X0.out.lt).all
  clear hb
  go_wp2
  go_ret
  exact ⟨rfl, LB1.out⟩
set_option maxHeartbeats 800000 in
theorem great7_w (W H : Int) (A : Option Addr) (n c : Nat) (w : World) (h : n ≤ 500) (hx : schk W H n = 0) (h1 : 8 < W) : Calls Try.prog 57 #[.agg #[.int .i64 W, .int .i64 H, .slice A n c]] w fun e w' => e = .returned (.bool true) ∧ Below w.heap.size w w' := by
  have LB0 := Lib.hid (show Below w.heap.size w (w.alloc (.cells #[.int .i64 W, .int .i64 H, .slice A n c] 24)) from (Below.refl _ _).alloc (Nat.le_refl _) _)
  have X0 := Lib.hid (Box.new w W H (.slice A n c))
  have HC := Lib.hid (fun v => (show Calls Try.prog 103 #[.agg #[.int .i64 W, .int .i64 H, .slice A n c]] v fun e w' => e = .returned (.int .i64 0) ∧ Below v.heap.size v w' by have := start_any W H A n c v (by omega); rw [hx] at this; exact this))
  have x1 : decide ((500 : Int) < (n : Int)) = false := by simp; omega
  clear hx
  go_enter Try.func57, Try.ntmps57
  obtain ⟨q0, q1, q2, q3, q4, q5, q6⟩ := X0.out.all
  go_wp2_with fail
  clear q0 q1 q2 q3 q4 q5 q6
  refine (HC.out _).mono ?_
  rintro e w1 ⟨rfl, hb⟩
  have LB1 := Lib.hid (LB0.out.trans (hb.mono LB0.out.size))
  obtain ⟨q0, q1, q2, q3, q4, q5, q6⟩ := (X0.out.below hb X0.out.lt).all
  clear hb
  go_wp2
  go_ret
  exact ⟨rfl, LB1.out⟩
set_option maxHeartbeats 800000 in
theorem great7_h (W H : Int) (A : Option Addr) (n c : Nat) (w : World) (h : n ≤ 500) (hx : schk W H n = 0) (h0 : ¬ 8 < W) (h1 : 8 < H) : Calls Try.prog 57 #[.agg #[.int .i64 W, .int .i64 H, .slice A n c]] w fun e w' => e = .returned (.bool true) ∧ Below w.heap.size w w' := by
  have LB0 := Lib.hid (show Below w.heap.size w (w.alloc (.cells #[.int .i64 W, .int .i64 H, .slice A n c] 24)) from (Below.refl _ _).alloc (Nat.le_refl _) _)
  have X0 := Lib.hid (Box.new w W H (.slice A n c))
  have HC := Lib.hid (fun v => (show Calls Try.prog 103 #[.agg #[.int .i64 W, .int .i64 H, .slice A n c]] v fun e w' => e = .returned (.int .i64 0) ∧ Below v.heap.size v w' by have := start_any W H A n c v (by omega); rw [hx] at this; exact this))
  have x1 : decide ((500 : Int) < (n : Int)) = false := by simp; omega
  clear hx
  go_enter Try.func57, Try.ntmps57
  obtain ⟨q0, q1, q2, q3, q4, q5, q6⟩ := X0.out.all
  go_wp2_with fail
  clear q0 q1 q2 q3 q4 q5 q6
  refine (HC.out _).mono ?_
  rintro e w1 ⟨rfl, hb⟩
  have LB1 := Lib.hid (LB0.out.trans (hb.mono LB0.out.size))
  obtain ⟨q0, q1, q2, q3, q4, q5, q6⟩ := (X0.out.below hb X0.out.lt).all
  clear hb
  go_wp2
  go_ret
  exact ⟨rfl, LB1.out⟩
set_option maxHeartbeats 800000 in
theorem great7_p (W H : Int) (A : Option Addr) (n c : Nat) (w : World) (h : n ≤ 500) (hx : schk W H n = 0) (h0 : ¬ 8 < W) (h1 : ¬ 8 < H) (hw : 0 ≤ W) (hh : 0 ≤ H) (hp : 36 < W * H) : Calls Try.prog 57 #[.agg #[.int .i64 W, .int .i64 H, .slice A n c]] w fun e w' => e = .returned (.bool true) ∧ Below w.heap.size w w' := by
  have LB0 := Lib.hid (show Below w.heap.size w (w.alloc (.cells #[.int .i64 W, .int .i64 H, .slice A n c] 24)) from (Below.refl _ _).alloc (Nat.le_refl _) _)
  have X0 := Lib.hid (Box.new w W H (.slice A n c))
  have HC := Lib.hid (fun v => (show Calls Try.prog 103 #[.agg #[.int .i64 W, .int .i64 H, .slice A n c]] v fun e w' => e = .returned (.int .i64 0) ∧ Below v.heap.size v w' by have := start_any W H A n c v (by omega); rw [hx] at this; exact this))
  have x1 : decide ((500 : Int) < (n : Int)) = false := by simp; omega
  have x3 : IntKind.i64.wrap (W * H) = W * H := IntWalk.i64_in _ (by obtain ⟨m1, m2⟩ := mul_bd (W := W) (y := H) hw (by omega) hh (by omega); rw [Int.mul_comm] at m1 m2; omega)
  clear hx
  go_enter Try.func57, Try.ntmps57
  obtain ⟨q0, q1, q2, q3, q4, q5, q6⟩ := X0.out.all
  go_wp2_with fail
  clear q0 q1 q2 q3 q4 q5 q6
  refine (HC.out _).mono ?_
  rintro e w1 ⟨rfl, hb⟩
  have LB1 := Lib.hid (LB0.out.trans (hb.mono LB0.out.size))
  obtain ⟨q0, q1, q2, q3, q4, q5, q6⟩ := (X0.out.below hb X0.out.lt).all
  clear hb
  go_wp2
  go_ret
  exact ⟨rfl, LB1.out⟩
set_option maxHeartbeats 800000 in
theorem great7_ok (W H : Int) (A : Option Addr) (n c : Nat) (w : World) (h : n ≤ 500) (hx : schk W H n = 0) (h0 : ¬ 8 < W) (h1 : ¬ 8 < H) (hw : 0 ≤ W) (hh : 0 ≤ H) (hp : ¬ 36 < W * H) : Calls Try.prog 57 #[.agg #[.int .i64 W, .int .i64 H, .slice A n c]] w fun e w' => e = .returned (.bool false) ∧ Below w.heap.size w w' := by
  have LB0 := Lib.hid (show Below w.heap.size w (w.alloc (.cells #[.int .i64 W, .int .i64 H, .slice A n c] 24)) from (Below.refl _ _).alloc (Nat.le_refl _) _)
  have X0 := Lib.hid (Box.new w W H (.slice A n c))
  have HC := Lib.hid (fun v => (show Calls Try.prog 103 #[.agg #[.int .i64 W, .int .i64 H, .slice A n c]] v fun e w' => e = .returned (.int .i64 0) ∧ Below v.heap.size v w' by have := start_any W H A n c v (by omega); rw [hx] at this; exact this))
  have x1 : decide ((500 : Int) < (n : Int)) = false := by simp; omega
  have x3 : IntKind.i64.wrap (W * H) = W * H := IntWalk.i64_in _ (by obtain ⟨m1, m2⟩ := mul_bd (W := W) (y := H) hw (by omega) hh (by omega); rw [Int.mul_comm] at m1 m2; omega)
  clear hx
  go_enter Try.func57, Try.ntmps57
  obtain ⟨q0, q1, q2, q3, q4, q5, q6⟩ := X0.out.all
  go_wp2_with fail
  clear q0 q1 q2 q3 q4 q5 q6
  refine (HC.out _).mono ?_
  rintro e w1 ⟨rfl, hb⟩
  have LB1 := Lib.hid (LB0.out.trans (hb.mono LB0.out.size))
  obtain ⟨q0, q1, q2, q3, q4, q5, q6⟩ := (X0.out.below hb X0.out.lt).all
  clear hb
  go_wp2
  go_ret
  exact ⟨ret_bool (by simp; omega), LB1.out⟩
theorem schk_ok {W H : Int} {n : Nat} (h : schk W H n = 0) : chk W H n = 0 ∧ W ≤ 16 ∧ H ≤ 16 := by
  unfold schk at h
  by_cases hx : chk W H n = 0
  · rw [if_neg (by simpa using hx)] at h
    by_cases h1 : 16 < W ∨ 16 < H
    · rw [if_pos h1] at h; cases h
    · exact ⟨hx, by omega, by omega⟩
  · rw [if_pos hx] at h; exact absurd h hx
theorem great7_case (W H : Int) (A : Option Addr) (n c : Nat) : (∀ w, Calls Try.prog 57 #[.agg #[.int .i64 W, .int .i64 H, .slice A n c]] w fun e w' => e = .returned (.bool true) ∧ Below w.heap.size w w') ∨ (n ≤ 500 ∧ ∀ w, Calls Try.prog 57 #[.agg #[.int .i64 W, .int .i64 H, .slice A n c]] w fun e w' => e = .returned (.bool false) ∧ Below w.heap.size w w') := by
  by_cases hn : 500 < n
  · exact .inl fun w => great7_n W H A n c w hn
  · have hn : n ≤ 500 := by omega
    by_cases hx : schk W H n = 0
    · obtain ⟨a1, a2, a3⟩ := schk_ok hx
      obtain ⟨b1, b2, b3, b4, b5⟩ := chk_ok a1
      by_cases h1 : 8 < W
      · exact .inl fun w => great7_w W H A n c w hn hx h1
      · by_cases h2 : 8 < H
        · exact .inl fun w => great7_h W H A n c w hn hx h1 h2
        · by_cases h3 : 36 < W * H
          · exact .inl fun w => great7_p W H A n c w hn hx h1 h2 (by omega) (by omega) h3
          · exact .inr ⟨hn, fun w => great7_ok W H A n c w hn hx h1 h2 (by omega) (by omega) h3⟩
    · exact .inr ⟨hn, fun w => great7_bad W H A n c w hn _ rfl hx⟩
end Go.Proofs.Ytjbofdgdcnfmoaa
