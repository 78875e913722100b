/- Cell and Spread of both sides; what a walk with results keeps. -/
import Derived.Test.YtmakjdfkldacaaaCa
import Derived.Test.YtmakjdfkldacaaaCb
import Derived.Test.YtmakjdfkldacaaaGb
namespace Go.Proofs.Ytmakjdfkldacaaa
open Go.RowKit
set_option maxRecDepth 100000
set_option linter.unusedVariables false
set_option linter.unusedSimpArgs false

/-- A slice that a call has made, or of no elements. -/
structure WS (v : World) (lo : Nat) (D : Option Addr) (n : Nat) (f : Nat → Bool) : Prop where
  h : 0 < n → ∃ k, D = some ⟨k, 0, none⟩ ∧ lo ≤ k ∧ Row v k n f
theorem WS.next {v v' : World} {lo : Nat} {D : Option Addr} {n : Nat} {f : Nat → Bool} (h : WS v lo D n f) (hb : Below v.heap.size v v') : WS v' lo D n f := ⟨fun hn => (h.h hn).imp fun _ ⟨a, b, c⟩ => ⟨a, b, c.below hb c.lt⟩⟩
theorem WS.holds {v : World} {lo : Nat} {D : Option Addr} {n : Nat} {f : Nat → Bool} (h : WS v lo D n f) : Holds v v.heap.size D n f := fun hn => by
  obtain ⟨k, rfl, _, hr⟩ := h.h hn
  exact hr.holds hr.lt hn
theorem rsame_se (W H : Int) (A D : Option Addr) (n c d : Nat) (f : Nat → Bool) (w : World) (hn : n ≤ 5000) (h1 : Holds w w.heap.size A n f) (h2 : Holds w w.heap.size D n f) :
    Calls Try.prog 26 #[.agg #[.int .i64 W, .int .i64 H, .slice A n c], .agg #[.int .i64 W, .int .i64 H, .slice D n d]] w fun e w' => e = .returned (.bool true) ∧ Below w.heap.size w w' :=
  (rsame_loop W H W H A D n c d f f w hn rfl rfl h1 h2).mono fun e w' ⟨a, b⟩ => ⟨by rw [a]; exact ret_bool (by simp), b⟩
/-- A call hands back a grid of its own, and an error. -/
def RG (v : World) (U V : Int) (N : Nat) (F : Nat → Bool) (z : Int) (e : Ending) (w' : World) : Prop :=
  ∃ D d, e = .returned (.tuple #[.agg #[.int .i64 U, .int .i64 V, .slice D N d], .int .i64 z]) ∧ WS w' v.heap.size D N F ∧ Below v.heap.size v w'
theorem OkGrid.rg {w w' : World} {W H : Nat} {F : Nat → Bool} {e : Ending} (h : OkGrid w W H F e w') : RG w W H (W * H) F 0 e w' := by
  obtain ⟨k, h1, h2, h3, h4⟩ := h
  exact ⟨_, _, h1, ⟨fun _ => ⟨k, rfl, h2, h3⟩⟩, h4⟩
theorem SpG.rg {w w' : World} {W H : Nat} {F : Nat → Bool} {e : Ending} (h : SpG w W H F e w') : RG w W H (W * H) F 0 e w' := by
  obtain ⟨k, c, h1, h2, h3, h4⟩ := h
  exact ⟨_, _, h1, ⟨fun _ => ⟨k, rfl, h2, h3⟩⟩, h4⟩
theorem ErrGrid.rg {w w' : World} {z : Int} {e : Ending} (h : ErrGrid w z e w') : RG w 0 0 0 (fun _ => false) z e w' := ⟨none, 0, h.1, ⟨fun h => absurd h (by omega)⟩, h.2⟩
/-- What lies while a result's cells are turned over. -/
structure FS (w wr : World) (g3 g7 g8 : Nat) (W H : Int) (A : Option Addr) (n c : Nat) (D : Option Addr) (d : Nat) (f : Nat → Bool) (U V : Int) (N k dd : Nat) (F : Nat → Bool) : Prop where
  gx : Box wr g3 W H (.slice A n c)
  wx : Box wr g7 W H (.slice D n d)
  cx : Box wr g8 U V (.slice (some ⟨k, 0, none⟩) N dd)
  row : Row wr k N F
  was : 0 < n → ∃ q, D = some ⟨q, 0, none⟩ ∧ q ≠ k ∧ Row wr q n f
  bel : Below w.heap.size w wr
  k0 : w.heap.size ≤ k
  n3 : g3 ≠ k
  n7 : g7 ≠ k
  n8 : g8 ≠ k
theorem FS.put {w wr : World} {g3 g7 g8 : Nat} {W H : Int} {A : Option Addr} {n c : Nat} {D : Option Addr} {d : Nat} {f : Nat → Bool} {U V : Int} {N k dd : Nat} {F : Nat → Bool} (h : FS w wr g3 g7 g8 W H A n c D d f U V N k dd F) (x : Nat) (b : Bool) :
    FS w (wr.setCell ⟨k, x, none⟩ (.bool b)).drew g3 g7 g8 W H A n c D d f U V N k dd (fun j => if j = x then b else F j) :=
  ⟨(h.gx.far h.n3 _).drew, (h.wx.far h.n7 _).drew, (h.cx.far h.n8 _).drew, (h.row.set_ x b).drew, fun hn => (h.was hn).imp fun _ ⟨p, q, r⟩ => ⟨p, q, (r.far q _).drew⟩, (h.bel.setCell h.k0 _).drew, h.k0, h.n3, h.n7, h.n8⟩
theorem FS.holds {w wr : World} {g3 g7 g8 : Nat} {W H : Int} {A : Option Addr} {n c : Nat} {D : Option Addr} {d : Nat} {f : Nat → Bool} {U V : Int} {N k dd : Nat} {F : Nat → Bool} (h : FS w wr g3 g7 g8 W H A n c D d f U V N k dd F) : Holds wr wr.heap.size D n f := fun hn => by
  obtain ⟨q, rfl, _, hr⟩ := h.was hn
  exact hr.holds hr.lt hn
end Go.Proofs.Ytmakjdfkldacaaa
