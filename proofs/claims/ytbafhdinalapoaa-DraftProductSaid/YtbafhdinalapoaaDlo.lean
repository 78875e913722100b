/- What a double loop of the reference keeps: of all that was there, one row alone turns. -/
import Derived.Test.YtbafhdinalapoaaRefm
import Derived.Test.YtbafhdinalapoaaDft
namespace Go.Proofs.Ytbafhdinalapoaa
open Go.RowKit
set_option linter.unusedVariables false
set_option linter.unusedSimpArgs false
set_option maxRecDepth 100000

section
variable {w w' w'' : World} {k g n B : Nat} {A : Option Addr} {D : Dr}
theorem But.refl (k : Nat) (w : World) : But k w w := ⟨rfl, rfl, rfl, Nat.le_refl _, fun _ _ _ => rfl⟩
theorem But.trans (h : But k w w') (h' : But k w' w'') : But k w w'' :=
  ⟨h'.os.trans h.os, h'.tape.trans h.tape, h'.output.trans h.output, Nat.le_trans h.size h'.size, fun b hb hn => (h'.block b (Nat.lt_of_lt_of_le hb h.size) hn).trans (h.block b hb hn)⟩
theorem But.of (h : Below w.heap.size w w') (k : Nat) : But k w w' := ⟨h.os, h.tape, h.output, h.size, fun b hb _ => h.block b hb⟩
theorem But.dbox (hb : But k w w') (h : DBox w g D) (hg : g ≠ k) : DBox w' g D := (hb.block g h.lt hg).trans h
theorem But.iholds {f : Nat → Int} (hb : But k w w') (h : L2.Holds w B A n f) (hB : B ≤ k) (hw : B ≤ w.heap.size) : L2.Holds w' B A n f := fun hn => by
  obtain ⟨b, o, e, hlt, hc⟩ := h hn
  exact ⟨b, o, e, hlt, fun i hi => (World.cell?_of_block (w := w) (hb.block b (by omega) (by omega))).trans (hc i hi)⟩
theorem But.dr (hb : But k w w') (h : D.In w B) (hB : B ≤ k) (hw : B ≤ w.heap.size) : D.In w' B := ⟨hb.iholds h.th hB hw, hb.iholds h.tr hB hw, hb.holds h.ti hB hw⟩
end
/-- What the loops keep: the row that is written, and all else. -/
structure Lp (k : Nat) (wM wr : World) (N : Nat) (F : Nat → Bool) : Prop where
  but : But k wM wr
  row : Row wr k N F
section
variable {k N : Nat} {wM wr w' : World} {F F' : Nat → Bool}
theorem Lp.next (h : Lp k wM wr N F) (hb : Below wr.heap.size wr w') : Lp k wM w' N F := ⟨h.but.trans (But.of hb k), h.row.below hb h.row.lt⟩
theorem Lp.wrote (h : Lp k wM wr N F) (hb : But k wr w') (hr : Row w' k N F') : Lp k wM w' N F' := ⟨h.but.trans hb, hr⟩
theorem Lp.congr (h : Lp k wM wr N F) (e : ∀ i, i < N → F i = F' i) : Lp k wM wr N F' := ⟨h.but, h.row.congr e⟩
end
end Go.Proofs.Ytbafhdinalapoaa
