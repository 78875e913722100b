/- The reference's Woven, Lift, Weave; both Sames; Great; what functions that hand back a draft leave. -/
import Derived.Test.YtbafhdinalapoaaDoorGa
import Derived.Test.YtbafhdinalapoaaDoorDa
import Derived.Test.YtbafhdinalapoaaDoorIa
import Derived.Lib.SliceRun
import Derived.Deep.RegionLawGrows

/- What a double loop of the reference keeps: of all that was there, one row alone turns. -/
namespace Go.Proofs.YtbafhdinalapoaaDoor
open Go.RowKit
set_option linter.unusedVariables false
set_option linter.unusedSimpArgs false
set_option maxRecDepth 100000

section
variable {w w' w'' : World} {k g n B : Nat} {A : Option Addr} {D : Dr}
theorem But.refl (k : Nat) (w : World) : But k w w := ⟨rfl, rfl, rfl, Nat.le_refl _, fun _ _ _ => rfl⟩
theorem But.trans (h : But k w w') (h' : But k w' w'') : But k w w'' :=
  ⟨h'.os.trans h.os, h'.tape.trans h.tape, h'.output.trans h.output, Nat.le_trans h.size h'.size, fun b hb hn => (h'.block b (Nat.lt_of_lt_of_le hb h.size) hn).trans (h.block b hb hn)⟩
theorem But.of (h : Below w.heap.size w w') (k : Nat) : But k w w' := ⟨h.os, h.tape, h.output, h.size, fun b hb _ => h.block b hb⟩
theorem But.dbox (hb : But k w w') (h : DBox w g D) (hg : g ≠ k) : DBox w' g D := (hb.block g h.lt hg).trans h
theorem But.iholds {f : Nat → Int} (hb : But k w w') (h : L2.Holds w B A n f) (hB : B ≤ k) (hw : B ≤ w.heap.size) : L2.Holds w' B A n f := fun hn => by
  obtain ⟨b, o, e, hlt, hc⟩ := h hn
  exact ⟨b, o, e, hlt, fun i hi => (World.cell?_of_block (w := w) (hb.block b (by omega) (by omega))).trans (hc i hi)⟩
theorem But.dr (hb : But k w w') (h : D.In w B) (hB : B ≤ k) (hw : B ≤ w.heap.size) : D.In w' B := ⟨hb.iholds h.th hB hw, hb.iholds h.tr hB hw, hb.holds h.ti hB hw⟩
end
/-- What the loops keep: the row that is written, and all else. -/
structure Lp (k : Nat) (wM wr : World) (N : Nat) (F : Nat → Bool) : Prop where
  but : But k wM wr
  row : Row wr k N F
section
variable {k N : Nat} {wM wr w' : World} {F F' : Nat → Bool}
theorem Lp.next (h : Lp k wM wr N F) (hb : Below wr.heap.size wr w') : Lp k wM w' N F := ⟨h.but.trans (But.of hb k), h.row.below hb h.row.lt⟩
theorem Lp.wrote (h : Lp k wM wr N F) (hb : But k wr w') (hr : Row w' k N F') : Lp k wM w' N F' := ⟨h.but.trans hb, hr⟩
theorem Lp.congr (h : Lp k wM wr N F) (e : ∀ i, i < N → F i = F' i) : Lp k wM wr N F' := ⟨h.but, h.row.congr e⟩
end
end Go.Proofs.YtbafhdinalapoaaDoor

/- The reference's Woven. -/
namespace Go.Proofs.YtbafhdinalapoaaDoor
open Go.RowKit
set_option linter.unusedVariables false
set_option linter.unusedSimpArgs false
set_option maxRecDepth 100000

end Go.Proofs.YtbafhdinalapoaaDoor

/- The reference's Lift. -/
namespace Go.Proofs.YtbafhdinalapoaaDoor
open Go.RowKit
set_option linter.unusedVariables false
set_option linter.unusedSimpArgs false
set_option maxRecDepth 100000

end Go.Proofs.YtbafhdinalapoaaDoor

/- The reference's Weave and Lift where they refuse; both sides. -/
namespace Go.Proofs.YtbafhdinalapoaaDoor
open Go.RowKit
set_option linter.unusedVariables false
set_option linter.unusedSimpArgs false
set_option maxRecDepth 100000

/-- A grid and an error came back; the grid's cells lie in a new row of the call's own. -/
def Out (w : World) (W H : Int) (n : Nat) (F : Nat → Bool) (err : Int) (e : Ending) (w' : World) : Prop :=
  ∃ A c, e = .returned (.tuple #[.agg #[.int .i64 W, .int .i64 H, .slice A n c], .int .i64 err]) ∧ (0 < n → ∃ k, A = some ⟨k, 0, none⟩ ∧ w.heap.size ≤ k ∧ Row w' k n F) ∧ Below w.heap.size w w'
theorem OkGrid.out {w w' : World} {W H : Nat} {F : Nat → Bool} {e : Ending} (h : OkGrid w W H F e w') : Out w W H (W * H) F 0 e w' := by
  obtain ⟨k, he, hk, hr, hb⟩ := h
  exact ⟨_, _, he, fun _ => ⟨k, rfl, hk, hr⟩, hb⟩
theorem ErrGrid.out {w w' : World} {err : Int} {e : Ending} (h : ErrGrid w err e w') : Out w 0 0 0 (fun _ => false) err e w' :=
  ⟨_, _, h.1, fun h => absurd h (by omega), h.2⟩

/-- Two functions of a draft, called at any later world, hand the same grid and error back. -/
def DGets (w : World) (k : Nat) (D : Dr) (W H : Int) (n : Nat) (F : Nat → Bool) (err : Int) : Prop :=
  ∀ w', Below w.heap.size w w' → Calls Tryd.prog k #[.agg #[.int .i64 D.S, .int .i64 D.T, .slice D.A D.n D.c, .slice D.B D.m D.d, .int .i64 D.W, .int .i64 D.H, .slice D.C D.k D.e]] w' (Out w' W H n F err)
end Go.Proofs.YtbafhdinalapoaaDoor

/- What a function that hands back a draft leaves; slices.Clone of a list. -/
namespace Go.Proofs.YtbafhdinalapoaaDoor
open Go.RowKit
set_option linter.unusedVariables false
set_option linter.unusedSimpArgs false
set_option maxRecDepth 100000

def Dr.zero : Dr := ⟨0, 0, none, 0, 0, none, 0, 0, 0, 0, none, 0, 0, fun _ => 0, fun _ => 0, fun _ => false⟩
/-- A draft in rows of the call's own. -/
structure Rows3 (w : World) (lo : Nat) (Q : PD) (a b c : Nat) : Prop where
  ha : lo ≤ a
  hb : lo ≤ b
  hc : lo ≤ c
  ra : L2.Row w a Q.n (fun i => (Q.F i : Nat))
  rb : L2.Row w b Q.m (fun i => (Q.G i : Nat))
  rc : Row w c (Q.T * Q.S) (fun i => Q.L (i % Q.T) (i / Q.T))
def OkDr (w : World) (Q : PD) (e : Ending) (w' : World) : Prop :=
  ∃ a ca b cb c cc, e = .returned (.tuple #[.agg #[.int .i64 (Q.S : Nat), .int .i64 (Q.T : Nat), .slice (some ⟨a, 0, none⟩) Q.n ca, .slice (some ⟨b, 0, none⟩) Q.m cb, .int .i64 (Q.T : Nat), .int .i64 (Q.S : Nat), .slice (some ⟨c, 0, none⟩) (Q.T * Q.S) cc], .int .i64 0]) ∧ Rows3 w' w.heap.size Q a b c ∧ Below w.heap.size w w'
def ErrDr (w : World) (err : Int) (e : Ending) (w' : World) : Prop :=
  e = .returned (.tuple #[.agg #[.int .i64 0, .int .i64 0, .slice none 0 0, .slice none 0 0, .int .i64 0, .int .i64 0, .slice none 0 0], .int .i64 err]) ∧ Below w.heap.size w w'
def PD.dr (Q : PD) (a ca b cb c cc : Nat) : Dr := ⟨Q.S, Q.T, some ⟨a, 0, none⟩, Q.n, ca, some ⟨b, 0, none⟩, Q.m, cb, Q.T, Q.S, some ⟨c, 0, none⟩, Q.T * Q.S, cc, fun i => (Q.F i : Nat), fun i => (Q.G i : Nat), fun i => Q.L (i % Q.T) (i / Q.T)⟩
theorem PD.dr_is (Q : PD) (a ca b cb c cc : Nat) : (Q.dr a ca b cb c cc).Is Q :=
  ⟨rfl, rfl, rfl, rfl, rfl, rfl, rfl, fun _ _ => rfl, fun _ _ => rfl, fun t s ht hs => by
    show Q.L ((s * Q.T + t) % Q.T) ((s * Q.T + t) / Q.T) = _
    have h1 : (s * Q.T + t) % Q.T = t := by rw [Nat.mul_comm, Nat.mul_add_mod, Nat.mod_eq_of_lt ht]
    have h2 : (s * Q.T + t) / Q.T = s := by rw [Nat.mul_comm, Nat.mul_add_div (by omega), Nat.div_eq_of_lt ht]; omega
    rw [h1, h2]⟩
section
variable {w w' : World} {lo a b c : Nat} {Q : PD}
theorem Rows3.lt (h : Rows3 w lo Q a b c) : a < w.heap.size ∧ b < w.heap.size ∧ c < w.heap.size := ⟨h.ra.lt, h.rb.lt, h.rc.lt⟩
theorem Rows3.next (h : Rows3 w lo Q a b c) (hb : Below w.heap.size w w') : Rows3 w' lo Q a b c :=
  ⟨h.ha, h.hb, h.hc, h.ra.below hb h.ra.lt, h.rb.below hb h.rb.lt, h.rc.below hb h.rc.lt⟩
theorem Rows3.far (h : Rows3 w lo Q a b c) {p : Addr} (hp : p.block < lo) (u : Value) : Rows3 (w.setCell p u) lo Q a b c := by
  have h1 := h.ha
  have h2 := h.hb
  have h3 := h.hc
  exact ⟨h1, h2, h3, h.ra.far (by omega) u, h.rb.far (by omega) u, h.rc.far (by omega) u⟩
theorem Rows3.dr (h : Rows3 w lo Q a b c) (ca cb cc : Nat) : (Q.dr a ca b cb c cc).In w w.heap.size := ⟨h.ra.holds h.ra.lt, h.rb.holds h.rb.lt, h.rc.holds h.rc.lt⟩
theorem Rows3.lower (h : Rows3 w lo Q a b c) {l : Nat} (hl : l ≤ lo) : Rows3 w l Q a b c := ⟨Nat.le_trans hl h.ha, Nat.le_trans hl h.hb, Nat.le_trans hl h.hc, h.ra, h.rb, h.rc⟩
end
/-- A draft's box and the result's box, behind the first call. -/
theorem dafter3 {w w1 : World} {D : Dr} (hb : Below ((w.alloc (.cells #[.int .i64 D.S, .int .i64 D.T, .slice D.A D.n D.c, .slice D.B D.m D.d, .int .i64 D.W, .int .i64 D.H, .slice D.C D.k D.e] 27)).alloc (.cells #[.int .i64 0, .int .i64 0, .slice none 0 0, .slice none 0 0, .int .i64 0, .int .i64 0, .slice none 0 0] 27)).heap.size
      ((w.alloc (.cells #[.int .i64 D.S, .int .i64 D.T, .slice D.A D.n D.c, .slice D.B D.m D.d, .int .i64 D.W, .int .i64 D.H, .slice D.C D.k D.e] 27)).alloc (.cells #[.int .i64 0, .int .i64 0, .slice none 0 0, .slice none 0 0, .int .i64 0, .int .i64 0, .slice none 0 0] 27)) w1) :
    DBox w1 w.heap.size D ∧ DBox w1 (w.heap.size + 1) Dr.zero ∧ Below w.heap.size w w1 ∧ w.heap.size + 2 ≤ w1.heap.size := by
  have h1 := ((DBox.new w D).alloc (.cells #[.int .i64 0, .int .i64 0, .slice none 0 0, .slice none 0 0, .int .i64 0, .int .i64 0, .slice none 0 0] 27)).below hb (by simp; omega)
  have h2 := (DBox.new (w.alloc (.cells #[.int .i64 D.S, .int .i64 D.T, .slice D.A D.n D.c, .slice D.B D.m D.d, .int .i64 D.W, .int .i64 D.H, .slice D.C D.k D.e] 27)) Dr.zero).below hb (by simp)
  have h3 : Below w.heap.size w w1 := (((Below.refl _ _).alloc (Nat.le_refl _) _).alloc (by simp) _).trans (hb.mono (by simp; omega))
  have h4 := hb.size
  simp at h2 h4
  exact ⟨h1, h2, h3, by omega⟩
theorem dstart3 {w : World} {D : Dr} (hd : D.In w w.heap.size) : D.In ((w.alloc (.cells #[.int .i64 D.S, .int .i64 D.T, .slice D.A D.n D.c, .slice D.B D.m D.d, .int .i64 D.W, .int .i64 D.H, .slice D.C D.k D.e] 27)).alloc (.cells #[.int .i64 0, .int .i64 0, .slice none 0 0, .slice none 0 0, .int .i64 0, .int .i64 0, .slice none 0 0] 27)) ((w.alloc (.cells #[.int .i64 D.S, .int .i64 D.T, .slice D.A D.n D.c, .slice D.B D.m D.d, .int .i64 D.W, .int .i64 D.H, .slice D.C D.k D.e] 27)).alloc (.cells #[.int .i64 0, .int .i64 0, .slice none 0 0, .slice none 0 0, .int .i64 0, .int .i64 0, .slice none 0 0] 27)).heap.size :=
  hd.next (((Below.refl _ _).alloc (Nat.le_refl _) _).alloc (by simp) _)
theorem dfin_err {w w2 : World} {err : Int} {r : Nat} {a b c d e f g : Value} (hr : w.heap.size ≤ r) (hb : Below w.heap.size w w2) :
    ErrDr w err (.returned (.tuple #[.agg #[.int .i64 0, .int .i64 0, .slice none 0 0, .slice none 0 0, .int .i64 0, .int .i64 0, .slice none 0 0], .int .i64 err])) (((((((w2.setCell ⟨r, 0, none⟩ a).setCell ⟨r, 1, none⟩ b).setCell ⟨r, 2, none⟩ c).setCell ⟨r, 3, none⟩ d).setCell ⟨r, 4, none⟩ e).setCell ⟨r, 5, none⟩ f).setCell ⟨r, 6, none⟩ g) :=
  ⟨rfl, ((((((hb.setCell hr _).setCell hr _).setCell hr _).setCell hr _).setCell hr _).setCell hr _).setCell hr _⟩
theorem set7_below {w w2 : World} {r : Nat} {a b c d e f g : Value} (hr : w.heap.size ≤ r) (hb : Below w.heap.size w w2) :
    Below w.heap.size w (((((((w2.setCell ⟨r, 0, none⟩ a).setCell ⟨r, 1, none⟩ b).setCell ⟨r, 2, none⟩ c).setCell ⟨r, 3, none⟩ d).setCell ⟨r, 4, none⟩ e).setCell ⟨r, 5, none⟩ f).setCell ⟨r, 6, none⟩ g) :=
  ((((((hb.setCell hr _).setCell hr _).setCell hr _).setCell hr _).setCell hr _).setCell hr _).setCell hr _
theorem set7_keep {w w2 : World} {M r : Nat} {a b c d e f g : Value} (hr : M ≤ r) (hb : Below M w w2) : Below M w (((((((w2.setCell ⟨r, 0, none⟩ a).setCell ⟨r, 1, none⟩ b).setCell ⟨r, 2, none⟩ c).setCell ⟨r, 3, none⟩ d).setCell ⟨r, 4, none⟩ e).setCell ⟨r, 5, none⟩ f).setCell ⟨r, 6, none⟩ g) :=
  ((((((hb.setCell hr _).setCell hr _).setCell hr _).setCell hr _).setCell hr _).setCell hr _).setCell hr _
theorem set7_block {w2 : World} {x r : Nat} {a b c d e f g : Value} (hr : x ≠ r) : (((((((w2.setCell ⟨r, 0, none⟩ a).setCell ⟨r, 1, none⟩ b).setCell ⟨r, 2, none⟩ c).setCell ⟨r, 3, none⟩ d).setCell ⟨r, 4, none⟩ e).setCell ⟨r, 5, none⟩ f).setCell ⟨r, 6, none⟩ g).heap[x]? = w2.heap[x]? := by
  rw [Below.heap_setCell _ _ _ _ hr, Below.heap_setCell _ _ _ _ hr, Below.heap_setCell _ _ _ _ hr, Below.heap_setCell _ _ _ _ hr, Below.heap_setCell _ _ _ _ hr, Below.heap_setCell _ _ _ _ hr, Below.heap_setCell _ _ _ _ hr]
theorem set7_rows {w2 : World} {r lo x y z : Nat} {Q : PD} {a b c d e f g : Value} (hr : r < lo) (h : Rows3 w2 lo Q x y z) :
    Rows3 (((((((w2.setCell ⟨r, 0, none⟩ a).setCell ⟨r, 1, none⟩ b).setCell ⟨r, 2, none⟩ c).setCell ⟨r, 3, none⟩ d).setCell ⟨r, 4, none⟩ e).setCell ⟨r, 5, none⟩ f).setCell ⟨r, 6, none⟩ g) lo Q x y z :=
  ((((((h.far hr _).far hr _).far hr _).far hr _).far hr _).far hr _).far hr _

set_option maxHeartbeats 800000 in
theorem clone_any (A : Option Addr) (n c : Nat) (f : Nat → Int) (B0 : Nat) (w : World) (h0 : 0 < n) (hn : n ≤ 5000) (hr : L2.Holds w B0 A n f) :
    Calls Tryd.prog 61 #[.slice A n c] w fun e w' => ∃ k c', e = .returned (.slice (some ⟨k, 0, none⟩) n c') ∧ w.heap.size ≤ k ∧ L2.Row w' k n f ∧ Below w.heap.size w w' := by
  obtain ⟨b, o, rfl, hb, hc⟩ := hr h0
  have HR := Lib.hid (show L2.Holds (w.alloc (.cells #[] 3)) w.heap.size (some ⟨b, o, none⟩) n f from fun _ => ⟨b, o, rfl, by
      rcases Nat.lt_or_ge b w.heap.size with h | h
      · exact h
      · have := hc 0 h0
        simp [World.cell?, Array.getElem?_eq_none h] at this, fun i hi => by
      have hl : b < w.heap.size := by
        rcases Nat.lt_or_ge b w.heap.size with h | h
        · exact h
        · have := hc 0 h0
          simp [World.cell?, Array.getElem?_eq_none h] at this
      exact (((Below.refl w.heap.size w).alloc (Nat.le_refl _) _).cell (p := ⟨b, o + i, none⟩) hl).trans (hc i hi)⟩)
  clear hc hr
  have HO := Lib.hid (L2.Own.empty w (Nat.le_refl _) (fun _ => 0))
  have q22 : ∀ (w : World) (a : Option Addr) (n c n' c' : Nat), (binOp .eql 22 (.slice a n c) (.slice none n' c')).run Tryd.prog w = .ok (.bool a.isNone) w := fun w a n c n' c' => Lib.run_eql_slice_nil w _ _ a n c n' c' Tryd.underlying22
  go_enter Tryd.func61, Tryd.ntmps61
  go_wp2_with (at_builtin; refine L2.appN _ rfl _ _ (by rfl) w.heap.size (by rfl) HO.out (by rfl) (fun h => by cases h) HR.out (by omega) (by omega) (by simp) ?_; intro v2 w2 hown2 hb2; have HO2 := Lib.hid hown2; have HB2 := Lib.hid hb2; clear hown2 hb2)
  obtain ⟨A', c', rfl, _, hrow⟩ := HO2.out.out
  go_wp2
  go_ret
  obtain ⟨k, rfl, hk, hrow⟩ := hrow (by omega)
  rw [Nat.zero_add] at *
  exact ⟨k, c', by simp, hk, hrow.congr fun i hi => by unfold L2.both; rw [if_neg (by omega)]; rfl, ((Below.refl _ _).alloc (Nat.le_refl _) _).trans HB2.out⟩
end Go.Proofs.YtbafhdinalapoaaDoor

/- Whether two drafts are the same, by the program and by the reference. -/
namespace Go.Proofs.YtbafhdinalapoaaDoor
open Go.RowKit
set_option linter.unusedVariables false
set_option linter.unusedSimpArgs false
set_option maxRecDepth 100000

set_option maxHeartbeats 400000 in
theorem iequal_len (A D : Option Addr) (n m c d : Nat) (w : World) (h : ¬ n = m) :
    Calls Tryd.prog 73 #[.slice A n c, .slice D m d] w fun e w' => e = .returned (.bool false) ∧ w' = w := by
  have z : ((n : Int) != (m : Int)) = true := by simp; omega
  clear h
  go_enter Tryd.func73, Tryd.ntmps73
  go_wp2
  go_ret
  exact ⟨rfl, rfl⟩

set_option maxHeartbeats 1600000 in
theorem iequal_any (A D : Option Addr) (n c d : Nat) (f g : Nat → Int) (w : World) (hn : n ≤ 5000) (hr : L2.Holds w w.heap.size A n f) (hs : L2.Holds w w.heap.size D n g) :
    Calls Tryd.prog 73 #[.slice A n c, .slice D n d] w fun e w' => e = .returned (.bool (decide (∀ i, i < n → f i = g i))) ∧ Below w.heap.size w w' := by
  have z3 : ((n : Int) != (n : Int)) = false := by simp
  have HR := Lib.hid hr
  have HS := Lib.hid hs
  clear hr hs
  go_enter Tryd.func73, Tryd.ntmps73
  go_wp2
  go_loopw [13] (fun i wr => ∃ k : Nat, k ≤ n ∧ i = .int .i64 k ∧ Hid (∀ i, i < k → f i = g i) ∧ Below w.heap.size w wr) (fun i _ => n - (intOf i).toNat)
  case atStart => exact ⟨0, Nat.zero_le _, rfl, fun i hi => absurd hi (by omega), Below.refl _ _⟩
  case round =>
    obtain ⟨k, hk, rfl, hall, hbel⟩ := hrel
    by_cases hlt : k < n
    · obtain ⟨b, o, rfl, hbl, hc⟩ := (HR.out.below hbel) (by omega)
      obtain ⟨b', o', rfl, hbl', hc'⟩ := (HS.out.below hbel) (by omega)
      have c1 := hc k hlt
      have c2 := hc' k hlt
      clear hc hc'
      have hbs := hbel.size
      have B1 := Lib.hid hbel
      clear hbel
      have y1 : (0 : Int) ≤ (k : Int) := by omega
      have y2 : (k : Int) < (n : Int) := by omega
      obtain ⟨u, hu⟩ : ∃ u, f k = u := ⟨_, rfl⟩
      obtain ⟨v, hv⟩ : ∃ v, g k = v := ⟨_, rfl⟩
      rw [hu] at c1
      rw [hv] at c2
      have HU := Lib.hid hu
      have HV := Lib.hid hv
      clear hu hv
      by_cases e : u = v
      · have E : f k = g k := by rw [HU.out, HV.out, e]
        have E := Lib.hid E
        subst e
        have z : (u != u) = false := by simp
        all_goals
          go_wp2
          go_quiet (fail)
          go_wp2
          refine ⟨⟨k + 1, by omega, by go_num, fun i hi => ?_, Go.Proofs.below_drewN' B1.out _⟩, by simp [intOf]; omega⟩
          rcases Nat.lt_succ_iff_lt_or_eq.1 hi with h | rfl
          · exact hall.out i h
          · exact E.out
      · have E : ¬ f k = g k := by rw [HU.out, HV.out]; exact e
        have E := Lib.hid E
        have z : (u != v) = true := by simp [e]
        all_goals
          clear e
          go_wp2
          go_quiet (fail)
          go_wp2
          go_ret
          exact ⟨ret_bool (by symm; rw [decide_eq_false_iff_not]; exact fun h => E.out (h k hlt)), Go.Proofs.below_drewN' B1.out _⟩
    · have e : k = n := by omega
      subst e
      go_wp2
      go_ret
      exact ⟨ret_bool (by symm; rw [decide_eq_true_iff]; exact hall.out), hbel⟩


/-- Two lists have the same elements. -/
def lsm (n : Nat) (f : Nat → Int) (m : Nat) (g : Nat → Int) : Bool := decide (n = m ∧ ∀ i, i < n → f i = g i)
/-- Two grids have the same sides and cells. -/
def gsm (W H : Int) (n : Nat) (f : Nat → Bool) (X Y : Int) (m : Nat) (g : Nat → Bool) : Bool := decide (W = X ∧ H = Y ∧ n = m ∧ ∀ i, i < n → f i = g i)
/-- What Same answers of two drafts. -/
def dsm (D E : Dr) : Bool := decide (D.S = E.S) && decide (D.T = E.T) && lsm D.n D.f E.n E.f && lsm D.m D.g E.m E.g && gsm D.W D.H D.k D.b E.W E.H E.k E.b
theorem ieq_any (A D : Option Addr) (n m c d : Nat) (f g : Nat → Int) (w : World) (hn : n ≤ 5000) (hr : L2.Holds w w.heap.size A n f) (hs : L2.Holds w w.heap.size D m g) :
    Calls Tryd.prog 73 #[.slice A n c, .slice D m d] w fun e w' => e = .returned (.bool (lsm n f m g)) ∧ Below w.heap.size w w' := by
  by_cases h : n = m
  · subst h
    refine (iequal_any A D n c d f g w hn hr hs).mono fun e w' ⟨he, hb⟩ => ⟨?_, hb⟩
    rw [he]; exact ret_bool (by unfold lsm; simp)
  · refine (iequal_len A D n m c d w h).mono fun e w' ⟨he, hb⟩ => ⟨?_, hb ▸ Below.refl _ _⟩
    rw [he]; exact ret_bool (by unfold lsm; simp [h])
theorem rieq_any (A D : Option Addr) (n m c d : Nat) (f g : Nat → Int) (w : World) (hn : n ≤ 5000) (hr : L2.Holds w w.heap.size A n f) (hs : L2.Holds w w.heap.size D m g) :
    Calls Tryd.prog 16 #[.slice A n c, .slice D m d] w fun e w' => e = .returned (.bool (lsm n f m g)) ∧ Below w.heap.size w w' := by
  by_cases h : n = m
  · subst h
    refine (L2.rsame_any A D n c d f g w hn hr hs).mono fun e w' ⟨he, hb⟩ => ⟨?_, hb⟩
    rw [he]; exact ret_bool (by unfold lsm; simp)
  · refine (L2.rsame_len A D n m c d w h).mono fun e w' ⟨he, hb⟩ => ⟨?_, hb ▸ Below.refl _ _⟩
    rw [he]; exact ret_bool (by unfold lsm; simp [h])
theorem rgsm_any (W H X Y : Int) (A D : Option Addr) (n m c d : Nat) (f g : Nat → Bool) (w : World) (hn : n ≤ 5000) (hr : Holds w w.heap.size A n f) (hs : Holds w w.heap.size D m g) :
    Calls Tryd.prog 27 #[.agg #[.int .i64 W, .int .i64 H, .slice A n c], .agg #[.int .i64 X, .int .i64 Y, .slice D m d]] w fun e w' => e = .returned (.bool (gsm W H n f X Y m g)) ∧ Below w.heap.size w w' := by
  by_cases h : W = X ∧ H = Y ∧ n = m
  · obtain ⟨rfl, rfl, rfl⟩ := h
    refine (rsame_loop W H W H A D n c d f g w hn rfl rfl hr hs).mono fun e w' ⟨he, hb⟩ => ⟨?_, hb⟩
    rw [he]; exact ret_bool (by unfold gsm; simp)
  · refine (rsame_no0 W H X Y A D n m c d w h).mono fun e w' ⟨he, hb⟩ => ⟨?_, hb⟩
    rw [he]; exact ret_bool (by unfold gsm; symm; rw [decide_eq_false_iff_not]; rintro ⟨a, b, c, _⟩; exact h ⟨a, b, c⟩)
theorem gsm_any (W H X Y : Int) (A D : Option Addr) (n m c d : Nat) (f g : Nat → Bool) (w : World) (hn : n ≤ 5000) (hr : Holds w w.heap.size A n f) (hs : Holds w w.heap.size D m g) :
    Calls Tryd.prog 74 #[.agg #[.int .i64 W, .int .i64 H, .slice A n c], .agg #[.int .i64 X, .int .i64 Y, .slice D m d]] w fun e w' => e = .returned (.bool (gsm W H n f X Y m g)) ∧ Below w.heap.size w w' := same_any W H X Y A D n m c d f g w hn hr hs
/-- The boxes of two drafts. -/
theorem dboxes2 (w : World) (D E : Dr) :
    DBox ((w.alloc (.cells #[.int .i64 D.S, .int .i64 D.T, .slice D.A D.n D.c, .slice D.B D.m D.d, .int .i64 D.W, .int .i64 D.H, .slice D.C D.k D.e] 27)).alloc (.cells #[.int .i64 E.S, .int .i64 E.T, .slice E.A E.n E.c, .slice E.B E.m E.d, .int .i64 E.W, .int .i64 E.H, .slice E.C E.k E.e] 27)) w.heap.size D ∧ DBox ((w.alloc (.cells #[.int .i64 D.S, .int .i64 D.T, .slice D.A D.n D.c, .slice D.B D.m D.d, .int .i64 D.W, .int .i64 D.H, .slice D.C D.k D.e] 27)).alloc (.cells #[.int .i64 E.S, .int .i64 E.T, .slice E.A E.n E.c, .slice E.B E.m E.d, .int .i64 E.W, .int .i64 E.H, .slice E.C E.k E.e] 27)) (w.heap.size + 1) E ∧
    Below w.heap.size w ((w.alloc (.cells #[.int .i64 D.S, .int .i64 D.T, .slice D.A D.n D.c, .slice D.B D.m D.d, .int .i64 D.W, .int .i64 D.H, .slice D.C D.k D.e] 27)).alloc (.cells #[.int .i64 E.S, .int .i64 E.T, .slice E.A E.n E.c, .slice E.B E.m E.d, .int .i64 E.W, .int .i64 E.H, .slice E.C E.k E.e] 27)) := by
  have h2 := DBox.new (w.alloc (.cells #[.int .i64 D.S, .int .i64 D.T, .slice D.A D.n D.c, .slice D.B D.m D.d, .int .i64 D.W, .int .i64 D.H, .slice D.C D.k D.e] 27)) E
  simp only [World.size_alloc] at h2
  exact ⟨(DBox.new w D).alloc _, h2, ((Below.refl _ _).alloc (Nat.le_refl _) _).alloc (by simp) _⟩
set_option maxHeartbeats 1000000 in
theorem dsame_S (D E : Dr) (w : World) (hs : D.Small) (hd : D.In w w.heap.size) (he : E.In w w.heap.size) (h0 : ¬ D.S = E.S) :
    Calls Tryd.prog 44 #[.agg #[.int .i64 D.S, .int .i64 D.T, .slice D.A D.n D.c, .slice D.B D.m D.d, .int .i64 D.W, .int .i64 D.H, .slice D.C D.k D.e], .agg #[.int .i64 E.S, .int .i64 E.T, .slice E.A E.n E.c, .slice E.B E.m E.d, .int .i64 E.W, .int .i64 E.H, .slice E.C E.k E.e]] w fun e w' => e = .returned (.bool false) ∧ Below w.heap.size w w' := by
  obtain ⟨hx, hy, hbb⟩ := dboxes2 w D E
  obtain ⟨s0, s1', s2⟩ := hs
  have HD := Lib.hid (hd.next hbb)
  have HE := Lib.hid (he.next hbb)
  have X0 := Lib.hid hx
  have Y0 := Lib.hid hy
  have L0 := Lib.hid hbb
  clear hx hy hbb hd he
  have b0 : (D.S == E.S) = false := by simp [h0]
  have K0 := Lib.hid h0
  clear h0
  go_enter Tryd.func44, Tryd.ntmps44
  go_wp2
  go_ret
  exact ⟨rfl, L0.out⟩

set_option maxHeartbeats 1000000 in
theorem dsame_T (D E : Dr) (w : World) (hs : D.Small) (hd : D.In w w.heap.size) (he : E.In w w.heap.size) (h0 : D.S = E.S) (h1 : ¬ D.T = E.T) :
    Calls Tryd.prog 44 #[.agg #[.int .i64 D.S, .int .i64 D.T, .slice D.A D.n D.c, .slice D.B D.m D.d, .int .i64 D.W, .int .i64 D.H, .slice D.C D.k D.e], .agg #[.int .i64 E.S, .int .i64 E.T, .slice E.A E.n E.c, .slice E.B E.m E.d, .int .i64 E.W, .int .i64 E.H, .slice E.C E.k E.e]] w fun e w' => e = .returned (.bool false) ∧ Below w.heap.size w w' := by
  obtain ⟨hx, hy, hbb⟩ := dboxes2 w D E
  obtain ⟨s0, s1', s2⟩ := hs
  have HD := Lib.hid (hd.next hbb)
  have HE := Lib.hid (he.next hbb)
  have X0 := Lib.hid hx
  have Y0 := Lib.hid hy
  have L0 := Lib.hid hbb
  clear hx hy hbb hd he
  have b0 : (D.S == E.S) = true := by simp [h0]
  have b1 : (D.T == E.T) = false := by simp [h1]
  have K0 := Lib.hid h0
  have K1 := Lib.hid h1
  clear h0 h1
  go_enter Tryd.func44, Tryd.ntmps44
  go_wp2
  go_ret
  exact ⟨rfl, L0.out⟩

set_option maxHeartbeats 1000000 in
theorem dsame_th (D E : Dr) (w : World) (hs : D.Small) (hd : D.In w w.heap.size) (he : E.In w w.heap.size) (h0 : D.S = E.S) (h1 : D.T = E.T) (h2 : lsm D.n D.f E.n E.f = false) :
    Calls Tryd.prog 44 #[.agg #[.int .i64 D.S, .int .i64 D.T, .slice D.A D.n D.c, .slice D.B D.m D.d, .int .i64 D.W, .int .i64 D.H, .slice D.C D.k D.e], .agg #[.int .i64 E.S, .int .i64 E.T, .slice E.A E.n E.c, .slice E.B E.m E.d, .int .i64 E.W, .int .i64 E.H, .slice E.C E.k E.e]] w fun e w' => e = .returned (.bool false) ∧ Below w.heap.size w w' := by
  obtain ⟨hx, hy, hbb⟩ := dboxes2 w D E
  obtain ⟨s0, s1', s2⟩ := hs
  have HD := Lib.hid (hd.next hbb)
  have HE := Lib.hid (he.next hbb)
  have X0 := Lib.hid hx
  have Y0 := Lib.hid hy
  have L0 := Lib.hid hbb
  clear hx hy hbb hd he
  have b0 : (D.S == E.S) = true := by simp [h0]
  have b1 : (D.T == E.T) = true := by simp [h1]
  have K0 := Lib.hid h0
  have K1 := Lib.hid h1
  have K2 := Lib.hid h2
  clear h0 h1 h2
  go_enter Tryd.func44, Tryd.ntmps44
  go_wp2_with fail
  have hc := (ieq_any D.A E.A D.n E.n D.c E.c D.f E.f _ (by omega) HD.out.th HE.out.th)
  rw [K2.out] at hc
  refine hc.mono ?_
  clear hc
  rintro e w1 ⟨rfl, hb⟩
  have HD' := Lib.hid (HD.out.next hb)
  have HE' := Lib.hid (HE.out.next hb)
  have X0' := Lib.hid (X0.out.next hb)
  have Y0' := Lib.hid (Y0.out.next hb)
  have L0' := Lib.hid (L0.out.trans (hb.mono L0.out.size))
  clear hb HD HE X0 Y0 L0 
  have HD := HD'
  have HE := HE'
  have X0 := X0'
  have Y0 := Y0'
  have L0 := L0'
  clear HD' HE' X0' Y0' L0'
  obtain ⟨x0, x1, x2, x3, x4, x5, x6, x7⟩ := X0.out.all
  obtain ⟨y0, y1, y2, y3, y4, y5, y6, y7⟩ := Y0.out.all
  go_wp2
  go_ret
  exact ⟨rfl, L0.out⟩

set_option maxHeartbeats 1000000 in
theorem dsame_tr (D E : Dr) (w : World) (hs : D.Small) (hd : D.In w w.heap.size) (he : E.In w w.heap.size) (h0 : D.S = E.S) (h1 : D.T = E.T) (h2 : lsm D.n D.f E.n E.f = true) (h3 : lsm D.m D.g E.m E.g = false) :
    Calls Tryd.prog 44 #[.agg #[.int .i64 D.S, .int .i64 D.T, .slice D.A D.n D.c, .slice D.B D.m D.d, .int .i64 D.W, .int .i64 D.H, .slice D.C D.k D.e], .agg #[.int .i64 E.S, .int .i64 E.T, .slice E.A E.n E.c, .slice E.B E.m E.d, .int .i64 E.W, .int .i64 E.H, .slice E.C E.k E.e]] w fun e w' => e = .returned (.bool false) ∧ Below w.heap.size w w' := by
  obtain ⟨hx, hy, hbb⟩ := dboxes2 w D E
  obtain ⟨s0, s1', s2⟩ := hs
  have HD := Lib.hid (hd.next hbb)
  have HE := Lib.hid (he.next hbb)
  have X0 := Lib.hid hx
  have Y0 := Lib.hid hy
  have L0 := Lib.hid hbb
  clear hx hy hbb hd he
  have b0 : (D.S == E.S) = true := by simp [h0]
  have b1 : (D.T == E.T) = true := by simp [h1]
  have K0 := Lib.hid h0
  have K1 := Lib.hid h1
  have K2 := Lib.hid h2
  have K3 := Lib.hid h3
  clear h0 h1 h2 h3
  go_enter Tryd.func44, Tryd.ntmps44
  go_wp2_with fail
  have hc := (ieq_any D.A E.A D.n E.n D.c E.c D.f E.f _ (by omega) HD.out.th HE.out.th)
  rw [K2.out] at hc
  refine hc.mono ?_
  clear hc
  rintro e w1 ⟨rfl, hb⟩
  have HD' := Lib.hid (HD.out.next hb)
  have HE' := Lib.hid (HE.out.next hb)
  have X0' := Lib.hid (X0.out.next hb)
  have Y0' := Lib.hid (Y0.out.next hb)
  have L0' := Lib.hid (L0.out.trans (hb.mono L0.out.size))
  clear hb HD HE X0 Y0 L0 
  have HD := HD'
  have HE := HE'
  have X0 := X0'
  have Y0 := Y0'
  have L0 := L0'
  clear HD' HE' X0' Y0' L0'
  obtain ⟨x0, x1, x2, x3, x4, x5, x6, x7⟩ := X0.out.all
  obtain ⟨y0, y1, y2, y3, y4, y5, y6, y7⟩ := Y0.out.all
  go_wp2_with fail
  have hc := (ieq_any D.B E.B D.m E.m D.d E.d D.g E.g _ (by omega) HD.out.tr HE.out.tr)
  rw [K3.out] at hc
  refine hc.mono ?_
  clear hc
  rintro e w2 ⟨rfl, hb⟩
  have HD' := Lib.hid (HD.out.next hb)
  have HE' := Lib.hid (HE.out.next hb)
  have X0' := Lib.hid (X0.out.next hb)
  have Y0' := Lib.hid (Y0.out.next hb)
  have L0' := Lib.hid (L0.out.trans (hb.mono L0.out.size))
  clear hb HD HE X0 Y0 L0 x0 x1 x2 x3 x4 x5 x6 x7 y0 y1 y2 y3 y4 y5 y6 y7
  have HD := HD'
  have HE := HE'
  have X0 := X0'
  have Y0 := Y0'
  have L0 := L0'
  clear HD' HE' X0' Y0' L0'
  obtain ⟨x0, x1, x2, x3, x4, x5, x6, x7⟩ := X0.out.all
  obtain ⟨y0, y1, y2, y3, y4, y5, y6, y7⟩ := Y0.out.all
  go_wp2
  go_ret
  exact ⟨rfl, L0.out⟩

set_option maxHeartbeats 1000000 in
theorem dsame_g (D E : Dr) (w : World) (hs : D.Small) (hd : D.In w w.heap.size) (he : E.In w w.heap.size) (h0 : D.S = E.S) (h1 : D.T = E.T) (h2 : lsm D.n D.f E.n E.f = true) (h3 : lsm D.m D.g E.m E.g = true) (u : Bool) (h4 : gsm D.W D.H D.k D.b E.W E.H E.k E.b = u) :
    Calls Tryd.prog 44 #[.agg #[.int .i64 D.S, .int .i64 D.T, .slice D.A D.n D.c, .slice D.B D.m D.d, .int .i64 D.W, .int .i64 D.H, .slice D.C D.k D.e], .agg #[.int .i64 E.S, .int .i64 E.T, .slice E.A E.n E.c, .slice E.B E.m E.d, .int .i64 E.W, .int .i64 E.H, .slice E.C E.k E.e]] w fun e w' => e = .returned (.bool u) ∧ Below w.heap.size w w' := by
  obtain ⟨hx, hy, hbb⟩ := dboxes2 w D E
  obtain ⟨s0, s1', s2⟩ := hs
  have HD := Lib.hid (hd.next hbb)
  have HE := Lib.hid (he.next hbb)
  have X0 := Lib.hid hx
  have Y0 := Lib.hid hy
  have L0 := Lib.hid hbb
  clear hx hy hbb hd he
  have b0 : (D.S == E.S) = true := by simp [h0]
  have b1 : (D.T == E.T) = true := by simp [h1]
  have K0 := Lib.hid h0
  have K1 := Lib.hid h1
  have K2 := Lib.hid h2
  have K3 := Lib.hid h3
  have K4 := Lib.hid h4
  clear h0 h1 h2 h3 h4
  go_enter Tryd.func44, Tryd.ntmps44
  go_wp2_with fail
  have hc := (ieq_any D.A E.A D.n E.n D.c E.c D.f E.f _ (by omega) HD.out.th HE.out.th)
  rw [K2.out] at hc
  refine hc.mono ?_
  clear hc
  rintro e w1 ⟨rfl, hb⟩
  have HD' := Lib.hid (HD.out.next hb)
  have HE' := Lib.hid (HE.out.next hb)
  have X0' := Lib.hid (X0.out.next hb)
  have Y0' := Lib.hid (Y0.out.next hb)
  have L0' := Lib.hid (L0.out.trans (hb.mono L0.out.size))
  clear hb HD HE X0 Y0 L0 
  have HD := HD'
  have HE := HE'
  have X0 := X0'
  have Y0 := Y0'
  have L0 := L0'
  clear HD' HE' X0' Y0' L0'
  obtain ⟨x0, x1, x2, x3, x4, x5, x6, x7⟩ := X0.out.all
  obtain ⟨y0, y1, y2, y3, y4, y5, y6, y7⟩ := Y0.out.all
  go_wp2_with fail
  have hc := (ieq_any D.B E.B D.m E.m D.d E.d D.g E.g _ (by omega) HD.out.tr HE.out.tr)
  rw [K3.out] at hc
  refine hc.mono ?_
  clear hc
  rintro e w2 ⟨rfl, hb⟩
  have HD' := Lib.hid (HD.out.next hb)
  have HE' := Lib.hid (HE.out.next hb)
  have X0' := Lib.hid (X0.out.next hb)
  have Y0' := Lib.hid (Y0.out.next hb)
  have L0' := Lib.hid (L0.out.trans (hb.mono L0.out.size))
  clear hb HD HE X0 Y0 L0 x0 x1 x2 x3 x4 x5 x6 x7 y0 y1 y2 y3 y4 y5 y6 y7
  have HD := HD'
  have HE := HE'
  have X0 := X0'
  have Y0 := Y0'
  have L0 := L0'
  clear HD' HE' X0' Y0' L0'
  obtain ⟨x0, x1, x2, x3, x4, x5, x6, x7⟩ := X0.out.all
  obtain ⟨y0, y1, y2, y3, y4, y5, y6, y7⟩ := Y0.out.all
  go_wp2_with fail
  have hc := (gsm_any D.W D.H E.W E.H D.C E.C D.k E.k D.e E.e D.b E.b _ (by omega) HD.out.ti HE.out.ti)
  rw [K4.out] at hc
  refine hc.mono ?_
  clear hc
  rintro e w3 ⟨rfl, hb⟩
  have HD' := Lib.hid (HD.out.next hb)
  have HE' := Lib.hid (HE.out.next hb)
  have X0' := Lib.hid (X0.out.next hb)
  have Y0' := Lib.hid (Y0.out.next hb)
  have L0' := Lib.hid (L0.out.trans (hb.mono L0.out.size))
  clear hb HD HE X0 Y0 L0 x0 x1 x2 x3 x4 x5 x6 x7 y0 y1 y2 y3 y4 y5 y6 y7
  have HD := HD'
  have HE := HE'
  have X0 := X0'
  have Y0 := Y0'
  have L0 := L0'
  clear HD' HE' X0' Y0' L0'
  obtain ⟨x0, x1, x2, x3, x4, x5, x6, x7⟩ := X0.out.all
  obtain ⟨y0, y1, y2, y3, y4, y5, y6, y7⟩ := Y0.out.all
  go_wp2
  go_ret
  exact ⟨rfl, L0.out⟩


theorem dsame_any (D E : Dr) (w : World) (hs : D.Small) (hd : D.In w w.heap.size) (he : E.In w w.heap.size) :
    Calls Tryd.prog 44 #[.agg #[.int .i64 D.S, .int .i64 D.T, .slice D.A D.n D.c, .slice D.B D.m D.d, .int .i64 D.W, .int .i64 D.H, .slice D.C D.k D.e], .agg #[.int .i64 E.S, .int .i64 E.T, .slice E.A E.n E.c, .slice E.B E.m E.d, .int .i64 E.W, .int .i64 E.H, .slice E.C E.k E.e]] w fun e w' => e = .returned (.bool (dsm D E)) ∧ Below w.heap.size w w' := by
  have key : ∀ (z : Bool), dsm D E = z → Calls Tryd.prog 44 #[.agg #[.int .i64 D.S, .int .i64 D.T, .slice D.A D.n D.c, .slice D.B D.m D.d, .int .i64 D.W, .int .i64 D.H, .slice D.C D.k D.e], .agg #[.int .i64 E.S, .int .i64 E.T, .slice E.A E.n E.c, .slice E.B E.m E.d, .int .i64 E.W, .int .i64 E.H, .slice E.C E.k E.e]] w (fun e w' => e = .returned (.bool z) ∧ Below w.heap.size w w') → Calls Tryd.prog 44 #[.agg #[.int .i64 D.S, .int .i64 D.T, .slice D.A D.n D.c, .slice D.B D.m D.d, .int .i64 D.W, .int .i64 D.H, .slice D.C D.k D.e], .agg #[.int .i64 E.S, .int .i64 E.T, .slice E.A E.n E.c, .slice E.B E.m E.d, .int .i64 E.W, .int .i64 E.H, .slice E.C E.k E.e]] w (fun e w' => e = .returned (.bool (dsm D E)) ∧ Below w.heap.size w w') := fun z hz h => by rw [hz]; exact h
  by_cases h0 : D.S = E.S
  · by_cases h1 : D.T = E.T
    · cases h2 : lsm D.n D.f E.n E.f
      · exact key false (by unfold dsm; simp [h2]) (dsame_th D E w hs hd he h0 h1 h2)
      · cases h3 : lsm D.m D.g E.m E.g
        · exact key false (by unfold dsm; simp [h3]) (dsame_tr D E w hs hd he h0 h1 h2 h3)
        · exact key _ (by unfold dsm; simp [h0, h1, h2, h3]) (dsame_g D E w hs hd he h0 h1 h2 h3 _ rfl)
    · exact key false (by unfold dsm; simp [h1]) (dsame_T D E w hs hd he h0 h1)
  · exact key false (by unfold dsm; simp [h0]) (dsame_S D E w hs hd he h0)
set_option maxHeartbeats 1000000 in
theorem rdsame_S (D E : Dr) (w : World) (hs : D.Small) (hd : D.In w w.heap.size) (he : E.In w w.heap.size) (h0 : ¬ D.S = E.S) :
    Calls Tryd.prog 26 #[.agg #[.int .i64 D.S, .int .i64 D.T, .slice D.A D.n D.c, .slice D.B D.m D.d, .int .i64 D.W, .int .i64 D.H, .slice D.C D.k D.e], .agg #[.int .i64 E.S, .int .i64 E.T, .slice E.A E.n E.c, .slice E.B E.m E.d, .int .i64 E.W, .int .i64 E.H, .slice E.C E.k E.e]] w fun e w' => e = .returned (.bool false) ∧ Below w.heap.size w w' := by
  obtain ⟨hx, hy, hbb⟩ := dboxes2 w D E
  obtain ⟨s0, s1', s2⟩ := hs
  have HD := Lib.hid (hd.next hbb)
  have HE := Lib.hid (he.next hbb)
  have X0 := Lib.hid hx
  have Y0 := Lib.hid hy
  have L0 := Lib.hid hbb
  clear hx hy hbb hd he
  have b0 : (D.S == E.S) = false := by simp [h0]
  have K0 := Lib.hid h0
  clear h0
  go_enter Tryd.func26, Tryd.ntmps26
  go_wp2
  go_ret
  exact ⟨rfl, L0.out⟩

set_option maxHeartbeats 1000000 in
theorem rdsame_T (D E : Dr) (w : World) (hs : D.Small) (hd : D.In w w.heap.size) (he : E.In w w.heap.size) (h0 : D.S = E.S) (h1 : ¬ D.T = E.T) :
    Calls Tryd.prog 26 #[.agg #[.int .i64 D.S, .int .i64 D.T, .slice D.A D.n D.c, .slice D.B D.m D.d, .int .i64 D.W, .int .i64 D.H, .slice D.C D.k D.e], .agg #[.int .i64 E.S, .int .i64 E.T, .slice E.A E.n E.c, .slice E.B E.m E.d, .int .i64 E.W, .int .i64 E.H, .slice E.C E.k E.e]] w fun e w' => e = .returned (.bool false) ∧ Below w.heap.size w w' := by
  obtain ⟨hx, hy, hbb⟩ := dboxes2 w D E
  obtain ⟨s0, s1', s2⟩ := hs
  have HD := Lib.hid (hd.next hbb)
  have HE := Lib.hid (he.next hbb)
  have X0 := Lib.hid hx
  have Y0 := Lib.hid hy
  have L0 := Lib.hid hbb
  clear hx hy hbb hd he
  have b0 : (D.S == E.S) = true := by simp [h0]
  have b1 : (D.T == E.T) = false := by simp [h1]
  have K0 := Lib.hid h0
  have K1 := Lib.hid h1
  clear h0 h1
  go_enter Tryd.func26, Tryd.ntmps26
  go_wp2
  go_ret
  exact ⟨rfl, L0.out⟩

set_option maxHeartbeats 1000000 in
theorem rdsame_th (D E : Dr) (w : World) (hs : D.Small) (hd : D.In w w.heap.size) (he : E.In w w.heap.size) (h0 : D.S = E.S) (h1 : D.T = E.T) (h2 : lsm D.n D.f E.n E.f = false) :
    Calls Tryd.prog 26 #[.agg #[.int .i64 D.S, .int .i64 D.T, .slice D.A D.n D.c, .slice D.B D.m D.d, .int .i64 D.W, .int .i64 D.H, .slice D.C D.k D.e], .agg #[.int .i64 E.S, .int .i64 E.T, .slice E.A E.n E.c, .slice E.B E.m E.d, .int .i64 E.W, .int .i64 E.H, .slice E.C E.k E.e]] w fun e w' => e = .returned (.bool false) ∧ Below w.heap.size w w' := by
  obtain ⟨hx, hy, hbb⟩ := dboxes2 w D E
  obtain ⟨s0, s1', s2⟩ := hs
  have HD := Lib.hid (hd.next hbb)
  have HE := Lib.hid (he.next hbb)
  have X0 := Lib.hid hx
  have Y0 := Lib.hid hy
  have L0 := Lib.hid hbb
  clear hx hy hbb hd he
  have b0 : (D.S == E.S) = true := by simp [h0]
  have b1 : (D.T == E.T) = true := by simp [h1]
  have K0 := Lib.hid h0
  have K1 := Lib.hid h1
  have K2 := Lib.hid h2
  clear h0 h1 h2
  go_enter Tryd.func26, Tryd.ntmps26
  go_wp2_with fail
  have hc := (rieq_any D.A E.A D.n E.n D.c E.c D.f E.f _ (by omega) HD.out.th HE.out.th)
  rw [K2.out] at hc
  refine hc.mono ?_
  clear hc
  rintro e w1 ⟨rfl, hb⟩
  have HD' := Lib.hid (HD.out.next hb)
  have HE' := Lib.hid (HE.out.next hb)
  have X0' := Lib.hid (X0.out.next hb)
  have Y0' := Lib.hid (Y0.out.next hb)
  have L0' := Lib.hid (L0.out.trans (hb.mono L0.out.size))
  clear hb HD HE X0 Y0 L0 
  have HD := HD'
  have HE := HE'
  have X0 := X0'
  have Y0 := Y0'
  have L0 := L0'
  clear HD' HE' X0' Y0' L0'
  obtain ⟨x0, x1, x2, x3, x4, x5, x6, x7⟩ := X0.out.all
  obtain ⟨y0, y1, y2, y3, y4, y5, y6, y7⟩ := Y0.out.all
  go_wp2
  go_ret
  exact ⟨rfl, L0.out⟩

set_option maxHeartbeats 1000000 in
theorem rdsame_tr (D E : Dr) (w : World) (hs : D.Small) (hd : D.In w w.heap.size) (he : E.In w w.heap.size) (h0 : D.S = E.S) (h1 : D.T = E.T) (h2 : lsm D.n D.f E.n E.f = true) (h3 : lsm D.m D.g E.m E.g = false) :
    Calls Tryd.prog 26 #[.agg #[.int .i64 D.S, .int .i64 D.T, .slice D.A D.n D.c, .slice D.B D.m D.d, .int .i64 D.W, .int .i64 D.H, .slice D.C D.k D.e], .agg #[.int .i64 E.S, .int .i64 E.T, .slice E.A E.n E.c, .slice E.B E.m E.d, .int .i64 E.W, .int .i64 E.H, .slice E.C E.k E.e]] w fun e w' => e = .returned (.bool false) ∧ Below w.heap.size w w' := by
  obtain ⟨hx, hy, hbb⟩ := dboxes2 w D E
  obtain ⟨s0, s1', s2⟩ := hs
  have HD := Lib.hid (hd.next hbb)
  have HE := Lib.hid (he.next hbb)
  have X0 := Lib.hid hx
  have Y0 := Lib.hid hy
  have L0 := Lib.hid hbb
  clear hx hy hbb hd he
  have b0 : (D.S == E.S) = true := by simp [h0]
  have b1 : (D.T == E.T) = true := by simp [h1]
  have K0 := Lib.hid h0
  have K1 := Lib.hid h1
  have K2 := Lib.hid h2
  have K3 := Lib.hid h3
  clear h0 h1 h2 h3
  go_enter Tryd.func26, Tryd.ntmps26
  go_wp2_with fail
  have hc := (rieq_any D.A E.A D.n E.n D.c E.c D.f E.f _ (by omega) HD.out.th HE.out.th)
  rw [K2.out] at hc
  refine hc.mono ?_
  clear hc
  rintro e w1 ⟨rfl, hb⟩
  have HD' := Lib.hid (HD.out.next hb)
  have HE' := Lib.hid (HE.out.next hb)
  have X0' := Lib.hid (X0.out.next hb)
  have Y0' := Lib.hid (Y0.out.next hb)
  have L0' := Lib.hid (L0.out.trans (hb.mono L0.out.size))
  clear hb HD HE X0 Y0 L0 
  have HD := HD'
  have HE := HE'
  have X0 := X0'
  have Y0 := Y0'
  have L0 := L0'
  clear HD' HE' X0' Y0' L0'
  obtain ⟨x0, x1, x2, x3, x4, x5, x6, x7⟩ := X0.out.all
  obtain ⟨y0, y1, y2, y3, y4, y5, y6, y7⟩ := Y0.out.all
  go_wp2_with fail
  have hc := (rieq_any D.B E.B D.m E.m D.d E.d D.g E.g _ (by omega) HD.out.tr HE.out.tr)
  rw [K3.out] at hc
  refine hc.mono ?_
  clear hc
  rintro e w2 ⟨rfl, hb⟩
  have HD' := Lib.hid (HD.out.next hb)
  have HE' := Lib.hid (HE.out.next hb)
  have X0' := Lib.hid (X0.out.next hb)
  have Y0' := Lib.hid (Y0.out.next hb)
  have L0' := Lib.hid (L0.out.trans (hb.mono L0.out.size))
  clear hb HD HE X0 Y0 L0 x0 x1 x2 x3 x4 x5 x6 x7 y0 y1 y2 y3 y4 y5 y6 y7
  have HD := HD'
  have HE := HE'
  have X0 := X0'
  have Y0 := Y0'
  have L0 := L0'
  clear HD' HE' X0' Y0' L0'
  obtain ⟨x0, x1, x2, x3, x4, x5, x6, x7⟩ := X0.out.all
  obtain ⟨y0, y1, y2, y3, y4, y5, y6, y7⟩ := Y0.out.all
  go_wp2
  go_ret
  exact ⟨rfl, L0.out⟩

set_option maxHeartbeats 1000000 in
theorem rdsame_g (D E : Dr) (w : World) (hs : D.Small) (hd : D.In w w.heap.size) (he : E.In w w.heap.size) (h0 : D.S = E.S) (h1 : D.T = E.T) (h2 : lsm D.n D.f E.n E.f = true) (h3 : lsm D.m D.g E.m E.g = true) (u : Bool) (h4 : gsm D.W D.H D.k D.b E.W E.H E.k E.b = u) :
    Calls Tryd.prog 26 #[.agg #[.int .i64 D.S, .int .i64 D.T, .slice D.A D.n D.c, .slice D.B D.m D.d, .int .i64 D.W, .int .i64 D.H, .slice D.C D.k D.e], .agg #[.int .i64 E.S, .int .i64 E.T, .slice E.A E.n E.c, .slice E.B E.m E.d, .int .i64 E.W, .int .i64 E.H, .slice E.C E.k E.e]] w fun e w' => e = .returned (.bool u) ∧ Below w.heap.size w w' := by
  obtain ⟨hx, hy, hbb⟩ := dboxes2 w D E
  obtain ⟨s0, s1', s2⟩ := hs
  have HD := Lib.hid (hd.next hbb)
  have HE := Lib.hid (he.next hbb)
  have X0 := Lib.hid hx
  have Y0 := Lib.hid hy
  have L0 := Lib.hid hbb
  clear hx hy hbb hd he
  have b0 : (D.S == E.S) = true := by simp [h0]
  have b1 : (D.T == E.T) = true := by simp [h1]
  have K0 := Lib.hid h0
  have K1 := Lib.hid h1
  have K2 := Lib.hid h2
  have K3 := Lib.hid h3
  have K4 := Lib.hid h4
  clear h0 h1 h2 h3 h4
  go_enter Tryd.func26, Tryd.ntmps26
  go_wp2_with fail
  have hc := (rieq_any D.A E.A D.n E.n D.c E.c D.f E.f _ (by omega) HD.out.th HE.out.th)
  rw [K2.out] at hc
  refine hc.mono ?_
  clear hc
  rintro e w1 ⟨rfl, hb⟩
  have HD' := Lib.hid (HD.out.next hb)
  have HE' := Lib.hid (HE.out.next hb)
  have X0' := Lib.hid (X0.out.next hb)
  have Y0' := Lib.hid (Y0.out.next hb)
  have L0' := Lib.hid (L0.out.trans (hb.mono L0.out.size))
  clear hb HD HE X0 Y0 L0 
  have HD := HD'
  have HE := HE'
  have X0 := X0'
  have Y0 := Y0'
  have L0 := L0'
  clear HD' HE' X0' Y0' L0'
  obtain ⟨x0, x1, x2, x3, x4, x5, x6, x7⟩ := X0.out.all
  obtain ⟨y0, y1, y2, y3, y4, y5, y6, y7⟩ := Y0.out.all
  go_wp2_with fail
  have hc := (rieq_any D.B E.B D.m E.m D.d E.d D.g E.g _ (by omega) HD.out.tr HE.out.tr)
  rw [K3.out] at hc
  refine hc.mono ?_
  clear hc
  rintro e w2 ⟨rfl, hb⟩
  have HD' := Lib.hid (HD.out.next hb)
  have HE' := Lib.hid (HE.out.next hb)
  have X0' := Lib.hid (X0.out.next hb)
  have Y0' := Lib.hid (Y0.out.next hb)
  have L0' := Lib.hid (L0.out.trans (hb.mono L0.out.size))
  clear hb HD HE X0 Y0 L0 x0 x1 x2 x3 x4 x5 x6 x7 y0 y1 y2 y3 y4 y5 y6 y7
  have HD := HD'
  have HE := HE'
  have X0 := X0'
  have Y0 := Y0'
  have L0 := L0'
  clear HD' HE' X0' Y0' L0'
  obtain ⟨x0, x1, x2, x3, x4, x5, x6, x7⟩ := X0.out.all
  obtain ⟨y0, y1, y2, y3, y4, y5, y6, y7⟩ := Y0.out.all
  go_wp2_with fail
  have hc := (rgsm_any D.W D.H E.W E.H D.C E.C D.k E.k D.e E.e D.b E.b _ (by omega) HD.out.ti HE.out.ti)
  rw [K4.out] at hc
  refine hc.mono ?_
  clear hc
  rintro e w3 ⟨rfl, hb⟩
  have HD' := Lib.hid (HD.out.next hb)
  have HE' := Lib.hid (HE.out.next hb)
  have X0' := Lib.hid (X0.out.next hb)
  have Y0' := Lib.hid (Y0.out.next hb)
  have L0' := Lib.hid (L0.out.trans (hb.mono L0.out.size))
  clear hb HD HE X0 Y0 L0 x0 x1 x2 x3 x4 x5 x6 x7 y0 y1 y2 y3 y4 y5 y6 y7
  have HD := HD'
  have HE := HE'
  have X0 := X0'
  have Y0 := Y0'
  have L0 := L0'
  clear HD' HE' X0' Y0' L0'
  obtain ⟨x0, x1, x2, x3, x4, x5, x6, x7⟩ := X0.out.all
  obtain ⟨y0, y1, y2, y3, y4, y5, y6, y7⟩ := Y0.out.all
  go_wp2
  go_ret
  exact ⟨rfl, L0.out⟩


theorem rdsame_any (D E : Dr) (w : World) (hs : D.Small) (hd : D.In w w.heap.size) (he : E.In w w.heap.size) :
    Calls Tryd.prog 26 #[.agg #[.int .i64 D.S, .int .i64 D.T, .slice D.A D.n D.c, .slice D.B D.m D.d, .int .i64 D.W, .int .i64 D.H, .slice D.C D.k D.e], .agg #[.int .i64 E.S, .int .i64 E.T, .slice E.A E.n E.c, .slice E.B E.m E.d, .int .i64 E.W, .int .i64 E.H, .slice E.C E.k E.e]] w fun e w' => e = .returned (.bool (dsm D E)) ∧ Below w.heap.size w w' := by
  have key : ∀ (z : Bool), dsm D E = z → Calls Tryd.prog 26 #[.agg #[.int .i64 D.S, .int .i64 D.T, .slice D.A D.n D.c, .slice D.B D.m D.d, .int .i64 D.W, .int .i64 D.H, .slice D.C D.k D.e], .agg #[.int .i64 E.S, .int .i64 E.T, .slice E.A E.n E.c, .slice E.B E.m E.d, .int .i64 E.W, .int .i64 E.H, .slice E.C E.k E.e]] w (fun e w' => e = .returned (.bool z) ∧ Below w.heap.size w w') → Calls Tryd.prog 26 #[.agg #[.int .i64 D.S, .int .i64 D.T, .slice D.A D.n D.c, .slice D.B D.m D.d, .int .i64 D.W, .int .i64 D.H, .slice D.C D.k D.e], .agg #[.int .i64 E.S, .int .i64 E.T, .slice E.A E.n E.c, .slice E.B E.m E.d, .int .i64 E.W, .int .i64 E.H, .slice E.C E.k E.e]] w (fun e w' => e = .returned (.bool (dsm D E)) ∧ Below w.heap.size w w') := fun z hz h => by rw [hz]; exact h
  by_cases h0 : D.S = E.S
  · by_cases h1 : D.T = E.T
    · cases h2 : lsm D.n D.f E.n E.f
      · exact key false (by unfold dsm; simp [h2]) (rdsame_th D E w hs hd he h0 h1 h2)
      · cases h3 : lsm D.m D.g E.m E.g
        · exact key false (by unfold dsm; simp [h3]) (rdsame_tr D E w hs hd he h0 h1 h2 h3)
        · exact key _ (by unfold dsm; simp [h0, h1, h2, h3]) (rdsame_g D E w hs hd he h0 h1 h2 h3 _ rfl)
    · exact key false (by unfold dsm; simp [h1]) (rdsame_T D E w hs hd he h0 h1)
  · exact key false (by unfold dsm; simp [h0]) (rdsame_S D E w hs hd he h0)

theorem dsm_is {D E : Dr} {P Q : PD} (hD : D.Is P) (hE : E.Is Q) (hP : P.Ok) : dsm D E = true ↔ P.Eqv Q := by
  obtain ⟨a1, a2, a3, a4, a5, a6, a7, a8, a9, a10⟩ := hD
  obtain ⟨b1, b2, b3, b4, b5, b6, b7, b8, b9, b10⟩ := hE
  unfold dsm lsm gsm
  simp only [Bool.and_eq_true, decide_eq_true_eq]
  constructor
  · rintro ⟨⟨⟨⟨h1, h2⟩, h3, h3'⟩, h4, h4'⟩, h5, h6, h7, h8⟩
    have e1 : P.S = Q.S := by omega
    have e2 : P.T = Q.T := by omega
    refine ⟨e1, e2, by omega, by omega, fun i hi => ?_, fun i hi => ?_, fun t s ht hs => ?_⟩
    · have := h3' i (by omega); rw [a8 i hi, b8 i (by omega)] at this; omega
    · have := h4' i (by omega); rw [a9 i hi, b9 i (by omega)] at this; omega
    · have h9 := ix_bd ht hs
      have := h8 (s * P.T + t) (by rw [a7]; exact h9)
      rw [a10 t s ht hs] at this
      rw [e2] at this ht
      rw [e1] at hs
      rw [b10 t s ht hs] at this
      exact this
  · rintro ⟨h1, h2, h3, h4, h5, h6, h7⟩
    refine ⟨⟨⟨⟨by omega, by omega⟩, by omega, fun i hi => ?_⟩, by omega, fun i hi => ?_⟩, by omega, by omega, by rw [a7, b7, h1, h2], fun i hi => ?_⟩
    · rw [a8 i (by omega), b8 i (by omega), h5 i (by omega)]
    · rw [a9 i (by omega), b9 i (by omega), h6 i (by omega)]
    · rw [a7] at hi
      have hT : 1 ≤ P.T := hP.t0
      have hm : i % P.T < P.T := Nat.mod_lt _ (by omega)
      have hd : i / P.T < P.S := Nat.div_lt_of_lt_mul hi
      have e : i = i / P.T * P.T + i % P.T := (nat_div_mod P.T i).symm
      have x1 := a10 _ _ hm hd
      have x2 := b10 (i % P.T) (i / P.T) (by rw [← h2]; exact hm) (by rw [← h1]; exact hd)
      rw [← e] at x1
      rw [← h2, ← e] at x2
      rw [x1, x2, h7 _ _ hm hd]
end Go.Proofs.YtbafhdinalapoaaDoor

/- Great; and appending a list to an empty one in a region. -/
namespace Go.Proofs.YtbafhdinalapoaaDoor
open Go.RowKit
set_option linter.unusedVariables false
set_option linter.unusedSimpArgs false
set_option maxRecDepth 100000

set_option maxHeartbeats 800000 in
theorem dgreat_n (D : Dr) (w : World) (h : 70 < D.n) :
    Calls Tryd.prog 51 #[.agg #[.int .i64 D.S, .int .i64 D.T, .slice D.A D.n D.c, .slice D.B D.m D.d, .int .i64 D.W, .int .i64 D.H, .slice D.C D.k D.e]] w fun e w' => e = .returned (.bool true) ∧ Below w.heap.size w w' := by
  obtain ⟨S, T, A, n, c, B, m, d, W, H, C, k, e', f, g, b⟩ := D
  dsimp only at *
  have b0 : decide ((70 : Int) < (n : Int)) = true := by simp; omega
  go_enter Tryd.func51, Tryd.ntmps51
  go_wp2
  go_ret
  exact ⟨rfl, (Below.refl _ _).alloc (Nat.le_refl _) _⟩

set_option maxHeartbeats 800000 in
theorem dgreat_m (D : Dr) (w : World) (h0 : ¬ 70 < D.n) (h : 70 < D.m) :
    Calls Tryd.prog 51 #[.agg #[.int .i64 D.S, .int .i64 D.T, .slice D.A D.n D.c, .slice D.B D.m D.d, .int .i64 D.W, .int .i64 D.H, .slice D.C D.k D.e]] w fun e w' => e = .returned (.bool true) ∧ Below w.heap.size w w' := by
  obtain ⟨S, T, A, n, c, B, m, d, W, H, C, k, e', f, g, b⟩ := D
  dsimp only at *
  have b0 : decide ((70 : Int) < (n : Int)) = false := by simp; omega
  have b1 : decide ((70 : Int) < (m : Int)) = true := by simp; omega
  go_enter Tryd.func51, Tryd.ntmps51
  go_wp2
  go_ret
  exact ⟨rfl, (Below.refl _ _).alloc (Nat.le_refl _) _⟩

set_option maxHeartbeats 800000 in
theorem dgreat_k (D : Dr) (w : World) (h0 : ¬ 70 < D.n) (h1 : ¬ 70 < D.m) (h : 4200 < D.k) :
    Calls Tryd.prog 51 #[.agg #[.int .i64 D.S, .int .i64 D.T, .slice D.A D.n D.c, .slice D.B D.m D.d, .int .i64 D.W, .int .i64 D.H, .slice D.C D.k D.e]] w fun e w' => e = .returned (.bool true) ∧ Below w.heap.size w w' := by
  obtain ⟨S, T, A, n, c, B, m, d, W, H, C, k, e', f, g, b⟩ := D
  dsimp only at *
  have b0 : decide ((70 : Int) < (n : Int)) = false := by simp; omega
  have b1 : decide ((70 : Int) < (m : Int)) = false := by simp; omega
  go_enter Tryd.func51, Tryd.ntmps51
  go_wp2_with fail
  refine (great_yes _ _ _ _ _ _ (by omega)).mono ?_
  rintro e w1 ⟨rfl, hb⟩
  have HB := Lib.hid (((Below.refl w.heap.size w).alloc (Nat.le_refl _) _).trans (hb.mono (by simp)))
  clear hb
  go_wp2
  go_ret
  exact ⟨rfl, HB.out⟩

set_option maxHeartbeats 800000 in
theorem dgreat_no (D : Dr) (w : World) (hs : D.Small) :
    Calls Tryd.prog 51 #[.agg #[.int .i64 D.S, .int .i64 D.T, .slice D.A D.n D.c, .slice D.B D.m D.d, .int .i64 D.W, .int .i64 D.H, .slice D.C D.k D.e]] w fun e w' => e = .returned (.bool false) ∧ Below w.heap.size w w' := by
  obtain ⟨S, T, A, n, c, B, m, d, W, H, C, k, e', f, g, b⟩ := D
  dsimp only at *
  obtain ⟨s0, s1, s2⟩ := hs
  dsimp only at s0 s1 s2
  have b0 : decide ((70 : Int) < (n : Int)) = false := by simp; omega
  have b1 : decide ((70 : Int) < (m : Int)) = false := by simp; omega
  go_enter Tryd.func51, Tryd.ntmps51
  go_wp2_with fail
  refine (great_no _ _ _ _ _ _ (by omega)).mono ?_
  rintro e w1 ⟨rfl, hb⟩
  have HB := Lib.hid (((Below.refl w.heap.size w).alloc (Nat.le_refl _) _).trans (hb.mono (by simp)))
  clear hb
  go_wp2
  go_ret
  exact ⟨rfl, HB.out⟩

theorem dgreat_case (D : Dr) : D.Small ∨ ∀ w, Calls Tryd.prog 51 #[.agg #[.int .i64 D.S, .int .i64 D.T, .slice D.A D.n D.c, .slice D.B D.m D.d, .int .i64 D.W, .int .i64 D.H, .slice D.C D.k D.e]] w fun e w' => e = .returned (.bool true) ∧ Below w.heap.size w w' := by
  by_cases h0 : 70 < D.n
  · exact .inr fun w => dgreat_n D w h0
  by_cases h1 : 70 < D.m
  · exact .inr fun w => dgreat_m D w h0 h1
  by_cases h2 : 4200 < D.k
  · exact .inr fun w => dgreat_k D w h0 h1 h2
  exact .inl ⟨by omega, by omega, by omega⟩

theorem twin_any (W H : Int) (A : Option Addr) (n c : Nat) (f : Nat → Bool) (w : World) (hn : n ≤ 4200) (hr : Holds w w.heap.size A n f) :
    Calls Tryd.prog 19 #[.agg #[.int .i64 W, .int .i64 H, .slice A n c]] w fun e w' => ∃ D d, e = .returned (.agg #[.int .i64 W, .int .i64 H, .slice D n d]) ∧ (0 < n → ∃ k, D = some ⟨k, 0, none⟩ ∧ w.heap.size ≤ k ∧ Row w' k n f) ∧ Below w.heap.size w w' := by
  rcases Nat.eq_zero_or_pos n with h | h
  · subst h
    exact (twin_none W H A c w).mono fun _ _ ⟨k, he, hb⟩ => ⟨_, _, he, fun h => absurd h (by omega), hb⟩
  · exact (twin_some W H A n c f w hn h hr).mono fun _ _ ⟨k, d, he, hk, hr, hb⟩ => ⟨_, _, he, fun _ => ⟨k, rfl, hk, hr⟩, hb⟩

theorem iappend_none (g : Nat) (A : Option Addr) (c : Nat) (ty : TypeId) (w : World) : (Builtin.append_ #[22, 22] ty #[.slice (some ⟨g, 0, none⟩) 0 0, .slice A 0 c]).run Tryd.prog w = .ok (.slice (some ⟨g, 0, none⟩) 0 0) w := by
  obtain ⟨i0, hi, hz0, hz1, hz2⟩ := info_parts L2.TrydI.info3
  cases A <;> simp [Builtin.append_, run_underlying Tryd.underlying22, sizeOf, typeInfo, hi, Builtin.lenOf, Builtin.firstCells, storeCells, loadCells, loadCellsFrom]

/-- 'append([]int{}, l...)' at a step of a region that draws its order. -/
theorem step_cat {ops : Array Oper} {o : Oper} {a : Act} {w : World} {K : Act → World → Prop} {Q : Exit → Act → World → Prop} {E : Prop} (hgd : o.guard = none) (s x : Operand)
    (ho : o.op = .call { callee := .builtin .append, args := #[s, x], argTypes := #[22, 22] }) (g : Nat) (hs : a.eval s = .slice (some ⟨g, 0, none⟩) 0 0) {B : Nat} {A : Option Addr} {m c : Nat} {f : Nat → Int} (hx : a.eval x = .slice A m c)
    (hr : L2.Holds w B A m f) (hm : m ≤ 5000)
    (h : ∀ k d w', (0 < m → L2.Row w' k m f ∧ w.heap.size ≤ k) → Below w.heap.size w w' → K (a.put o.dst (.slice (some ⟨k, 0, none⟩) m d)) w') : if Region.wanted o (yielded ops a.tmps) = true then Oper.wp Tryd.prog o a w K Q else E := by
  rcases Nat.eq_zero_or_pos m with h0 | h0
  · subst h0
    have hw : Region.wanted o (yielded ops a.tmps) = true := by simp [Region.wanted, hgd]
    rw [if_pos hw]
    have hr := iappend_none g A c o.type w
    unfold Oper.wp execOp
    simp only [ho, resolve, invoke, builtin, Sem.run_bind, Sem.run_pure, Result.andThen_ok, List.map_toArray, List.map_cons, List.map_nil, hs, hx, hr]
    exact h g 0 w (fun h => absurd h (by omega)) (Below.refl _ _)
  · obtain ⟨i0, hi, hz0, hz1, hz2⟩ := info_parts L2.TrydI.info3
    obtain ⟨b, off, rfl, _, hc⟩ := hr h0
    refine step_append_grows hgd s x 22 ho 3 i0 (.int .i64 0) 1 8 Tryd.underlying22 hi hz0 hz1 hz2 rfl (by decide) (some ⟨g, 0, none⟩) 0 0 [] hs (fun h => by cases h) rfl (fun _ _ j u h => by simp at h) ⟨b, off, none⟩ m c (L2.news m f) hx (by rw [L2.news_length]; omega) ?_ L2.news_one (by omega) (by unfold maxLen; omega) (by omega) ?_
    · intro j u hj
      obtain ⟨hj', rfl⟩ := L2.news_get hj
      have e : Addr.add ⟨b, off, none⟩ j = ⟨b, off + j, none⟩ := by unfold Addr.add; by_cases h : j = 0 <;> simp [h]
      rw [e]
      exact hc j hj'
    · intro v' w' hown hgr
      rw [List.nil_append, Nat.zero_add] at hown
      obtain ⟨A', c', rfl, _, hrow⟩ := L2.Own.out (f := f) hown
      obtain ⟨k, rfl, hk, hrow⟩ := hrow h0
      exact h k c' w' (fun _ => ⟨hrow, hk⟩) (Below.grown (Below.refl _ _) hgr (by simp) (by simp))
end Go.Proofs.YtbafhdinalapoaaDoor

/- What the walks of the statements keep: the old memory, drafts and grids in variables. -/
namespace Go.Proofs.YtbafhdinalapoaaDoor
open Go.RowKit
set_option linter.unusedVariables false
set_option linter.unusedSimpArgs false
set_option maxRecDepth 100000

/-- A variable of the grid type at block b, its cells in a row of the call's own between lo and b. -/
structure Var (v : World) (lo b : Nat) (W H : Int) (A : Option Addr) (n c : Nat) (F : Nat → Bool) : Prop where
  box : Box v b W H (.slice A n c)
  row : 0 < n → ∃ k, A = some ⟨k, 0, none⟩ ∧ lo ≤ k ∧ k < b ∧ Row v k n F
section
variable {v v' : World} {lo b : Nat} {W H : Int} {A : Option Addr} {n c : Nat} {F : Nat → Bool}
theorem Var.next (h : Var v lo b W H A n c F) (hb : Below v.heap.size v v') : Var v' lo b W H A n c F :=
  ⟨h.box.below hb h.box.lt, fun hn => by
    obtain ⟨k, e, h1, h2, h3⟩ := h.row hn
    exact ⟨k, e, h1, h2, h3.below hb h3.lt⟩⟩
theorem Var.alloc (h : Var v lo b W H A n c F) (o : Obj) : Var (v.alloc o) lo b W H A n c F := h.next ((Below.refl _ _).alloc (Nat.le_refl _) o)
theorem Var.drew (h : Var v lo b W H A n c F) : Var v.drew lo b W H A n c F := h.next ((Below.refl _ _).drew)
theorem Var.far (h : Var v lo b W H A n c F) {p : Addr} (hp : p.block < lo ∨ b < p.block) (hlo : lo ≤ b) (u : Value) : Var (v.setCell p u) lo b W H A n c F :=
  ⟨h.box.far (by omega) u, fun hn => by
    obtain ⟨k, e, h1, h2, h3⟩ := h.row hn
    exact ⟨k, e, h1, h2, h3.far (by omega) u⟩⟩
theorem Var.set_ (h : Var v lo b W H A n c F) {k : Nat} (hk : A = some ⟨k, 0, none⟩) (hn : 0 < n) (i : Nat) (u : Bool) : Var (v.setCell ⟨k, i, none⟩ (.bool u)) lo b W H A n c (fun j => if j = i then u else F j) := by
  obtain ⟨k', e, h1, h2, h3⟩ := h.row hn
  rw [hk] at e
  cases e
  exact ⟨h.box.far (by simp; omega) _, fun _ => ⟨k, hk, h1, h2, h3.set_ i u⟩⟩
theorem Var.new {w1 : World} (hrow : 0 < n → ∃ k, A = some ⟨k, 0, none⟩ ∧ lo ≤ k ∧ Row w1 k n F) : Var (w1.alloc (.cells #[.int .i64 W, .int .i64 H, .slice A n c] 25)) lo w1.heap.size W H A n c F :=
  ⟨Box.new w1 W H _, fun hn => by
    obtain ⟨k, e, h1, h3⟩ := hrow hn
    exact ⟨k, e, h1, h3.lt, h3.alloc _⟩⟩
theorem Var.holds (h : Var v lo b W H A n c F) : Holds v v.heap.size A n F := fun hn => by
  obtain ⟨k, rfl, _, _, h3⟩ := h.row hn
  exact h3.holds h3.lt hn
end


/-- Nothing that was there has turned. -/
structure Bl (w v : World) : Prop where
  bel : Below w.heap.size w v
theorem Bl.next {w v v' : World} (h : Bl w v) (hb : Below v.heap.size v v') : Bl w v' := ⟨h.bel.trans (hb.mono h.bel.size)⟩
theorem Bl.size {w v : World} (h : Bl w v) : w.heap.size ≤ v.heap.size := h.bel.size
/-- A draft in the variable at g, its elements below B. -/
structure DP (v : World) (g B : Nat) (D : Dr) : Prop where
  box : DBox v g D
  cells : D.In v B
  le : B ≤ v.heap.size
section
variable {v v' : World} {g B : Nat} {D : Dr}
theorem DP.next (h : DP v g B D) (hb : Below v.heap.size v v') : DP v' g B D := ⟨h.box.next hb, h.cells.below (hb.mono h.le), Nat.le_trans h.le hb.size⟩
theorem DP.in_ (h : DP v g B D) : D.In v v.heap.size := h.cells.more h.le
theorem DP.new (v : World) (h : D.In v v.heap.size) : DP (v.alloc (.cells #[.int .i64 D.S, .int .i64 D.T, .slice D.A D.n D.c, .slice D.B D.m D.d, .int .i64 D.W, .int .i64 D.H, .slice D.C D.k D.e] 27)) v.heap.size v.heap.size D :=
  ⟨DBox.new v D, h.below ((Below.refl _ _).alloc (Nat.le_refl _) _), by simp⟩
end
theorem dps2 (w : World) (D E : Dr) (hd : D.In w w.heap.size) (he : E.In w w.heap.size) :
    DP ((w.alloc (.cells #[.int .i64 D.S, .int .i64 D.T, .slice D.A D.n D.c, .slice D.B D.m D.d, .int .i64 D.W, .int .i64 D.H, .slice D.C D.k D.e] 27)).alloc (.cells #[.int .i64 E.S, .int .i64 E.T, .slice E.A E.n E.c, .slice E.B E.m E.d, .int .i64 E.W, .int .i64 E.H, .slice E.C E.k E.e] 27)) w.heap.size w.heap.size D ∧ DP ((w.alloc (.cells #[.int .i64 D.S, .int .i64 D.T, .slice D.A D.n D.c, .slice D.B D.m D.d, .int .i64 D.W, .int .i64 D.H, .slice D.C D.k D.e] 27)).alloc (.cells #[.int .i64 E.S, .int .i64 E.T, .slice E.A E.n E.c, .slice E.B E.m E.d, .int .i64 E.W, .int .i64 E.H, .slice E.C E.k E.e] 27)) (w.heap.size + 1) w.heap.size E ∧
    Bl w ((w.alloc (.cells #[.int .i64 D.S, .int .i64 D.T, .slice D.A D.n D.c, .slice D.B D.m D.d, .int .i64 D.W, .int .i64 D.H, .slice D.C D.k D.e] 27)).alloc (.cells #[.int .i64 E.S, .int .i64 E.T, .slice E.A E.n E.c, .slice E.B E.m E.d, .int .i64 E.W, .int .i64 E.H, .slice E.C E.k E.e] 27)) := by
  obtain ⟨h1, h2, h3⟩ := dboxes2 w D E
  exact ⟨⟨h1, hd.below h3, h3.size⟩, ⟨h2, he.below h3, h3.size⟩, ⟨h3⟩⟩
theorem dps1 (w : World) (D : Dr) (hd : D.In w w.heap.size) :
    DP (w.alloc (.cells #[.int .i64 D.S, .int .i64 D.T, .slice D.A D.n D.c, .slice D.B D.m D.d, .int .i64 D.W, .int .i64 D.H, .slice D.C D.k D.e] 27)) w.heap.size w.heap.size D ∧ Bl w (w.alloc (.cells #[.int .i64 D.S, .int .i64 D.T, .slice D.A D.n D.c, .slice D.B D.m D.d, .int .i64 D.W, .int .i64 D.H, .slice D.C D.k D.e] 27)) :=
  ⟨DP.new w hd, ⟨(Below.refl _ _).alloc (Nat.le_refl _) _⟩⟩
theorem out_row {v : World} {A : Option Addr} {n lo : Nat} {F : Nat → Bool} (h : 0 < n → ∃ k, A = some ⟨k, 0, none⟩ ∧ lo ≤ k ∧ Row v k n F) : ∃ k, 0 < n → A = some ⟨k, 0, none⟩ ∧ lo ≤ k ∧ Row v k n F := by
  rcases Nat.eq_zero_or_pos n with h0 | h0
  · exact ⟨0, fun h => absurd h (by omega)⟩
  · obtain ⟨k, hk⟩ := h h0
    exact ⟨k, fun _ => hk⟩
/-- A grid in the variable at b, its cells in the row k. -/
structure GP (v : World) (lo b k : Nat) (W H : Int) (A : Option Addr) (n c : Nat) (F : Nat → Bool) : Prop where
  box : Box v b W H (.slice A n c)
  row : 0 < n → A = some ⟨k, 0, none⟩ ∧ lo ≤ k ∧ k < b ∧ Row v k n F
section
variable {v v' : World} {lo b k : Nat} {W H : Int} {A : Option Addr} {n c : Nat} {F : Nat → Bool}
theorem GP.next (h : GP v lo b k W H A n c F) (hb : Below v.heap.size v v') : GP v' lo b k W H A n c F :=
  ⟨h.box.below hb h.box.lt, fun hn => by
    obtain ⟨e, h1, h2, h3⟩ := h.row hn
    exact ⟨e, h1, h2, h3.below hb h3.lt⟩⟩
theorem GP.new {w1 : World} (hrow : 0 < n → A = some ⟨k, 0, none⟩ ∧ lo ≤ k ∧ Row w1 k n F) : GP (w1.alloc (.cells #[.int .i64 W, .int .i64 H, .slice A n c] 25)) lo w1.heap.size k W H A n c F :=
  ⟨Box.new w1 W H _, fun hn => by
    obtain ⟨e, h1, h3⟩ := hrow hn
    exact ⟨e, h1, h3.lt, h3.alloc _⟩⟩
theorem GP.holds (h : GP v lo b k W H A n c F) : Holds v v.heap.size A n F := fun hn => by
  obtain ⟨rfl, _, _, h3⟩ := h.row hn
  exact h3.holds h3.lt hn
end

end Go.Proofs.YtbafhdinalapoaaDoor
