/- What a function that hands back a draft leaves; slices.Clone of a list. -/
import Derived.Test.YtbafhdinalapoaaDwa
import Derived.Test.YtbafhdinalapoaaIOwn
import Derived.Test.YtbafhdinalapoaaIRnm
import Derived.Lib.SliceRun
namespace Go.Proofs.Ytbafhdinalapoaa
open Go.RowKit
set_option linter.unusedVariables false
set_option linter.unusedSimpArgs false
set_option maxRecDepth 100000

def Dr.zero : Dr := ⟨0, 0, none, 0, 0, none, 0, 0, 0, 0, none, 0, 0, fun _ => 0, fun _ => 0, fun _ => false⟩
/-- A draft in rows of the call's own. -/
structure Rows3 (w : World) (lo : Nat) (Q : PD) (a b c : Nat) : Prop where
  ha : lo ≤ a
  hb : lo ≤ b
  hc : lo ≤ c
  ra : L2.Row w a Q.n (fun i => (Q.F i : Nat))
  rb : L2.Row w b Q.m (fun i => (Q.G i : Nat))
  rc : Row w c (Q.T * Q.S) (fun i => Q.L (i % Q.T) (i / Q.T))
def OkDr (w : World) (Q : PD) (e : Ending) (w' : World) : Prop :=
  ∃ a ca b cb c cc, e = .returned (.tuple #[.agg #[.int .i64 (Q.S : Nat), .int .i64 (Q.T : Nat), .slice (some ⟨a, 0, none⟩) Q.n ca, .slice (some ⟨b, 0, none⟩) Q.m cb, .int .i64 (Q.T : Nat), .int .i64 (Q.S : Nat), .slice (some ⟨c, 0, none⟩) (Q.T * Q.S) cc], .int .i64 0]) ∧ Rows3 w' w.heap.size Q a b c ∧ Below w.heap.size w w'
def ErrDr (w : World) (err : Int) (e : Ending) (w' : World) : Prop :=
  e = .returned (.tuple #[.agg #[.int .i64 0, .int .i64 0, .slice none 0 0, .slice none 0 0, .int .i64 0, .int .i64 0, .slice none 0 0], .int .i64 err]) ∧ Below w.heap.size w w'
def PD.dr (Q : PD) (a ca b cb c cc : Nat) : Dr := ⟨Q.S, Q.T, some ⟨a, 0, none⟩, Q.n, ca, some ⟨b, 0, none⟩, Q.m, cb, Q.T, Q.S, some ⟨c, 0, none⟩, Q.T * Q.S, cc, fun i => (Q.F i : Nat), fun i => (Q.G i : Nat), fun i => Q.L (i % Q.T) (i / Q.T)⟩
theorem PD.dr_is (Q : PD) (a ca b cb c cc : Nat) : (Q.dr a ca b cb c cc).Is Q :=
  ⟨rfl, rfl, rfl, rfl, rfl, rfl, rfl, fun _ _ => rfl, fun _ _ => rfl, fun t s ht hs => by
    show Q.L ((s * Q.T + t) % Q.T) ((s * Q.T + t) / Q.T) = _
    have h1 : (s * Q.T + t) % Q.T = t := by rw [Nat.mul_comm, Nat.mul_add_mod, Nat.mod_eq_of_lt ht]
    have h2 : (s * Q.T + t) / Q.T = s := by rw [Nat.mul_comm, Nat.mul_add_div (by omega), Nat.div_eq_of_lt ht]; omega
    rw [h1, h2]⟩
section
variable {w w' : World} {lo a b c : Nat} {Q : PD}
theorem Rows3.lt (h : Rows3 w lo Q a b c) : a < w.heap.size ∧ b < w.heap.size ∧ c < w.heap.size := ⟨h.ra.lt, h.rb.lt, h.rc.lt⟩
theorem Rows3.next (h : Rows3 w lo Q a b c) (hb : Below w.heap.size w w') : Rows3 w' lo Q a b c :=
  ⟨h.ha, h.hb, h.hc, h.ra.below hb h.ra.lt, h.rb.below hb h.rb.lt, h.rc.below hb h.rc.lt⟩
theorem Rows3.far (h : Rows3 w lo Q a b c) {p : Addr} (hp : p.block < lo) (u : Value) : Rows3 (w.setCell p u) lo Q a b c := by
  have h1 := h.ha
  have h2 := h.hb
  have h3 := h.hc
  exact ⟨h1, h2, h3, h.ra.far (by omega) u, h.rb.far (by omega) u, h.rc.far (by omega) u⟩
theorem Rows3.dr (h : Rows3 w lo Q a b c) (ca cb cc : Nat) : (Q.dr a ca b cb c cc).In w w.heap.size := ⟨h.ra.holds h.ra.lt, h.rb.holds h.rb.lt, h.rc.holds h.rc.lt⟩
theorem Rows3.lower (h : Rows3 w lo Q a b c) {l : Nat} (hl : l ≤ lo) : Rows3 w l Q a b c := ⟨Nat.le_trans hl h.ha, Nat.le_trans hl h.hb, Nat.le_trans hl h.hc, h.ra, h.rb, h.rc⟩
end
/-- A draft's box and the result's box, behind the first call. -/
theorem dafter3 {w w1 : World} {D : Dr} (hb : Below ((w.alloc (.cells #[.int .i64 D.S, .int .i64 D.T, .slice D.A D.n D.c, .slice D.B D.m D.d, .int .i64 D.W, .int .i64 D.H, .slice D.C D.k D.e] 30)).alloc (.cells #[.int .i64 0, .int .i64 0, .slice none 0 0, .slice none 0 0, .int .i64 0, .int .i64 0, .slice none 0 0] 30)).heap.size
      ((w.alloc (.cells #[.int .i64 D.S, .int .i64 D.T, .slice D.A D.n D.c, .slice D.B D.m D.d, .int .i64 D.W, .int .i64 D.H, .slice D.C D.k D.e] 30)).alloc (.cells #[.int .i64 0, .int .i64 0, .slice none 0 0, .slice none 0 0, .int .i64 0, .int .i64 0, .slice none 0 0] 30)) w1) :
    DBox w1 w.heap.size D ∧ DBox w1 (w.heap.size + 1) Dr.zero ∧ Below w.heap.size w w1 ∧ w.heap.size + 2 ≤ w1.heap.size := by
  have h1 := ((DBox.new w D).alloc (.cells #[.int .i64 0, .int .i64 0, .slice none 0 0, .slice none 0 0, .int .i64 0, .int .i64 0, .slice none 0 0] 30)).below hb (by simp; omega)
  have h2 := (DBox.new (w.alloc (.cells #[.int .i64 D.S, .int .i64 D.T, .slice D.A D.n D.c, .slice D.B D.m D.d, .int .i64 D.W, .int .i64 D.H, .slice D.C D.k D.e] 30)) Dr.zero).below hb (by simp)
  have h3 : Below w.heap.size w w1 := (((Below.refl _ _).alloc (Nat.le_refl _) _).alloc (by simp) _).trans (hb.mono (by simp; omega))
  have h4 := hb.size
  simp at h2 h4
  exact ⟨h1, h2, h3, by omega⟩
theorem dstart3 {w : World} {D : Dr} (hd : D.In w w.heap.size) : D.In ((w.alloc (.cells #[.int .i64 D.S, .int .i64 D.T, .slice D.A D.n D.c, .slice D.B D.m D.d, .int .i64 D.W, .int .i64 D.H, .slice D.C D.k D.e] 30)).alloc (.cells #[.int .i64 0, .int .i64 0, .slice none 0 0, .slice none 0 0, .int .i64 0, .int .i64 0, .slice none 0 0] 30)) ((w.alloc (.cells #[.int .i64 D.S, .int .i64 D.T, .slice D.A D.n D.c, .slice D.B D.m D.d, .int .i64 D.W, .int .i64 D.H, .slice D.C D.k D.e] 30)).alloc (.cells #[.int .i64 0, .int .i64 0, .slice none 0 0, .slice none 0 0, .int .i64 0, .int .i64 0, .slice none 0 0] 30)).heap.size :=
  hd.next (((Below.refl _ _).alloc (Nat.le_refl _) _).alloc (by simp) _)
theorem dfin_err {w w2 : World} {err : Int} {r : Nat} {a b c d e f g : Value} (hr : w.heap.size ≤ r) (hb : Below w.heap.size w w2) :
    ErrDr w err (.returned (.tuple #[.agg #[.int .i64 0, .int .i64 0, .slice none 0 0, .slice none 0 0, .int .i64 0, .int .i64 0, .slice none 0 0], .int .i64 err])) (((((((w2.setCell ⟨r, 0, none⟩ a).setCell ⟨r, 1, none⟩ b).setCell ⟨r, 2, none⟩ c).setCell ⟨r, 3, none⟩ d).setCell ⟨r, 4, none⟩ e).setCell ⟨r, 5, none⟩ f).setCell ⟨r, 6, none⟩ g) :=
  ⟨rfl, ((((((hb.setCell hr _).setCell hr _).setCell hr _).setCell hr _).setCell hr _).setCell hr _).setCell hr _⟩
theorem set7_below {w w2 : World} {r : Nat} {a b c d e f g : Value} (hr : w.heap.size ≤ r) (hb : Below w.heap.size w w2) :
    Below w.heap.size w (((((((w2.setCell ⟨r, 0, none⟩ a).setCell ⟨r, 1, none⟩ b).setCell ⟨r, 2, none⟩ c).setCell ⟨r, 3, none⟩ d).setCell ⟨r, 4, none⟩ e).setCell ⟨r, 5, none⟩ f).setCell ⟨r, 6, none⟩ g) :=
  ((((((hb.setCell hr _).setCell hr _).setCell hr _).setCell hr _).setCell hr _).setCell hr _).setCell hr _
theorem set7_keep {w w2 : World} {M r : Nat} {a b c d e f g : Value} (hr : M ≤ r) (hb : Below M w w2) : Below M w (((((((w2.setCell ⟨r, 0, none⟩ a).setCell ⟨r, 1, none⟩ b).setCell ⟨r, 2, none⟩ c).setCell ⟨r, 3, none⟩ d).setCell ⟨r, 4, none⟩ e).setCell ⟨r, 5, none⟩ f).setCell ⟨r, 6, none⟩ g) :=
  ((((((hb.setCell hr _).setCell hr _).setCell hr _).setCell hr _).setCell hr _).setCell hr _).setCell hr _
theorem set7_block {w2 : World} {x r : Nat} {a b c d e f g : Value} (hr : x ≠ r) : (((((((w2.setCell ⟨r, 0, none⟩ a).setCell ⟨r, 1, none⟩ b).setCell ⟨r, 2, none⟩ c).setCell ⟨r, 3, none⟩ d).setCell ⟨r, 4, none⟩ e).setCell ⟨r, 5, none⟩ f).setCell ⟨r, 6, none⟩ g).heap[x]? = w2.heap[x]? := by
  rw [Below.heap_setCell _ _ _ _ hr, Below.heap_setCell _ _ _ _ hr, Below.heap_setCell _ _ _ _ hr, Below.heap_setCell _ _ _ _ hr, Below.heap_setCell _ _ _ _ hr, Below.heap_setCell _ _ _ _ hr, Below.heap_setCell _ _ _ _ hr]
theorem set7_rows {w2 : World} {r lo x y z : Nat} {Q : PD} {a b c d e f g : Value} (hr : r < lo) (h : Rows3 w2 lo Q x y z) :
    Rows3 (((((((w2.setCell ⟨r, 0, none⟩ a).setCell ⟨r, 1, none⟩ b).setCell ⟨r, 2, none⟩ c).setCell ⟨r, 3, none⟩ d).setCell ⟨r, 4, none⟩ e).setCell ⟨r, 5, none⟩ f).setCell ⟨r, 6, none⟩ g) lo Q x y z :=
  ((((((h.far hr _).far hr _).far hr _).far hr _).far hr _).far hr _).far hr _

set_option maxHeartbeats 800000 in
theorem clone_any (A : Option Addr) (n c : Nat) (f : Nat → Int) (B0 : Nat) (w : World) (h0 : 0 < n) (hn : n ≤ 5000) (hr : L2.Holds w B0 A n f) :
    Calls Try.prog 54 #[.slice A n c] w fun e w' => ∃ k c', e = .returned (.slice (some ⟨k, 0, none⟩) n c') ∧ w.heap.size ≤ k ∧ L2.Row w' k n f ∧ Below w.heap.size w w' := by
  obtain ⟨b, o, rfl, hb, hc⟩ := hr h0
  have HR := Lib.hid (show L2.Holds (w.alloc (.cells #[] 3)) w.heap.size (some ⟨b, o, none⟩) n f from fun _ => ⟨b, o, rfl, by
      rcases Nat.lt_or_ge b w.heap.size with h | h
      · exact h
      · have := hc 0 h0
        simp [World.cell?, Array.getElem?_eq_none h] at this, fun i hi => by
      have hl : b < w.heap.size := by
        rcases Nat.lt_or_ge b w.heap.size with h | h
        · exact h
        · have := hc 0 h0
          simp [World.cell?, Array.getElem?_eq_none h] at this
      exact (((Below.refl w.heap.size w).alloc (Nat.le_refl _) _).cell (p := ⟨b, o + i, none⟩) hl).trans (hc i hi)⟩)
  clear hc hr
  have HO := Lib.hid (L2.Own.empty w (Nat.le_refl _) (fun _ => 0))
  have q22 : ∀ (w : World) (a : Option Addr) (n c n' c' : Nat), (binOp .eql 28 (.slice a n c) (.slice none n' c')).run Try.prog w = .ok (.bool a.isNone) w := fun w a n c n' c' => Lib.run_eql_slice_nil w _ _ a n c n' c' Try.underlying28
  go_enter Try.func54, Try.ntmps54
  go_wp2_with (at_builtin; refine L2.appN _ rfl _ _ (by rfl) w.heap.size (by rfl) HO.out (by rfl) (fun h => by cases h) HR.out (by omega) (by omega) (by simp) ?_; intro v2 w2 hown2 hb2; have HO2 := Lib.hid hown2; have HB2 := Lib.hid hb2; clear hown2 hb2)
  obtain ⟨A', c', rfl, _, hrow⟩ := HO2.out.out
  go_wp2
  go_ret
  obtain ⟨k, rfl, hk, hrow⟩ := hrow (by omega)
  rw [Nat.zero_add] at *
  exact ⟨k, c', by simp, hk, hrow.congr fun i hi => by unfold L2.both; rw [if_neg (by omega)]; rfl, ((Below.refl _ _).alloc (Nat.le_refl _) _).trans HB2.out⟩
end Go.Proofs.Ytbafhdinalapoaa
