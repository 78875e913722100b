/- The function values that the program hands to 'build': what each one answers. -/
import Derived.Test.YtcmpoblbjjoaiaaDoorBld
import Derived.Deep.RegionHeld3
import Derived.StillTailTactics
namespace Go.Proofs.YtcmpoblbjjoaiaaDoor
open Go.RowKit
set_option linter.unusedVariables false
set_option linter.unusedSimpArgs false

/-- A captured number in a variable of its own. -/
def Num (w : World) (g : Nat) (v : Int) : Prop := w.cell? ⟨g, 0, none⟩ = some (.int .i64 v) ∧ g < w.heap.size
theorem Num.below {w w' : World} {g : Nat} {v : Int} (h : Num w g v) (hb : Below w.heap.size w w') : Num w' g v :=
  ⟨(hb.cell (p := ⟨g, 0, none⟩) h.2).trans h.1, Nat.lt_of_lt_of_le h.2 hb.size⟩
/-- A captured list in a variable of its own. -/
structure Lst (w : World) (g : Nat) (A : Option Addr) (n c : Nat) (f : Nat → Int) : Prop where
  box : w.cell? ⟨g, 0, none⟩ = some (.slice A n c)
  lt : g < w.heap.size
  cells : Holds w w.heap.size A n f
theorem Lst.below {w w' : World} {g n c : Nat} {A : Option Addr} {f : Nat → Int} (h : Lst w g A n c f) (hb : Below w.heap.size w w') : Lst w' g A n c f :=
  ⟨(hb.cell (p := ⟨g, 0, none⟩) h.lt).trans h.box, Nat.lt_of_lt_of_le h.lt hb.size, (h.cells.below hb).more hb.size⟩

set_option maxHeartbeats 400000 in
theorem straight_clo {w : World} {g n : Nat} (h : Num w g n) (h0 : 1 ≤ n) (h1 : n ≤ 400) (N : Nat) (hN : N ≤ 400) :
    Gives 32 #[.pointer (some ⟨g, 0, none⟩)] w N (fun x => (x % n : Nat)) := by
  intro w1 x hb hx
  obtain ⟨q0, q1⟩ := h.below hb
  have z1 : ¬ n = 0 := by omega
  have z3 : (x : Int).tmod (n : Int) = (x : Int) % (n : Int) := Int.tmod_eq_emod_of_nonneg (by omega)
  go_enter Tryd.func32, Tryd.ntmps32
  go_wp2
  go_ret
  exact ⟨rfl, Below.refl _ _⟩

set_option maxHeartbeats 400000 in
theorem tile_clo {w : World} {g : Nat} {A : Option Addr} {n c : Nat} {f : Nat → Int} (h : Lst w g A n c f) (h1 : n ≤ 400) (N : Nat) (hN : N ≤ 400) (h0 : 0 < N → 1 ≤ n) :
    Gives 36 #[.pointer (some ⟨g, 0, none⟩)] w N (fun x => f (x % n)) := by
  intro w1 x hb hx
  have h2 := h.below hb
  have hn : 1 ≤ n := h0 (by omega)
  obtain ⟨b, o, rfl, hlt, hc⟩ := h2.cells (by omega)
  have q0 := h2.box
  have m1 : x % n < n := Nat.mod_lt _ (by omega)
  have c1 := hc (x % n) m1
  clear hc
  have z1 : ¬ n = 0 := by omega
  have z3 : (x : Int).tmod (n : Int) = ((x % n : Nat) : Int) := by rw [Int.tmod_eq_emod_of_nonneg (by omega)]; simp
  have z4 : ((x % n : Nat) : Int) < (n : Int) := by omega
  show Calls _ _ _ _ (fun e w' => e = Ending.returned (.int .i64 (f (x % n))) ∧ Below w1.heap.size w1 w')
  generalize x % n = r at *
  go_enter Tryd.func36, Tryd.ntmps36
  go_wp2
  go_quiet (fail)
  go_wp2
  go_ret
  exact ⟨rfl, Go.Proofs.below_drewN' (Below.refl _ _) _⟩

set_option maxHeartbeats 400000 in
theorem rev_clo {w : World} {g : Nat} {A : Option Addr} {n c : Nat} {f : Nat → Int} (h : Lst w g A n c f) (h1 : n ≤ 400) :
    Gives 37 #[.pointer (some ⟨g, 0, none⟩)] w n (fun x => f (n - 1 - x)) := by
  intro w1 x hb hx
  have h2 := h.below hb
  obtain ⟨b, o, rfl, hlt, hc⟩ := h2.cells (by omega)
  have q0 := h2.box
  have m1 : n - 1 - x < n := by omega
  have c1 := hc (n - 1 - x) m1
  clear hc
  have z4 : ((n : Int) - 1 - (x : Int)).toNat = n - 1 - x := by omega
  go_enter Tryd.func37, Tryd.ntmps37
  go_wp2
  go_ret
  exact ⟨rfl, Below.refl _ _⟩

/-- The place in a pointed list. -/
def ptd (p : Nat) (x : Nat) : Int := min ((x % p : Nat) : Int) ((p : Int) - ((x % p : Nat) : Int))

set_option maxHeartbeats 400000 in
theorem pointed_clo {w : World} {g p : Nat} (h : Num w g p) (h0 : 1 ≤ p) (h1 : p ≤ 800) (N : Nat) (hN : N ≤ 400) :
    Gives 33 #[.pointer (some ⟨g, 0, none⟩)] w N (ptd p) := by
  intro w1 x hb hx
  obtain ⟨q0, q1⟩ := h.below hb
  have z1 : ¬ p = 0 := by omega
  have m1 : x % p < p := Nat.mod_lt _ (by omega)
  have z3 : (x : Int).tmod (p : Int) = ((x % p : Nat) : Int) := by rw [Int.tmod_eq_emod_of_nonneg (by omega)]; simp
  show Calls _ _ _ _ (fun e w' => e = Ending.returned (.int .i64 (min ((x % p : Nat) : Int) ((p : Int) - ((x % p : Nat) : Int)))) ∧ Below w1.heap.size w1 w')
  generalize x % p = r at *
  go_enter Tryd.func33, Tryd.ntmps33
  go_wp2
  go_quiet (fail)
  go_wp2
  go_ret
  exact ⟨rfl, Go.Proofs.below_drewN' (Below.refl _ _) _⟩
end Go.Proofs.YtcmpoblbjjoaiaaDoor
