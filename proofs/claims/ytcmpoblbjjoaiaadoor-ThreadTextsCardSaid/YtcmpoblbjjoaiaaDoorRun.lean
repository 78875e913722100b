/- Straight and Pointed, the program's and the reference's. -/
import Derived.Test.YtcmpoblbjjoaiaaDoorClo
import Derived.Test.YtcmpoblbjjoaiaaDoorOwn
namespace Go.Proofs.YtcmpoblbjjoaiaaDoor
open Go.RowKit
set_option linter.unusedVariables false
set_option linter.unusedSimpArgs false

/-- A list and an error came back; the list's elements lie in a new row of the call's own. -/
def LOut (w : World) (n : Nat) (F : Nat → Int) (err : Int) (e : Ending) (w' : World) : Prop :=
  ∃ A c, e = .returned (.tuple #[.slice A n c, .int .i64 err]) ∧ (A = none → c = 0) ∧ (0 < n → ∃ k, A = some ⟨k, 0, none⟩ ∧ w.heap.size ≤ k ∧ Row w' k n F) ∧ Below w.heap.size w w'
theorem LOut.row {w w' : World} {n k c : Nat} {F : Nat → Int} (hk : w.heap.size ≤ k) (hr : Row w' k n F) (hb : Below w.heap.size w w') :
    LOut w n F 0 (.returned (.tuple #[.slice (some ⟨k, 0, none⟩) n c, .int .i64 0])) w' :=
  ⟨_, _, rfl, (fun h => by cases h), fun _ => ⟨k, rfl, hk, hr⟩, hb⟩
theorem LOut.err {w w' : World} {F : Nat → Int} {err : Int} (hb : Below w.heap.size w w') : LOut w 0 F err (.returned (.tuple #[.slice none 0 0, .int .i64 err])) w' :=
  ⟨_, _, rfl, fun _ => rfl, fun h => absurd h (by omega), hb⟩
theorem LOut.own {w w' : World} {n : Nat} {v : Value} {F : Nat → Int} (h : Own w' w.heap.size v n F) (hb : Below w.heap.size w w') : LOut w n F 0 (.returned (.tuple #[v, .int .i64 0])) w' := by
  obtain ⟨A, c, rfl, h1, h2⟩ := h.out
  exact ⟨A, c, rfl, h1, h2, hb⟩

/-- May a number and a length be those of a list? -/
def rn (n len : Int) : Bool := decide (1 ≤ n) && decide (n ≤ 400) && decide (0 ≤ len) && decide (len ≤ 400)

theorem mk_fn : ∀ (fn : Fn) (first cap : Array Value) (w : World), (Instr.makeFunc fn first cap).run Tryd.prog w = .ok (.func fn first cap) w := fun _ _ _ _ => rfl

set_option maxHeartbeats 1600000 in
theorem canrun_any (n len : Int) (w : World) : Calls Tryd.prog 30 #[.int .i64 n, .int .i64 len] w fun e w' => e = .returned (.bool (rn n len)) ∧ w' = w := by
  unfold rn
  cases h1 : decide (1 ≤ n) <;> cases h2 : decide (n ≤ 400) <;> cases h3 : decide (0 ≤ len) <;> cases h4 : decide (len ≤ 400)
  all_goals
    go_enter Tryd.func30, Tryd.ntmps30
    go_wp2
    go_ret
    exact ⟨rfl, rfl⟩

theorem canrun_is {n len : Int} {b : Bool} (h : rn n len = b) (w : World) : Calls Tryd.prog 30 #[.int .i64 n, .int .i64 len] w fun e w' => e = .returned (.bool b) ∧ w = w' := by
  subst h
  exact (canrun_any n len w).mono fun _ _ h => ⟨h.1, h.2.symm⟩
theorem rn_nat {n len : Int} (h : rn n len = true) : ∃ N L : Nat, n = N ∧ len = L ∧ 1 ≤ N ∧ N ≤ 400 ∧ L ≤ 400 := by
  unfold rn at h
  simp at h
  exact ⟨n.toNat, len.toNat, by omega, by omega, by omega, by omega, by omega⟩

theorem below_box (w : World) (v : Value) (t : TypeId) : Below w.heap.size w (w.alloc (.cells #[v] t)) := (Below.refl _ _).alloc (Nat.le_refl _) _
theorem Num.new (w : World) (v : Int) : Num (w.alloc (.cells #[.int .i64 v] 3)) w.heap.size v := ⟨by simp only [World.cell?, heap_alloc_new]; rfl, by simp⟩

set_option maxHeartbeats 400000 in
theorem straight_err (n len : Int) (w : World) (F : Nat → Int) (h : rn n len = false) : Calls Tryd.prog 9 #[.int .i64 n, .int .i64 len] w (LOut w 0 F 2) := by
  have HC := Lib.hid (canrun_is h)
  have HB := Lib.hid (below_box w (.int .i64 n) 3)
  clear h
  go_enter Tryd.func9, Tryd.ntmps9
  go_wp2_with fail
  refine (HC.out _).mono ?_
  rintro e w1 ⟨rfl, rfl⟩
  go_wp2
  go_ret2
  exact LOut.err HB.out

set_option maxHeartbeats 400000 in
theorem straight_ok (n len : Nat) (w : World) (h : rn n len = true) (h0 : 1 ≤ n) (h1 : n ≤ 400) (h2 : len ≤ 400) : Calls Tryd.prog 9 #[.int .i64 n, .int .i64 len] w (LOut w len (fun i => (i % n : Nat)) 0) := by
  have hmf := mk_fn
  have HC := Lib.hid (canrun_is h)
  have HB := Lib.hid (below_box w (.int .i64 n) 3)
  have HN := Lib.hid (Num.new w n)
  clear h
  go_enter Tryd.func9, Tryd.ntmps9
  go_wp2_with fail
  refine (HC.out _).mono ?_
  rintro e w1 ⟨rfl, rfl⟩
  go_wp2_with fail
  refine (build_any len (by omega) 32 _ _ _ (straight_clo HN.out h0 h1 len h2) (Go.Proofs.enters_of Tryd.func32 (by kernel_rfl) rfl)).mono ?_
  rintro e w2 ⟨k, rfl, hk, hrow, hb2⟩
  have hz := HB.out.size
  have HF := Lib.hid (LOut.row (c := len) (Nat.le_trans hz hk) hrow (HB.out.trans (hb2.mono hz)))
  clear hk hrow hb2 hz
  go_wp2
  go_ret2
  exact HF.out

end Go.Proofs.YtcmpoblbjjoaiaaDoor
