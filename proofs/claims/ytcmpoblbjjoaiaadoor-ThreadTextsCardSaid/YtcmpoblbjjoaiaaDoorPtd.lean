/- Pointed, the program's and the reference's. -/
import Derived.Test.YtcmpoblbjjoaiaaDoorRun
namespace Go.Proofs.YtcmpoblbjjoaiaaDoor
open Go.RowKit
set_option linter.unusedVariables false
set_option linter.unusedSimpArgs false

/-- The steps until a pointed list begins again. -/
def per (n : Nat) : Nat := if n = 1 then 1 else 2 * n - 2

theorem mod_succ {p : Nat} (k : Nat) (hp : 1 ≤ p) : (k % p + 1 = p ∧ (k + 1) % p = 0) ∨ (k % p + 1 < p ∧ (k + 1) % p = k % p + 1) := by
  have hr : k % p < p := Nat.mod_lt _ (by omega)
  have hk : p * (k / p) + k % p = k := Nat.div_add_mod k p
  rcases Nat.lt_or_ge (k % p + 1) p with h | h
  · refine .inr ⟨h, ?_⟩
    have : k + 1 = p * (k / p) + (k % p + 1) := by omega
    rw [this, Nat.mul_add_mod, Nat.mod_eq_of_lt h]
  · have e : k % p + 1 = p := by omega
    refine .inl ⟨e, ?_⟩
    have : k + 1 = p * (k / p + 1) := by rw [Nat.mul_add]; omega
    rw [this, Nat.mul_mod_right]

structure PS (n p k : Nat) (a st : Int) : Prop where
  at_ : a = ptd p k
  st_ : st = 1 ∨ st = -1
  way : 1 < n → k % p = 0 ∨ (k % p + 1 ≤ n ∧ st = 1) ∨ (n ≤ k % p ∧ st = -1)

theorem ps_zero (n : Nat) (hn : 1 ≤ n) : PS n (per n) 0 0 1 := by
  refine ⟨?_, .inl rfl, fun _ => .inl (by simp)⟩
  simp [ptd]
  omega

theorem ps_step {n k : Nat} {a st : Int} (h : PS n (per n) k a st) (hn : 1 ≤ n) {b1 b2 b3 : Bool} (d1 : decide (a + st < 0) = b1) (d2 : decide ((n : Int) ≤ a + st) = b2) (d3 : decide ((1 : Int) < (n : Int)) = b3) :
    PS n (per n) (k + 1) (if b3 then a + (if b1 || b2 then -st else st) else a) (if b1 || b2 then -st else st) := by
  subst d1 d2 d3
  have hp : 1 ≤ per n := by unfold per; split <;> omega
  have hm := mod_succ k hp
  have hr : k % per n < per n := Nat.mod_lt _ (by omega)
  have ha := h.at_
  have hs := h.st_
  have hw := h.way
  unfold ptd at ha
  have hpe : (n = 1 ∧ per n = 1) ∨ (1 < n ∧ per n + 2 = 2 * n) := by unfold per; split <;> omega
  simp only [Bool.or_eq_true, decide_eq_true_eq]
  generalize hq : per n = p at *
  refine ⟨?_, ?_, ?_⟩
  · unfold ptd
    generalize k % p = r at *
    generalize (k + 1) % p = r' at *
    split <;> (try split) <;> omega
  · split <;> omega
  · intro h1
    have hw := hw h1
    generalize k % p = r at *
    generalize (k + 1) % p = r' at *
    split <;> omega

theorem ps_bd {n k : Nat} {a st : Int} (h : PS n (per n) k a st) (hn : 1 ≤ n) (h4 : n ≤ 400) : 0 ≤ a ∧ a ≤ 800 ∧ -1 ≤ st ∧ st ≤ 1 := by
  have hp : 1 ≤ per n := by unfold per; split <;> omega
  have hp2 : per n ≤ 800 := by unfold per; split <;> omega
  have hr : k % per n < per n := Nat.mod_lt _ (by omega)
  have ha := h.at_
  have hs := h.st_
  unfold ptd at ha
  omega

set_option maxHeartbeats 400000 in
theorem pointed_err (n len : Int) (w : World) (F : Nat → Int) (h : rn n len = false) : Calls Tryd.prog 10 #[.int .i64 n, .int .i64 len] w (LOut w 0 F 2) := by
  have HC := Lib.hid (canrun_is h)
  clear h
  go_enter Tryd.func10, Tryd.ntmps10
  go_wp2_with fail
  refine (HC.out _).mono ?_
  rintro e w1 ⟨rfl, rfl⟩
  go_wp2
  go_ret2
  exact LOut.err (Below.refl _ _)

set_option maxHeartbeats 400000 in
theorem pointed_ok (n len : Nat) (w : World) (h : rn n len = true) (h0 : 1 ≤ n) (h1 : n ≤ 400) (h2 : len ≤ 400) : Calls Tryd.prog 10 #[.int .i64 n, .int .i64 len] w (LOut w len (ptd (per n)) 0) := by
  have hmf := mk_fn
  have hp1 : 1 ≤ per n := by unfold per; split <;> omega
  have hp2 : per n ≤ 800 := by unfold per; split <;> omega
  have hpe : max (1 : Int) (2 * ((n : Int) - 1)) = (per n : Int) := by unfold per; split <;> omega
  have HC := Lib.hid (canrun_is h)
  clear h
  generalize per n = p at *
  have HB := Lib.hid (below_box w (.int .i64 p) 3)
  have HN := Lib.hid (Num.new w p)
  go_enter Tryd.func10, Tryd.ntmps10
  go_wp2_with fail
  refine (HC.out _).mono ?_
  rintro e w1 ⟨rfl, rfl⟩
  go_wp2_with fail
  refine (build_any len (by omega) 33 _ _ _ (pointed_clo HN.out hp1 hp2 len h2) (Go.Proofs.enters_of Tryd.func33 (by kernel_rfl) rfl)).mono ?_
  rintro e w2 ⟨k, rfl, hk, hrow, hb2⟩
  have hz := HB.out.size
  have HF := Lib.hid (LOut.row (c := len) (Nat.le_trans hz hk) hrow (HB.out.trans (hb2.mono hz)))
  clear hk hrow hb2 hz
  go_wp2
  go_ret2
  exact HF.out

end Go.Proofs.YtcmpoblbjjoaiaaDoor
