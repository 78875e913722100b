/- Satins: moved, turned, their ends and picks: arithmetic. -/
import Derived.Test.YtmakjdfkldacaaaStl
import Derived.Test.YtmakjdfkldacaaaMva
import Derived.Test.YtmakjdfkldacaaaIss
namespace Go.Proofs.Ytmakjdfkldacaaa
open Go.RowKit
set_option maxRecDepth 100000
set_option linter.unusedVariables false
set_option linter.unusedSimpArgs false

theorem Sat.mt {n m : Nat} {t : Int} {u : Bool} {f f' : Nat → Bool} {a b : Int} (h : Sat n m t u f) (k : Mt n n f n n f' a b) : Sat n m (t + a - m * b) u f' := fun x y => by
  have e := k (x - a) (y - b)
  rw [Int.sub_add_cancel, Int.sub_add_cancel] at e
  rw [← e, h]
  have e2 : x - a - m * (y - b) - t = x - m * y - (t + a - m * b) := by rw [Int.mul_sub]; omega
  rw [e2]
theorem ups_sat {n m : Nat} {t : Int} {u : Bool} {f : Nat → Bool} (h : Sat n m t u f) (hn : 1 ≤ n) : ups n n f n = if u = true then 1 else n - 1 := by
  rw [← h.row hn 0]
  exact cnt_congr fun j _ => (pz_nat n n f j 0).symm
theorem sat_isr {n m : Nat} {t : Int} {u : Bool} {f : Nat → Bool} (h : Sat n m t u f) (hm : mv (n : Nat) (m : Nat) = true) (h5 : 5 ≤ n) : isr n m 1 (ups n n f n) = .returned (.tuple #[.int .i64 (n : Nat), .int .i64 (m : Nat), .bool u, .int .i64 0]) := by
  rw [ups_sat h (by omega)]
  cases u
  · rw [isr_yes ⟨rfl, hm, .inr (by simp; omega)⟩]
    have : ((if (false : Bool) = true then 1 else n - 1) == 1) = false := by simp; omega
    rw [this]
  · show isr n m 1 1 = _
    rw [isr_yes ⟨rfl, hm, .inl rfl⟩]; rfl
/-- The inverse of a move. -/
theorem inv_ex : ∀ n, n < 21 → ∀ m, m < n → 2 ≤ n → Nat.gcd n m = 1 → ∃ k, k < n ∧ m * k % n = 1 := by decide +kernel
theorem inv_iff {n m j i k : Nat} (hj : m * j % n = 1) (hi : i < n) (hk : k < n) : i = m * k % n ↔ k = j * i % n := by
  constructor
  · intro h
    rw [h, Nat.mul_mod_mod, ← Nat.mul_assoc, Nat.mul_comm j m, ← Nat.mod_mul_mod, hj, Nat.one_mul, Nat.mod_eq_of_lt hk]
  · intro h
    rw [h, Nat.mul_mod_mod, ← Nat.mul_assoc, ← Nat.mod_mul_mod, hj, Nat.one_mul, Nat.mod_eq_of_lt hi]
theorem pick_one {n m i : Nat} (hn : 1 ≤ n) : cnt (fun k => stf n m (i * n + k)) n = 1 := by
  rw [cnt_congr (q := fun k => decide (k = m * i % n)) fun k hk => ?_, cnt_eq, if_pos (Nat.mod_lt _ (by omega))]
  unfold stf
  rw [(at_xy hk).1, (at_xy hk).2]
theorem end_one {n m j i : Nat} (hj : m * j % n = 1) (hi : i < n) : cnt (fun k => stf n m (k * n + i)) n = 1 := by
  rw [cnt_congr (q := fun k => decide (k = j * i % n)) fun k hk => ?_, cnt_eq, if_pos (Nat.mod_lt _ (by omega))]
  unfold stf
  rw [(at_xy hi).1, (at_xy hi).2]
  congr 1
  exact propext (inv_iff hj hi hk)
/-- The cells of a satin that is moved by (dx, dy). -/
theorem stf_shift {n m : Nat} (hn : 1 ≤ n) (dx dy : Int) : Sat n m (0 + dx - m * dy) true (fShift n n dx dy (stf n m)) := (stf_sat hn).mt (mt_shift _ hn hn dx dy)
end Go.Proofs.Ytmakjdfkldacaaa
