/- Grid operations that layer 12 calls: Mirror, Same, Count of the program; Not, Mirror, Set, Zero, Both of the reference. -/
import Derived.Test.YthipdfkgeghooaaGb
import Derived.Deep.RegionHeld3
import Derived.Deep.RegionLawGrows
import Derived.Deep.DeepCutAuto
namespace Go.Proofs.Ythipdfkgeghooaa
open Go.RowKit
set_option maxRecDepth 100000
set_option linter.unusedVariables false
set_option linter.unusedSimpArgs false

set_option maxHeartbeats 400000 in
theorem set_any (W H : Int) (k n c : Nat) (x y : Int) (u : Bool) (F : Nat → Bool) (w : World) (hr : Row w k n F) (hm : n ≤ 5000) (hW0 : 0 ≤ W) (hW : W ≤ 64) (hx0 : 0 ≤ x) (hx : x < 64) (hy0 : 0 ≤ y) (hy : y < 64) (hi : (y * W + x).toNat < n) :
    Calls Try.prog 32 #[.agg #[.int .i64 W, .int .i64 H, .slice (some ⟨k, 0, none⟩) n c], .int .i64 x, .int .i64 y, .bool u] w fun e w' => e = .returned (.tuple #[]) ∧ Row w' k n (fun j => if j = (y * W + x).toNat then u else F j) ∧ But k w w' := by
  obtain ⟨h1, h2⟩ := mul_bd hW0 hW hy0 hy
  have h3 : y * W + x < (n : Int) := by omega
  have hc := hr.cell hi
  have hf := hr.free (y * W + x).toNat
  have hl := hr.lt
  have HR := Lib.hid hr
  clear hr
  go_enter Try.func32, Try.ntmps32
  go_wp2
  go_end0
  refine ⟨rfl, ?_, ?_⟩
  · exact (HR.out.set_ _ _).alloc _
  · refine ⟨rfl, rfl, rfl, by simp [World.setCell], fun b hb hne => ?_⟩
    rw [Below.heap_alloc _ _ _ (by simpa [World.setCell] using hb), Below.heap_setCell _ _ _ _ hne]
theorem set_nat (W H : Nat) (k c : Nat) (x y : Int) (u : Bool) (F : Nat → Bool) (w : World) (hr : Row w k (W * H) F) (hW : W ≤ 64) (hH : H ≤ 64) (i j : Nat) (hx : x = i) (hy : y = j) (hi : i < W) (hj : j < H) :
    Calls Try.prog 32 #[.agg #[.int .i64 W, .int .i64 H, .slice (some ⟨k, 0, none⟩) (W * H) c], .int .i64 x, .int .i64 y, .bool u] w fun e w' => e = .returned (.tuple #[]) ∧ Row w' k (W * H) (fun l => if l = j * W + i then u else F l) ∧ But k w w' := by
  subst hx hy
  have h1 := ix_bd hi hj
  have h2 : W * H ≤ 4096 := Nat.mul_le_mul hW hH
  have e : ((j : Int) * (W : Int) + (i : Int)).toNat = j * W + i := by
    have : ((j : Int) * (W : Int) + (i : Int)) = ((j * W + i : Nat) : Int) := by simp
    rw [this, Int.toNat_natCast]
  have h := set_any W H k (W * H) c i j u F w hr (by omega) (by omega) (by omega) (by omega) (by omega) (by omega) (by omega) (by rw [e]; exact h1)
  rw [e] at h
  exact h
set_option maxHeartbeats 400000 in
theorem zero_int (Wi Hi : Int) (W H : Nat) (eW : Wi = W) (eH : Hi = H) (hW : W ≤ 64) (hH : H ≤ 64) (w : World) :
    Calls Try.prog 31 #[.int .i64 Wi, .int .i64 Hi] w fun e w' => ∃ k, e = .returned (.agg #[.int .i64 W, .int .i64 H, .slice (some ⟨k, 0, none⟩) (W * H) (W * H)]) ∧ w.heap.size ≤ k ∧ Row w' k (W * H) (fun _ => false) ∧ Below w.heap.size w w' := by
  subst eW eH
  have hN : W * H ≤ 4096 := Nat.mul_le_mul hW hH
  have hNi : (W : Int) * (H : Int) ≤ 4096 := by have := Int.ofNat_le.2 hN; simpa using this
  have hNi0 : 0 ≤ (W : Int) * (H : Int) := by have := Int.natCast_nonneg (W * H); simpa using this
  have hmk := make_run W H hN
  go_enter Try.func31, Try.ntmps31
  go_wp2
  refine bodyPost_ret (v := .agg #[.int .i64 W, .int .i64 H, .slice (some ⟨w.heap.size + 1, 0, none⟩) (W * H) (W * H)]) (by simp [results, Try.results31, go_sem]) rfl ⟨_, rfl, by omega, ?_, ?_⟩
  · have h := Row.made (w.alloc (.cells #[.int .i64 W, .int .i64 H, .slice (some ⟨w.heap.size + 1, 0, none⟩) (W * H) (W * H)] 57)) (W * H)
    simpa using h
  · exact ((Below.refl _ _).alloc (Nat.le_refl _) _).alloc (by simp) _
theorem drewN_two (w : World) (m n : Nat) : (w.drewN m).drewN n = w.drewN (m + n) := by
  show World.drewN (World.drewN w m) n = _; unfold World.drewN; rw [← Nat.add_assoc]
/-- How many numbers below n have p. -/
def cnt (p : Nat → Bool) : Nat → Nat
  | 0 => 0
  | n + 1 => cnt p n + if p n = true then 1 else 0
theorem cnt_s (p : Nat → Bool) (n : Nat) : cnt p (n + 1) = cnt p n + if p n = true then 1 else 0 := rfl
theorem cnt_yes {p : Nat → Bool} {n : Nat} (h : p n = true) : cnt p (n + 1) = cnt p n + 1 := by rw [cnt_s, if_pos h]
theorem cnt_no {p : Nat → Bool} {n : Nat} (h : p n = false) : cnt p (n + 1) = cnt p n := by rw [cnt_s, if_neg (by rw [h]; decide)]; rfl
theorem cnt_le (p : Nat → Bool) (n : Nat) : cnt p n ≤ n := by
  induction n with
  | zero => exact Nat.le_refl 0
  | succ n ih => rw [cnt_s]; split <;> omega
theorem cnt_imp {p q : Nat → Bool} {n : Nat} (h : ∀ j, j < n → p j = true → q j = true) : cnt p n ≤ cnt q n := by
  induction n with
  | zero => exact Nat.le_refl 0
  | succ n ih =>
    have := ih fun j hj => h j (by omega)
    rw [cnt_s, cnt_s]
    by_cases e : p n = true
    · rw [if_pos e, if_pos (h n (by omega) e)]; omega
    · rw [if_neg e]; omega
theorem cnt_congr {p q : Nat → Bool} {n : Nat} (h : ∀ j, j < n → p j = q j) : cnt p n = cnt q n :=
  Nat.le_antisymm (cnt_imp fun j hj e => by rw [← h j hj]; exact e) (cnt_imp fun j hj e => by rw [h j hj]; exact e)
theorem cnt_none {p : Nat → Bool} {n : Nat} (h : ∀ j, j < n → p j = false) : cnt p n = 0 := by
  induction n with
  | zero => rfl
  | succ n ih => rw [cnt_no (h n (by omega)), ih fun j hj => h j (by omega)]
end Go.Proofs.Ythipdfkgeghooaa
