/- What the program and the reference hand back of Not, And and Or, side by side. -/
import Derived.Test.YtnamjpdbadjgpaaAndor
import Derived.Test.YtnamjpdbadjgpaaJoin
namespace Go.Proofs.Ytnamjpdbadjgpaa
open Go.RowKit
set_option linter.unusedVariables false
set_option linter.unusedSimpArgs false

/-- A grid and an error came back; the grid's cells lie in a new row of the call's own. -/
def Out (w : World) (W H : Int) (n : Nat) (F : Nat → Bool) (err : Int) (e : Ending) (w' : World) : Prop :=
  ∃ A c, e = .returned (.tuple #[.agg #[.int .i64 W, .int .i64 H, .slice A n c], .int .i64 err]) ∧ (0 < n → ∃ k, A = some ⟨k, 0, none⟩ ∧ w.heap.size ≤ k ∧ Row w' k n F) ∧ Below w.heap.size w w'

theorem OkGrid.out {w w' : World} {W H : Nat} {F : Nat → Bool} {e : Ending} (h : OkGrid w W H F e w') : Out w W H (W * H) F 0 e w' := by
  obtain ⟨k, he, hk, hr, hb⟩ := h
  exact ⟨_, _, he, fun _ => ⟨k, rfl, hk, hr⟩, hb⟩
theorem OkRef.out {w w' : World} {W H : Nat} {F : Nat → Bool} {e : Ending} (h : OkRef w W H F e w') : Out w W H (W * H) F 0 e w' := by
  obtain ⟨k, d, he, hk, hr, hb⟩ := h
  exact ⟨_, _, he, fun _ => ⟨k, rfl, hk, hr⟩, hb⟩
theorem ErrGrid.out {w w' : World} {err : Int} {e : Ending} (h : ErrGrid w err e w') : Out w 0 0 0 (fun _ => false) err e w' :=
  ⟨_, _, h.1, fun h => absurd h (by omega), h.2⟩

/-- A function of one grid, called at any later world, hands this back. -/
def Gets (w : World) (k : Nat) (args : Array Value) (W H : Int) (n : Nat) (F : Nat → Bool) (err : Int) : Prop :=
  ∀ w', Below w.heap.size w w' → Calls Try.prog k args w' (Out w' W H n F err)

theorem chk_nat {W H : Int} {n : Nat} (h : chk W H n = 0) : ∃ U V : Nat, W = U ∧ H = V ∧ n = U * V ∧ 1 ≤ U ∧ U ≤ 64 ∧ 1 ≤ V ∧ V ≤ 64 := by
  obtain ⟨h1, h2, h3, h4, h5⟩ := chk_ok h
  refine ⟨W.toNat, H.toNat, by omega, by omega, ?_, by omega, by omega, by omega, by omega⟩
  have e1 : ((W.toNat : Nat) : Int) = W := by omega
  have e2 : ((H.toNat : Nat) : Int) = H := by omega
  have e3 : ((W.toNat * H.toNat : Nat) : Int) = W * H := by rw [Int.natCast_mul, e1, e2]
  omega

theorem prod_le {U V : Nat} (hU : U ≤ 64) (hV : V ≤ 64) : U * V ≤ 4200 := Nat.le_trans (Nat.mul_le_mul hU hV) (by omega)

section
variable (W H : Int) (A : Option Addr) (n c : Nat) (f : Nat → Bool) (w : World) (hn : n ≤ 4200) (hr : Holds w w.heap.size A n f)
include hn hr
theorem not_pair : ∃ (V U : Int) (m : Nat) (F : Nat → Bool) (err : Int), m ≤ 4200 ∧ Gets w 12 #[.agg #[.int .i64 W, .int .i64 H, .slice A n c]] V U m F err ∧ Gets w 40 #[.agg #[.int .i64 W, .int .i64 H, .slice A n c]] V U m F err := by
  by_cases h0 : chk W H n = 0
  · obtain ⟨P, Q, rfl, rfl, rfl, p0, p1, q0, q1⟩ := chk_nat h0
    exact ⟨P, Q, P * Q, _, 0, prod_le p1 q1, fun w' hb => (not_ok P Q A c f w' ((hr.below hb).more hb.size) p0 p1 q0 q1).mono fun _ _ h => h.out,
      fun w' hb => (rnot_ok P Q A c f w' ((hr.below hb).more hb.size) p0 p1 q0 q1).mono fun _ _ h => h.out⟩
  · have hne : (chk W H n != 0) = true := by simp [h0]
    exact ⟨0, 0, 0, _, _, by omega, fun w' _ => (not_err W H A n c w' _ hn rfl hne).mono fun _ _ h => h.out, fun w' _ => (rnot_err W H A n c w' _ hn rfl hne).mono fun _ _ h => h.out⟩
end

theorem and_pair (W H X Y : Int) (A D : Option Addr) (n c m d : Nat) (f g : Nat → Bool) (w : World) (hn : n ≤ 4200) (hm : m ≤ 4200) (hr : Holds w w.heap.size A n f) (hs : Holds w w.heap.size D m g) :
    ∃ (V U : Int) (l : Nat) (F : Nat → Bool) (err : Int), l ≤ 4200 ∧ Gets w 16 #[.agg #[.int .i64 W, .int .i64 H, .slice A n c], .agg #[.int .i64 X, .int .i64 Y, .slice D m d]] V U l F err ∧ Gets w 41 #[.agg #[.int .i64 W, .int .i64 H, .slice A n c], .agg #[.int .i64 X, .int .i64 Y, .slice D m d]] V U l F err := by
  by_cases h0 : chk W H n = 0
  · by_cases h1 : chk X Y m = 0
    · by_cases h2 : W = X ∧ H = Y
      · obtain ⟨P, Q, rfl, rfl, rfl, p0, p1, q0, q1⟩ := chk_nat h0
        obtain ⟨P', Q', e1, e2, rfl, _, _, _, _⟩ := chk_nat h1
        obtain ⟨rfl, rfl⟩ := h2
        obtain rfl : P = P' := by omega
        obtain rfl : Q = Q' := by omega
        exact ⟨P, Q, P * Q, _, 0, prod_le p1 q1,
          fun w' hb => (and_of_ok P Q P Q A D (P * Q) (P * Q) c d w' P Q _ fun w2 hb2 => comb_and_ok P Q A D c d f g w2 (((hr.below hb).below (hb2.mono hb.size)).more (Nat.le_trans hb.size hb2.size)) (((hs.below hb).below (hb2.mono hb.size)).more (Nat.le_trans hb.size hb2.size)) p0 p1 q0 q1).mono fun _ _ h => h.out,
          fun w' hb => (rand_of_ok P Q P Q A D (P * Q) (P * Q) c d w' P Q _ fun w2 hb2 => join_and P Q A D c d f g w2 (((hr.below hb).below (hb2.mono hb.size)).more (Nat.le_trans hb.size hb2.size)) (((hs.below hb).below (hb2.mono hb.size)).more (Nat.le_trans hb.size hb2.size)) p0 p1 q0 q1).mono fun _ _ h => h.out⟩
      · exact ⟨0, 0, 0, _, 2, by omega, fun w' _ => (and_of_err W H X Y A D n m c d w' 2 fun w2 _ => comb_arg W H X Y A D n m c d 53 w2 hn h0 hm h1 h2).mono fun _ _ h => h.out,
          fun w' _ => (rand_of_err W H X Y A D n m c d w' 2 fun w2 _ => join_arg W H X Y A D n m c d false w2 hn h0 hm h1 h2).mono fun _ _ h => h.out⟩
    · have hne : (chk X Y m != 0) = true := by simp [h1]
      exact ⟨0, 0, 0, _, _, by omega, fun w' _ => (and_of_err W H X Y A D n m c d w' _ fun w2 _ => comb_err2 W H X Y A D n m c d 53 w2 _ hn h0 hm rfl hne).mono fun _ _ h => h.out,
        fun w' _ => (rand_of_err W H X Y A D n m c d w' _ fun w2 _ => join_err W H X Y A D n m c d false w2 _ hne fun w3 => both_snd W H X Y A D n m c d w3 _ hn h0 hm rfl).mono fun _ _ h => h.out⟩
  · have hne : (chk W H n != 0) = true := by simp [h0]
    exact ⟨0, 0, 0, _, _, by omega, fun w' _ => (and_of_err W H X Y A D n m c d w' _ fun w2 _ => comb_err1 W H X Y A D n m c d 53 w2 _ hn rfl hne).mono fun _ _ h => h.out,
      fun w' _ => (rand_of_err W H X Y A D n m c d w' _ fun w2 _ => join_err W H X Y A D n m c d false w2 _ hne fun w3 => both_err W H X Y A D n m c d w3 _ hn rfl hne).mono fun _ _ h => h.out⟩

theorem or_pair (W H X Y : Int) (A D : Option Addr) (n c m d : Nat) (f g : Nat → Bool) (w : World) (hn : n ≤ 4200) (hm : m ≤ 4200) (hr : Holds w w.heap.size A n f) (hs : Holds w w.heap.size D m g) :
    ∃ (V U : Int) (l : Nat) (F : Nat → Bool) (err : Int), l ≤ 4200 ∧ Gets w 17 #[.agg #[.int .i64 W, .int .i64 H, .slice A n c], .agg #[.int .i64 X, .int .i64 Y, .slice D m d]] V U l F err ∧ Gets w 42 #[.agg #[.int .i64 W, .int .i64 H, .slice A n c], .agg #[.int .i64 X, .int .i64 Y, .slice D m d]] V U l F err := by
  by_cases h0 : chk W H n = 0
  · by_cases h1 : chk X Y m = 0
    · by_cases h2 : W = X ∧ H = Y
      · obtain ⟨P, Q, rfl, rfl, rfl, p0, p1, q0, q1⟩ := chk_nat h0
        obtain ⟨P', Q', e1, e2, rfl, _, _, _, _⟩ := chk_nat h1
        obtain ⟨rfl, rfl⟩ := h2
        obtain rfl : P = P' := by omega
        obtain rfl : Q = Q' := by omega
        exact ⟨P, Q, P * Q, _, 0, prod_le p1 q1,
          fun w' hb => (or_of_ok P Q P Q A D (P * Q) (P * Q) c d w' P Q _ fun w2 hb2 => comb_or_ok P Q A D c d f g w2 (((hr.below hb).below (hb2.mono hb.size)).more (Nat.le_trans hb.size hb2.size)) (((hs.below hb).below (hb2.mono hb.size)).more (Nat.le_trans hb.size hb2.size)) p0 p1 q0 q1).mono fun _ _ h => h.out,
          fun w' hb => (ror_of_ok P Q P Q A D (P * Q) (P * Q) c d w' P Q _ fun w2 hb2 => join_or P Q A D c d f g w2 (((hr.below hb).below (hb2.mono hb.size)).more (Nat.le_trans hb.size hb2.size)) (((hs.below hb).below (hb2.mono hb.size)).more (Nat.le_trans hb.size hb2.size)) p0 p1 q0 q1).mono fun _ _ h => h.out⟩
      · exact ⟨0, 0, 0, _, 2, by omega, fun w' _ => (or_of_err W H X Y A D n m c d w' 2 fun w2 _ => comb_arg W H X Y A D n m c d 54 w2 hn h0 hm h1 h2).mono fun _ _ h => h.out,
          fun w' _ => (ror_of_err W H X Y A D n m c d w' 2 fun w2 _ => join_arg W H X Y A D n m c d true w2 hn h0 hm h1 h2).mono fun _ _ h => h.out⟩
    · have hne : (chk X Y m != 0) = true := by simp [h1]
      exact ⟨0, 0, 0, _, _, by omega, fun w' _ => (or_of_err W H X Y A D n m c d w' _ fun w2 _ => comb_err2 W H X Y A D n m c d 54 w2 _ hn h0 hm rfl hne).mono fun _ _ h => h.out,
        fun w' _ => (ror_of_err W H X Y A D n m c d w' _ fun w2 _ => join_err W H X Y A D n m c d true w2 _ hne fun w3 => both_snd W H X Y A D n m c d w3 _ hn h0 hm rfl).mono fun _ _ h => h.out⟩
  · have hne : (chk W H n != 0) = true := by simp [h0]
    exact ⟨0, 0, 0, _, _, by omega, fun w' _ => (or_of_err W H X Y A D n m c d w' _ fun w2 _ => comb_err1 W H X Y A D n m c d 54 w2 _ hn rfl hne).mono fun _ _ h => h.out,
      fun w' _ => (ror_of_err W H X Y A D n m c d w' _ fun w2 _ => join_err W H X Y A D n m c d true w2 _ hne fun w3 => both_err W H X Y A D n m c d w3 _ hn rfl hne).mono fun _ _ h => h.out⟩

/-- Two grids with the same sides and cells are the same. -/
theorem rsame_eq (W H : Int) (A D : Option Addr) (n c d : Nat) (f : Nat → Bool) (w : World) (hn : n ≤ 4200) (hr : Holds w w.heap.size A n f) (hs : Holds w w.heap.size D n f) :
    Calls Try.prog 32 #[.agg #[.int .i64 W, .int .i64 H, .slice A n c], .agg #[.int .i64 W, .int .i64 H, .slice D n d]] w fun e w' => e = .returned (.bool true) ∧ Below w.heap.size w w' := by
  have h := rsame_loop W H W H A D n c d f f w (by omega) rfl rfl hr hs
  have e : decide (∀ i, i < n → f i = f i) = true := by simp
  rw [e] at h
  exact h
end Go.Proofs.Ytnamjpdbadjgpaa
