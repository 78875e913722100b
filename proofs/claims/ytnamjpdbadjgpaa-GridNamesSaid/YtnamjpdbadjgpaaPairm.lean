/- What the program and the reference hand back of Turn, Mirror, Shift, Tile and Part, side by side. -/
import Derived.Test.YtnamjpdbadjgpaaPair
import Derived.Test.YtnamjpdbadjgpaaRmir
import Derived.Test.YtnamjpdbadjgpaaRtile
import Derived.Test.YtnamjpdbadjgpaaRpart
import Derived.Test.YtnamjpdbadjgpaaRshf
namespace Go.Proofs.Ytnamjpdbadjgpaa
open Go.RowKit
set_option linter.unusedVariables false
set_option linter.unusedSimpArgs false

theorem rpart_arg (W H : Nat) (A : Option Addr) (c : Nat) (px py pw ph : Int) (w : World) (hW0 : 1 ≤ W) (hW : W ≤ 64) (hH0 : 1 ≤ H) (hH : H ≤ 64)
    (h : ¬ ((0 ≤ px ∧ 1 ≤ pw ∧ pw ≤ W - px) ∧ (0 ≤ py ∧ 1 ≤ ph ∧ ph ≤ H - py))) :
    Calls Try.prog 39 #[.agg #[.int .i64 W, .int .i64 H, .slice A (W * H) c], .int .i64 px, .int .i64 py, .int .i64 pw, .int .i64 ph] w (ErrGrid w 2) := by
  by_cases h0 : px < 0
  · exact rpart_arg0 W H A c px py pw ph w hW0 hW hH0 hH h0
  by_cases h1 : (W : Int) ≤ px
  · exact rpart_arg1 W H A c px py pw ph w hW0 hW hH0 hH (by omega) h1
  by_cases h2 : py < 0
  · exact rpart_arg2 W H A c px py pw ph w hW0 hW hH0 hH (by omega) (by omega) h2
  by_cases h3 : (H : Int) ≤ py
  · exact rpart_arg3 W H A c px py pw ph w hW0 hW hH0 hH (by omega) (by omega) (by omega) h3
  by_cases h4 : pw < 1
  · exact rpart_arg4 W H A c px py pw ph w hW0 hW hH0 hH (by omega) (by omega) (by omega) (by omega) h4
  by_cases h5 : (W : Int) - px < pw
  · exact rpart_arg5 W H A c px py pw ph w hW0 hW hH0 hH (by omega) (by omega) (by omega) (by omega) (by omega) h5
  by_cases h6 : ph < 1
  · exact rpart_arg6 W H A c px py pw ph w hW0 hW hH0 hH (by omega) (by omega) (by omega) (by omega) (by omega) (by omega) h6
  by_cases h7 : (H : Int) - py < ph
  · exact rpart_arg7 W H A c px py pw ph w hW0 hW hH0 hH (by omega) (by omega) (by omega) (by omega) (by omega) (by omega) (by omega) h7
  exact absurd (by omega) h

theorem turn_pair (W H : Int) (A : Option Addr) (n c : Nat) (f : Nat → Bool) (w : World) (hn : n ≤ 4200) (hr : Holds w w.heap.size A n f) :
    ∃ (V U : Int) (m : Nat) (F : Nat → Bool) (err : Int), m ≤ 4200 ∧ Gets w 34 #[.agg #[.int .i64 W, .int .i64 H, .slice A n c]] V U m F err ∧ Gets w 35 #[.agg #[.int .i64 W, .int .i64 H, .slice A n c]] V U m F err := by
  by_cases h0 : chk W H n = 0
  · obtain ⟨P, Q, rfl, rfl, rfl, p0, p1, q0, q1⟩ := chk_nat h0
    have HH := fun (w' : World) (hb : Below w.heap.size w w') => (hr.below hb).more hb.size
    exact ⟨Q, P, Q * P, _, 0, prod_le q1 p1, fun w' hb => (turn_ok P Q A c f w' (HH w' hb) p0 p1 q0 q1).mono fun _ _ h => h.out, fun w' hb => (rturn_ok P Q A c f w' (HH w' hb) p0 p1 q0 q1).mono fun _ _ h => h.out⟩
  · have hne : (chk W H n != 0) = true := by simp [h0]
    exact ⟨0, 0, 0, _, _, by omega, fun w' _ => (turn_err W H A n c  w' _ hn rfl hne).mono fun _ _ h => h.out, fun w' _ => (rturn_err W H A n c  w' _ hn rfl hne).mono fun _ _ h => h.out⟩

theorem mirror_pair (W H : Int) (A : Option Addr) (n c : Nat) (f : Nat → Bool) (axis : Int) (w : World) (hn : n ≤ 4200) (hr : Holds w w.heap.size A n f) :
    ∃ (V U : Int) (m : Nat) (F : Nat → Bool) (err : Int), m ≤ 4200 ∧ Gets w 13 #[.agg #[.int .i64 W, .int .i64 H, .slice A n c], .int .i64 axis] V U m F err ∧ Gets w 36 #[.agg #[.int .i64 W, .int .i64 H, .slice A n c], .int .i64 axis] V U m F err := by
  by_cases h0 : chk W H n = 0
  · obtain ⟨P, Q, rfl, rfl, rfl, p0, p1, q0, q1⟩ := chk_nat h0
    have HH := fun (w' : World) (hb : Below w.heap.size w w') => (hr.below hb).more hb.size
    by_cases a0 : axis = 0
    · subst a0
      exact ⟨P, Q, P * Q, _, 0, prod_le p1 q1, fun w' hb => (mirror_ok0 P Q A c f w' (HH w' hb) p0 p1 q0 q1).mono fun _ _ h => h.out, fun w' hb => (rmirror_ok0 P Q A c f w' (HH w' hb) p0 p1 q0 q1).mono fun _ _ h => h.out⟩
    by_cases a1 : axis = 1
    · subst a1
      exact ⟨P, Q, P * Q, _, 0, prod_le p1 q1, fun w' hb => (mirror_ok1 P Q A c f w' (HH w' hb) p0 p1 q0 q1).mono fun _ _ h => h.out, fun w' hb => (rmirror_ok1 P Q A c f w' (HH w' hb) p0 p1 q0 q1).mono fun _ _ h => h.out⟩
    exact ⟨0, 0, 0, _, 2, by omega, fun w' _ => (mirror_arg P Q A c axis w' p0 p1 q0 q1 a0 a1).mono fun _ _ h => h.out, fun w' _ => (rmirror_arg P Q A c axis w' p0 p1 q0 q1 a0 a1).mono fun _ _ h => h.out⟩
  · have hne : (chk W H n != 0) = true := by simp [h0]
    exact ⟨0, 0, 0, _, _, by omega, fun w' _ => (mirror_err W H A n c axis w' _ hn rfl hne).mono fun _ _ h => h.out, fun w' _ => (rmirror_err W H A n c axis w' _ hn rfl hne).mono fun _ _ h => h.out⟩

theorem shift_pair (W H : Int) (A : Option Addr) (n c : Nat) (f : Nat → Bool) (dx : Int) (dy : Int) (w : World) (hn : n ≤ 4200) (hr : Holds w w.heap.size A n f) (x0 : -9223372036854775808 ≤ dx) (x1 : dx ≤ 9223372036854775807) (y0 : -9223372036854775808 ≤ dy) (y1 : dy ≤ 9223372036854775807) :
    ∃ (V U : Int) (m : Nat) (F : Nat → Bool) (err : Int), m ≤ 4200 ∧ Gets w 19 #[.agg #[.int .i64 W, .int .i64 H, .slice A n c], .int .i64 dx, .int .i64 dy] V U m F err ∧ Gets w 37 #[.agg #[.int .i64 W, .int .i64 H, .slice A n c], .int .i64 dx, .int .i64 dy] V U m F err := by
  by_cases h0 : chk W H n = 0
  · obtain ⟨P, Q, rfl, rfl, rfl, p0, p1, q0, q1⟩ := chk_nat h0
    have HH := fun (w' : World) (hb : Below w.heap.size w w') => (hr.below hb).more hb.size
    exact ⟨P, Q, P * Q, _, 0, prod_le p1 q1, fun w' hb => (shift_ok P Q A c f dx dy w' (HH w' hb) p0 p1 q0 q1 x0 x1 y0 y1).mono fun _ _ h => h.out, fun w' hb => (rshift_ok P Q A c f dx dy w' (HH w' hb) p0 p1 q0 q1 x0 x1 y0 y1).mono fun _ _ h => h.out⟩
  · have hne : (chk W H n != 0) = true := by simp [h0]
    exact ⟨0, 0, 0, _, _, by omega, fun w' _ => (shift_err W H A n c dx dy w' _ hn rfl hne).mono fun _ _ h => h.out, fun w' _ => (rshift_err W H A n c dx dy w' _ hn rfl hne).mono fun _ _ h => h.out⟩

theorem tile_pair (W H : Int) (A : Option Addr) (n c : Nat) (f : Nat → Bool) (nx : Int) (ny : Int) (w : World) (hn : n ≤ 4200) (hr : Holds w w.heap.size A n f) :
    ∃ (V U : Int) (m : Nat) (F : Nat → Bool) (err : Int), m ≤ 4200 ∧ Gets w 14 #[.agg #[.int .i64 W, .int .i64 H, .slice A n c], .int .i64 nx, .int .i64 ny] V U m F err ∧ Gets w 38 #[.agg #[.int .i64 W, .int .i64 H, .slice A n c], .int .i64 nx, .int .i64 ny] V U m F err := by
  by_cases h0 : chk W H n = 0
  · obtain ⟨P, Q, rfl, rfl, rfl, p0, p1, q0, q1⟩ := chk_nat h0
    have HH := fun (w' : World) (hb : Below w.heap.size w w') => (hr.below hb).more hb.size
    by_cases a1 : nx < 1
    · skip
      exact ⟨0, 0, 0, _, 2, by omega, fun w' _ => (tile_arg1 P Q A c nx ny w' p0 p1 q0 q1 a1).mono fun _ _ h => h.out, fun w' _ => (rtile_arg1 P Q A c nx ny w' p0 p1 q0 q1 a1).mono fun _ _ h => h.out⟩
    by_cases a2 : ny < 1
    · skip
      exact ⟨0, 0, 0, _, 2, by omega, fun w' _ => (tile_arg2 P Q A c nx ny w' p0 p1 q0 q1 a1 a2).mono fun _ _ h => h.out, fun w' _ => (rtile_arg2 P Q A c nx ny w' p0 p1 q0 q1 a1 a2).mono fun _ _ h => h.out⟩
    obtain ⟨N, rfl⟩ : ∃ N : Nat, nx = N := ⟨nx.toNat, by omega⟩
    obtain ⟨M, rfl⟩ : ∃ M : Nat, ny = M := ⟨ny.toNat, by omega⟩
    have RM : ¬ (N * P ≤ 64 ∧ M * Q ≤ 64) → ∀ w', Calls Try.prog 38 #[.agg #[.int .i64 P, .int .i64 Q, .slice A (P * Q) c], .int .i64 N, .int .i64 M] w' (ErrGrid w' 4) := by
      intro hno w'
      by_cases b1 : (64 : Int) < (N : Int)
      · exact rtile_many1 P Q A c N M w' p0 p1 q0 q1 a1 a2 b1
      by_cases b2 : (64 : Int) < (M : Int)
      · exact rtile_many2 P Q A c N M w' p0 p1 q0 q1 a1 a2 (by omega) b2
      by_cases b3 : (64 : Int) < (N : Int) * (P : Int)
      · exact rtile_many3 P Q A c N M w' p0 p1 q0 q1 a1 a2 (by omega) (by omega) b3
      · have e1 : ((N * P : Nat) : Int) = (N : Int) * (P : Int) := by simp
        have e2 : ((M * Q : Nat) : Int) = (M : Int) * (Q : Int) := by simp
        exact rtile_many4 P Q A c N M w' p0 p1 q0 q1 a1 a2 (by omega) (by omega) (by omega) (by omega)
    by_cases b1 : (64 : Int) / (P : Int) < (N : Int)
    · have hx : ¬ N * P ≤ 64 := fun h => ((quo_le (n := N) p0).2 h) b1
      exact ⟨0, 0, 0, _, 4, by omega, fun w' _ => (tile_many1 P Q A c N M w' p0 p1 q0 q1 a1 a2 b1).mono fun _ _ h => h.out, fun w' _ => (RM (fun h => hx h.1) w').mono fun _ _ h => h.out⟩
    have hx := (quo_le (n := N) p0).1 b1
    by_cases b2 : (64 : Int) / (Q : Int) < (M : Int)
    · have hy : ¬ M * Q ≤ 64 := fun h => ((quo_le (n := M) q0).2 h) b2
      exact ⟨0, 0, 0, _, 4, by omega, fun w' _ => (tile_many2 P Q A c N M w' p0 p1 q0 q1 a1 a2 b1 b2).mono fun _ _ h => h.out, fun w' _ => (RM (fun h => hy h.2) w').mono fun _ _ h => h.out⟩
    have hy := (quo_le (n := M) q0).1 b2
    have hN : 1 ≤ N := by omega
    have hM : 1 ≤ M := by omega
    exact ⟨((N * P : Nat) : Int), ((M * Q : Nat) : Int), N * P * (M * Q), _, 0, prod_le hx hy, fun w' hb => (tile_ok P Q A c N M w' p0 p1 q0 q1 f (HH w' hb) hN hM hx hy).mono fun _ _ h => h.out, fun w' hb => (rtile_ok P Q A c f N M (N * P) (M * Q) w' (HH w' hb) p0 p1 q0 q1 hN hM rfl rfl hx hy (Nat.mul_pos hN p0)).mono fun _ _ h => h.out⟩
  · have hne : (chk W H n != 0) = true := by simp [h0]
    exact ⟨0, 0, 0, _, _, by omega, fun w' _ => (tile_err W H A n c nx ny w' _ hn rfl hne).mono fun _ _ h => h.out, fun w' _ => (rtile_err W H A n c nx ny w' _ hn rfl hne).mono fun _ _ h => h.out⟩

theorem part_pair (W H : Int) (A : Option Addr) (n c : Nat) (f : Nat → Bool) (px : Int) (py : Int) (pw : Int) (ph : Int) (w : World) (hn : n ≤ 4200) (hr : Holds w w.heap.size A n f) (x1 : px ≤ 9223372036854775807) (y1 : py ≤ 9223372036854775807) :
    ∃ (V U : Int) (m : Nat) (F : Nat → Bool) (err : Int), m ≤ 4200 ∧ Gets w 15 #[.agg #[.int .i64 W, .int .i64 H, .slice A n c], .int .i64 px, .int .i64 py, .int .i64 pw, .int .i64 ph] V U m F err ∧ Gets w 39 #[.agg #[.int .i64 W, .int .i64 H, .slice A n c], .int .i64 px, .int .i64 py, .int .i64 pw, .int .i64 ph] V U m F err := by
  by_cases h0 : chk W H n = 0
  · obtain ⟨P, Q, rfl, rfl, rfl, p0, p1, q0, q1⟩ := chk_nat h0
    have HH := fun (w' : World) (hb : Below w.heap.size w w') => (hr.below hb).more hb.size
    by_cases a1 : 0 ≤ px ∧ 1 ≤ pw ∧ pw ≤ P - px
    · by_cases a2 : 0 ≤ py ∧ 1 ≤ ph ∧ ph ≤ Q - py
      · obtain ⟨X, rfl⟩ : ∃ X : Nat, px = X := ⟨px.toNat, by omega⟩
        obtain ⟨Y, rfl⟩ : ∃ X : Nat, py = X := ⟨py.toNat, by omega⟩
        obtain ⟨V, rfl⟩ : ∃ X : Nat, pw = X := ⟨pw.toNat, by omega⟩
        obtain ⟨U, rfl⟩ : ∃ X : Nat, ph = X := ⟨ph.toNat, by omega⟩
        exact ⟨V, U, V * U, _, 0, prod_le (by omega) (by omega), fun w' hb => (part_ok P Q A c X Y V U w' p0 p1 q0 q1 f (HH w' hb) (by omega) (by omega) (by omega) (by omega)).mono fun _ _ h => h.out,
          fun w' hb => (rpart_ok P Q A c f X Y V U w' (HH w' hb) p0 p1 q0 q1 (by omega) (by omega) (by omega) (by omega)).mono fun _ _ h => h.out⟩
      · exact ⟨0, 0, 0, _, 2, by omega, fun w' _ => (part_arg2 P Q A c px py pw ph w' p0 p1 q0 q1 y1 a1.1 a1.2.1 a1.2.2 a2).mono fun _ _ h => h.out, fun w' _ => (rpart_arg P Q A c px py pw ph w' p0 p1 q0 q1 (fun h => a2 h.2)).mono fun _ _ h => h.out⟩
    · exact ⟨0, 0, 0, _, 2, by omega, fun w' _ => (part_arg1 P Q A c px py pw ph w' p0 p1 q0 q1 x1 a1).mono fun _ _ h => h.out, fun w' _ => (rpart_arg P Q A c px py pw ph w' p0 p1 q0 q1 (fun h => a1 h.1)).mono fun _ _ h => h.out⟩
  · have hne : (chk W H n != 0) = true := by simp [h0]
    exact ⟨0, 0, 0, _, _, by omega, fun w' _ => (part_err W H A n c px py pw ph w' _ hn rfl hne).mono fun _ _ h => h.out, fun w' _ => (rpart_err W H A n c px py pw ph w' _ hn rfl hne).mono fun _ _ h => h.out⟩
end Go.Proofs.Ytnamjpdbadjgpaa
