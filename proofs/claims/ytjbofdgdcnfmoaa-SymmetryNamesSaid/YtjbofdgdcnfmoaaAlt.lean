/- All, Alike and Has of both sides give the same. -/
import Derived.Test.YtjbofdgdcnfmoaaAlj
import Derived.Test.YtjbofdgdcnfmoaaExa
namespace Go.Proofs.Ytjbofdgdcnfmoaa
open Go.RowKit
set_option maxRecDepth 100000
set_option linter.unusedVariables false
set_option linter.unusedSimpArgs false

theorem bchk_self (W H : Int) (n : Nat) : bchk W H n W H n = schk W H n := by
  unfold bchk schk
  by_cases h : chk W H n = 0 <;> simp [h]
set_option maxHeartbeats 800000 in
theorem palk_err (W H : Int) (A : Option Addr) (n c : Nat) (X Y : Int) (D : Option Addr) (m d : Nat) (w : World) (hn : n ≤ 4200) (hm : m ≤ 4200) (z : Int) (hx : bchk W H n X Y m = z) (hne : (z != 0) = true) (f : Nat → Int) :
    Calls Try.prog 50 #[.agg #[.int .i64 W, .int .i64 H, .slice A n c], .agg #[.int .i64 X, .int .i64 Y, .slice D m d]] w (LOut w 0 f z) := by
  have X0 := Lib.hid (A2.new w W H X Y (.slice A n c) (.slice D m d))
  have HC := Lib.hid (fun u kk (hb : Bx2 u kk W H (.slice A n c) X Y (.slice D m d)) => (show Calls Try.prog 92 #[.slice (some ⟨kk, 0, none⟩) 2 2] u fun e w' => e = .returned (.int .i64 z) ∧ Below u.heap.size u w' by have h := check2_any W H A n c X Y D m d kk u hn hm hb; rwa [hx] at h))
  have B0 := Lib.hid (bx6 w W H X Y (.slice A n c) (.slice D m d))
  have Xc := Lib.hid (X0.out.al (.cells #[.int .i64 W, .int .i64 H, .slice A n c, .int .i64 X, .int .i64 Y, .slice D m d] 24))
  clear hx
  go_enter Try.func50, Try.ntmps50
  obtain ⟨q0, q1, q2, q3, q4, q5⟩ := X0.out.six
  go_wp2_with fail
  clear q0 q1 q2 q3 q4 q5
  refine (HC.out _ _ B0.out).mono ?_
  rintro e w1 ⟨rfl, hb⟩
  have X1 := Lib.hid (Xc.out.next hb)
  clear hb Xc B0 HC
  go_wp2
  go_ret2
  exact ⟨none, 0, rfl, fun h => absurd h (by omega), X1.out.bel⟩
set_option maxHeartbeats 800000 in
theorem r63_err (W H : Int) (A : Option Addr) (n c : Nat) (X Y : Int) (D : Option Addr) (m d : Nat) (w : World) (hn : n ≤ 4200) (hm : m ≤ 4200) (z : Int) (hx : bchk W H n X Y m = z) (hne : (z != 0) = true) (f : Nat → Int) :
    Calls Try.prog 63 #[.agg #[.int .i64 W, .int .i64 H, .slice A n c], .agg #[.int .i64 X, .int .i64 Y, .slice D m d]] w (LOut w 0 f z) := by
  have X0 := Lib.hid (A2.new w W H X Y (.slice A n c) (.slice D m d))
  have HC := Lib.hid (fun u => (show Calls Try.prog 107 #[.agg #[.int .i64 W, .int .i64 H, .slice A n c], .agg #[.int .i64 X, .int .i64 Y, .slice D m d]] u fun e w' => e = .returned (.int .i64 z) ∧ Below u.heap.size u w' by have h := rboth7_any W H A n c X Y D m d u hn hm; rwa [hx] at h))
  clear hx
  go_enter Try.func63, Try.ntmps63
  obtain ⟨q0, q1, q2, q3, q4, q5⟩ := X0.out.six
  go_wp2_with fail
  clear q0 q1 q2 q3 q4 q5
  refine (HC.out _).mono ?_
  rintro e w1 ⟨rfl, hb⟩
  have X1 := Lib.hid (X0.out.next hb)
  clear hb
  obtain ⟨q0, q1, q2, q3, q4, q5⟩ := X1.out.six
  go_wp2_with fail
  clear q0 q1 q2 q3 q4 q5
  refine (HC.out _).mono ?_
  rintro e w2 ⟨rfl, hb⟩
  have X2 := Lib.hid (X1.out.next hb)
  clear hb
  go_wp2
  go_ret2
  exact ⟨none, 0, rfl, fun h => absurd h (by omega), X2.out.bel⟩
set_option maxHeartbeats 800000 in
theorem r63_ok (W H : Int) (A : Option Addr) (n c : Nat) (X Y : Int) (D : Option Addr) (m d : Nat) (w : World) (hn : n ≤ 4200) (hm : m ≤ 4200) (hx : bchk W H n X Y m = 0) (N : Nat) (f : Nat → Int) (HA : ∀ u, Below w.heap.size w u → Calls Try.prog 106 #[.agg #[.int .i64 W, .int .i64 H, .slice A n c], .agg #[.int .i64 X, .int .i64 Y, .slice D m d]] u (LRet u N f)) :
    Calls Try.prog 63 #[.agg #[.int .i64 W, .int .i64 H, .slice A n c], .agg #[.int .i64 X, .int .i64 Y, .slice D m d]] w (LOut w N f 0) := by
  have X0 := Lib.hid (A2.new w W H X Y (.slice A n c) (.slice D m d))
  have HA := Lib.hid HA
  have HC := Lib.hid (fun u => (show Calls Try.prog 107 #[.agg #[.int .i64 W, .int .i64 H, .slice A n c], .agg #[.int .i64 X, .int .i64 Y, .slice D m d]] u fun e w' => e = .returned (.int .i64 0) ∧ Below u.heap.size u w' by have h := rboth7_any W H A n c X Y D m d u hn hm; rwa [hx] at h))
  clear hx
  go_enter Try.func63, Try.ntmps63
  obtain ⟨q0, q1, q2, q3, q4, q5⟩ := X0.out.six
  go_wp2_with fail
  clear q0 q1 q2 q3 q4 q5
  refine (HC.out _).mono ?_
  rintro e w1 ⟨rfl, hb⟩
  have X1 := Lib.hid (X0.out.next hb)
  clear hb
  obtain ⟨q0, q1, q2, q3, q4, q5⟩ := X1.out.six
  go_wp2_with fail
  clear q0 q1 q2 q3 q4 q5
  refine (HA.out _ X1.out.bel).mono ?_
  rintro e w2 ⟨E, e', rfl, hr, hb⟩
  have hsz := X1.out.bel.size
  have HF : Hid (LOut w N f 0 (.returned (.tuple #[.slice E N e', .int .i64 0])) w2) := Lib.hid ⟨E, e', rfl, fun h => (by obtain ⟨k, h1, h2, h3⟩ := hr h; exact ⟨k, h1, by omega, h3⟩), (X1.out.next hb).bel⟩
  clear hb hr
  go_wp2
  go_ret2
  exact HF.out
set_option maxHeartbeats 800000 in
theorem pall_any (W H : Int) (A : Option Addr) (n c : Nat) (w : World) (N : Nat) (f : Nat → Int) (z : Int) (HA : ∀ u, Below w.heap.size w u → Calls Try.prog 50 #[.agg #[.int .i64 W, .int .i64 H, .slice A n c], .agg #[.int .i64 W, .int .i64 H, .slice A n c]] u (LOut u N f z)) :
    Calls Try.prog 46 #[.agg #[.int .i64 W, .int .i64 H, .slice A n c]] w (LOut w N f z) := by
  have X0 := Lib.hid (Box.new w W H (.slice A n c))
  have L0 := Lib.hid (show Below w.heap.size w (w.alloc (.cells #[.int .i64 W, .int .i64 H, .slice A n c] 24)) from blA (Below.refl _ _) (Nat.le_refl _) _)
  have HA := Lib.hid HA
  go_enter Try.func46, Try.ntmps46
  obtain ⟨q0, q1, q2, q3, q4, q5, q6⟩ := X0.out.all
  go_wp2_with fail
  clear q0 q1 q2 q3 q4 q5 q6
  refine (HA.out _ L0.out).mono ?_
  rintro e w2 ⟨E, e', rfl, hr, hb⟩
  have hsz := L0.out.size
  have HF : Hid (LOut w N f z (.returned (.tuple #[.slice E N e', .int .i64 z])) w2) := Lib.hid ⟨E, e', rfl, fun h => (by obtain ⟨k, h1, h2, h3⟩ := hr h; exact ⟨k, h1, by omega, h3⟩), L0.out.trans (hb.mono L0.out.size)⟩
  clear hb hr
  go_wp2
  go_ret2
  exact HF.out
set_option maxHeartbeats 800000 in
theorem r62_err (W H : Int) (A : Option Addr) (n c : Nat) (w : World) (hn : n ≤ 4200) (z : Int) (hx : schk W H n = z) (hne : (z != 0) = true) (f : Nat → Int) :
    Calls Try.prog 62 #[.agg #[.int .i64 W, .int .i64 H, .slice A n c]] w (LOut w 0 f z) := by
  have X0 := Lib.hid (Box.new w W H (.slice A n c))
  have L0 := Lib.hid (show Below w.heap.size w (w.alloc (.cells #[.int .i64 W, .int .i64 H, .slice A n c] 24)) from blA (Below.refl _ _) (Nat.le_refl _) _)
  have HC := Lib.hid (fun u => (show Calls Try.prog 103 #[.agg #[.int .i64 W, .int .i64 H, .slice A n c]] u fun e w' => e = .returned (.int .i64 z) ∧ Below u.heap.size u w' by have h := start_any W H A n c u hn; rwa [hx] at h))
  clear hx
  go_enter Try.func62, Try.ntmps62
  obtain ⟨q0, q1, q2, q3, q4, q5, q6⟩ := X0.out.all
  go_wp2_with fail
  clear q0 q1 q2 q3 q4 q5 q6
  refine (HC.out _).mono ?_
  rintro e w1 ⟨rfl, hb⟩
  have X1 := Lib.hid (X0.out.below hb X0.out.lt)
  have L1 := Lib.hid (L0.out.trans (hb.mono L0.out.size))
  clear hb
  obtain ⟨q0, q1, q2, q3, q4, q5, q6⟩ := X1.out.all
  go_wp2_with fail
  clear q0 q1 q2 q3 q4 q5 q6
  refine (HC.out _).mono ?_
  rintro e w2 ⟨rfl, hb⟩
  have L2 := Lib.hid (L1.out.trans (hb.mono L1.out.size))
  clear hb
  go_wp2
  go_ret2
  exact ⟨none, 0, rfl, fun h => absurd h (by omega), L2.out⟩
set_option maxHeartbeats 800000 in
theorem r62_ok (W H : Int) (A : Option Addr) (n c : Nat) (w : World) (hn : n ≤ 4200) (hx : schk W H n = 0) (N : Nat) (f : Nat → Int) (HA : ∀ u, Below w.heap.size w u → Calls Try.prog 106 #[.agg #[.int .i64 W, .int .i64 H, .slice A n c], .agg #[.int .i64 W, .int .i64 H, .slice A n c]] u (LRet u N f)) :
    Calls Try.prog 62 #[.agg #[.int .i64 W, .int .i64 H, .slice A n c]] w (LOut w N f 0) := by
  have X0 := Lib.hid (Box.new w W H (.slice A n c))
  have L0 := Lib.hid (show Below w.heap.size w (w.alloc (.cells #[.int .i64 W, .int .i64 H, .slice A n c] 24)) from blA (Below.refl _ _) (Nat.le_refl _) _)
  have HA := Lib.hid HA
  have HC := Lib.hid (fun u => (show Calls Try.prog 103 #[.agg #[.int .i64 W, .int .i64 H, .slice A n c]] u fun e w' => e = .returned (.int .i64 0) ∧ Below u.heap.size u w' by have h := start_any W H A n c u hn; rwa [hx] at h))
  clear hx
  go_enter Try.func62, Try.ntmps62
  obtain ⟨q0, q1, q2, q3, q4, q5, q6⟩ := X0.out.all
  go_wp2_with fail
  clear q0 q1 q2 q3 q4 q5 q6
  refine (HC.out _).mono ?_
  rintro e w1 ⟨rfl, hb⟩
  have X1 := Lib.hid (X0.out.below hb X0.out.lt)
  have L1 := Lib.hid (L0.out.trans (hb.mono L0.out.size))
  clear hb
  obtain ⟨q0, q1, q2, q3, q4, q5, q6⟩ := X1.out.all
  go_wp2_with fail
  clear q0 q1 q2 q3 q4 q5 q6
  refine (HA.out _ L1.out).mono ?_
  rintro e w2 ⟨E, e', rfl, hr, hb⟩
  have hsz := L1.out.size
  have HF : Hid (LOut w N f 0 (.returned (.tuple #[.slice E N e', .int .i64 0])) w2) := Lib.hid ⟨E, e', rfl, fun h => (by obtain ⟨k, h1, h2, h3⟩ := hr h; exact ⟨k, h1, by omega, h3⟩), L1.out.trans (hb.mono L1.out.size)⟩
  clear hb hr
  go_wp2
  go_ret2
  exact HF.out
/-- A valid grid, without its memory. -/
theorem gd_of {W H : Nat} {n : Nat} (f : Nat → Bool) (h : chk (W : Nat) (H : Nat) n = 0) : (⟨W, H, f⟩ : GD).Ok := by
  obtain ⟨b1, b2, b3, b4, b5⟩ := chk_ok h
  exact ⟨by show 1 ≤ W; omega, by show W ≤ 64; omega, by show 1 ≤ H; omega, by show H ≤ 64; omega⟩
/-- The reference's Offset, where the answer is known. -/
theorem roff_is {G K : GD} (okG : G.Ok) (okK : K.Ok) {a b z : Int} (hF : FOut2 G.W G.H G.f K.W K.H K.f a b z) (A : Option Addr) (c : Nat) (D : Option Addr) (d : Nat) (w : World) (hr : Holds w w.heap.size A (G.W * G.H) G.f) (hs : Holds w w.heap.size D (K.W * K.H) K.f) :
    Calls Try.prog 38 #[.agg #[.int .i64 (G.W : Nat), .int .i64 (G.H : Nat), .slice A (G.W * G.H) c], .agg #[.int .i64 (K.W : Nat), .int .i64 (K.H : Nat), .slice D (K.W * K.H) d]] w fun e w' => e = .returned (.tuple #[.agg #[.int .i64 a, .int .i64 b], .int .i64 z]) ∧ Below w.heap.size w w' := by
  refine (roff_ok G.W G.H A c G.f K.W K.H D d K.f w hr hs okG.w0 okG.w1 okG.h0 okG.h1 okK.w0 okK.w1 okK.h0 okK.h1).mono ?_
  rintro e w' ⟨a', b', z', rfl, h, hb⟩
  obtain ⟨rfl, rfl, rfl⟩ := h.one hF
  exact ⟨rfl, hb⟩
/-- The operation takes the first grid to a plane that is the second's, moved. -/
noncomputable def tk (G K : GD) (m : Nat) : Bool := @decide (∃ x y : Nat, Mt (G.ap m).W (G.ap m).H (G.ap m).f K.W K.H K.f x y) (Classical.propDecidable _)
theorem tk_out (G K : GD) (m : Nat) : ∃ a b : Int, FOut2 (G.ap m).W (G.ap m).H (G.ap m).f K.W K.H K.f a b (if tk G K m = true then 0 else 6) := by
  obtain ⟨a, b, z, h⟩ := FOut2.ex (G.ap m).W (G.ap m).H (G.ap m).f K.W K.H K.f
  refine ⟨a, b, ?_⟩
  have e : (if tk G K m = true then (0 : Int) else 6) = z := by
    rcases h with ⟨p, q, h1, _, _, h4⟩ | ⟨h1, _, _, h4⟩
    · rw [h4, if_pos (by unfold tk; exact @decide_eq_true _ (Classical.propDecidable _) ⟨p, q, h1.mt⟩)]
    · rw [h4, if_neg (by
        unfold tk
        rw [@decide_eq_false _ (Classical.propDecidable _) (fun ⟨x, y, k⟩ => h1 x y k)]
        decide)]
  rw [e]
  exact h
/-- Alike of both sides, and the reference's alike, for two grids with a motif. -/
theorem alk_all (G K : GD) (okG : G.Ok) (okK : K.Ok) (b o d bb ob d2 : Nat) (w : World) (lb : b < w.heap.size) (lbb : bb < w.heap.size) (hca : ∀ i, i < G.W * G.H → w.cell? ⟨b, o + i, none⟩ = some (.bool (G.f i))) (hcb : ∀ i, i < K.W * K.H → w.cell? ⟨bb, ob + i, none⟩ = some (.bool (K.f i)))
    (hd : G.W * G.H ≤ d) (hd2 : K.W * K.H ≤ d2) :
    (bchk (G.W : Nat) (G.H : Nat) (G.W * G.H) (K.W : Nat) (K.H : Nat) (K.W * K.H) = 0 → Calls Try.prog 50 #[.agg #[.int .i64 (G.W : Nat), .int .i64 (G.H : Nat), .slice (some ⟨b, o, none⟩) (G.W * G.H) d], .agg #[.int .i64 (K.W : Nat), .int .i64 (K.H : Nat), .slice (some ⟨bb, ob, none⟩) (K.W * K.H) d2]] w (LOut w (ofl (tk G K) 16).length (lf (ofl (tk G K) 16)) 0)) ∧
    Calls Try.prog 106 #[.agg #[.int .i64 (G.W : Nat), .int .i64 (G.H : Nat), .slice (some ⟨b, o, none⟩) (G.W * G.H) d], .agg #[.int .i64 (K.W : Nat), .int .i64 (K.H : Nat), .slice (some ⟨bb, ob, none⟩) (K.W * K.H) d2]] w (LRet w (ofl (tk G K) 16).length (lf (ofl (tk G K) 16))) := by
  have HA : ∀ v, Below w.heap.size w v → ∀ i, i < G.W * G.H → v.cell? ⟨b, o + i, none⟩ = some (.bool (G.f i)) := fun v h i hi => (h.cell (p := ⟨b, o + i, none⟩) lb).trans (hca i hi)
  have HB : ∀ v, Below w.heap.size w v → ∀ i, i < K.W * K.H → v.cell? ⟨bb, ob + i, none⟩ = some (.bool (K.f i)) := fun v h i hi => (h.cell (p := ⟨bb, ob + i, none⟩) lbb).trans (hcb i hi)
  have HAh : ∀ v, Below w.heap.size w v → Holds v v.heap.size (some ⟨b, o, none⟩) (G.W * G.H) G.f := fun v h => fun _ => ⟨b, o, rfl, Nat.lt_of_lt_of_le lb h.size, HA v h⟩
  have HBh : ∀ v, Below w.heap.size w v → Holds v v.heap.size (some ⟨bb, ob, none⟩) (K.W * K.H) K.f := fun v h => fun _ => ⟨bb, ob, rfl, Nat.lt_of_lt_of_le lbb h.size, HB v h⟩
  have hnG := Nat.mul_le_mul okG.w1 okG.h1
  have hnK := Nat.mul_le_mul okK.w1 okK.h1
  refine ⟨fun hx => ?_, ?_⟩
  · refine palk_ok (P := fun m d' => (G.ap m).W * (G.ap m).H ≤ d') G.W G.H b o d K.W K.H _ (K.W * K.H) d2 (fun m => (G.ap m).W) (fun m => (G.ap m).H) (fun m => (G.ap m).f) (tk G K) w (by omega) (by omega) hx ?_ ?_
    · intro m hm u hu
      exact papd G okG b o d m hm u (HAh u hu)
    · intro m hm
      obtain ⟨a', b', h⟩ := tk_out G K m
      exact ⟨a', b', fun u k d' hu hd' hr => poff_is h k 0 d' bb ob d2 u hr.lt (Nat.lt_of_lt_of_le lbb hu.size) (fun i hi => by rw [Nat.zero_add]; exact hr.cell hi) (HB u hu) hd' hd2 (ap_ok okG m).w0 (ap_ok okG m).w1 (ap_ok okG m).h0 (ap_ok okG m).h1 okK.w0 okK.w1 okK.h0 okK.h1⟩
  · refine ralk_ok (P := fun m d' => True) G.W G.H b o d K.W K.H _ (K.W * K.H) d2 (fun m => (G.ap m).W) (fun m => (G.ap m).H) (fun m => (G.ap m).f) (tk G K) w ?_ ?_
    · intro m hm u hu
      refine (rapd G okG b o d m hm u (HAh u hu)).mono ?_
      rintro e u' ⟨k, d', h1, h2, h3, h4⟩
      exact ⟨k, d', h1, trivial, h2, h3, h4⟩
    · intro m hm
      obtain ⟨a', b', h⟩ := tk_out G K m
      exact ⟨a', b', fun u k d' hu _ hr => roff_is (ap_ok okG m) okK h _ d' _ d2 u (hr.holds hr.lt) (HBh u hu)⟩
theorem bchk_ok {W H X Y : Int} {n m : Nat} (h : bchk W H n X Y m = 0) : schk W H n = 0 ∧ schk X Y m = 0 := by
  unfold bchk at h
  by_cases h1 : (if chk W H n = 0 then chk X Y m else chk W H n) = 0
  · rw [if_neg (by simpa using h1)] at h
    by_cases h2 : schk W H n = 0
    · rw [if_neg (by simpa using h2)] at h
      exact ⟨h2, h⟩
    · rw [if_pos h2] at h
      exact absurd h h2
  · rw [if_pos h1] at h
    exact absurd h h1
theorem alk_two (W H X Y : Int) (A D : Option Addr) (n c m d : Nat) (f g : Nat → Bool) (w : World) (hr : Holds w w.heap.size A n f) (hs : Holds w w.heap.size D m g) (hn : n ≤ 4200) (hm : m ≤ 4200) (hc : n ≤ c) (hd : m ≤ d) : ∃ (N : Nat) (F : Nat → Int) (z : Int), N ≤ 16 ∧ ∀ v, Below w.heap.size w v →
    Calls Try.prog 50 #[.agg #[.int .i64 W, .int .i64 H, .slice A n c], .agg #[.int .i64 X, .int .i64 Y, .slice D m d]] v (LOut v N F z) ∧ Calls Try.prog 63 #[.agg #[.int .i64 W, .int .i64 H, .slice A n c], .agg #[.int .i64 X, .int .i64 Y, .slice D m d]] v (LOut v N F z) := by
  by_cases hx : bchk W H n X Y m = 0
  · obtain ⟨s1, s2⟩ := bchk_ok hx
    obtain ⟨c1, _, _⟩ := schk_ok s1
    obtain ⟨c2, _, _⟩ := schk_ok s2
    obtain ⟨W', H', rfl, rfl, k1, k2, k3, k4, k5⟩ := chk_nat c1
    obtain ⟨X', Y', rfl, rfl, l1, l2, l3, l4, l5⟩ := chk_nat c2
    obtain ⟨b, o, rfl, lb, hca⟩ := hr.some_ (by rw [k5]; exact mul_ge k1 k3)
    obtain ⟨bb, ob, rfl, lbb, hcb⟩ := hs.some_ (by rw [l5]; exact mul_ge l1 l3)
    subst k5
    subst l5
    have okG := gd_of f c1
    have okK := gd_of g c2
    refine ⟨_, lf (ofl (tk ⟨W', H', f⟩ ⟨X', Y', g⟩) 16), 0, ofl_len (tk ⟨W', H', f⟩ ⟨X', Y', g⟩) 16, fun v hv => ?_⟩
    have key := fun u (hu : Below w.heap.size w u) => alk_all ⟨W', H', f⟩ ⟨X', Y', g⟩ okG okK b o c bb ob d u (Nat.lt_of_lt_of_le lb hu.size) (Nat.lt_of_lt_of_le lbb hu.size) (fun i hi => (hu.cell (p := ⟨b, o + i, none⟩) lb).trans (hca i hi)) (fun i hi => (hu.cell (p := ⟨bb, ob + i, none⟩) lbb).trans (hcb i hi)) hc hd
    exact ⟨(key v hv).1 hx, r63_ok _ _ _ _ c _ _ _ _ d v hn hm hx _ _ fun u hu => (key u (hv.trans (hu.mono hv.size))).2⟩
  · exact ⟨0, fun _ => 0, _, by omega, fun v _ => ⟨palk_err W H A n c X Y D m d v hn hm _ rfl (by simpa using hx) _, r63_err W H A n c X Y D m d v hn hm _ rfl (by simpa using hx) _⟩⟩
theorem all_two (W H : Int) (A : Option Addr) (n c : Nat) (f : Nat → Bool) (w : World) (hr : Holds w w.heap.size A n f) (hn : n ≤ 4200) (hc : n ≤ c) : ∃ (N : Nat) (F : Nat → Int) (z : Int), N ≤ 16 ∧ ∀ v, Below w.heap.size w v →
    Calls Try.prog 46 #[.agg #[.int .i64 W, .int .i64 H, .slice A n c]] v (LOut v N F z) ∧ Calls Try.prog 62 #[.agg #[.int .i64 W, .int .i64 H, .slice A n c]] v (LOut v N F z) := by
  by_cases hx : schk W H n = 0
  · obtain ⟨c1, _, _⟩ := schk_ok hx
    obtain ⟨W', H', rfl, rfl, k1, k2, k3, k4, k5⟩ := chk_nat c1
    obtain ⟨b, o, rfl, lb, hca⟩ := hr.some_ (by rw [k5]; exact mul_ge k1 k3)
    subst k5
    have okG := gd_of f c1
    refine ⟨_, lf (ofl (tk ⟨W', H', f⟩ ⟨W', H', f⟩) 16), 0, ofl_len (tk ⟨W', H', f⟩ ⟨W', H', f⟩) 16, fun v hv => ?_⟩
    have key := fun u (hu : Below w.heap.size w u) => alk_all ⟨W', H', f⟩ ⟨W', H', f⟩ okG okG b o c b o c u (Nat.lt_of_lt_of_le lb hu.size) (Nat.lt_of_lt_of_le lb hu.size) (fun i hi => (hu.cell (p := ⟨b, o + i, none⟩) lb).trans (hca i hi)) (fun i hi => (hu.cell (p := ⟨b, o + i, none⟩) lb).trans (hca i hi)) hc hc
    refine ⟨pall_any _ _ _ _ c v _ _ _ fun u hu => (key u (hv.trans (hu.mono hv.size))).1 ?_, r62_ok _ _ _ _ c v hn hx _ _ fun u hu => (key u (hv.trans (hu.mono hv.size))).2⟩
    rw [← hx]
    exact bchk_self _ _ _
  · exact ⟨0, fun _ => 0, _, by omega, fun v _ => ⟨pall_any W H A n c v _ _ _ fun u _ => palk_err W H A n c W H A n c u hn hn _ (bchk_self W H n) (by simpa using hx) _, r62_err W H A n c v hn _ rfl (by simpa using hx) _⟩⟩
theorem has_two (W H : Int) (A : Option Addr) (n c : Nat) (f : Nat → Bool) (op : Int) (w : World) (hr : Holds w w.heap.size A n f) (hn : n ≤ 4200) (hc : n ≤ c) : ∃ (t : Bool) (a b z : Int), ∀ v, Below w.heap.size w v →
    (Calls Try.prog 48 #[.agg #[.int .i64 W, .int .i64 H, .slice A n c], .int .i64 op] v fun e w' => e = .returned (.tuple #[.bool t, .agg #[.int .i64 a, .int .i64 b], .int .i64 z]) ∧ Below v.heap.size v w') ∧
    (Calls Try.prog 61 #[.agg #[.int .i64 W, .int .i64 H, .slice A n c], .int .i64 op] v fun e w' => e = .returned (.tuple #[.bool t, .agg #[.int .i64 a, .int .i64 b], .int .i64 z]) ∧ Below v.heap.size v w') := by
  by_cases hx : schk W H n = 0
  · by_cases hv : 0 ≤ op ∧ op < 16
    · obtain ⟨c1, _, _⟩ := schk_ok hx
      obtain ⟨W', H', rfl, rfl, k1, k2, k3, k4, k5⟩ := chk_nat c1
      obtain ⟨b, o, rfl, lb, hca⟩ := hr.some_ (by rw [k5]; exact mul_ge k1 k3)
      obtain ⟨m, rfl⟩ : ∃ m : Nat, op = m := ⟨op.toNat, (Int.toNat_of_nonneg hv.1).symm⟩
      subst k5
      have okG := gd_of f c1
      have hm : m < 16 := by omega
      obtain ⟨a', b', z, hF⟩ := FOut2.ex W' H' f ((⟨W', H', f⟩ : GD).ap m).W ((⟨W', H', f⟩ : GD).ap m).H ((⟨W', H', f⟩ : GD).ap m).f
      refine ⟨decide (z = 0), a', b', 0, fun v hbv => ?_⟩
      have HA : ∀ u, Below v.heap.size v u → ∀ i, i < W' * H' → u.cell? ⟨b, o + i, none⟩ = some (.bool (f i)) := fun u h i hi => ((hbv.trans (h.mono hbv.size)).cell (p := ⟨b, o + i, none⟩) lb).trans (hca i hi)
      have HL : ∀ u, Below v.heap.size v u → b < u.heap.size := fun u h => Nat.lt_of_lt_of_le lb (Nat.le_trans hbv.size h.size)
      have HAh : ∀ u, Below v.heap.size v u → Holds u u.heap.size (some ⟨b, o, none⟩) (W' * H') f := fun u h => fun _ => ⟨b, o, rfl, HL u h, HA u h⟩
      refine ⟨?_, ?_⟩
      · exact phas_ok (P := fun d' => ((⟨W', H', f⟩ : GD).ap m).W * ((⟨W', H', f⟩ : GD).ap m).H ≤ d') W' H' b o c _ _ ((⟨W', H', f⟩ : GD).ap m).f m a' b' z v hm hn hx hF.z (fun u hu => papd ⟨W', H', f⟩ okG b o c m hm u (HAh u hu))
          (fun u k d' hu hd' hr => poff_is hF b o c k 0 d' u (HL u hu) hr.lt (HA u hu) (fun i hi => by rw [Nat.zero_add]; exact hr.cell hi) hc hd' k1 k2 k3 k4 (ap_ok okG m).w0 (ap_ok okG m).w1 (ap_ok okG m).h0 (ap_ok okG m).h1)
      · exact rhas_ok (P := fun _ => True) W' H' b o c _ _ ((⟨W', H', f⟩ : GD).ap m).f m a' b' z v hm hn hx hF.z (fun u hu => (rapd ⟨W', H', f⟩ okG b o c m hm u (HAh u hu)).mono fun e u' ⟨k, d', h1, h2, h3, h4⟩ => ⟨k, d', h1, trivial, h2, h3, h4⟩)
          (fun u k d' hu _ hr => roff_is (G := ⟨W', H', f⟩) okG (ap_ok okG m) hF _ c _ d' u (HAh u hu) (hr.holds hr.lt))
    · exact ⟨false, 0, 0, 2, fun v _ => ⟨phas_arg W H A n c op v hn hx hv, rhas_arg W H A n c op v hn hx hv⟩⟩
  · exact ⟨false, 0, 0, _, fun v _ => ⟨phas_err W H A n c op v hn _ rfl (by simpa using hx), rhas_err W H A n c op v hn _ rfl (by simpa using hx)⟩⟩
end Go.Proofs.Ytjbofdgdcnfmoaa
