/- Compose and Inverse of both sides. -/
import Derived.Test.YtjbofdgdcnfmoaaSb
import Derived.Test.YtjbofdgdcnfmoaaGb
import Derived.Deep.RegionHeld3
import Derived.Deep.DeepCutAuto
namespace Go.Proofs.Ytjbofdgdcnfmoaa
open Go.RowKit
set_option maxRecDepth 100000
set_option linter.unusedVariables false
set_option linter.unusedSimpArgs false

/-- What an operation before a turn does behind it. -/
def acr (n : Nat) : Nat := n / 4 * 4 + n % 2 * 2 + n / 2 % 2
def cmp (m n : Nat) : Nat := m ^^^ (if m / 4 % 2 = 1 then acr n else n)
def inv (m : Nat) : Nat := if m / 4 % 2 = 1 then acr m else m
def GD.ap (g : GD) (m : Nat) : GD := g.apb (decide (m % 2 = 1)) (decide (m / 2 % 2 = 1)) (decide (m / 4 % 2 = 1)) (decide (m / 8 % 2 = 1))
theorem bit1 : ∀ m, m < 16 → (bits BinOp.and IntKind.i64 ((m : Nat) : Int) 1 != 0) = decide (m % 2 = 1) := by decide +kernel
theorem bit2 : ∀ m, m < 16 → (bits BinOp.and IntKind.i64 ((m : Nat) : Int) 2 != 0) = decide (m / 2 % 2 = 1) := by decide +kernel
theorem bit4 : ∀ m, m < 16 → (bits BinOp.and IntKind.i64 ((m : Nat) : Int) 4 != 0) = decide (m / 4 % 2 = 1) := by decide +kernel
theorem bit8 : ∀ m, m < 16 → (bits BinOp.and IntKind.i64 ((m : Nat) : Int) 8 != 0) = decide (m / 8 % 2 = 1) := by decide +kernel
theorem xor_nat : ∀ m, m < 16 → ∀ n, n < 16 → bits BinOp.xor IntKind.i64 ((m : Nat) : Int) ((n : Nat) : Int) = ((m ^^^ n : Nat) : Int) := by decide +kernel
theorem acr_lt : ∀ m, m < 16 → acr m < 16 := by decide +kernel
theorem cmp_lt : ∀ m, m < 16 → ∀ n, n < 16 → cmp m n < 16 := by decide +kernel
theorem inv_lt : ∀ m, m < 16 → inv m < 16 := by decide +kernel
theorem cmp_inv : ∀ m, m < 16 → ∀ x, x < 16 → (x ≤ inv m → (((cmp m x : Nat) : Int) == 0) = decide (x = inv m)) := by decide +kernel
/-- The grid on which no two operations do the same. -/
def gt : GD := ⟨2, 3, fun i => i == 0 || i == 3⟩
/-- The two grids are the same. -/
def sm (g h : GD) : Bool := decide (g.W = h.W ∧ g.H = h.H ∧ ∀ i, i < g.W * g.H → g.f i = h.f i)
theorem cmp_key : ∀ m, m < 16 → ∀ n, n < 16 → ∀ x, x < 16 → (x ≤ cmp m n → sm (gt.ap x) ((gt.ap m).ap n) = decide (x = cmp m n)) := by decide +kernel
theorem gt_ok : gt.Ok := ⟨by decide, by decide, by decide, by decide⟩
theorem ap_ok {g : GD} (h : g.Ok) (m : Nat) : (g.ap m).Ok := h.apb _ _ _ _
theorem rapd (g : GD) (ok : g.Ok) (b o d m : Nat) (hm : m < 16) (w : World) (hr : Holds w w.heap.size (some ⟨b, o, none⟩) (g.W * g.H) g.f) :
    Calls Try.prog 104 #[.agg #[.int .i64 (g.W : Nat), .int .i64 (g.H : Nat), .slice (some ⟨b, o, none⟩) (g.W * g.H) d], .int .i64 (m : Nat)] w (OkG w (g.ap m)) :=
  applied_any g ok b o d m _ _ _ _ (bit1 m hm) (bit2 m hm) (bit4 m hm) (bit8 m hm) w hr
theorem same_gd (g h : GD) (k d l e : Nat) (w : World) (hn : g.W * g.H ≤ 5000) (h1 : Row w k (g.W * g.H) g.f) (h2 : Row w l (h.W * h.H) h.f) :
    Calls Try.prog 39 #[.agg #[.int .i64 (g.W : Nat), .int .i64 (g.H : Nat), .slice (some ⟨k, 0, none⟩) (g.W * g.H) d], .agg #[.int .i64 (h.W : Nat), .int .i64 (h.H : Nat), .slice (some ⟨l, 0, none⟩) (h.W * h.H) e]] w fun x w' => x = .returned (.bool (sm g h)) ∧ Below w.heap.size w w' := by
  by_cases hh : g.W = h.W ∧ g.H = h.H
  · obtain ⟨e1, e2⟩ := hh
    have h2' : Holds w w.heap.size (some ⟨l, 0, none⟩) (g.W * g.H) h.f := by rw [e1, e2]; exact h2.holds h2.lt
    have := rsame_loop (g.W : Nat) (g.H : Nat) (h.W : Nat) (h.H : Nat) (some ⟨k, 0, none⟩) (some ⟨l, 0, none⟩) (g.W * g.H) d e g.f h.f w hn (by rw [e1]) (by rw [e2]) (h1.holds h1.lt) h2'
    have e3 : h.W * h.H = g.W * g.H := by rw [e1, e2]
    rw [e3]
    refine this.mono fun x w' ⟨a, b⟩ => ⟨?_, b⟩
    rw [a]
    exact ret_bool (by unfold sm; simp [e1, e2])
  · refine (rsame_no0 _ _ _ _ _ _ _ _ d e w ?_).mono fun x w' ⟨a, b⟩ => ⟨?_, b⟩
    · rintro ⟨a, b, _⟩
      exact hh ⟨by exact_mod_cast a, by exact_mod_cast b⟩
    · rw [a]
      exact ret_bool (by unfold sm; symm; rw [decide_eq_false_iff_not]; rintro ⟨p, q, _⟩; exact hh ⟨p, q⟩)
set_option maxHeartbeats 800000 in
theorem test_any (w : World) : Calls Try.prog 105 #[] w (OkG w gt) := by
  have X0 := Lib.hid (Box.new w 0 0 (.slice none 0 0))
  have LB0 := Lib.hid (show Below w.heap.size w (w.alloc (.cells #[.int .i64 0, .int .i64 0, .slice none 0 0] 24)) from (Below.refl _ _).alloc (Nat.le_refl _) _)
  go_enter Try.func105, Try.ntmps105
  go_wp2_with fail
  refine (zero_int 2 3 2 3 rfl rfl (by omega) (by omega) _).mono ?_
  rintro e w1 ⟨k, rfl, hk, hrow, hb⟩
  simp only [World.size_alloc] at hk
  have hk1 := hrow.lt
  have LB1 := Lib.hid ((LB0.out.trans (hb.mono LB0.out.size)).alloc (Nat.le_trans LB0.out.size hb.size) (.cells #[.int .i64 2, .int .i64 3, .slice (some ⟨k, 0, none⟩) 6 6] 24))
  have X1 := Lib.hid ((X0.out.below hb X0.out.lt).alloc (.cells #[.int .i64 2, .int .i64 3, .slice (some ⟨k, 0, none⟩) 6 6] 24))
  have Y1 := Lib.hid (Box.new w1 2 3 (.slice (some ⟨k, 0, none⟩) 6 6))
  have R1 := Lib.hid (hrow.alloc (.cells #[.int .i64 2, .int .i64 3, .slice (some ⟨k, 0, none⟩) 6 6] 24))
  have hyk : w1.heap.size ≠ k := by omega
  clear hb hrow
  obtain ⟨q0, q1, q2, q3, q4, q5, q6⟩ := Y1.out.all
  go_wp2_with fail
  clear q0 q1 q2 q3 q4 q5 q6
  refine (set_nat 2 3 k 6 0 0 true _ _ R1.out (by omega) (by omega) 0 0 rfl rfl (by omega) (by omega)).mono ?_
  rintro e w2 ⟨rfl, hr2, hbt⟩
  have LB2 := Lib.hid (hbt.below LB1.out (by omega))
  have X2 := Lib.hid (hbt.box X1.out (by omega))
  have Y2 := Lib.hid (hbt.box Y1.out hyk)
  have R2 := Lib.hid hr2
  clear hbt hr2
  obtain ⟨q0, q1, q2, q3, q4, q5, q6⟩ := Y2.out.all
  go_wp2_with fail
  clear q0 q1 q2 q3 q4 q5 q6
  refine (set_nat 2 3 k 6 1 1 true _ _ R2.out (by omega) (by omega) 1 1 rfl rfl (by omega) (by omega)).mono ?_
  rintro e w3 ⟨rfl, hr3, hbt⟩
  have LB3 := Lib.hid (hbt.below LB2.out (by omega))
  have X3 := Lib.hid (hbt.box X2.out (by omega))
  have Y3 := Lib.hid (hbt.box Y2.out hyk)
  have R3 := Lib.hid (show Row w3 k (gt.W * gt.H) gt.f from hr3.congr (by decide))
  clear hbt hr3
  obtain ⟨q0, q1, q2, q3, q4, q5, q6⟩ := Y3.out.all
  obtain ⟨p0, p1, p2, p3, p4, p5, p6⟩ := X3.out.all
  go_wp2
  refine bodyPost_ret (v := .agg #[.int .i64 2, .int .i64 3, .slice (some ⟨k, 0, none⟩) 6 6]) (by simp [results, Try.results105, go_sem, p0, p1, p2]) rfl ?_
  exact okg_fin (G := gt) R3.out (by omega) (Nat.le_refl _) (by omega) LB3.out _ _ _
theorem acr_bits : ∀ n, n < 16 → bits BinOp.or IntKind.i64 (bits BinOp.or IntKind.i64 (bits BinOp.and IntKind.i64 ((n : Nat) : Int) 12) (wrap64 (bits BinOp.and IntKind.i64 ((n : Nat) : Int) 1 * 2))) (bits BinOp.and IntKind.i64 ((n : Nat) : Int) 2 / 2) = ((acr n : Nat) : Int) := by decide +kernel
theorem across_any (n : Nat) (h : n < 16) (w : World) : Calls Try.prog 102 #[.int .i64 (n : Nat)] w fun e w' => e = .returned (.int .i64 (acr n : Nat)) ∧ w' = w := by
  have H := Lib.hid (acr_bits n h)
  go_enter Try.func102, Try.ntmps102
  go_wp2
  go_ret
  exact ⟨congrArg (fun z => Ending.returned (.int .i64 z)) H.out, rfl⟩
/-- Two numbers came back. -/
def NOut (a b : Int) (w : World) (e : Ending) (w' : World) : Prop := e = .returned (.tuple #[.int .i64 a, .int .i64 b]) ∧ Below w.heap.size w w'
set_option maxHeartbeats 800000 in
theorem pcomp_arg (a b : Int) (w : World) (h : ¬ ((0 ≤ a ∧ a < 16) ∧ (0 ≤ b ∧ b < 16))) : Calls Try.prog 54 #[.int .i64 a, .int .i64 b] w (NOut 0 2 w) := by
  by_cases ha : 0 ≤ a ∧ a < 16
  · have hb : decide (0 ≤ b ∧ b < 16) = false := by rw [decide_eq_false_iff_not]; exact fun x => h ⟨ha, x⟩
    have ha' : decide (0 ≤ a ∧ a < 16) = true := decide_eq_true ha
    have H1 := Lib.hid (fun u => (show Calls Try.prog 93 #[.int .i64 a] u fun e w' => e = .returned (.bool true) ∧ w' = u by have := isop_any a u; rw [ha'] at this; exact this))
    have H2 := Lib.hid (fun u => (show Calls Try.prog 93 #[.int .i64 b] u fun e w' => e = .returned (.bool false) ∧ w' = u by have := isop_any b u; rw [hb] at this; exact this))
    clear h ha hb ha'
    go_enter Try.func54, Try.ntmps54
    go_wp2_with fail
    refine (H1.out _).mono ?_
    rintro e w1 ⟨rfl, hw⟩
    subst w1
    go_wp2_with fail
    refine (H2.out _).mono ?_
    rintro e w1 ⟨rfl, hw⟩
    subst w1
    go_wp2
    go_ret2
    exact ⟨rfl, Below.refl _ _⟩
  · have ha' : decide (0 ≤ a ∧ a < 16) = false := decide_eq_false ha
    have H1 := Lib.hid (fun u => (show Calls Try.prog 93 #[.int .i64 a] u fun e w' => e = .returned (.bool false) ∧ w' = u by have := isop_any a u; rw [ha'] at this; exact this))
    clear h ha ha'
    go_enter Try.func54, Try.ntmps54
    go_wp2_with fail
    refine (H1.out _).mono ?_
    rintro e w1 ⟨rfl, hw⟩
    subst w1
    go_wp2
    go_ret2
    exact ⟨rfl, Below.refl _ _⟩
set_option maxHeartbeats 800000 in
theorem rcomp_arg (a b : Int) (w : World) (h : ¬ ((0 ≤ a ∧ a < 16) ∧ (0 ≤ b ∧ b < 16))) : Calls Try.prog 59 #[.int .i64 a, .int .i64 b] w (NOut 0 2 w) := by
  by_cases ha : 0 ≤ a ∧ a < 16
  · have hb : decide (0 ≤ b ∧ b < 16) = false := by rw [decide_eq_false_iff_not]; exact fun x => h ⟨ha, x⟩
    have ha' : decide (0 ≤ a ∧ a < 16) = true := decide_eq_true ha
    have H1 := Lib.hid (fun u => (show Calls Try.prog 67 #[.int .i64 a] u fun e w' => e = .returned (.bool true) ∧ w' = u by have := ris_any a u; rw [ha'] at this; exact this))
    have H2 := Lib.hid (fun u => (show Calls Try.prog 67 #[.int .i64 b] u fun e w' => e = .returned (.bool false) ∧ w' = u by have := ris_any b u; rw [hb] at this; exact this))
    clear h ha hb ha'
    go_enter Try.func59, Try.ntmps59
    go_wp2_with fail
    refine (H1.out _).mono ?_
    rintro e w1 ⟨rfl, hw⟩
    subst w1
    go_wp2_with fail
    refine (H2.out _).mono ?_
    rintro e w1 ⟨rfl, hw⟩
    subst w1
    go_wp2
    go_ret2
    exact ⟨rfl, Below.refl _ _⟩
  · have ha' : decide (0 ≤ a ∧ a < 16) = false := decide_eq_false ha
    have H1 := Lib.hid (fun u => (show Calls Try.prog 67 #[.int .i64 a] u fun e w' => e = .returned (.bool false) ∧ w' = u by have := ris_any a u; rw [ha'] at this; exact this))
    clear h ha ha'
    go_enter Try.func59, Try.ntmps59
    go_wp2_with fail
    refine (H1.out _).mono ?_
    rintro e w1 ⟨rfl, hw⟩
    subst w1
    go_wp2
    go_ret2
    exact ⟨rfl, Below.refl _ _⟩
set_option maxHeartbeats 800000 in
theorem pinv_arg (a : Int) (w : World) (h : ¬ (0 ≤ a ∧ a < 16)) : Calls Try.prog 55 #[.int .i64 a] w (NOut 0 2 w) := by
  have ha' : decide (0 ≤ a ∧ a < 16) = false := decide_eq_false h
  have H1 := Lib.hid (fun u => (show Calls Try.prog 93 #[.int .i64 a] u fun e w' => e = .returned (.bool false) ∧ w' = u by have := isop_any a u; rw [ha'] at this; exact this))
  clear h ha'
  go_enter Try.func55, Try.ntmps55
  go_wp2_with fail
  refine (H1.out _).mono ?_
  rintro e w1 ⟨rfl, hw⟩
  subst w1
  go_wp2
  go_ret2
  exact ⟨rfl, Below.refl _ _⟩
set_option maxHeartbeats 800000 in
theorem rinv_arg (a : Int) (w : World) (h : ¬ (0 ≤ a ∧ a < 16)) : Calls Try.prog 60 #[.int .i64 a] w (NOut 0 2 w) := by
  have ha' : decide (0 ≤ a ∧ a < 16) = false := decide_eq_false h
  have H1 := Lib.hid (fun u => (show Calls Try.prog 67 #[.int .i64 a] u fun e w' => e = .returned (.bool false) ∧ w' = u by have := ris_any a u; rw [ha'] at this; exact this))
  clear h ha'
  go_enter Try.func60, Try.ntmps60
  go_wp2_with fail
  refine (H1.out _).mono ?_
  rintro e w1 ⟨rfl, hw⟩
  subst w1
  go_wp2
  go_ret2
  exact ⟨rfl, Below.refl _ _⟩
set_option maxHeartbeats 800000 in
theorem pcomp_ok (m n : Nat) (hm : m < 16) (hn : n < 16) (w : World) : Calls Try.prog 54 #[.int .i64 (m : Nat), .int .i64 (n : Nat)] w (NOut (cmp m n : Nat) 0 w) := by
  have HI := Lib.hid (fun (x : Nat) (hx : x < 16) u => (show Calls Try.prog 93 #[.int .i64 (x : Nat)] u fun e w' => e = .returned (.bool true) ∧ w' = u by have := isop_any (x : Nat) u; rw [decide_eq_true (by omega)] at this; exact this))
  have HX := Lib.hid (fun (y : Nat) (hy : y < 16) => xor_nat m hm y hy)
  obtain ⟨b, hb⟩ : ∃ b, decide (m / 4 % 2 = 1) = b := ⟨_, rfl⟩
  have h4 := bit4 m hm
  rw [hb] at h4
  have HC := Lib.hid (show cmp m n = m ^^^ (if b then acr n else n) by unfold cmp; rw [← hb]; simp)
  clear hb
  cases b
  · have hx := HX.out n hn
    go_enter Try.func54, Try.ntmps54
    go_wp2_with fail
    refine (HI.out m hm _).mono ?_
    rintro e w1 ⟨rfl, hw⟩
    subst w1
    go_wp2_with fail
    refine (HI.out n hn _).mono ?_
    rintro e w1 ⟨rfl, hw⟩
    subst w1
    go_wp2
    go_ret2
    exact ⟨by rw [HC.out]; rfl, Below.refl _ _⟩
  · have hx := HX.out (acr n) (acr_lt n hn)
    go_enter Try.func54, Try.ntmps54
    go_wp2_with fail
    refine (HI.out m hm _).mono ?_
    rintro e w1 ⟨rfl, hw⟩
    subst w1
    go_wp2_with fail
    refine (HI.out n hn _).mono ?_
    rintro e w1 ⟨rfl, hw⟩
    subst w1
    go_wp2_with fail
    refine (across_any n hn _).mono ?_
    rintro e w1 ⟨rfl, hw⟩
    subst w1
    go_wp2
    go_ret2
    exact ⟨by rw [HC.out]; rfl, Below.refl _ _⟩
set_option maxHeartbeats 800000 in
theorem pinv_ok (m : Nat) (hm : m < 16) (w : World) : Calls Try.prog 55 #[.int .i64 (m : Nat)] w (NOut (inv m : Nat) 0 w) := by
  have HI := Lib.hid (fun (x : Nat) (hx : x < 16) u => (show Calls Try.prog 93 #[.int .i64 (x : Nat)] u fun e w' => e = .returned (.bool true) ∧ w' = u by have := isop_any (x : Nat) u; rw [decide_eq_true (by omega)] at this; exact this))
  obtain ⟨b, hb⟩ : ∃ b, decide (m / 4 % 2 = 1) = b := ⟨_, rfl⟩
  have h4 := bit4 m hm
  rw [hb] at h4
  have HC := Lib.hid (show inv m = (if b then acr m else m) by unfold inv; rw [← hb]; simp)
  clear hb
  cases b
  · go_enter Try.func55, Try.ntmps55
    go_wp2_with fail
    refine (HI.out m hm _).mono ?_
    rintro e w1 ⟨rfl, hw⟩
    subst w1
    go_wp2
    go_ret2
    exact ⟨by rw [HC.out]; rfl, Below.refl _ _⟩
  · go_enter Try.func55, Try.ntmps55
    go_wp2_with fail
    refine (HI.out m hm _).mono ?_
    rintro e w1 ⟨rfl, hw⟩
    subst w1
    go_wp2_with fail
    refine (across_any m hm _).mono ?_
    rintro e w1 ⟨rfl, hw⟩
    subst w1
    go_wp2
    go_ret2
    exact ⟨by rw [HC.out]; rfl, Below.refl _ _⟩
end Go.Proofs.Ytjbofdgdcnfmoaa
