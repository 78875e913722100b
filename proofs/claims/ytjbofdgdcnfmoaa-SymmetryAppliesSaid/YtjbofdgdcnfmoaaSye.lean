/- Both sides' Apply. -/
import Derived.Test.YtjbofdgdcnfmoaaSyb
import Derived.Test.YtjbofdgdcnfmoaaSyc
import Derived.Test.YtjbofdgdcnfmoaaSyd
namespace Go.Proofs.Ytjbofdgdcnfmoaa
open Go.RowKit
set_option maxRecDepth 100000
set_option linter.unusedVariables false
set_option linter.unusedSimpArgs false

/-- A grid and an error came back. -/
def AOut (w : World) (G : GD) (err : Int) (e : Ending) (w' : World) : Prop := ∃ A d, e = .returned (.tuple #[.agg #[.int .i64 (G.W : Nat), .int .i64 (G.H : Nat), .slice A (G.W * G.H) d], .int .i64 err]) ∧ (0 < G.W * G.H → ∃ k, A = some ⟨k, 0, none⟩ ∧ w.heap.size ≤ k ∧ Row w' k (G.W * G.H) G.f) ∧ Below w.heap.size w w'
def gz : GD := ⟨0, 0, fun _ => false⟩
theorem aout_err {w v : World} {r : Nat} {err : Int} (hr : w.heap.size ≤ r) (hb : Below w.heap.size w v) (a b c : Value) :
    AOut w gz err (.returned (.tuple #[.agg #[.int .i64 0, .int .i64 0, .slice none 0 0], .int .i64 err])) (((v.setCell ⟨r, 0, none⟩ a).setCell ⟨r, 1, none⟩ b).setCell ⟨r, 2, none⟩ c) :=
  ⟨none, 0, rfl, fun h => absurd h (by decide), ((hb.setCell hr _).setCell hr _).setCell hr _⟩
theorem aout_ok {w v : World} {r k d : Nat} {G : GD} (h : Row v k (G.W * G.H) G.f) (hk : w.heap.size ≤ k) (hr : w.heap.size ≤ r) (hne : k ≠ r) (hb : Below w.heap.size w v) (a b c : Value) :
    AOut w G 0 (.returned (.tuple #[.agg #[.int .i64 (G.W : Nat), .int .i64 (G.H : Nat), .slice (some ⟨k, 0, none⟩) (G.W * G.H) d], .int .i64 0])) (((v.setCell ⟨r, 0, none⟩ a).setCell ⟨r, 1, none⟩ b).setCell ⟨r, 2, none⟩ c) :=
  ⟨_, d, rfl, fun _ => ⟨k, rfl, hk, ((h.far (by simp; omega) _).far (by simp; omega) _).far (by simp; omega) _⟩, ((hb.setCell hr _).setCell hr _).setCell hr _⟩
theorem boxes3 (w : World) (W H : Int) (v : Value) :
    Box (((w.alloc (.cells #[.int .i64 W, .int .i64 H, v] 24)).alloc (.cells #[.int .i64 0, .int .i64 0, .slice none 0 0] 24)).alloc (.cells #[.int .i64 W, .int .i64 H, v] 24)) w.heap.size W H v ∧ Box (((w.alloc (.cells #[.int .i64 W, .int .i64 H, v] 24)).alloc (.cells #[.int .i64 0, .int .i64 0, .slice none 0 0] 24)).alloc (.cells #[.int .i64 W, .int .i64 H, v] 24)) (w.heap.size + 1) 0 0 (.slice none 0 0) ∧
    Box (((w.alloc (.cells #[.int .i64 W, .int .i64 H, v] 24)).alloc (.cells #[.int .i64 0, .int .i64 0, .slice none 0 0] 24)).alloc (.cells #[.int .i64 W, .int .i64 H, v] 24)) (w.heap.size + 1 + 1) W H v ∧ Below w.heap.size w (((w.alloc (.cells #[.int .i64 W, .int .i64 H, v] 24)).alloc (.cells #[.int .i64 0, .int .i64 0, .slice none 0 0] 24)).alloc (.cells #[.int .i64 W, .int .i64 H, v] 24)) := by
  obtain ⟨h1, h2, h3⟩ := boxes2 w W H 0 0 v (.slice none 0 0)
  have h4 := Box.new ((w.alloc (.cells #[.int .i64 W, .int .i64 H, v] 24)).alloc (.cells #[.int .i64 0, .int .i64 0, .slice none 0 0] 24)) W H v
  simp only [World.size_alloc] at h4
  exact ⟨h1.alloc _, h2.alloc _, h4, h3.alloc (by simp; omega) _⟩
set_option maxHeartbeats 1600000 in
theorem papply_err (W H : Int) (A : Option Addr) (n c : Nat) (v : Int) (w : World) (hn : n ≤ 4200) (z : Int) (hx : schk W H n = z) (hne : (z != 0) = true) :
    Calls Try.prog 47 #[.agg #[.int .i64 W, .int .i64 H, .slice A n c], .int .i64 v] w (AOut w gz z) := by
  obtain ⟨h1, h2, h3, h4⟩ := boxes3 w W H (.slice A n c)
  have HC := Lib.hid (fun (u : World) (kk : Nat) (hb : Box u kk W H (.slice A n c)) => (show Calls Try.prog 92 #[.slice (some ⟨kk, 0, none⟩) 1 1] u fun e w' => e = .returned (.int .i64 z) ∧ Below u.heap.size u w' by have := check1_any W H A n c kk u hn hb; rw [hx] at this; exact this))
  have X0 := Lib.hid h1
  have Y0 := Lib.hid h2
  have B0 := Lib.hid h3
  have LB0 := Lib.hid h4
  clear h1 h2 h3 h4 hx
  go_enter Try.func47, Try.ntmps47
  obtain ⟨q0, q1, q2, q3, q4, q5, q6⟩ := (boxes2 w W H 0 0 (.slice A n c) (.slice none 0 0)).1.all
  go_wp2_with fail
  clear q0 q1 q2 q3 q4 q5 q6
  refine (HC.out _ _ B0.out).mono ?_
  rintro e w1 ⟨rfl, hb⟩
  have LB1 := Lib.hid (LB0.out.trans (hb.mono LB0.out.size))
  have X1 := Lib.hid (X0.out.below hb X0.out.lt)
  have Y1 := Lib.hid (Y0.out.below hb Y0.out.lt)
  have hsz := hb.size
  simp at hsz
  clear hb
  obtain ⟨p0, p1, p2, p3, p4, p5, p6⟩ := Y1.out.all
  go_wp2
  refine bodyPost_ret (v := .tuple #[.agg #[.int .i64 0, .int .i64 0, .slice none 0 0], .int .i64 z]) (by simp [results, Try.results47, go_sem, p0, p1, p2]) rfl ?_
  exact aout_err (by omega) LB1.out _ _ _
set_option maxHeartbeats 1600000 in
theorem rapply_err (W H : Int) (A : Option Addr) (n c : Nat) (v : Int) (w : World) (hn : n ≤ 4200) (z : Int) (hx : schk W H n = z) (hne : (z != 0) = true) :
    Calls Try.prog 58 #[.agg #[.int .i64 W, .int .i64 H, .slice A n c], .int .i64 v] w (AOut w gz z) := by
  obtain ⟨h1, h2, h4⟩ := boxes2 w W H 0 0 (.slice A n c) (.slice none 0 0)
  have HC := Lib.hid (fun (u : World) => (show Calls Try.prog 103 #[.agg #[.int .i64 W, .int .i64 H, .slice A n c]] u fun e w' => e = .returned (.int .i64 z) ∧ Below u.heap.size u w' by have := start_any W H A n c u hn; rw [hx] at this; exact this))
  have X0 := Lib.hid h1
  have Y0 := Lib.hid h2
  have LB0 := Lib.hid h4
  clear h1 h2 h4 hx
  go_enter Try.func58, Try.ntmps58
  obtain ⟨q0, q1, q2, q3, q4, q5, q6⟩ := X0.out.all
  go_wp2_with fail
  clear q0 q1 q2 q3 q4 q5 q6
  refine (HC.out _).mono ?_
  rintro e w1 ⟨rfl, hb⟩
  have LB1 := Lib.hid (LB0.out.trans (hb.mono LB0.out.size))
  have X1 := Lib.hid (X0.out.below hb X0.out.lt)
  have Y1 := Lib.hid (Y0.out.below hb Y0.out.lt)
  have hsz := hb.size
  simp at hsz
  clear hb
  obtain ⟨q0, q1, q2, q3, q4, q5, q6⟩ := X1.out.all
  go_wp2_with fail
  clear q0 q1 q2 q3 q4 q5 q6
  refine (HC.out _).mono ?_
  rintro e w2 ⟨rfl, hb⟩
  have LB2 := Lib.hid (LB1.out.trans (hb.mono LB1.out.size))
  have Y2 := Lib.hid (Y1.out.below hb Y1.out.lt)
  have hs2 := hb.size
  clear hb
  obtain ⟨p0, p1, p2, p3, p4, p5, p6⟩ := Y2.out.all
  go_wp2
  refine bodyPost_ret (v := .tuple #[.agg #[.int .i64 0, .int .i64 0, .slice none 0 0], .int .i64 z]) (by simp [results, Try.results58, go_sem, p0, p1, p2]) rfl ?_
  exact aout_err (by omega) LB2.out _ _ _
set_option maxHeartbeats 1600000 in
theorem papply_arg (W H : Int) (A : Option Addr) (n c : Nat) (v : Int) (w : World) (hn : n ≤ 4200) (hx : schk W H n = 0) (hv : ¬ (0 ≤ v ∧ v < 16)) :
    Calls Try.prog 47 #[.agg #[.int .i64 W, .int .i64 H, .slice A n c], .int .i64 v] w (AOut w gz 2) := by
  obtain ⟨h1, h2, h3, h4⟩ := boxes3 w W H (.slice A n c)
  have HC := Lib.hid (fun (u : World) (kk : Nat) (hb : Box u kk W H (.slice A n c)) => (show Calls Try.prog 92 #[.slice (some ⟨kk, 0, none⟩) 1 1] u fun e w' => e = .returned (.int .i64 0) ∧ Below u.heap.size u w' by have := check1_any W H A n c kk u hn hb; rw [hx] at this; exact this))
  have X0 := Lib.hid h1
  have Y0 := Lib.hid h2
  have B0 := Lib.hid h3
  have LB0 := Lib.hid h4
  have hd : decide (0 ≤ v ∧ v < 16) = false := by rw [decide_eq_false_iff_not]; exact hv
  have HI := Lib.hid (fun u => (show Calls Try.prog 93 #[.int .i64 v] u fun e w' => e = .returned (.bool false) ∧ w' = u by have := isop_any v u; rw [hd] at this; exact this))
  clear hd hv
  clear h1 h2 h3 h4 hx
  go_enter Try.func47, Try.ntmps47
  obtain ⟨q0, q1, q2, q3, q4, q5, q6⟩ := (boxes2 w W H 0 0 (.slice A n c) (.slice none 0 0)).1.all
  go_wp2_with fail
  clear q0 q1 q2 q3 q4 q5 q6
  refine (HC.out _ _ B0.out).mono ?_
  rintro e w1 ⟨rfl, hb⟩
  have LB1 := Lib.hid (LB0.out.trans (hb.mono LB0.out.size))
  have X1 := Lib.hid (X0.out.below hb X0.out.lt)
  have Y1 := Lib.hid (Y0.out.below hb Y0.out.lt)
  have hsz := hb.size
  simp at hsz
  clear hb
  go_wp2_with fail
  refine (HI.out _).mono ?_
  rintro e w2 ⟨rfl, hww⟩
  subst w2
  obtain ⟨p0, p1, p2, p3, p4, p5, p6⟩ := Y1.out.all
  go_wp2
  refine bodyPost_ret (v := .tuple #[.agg #[.int .i64 0, .int .i64 0, .slice none 0 0], .int .i64 2]) (by simp [results, Try.results47, go_sem, p0, p1, p2]) rfl ?_
  exact aout_err (by omega) LB1.out _ _ _
set_option maxHeartbeats 1600000 in
theorem rapply_arg (W H : Int) (A : Option Addr) (n c : Nat) (v : Int) (w : World) (hn : n ≤ 4200) (hx : schk W H n = 0) (hv : ¬ (0 ≤ v ∧ v < 16)) :
    Calls Try.prog 58 #[.agg #[.int .i64 W, .int .i64 H, .slice A n c], .int .i64 v] w (AOut w gz 2) := by
  obtain ⟨h1, h2, h4⟩ := boxes2 w W H 0 0 (.slice A n c) (.slice none 0 0)
  have HC := Lib.hid (fun (u : World) => (show Calls Try.prog 103 #[.agg #[.int .i64 W, .int .i64 H, .slice A n c]] u fun e w' => e = .returned (.int .i64 0) ∧ Below u.heap.size u w' by have := start_any W H A n c u hn; rw [hx] at this; exact this))
  have X0 := Lib.hid h1
  have Y0 := Lib.hid h2
  have LB0 := Lib.hid h4
  have hd : decide (0 ≤ v ∧ v < 16) = false := by rw [decide_eq_false_iff_not]; exact hv
  have HI := Lib.hid (fun u => (show Calls Try.prog 67 #[.int .i64 v] u fun e w' => e = .returned (.bool false) ∧ w' = u by have := ris_any v u; rw [hd] at this; exact this))
  clear hd hv
  clear h1 h2 h4 hx
  go_enter Try.func58, Try.ntmps58
  obtain ⟨q0, q1, q2, q3, q4, q5, q6⟩ := X0.out.all
  go_wp2_with fail
  clear q0 q1 q2 q3 q4 q5 q6
  refine (HC.out _).mono ?_
  rintro e w1 ⟨rfl, hb⟩
  have LB1 := Lib.hid (LB0.out.trans (hb.mono LB0.out.size))
  have X1 := Lib.hid (X0.out.below hb X0.out.lt)
  have Y1 := Lib.hid (Y0.out.below hb Y0.out.lt)
  have hsz := hb.size
  simp at hsz
  clear hb
  obtain ⟨q0, q1, q2, q3, q4, q5, q6⟩ := X1.out.all
  go_wp2_with fail
  clear q0 q1 q2 q3 q4 q5 q6
  refine (HI.out _).mono ?_
  rintro e w2 ⟨rfl, hww⟩
  subst w2
  obtain ⟨p0, p1, p2, p3, p4, p5, p6⟩ := Y1.out.all
  go_wp2
  refine bodyPost_ret (v := .tuple #[.agg #[.int .i64 0, .int .i64 0, .slice none 0 0], .int .i64 2]) (by simp [results, Try.results58, go_sem, p0, p1, p2]) rfl ?_
  exact aout_err (by omega) LB1.out _ _ _
set_option maxHeartbeats 1600000 in
theorem papply_ok (G : GD) (ok : G.Ok) (b o d : Nat) (v : Int) (b1 b2 b4 b8 : Bool) (g1 : (bits BinOp.and IntKind.i64 v 1 != 0) = b1) (g2 : (bits BinOp.and IntKind.i64 v 2 != 0) = b2) (g4 : (bits BinOp.and IntKind.i64 v 4 != 0) = b4) (g8 : (bits BinOp.and IntKind.i64 v 8 != 0) = b8) (w : World) (hr : Holds w w.heap.size (some ⟨b, o, none⟩) (G.W * G.H) G.f) (hx : schk G.W G.H (G.W * G.H) = 0) (hv : 0 ≤ v ∧ v < 16) :
    Calls Try.prog 47 #[.agg #[.int .i64 (G.W : Nat), .int .i64 (G.H : Nat), .slice (some ⟨b, o, none⟩) (G.W * G.H) d], .int .i64 v] w (AOut w (G.apb b1 b2 b4 b8) 0) := by
  obtain ⟨h1, h2, h3, h4⟩ := boxes3 w (G.W : Nat) (G.H : Nat) (.slice (some ⟨b, o, none⟩) (G.W * G.H) d)
  have HC := Lib.hid (fun (u : World) (kk : Nat) (hb : Box u kk (G.W : Nat) (G.H : Nat) (.slice (some ⟨b, o, none⟩) (G.W * G.H) d)) => (show Calls Try.prog 92 #[.slice (some ⟨kk, 0, none⟩) 1 1] u fun e w' => e = .returned (.int .i64 0) ∧ Below u.heap.size u w' by have := check1_any (G.W : Nat) (G.H : Nat) (some ⟨b, o, none⟩) (G.W * G.H) d kk u (by have := Nat.mul_le_mul ok.w1 ok.h1; omega) hb; rw [hx] at this; exact this))
  have X0 := Lib.hid h1
  have Y0 := Lib.hid h2
  have B0 := Lib.hid h3
  have LB0 := Lib.hid h4
  have hd : decide (0 ≤ v ∧ v < 16) = true := by rw [decide_eq_true_iff]; exact hv
  have HA := Lib.hid (fun (u : World) (h : Below w.heap.size w u) => apply_any G ok b o d v b1 b2 b4 b8 g1 g2 g4 g8 u ((hr.below h).more h.size))
  clear g1 g2 g4 g8 hr ok
  have HI := Lib.hid (fun u => (show Calls Try.prog 93 #[.int .i64 v] u fun e w' => e = .returned (.bool true) ∧ w' = u by have := isop_any v u; rw [hd] at this; exact this))
  clear hd hv
  clear h1 h2 h3 h4 hx
  go_enter Try.func47, Try.ntmps47
  obtain ⟨q0, q1, q2, q3, q4, q5, q6⟩ := (boxes2 w (G.W : Nat) (G.H : Nat) 0 0 (.slice (some ⟨b, o, none⟩) (G.W * G.H) d) (.slice none 0 0)).1.all
  go_wp2_with fail
  clear q0 q1 q2 q3 q4 q5 q6
  refine (HC.out _ _ B0.out).mono ?_
  rintro e w1 ⟨rfl, hb⟩
  have LB1 := Lib.hid (LB0.out.trans (hb.mono LB0.out.size))
  have X1 := Lib.hid (X0.out.below hb X0.out.lt)
  have Y1 := Lib.hid (Y0.out.below hb Y0.out.lt)
  have hsz := hb.size
  simp at hsz
  clear hb
  go_wp2_with fail
  refine (HI.out _).mono ?_
  rintro e w2 ⟨rfl, hww⟩
  subst w2
  obtain ⟨q0, q1, q2, q3, q4, q5, q6⟩ := X1.out.all
  go_wp2_with fail
  clear q0 q1 q2 q3 q4 q5 q6
  refine (HA.out _ LB1.out).mono ?_
  rintro e w3 ⟨k, d', rfl, hk, hrow, hb⟩
  have LB3 := Lib.hid (LB1.out.trans (hb.mono LB1.out.size))
  have Y3 := Lib.hid (Y1.out.below hb Y1.out.lt)
  have R3 := Lib.hid hrow
  clear hb hrow
  generalize G.apb b1 b2 b4 b8 = G2 at *
  obtain ⟨p0, p1, p2, p3, p4, p5, p6⟩ := Y3.out.all
  go_wp2
  refine bodyPost_ret (v := .tuple #[.agg #[.int .i64 (G2.W : Nat), .int .i64 (G2.H : Nat), .slice (some ⟨k, 0, none⟩) (G2.W * G2.H) d'], .int .i64 0]) (by simp [results, Try.results47, go_sem, p0, p1, p2]) rfl ?_
  exact aout_ok R3.out (by omega) (by omega) (by omega) LB3.out _ _ _
set_option maxHeartbeats 1600000 in
theorem rapply_ok (G : GD) (ok : G.Ok) (b o d : Nat) (v : Int) (b1 b2 b4 b8 : Bool) (g1 : (bits BinOp.and IntKind.i64 v 1 != 0) = b1) (g2 : (bits BinOp.and IntKind.i64 v 2 != 0) = b2) (g4 : (bits BinOp.and IntKind.i64 v 4 != 0) = b4) (g8 : (bits BinOp.and IntKind.i64 v 8 != 0) = b8) (w : World) (hr : Holds w w.heap.size (some ⟨b, o, none⟩) (G.W * G.H) G.f) (hx : schk G.W G.H (G.W * G.H) = 0) (hv : 0 ≤ v ∧ v < 16) :
    Calls Try.prog 58 #[.agg #[.int .i64 (G.W : Nat), .int .i64 (G.H : Nat), .slice (some ⟨b, o, none⟩) (G.W * G.H) d], .int .i64 v] w (AOut w (G.apb b1 b2 b4 b8) 0) := by
  obtain ⟨h1, h2, h4⟩ := boxes2 w (G.W : Nat) (G.H : Nat) 0 0 (.slice (some ⟨b, o, none⟩) (G.W * G.H) d) (.slice none 0 0)
  have HC := Lib.hid (fun (u : World) => (show Calls Try.prog 103 #[.agg #[.int .i64 (G.W : Nat), .int .i64 (G.H : Nat), .slice (some ⟨b, o, none⟩) (G.W * G.H) d]] u fun e w' => e = .returned (.int .i64 0) ∧ Below u.heap.size u w' by have := start_any (G.W : Nat) (G.H : Nat) (some ⟨b, o, none⟩) (G.W * G.H) d u (by have := Nat.mul_le_mul ok.w1 ok.h1; omega); rw [hx] at this; exact this))
  have X0 := Lib.hid h1
  have Y0 := Lib.hid h2
  have LB0 := Lib.hid h4
  have hd : decide (0 ≤ v ∧ v < 16) = true := by rw [decide_eq_true_iff]; exact hv
  have HA := Lib.hid (fun (u : World) (h : Below w.heap.size w u) => applied_any G ok b o d v b1 b2 b4 b8 g1 g2 g4 g8 u ((hr.below h).more h.size))
  clear g1 g2 g4 g8 hr ok
  have HI := Lib.hid (fun u => (show Calls Try.prog 67 #[.int .i64 v] u fun e w' => e = .returned (.bool true) ∧ w' = u by have := ris_any v u; rw [hd] at this; exact this))
  clear hd hv
  clear h1 h2 h4 hx
  go_enter Try.func58, Try.ntmps58
  obtain ⟨q0, q1, q2, q3, q4, q5, q6⟩ := X0.out.all
  go_wp2_with fail
  clear q0 q1 q2 q3 q4 q5 q6
  refine (HC.out _).mono ?_
  rintro e w1 ⟨rfl, hb⟩
  have LB1 := Lib.hid (LB0.out.trans (hb.mono LB0.out.size))
  have X1 := Lib.hid (X0.out.below hb X0.out.lt)
  have Y1 := Lib.hid (Y0.out.below hb Y0.out.lt)
  have hsz := hb.size
  simp at hsz
  clear hb
  obtain ⟨q0, q1, q2, q3, q4, q5, q6⟩ := X1.out.all
  go_wp2_with fail
  clear q0 q1 q2 q3 q4 q5 q6
  refine (HI.out _).mono ?_
  rintro e w2 ⟨rfl, hww⟩
  subst w2
  obtain ⟨q0, q1, q2, q3, q4, q5, q6⟩ := X1.out.all
  go_wp2_with fail
  clear q0 q1 q2 q3 q4 q5 q6
  refine (HA.out _ LB1.out).mono ?_
  rintro e w3 ⟨k, d', rfl, hk, hrow, hb⟩
  have LB3 := Lib.hid (LB1.out.trans (hb.mono LB1.out.size))
  have Y3 := Lib.hid (Y1.out.below hb Y1.out.lt)
  have R3 := Lib.hid hrow
  clear hb hrow
  generalize G.apb b1 b2 b4 b8 = G2 at *
  obtain ⟨p0, p1, p2, p3, p4, p5, p6⟩ := Y3.out.all
  go_wp2
  refine bodyPost_ret (v := .tuple #[.agg #[.int .i64 (G2.W : Nat), .int .i64 (G2.H : Nat), .slice (some ⟨k, 0, none⟩) (G2.W * G2.H) d'], .int .i64 0]) (by simp [results, Try.results58, go_sem, p0, p1, p2]) rfl ?_
  exact aout_ok R3.out (by omega) (by omega) (by omega) LB3.out _ _ _
theorem GD.apb_le {G : GD} (ok : G.Ok) (b1 b2 b4 b8 : Bool) : (G.apb b1 b2 b4 b8).W * (G.apb b1 b2 b4 b8).H ≤ 4096 := Nat.mul_le_mul (ok.apb b1 b2 b4 b8).w1 (ok.apb b1 b2 b4 b8).h1
/-- Both Applies hand back the same. -/
theorem ap_two (W H : Int) (A : Option Addr) (n c : Nat) (f : Nat → Bool) (v : Int) (w0 : World) (h0 : Holds w0 w0.heap.size A n f) (hn : n ≤ 4200) : ∃ (G : GD) (z : Int), G.W * G.H ≤ 4200 ∧
    ∀ w, Holds w w.heap.size A n f → Calls Try.prog 47 #[.agg #[.int .i64 W, .int .i64 H, .slice A n c], .int .i64 v] w (AOut w G z) ∧ Calls Try.prog 58 #[.agg #[.int .i64 W, .int .i64 H, .slice A n c], .int .i64 v] w (AOut w G z) := by
  by_cases hx : schk W H n = 0
  · by_cases hv : 0 ≤ v ∧ v < 16
    · obtain ⟨a1, a2, a3⟩ := schk_ok hx
      obtain ⟨b1, b2, b3, b4, b5⟩ := chk_ok a1
      obtain ⟨W', rfl⟩ : ∃ W' : Nat, W = W' := ⟨W.toNat, (Int.toNat_of_nonneg (by omega)).symm⟩
      obtain ⟨H', rfl⟩ : ∃ H' : Nat, H = H' := ⟨H.toNat, (Int.toNat_of_nonneg (by omega)).symm⟩
      obtain rfl : n = W' * H' := by exact_mod_cast b5
      have ok : (⟨W', H', f⟩ : GD).Ok := ⟨by show 1 ≤ W'; omega, by show W' ≤ 64; omega, by show 1 ≤ H'; omega, by show H' ≤ 64; omega⟩
      obtain ⟨b, o, rfl, _, _⟩ := h0 (Nat.mul_pos ok.w0 ok.h0)
      exact ⟨_, 0, Nat.le_trans (GD.apb_le ok _ _ _ _) (by omega), fun w hr => ⟨papply_ok ⟨W', H', f⟩ ok b o c v _ _ _ _ rfl rfl rfl rfl w hr hx hv, rapply_ok ⟨W', H', f⟩ ok b o c v _ _ _ _ rfl rfl rfl rfl w hr hx hv⟩⟩
    · exact ⟨gz, 2, by decide, fun w hr => ⟨papply_arg W H A n c v w hn hx hv, rapply_arg W H A n c v w hn hx hv⟩⟩
  · exact ⟨gz, _, by decide, fun w hr => ⟨papply_err W H A n c v w hn _ rfl (by simpa using hx), rapply_err W H A n c v w hn _ rfl (by simpa using hx)⟩⟩
end Go.Proofs.Ytjbofdgdcnfmoaa
