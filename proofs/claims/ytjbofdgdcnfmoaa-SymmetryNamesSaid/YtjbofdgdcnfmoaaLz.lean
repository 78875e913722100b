/- Least where the grid has no motif, and the statement SymmetryForms: the walk. -/
import Derived.Test.YtjbofdgdcnfmoaaRle
import Derived.Test.YtjbofdgdcnfmoaaSyw
import Derived.Test.YtjbofdgdcnfmoaaSb
namespace Go.Proofs.Ytjbofdgdcnfmoaa
open Go.RowKit
set_option maxRecDepth 100000
set_option linter.unusedVariables false
set_option linter.unusedSimpArgs false

set_option maxHeartbeats 800000 in
theorem ple_err (W H : Int) (A : Option Addr) (n c : Nat) (w : World) (hn : n ≤ 4200) (z : Int) (hx : schk W H n = z) (hne : (z != 0) = true) :
    Calls Try.prog 51 #[.agg #[.int .i64 W, .int .i64 H, .slice A n c]] w fun e w' => e = .returned (.tuple #[.agg #[.int .i64 0, .int .i64 0, .slice none 0 0], .int .i64 0, .int .i64 z]) ∧ Below w.heap.size w w' := by
  obtain ⟨h1, h2, h3, h4⟩ := boxes3 w W H (.slice A n c)
  have HC := Lib.hid (fun (u : World) (kk : Nat) (hb : Box u kk W H (.slice A n c)) => (show Calls Try.prog 92 #[.slice (some ⟨kk, 0, none⟩) 1 1] u fun e w' => e = .returned (.int .i64 z) ∧ Below u.heap.size u w' by have := check1_any W H A n c kk u hn hb; rw [hx] at this; exact this))
  have X0 := Lib.hid h1
  have Y0 := Lib.hid h2
  have B0 := Lib.hid h3
  have LB0 := Lib.hid h4
  clear h1 h2 h3 h4 hx
  go_enter Try.func51, Try.ntmps51
  obtain ⟨q0, q1, q2, q3, q4, q5, q6⟩ := (boxes2 w W H 0 0 (.slice A n c) (.slice none 0 0)).1.all
  go_wp2_with fail
  clear q0 q1 q2 q3 q4 q5 q6
  refine (HC.out _ _ B0.out).mono ?_
  rintro e w1 ⟨rfl, hb⟩
  have LB1 := Lib.hid (LB0.out.trans (hb.mono LB0.out.size))
  have Y1 := Lib.hid (Y0.out.below hb Y0.out.lt)
  clear hb
  obtain ⟨p0, p1, p2, p3, p4, p5, p6⟩ := Y1.out.all
  go_wp2
  obtain ⟨z0, z1, z2, _⟩ := (box_set3 Y1.out 0 0 (.slice none 0 0)).all
  exact bodyPost_ret (v := .tuple #[.agg #[.int .i64 0, .int .i64 0, .slice none 0 0], .int .i64 0, .int .i64 z]) (by simp [results, Try.results51, go_sem, z0, z1, z2]) rfl ⟨rfl, ((LB1.out.setCell (Nat.le_succ _) _).setCell (Nat.le_succ _) _).setCell (Nat.le_succ _) _⟩
set_option maxHeartbeats 800000 in
theorem rle_err (W H : Int) (A : Option Addr) (n c : Nat) (w : World) (hn : n ≤ 4200) (z : Int) (hx : schk W H n = z) (hne : (z != 0) = true) :
    Calls Try.prog 64 #[.agg #[.int .i64 W, .int .i64 H, .slice A n c]] w fun e w' => e = .returned (.tuple #[.agg #[.int .i64 0, .int .i64 0, .slice none 0 0], .int .i64 0, .int .i64 z]) ∧ Below w.heap.size w w' := by
  obtain ⟨h1, h2, h4⟩ := boxes2 w W H 0 0 (.slice A n c) (.slice none 0 0)
  have HC := Lib.hid (fun (u : World) => (show Calls Try.prog 103 #[.agg #[.int .i64 W, .int .i64 H, .slice A n c]] u fun e w' => e = .returned (.int .i64 z) ∧ Below u.heap.size u w' by have := start_any W H A n c u hn; rw [hx] at this; exact this))
  have X0 := Lib.hid h1
  have Y0 := Lib.hid h2
  have LB0 := Lib.hid h4
  clear h1 h2 h4 hx
  go_enter Try.func64, Try.ntmps64
  obtain ⟨q0, q1, q2, q3, q4, q5, q6⟩ := X0.out.all
  go_wp2_with fail
  clear q0 q1 q2 q3 q4 q5 q6
  refine (HC.out _).mono ?_
  rintro e w1 ⟨rfl, hb⟩
  have LB1 := Lib.hid (LB0.out.trans (hb.mono LB0.out.size))
  have X1 := Lib.hid (X0.out.below hb X0.out.lt)
  have Y1 := Lib.hid (Y0.out.below hb Y0.out.lt)
  clear hb
  obtain ⟨q0, q1, q2, q3, q4, q5, q6⟩ := X1.out.all
  go_wp2_with fail
  clear q0 q1 q2 q3 q4 q5 q6
  refine (HC.out _).mono ?_
  rintro e w2 ⟨rfl, hb⟩
  have LB2 := Lib.hid (LB1.out.trans (hb.mono LB1.out.size))
  have Y2 := Lib.hid (Y1.out.below hb Y1.out.lt)
  clear hb
  obtain ⟨p0, p1, p2, p3, p4, p5, p6⟩ := Y2.out.all
  go_wp2
  obtain ⟨z0, z1, z2, _⟩ := (box_set3 Y2.out 0 0 (.slice none 0 0)).all
  exact bodyPost_ret (v := .tuple #[.agg #[.int .i64 0, .int .i64 0, .slice none 0 0], .int .i64 0, .int .i64 z]) (by simp [results, Try.results64, go_sem, z0, z1, z2]) rfl ⟨rfl, ((LB2.out.setCell (Nat.le_succ _) _).setCell (Nat.le_succ _) _).setCell (Nat.le_succ _) _⟩
set_option maxHeartbeats 400000 in
theorem forms_great (W H : Int) (A : Option Addr) (n c : Nat) (w : World) (hg : ∀ w, Calls Try.prog 57 #[.agg #[.int .i64 W, .int .i64 H, .slice A n c]] w fun e w' => e = .returned (.bool true) ∧ Below w.heap.size w w') :
    Calls Try.prog 13 #[.agg #[.int .i64 W, .int .i64 H, .slice A n c]] w fun e w' => e = .returned (.bool true) ∧ Below w.heap.size w w' := by
  have HG := Lib.hid hg
  clear hg
  have X0 := Lib.hid (Box.new w W H (.slice A n c))
  have LB0 := Lib.hid (show Below w.heap.size w (w.alloc (.cells #[.int .i64 W, .int .i64 H, .slice A n c] 24)) from (Below.refl _ _).alloc (Nat.le_refl _) _)
  go_enter Try.func13, Try.ntmps13
  obtain ⟨q0, q1, q2, q3, q4, q5, q6⟩ := X0.out.all
  go_wp2_with fail
  clear q0 q1 q2 q3 q4 q5 q6
  refine (HG.out _).mono ?_
  rintro e w1 ⟨rfl, hb⟩
  have X1 := Lib.hid (X0.out.below hb X0.out.lt)
  have LB1 := Lib.hid (LB0.out.trans (hb.mono LB0.out.size))
  clear hb X0 LB0
  go_wp2
  go_ret
  exact ⟨rfl, LB1.out⟩
set_option maxHeartbeats 800000 in
theorem forms_bad (W H : Int) (A : Option Addr) (n c : Nat) (w : World) (hn : n ≤ 500) (z : Int) (hx : schk W H n = z) (hne : (z != 0) = true) (hg : ∀ w, Calls Try.prog 57 #[.agg #[.int .i64 W, .int .i64 H, .slice A n c]] w fun e w' => e = .returned (.bool false) ∧ Below w.heap.size w w') :
    Calls Try.prog 13 #[.agg #[.int .i64 W, .int .i64 H, .slice A n c]] w fun e w' => e = .returned (.bool true) ∧ Below w.heap.size w w' := by
  have HG := Lib.hid hg
  have HP := Lib.hid (fun u => ple_err W H A n c u (by omega) z hx hne)
  have HR := Lib.hid (fun u => rle_err W H A n c u (by omega) z hx hne)
  clear hg hx hne
  have X0 := Lib.hid (Box.new w W H (.slice A n c))
  have LB0 := Lib.hid (show Below w.heap.size w (w.alloc (.cells #[.int .i64 W, .int .i64 H, .slice A n c] 24)) from (Below.refl _ _).alloc (Nat.le_refl _) _)
  go_enter Try.func13, Try.ntmps13
  obtain ⟨q0, q1, q2, q3, q4, q5, q6⟩ := X0.out.all
  go_wp2_with fail
  clear q0 q1 q2 q3 q4 q5 q6
  refine (HG.out _).mono ?_
  rintro e w1 ⟨rfl, hb⟩
  have X1 := Lib.hid (X0.out.below hb X0.out.lt)
  have LB1 := Lib.hid (LB0.out.trans (hb.mono LB0.out.size))
  clear hb X0 LB0
  obtain ⟨q0, q1, q2, q3, q4, q5, q6⟩ := X1.out.all
  go_wp2_with fail
  clear q0 q1 q2 q3 q4 q5 q6
  refine (HP.out _).mono ?_
  rintro e w2 ⟨rfl, hb⟩
  have hba := (show Below _ _ (w2.alloc (.cells #[.int .i64 0, .int .i64 0, .slice none 0 0] 24)) from hb.trans (((Below.refl _ _).alloc (Nat.le_refl _) _).mono hb.size))
  have Va2 := Lib.hid (Box.new w2 0 0 (.slice none 0 0))
  clear hb
  have X2 := Lib.hid (X1.out.below hba X1.out.lt)
  have LB2 := Lib.hid (LB1.out.trans (hba.mono LB1.out.size))
  clear hba X1 LB1
  obtain ⟨q0, q1, q2, q3, q4, q5, q6⟩ := X2.out.all
  go_wp2_with fail
  clear q0 q1 q2 q3 q4 q5 q6
  refine (HR.out _).mono ?_
  rintro e w3 ⟨rfl, hb⟩
  have hba := (show Below _ _ (w3.alloc (.cells #[.int .i64 0, .int .i64 0, .slice none 0 0] 24)) from hb.trans (((Below.refl _ _).alloc (Nat.le_refl _) _).mono hb.size))
  have Vb3 := Lib.hid (Box.new w3 0 0 (.slice none 0 0))
  clear hb
  have X3 := Lib.hid (X2.out.below hba X2.out.lt)
  have LB3 := Lib.hid (LB2.out.trans (hba.mono LB2.out.size))
  have Va3 := Lib.hid (Va2.out.below hba Va2.out.lt)
  clear hba X2 LB2 Va2
  have s1 : (z == z) = true := by simp
  obtain ⟨q0, q1, q2, q3, q4, q5, q6⟩ := Va3.out.all
  obtain ⟨r0, r1, r2, r3, r4, r5, r6⟩ := Vb3.out.all
  go_wp2_with fail
  clear q0 q1 q2 q3 q4 q5 q6 r0 r1 r2 r3 r4 r5 r6
  refine (rsame_self 0 0 none none 0 0 0 (fun _ => false) _ (by omega) (fun h => absurd h (by omega)) (fun h => absurd h (by omega))).mono ?_
  rintro e w4 ⟨rfl, hb⟩
  have X4 := Lib.hid (X3.out.below hb X3.out.lt)
  have LB4 := Lib.hid (LB3.out.trans (hb.mono LB3.out.size))
  have Va4 := Lib.hid (Va3.out.below hb Va3.out.lt)
  have Vb4 := Lib.hid (Vb3.out.below hb Vb3.out.lt)
  clear hb X3 LB3 Va3 Vb3
  go_wp2
  go_ret
  exact ⟨rfl, LB4.out⟩
set_option maxHeartbeats 1600000 in
theorem forms_ok (W H : Int) (A : Option Addr) (n c : Nat) (f : Nat → Bool) (w : World) (hn : n ≤ 500) (hx : schk W H n = 0) (hr : Holds w w.heap.size A n f) (hc : n ≤ c) (hg : ∀ w, Calls Try.prog 57 #[.agg #[.int .i64 W, .int .i64 H, .slice A n c]] w fun e w' => e = .returned (.bool false) ∧ Below w.heap.size w w') :
    Calls Try.prog 13 #[.agg #[.int .i64 W, .int .i64 H, .slice A n c]] w fun e w' => e = .returned (.bool true) ∧ Below w.heap.size w w' := by
  have hk := (schk_ok hx).1
  obtain ⟨U, V, rfl, rfl, u0, u1, v0, v1, rfl⟩ := chk_nat hk
  have okG := gd_of f hk
  have h0 : 0 < U * V := Nat.mul_pos okG.w0 okG.h0
  obtain ⟨b, o, rfl, lb, hcs⟩ := hr h0
  have HCS := Lib.hid hcs
  have HG := Lib.hid hg
  have HP := Lib.hid (fun u (hu : Below w.heap.size w u) => ple_ok ⟨U, V, f⟩ okG b o c u (Nat.lt_of_lt_of_le lb hu.size) (fun i hi => (hu.cell (p := ⟨b, o + i, none⟩) lb).trans (HCS.out i hi)) hc hx)
  have HR := Lib.hid (fun u (hu : Below w.heap.size w u) => rle_ok ⟨U, V, f⟩ okG b o c u (Nat.lt_of_lt_of_le lb hu.size) (fun i hi => (hu.cell (p := ⟨b, o + i, none⟩) lb).trans (HCS.out i hi)) hx)
  obtain ⟨G, hG⟩ : ∃ G : GD, (⟨U, V, f⟩ : GD) = G := ⟨_, rfl⟩
  simp only [hG] at HP HR
  clear hg hx hcs hG okG hk u0 u1 v0 v1 hr h0
  generalize U * V = n at *
  have X0 := Lib.hid (Box.new w (U : Nat) (V : Nat) (.slice (some ⟨b, o, none⟩) n c))
  have LB0 := Lib.hid (show Below w.heap.size w (w.alloc (.cells #[.int .i64 (U : Nat), .int .i64 (V : Nat), .slice (some ⟨b, o, none⟩) n c] 24)) from (Below.refl _ _).alloc (Nat.le_refl _) _)
  go_enter Try.func13, Try.ntmps13
  obtain ⟨q0, q1, q2, q3, q4, q5, q6⟩ := X0.out.all
  go_wp2_with fail
  clear q0 q1 q2 q3 q4 q5 q6
  refine (HG.out _).mono ?_
  rintro e w1 ⟨rfl, hb⟩
  have X1 := Lib.hid (X0.out.below hb X0.out.lt)
  have LB1 := Lib.hid (LB0.out.trans (hb.mono LB0.out.size))
  clear hb X0 LB0
  obtain ⟨q0, q1, q2, q3, q4, q5, q6⟩ := X1.out.all
  go_wp2_with fail
  clear q0 q1 q2 q3 q4 q5 q6
  refine (HP.out _ LB1.out).mono ?_
  rintro e w2 ⟨F, k1, d1, a1, rfl, hrow, hk1, hB1, hw1, hh1, hb⟩
  have hba := (show Below _ _ (w2.alloc (.cells #[.int .i64 (F.W : Nat), .int .i64 (F.H : Nat), .slice (some ⟨k1, 0, none⟩) (F.W * F.H) d1] 24)) from hb.trans (((Below.refl _ _).alloc (Nat.le_refl _) _).mono hb.size))
  have Va2 := Lib.hid (Box.new w2 (F.W : Nat) (F.H : Nat) (.slice (some ⟨k1, 0, none⟩) (F.W * F.H) d1))
  have Ra2 := Lib.hid (hrow.alloc (.cells #[.int .i64 (F.W : Nat), .int .i64 (F.H : Nat), .slice (some ⟨k1, 0, none⟩) (F.W * F.H) d1] 24))
  have HB1 := Lib.hid hB1
  clear hb hrow hB1
  have X2 := Lib.hid (X1.out.below hba X1.out.lt)
  have LB2 := Lib.hid (LB1.out.trans (hba.mono LB1.out.size))
  clear hba X1 LB1
  obtain ⟨q0, q1, q2, q3, q4, q5, q6⟩ := X2.out.all
  go_wp2_with fail
  clear q0 q1 q2 q3 q4 q5 q6
  refine (HR.out _ LB2.out).mono ?_
  rintro e w3 ⟨K, k2, d2, a2, rfl, hrow, hB2, hw2, hh2, hb⟩
  have hba := (show Below _ _ (w3.alloc (.cells #[.int .i64 (K.W : Nat), .int .i64 (K.H : Nat), .slice (some ⟨k2, 0, none⟩) (K.W * K.H) d2] 24)) from hb.trans (((Below.refl _ _).alloc (Nat.le_refl _) _).mono hb.size))
  have Vb3 := Lib.hid (Box.new w3 (K.W : Nat) (K.H : Nat) (.slice (some ⟨k2, 0, none⟩) (K.W * K.H) d2))
  have Rb3 := Lib.hid (hrow.alloc (.cells #[.int .i64 (K.W : Nat), .int .i64 (K.H : Nat), .slice (some ⟨k2, 0, none⟩) (K.W * K.H) d2] 24))
  have HB2 := Lib.hid hB2
  clear hb hrow hB2
  have X3 := Lib.hid (X2.out.below hba X2.out.lt)
  have LB3 := Lib.hid (LB2.out.trans (hba.mono LB2.out.size))
  have Va3 := Lib.hid (Va2.out.below hba Va2.out.lt)
  have Ra3 := Lib.hid (Ra2.out.below hba Ra2.out.lt)
  clear hba X2 LB2 Va2 Ra2
  obtain ⟨heq, rfl⟩ := HB1.out.one HB2.out
  have hsm : sm F K = true := by unfold sm; rw [decide_eq_true_iff]; exact heq
  have hFn : F.W * F.H ≤ 5000 := by have := Nat.mul_le_mul hw1 hh1; omega
  have HS := Lib.hid (fun w (h1 : Row w k1 (F.W * F.H) F.f) (h2 : Row w k2 (K.W * K.H) K.f) => (show Calls Try.prog 39 #[.agg #[.int .i64 (F.W : Nat), .int .i64 (F.H : Nat), .slice (some ⟨k1, 0, none⟩) (F.W * F.H) d1], .agg #[.int .i64 (K.W : Nat), .int .i64 (K.H : Nat), .slice (some ⟨k2, 0, none⟩) (K.W * K.H) d2]] w fun e w' => e = .returned (.bool true) ∧ Below w.heap.size w w' from by have h := same_gd F K k1 d1 k2 d2 w hFn h1 h2; rwa [hsm] at h))
  clear heq hsm hFn HB1 HB2
  have s1 : ((a1 : Int) == (a1 : Int)) = true := by simp
  obtain ⟨q0, q1, q2, q3, q4, q5, q6⟩ := Va3.out.all
  obtain ⟨r0, r1, r2, r3, r4, r5, r6⟩ := Vb3.out.all
  go_wp2_with fail
  clear q0 q1 q2 q3 q4 q5 q6 r0 r1 r2 r3 r4 r5 r6
  refine (HS.out _ Ra3.out Rb3.out).mono ?_
  rintro e w4 ⟨rfl, hb⟩
  have X4 := Lib.hid (X3.out.below hb X3.out.lt)
  have LB4 := Lib.hid (LB3.out.trans (hb.mono LB3.out.size))
  have Va4 := Lib.hid (Va3.out.below hb Va3.out.lt)
  have Ra4 := Lib.hid (Ra3.out.below hb Ra3.out.lt)
  have Vb4 := Lib.hid (Vb3.out.below hb Vb3.out.lt)
  have Rb4 := Lib.hid (Rb3.out.below hb Rb3.out.lt)
  clear hb X3 LB3 Va3 Ra3 Vb3 Rb3
  go_wp2
  go_ret
  exact ⟨rfl, LB4.out⟩
theorem forms_any (W H : Int) (A : Option Addr) (n c : Nat) (f : Nat → Bool) (w : World) (hr : Holds w w.heap.size A n f) (hc : n ≤ c) :
    Calls Try.prog 13 #[.agg #[.int .i64 W, .int .i64 H, .slice A n c]] w fun e w' => e = .returned (.bool true) ∧ Below w.heap.size w w' := by
  rcases great7_case W H A n c with h | ⟨hn, h⟩
  · exact forms_great W H A n c w h
  · by_cases hx : schk W H n = 0
    · exact forms_ok W H A n c f w hn hx hr hc h
    · exact forms_bad W H A n c w hn _ rfl (by simpa using hx) h
end Go.Proofs.Ytjbofdgdcnfmoaa
