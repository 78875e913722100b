/- The statement DraftMakes. -/
import Derived.Test.YtbafhdinalapoaaMkm
namespace Go.Proofs.Ytbafhdinalapoaa
open Go.RowKit
set_option linter.unusedVariables false
set_option linter.unusedSimpArgs false
set_option maxRecDepth 100000

/-- A grid in the variable at g, its cells below B. -/
structure GX (v : World) (g B : Nat) (W H : Int) (A : Option Addr) (N cap : Nat) (f : Nat → Bool) : Prop where
  box : Box v g W H (.slice A N cap)
  cells : Holds v B A N f
  le : B ≤ v.heap.size
theorem GX.next {v v' : World} {g B : Nat} {W H : Int} {A : Option Addr} {N cap : Nat} {f : Nat → Bool} (h : GX v g B W H A N cap f) (hb : Below v.heap.size v v') : GX v' g B W H A N cap f :=
  ⟨h.box.below hb h.box.lt, h.cells.below (hb.mono h.le), Nat.le_trans h.le hb.size⟩
theorem GX.new2 (w : World) (o : Obj) (W H : Int) (C : Option Addr) (N cap : Nat) (f : Nat → Bool) (hr : Holds w w.heap.size C N f) : GX ((w.alloc o).alloc (.cells #[.int .i64 W, .int .i64 H, .slice C N cap] 24)) (w.heap.size + 1) w.heap.size W H C N cap f :=
  ⟨by have h := Box.new (w.alloc o) W H (.slice C N cap); simp only [World.size_alloc] at h; exact h, hr.below (((Below.refl _ _).alloc (Nat.le_refl _) _).alloc (by simp) _), by simp; omega⟩

set_option maxHeartbeats 1600000 in
theorem makes_a (D : Dr) (A1 A2 : Option Addr) (n1 n2 c1 c2 : Nat) (f1 f2 : Nat → Int) (W H : Int) (C : Option Addr) (N cap : Nat) (f : Nat → Bool) (w : World) (hd : D.In w w.heap.size) (h1 : L2.Holds w w.heap.size A1 n1 f1) (h2 : L2.Holds w w.heap.size A2 n2 f2) (hr : Holds w w.heap.size C N f) (hg : ∀ v, Calls Try.prog 24 #[.agg #[.int .i64 D.S, .int .i64 D.T, .slice D.A D.n D.c, .slice D.B D.m D.d, .int .i64 D.W, .int .i64 D.H, .slice D.C D.k D.e]] v fun e w' => e = .returned (.bool true) ∧ Below v.heap.size v w') :
    Calls Try.prog 6 #[.agg #[.int .i64 D.S, .int .i64 D.T, .slice D.A D.n D.c, .slice D.B D.m D.d, .int .i64 D.W, .int .i64 D.H, .slice D.C D.k D.e], .slice A1 n1 c1, .slice A2 n2 c2, .agg #[.int .i64 W, .int .i64 H, .slice C N cap]] w fun e w' => e = .returned (.bool true) ∧ Below w.heap.size w w' := by
  have P_0 := Lib.hid (show DP ((w.alloc (.cells #[.int .i64 D.S, .int .i64 D.T, .slice D.A D.n D.c, .slice D.B D.m D.d, .int .i64 D.W, .int .i64 D.H, .slice D.C D.k D.e] 30)).alloc (.cells #[.int .i64 W, .int .i64 H, .slice C N cap] 24)) w.heap.size w.heap.size D from ⟨(DBox.new w D).alloc _, (hd.below (Below.refl _ _)).below (((Below.refl _ _).alloc (Nat.le_refl _) _).alloc (by simp) _), by simp; omega⟩)
  have G_0 : Hid (GX ((w.alloc (.cells #[.int .i64 D.S, .int .i64 D.T, .slice D.A D.n D.c, .slice D.B D.m D.d, .int .i64 D.W, .int .i64 D.H, .slice D.C D.k D.e] 30)).alloc (.cells #[.int .i64 W, .int .i64 H, .slice C N cap] 24)) (w.heap.size + 1) w.heap.size W H C N cap f) := Lib.hid (GX.new2 w (.cells #[.int .i64 D.S, .int .i64 D.T, .slice D.A D.n D.c, .slice D.B D.m D.d, .int .i64 D.W, .int .i64 D.H, .slice D.C D.k D.e] 30) W H C N cap f hr)
  have L_0 := Lib.hid (show Bl w ((w.alloc (.cells #[.int .i64 D.S, .int .i64 D.T, .slice D.A D.n D.c, .slice D.B D.m D.d, .int .i64 D.W, .int .i64 D.H, .slice D.C D.k D.e] 30)).alloc (.cells #[.int .i64 W, .int .i64 H, .slice C N cap] 24)) from ⟨((Below.refl _ _).alloc (Nat.le_refl _) _).alloc (by simp) _⟩)
  clear hd h1 h2 hr
  go_enter Try.func6, Try.ntmps6
  have HG := Lib.hid hg
  clear hg
  go_wp2_with fail
  refine (HG.out _).mono ?_
  rintro e wu1 ⟨rfl, hb⟩
  have P_1 := Lib.hid (P_0.out.next hb)
  have G_1 := Lib.hid (G_0.out.next hb)
  have L_1 := Lib.hid (L_0.out.next hb)
  clear P_0 G_0 L_0
  clear hb
  go_wp2
  refine bodyPost_ret (v := .bool true) (by simp [results, Try.results6, go_sem]) rfl ⟨rfl, L_1.out.bel⟩

set_option maxHeartbeats 1600000 in
theorem makes_s (D : Dr) (A1 A2 : Option Addr) (n1 n2 c1 c2 : Nat) (f1 f2 : Nat → Int) (W H : Int) (C : Option Addr) (N cap : Nat) (f : Nat → Bool) (w : World) (hd : D.In w w.heap.size) (h1 : L2.Holds w w.heap.size A1 n1 f1) (h2 : L2.Holds w w.heap.size A2 n2 f2) (hr : Holds w w.heap.size C N f) (hs : D.Small) (hn : 70 < n1) :
    Calls Try.prog 6 #[.agg #[.int .i64 D.S, .int .i64 D.T, .slice D.A D.n D.c, .slice D.B D.m D.d, .int .i64 D.W, .int .i64 D.H, .slice D.C D.k D.e], .slice A1 n1 c1, .slice A2 n2 c2, .agg #[.int .i64 W, .int .i64 H, .slice C N cap]] w fun e w' => e = .returned (.bool true) ∧ Below w.heap.size w w' := by
  have P_0 := Lib.hid (show DP ((w.alloc (.cells #[.int .i64 D.S, .int .i64 D.T, .slice D.A D.n D.c, .slice D.B D.m D.d, .int .i64 D.W, .int .i64 D.H, .slice D.C D.k D.e] 30)).alloc (.cells #[.int .i64 W, .int .i64 H, .slice C N cap] 24)) w.heap.size w.heap.size D from ⟨(DBox.new w D).alloc _, (hd.below (Below.refl _ _)).below (((Below.refl _ _).alloc (Nat.le_refl _) _).alloc (by simp) _), by simp; omega⟩)
  have G_0 : Hid (GX ((w.alloc (.cells #[.int .i64 D.S, .int .i64 D.T, .slice D.A D.n D.c, .slice D.B D.m D.d, .int .i64 D.W, .int .i64 D.H, .slice D.C D.k D.e] 30)).alloc (.cells #[.int .i64 W, .int .i64 H, .slice C N cap] 24)) (w.heap.size + 1) w.heap.size W H C N cap f) := Lib.hid (GX.new2 w (.cells #[.int .i64 D.S, .int .i64 D.T, .slice D.A D.n D.c, .slice D.B D.m D.d, .int .i64 D.W, .int .i64 D.H, .slice D.C D.k D.e] 30) W H C N cap f hr)
  have L_0 := Lib.hid (show Bl w ((w.alloc (.cells #[.int .i64 D.S, .int .i64 D.T, .slice D.A D.n D.c, .slice D.B D.m D.d, .int .i64 D.W, .int .i64 D.H, .slice D.C D.k D.e] 30)).alloc (.cells #[.int .i64 W, .int .i64 H, .slice C N cap] 24)) from ⟨((Below.refl _ _).alloc (Nat.le_refl _) _).alloc (by simp) _⟩)
  have z1 : decide ((70 : Int) < (n1 : Int)) = true := by simp; omega
  clear hd h1 h2 hr
  go_enter Try.func6, Try.ntmps6
  go_wp2_with fail
  refine (dgreat_no D _ hs).mono ?_
  rintro e wu1 ⟨rfl, hb⟩
  have P_1 := Lib.hid (P_0.out.next hb)
  have G_1 := Lib.hid (G_0.out.next hb)
  have L_1 := Lib.hid (L_0.out.next hb)
  clear P_0 G_0 L_0
  clear hb
  go_wp2
  refine bodyPost_ret (v := .bool true) (by simp [results, Try.results6, go_sem]) rfl ⟨rfl, L_1.out.bel⟩

set_option maxHeartbeats 1600000 in
theorem makes_t (D : Dr) (A1 A2 : Option Addr) (n1 n2 c1 c2 : Nat) (f1 f2 : Nat → Int) (W H : Int) (C : Option Addr) (N cap : Nat) (f : Nat → Bool) (w : World) (hd : D.In w w.heap.size) (h1 : L2.Holds w w.heap.size A1 n1 f1) (h2 : L2.Holds w w.heap.size A2 n2 f2) (hr : Holds w w.heap.size C N f) (hs : D.Small) (hn1 : n1 ≤ 70) (hn : 70 < n2) :
    Calls Try.prog 6 #[.agg #[.int .i64 D.S, .int .i64 D.T, .slice D.A D.n D.c, .slice D.B D.m D.d, .int .i64 D.W, .int .i64 D.H, .slice D.C D.k D.e], .slice A1 n1 c1, .slice A2 n2 c2, .agg #[.int .i64 W, .int .i64 H, .slice C N cap]] w fun e w' => e = .returned (.bool true) ∧ Below w.heap.size w w' := by
  have P_0 := Lib.hid (show DP ((w.alloc (.cells #[.int .i64 D.S, .int .i64 D.T, .slice D.A D.n D.c, .slice D.B D.m D.d, .int .i64 D.W, .int .i64 D.H, .slice D.C D.k D.e] 30)).alloc (.cells #[.int .i64 W, .int .i64 H, .slice C N cap] 24)) w.heap.size w.heap.size D from ⟨(DBox.new w D).alloc _, (hd.below (Below.refl _ _)).below (((Below.refl _ _).alloc (Nat.le_refl _) _).alloc (by simp) _), by simp; omega⟩)
  have G_0 : Hid (GX ((w.alloc (.cells #[.int .i64 D.S, .int .i64 D.T, .slice D.A D.n D.c, .slice D.B D.m D.d, .int .i64 D.W, .int .i64 D.H, .slice D.C D.k D.e] 30)).alloc (.cells #[.int .i64 W, .int .i64 H, .slice C N cap] 24)) (w.heap.size + 1) w.heap.size W H C N cap f) := Lib.hid (GX.new2 w (.cells #[.int .i64 D.S, .int .i64 D.T, .slice D.A D.n D.c, .slice D.B D.m D.d, .int .i64 D.W, .int .i64 D.H, .slice D.C D.k D.e] 30) W H C N cap f hr)
  have L_0 := Lib.hid (show Bl w ((w.alloc (.cells #[.int .i64 D.S, .int .i64 D.T, .slice D.A D.n D.c, .slice D.B D.m D.d, .int .i64 D.W, .int .i64 D.H, .slice D.C D.k D.e] 30)).alloc (.cells #[.int .i64 W, .int .i64 H, .slice C N cap] 24)) from ⟨((Below.refl _ _).alloc (Nat.le_refl _) _).alloc (by simp) _⟩)
  have z1 : decide ((70 : Int) < (n1 : Int)) = false := by simp; omega
  have z2 : decide ((70 : Int) < (n2 : Int)) = true := by simp; omega
  clear hd h1 h2 hr
  go_enter Try.func6, Try.ntmps6
  go_wp2_with fail
  refine (dgreat_no D _ hs).mono ?_
  rintro e wu1 ⟨rfl, hb⟩
  have P_1 := Lib.hid (P_0.out.next hb)
  have G_1 := Lib.hid (G_0.out.next hb)
  have L_1 := Lib.hid (L_0.out.next hb)
  clear P_0 G_0 L_0
  clear hb
  go_wp2
  refine bodyPost_ret (v := .bool true) (by simp [results, Try.results6, go_sem]) rfl ⟨rfl, L_1.out.bel⟩

set_option maxHeartbeats 1600000 in
theorem makes_g (D : Dr) (A1 A2 : Option Addr) (n1 n2 c1 c2 : Nat) (f1 f2 : Nat → Int) (W H : Int) (C : Option Addr) (N cap : Nat) (f : Nat → Bool) (w : World) (hd : D.In w w.heap.size) (h1 : L2.Holds w w.heap.size A1 n1 f1) (h2 : L2.Holds w w.heap.size A2 n2 f2) (hr : Holds w w.heap.size C N f) (hs : D.Small) (hn1 : n1 ≤ 70) (hn2 : n2 ≤ 70) (hN : 4200 < N) :
    Calls Try.prog 6 #[.agg #[.int .i64 D.S, .int .i64 D.T, .slice D.A D.n D.c, .slice D.B D.m D.d, .int .i64 D.W, .int .i64 D.H, .slice D.C D.k D.e], .slice A1 n1 c1, .slice A2 n2 c2, .agg #[.int .i64 W, .int .i64 H, .slice C N cap]] w fun e w' => e = .returned (.bool true) ∧ Below w.heap.size w w' := by
  have P_0 := Lib.hid (show DP ((w.alloc (.cells #[.int .i64 D.S, .int .i64 D.T, .slice D.A D.n D.c, .slice D.B D.m D.d, .int .i64 D.W, .int .i64 D.H, .slice D.C D.k D.e] 30)).alloc (.cells #[.int .i64 W, .int .i64 H, .slice C N cap] 24)) w.heap.size w.heap.size D from ⟨(DBox.new w D).alloc _, (hd.below (Below.refl _ _)).below (((Below.refl _ _).alloc (Nat.le_refl _) _).alloc (by simp) _), by simp; omega⟩)
  have G_0 : Hid (GX ((w.alloc (.cells #[.int .i64 D.S, .int .i64 D.T, .slice D.A D.n D.c, .slice D.B D.m D.d, .int .i64 D.W, .int .i64 D.H, .slice D.C D.k D.e] 30)).alloc (.cells #[.int .i64 W, .int .i64 H, .slice C N cap] 24)) (w.heap.size + 1) w.heap.size W H C N cap f) := Lib.hid (GX.new2 w (.cells #[.int .i64 D.S, .int .i64 D.T, .slice D.A D.n D.c, .slice D.B D.m D.d, .int .i64 D.W, .int .i64 D.H, .slice D.C D.k D.e] 30) W H C N cap f hr)
  have L_0 := Lib.hid (show Bl w ((w.alloc (.cells #[.int .i64 D.S, .int .i64 D.T, .slice D.A D.n D.c, .slice D.B D.m D.d, .int .i64 D.W, .int .i64 D.H, .slice D.C D.k D.e] 30)).alloc (.cells #[.int .i64 W, .int .i64 H, .slice C N cap] 24)) from ⟨((Below.refl _ _).alloc (Nat.le_refl _) _).alloc (by simp) _⟩)
  have z1 : decide ((70 : Int) < (n1 : Int)) = false := by simp; omega
  have z2 : decide ((70 : Int) < (n2 : Int)) = false := by simp; omega
  clear hd h1 h2 hr
  go_enter Try.func6, Try.ntmps6
  go_wp2_with fail
  refine (dgreat_no D _ hs).mono ?_
  rintro e wu1 ⟨rfl, hb⟩
  have P_1 := Lib.hid (P_0.out.next hb)
  have G_1 := Lib.hid (G_0.out.next hb)
  have L_1 := Lib.hid (L_0.out.next hb)
  clear P_0 G_0 L_0
  clear hb
  have ff := G_1.out.box.all
  obtain ⟨f0_0, f0_1, f0_2, f0_3, f0_4, f0_5, f0_6⟩ := ff
  go_wp2_with fail
  clear f0_0 f0_1 f0_2 f0_3 f0_4 f0_5 f0_6
  refine (great_yes W H C N cap _ hN).mono ?_
  rintro e wu2 ⟨rfl, hb⟩
  have P_2 := Lib.hid (P_1.out.next hb)
  have G_2 := Lib.hid (G_1.out.next hb)
  have L_2 := Lib.hid (L_1.out.next hb)
  clear P_1 G_1 L_1
  clear hb
  go_wp2
  refine bodyPost_ret (v := .bool true) (by simp [results, Try.results6, go_sem]) rfl ⟨rfl, L_2.out.bel⟩

set_option maxHeartbeats 1600000 in
theorem makes_main (D : Dr) (A1 A2 : Option Addr) (n1 n2 c1 c2 : Nat) (f1 f2 : Nat → Int) (W H : Int) (C : Option Addr) (N cap : Nat) (f : Nat → Bool) (w : World) (hd : D.In w w.heap.size) (h1 : L2.Holds w w.heap.size A1 n1 f1) (h2 : L2.Holds w w.heap.size A2 n2 f2) (hr : Holds w w.heap.size C N f) (hs : D.Small) (hn1 : n1 ≤ 70) (hn2 : n2 ≤ 70) (hN : N ≤ 4200) (E F : Dr) (err er2 : Int) (hE : DPair w E err 13 35 #[.slice A1 n1 c1, .agg #[.int .i64 W, .int .i64 H, .slice C N cap]]) (hF : DPair w F er2 16 36 #[.agg #[.int .i64 D.S, .int .i64 D.T, .slice D.A D.n D.c, .slice D.B D.m D.d, .int .i64 D.W, .int .i64 D.H, .slice D.C D.k D.e], .slice A1 n1 c1, .slice A2 n2 c2]) :
    Calls Try.prog 6 #[.agg #[.int .i64 D.S, .int .i64 D.T, .slice D.A D.n D.c, .slice D.B D.m D.d, .int .i64 D.W, .int .i64 D.H, .slice D.C D.k D.e], .slice A1 n1 c1, .slice A2 n2 c2, .agg #[.int .i64 W, .int .i64 H, .slice C N cap]] w fun e w' => e = .returned (.bool true) ∧ Below w.heap.size w w' := by
  have P_0 := Lib.hid (show DP ((w.alloc (.cells #[.int .i64 D.S, .int .i64 D.T, .slice D.A D.n D.c, .slice D.B D.m D.d, .int .i64 D.W, .int .i64 D.H, .slice D.C D.k D.e] 30)).alloc (.cells #[.int .i64 W, .int .i64 H, .slice C N cap] 24)) w.heap.size w.heap.size D from ⟨(DBox.new w D).alloc _, (hd.below (Below.refl _ _)).below (((Below.refl _ _).alloc (Nat.le_refl _) _).alloc (by simp) _), by simp; omega⟩)
  have G_0 : Hid (GX ((w.alloc (.cells #[.int .i64 D.S, .int .i64 D.T, .slice D.A D.n D.c, .slice D.B D.m D.d, .int .i64 D.W, .int .i64 D.H, .slice D.C D.k D.e] 30)).alloc (.cells #[.int .i64 W, .int .i64 H, .slice C N cap] 24)) (w.heap.size + 1) w.heap.size W H C N cap f) := Lib.hid (GX.new2 w (.cells #[.int .i64 D.S, .int .i64 D.T, .slice D.A D.n D.c, .slice D.B D.m D.d, .int .i64 D.W, .int .i64 D.H, .slice D.C D.k D.e] 30) W H C N cap f hr)
  have L_0 := Lib.hid (show Bl w ((w.alloc (.cells #[.int .i64 D.S, .int .i64 D.T, .slice D.A D.n D.c, .slice D.B D.m D.d, .int .i64 D.W, .int .i64 D.H, .slice D.C D.k D.e] 30)).alloc (.cells #[.int .i64 W, .int .i64 H, .slice C N cap] 24)) from ⟨((Below.refl _ _).alloc (Nat.le_refl _) _).alloc (by simp) _⟩)
  have z1 : decide ((70 : Int) < (n1 : Int)) = false := by simp; omega
  have z2 : decide ((70 : Int) < (n2 : Int)) = false := by simp; omega
  have HSM := Lib.hid hs
  have HE := Lib.hid hE
  have HF := Lib.hid hF
  have z3 : (err == err) = true := by simp
  have z4 : (er2 == er2) = true := by simp
  clear hs hE hF
  clear hd h1 h2 hr
  go_enter Try.func6, Try.ntmps6
  go_wp2_with fail
  refine (dgreat_no D _ HSM.out).mono ?_
  rintro e wu1 ⟨rfl, hb⟩
  have P_1 := Lib.hid (P_0.out.next hb)
  have G_1 := Lib.hid (G_0.out.next hb)
  have L_1 := Lib.hid (L_0.out.next hb)
  clear P_0 G_0 L_0
  clear hb
  have ff := G_1.out.box.all
  obtain ⟨f0_0, f0_1, f0_2, f0_3, f0_4, f0_5, f0_6⟩ := ff
  go_wp2_with fail
  clear f0_0 f0_1 f0_2 f0_3 f0_4 f0_5 f0_6
  with_reducible refine Calls.mono (great_no W H C N cap _ hN) ?_
  rintro e wu2 ⟨rfl, hb⟩
  have P_2 := Lib.hid (P_1.out.next hb)
  have G_2 := Lib.hid (G_1.out.next hb)
  have L_2 := Lib.hid (L_1.out.next hb)
  clear P_1 G_1 L_1
  clear hb
  have ff := G_2.out.box.all
  obtain ⟨f0_0, f0_1, f0_2, f0_3, f0_4, f0_5, f0_6⟩ := ff
  go_wp2_with fail
  clear f0_0 f0_1 f0_2 f0_3 f0_4 f0_5 f0_6
  with_reducible refine Calls.mono (HE.out.a _ L_2.out.bel) ?_
  rintro e wu3 ⟨A3, c3, B3, d3, C3, e3, rfl, hin, hb⟩
  have P_3 := Lib.hid (P_2.out.next hb)
  have G_3 := Lib.hid (G_2.out.next hb)
  have L_3 := Lib.hid (L_2.out.next hb)
  clear P_2 G_2 L_2
  have U_3 := Lib.hid (show DP (wu3.alloc (.cells #[.int .i64 E.S, .int .i64 E.T, .slice A3 E.n c3, .slice B3 E.m d3, .int .i64 E.W, .int .i64 E.H, .slice C3 E.k e3] 30)) wu3.heap.size wu3.heap.size (E.at_ A3 c3 B3 d3 C3 e3) from DP.new _ hin)
  clear hb hin
  have ff := G_3.out.box.all
  obtain ⟨f0_0, f0_1, f0_2, f0_3, f0_4, f0_5, f0_6⟩ := ff
  go_wp2_with fail
  clear f0_0 f0_1 f0_2 f0_3 f0_4 f0_5 f0_6
  have Pa_4 := Lib.hid (P_3.out.next ((Below.refl _ _).alloc (Nat.le_refl _) (.cells #[.int .i64 E.S, .int .i64 E.T, .slice A3 E.n c3, .slice B3 E.m d3, .int .i64 E.W, .int .i64 E.H, .slice C3 E.k e3] 30)))
  clear P_3
  have Ga_4 := Lib.hid (G_3.out.next ((Below.refl _ _).alloc (Nat.le_refl _) (.cells #[.int .i64 E.S, .int .i64 E.T, .slice A3 E.n c3, .slice B3 E.m d3, .int .i64 E.W, .int .i64 E.H, .slice C3 E.k e3] 30)))
  clear G_3
  have La_4 := Lib.hid (L_3.out.next ((Below.refl _ _).alloc (Nat.le_refl _) (.cells #[.int .i64 E.S, .int .i64 E.T, .slice A3 E.n c3, .slice B3 E.m d3, .int .i64 E.W, .int .i64 E.H, .slice C3 E.k e3] 30)))
  clear L_3
  generalize wu3.alloc (.cells #[.int .i64 E.S, .int .i64 E.T, .slice A3 E.n c3, .slice B3 E.m d3, .int .i64 E.W, .int .i64 E.H, .slice C3 E.k e3] 30) = wv3 at *
  with_reducible refine Calls.mono (HE.out.b _ La_4.out.bel) ?_
  rintro e wu4 ⟨A4, c4, B4, d4, C4, e4, rfl, hin, hb⟩
  have P_4 := Lib.hid (Pa_4.out.next hb)
  have G_4 := Lib.hid (Ga_4.out.next hb)
  have L_4 := Lib.hid (La_4.out.next hb)
  have U_4 := Lib.hid (U_3.out.next hb)
  clear Pa_4 Ga_4 La_4 U_3
  have V_4 := Lib.hid (show DP (wu4.alloc (.cells #[.int .i64 E.S, .int .i64 E.T, .slice A4 E.n c4, .slice B4 E.m d4, .int .i64 E.W, .int .i64 E.H, .slice C4 E.k e4] 30)) wu4.heap.size wu4.heap.size (E.at_ A4 c4 B4 d4 C4 e4) from DP.new _ hin)
  clear hb hin
  have ff := P_4.out.box.all
  obtain ⟨f0_0, f0_1, f0_2, f0_3, f0_4, f0_5, f0_6, f0_7⟩ := ff
  go_wp2_with fail
  clear f0_0 f0_1 f0_2 f0_3 f0_4 f0_5 f0_6 f0_7
  have Pa_5 := Lib.hid (P_4.out.next ((Below.refl _ _).alloc (Nat.le_refl _) (.cells #[.int .i64 E.S, .int .i64 E.T, .slice A4 E.n c4, .slice B4 E.m d4, .int .i64 E.W, .int .i64 E.H, .slice C4 E.k e4] 30)))
  clear P_4
  have Ga_5 := Lib.hid (G_4.out.next ((Below.refl _ _).alloc (Nat.le_refl _) (.cells #[.int .i64 E.S, .int .i64 E.T, .slice A4 E.n c4, .slice B4 E.m d4, .int .i64 E.W, .int .i64 E.H, .slice C4 E.k e4] 30)))
  clear G_4
  have La_5 := Lib.hid (L_4.out.next ((Below.refl _ _).alloc (Nat.le_refl _) (.cells #[.int .i64 E.S, .int .i64 E.T, .slice A4 E.n c4, .slice B4 E.m d4, .int .i64 E.W, .int .i64 E.H, .slice C4 E.k e4] 30)))
  clear L_4
  have Ua_5 := Lib.hid (U_4.out.next ((Below.refl _ _).alloc (Nat.le_refl _) (.cells #[.int .i64 E.S, .int .i64 E.T, .slice A4 E.n c4, .slice B4 E.m d4, .int .i64 E.W, .int .i64 E.H, .slice C4 E.k e4] 30)))
  clear U_4
  generalize wu4.alloc (.cells #[.int .i64 E.S, .int .i64 E.T, .slice A4 E.n c4, .slice B4 E.m d4, .int .i64 E.W, .int .i64 E.H, .slice C4 E.k e4] 30) = wv4 at *
  with_reducible refine Calls.mono (HF.out.a _ La_5.out.bel) ?_
  rintro e wu5 ⟨A5, c5, B5, d5, C5, e5, rfl, hin, hb⟩
  have P_5 := Lib.hid (Pa_5.out.next hb)
  have G_5 := Lib.hid (Ga_5.out.next hb)
  have L_5 := Lib.hid (La_5.out.next hb)
  have U_5 := Lib.hid (Ua_5.out.next hb)
  have V_5 := Lib.hid (V_4.out.next hb)
  clear Pa_5 Ga_5 La_5 Ua_5 V_4
  have X_5 := Lib.hid (show DP (wu5.alloc (.cells #[.int .i64 F.S, .int .i64 F.T, .slice A5 F.n c5, .slice B5 F.m d5, .int .i64 F.W, .int .i64 F.H, .slice C5 F.k e5] 30)) wu5.heap.size wu5.heap.size (F.at_ A5 c5 B5 d5 C5 e5) from DP.new _ hin)
  clear hb hin
  have ff := P_5.out.box.all
  obtain ⟨f0_0, f0_1, f0_2, f0_3, f0_4, f0_5, f0_6, f0_7⟩ := ff
  go_wp2_with fail
  clear f0_0 f0_1 f0_2 f0_3 f0_4 f0_5 f0_6 f0_7
  have Pa_6 := Lib.hid (P_5.out.next ((Below.refl _ _).alloc (Nat.le_refl _) (.cells #[.int .i64 F.S, .int .i64 F.T, .slice A5 F.n c5, .slice B5 F.m d5, .int .i64 F.W, .int .i64 F.H, .slice C5 F.k e5] 30)))
  clear P_5
  have Ga_6 := Lib.hid (G_5.out.next ((Below.refl _ _).alloc (Nat.le_refl _) (.cells #[.int .i64 F.S, .int .i64 F.T, .slice A5 F.n c5, .slice B5 F.m d5, .int .i64 F.W, .int .i64 F.H, .slice C5 F.k e5] 30)))
  clear G_5
  have La_6 := Lib.hid (L_5.out.next ((Below.refl _ _).alloc (Nat.le_refl _) (.cells #[.int .i64 F.S, .int .i64 F.T, .slice A5 F.n c5, .slice B5 F.m d5, .int .i64 F.W, .int .i64 F.H, .slice C5 F.k e5] 30)))
  clear L_5
  have Ua_6 := Lib.hid (U_5.out.next ((Below.refl _ _).alloc (Nat.le_refl _) (.cells #[.int .i64 F.S, .int .i64 F.T, .slice A5 F.n c5, .slice B5 F.m d5, .int .i64 F.W, .int .i64 F.H, .slice C5 F.k e5] 30)))
  clear U_5
  have Va_6 := Lib.hid (V_5.out.next ((Below.refl _ _).alloc (Nat.le_refl _) (.cells #[.int .i64 F.S, .int .i64 F.T, .slice A5 F.n c5, .slice B5 F.m d5, .int .i64 F.W, .int .i64 F.H, .slice C5 F.k e5] 30)))
  clear V_5
  generalize wu5.alloc (.cells #[.int .i64 F.S, .int .i64 F.T, .slice A5 F.n c5, .slice B5 F.m d5, .int .i64 F.W, .int .i64 F.H, .slice C5 F.k e5] 30) = wv5 at *
  with_reducible refine Calls.mono (HF.out.b _ La_6.out.bel) ?_
  rintro e wu6 ⟨A6, c6, B6, d6, C6, e6, rfl, hin, hb⟩
  have P_6 := Lib.hid (Pa_6.out.next hb)
  have G_6 := Lib.hid (Ga_6.out.next hb)
  have L_6 := Lib.hid (La_6.out.next hb)
  have U_6 := Lib.hid (Ua_6.out.next hb)
  have V_6 := Lib.hid (Va_6.out.next hb)
  have X_6 := Lib.hid (X_5.out.next hb)
  clear Pa_6 Ga_6 La_6 Ua_6 Va_6 X_5
  have Y_6 := Lib.hid (show DP (wu6.alloc (.cells #[.int .i64 F.S, .int .i64 F.T, .slice A6 F.n c6, .slice B6 F.m d6, .int .i64 F.W, .int .i64 F.H, .slice C6 F.k e6] 30)) wu6.heap.size wu6.heap.size (F.at_ A6 c6 B6 d6 C6 e6) from DP.new _ hin)
  clear hb hin
  have fu := (U_6.out.next ((Below.refl _ _).alloc (Nat.le_refl _) (.cells #[.int .i64 F.S, .int .i64 F.T, .slice A6 F.n c6, .slice B6 F.m d6, .int .i64 F.W, .int .i64 F.H, .slice C6 F.k e6] 30))).box.all
  dsimp only [Dr.at_] at fu
  obtain ⟨f0_0, f0_1, f0_2, f0_3, f0_4, f0_5, f0_6, f0_7⟩ := fu
  have fp := (V_6.out.next ((Below.refl _ _).alloc (Nat.le_refl _) (.cells #[.int .i64 F.S, .int .i64 F.T, .slice A6 F.n c6, .slice B6 F.m d6, .int .i64 F.W, .int .i64 F.H, .slice C6 F.k e6] 30))).box.all
  dsimp only [Dr.at_] at fp
  obtain ⟨f1_0, f1_1, f1_2, f1_3, f1_4, f1_5, f1_6, f1_7⟩ := fp
  go_wp2_with fail
  clear f0_0 f0_1 f0_2 f0_3 f0_4 f0_5 f0_6 f0_7 f1_0 f1_1 f1_2 f1_3 f1_4 f1_5 f1_6 f1_7
  have Pa_7 := Lib.hid (P_6.out.next ((Below.refl _ _).alloc (Nat.le_refl _) (.cells #[.int .i64 F.S, .int .i64 F.T, .slice A6 F.n c6, .slice B6 F.m d6, .int .i64 F.W, .int .i64 F.H, .slice C6 F.k e6] 30)))
  clear P_6
  have Ga_7 := Lib.hid (G_6.out.next ((Below.refl _ _).alloc (Nat.le_refl _) (.cells #[.int .i64 F.S, .int .i64 F.T, .slice A6 F.n c6, .slice B6 F.m d6, .int .i64 F.W, .int .i64 F.H, .slice C6 F.k e6] 30)))
  clear G_6
  have La_7 := Lib.hid (L_6.out.next ((Below.refl _ _).alloc (Nat.le_refl _) (.cells #[.int .i64 F.S, .int .i64 F.T, .slice A6 F.n c6, .slice B6 F.m d6, .int .i64 F.W, .int .i64 F.H, .slice C6 F.k e6] 30)))
  clear L_6
  have Ua_7 := Lib.hid (U_6.out.next ((Below.refl _ _).alloc (Nat.le_refl _) (.cells #[.int .i64 F.S, .int .i64 F.T, .slice A6 F.n c6, .slice B6 F.m d6, .int .i64 F.W, .int .i64 F.H, .slice C6 F.k e6] 30)))
  clear U_6
  have Va_7 := Lib.hid (V_6.out.next ((Below.refl _ _).alloc (Nat.le_refl _) (.cells #[.int .i64 F.S, .int .i64 F.T, .slice A6 F.n c6, .slice B6 F.m d6, .int .i64 F.W, .int .i64 F.H, .slice C6 F.k e6] 30)))
  clear V_6
  have Xa_7 := Lib.hid (X_6.out.next ((Below.refl _ _).alloc (Nat.le_refl _) (.cells #[.int .i64 F.S, .int .i64 F.T, .slice A6 F.n c6, .slice B6 F.m d6, .int .i64 F.W, .int .i64 F.H, .slice C6 F.k e6] 30)))
  clear X_6
  generalize wu6.alloc (.cells #[.int .i64 F.S, .int .i64 F.T, .slice A6 F.n c6, .slice B6 F.m d6, .int .i64 F.W, .int .i64 F.H, .slice C6 F.k e6] 30) = wv6 at *
  with_reducible refine Calls.mono (rdsame_at E HE.out.small A3 B3 C3 A4 B4 C4 c3 d3 e3 c4 d4 e4 _ Ua_7.out.in_ Va_7.out.in_) ?_
  rintro e wu7 ⟨rfl, hb⟩
  have P_7 := Lib.hid (Pa_7.out.next hb)
  have G_7 := Lib.hid (Ga_7.out.next hb)
  have L_7 := Lib.hid (La_7.out.next hb)
  have U_7 := Lib.hid (Ua_7.out.next hb)
  have V_7 := Lib.hid (Va_7.out.next hb)
  have X_7 := Lib.hid (Xa_7.out.next hb)
  have Y_7 := Lib.hid (Y_6.out.next hb)
  clear Pa_7 Ga_7 La_7 Ua_7 Va_7 Xa_7 Y_6
  clear hb
  have fu := X_7.out.box.all
  dsimp only [Dr.at_] at fu
  obtain ⟨f0_0, f0_1, f0_2, f0_3, f0_4, f0_5, f0_6, f0_7⟩ := fu
  have fp := Y_7.out.box.all
  dsimp only [Dr.at_] at fp
  obtain ⟨f1_0, f1_1, f1_2, f1_3, f1_4, f1_5, f1_6, f1_7⟩ := fp
  go_wp2_with fail
  clear f0_0 f0_1 f0_2 f0_3 f0_4 f0_5 f0_6 f0_7 f1_0 f1_1 f1_2 f1_3 f1_4 f1_5 f1_6 f1_7
  with_reducible refine Calls.mono (rdsame_at F HF.out.small A5 B5 C5 A6 B6 C6 c5 d5 e5 c6 d6 e6 _ X_7.out.in_ Y_7.out.in_) ?_
  rintro e wu8 ⟨rfl, hb⟩
  have P_8 := Lib.hid (P_7.out.next hb)
  have G_8 := Lib.hid (G_7.out.next hb)
  have L_8 := Lib.hid (L_7.out.next hb)
  have U_8 := Lib.hid (U_7.out.next hb)
  have V_8 := Lib.hid (V_7.out.next hb)
  have X_8 := Lib.hid (X_7.out.next hb)
  have Y_8 := Lib.hid (Y_7.out.next hb)
  clear P_7 G_7 L_7 U_7 V_7 X_7 Y_7
  clear hb
  go_wp2
  refine bodyPost_ret (v := .bool true) (by simp [results, Try.results6, go_sem]) rfl ⟨rfl, L_8.out.bel⟩

theorem makes_any (D : Dr) (A1 A2 : Option Addr) (n1 n2 c1 c2 : Nat) (f1 f2 : Nat → Int) (W H : Int) (C : Option Addr) (N cap : Nat) (f : Nat → Bool) (w : World) (hd : D.In w w.heap.size) (h1 : L2.Holds w w.heap.size A1 n1 f1) (h2 : L2.Holds w w.heap.size A2 n2 f2) (hr : Holds w w.heap.size C N f) (hcap : N ≤ cap) :
    Calls Try.prog 6 #[.agg #[.int .i64 D.S, .int .i64 D.T, .slice D.A D.n D.c, .slice D.B D.m D.d, .int .i64 D.W, .int .i64 D.H, .slice D.C D.k D.e], .slice A1 n1 c1, .slice A2 n2 c2, .agg #[.int .i64 W, .int .i64 H, .slice C N cap]] w fun e w' => e = .returned (.bool true) ∧ Below w.heap.size w w' := by
  rcases dgreat_case D with hs | hg
  · by_cases g1 : 70 < n1
    · exact makes_s D A1 A2 n1 n2 c1 c2 f1 f2 W H C N cap f w hd h1 h2 hr hs g1
    by_cases g2 : 70 < n2
    · exact makes_t D A1 A2 n1 n2 c1 c2 f1 f2 W H C N cap f w hd h1 h2 hr hs (by omega) g2
    by_cases g3 : 4200 < N
    · exact makes_g D A1 A2 n1 n2 c1 c2 f1 f2 W H C N cap f w hd h1 h2 hr hs (by omega) (by omega) g3
    obtain ⟨E, err, hE⟩ := fl_pair A1 n1 c1 f1 W H C N cap f w h1 hr (by omega) (by omega) hcap
    obtain ⟨F, er2, hF⟩ := rn_pair D hs A1 A2 n1 n2 c1 c2 f1 f2 w hd h1 h2 (by omega) (by omega)
    exact makes_main D A1 A2 n1 n2 c1 c2 f1 f2 W H C N cap f w hd h1 h2 hr hs (by omega) (by omega) (by omega) E F err er2 hE hF
  · exact makes_a D A1 A2 n1 n2 c1 c2 f1 f2 W H C N cap f w hd h1 h2 hr hg
end Go.Proofs.Ytbafhdinalapoaa
