/- The statement SymmetryCompose: the walk. -/
import Derived.Test.YtjbofdgdcnfmoaaVd7
namespace Go.Proofs.Ytjbofdgdcnfmoaa
open Go.RowKit
set_option maxRecDepth 100000
set_option linter.unusedVariables false
set_option linter.unusedSimpArgs false

theorem AOk.eqv {w w' : World} {K G : GD} {e : Ending} (h : AOk w K e w') (q : K.eqv G) : AOk w G e w' := by
  obtain ⟨k, d, rfl, h1, h2, h3, h4⟩ := h
  obtain ⟨e1, e2, e3⟩ := q
  rw [e1, e2] at h1 h3 ⊢
  exact ⟨k, d, rfl, h1, h2, h3.congr fun i hi => e3 i (by rw [e1, e2]; exact hi), h4⟩
set_option maxHeartbeats 1600000 in
theorem comp7_v (W H : Int) (A : Option Addr) (n c : Nat) (x y z : Int) (w : World) (hv : ∀ w, Calls Try.prog 65 #[.agg #[.int .i64 W, .int .i64 H, .slice A n c]] w fun e w' => e = .returned (.bool false) ∧ Below w.heap.size w w') (hal : ∀ w, Calls Try.prog 56 #[] w fun e w' => e = .returned (.bool true) ∧ Below w.heap.size w w') :
    Calls Try.prog 15 #[.agg #[.int .i64 W, .int .i64 H, .slice A n c], .int .i64 x, .int .i64 y, .int .i64 z] w fun e w' => e = .returned (.bool true) ∧ Below w.heap.size w w' := by
  have HV := Lib.hid hv
  have HAL := Lib.hid hal
  clear hv hal
  have X0 := Lib.hid (Box.new w W H (.slice A n c))
  have LB0 := Lib.hid (show Below w.heap.size w (w.alloc (.cells #[.int .i64 W, .int .i64 H, .slice A n c] 24)) from (Below.refl _ _).alloc (Nat.le_refl _) _)
  go_enter Try.func15, Try.ntmps15
  obtain ⟨q0, q1, q2, q3, q4, q5, q6⟩ := X0.out.all
  go_wp2_with fail
  clear q0 q1 q2 q3 q4 q5 q6
  refine (HV.out _).mono ?_
  rintro e w1 ⟨rfl, hb⟩
  have X1 := Lib.hid (X0.out.below hb X0.out.lt)
  have LB1 := Lib.hid (LB0.out.trans (hb.mono LB0.out.size))
  clear hb X0 LB0
  go_wp2_with fail
  refine (HAL.out _).mono ?_
  rintro e w2 ⟨rfl, hb⟩
  have X2 := Lib.hid (X1.out.below hb X1.out.lt)
  have LB2 := Lib.hid (LB1.out.trans (hb.mono LB1.out.size))
  clear hb X1 LB1
  go_wp2
  go_ret
  exact ⟨rfl, LB2.out⟩
set_option maxHeartbeats 1600000 in
theorem comp7_a (W H : Int) (A : Option Addr) (n c : Nat) (x y z : Int) (w : World) (hv : ∀ w, Calls Try.prog 65 #[.agg #[.int .i64 W, .int .i64 H, .slice A n c]] w fun e w' => e = .returned (.bool true) ∧ Below w.heap.size w w') (hx : ¬ (0 ≤ x ∧ x < 16)) (hal : ∀ w, Calls Try.prog 56 #[] w fun e w' => e = .returned (.bool true) ∧ Below w.heap.size w w') :
    Calls Try.prog 15 #[.agg #[.int .i64 W, .int .i64 H, .slice A n c], .int .i64 x, .int .i64 y, .int .i64 z] w fun e w' => e = .returned (.bool true) ∧ Below w.heap.size w w' := by
  have HV := Lib.hid hv
  have HAL := Lib.hid hal
  have HIx := Lib.hid (fun u => (show Calls Try.prog 67 #[.int .i64 x] u fun e w' => e = .returned (.bool false) ∧ w' = u by have h := ris_any x u; rw [decide_eq_false hx] at h; exact h))
  clear hv hal hx
  have X0 := Lib.hid (Box.new w W H (.slice A n c))
  have LB0 := Lib.hid (show Below w.heap.size w (w.alloc (.cells #[.int .i64 W, .int .i64 H, .slice A n c] 24)) from (Below.refl _ _).alloc (Nat.le_refl _) _)
  go_enter Try.func15, Try.ntmps15
  obtain ⟨q0, q1, q2, q3, q4, q5, q6⟩ := X0.out.all
  go_wp2_with fail
  clear q0 q1 q2 q3 q4 q5 q6
  refine (HV.out _).mono ?_
  rintro e w1 ⟨rfl, hb⟩
  have X1 := Lib.hid (X0.out.below hb X0.out.lt)
  have LB1 := Lib.hid (LB0.out.trans (hb.mono LB0.out.size))
  clear hb X0 LB0
  go_wp2_with fail
  refine (HIx.out _).mono ?_
  rintro e wx ⟨rfl, hww⟩
  subst wx
  go_wp2_with fail
  refine (HAL.out _).mono ?_
  rintro e w2 ⟨rfl, hb⟩
  have X2 := Lib.hid (X1.out.below hb X1.out.lt)
  have LB2 := Lib.hid (LB1.out.trans (hb.mono LB1.out.size))
  clear hb X1 LB1
  go_wp2
  go_ret
  exact ⟨rfl, LB2.out⟩
set_option maxHeartbeats 1600000 in
theorem comp7_b (W H : Int) (A : Option Addr) (n c : Nat) (x y z : Int) (w : World) (hv : ∀ w, Calls Try.prog 65 #[.agg #[.int .i64 W, .int .i64 H, .slice A n c]] w fun e w' => e = .returned (.bool true) ∧ Below w.heap.size w w') (hx : 0 ≤ x ∧ x < 16) (hy : ¬ (0 ≤ y ∧ y < 16)) (hal : ∀ w, Calls Try.prog 56 #[] w fun e w' => e = .returned (.bool true) ∧ Below w.heap.size w w') :
    Calls Try.prog 15 #[.agg #[.int .i64 W, .int .i64 H, .slice A n c], .int .i64 x, .int .i64 y, .int .i64 z] w fun e w' => e = .returned (.bool true) ∧ Below w.heap.size w w' := by
  have HV := Lib.hid hv
  have HAL := Lib.hid hal
  have HIx := Lib.hid (fun u => (show Calls Try.prog 67 #[.int .i64 x] u fun e w' => e = .returned (.bool true) ∧ w' = u by have h := ris_any x u; rw [decide_eq_true hx] at h; exact h))
  have HIy := Lib.hid (fun u => (show Calls Try.prog 67 #[.int .i64 y] u fun e w' => e = .returned (.bool false) ∧ w' = u by have h := ris_any y u; rw [decide_eq_false hy] at h; exact h))
  clear hv hal hx hy
  have X0 := Lib.hid (Box.new w W H (.slice A n c))
  have LB0 := Lib.hid (show Below w.heap.size w (w.alloc (.cells #[.int .i64 W, .int .i64 H, .slice A n c] 24)) from (Below.refl _ _).alloc (Nat.le_refl _) _)
  go_enter Try.func15, Try.ntmps15
  obtain ⟨q0, q1, q2, q3, q4, q5, q6⟩ := X0.out.all
  go_wp2_with fail
  clear q0 q1 q2 q3 q4 q5 q6
  refine (HV.out _).mono ?_
  rintro e w1 ⟨rfl, hb⟩
  have X1 := Lib.hid (X0.out.below hb X0.out.lt)
  have LB1 := Lib.hid (LB0.out.trans (hb.mono LB0.out.size))
  clear hb X0 LB0
  go_wp2_with fail
  refine (HIx.out _).mono ?_
  rintro e wx ⟨rfl, hww⟩
  subst wx
  go_wp2_with fail
  refine (HIy.out _).mono ?_
  rintro e wx ⟨rfl, hww⟩
  subst wx
  go_wp2_with fail
  refine (HAL.out _).mono ?_
  rintro e w2 ⟨rfl, hb⟩
  have X2 := Lib.hid (X1.out.below hb X1.out.lt)
  have LB2 := Lib.hid (LB1.out.trans (hb.mono LB1.out.size))
  clear hb X1 LB1
  go_wp2
  go_ret
  exact ⟨rfl, LB2.out⟩
set_option maxHeartbeats 1600000 in
theorem comp7_c (W H : Int) (A : Option Addr) (n c : Nat) (x y z : Int) (w : World) (hv : ∀ w, Calls Try.prog 65 #[.agg #[.int .i64 W, .int .i64 H, .slice A n c]] w fun e w' => e = .returned (.bool true) ∧ Below w.heap.size w w') (hx : 0 ≤ x ∧ x < 16) (hy : 0 ≤ y ∧ y < 16) (hz : ¬ (0 ≤ z ∧ z < 16)) (hal : ∀ w, Calls Try.prog 56 #[] w fun e w' => e = .returned (.bool true) ∧ Below w.heap.size w w') :
    Calls Try.prog 15 #[.agg #[.int .i64 W, .int .i64 H, .slice A n c], .int .i64 x, .int .i64 y, .int .i64 z] w fun e w' => e = .returned (.bool true) ∧ Below w.heap.size w w' := by
  have HV := Lib.hid hv
  have HAL := Lib.hid hal
  have HIx := Lib.hid (fun u => (show Calls Try.prog 67 #[.int .i64 x] u fun e w' => e = .returned (.bool true) ∧ w' = u by have h := ris_any x u; rw [decide_eq_true hx] at h; exact h))
  have HIy := Lib.hid (fun u => (show Calls Try.prog 67 #[.int .i64 y] u fun e w' => e = .returned (.bool true) ∧ w' = u by have h := ris_any y u; rw [decide_eq_true hy] at h; exact h))
  have HIz := Lib.hid (fun u => (show Calls Try.prog 67 #[.int .i64 z] u fun e w' => e = .returned (.bool false) ∧ w' = u by have h := ris_any z u; rw [decide_eq_false hz] at h; exact h))
  clear hv hal hx hy hz
  have X0 := Lib.hid (Box.new w W H (.slice A n c))
  have LB0 := Lib.hid (show Below w.heap.size w (w.alloc (.cells #[.int .i64 W, .int .i64 H, .slice A n c] 24)) from (Below.refl _ _).alloc (Nat.le_refl _) _)
  go_enter Try.func15, Try.ntmps15
  obtain ⟨q0, q1, q2, q3, q4, q5, q6⟩ := X0.out.all
  go_wp2_with fail
  clear q0 q1 q2 q3 q4 q5 q6
  refine (HV.out _).mono ?_
  rintro e w1 ⟨rfl, hb⟩
  have X1 := Lib.hid (X0.out.below hb X0.out.lt)
  have LB1 := Lib.hid (LB0.out.trans (hb.mono LB0.out.size))
  clear hb X0 LB0
  go_wp2_with fail
  refine (HIx.out _).mono ?_
  rintro e wx ⟨rfl, hww⟩
  subst wx
  go_wp2_with fail
  refine (HIy.out _).mono ?_
  rintro e wx ⟨rfl, hww⟩
  subst wx
  go_wp2_with fail
  refine (HIz.out _).mono ?_
  rintro e wx ⟨rfl, hww⟩
  subst wx
  go_wp2_with fail
  refine (HAL.out _).mono ?_
  rintro e w2 ⟨rfl, hb⟩
  have X2 := Lib.hid (X1.out.below hb X1.out.lt)
  have LB2 := Lib.hid (LB1.out.trans (hb.mono LB1.out.size))
  clear hb X1 LB1
  go_wp2
  go_ret
  exact ⟨rfl, LB2.out⟩
set_option maxHeartbeats 3200000 in
theorem comp7_main (G : GD) (g : GM G) (b o c : Nat) (m1 m2 m3 : Nat) (h1 : m1 < 16) (h2 : m2 < 16) (h3 : m3 < 16) (w : World) (lb : b < w.heap.size) (hcs : ∀ i, i < G.W * G.H → w.cell? ⟨b, o + i, none⟩ = some (.bool (G.f i))) (hv : ∀ w, Calls Try.prog 65 #[.agg #[.int .i64 (G.W : Nat), .int .i64 (G.H : Nat), .slice (some ⟨b, o, none⟩) (G.W * G.H) c]] w fun e w' => e = .returned (.bool true) ∧ Below w.heap.size w w') (hal : ∀ w, Calls Try.prog 56 #[] w fun e w' => e = .returned (.bool true) ∧ Below w.heap.size w w') :
    Calls Try.prog 15 #[.agg #[.int .i64 (G.W : Nat), .int .i64 (G.H : Nat), .slice (some ⟨b, o, none⟩) (G.W * G.H) c], .int .i64 (m1 : Nat), .int .i64 (m2 : Nat), .int .i64 (m3 : Nat)] w fun e w' => e = .returned (.bool true) ∧ Below w.heap.size w w' := by
  have HV := Lib.hid hv
  have HAL := Lib.hid hal
  have hx : 0 ≤ (m1 : Int) ∧ (m1 : Int) < 16 := by omega
  have hy : 0 ≤ (m2 : Int) ∧ (m2 : Int) < 16 := by omega
  have hz : 0 ≤ (m3 : Int) ∧ (m3 : Int) < 16 := by omega
  have HIx := Lib.hid (fun u => (show Calls Try.prog 67 #[.int .i64 (m1 : Nat)] u fun e w' => e = .returned (.bool true) ∧ w' = u by have h := ris_any (m1 : Nat) u; rw [decide_eq_true hx] at h; exact h))
  have HIy := Lib.hid (fun u => (show Calls Try.prog 67 #[.int .i64 (m2 : Nat)] u fun e w' => e = .returned (.bool true) ∧ w' = u by have h := ris_any (m2 : Nat) u; rw [decide_eq_true hy] at h; exact h))
  have HIz := Lib.hid (fun u => (show Calls Try.prog 67 #[.int .i64 (m3 : Nat)] u fun e w' => e = .returned (.bool true) ∧ w' = u by have h := ris_any (m3 : Nat) u; rw [decide_eq_true hz] at h; exact h))
  clear hx hy hz hv hal
  have HHo := Lib.hid (fun u (hu : Below w.heap.size w u) => (show Holds u u.heap.size (some ⟨b, o, none⟩) (G.W * G.H) G.f from fun _ => ⟨b, o, rfl, Nat.lt_of_lt_of_le lb hu.size, fun i hi => (hu.cell (p := ⟨b, o + i, none⟩) lb).trans (hcs i hi)⟩))
  have HA1 := Lib.hid (fun u (hu : Below w.heap.size w u) => papn G g b o c m1 h1 u (Nat.lt_of_lt_of_le lb hu.size) (fun i hi => (hu.cell (p := ⟨b, o + i, none⟩) lb).trans (hcs i hi)))
  have HA3 := Lib.hid (fun u (hu : Below w.heap.size w u) => papn G g b o c (cmp m1 m2) (cmp_lt m1 h1 m2 h2) u (Nat.lt_of_lt_of_le lb hu.size) (fun i hi => (hu.cell (p := ⟨b, o + i, none⟩) lb).trans (hcs i hi)))
  have HA2 := Lib.hid (fun u k d (hr : Row u k ((G.ap m1).W * (G.ap m1).H) (G.ap m1).f) => (papn_row (G.ap m1) (g.ap m1) k d m2 h2 u hr).mono fun e w' q => q.eqv (comp_eqv g.ok h1 h2))
  have HA4 := Lib.hid (fun u k d (hr : Row u k ((G.ap m1).W * (G.ap m1).H) (G.ap m1).f) => (papn_row (G.ap m1) (g.ap m1) k d (inv m1) (g_inv m1 h1).1 u hr).mono fun e w' q => q.eqv (show ((G.ap m1).ap (inv m1)).eqv G from by have z := comp_eqv g.ok h1 (g_inv m1 h1).1; rw [(g_inv m1 h1).2.1, ap_zero] at z; exact z))
  have HC12 := Lib.hid (fun u => pcomp_ok m1 m2 h1 h2 u)
  have HI1 := Lib.hid (fun u => pinv_ok m1 h1 u)
  have HC1i := Lib.hid (fun u => (show Calls Try.prog 54 #[.int .i64 (m1 : Nat), .int .i64 (inv m1 : Nat)] u (NOut 0 0 u) from by have z := pcomp_ok m1 (inv m1) h1 (g_inv m1 h1).1 u; rw [(g_inv m1 h1).2.1] at z; exact z))
  have HCi1 := Lib.hid (fun u => (show Calls Try.prog 54 #[.int .i64 (inv m1 : Nat), .int .i64 (m1 : Nat)] u (NOut 0 0 u) from by have z := pcomp_ok (inv m1) m1 (g_inv m1 h1).1 h1 u; rw [(g_inv m1 h1).2.2.1] at z; exact z))
  have HC23 := Lib.hid (fun u => pcomp_ok m2 m3 h2 h3 u)
  have HCl := Lib.hid (fun u => pcomp_ok (cmp m1 m2) m3 (cmp_lt m1 h1 m2 h2) h3 u)
  have HCr := Lib.hid (fun u => (show Calls Try.prog 54 #[.int .i64 (m1 : Nat), .int .i64 (cmp m2 m3 : Nat)] u (NOut (cmp (cmp m1 m2) m3 : Nat) 0 u) from by have z := pcomp_ok m1 (cmp m2 m3) h1 (cmp_lt m2 h2 m3 h3) u; rw [← g_assoc m1 h1 m2 h2 m3 h3] at z; exact z))
  have hN := g.n
  have hN3 := ((g.ap (cmp m1 m2))).n
  clear hcs g h1 h2 h3
  generalize G.ap (cmp m1 m2) = K3 at *
  generalize G.ap m1 = K1 at *
  generalize cmp (cmp m1 m2) m3 = ml at *
  generalize cmp m1 m2 = m12 at *
  generalize cmp m2 m3 = m23 at *
  generalize inv m1 = mi1 at *
  have X0 := Lib.hid (Box.new w (G.W : Nat) (G.H : Nat) (.slice (some ⟨b, o, none⟩) (G.W * G.H) c))
  have LB0 := Lib.hid (show Below w.heap.size w (w.alloc (.cells #[.int .i64 (G.W : Nat), .int .i64 (G.H : Nat), .slice (some ⟨b, o, none⟩) (G.W * G.H) c] 24)) from (Below.refl _ _).alloc (Nat.le_refl _) _)
  go_enter Try.func15, Try.ntmps15
  obtain ⟨q0, q1, q2, q3, q4, q5, q6⟩ := X0.out.all
  go_wp2_with fail
  clear q0 q1 q2 q3 q4 q5 q6
  refine (HV.out _).mono ?_
  rintro e w1 ⟨rfl, hb⟩
  have X1 := Lib.hid (X0.out.below hb X0.out.lt)
  have LB1 := Lib.hid (LB0.out.trans (hb.mono LB0.out.size))
  clear hb X0 LB0
  go_wp2_with fail
  refine (HIx.out _).mono ?_
  rintro e wx ⟨rfl, hww⟩
  subst wx
  go_wp2_with fail
  refine (HIy.out _).mono ?_
  rintro e wx ⟨rfl, hww⟩
  subst wx
  go_wp2_with fail
  refine (HIz.out _).mono ?_
  rintro e wx ⟨rfl, hww⟩
  subst wx
  go_wp2_with fail
  refine (HC12.out _).mono ?_
  rintro e w2 ⟨rfl, hb⟩
  have X2 := Lib.hid (X1.out.below hb X1.out.lt)
  have LB2 := Lib.hid (LB1.out.trans (hb.mono LB1.out.size))
  clear hb X1 LB1
  obtain ⟨q0, q1, q2, q3, q4, q5, q6⟩ := X2.out.all
  go_wp2_with fail
  clear q0 q1 q2 q3 q4 q5 q6
  refine (HA1.out _ LB2.out).mono ?_
  rintro e w3 ⟨k1, d1, rfl, hcap, hk, hrow, hb⟩
  have hba := (show Below _ _ (w3.alloc (.cells #[.int .i64 (K1.W : Nat), .int .i64 (K1.H : Nat), .slice (some ⟨k1, 0, none⟩) (K1.W * K1.H) d1] 24)) from hb.trans (((Below.refl _ _).alloc (Nat.le_refl _) _).mono hb.size))
  have Va3 := Lib.hid (Box.new w3 (K1.W : Nat) (K1.H : Nat) (.slice (some ⟨k1, 0, none⟩) (K1.W * K1.H) d1))
  have Ra3 := Lib.hid (hrow.alloc (.cells #[.int .i64 (K1.W : Nat), .int .i64 (K1.H : Nat), .slice (some ⟨k1, 0, none⟩) (K1.W * K1.H) d1] 24))
  clear hb hrow hcap hk
  have X3 := Lib.hid (X2.out.below hba X2.out.lt)
  have LB3 := Lib.hid (LB2.out.trans (hba.mono LB2.out.size))
  clear hba X2 LB2
  obtain ⟨q0, q1, q2, q3, q4, q5, q6⟩ := Va3.out.all
  go_wp2_with fail
  clear q0 q1 q2 q3 q4 q5 q6
  refine (HA2.out _ k1 d1 Ra3.out).mono ?_
  rintro e w4 ⟨k2, d2, rfl, hcap, hk, hrow, hb⟩
  have hba := (show Below _ _ (w4.alloc (.cells #[.int .i64 (K3.W : Nat), .int .i64 (K3.H : Nat), .slice (some ⟨k2, 0, none⟩) (K3.W * K3.H) d2] 24)) from hb.trans (((Below.refl _ _).alloc (Nat.le_refl _) _).mono hb.size))
  have Vb4 := Lib.hid (Box.new w4 (K3.W : Nat) (K3.H : Nat) (.slice (some ⟨k2, 0, none⟩) (K3.W * K3.H) d2))
  have Rb4 := Lib.hid (hrow.alloc (.cells #[.int .i64 (K3.W : Nat), .int .i64 (K3.H : Nat), .slice (some ⟨k2, 0, none⟩) (K3.W * K3.H) d2] 24))
  clear hb hrow hcap hk
  have X4 := Lib.hid (X3.out.below hba X3.out.lt)
  have LB4 := Lib.hid (LB3.out.trans (hba.mono LB3.out.size))
  have Va4 := Lib.hid (Va3.out.below hba Va3.out.lt)
  have Ra4 := Lib.hid (Ra3.out.below hba Ra3.out.lt)
  clear hba X3 LB3 Va3 Ra3
  obtain ⟨q0, q1, q2, q3, q4, q5, q6⟩ := X4.out.all
  go_wp2_with fail
  clear q0 q1 q2 q3 q4 q5 q6
  refine (HA3.out _ LB4.out).mono ?_
  rintro e w5 ⟨k3, d3, rfl, hcap, hk, hrow, hb⟩
  have hba := (show Below _ _ (w5.alloc (.cells #[.int .i64 (K3.W : Nat), .int .i64 (K3.H : Nat), .slice (some ⟨k3, 0, none⟩) (K3.W * K3.H) d3] 24)) from hb.trans (((Below.refl _ _).alloc (Nat.le_refl _) _).mono hb.size))
  have Vc5 := Lib.hid (Box.new w5 (K3.W : Nat) (K3.H : Nat) (.slice (some ⟨k3, 0, none⟩) (K3.W * K3.H) d3))
  have Rc5 := Lib.hid (hrow.alloc (.cells #[.int .i64 (K3.W : Nat), .int .i64 (K3.H : Nat), .slice (some ⟨k3, 0, none⟩) (K3.W * K3.H) d3] 24))
  clear hb hrow hcap hk
  have X5 := Lib.hid (X4.out.below hba X4.out.lt)
  have LB5 := Lib.hid (LB4.out.trans (hba.mono LB4.out.size))
  have Va5 := Lib.hid (Va4.out.below hba Va4.out.lt)
  have Ra5 := Lib.hid (Ra4.out.below hba Ra4.out.lt)
  have Vb5 := Lib.hid (Vb4.out.below hba Vb4.out.lt)
  have Rb5 := Lib.hid (Rb4.out.below hba Rb4.out.lt)
  clear hba X4 LB4 Va4 Ra4 Vb4 Rb4
  go_wp2_with fail
  refine (HI1.out _).mono ?_
  rintro e w6 ⟨rfl, hb⟩
  have X6 := Lib.hid (X5.out.below hb X5.out.lt)
  have LB6 := Lib.hid (LB5.out.trans (hb.mono LB5.out.size))
  have Va6 := Lib.hid (Va5.out.below hb Va5.out.lt)
  have Ra6 := Lib.hid (Ra5.out.below hb Ra5.out.lt)
  have Vb6 := Lib.hid (Vb5.out.below hb Vb5.out.lt)
  have Rb6 := Lib.hid (Rb5.out.below hb Rb5.out.lt)
  have Vc6 := Lib.hid (Vc5.out.below hb Vc5.out.lt)
  have Rc6 := Lib.hid (Rc5.out.below hb Rc5.out.lt)
  clear hb X5 LB5 Va5 Ra5 Vb5 Rb5 Vc5 Rc5
  obtain ⟨q0, q1, q2, q3, q4, q5, q6⟩ := Va6.out.all
  go_wp2_with fail
  clear q0 q1 q2 q3 q4 q5 q6
  refine (HA4.out _ k1 d1 Ra6.out).mono ?_
  rintro e w7 ⟨k4, d4, rfl, hcap, hk, hrow, hb⟩
  have hba := (show Below _ _ (w7.alloc (.cells #[.int .i64 (G.W : Nat), .int .i64 (G.H : Nat), .slice (some ⟨k4, 0, none⟩) (G.W * G.H) d4] 24)) from hb.trans (((Below.refl _ _).alloc (Nat.le_refl _) _).mono hb.size))
  have Vd7 := Lib.hid (Box.new w7 (G.W : Nat) (G.H : Nat) (.slice (some ⟨k4, 0, none⟩) (G.W * G.H) d4))
  have Rd7 := Lib.hid (hrow.alloc (.cells #[.int .i64 (G.W : Nat), .int .i64 (G.H : Nat), .slice (some ⟨k4, 0, none⟩) (G.W * G.H) d4] 24))
  clear hb hrow hcap hk
  have X7 := Lib.hid (X6.out.below hba X6.out.lt)
  have LB7 := Lib.hid (LB6.out.trans (hba.mono LB6.out.size))
  have Va7 := Lib.hid (Va6.out.below hba Va6.out.lt)
  have Ra7 := Lib.hid (Ra6.out.below hba Ra6.out.lt)
  have Vb7 := Lib.hid (Vb6.out.below hba Vb6.out.lt)
  have Rb7 := Lib.hid (Rb6.out.below hba Rb6.out.lt)
  have Vc7 := Lib.hid (Vc6.out.below hba Vc6.out.lt)
  have Rc7 := Lib.hid (Rc6.out.below hba Rc6.out.lt)
  clear hba X6 LB6 Va6 Ra6 Vb6 Rb6 Vc6 Rc6
  clear Va7
  clear Ra7
  obtain ⟨q0, q1, q2, q3, q4, q5, q6⟩ := Vb7.out.all
  obtain ⟨r0, r1, r2, r3, r4, r5, r6⟩ := Vc7.out.all
  go_wp2_with fail
  clear q0 q1 q2 q3 q4 q5 q6 r0 r1 r2 r3 r4 r5 r6
  refine (rsame_self (K3.W : Nat) (K3.H : Nat) (some ⟨k2, 0, none⟩) (some ⟨k3, 0, none⟩) (K3.W * K3.H) d2 d3 K3.f _ (by omega) (Rb7.out.holds Rb7.out.lt) (Rc7.out.holds Rc7.out.lt)).mono ?_
  rintro e w8 ⟨rfl, hb⟩
  have X8 := Lib.hid (X7.out.below hb X7.out.lt)
  have LB8 := Lib.hid (LB7.out.trans (hb.mono LB7.out.size))
  have Vb8 := Lib.hid (Vb7.out.below hb Vb7.out.lt)
  have Rb8 := Lib.hid (Rb7.out.below hb Rb7.out.lt)
  have Vc8 := Lib.hid (Vc7.out.below hb Vc7.out.lt)
  have Rc8 := Lib.hid (Rc7.out.below hb Rc7.out.lt)
  have Vd8 := Lib.hid (Vd7.out.below hb Vd7.out.lt)
  have Rd8 := Lib.hid (Rd7.out.below hb Rd7.out.lt)
  clear hb X7 LB7 Vb7 Rb7 Vc7 Rc7 Vd7 Rd7
  clear Vb8
  clear Vc8
  clear Rb8
  clear Rc8
  obtain ⟨q0, q1, q2, q3, q4, q5, q6⟩ := Vd8.out.all
  obtain ⟨r0, r1, r2, r3, r4, r5, r6⟩ := X8.out.all
  go_wp2_with fail
  clear q0 q1 q2 q3 q4 q5 q6 r0 r1 r2 r3 r4 r5 r6
  refine (rsame_self (G.W : Nat) (G.H : Nat) (some ⟨k4, 0, none⟩) (some ⟨b, o, none⟩) (G.W * G.H) d4 c G.f _ (by omega) (Rd8.out.holds Rd8.out.lt) (HHo.out _ LB8.out)).mono ?_
  rintro e w9 ⟨rfl, hb⟩
  have X9 := Lib.hid (X8.out.below hb X8.out.lt)
  have LB9 := Lib.hid (LB8.out.trans (hb.mono LB8.out.size))
  have Vd9 := Lib.hid (Vd8.out.below hb Vd8.out.lt)
  have Rd9 := Lib.hid (Rd8.out.below hb Rd8.out.lt)
  clear hb X8 LB8 Vd8 Rd8
  clear Vd9
  clear Rd9
  go_wp2_with fail
  refine (HC1i.out _).mono ?_
  rintro e w10 ⟨rfl, hb⟩
  have X10 := Lib.hid (X9.out.below hb X9.out.lt)
  have LB10 := Lib.hid (LB9.out.trans (hb.mono LB9.out.size))
  clear hb X9 LB9
  go_wp2_with fail
  refine (HCi1.out _).mono ?_
  rintro e w11 ⟨rfl, hb⟩
  have X11 := Lib.hid (X10.out.below hb X10.out.lt)
  have LB11 := Lib.hid (LB10.out.trans (hb.mono LB10.out.size))
  clear hb X10 LB10
  go_wp2_with fail
  refine (HC23.out _).mono ?_
  rintro e w12 ⟨rfl, hb⟩
  have X12 := Lib.hid (X11.out.below hb X11.out.lt)
  have LB12 := Lib.hid (LB11.out.trans (hb.mono LB11.out.size))
  clear hb X11 LB11
  go_wp2_with fail
  refine (HCl.out _).mono ?_
  rintro e w13 ⟨rfl, hb⟩
  have X13 := Lib.hid (X12.out.below hb X12.out.lt)
  have LB13 := Lib.hid (LB12.out.trans (hb.mono LB12.out.size))
  clear hb X12 LB12
  go_wp2_with fail
  refine (HCr.out _).mono ?_
  rintro e w14 ⟨rfl, hb⟩
  have X14 := Lib.hid (X13.out.below hb X13.out.lt)
  have LB14 := Lib.hid (LB13.out.trans (hb.mono LB13.out.size))
  clear hb X13 LB13
  have s1 : ((ml : Int) == (ml : Int)) = true := by simp
  go_wp2_with fail
  refine (HAL.out _).mono ?_
  rintro e w15 ⟨rfl, hb⟩
  have X15 := Lib.hid (X14.out.below hb X14.out.lt)
  have LB15 := Lib.hid (LB14.out.trans (hb.mono LB14.out.size))
  clear hb X14 LB14
  go_wp2
  go_ret
  exact ⟨rfl, LB15.out⟩
theorem compose7_any (W H : Int) (A : Option Addr) (n c : Nat) (f : Nat → Bool) (x y z : Int) (w : World) (hr : Holds w w.heap.size A n f) (hal : ∀ w, Calls Try.prog 56 #[] w fun e w' => e = .returned (.bool true) ∧ Below w.heap.size w w') :
    Calls Try.prog 15 #[.agg #[.int .i64 W, .int .i64 H, .slice A n c], .int .i64 x, .int .i64 y, .int .i64 z] w fun e w' => e = .returned (.bool true) ∧ Below w.heap.size w w' := by
  rcases valid7_case W H A n c with h | ⟨h, U, V, rfl, rfl, rfl, hg⟩
  · exact comp7_v W H A n c x y z w h hal
  · by_cases hx : 0 ≤ x ∧ x < 16
    · by_cases hy : 0 ≤ y ∧ y < 16
      · by_cases hz : 0 ≤ z ∧ z < 16
        · obtain ⟨m1, rfl⟩ : ∃ m : Nat, x = m := ⟨x.toNat, (Int.toNat_of_nonneg hx.1).symm⟩
          obtain ⟨m2, rfl⟩ : ∃ m : Nat, y = m := ⟨y.toNat, (Int.toNat_of_nonneg hy.1).symm⟩
          obtain ⟨m3, rfl⟩ : ∃ m : Nat, z = m := ⟨z.toNat, (Int.toNat_of_nonneg hz.1).symm⟩
          obtain ⟨b, o, rfl, lb, hcs⟩ := hr (hg f).n0
          exact comp7_main ⟨U, V, f⟩ (hg f) b o c m1 m2 m3 (by omega) (by omega) (by omega) w lb hcs h hal
        · exact comp7_c _ _ _ _ _ x y z w h hx hy hz hal
      · exact comp7_b _ _ _ _ _ x y z w h hx hy hal
    · exact comp7_a _ _ _ _ _ x y z w h hx hal
end Go.Proofs.Ytjbofdgdcnfmoaa
