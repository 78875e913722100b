/- The statement SatinKnown: the walk. -/
import Derived.Test.YtmakjdfkldacaaaAlv
import Derived.Test.YtmakjdfkldacaaaIsr
import Derived.Test.YtmakjdfkldacaaaOpl
import Derived.Test.YtmakjdfkldacaaaCet
import Derived.Test.YtmakjdfkldacaaaTwl
import Derived.Test.YtmakjdfkldacaaaKnm
namespace Go.Proofs.Ytmakjdfkldacaaa
open Go.RowKit
set_option maxRecDepth 100000
set_option linter.unusedVariables false
set_option linter.unusedSimpArgs false

/-- A grid of letters came back. -/
def GrN (w : World) (W H : Int) (N : Nat) (F : Nat → Bool) (e : Ending) (w' : World) : Prop :=
  ∃ k, e = .returned (.tuple #[.agg #[.int .i64 W, .int .i64 H, .slice (some ⟨k, 0, none⟩) N N], .int .i64 0]) ∧ w.heap.size ≤ k ∧ Row w' k N F ∧ Below w.heap.size w w'
theorem known9_err (n m dx dy : Int) (nb : Bool) (w0 : World) (h : mv n m = false) : Calls Try.prog 6 #[.int .i64 n, .int .i64 m, .int .i64 dx, .int .i64 dy, .bool nb] w0 fun e w' => e = .returned (.bool true) ∧ Below w0.heap.size w0 w' := by
  have HS := Lib.hid (fun u => pst_err h u)
  have HM := Lib.hid (fun u => (show Calls Try.prog 30 #[.int .i64 n, .int .i64 m] u fun e w' => e = .returned (.bool false) ∧ Below u.heap.size u w' by have k := rmv_b n m u; rwa [h] at k))
  go_enter Try.func6, Try.ntmps6
  go_wp2_with fail
  refine (HS.out _).mono ?_
  rintro e w1 ⟨rfl, hb⟩
  have hb1 := hb.alloc hb.size (.cells #[.int .i64 0, .int .i64 0, .slice none 0 0] 24)
  go_wp2_with fail
  refine (HM.out _).mono ?_
  rintro e w2 ⟨rfl, hb2⟩
  have hb3 := hb1.trans (hb2.mono hb1.size)
  go_wp2_with fail
  refine (alive9_any _).mono ?_
  rintro e w3 ⟨rfl, hb4⟩
  go_wp2
  go_ret
  exact ⟨rfl, hb3.trans (hb4.mono hb3.size)⟩
theorem known9_o0 (n m : Nat) (dx dy : Int) (nb : Bool) (w0 : World) (h : mv (n : Nat) (m : Nat) = true) (g1 : 20 < n) : Calls Try.prog 6 #[.int .i64 (n : Nat), .int .i64 (m : Nat), .int .i64 dx, .int .i64 dy, .bool nb] w0 fun e w' => e = .returned (.bool true) ∧ Below w0.heap.size w0 w' := by
  have HS := Lib.hid (fun u => pst_ok h u)
  have y1 : (20 : Int) < (n : Int) := by omega
  go_enter Try.func6, Try.ntmps6
  go_wp2_with fail
  refine (HS.out _).mono ?_
  rintro e w1 ⟨k, c, rfl, hk, hrow, hb⟩
  have hb1 := hb.alloc hb.size (.cells #[.int .i64 (n : Nat), .int .i64 (n : Nat), .slice (some ⟨k, 0, none⟩) (n * n) c] 24)
  go_wp2_with fail
  refine (alive9_any _).mono ?_
  rintro e w3 ⟨rfl, hb4⟩
  go_wp2
  go_ret
  exact ⟨rfl, hb1.trans (hb4.mono hb1.size)⟩
theorem known9_o1 (n m : Nat) (dx dy : Int) (nb : Bool) (w0 : World) (h : mv (n : Nat) (m : Nat) = true) (g1 : n ≤ 20) (g2 : dx < -1000000000) : Calls Try.prog 6 #[.int .i64 (n : Nat), .int .i64 (m : Nat), .int .i64 dx, .int .i64 dy, .bool nb] w0 fun e w' => e = .returned (.bool true) ∧ Below w0.heap.size w0 w' := by
  have HS := Lib.hid (fun u => pst_ok h u)
  have y1 : ¬ (20 : Int) < (n : Int) := by omega
  go_enter Try.func6, Try.ntmps6
  go_wp2_with fail
  refine (HS.out _).mono ?_
  rintro e w1 ⟨k, c, rfl, hk, hrow, hb⟩
  have hb1 := hb.alloc hb.size (.cells #[.int .i64 (n : Nat), .int .i64 (n : Nat), .slice (some ⟨k, 0, none⟩) (n * n) c] 24)
  go_wp2_with fail
  refine (alive9_any _).mono ?_
  rintro e w3 ⟨rfl, hb4⟩
  go_wp2
  go_ret
  exact ⟨rfl, hb1.trans (hb4.mono hb1.size)⟩
theorem known9_o2 (n m : Nat) (dx dy : Int) (nb : Bool) (w0 : World) (h : mv (n : Nat) (m : Nat) = true) (g1 : n ≤ 20) (g2 : -1000000000 ≤ dx) (g3 : 1000000000 < dx) : Calls Try.prog 6 #[.int .i64 (n : Nat), .int .i64 (m : Nat), .int .i64 dx, .int .i64 dy, .bool nb] w0 fun e w' => e = .returned (.bool true) ∧ Below w0.heap.size w0 w' := by
  have HS := Lib.hid (fun u => pst_ok h u)
  have y1 : ¬ (20 : Int) < (n : Int) := by omega
  have y2 : ¬ dx < -1000000000 := by omega
  go_enter Try.func6, Try.ntmps6
  go_wp2_with fail
  refine (HS.out _).mono ?_
  rintro e w1 ⟨k, c, rfl, hk, hrow, hb⟩
  have hb1 := hb.alloc hb.size (.cells #[.int .i64 (n : Nat), .int .i64 (n : Nat), .slice (some ⟨k, 0, none⟩) (n * n) c] 24)
  go_wp2_with fail
  refine (alive9_any _).mono ?_
  rintro e w3 ⟨rfl, hb4⟩
  go_wp2
  go_ret
  exact ⟨rfl, hb1.trans (hb4.mono hb1.size)⟩
theorem known9_o3 (n m : Nat) (dx dy : Int) (nb : Bool) (w0 : World) (h : mv (n : Nat) (m : Nat) = true) (g1 : n ≤ 20) (g2 : -1000000000 ≤ dx) (g3 : dx ≤ 1000000000) (g4 : dy < -1000000000) : Calls Try.prog 6 #[.int .i64 (n : Nat), .int .i64 (m : Nat), .int .i64 dx, .int .i64 dy, .bool nb] w0 fun e w' => e = .returned (.bool true) ∧ Below w0.heap.size w0 w' := by
  have HS := Lib.hid (fun u => pst_ok h u)
  have y1 : ¬ (20 : Int) < (n : Int) := by omega
  have y2 : ¬ dx < -1000000000 := by omega
  have y3 : ¬ 1000000000 < dx := by omega
  go_enter Try.func6, Try.ntmps6
  go_wp2_with fail
  refine (HS.out _).mono ?_
  rintro e w1 ⟨k, c, rfl, hk, hrow, hb⟩
  have hb1 := hb.alloc hb.size (.cells #[.int .i64 (n : Nat), .int .i64 (n : Nat), .slice (some ⟨k, 0, none⟩) (n * n) c] 24)
  go_wp2_with fail
  refine (alive9_any _).mono ?_
  rintro e w3 ⟨rfl, hb4⟩
  go_wp2
  go_ret
  exact ⟨rfl, hb1.trans (hb4.mono hb1.size)⟩
theorem known9_o4 (n m : Nat) (dx dy : Int) (nb : Bool) (w0 : World) (h : mv (n : Nat) (m : Nat) = true) (g1 : n ≤ 20) (g2 : -1000000000 ≤ dx) (g3 : dx ≤ 1000000000) (g4 : -1000000000 ≤ dy) (g5 : 1000000000 < dy) : Calls Try.prog 6 #[.int .i64 (n : Nat), .int .i64 (m : Nat), .int .i64 dx, .int .i64 dy, .bool nb] w0 fun e w' => e = .returned (.bool true) ∧ Below w0.heap.size w0 w' := by
  have HS := Lib.hid (fun u => pst_ok h u)
  have y1 : ¬ (20 : Int) < (n : Int) := by omega
  have y2 : ¬ dx < -1000000000 := by omega
  have y3 : ¬ 1000000000 < dx := by omega
  have y4 : ¬ dy < -1000000000 := by omega
  go_enter Try.func6, Try.ntmps6
  go_wp2_with fail
  refine (HS.out _).mono ?_
  rintro e w1 ⟨k, c, rfl, hk, hrow, hb⟩
  have hb1 := hb.alloc hb.size (.cells #[.int .i64 (n : Nat), .int .i64 (n : Nat), .slice (some ⟨k, 0, none⟩) (n * n) c] 24)
  go_wp2_with fail
  refine (alive9_any _).mono ?_
  rintro e w3 ⟨rfl, hb4⟩
  go_wp2
  go_ret
  exact ⟨rfl, hb1.trans (hb4.mono hb1.size)⟩
set_option maxHeartbeats 3200000 in
theorem known9_false (n m : Nat) (dx dy : Int) (w0 : World) (h : mv (n : Nat) (m : Nat) = true) (g1 : n ≤ 20) (g2 : -1000000000 ≤ dx) (g3 : dx ≤ 1000000000) (g4 : -1000000000 ≤ dy) (g5 : dy ≤ 1000000000) : Calls Try.prog 6 #[.int .i64 (n : Nat), .int .i64 (m : Nat), .int .i64 dx, .int .i64 dy, .bool false] w0 fun e w' => e = .returned (.bool true) ∧ Below w0.heap.size w0 w' := by
  obtain ⟨a, b, ha, hb, h5, h64, h2, hm, hg⟩ := mv_nat h
  obtain rfl : n = a := by omega
  obtain rfl : m = b := by omega
  obtain ⟨j, hj, hjm⟩ := inv_ex n (by omega) m (by omega) (by omega) hg
  obtain ⟨N, hN⟩ : ∃ N, n * n = N := ⟨_, rfl⟩
  obtain ⟨fs, hfs⟩ : ∃ fs, fShift n n dx dy (stf n m) = fs := ⟨_, rfl⟩
  have hS : Sat n m (0 + dx - m * dy) true fs := by rw [← hfs]; exact stf_shift (by omega) dx dy
  have HSt := Lib.hid (fun u => (show Calls Try.prog 13 #[.int .i64 (n : Nat), .int .i64 (m : Nat)] u (SpN u (n : Nat) (n : Nat) N (stf n m)) by rw [← hN]; exact pst_ok h u))
  have HM := Lib.hid (fun u => (show Calls Try.prog 30 #[.int .i64 (n : Nat), .int .i64 (m : Nat)] u fun e w' => e = .returned (.bool true) ∧ Below u.heap.size u w' by have k := rmv_b (n : Nat) (m : Nat) u; rwa [h] at k))
  have HK := Lib.hid (fun u k c => (show Calls Try.prog 31 #[.agg #[.int .i64 (n : Nat), .int .i64 (n : Nat), .slice (some ⟨k, 0, none⟩) N c]] u fun e w' => e = .returned (.int .i64 0) ∧ Below u.heap.size u w' by rw [← hN]; exact rchk_valid _ c u (by omega) h64 (by omega) h64))
  have HSh := Lib.hid (fun u k c (hr : Row u k N (stf n m)) => (show Calls Try.prog 32 #[.agg #[.int .i64 (n : Nat), .int .i64 (n : Nat), .slice (some ⟨k, 0, none⟩) N c], .int .i64 dx, .int .i64 dy] u (GrN u (n : Nat) (n : Nat) N fs) by
    rw [← hN, ← hfs]; rw [← hN] at hr
    exact shift_ok n n _ c (stf n m) dx dy u (hr.holds hr.lt) (by omega) h64 (by omega) h64 (by omega) (by omega) (by omega) (by omega)))
  have HNo := Lib.hid (fun u k (hr : Row u k N fs) => (show Calls Try.prog 14 #[.agg #[.int .i64 (n : Nat), .int .i64 (n : Nat), .slice (some ⟨k, 0, none⟩) N N]] u (GrN u (n : Nat) (n : Nat) N (fun i => !fs i)) by
    rw [← hN]; rw [← hN] at hr
    exact not_ok n n _ (n * n) fs u (hr.holds hr.lt) (by omega) h64 (by omega) h64))
  have hSF : Sat n m (0 + dx - m * dy) true fs := hS
  have hL := hSF.isL (by omega) (by omega)
  have HI := Lib.hid (fun u k (hr : Row u k N fs) => (show Calls Try.prog 15 #[.agg #[.int .i64 (n : Nat), .int .i64 (n : Nat), .slice (some ⟨k, 0, none⟩) N N]] u fun e w' => e = .returned (.tuple #[.int .i64 (n : Nat), .int .i64 (m : Nat), .bool true, .int .i64 0]) ∧ Below u.heap.size u w' by
    rw [← hN]; rw [← hN] at hr
    have q := pis9_ok n n (some ⟨k, 0, none⟩) (n * n) fs n m 1 hL u (hr.holds hr.lt) (Nat.le_refl _) h64 (by omega) h64
    rwa [sat_isr hSF h h5] at q))
  have HMo := Lib.hid (fun u k (hr : Row u k N fs) => (show Calls Try.prog 16 #[.agg #[.int .i64 (n : Nat), .int .i64 (n : Nat), .slice (some ⟨k, 0, none⟩) N N]] u (LOut u 1 (fun _ => (m : Int)) 0) by
    rw [← hN]; rw [← hN] at hr
    exact pmo_yes (n : Nat) (n : Nat) (some ⟨k, 0, none⟩) (n * n) (n * n) (n : Nat) (m : Nat) 1 0 u rfl rfl (fun v hv => pof_at hL _ _ v (((hr.holds hr.lt).below hv).more hv.size) (Nat.le_refl _) h64 (by omega) h64)))
  have HE := Lib.hid (fun i (hi : i < n) => end_one (m := m) hjm hi)
  have HPk := Lib.hid (fun i => pick_one (n := n) (m := m) (i := i) (by omega))
  have HB := Lib.hid (fun (x y : Nat) (hx : x < n) (hy : y < n) => (show y * n + x < N by rw [← hN]; exact ix_bd hx hy))
  have hN64 : N ≤ 400 := by rw [← hN]; exact Nat.mul_le_mul g1 g1
  have HCL := Lib.hid (fun (p : Nat → Bool) k => cnt_le p k)
  have HCS := Lib.hid (fun (p : Nat → Bool) k => cnt_s p k)
  have y1 : ¬ (20 : Int) < (n : Int) := by omega
  have y2 : ¬ dx < -1000000000 := by omega
  have y3 : ¬ 1000000000 < dx := by omega
  have y4 : ¬ dy < -1000000000 := by omega
  have y5 : ¬ 1000000000 < dy := by omega
  have z1 : ((n : Int) != (n : Int)) = false := by simp
  have z2 : ((n : Int) == (n : Int)) = true := by simp
  have z3 : ((m : Int) == (m : Int)) = true := by simp
  clear hS hSF hL hfs hN hjm hg h
  generalize hst : stf n m = st at *
  clear hst
  have LB0 := Lib.hid (Below.refl w0.heap.size w0)
  go_enter Try.func6, Try.ntmps6
  go_wp2_with fail
  with_reducible refine Calls.mono (HSt.out _) ?_
  rintro e w1 ⟨ka, ca, rfl, hka, hrow, hb⟩
  have hba := hb.trans ((((Below.refl _ w1).alloc (Nat.le_refl _) (.cells #[.int .i64 (n : Nat), .int .i64 (n : Nat), .slice (some ⟨ka, 0, none⟩) N ca] 24))).mono hb.size)
  have Ba1 := Lib.hid (Box.new w1 (n : Nat) (n : Nat) (.slice (some ⟨ka, 0, none⟩) N ca))
  have Ra1 := Lib.hid (hrow.alloc (.cells #[.int .i64 (n : Nat), .int .i64 (n : Nat), .slice (some ⟨ka, 0, none⟩) N ca] 24))
  clear hb hrow hka
  have LB1 := Lib.hid (LB0.out.trans (hba.mono LB0.out.size))
  clear hba LB0
  go_wp2_with fail
  with_reducible refine Calls.mono (HM.out _) ?_
  rintro e w2 ⟨rfl, hb⟩
  have LB2 := Lib.hid (LB1.out.trans (hb.mono LB1.out.size))
  have Ba2 := Lib.hid (Ba1.out.below hb Ba1.out.lt)
  have Ra2 := Lib.hid (Ra1.out.below hb Ra1.out.lt)
  clear hb LB1 Ba1 Ra1
  obtain ⟨q0, q1, q2, q3, q4, q5, q6⟩ := Ba2.out.all
  go_wp2_with fail
  clear q0 q1 q2 q3 q4 q5 q6
  with_reducible refine Calls.mono (HK.out _ ka ca) ?_
  rintro e w3 ⟨rfl, hb⟩
  have LB3 := Lib.hid (LB2.out.trans (hb.mono LB2.out.size))
  have Ba3 := Lib.hid (Ba2.out.below hb Ba2.out.lt)
  have Ra3 := Lib.hid (Ra2.out.below hb Ra2.out.lt)
  clear hb LB2 Ba2 Ra2
  have HC := Lib.hid (fun i (hi : i < N) => Ra3.out.cell hi)
  obtain ⟨q0, q1, q2, q3, q4, q5, q6⟩ := Ba3.out.all
  go_wp2
  go_loopw [13] (fun i wr => ∃ x : Nat, x ≤ n ∧ i = .int .i64 x ∧ wr = w3) (fun i _ => n - (intOf i).toNat)
  case atStart => exact ⟨0, by omega, rfl, rfl⟩
  case round =>
    obtain ⟨x, hx, rfl, rfl⟩ := hrel
    by_cases hlx : x < n
    · have x1 : (x : Int) < (n : Int) := by omega
      go_wp2
      go_loopw [14, 15, 16] (fun e p i wv => ∃ y : Nat, y ≤ n ∧ i = .int .i64 y ∧ e = .int .i64 (cnt (fun k => st (k * n + x)) y : Nat) ∧ p = .int .i64 (cnt (fun k => st (x * n + k)) y : Nat) ∧ wv = wr) (fun _ _ i _ => n - (intOf i).toNat)
      case atStart => exact ⟨0, by omega, rfl, rfl, rfl, rfl⟩
      case round =>
        obtain ⟨y, hy, rfl, rfl, rfl, hww⟩ := hrel
        subst hww
        by_cases hly : y < n
        · have x2 : (y : Int) < (n : Int) := by omega
          have b1 := HB.out x y hlx hly
          have b2 := HB.out y x hly hlx
          have c1 := HC.out _ b1
          have c2 := HC.out _ b2
          have hE := HCS.out (fun k => st (k * n + x)) y
          have hP := HCS.out (fun k => st (x * n + k)) y
          have hEl := HCL.out (fun k => st (k * n + x)) y
          have hPl := HCL.out (fun k => st (x * n + k)) y
          try dsimp only at hE hP
          generalize st (y * n + x) = u at *
          generalize st (x * n + y) = v at *
          generalize cnt (fun k => st (k * n + x)) y = ce at *
          generalize cnt (fun k => st (x * n + k)) y = cp at *
          have HEE := Lib.hid hE
          have HPP := Lib.hid hP
          clear hE hP
          have m1 : y * n ≤ 400 := by omega
          have m2 : x * n ≤ 400 := by omega
          have e1 : (y : Int) * (n : Int) = ((y * n : Nat) : Int) := by rw [Int.natCast_mul]
          have e2 : (x : Int) * (n : Int) = ((x * n : Nat) : Int) := by rw [Int.natCast_mul]
          have e3 : IntKind.i64.wrap ((y : Int) * (n : Int)) = ((y * n : Nat) : Int) := by rw [e1]; exact IntWalk.i64_in _ (by omega)
          have e4 : IntKind.i64.wrap ((x : Int) * (n : Int)) = ((x * n : Nat) : Int) := by rw [e2]; exact IntWalk.i64_in _ (by omega)
          have e5 : IntKind.i64.wrap (((y * n : Nat) : Int) + (x : Int)) = ((y * n + x : Nat) : Int) := by rw [← Int.natCast_add]; exact IntWalk.i64_in _ (by omega)
          have e6 : IntKind.i64.wrap (((x * n : Nat) : Int) + (y : Int)) = ((x * n + y : Nat) : Int) := by rw [← Int.natCast_add]; exact IntWalk.i64_in _ (by omega)
          have f5 : ((y * n : Nat) : Int) + (x : Int) = ((y * n + x : Nat) : Int) := by rw [Int.natCast_add]
          have f6 : ((x * n : Nat) : Int) + (y : Int) = ((x * n + y : Nat) : Int) := by rw [Int.natCast_add]
          have i1 : ((y * n + x : Nat) : Int) < (N : Int) := by omega
          have i2 : ((x * n + y : Nat) : Int) < (N : Int) := by omega
          have i3 : (0 : Int) ≤ ((y * n + x : Nat) : Int) := by omega
          have i4 : (0 : Int) ≤ ((x * n + y : Nat) : Int) := by omega
          have o1 : IntKind.i64.wrap ((y * n : Nat) : Int) = ((y * n : Nat) : Int) := IntWalk.i64_in _ (by omega)
          have o2 : IntKind.i64.wrap ((x * n : Nat) : Int) = ((x * n : Nat) : Int) := IntWalk.i64_in _ (by omega)
          have o3 : IntKind.i64.wrap ((y * n + x : Nat) : Int) = ((y * n + x : Nat) : Int) := IntWalk.i64_in _ (by omega)
          have o4 : IntKind.i64.wrap ((x * n + y : Nat) : Int) = ((x * n + y : Nat) : Int) := IntWalk.i64_in _ (by omega)
          have o5 : IntKind.i64.wrap ((ce : Int) + 1) = (ce : Int) + 1 := IntWalk.i64_in _ (by omega)
          have o6 : IntKind.i64.wrap ((cp : Int) + 1) = (cp : Int) + 1 := IntWalk.i64_in _ (by omega)
          generalize y * n + x = p1 at *
          generalize x * n + y = p2 at *
          generalize y * n = q1 at *
          generalize x * n = q2 at *
          cases u <;> cases v
          all_goals
            go_wp2
            exact ⟨⟨y + 1, by omega, by go_num, congrArg (Value.int .i64) (by rw [HEE.out]; simp), congrArg (Value.int .i64) (by rw [HPP.out]; simp), trivial⟩, by simp [intOf]; omega⟩
        · have e : y = n := by omega
          have hE := HE.out x hlx
          have hP := HPk.out x
          rw [← e] at hE hP
          rw [e] at hE hP ⊢
          have x2 : ¬ (n : Int) < (n : Int) := by omega
          rw [hE, hP]
          go_wp2
          exact ⟨⟨x + 1, by omega, by go_num, trivial⟩, by simp [intOf]; omega⟩
    · have e : x = n := by omega
      have x1 : ¬ (x : Int) < (n : Int) := by omega
      clear HE HPk HB HCL HCS
      obtain ⟨q0, q1, q2, q3, q4, q5, q6⟩ := Ba3.out.all
      go_wp2_with fail
      clear q0 q1 q2 q3 q4 q5 q6
      with_reducible refine Calls.mono (HSh.out _ ka ca Ra3.out) ?_
      rintro e w4 ⟨ks, rfl, hks, hrow, hb⟩
      have hba := hb.trans ((((Below.refl _ w4).alloc (Nat.le_refl _) (.cells #[.int .i64 (n : Nat), .int .i64 (n : Nat), .slice (some ⟨ks, 0, none⟩) N N] 24))).mono hb.size)
      have Bs4 := Lib.hid (Box.new w4 (n : Nat) (n : Nat) (.slice (some ⟨ks, 0, none⟩) N N))
      have Rs4 := Lib.hid (hrow.alloc (.cells #[.int .i64 (n : Nat), .int .i64 (n : Nat), .slice (some ⟨ks, 0, none⟩) N N] 24))
      have hsl : ks < w4.heap.size := hrow.lt
      have h0z : w0.heap.size ≤ w4.heap.size := Nat.le_trans LB3.out.size hb.size
      clear hb hrow
      have LB4 := Lib.hid (LB3.out.trans (hba.mono LB3.out.size))
      have Ba4 := Lib.hid (Ba3.out.below hba Ba3.out.lt)
      have Ra4 := Lib.hid (Ra3.out.below hba Ra3.out.lt)
      clear hba LB3 Ba3 Ra3
      clear Ba4
      clear Ra4
      obtain ⟨q0, q1, q2, q3, q4, q5, q6⟩ := Bs4.out.all
      go_wp2_with fail
      clear q0 q1 q2 q3 q4 q5 q6
      with_reducible refine Calls.mono (HI.out _ ks Rs4.out) ?_
      rintro e w5 ⟨rfl, hb⟩
      have LB5 := Lib.hid (LB4.out.trans (hb.mono LB4.out.size))
      have Bs5 := Lib.hid (Bs4.out.below hb Bs4.out.lt)
      have Rs5 := Lib.hid (Rs4.out.below hb Rs4.out.lt)
      clear hb LB4 Bs4 Rs4
      obtain ⟨q0, q1, q2, q3, q4, q5, q6⟩ := Bs5.out.all
      go_wp2_with fail
      clear q0 q1 q2 q3 q4 q5 q6
      with_reducible refine Calls.mono (HMo.out _ ks Rs5.out) ?_
      rintro e w6 ⟨DP, dP, rfl, hl, hb⟩
      have P6 := Lib.hid (LV.of hl)
      have LB6 := Lib.hid (LB5.out.trans (hb.mono LB5.out.size))
      have Bs6 := Lib.hid (Bs5.out.below hb Bs5.out.lt)
      have Rs6 := Lib.hid (Rs5.out.below hb Rs5.out.lt)
      clear hb LB5 Bs5 Rs5
      clear hl
      go_wp2_with fail
      with_reducible refine Calls.mono (lv_same (n := 1) (by omega) (P6.out.next ((Below.refl _ _).alloc (Nat.le_refl _) (.cells #[.int .i64 (m : Nat)] 3))) (LV.of (lo := 0) (fun _ => ⟨_, rfl, Nat.zero_le _, row_one (w6) (m : Nat)⟩)) dP 1 (fun _ _ => rfl)) ?_
      rintro e w7 ⟨rfl, hb⟩
      have hb := (show Below (w6).heap.size (w6) w7 from ((Below.refl _ _).alloc (Nat.le_refl _) _).trans (hb.mono (by simp)))
      have LB7 := Lib.hid (LB6.out.trans (hb.mono LB6.out.size))
      have Bs7 := Lib.hid (Bs6.out.below hb Bs6.out.lt)
      have Rs7 := Lib.hid (Rs6.out.below hb Rs6.out.lt)
      have P7 := Lib.hid (P6.out.next hb)
      clear hb LB6 Bs6 Rs6 P6
      go_wp2_with fail
      with_reducible refine Calls.mono (alive9_any _) ?_
      rintro e w8 ⟨rfl, hb⟩
      have LB8 := Lib.hid (LB7.out.trans (hb.mono LB7.out.size))
      have Bs8 := Lib.hid (Bs7.out.below hb Bs7.out.lt)
      have Rs8 := Lib.hid (Rs7.out.below hb Rs7.out.lt)
      have P8 := Lib.hid (P7.out.next hb)
      clear hb LB7 Bs7 Rs7 P7
      go_wp2
      go_ret
      exact ⟨rfl, LB8.out⟩
set_option maxHeartbeats 3200000 in
theorem known9_true (n m : Nat) (dx dy : Int) (w0 : World) (h : mv (n : Nat) (m : Nat) = true) (g1 : n ≤ 20) (g2 : -1000000000 ≤ dx) (g3 : dx ≤ 1000000000) (g4 : -1000000000 ≤ dy) (g5 : dy ≤ 1000000000) : Calls Try.prog 6 #[.int .i64 (n : Nat), .int .i64 (m : Nat), .int .i64 dx, .int .i64 dy, .bool true] w0 fun e w' => e = .returned (.bool true) ∧ Below w0.heap.size w0 w' := by
  obtain ⟨a, b, ha, hb, h5, h64, h2, hm, hg⟩ := mv_nat h
  obtain rfl : n = a := by omega
  obtain rfl : m = b := by omega
  obtain ⟨j, hj, hjm⟩ := inv_ex n (by omega) m (by omega) (by omega) hg
  obtain ⟨N, hN⟩ : ∃ N, n * n = N := ⟨_, rfl⟩
  obtain ⟨fs, hfs⟩ : ∃ fs, fShift n n dx dy (stf n m) = fs := ⟨_, rfl⟩
  have hS : Sat n m (0 + dx - m * dy) true fs := by rw [← hfs]; exact stf_shift (by omega) dx dy
  have HSt := Lib.hid (fun u => (show Calls Try.prog 13 #[.int .i64 (n : Nat), .int .i64 (m : Nat)] u (SpN u (n : Nat) (n : Nat) N (stf n m)) by rw [← hN]; exact pst_ok h u))
  have HM := Lib.hid (fun u => (show Calls Try.prog 30 #[.int .i64 (n : Nat), .int .i64 (m : Nat)] u fun e w' => e = .returned (.bool true) ∧ Below u.heap.size u w' by have k := rmv_b (n : Nat) (m : Nat) u; rwa [h] at k))
  have HK := Lib.hid (fun u k c => (show Calls Try.prog 31 #[.agg #[.int .i64 (n : Nat), .int .i64 (n : Nat), .slice (some ⟨k, 0, none⟩) N c]] u fun e w' => e = .returned (.int .i64 0) ∧ Below u.heap.size u w' by rw [← hN]; exact rchk_valid _ c u (by omega) h64 (by omega) h64))
  have HSh := Lib.hid (fun u k c (hr : Row u k N (stf n m)) => (show Calls Try.prog 32 #[.agg #[.int .i64 (n : Nat), .int .i64 (n : Nat), .slice (some ⟨k, 0, none⟩) N c], .int .i64 dx, .int .i64 dy] u (GrN u (n : Nat) (n : Nat) N fs) by
    rw [← hN, ← hfs]; rw [← hN] at hr
    exact shift_ok n n _ c (stf n m) dx dy u (hr.holds hr.lt) (by omega) h64 (by omega) h64 (by omega) (by omega) (by omega) (by omega)))
  have HNo := Lib.hid (fun u k (hr : Row u k N fs) => (show Calls Try.prog 14 #[.agg #[.int .i64 (n : Nat), .int .i64 (n : Nat), .slice (some ⟨k, 0, none⟩) N N]] u (GrN u (n : Nat) (n : Nat) N (fun i => !fs i)) by
    rw [← hN]; rw [← hN] at hr
    exact not_ok n n _ (n * n) fs u (hr.holds hr.lt) (by omega) h64 (by omega) h64))
  have hSF : Sat n m (0 + dx - m * dy) false (fun i => !fs i) := hS.nt
  have hL := hSF.isL (by omega) (by omega)
  have HI := Lib.hid (fun u k (hr : Row u k N (fun i => !fs i)) => (show Calls Try.prog 15 #[.agg #[.int .i64 (n : Nat), .int .i64 (n : Nat), .slice (some ⟨k, 0, none⟩) N N]] u fun e w' => e = .returned (.tuple #[.int .i64 (n : Nat), .int .i64 (m : Nat), .bool false, .int .i64 0]) ∧ Below u.heap.size u w' by
    rw [← hN]; rw [← hN] at hr
    have q := pis9_ok n n (some ⟨k, 0, none⟩) (n * n) (fun i => !fs i) n m 1 hL u (hr.holds hr.lt) (Nat.le_refl _) h64 (by omega) h64
    rwa [sat_isr hSF h h5] at q))
  have HMo := Lib.hid (fun u k (hr : Row u k N (fun i => !fs i)) => (show Calls Try.prog 16 #[.agg #[.int .i64 (n : Nat), .int .i64 (n : Nat), .slice (some ⟨k, 0, none⟩) N N]] u (LOut u 1 (fun _ => (m : Int)) 0) by
    rw [← hN]; rw [← hN] at hr
    exact pmo_yes (n : Nat) (n : Nat) (some ⟨k, 0, none⟩) (n * n) (n * n) (n : Nat) (m : Nat) 1 0 u rfl rfl (fun v hv => pof_at hL _ _ v (((hr.holds hr.lt).below hv).more hv.size) (Nat.le_refl _) h64 (by omega) h64)))
  have HE := Lib.hid (fun i (hi : i < n) => end_one (m := m) hjm hi)
  have HPk := Lib.hid (fun i => pick_one (n := n) (m := m) (i := i) (by omega))
  have HB := Lib.hid (fun (x y : Nat) (hx : x < n) (hy : y < n) => (show y * n + x < N by rw [← hN]; exact ix_bd hx hy))
  have hN64 : N ≤ 400 := by rw [← hN]; exact Nat.mul_le_mul g1 g1
  have HCL := Lib.hid (fun (p : Nat → Bool) k => cnt_le p k)
  have HCS := Lib.hid (fun (p : Nat → Bool) k => cnt_s p k)
  have y1 : ¬ (20 : Int) < (n : Int) := by omega
  have y2 : ¬ dx < -1000000000 := by omega
  have y3 : ¬ 1000000000 < dx := by omega
  have y4 : ¬ dy < -1000000000 := by omega
  have y5 : ¬ 1000000000 < dy := by omega
  have z1 : ((n : Int) != (n : Int)) = false := by simp
  have z2 : ((n : Int) == (n : Int)) = true := by simp
  have z3 : ((m : Int) == (m : Int)) = true := by simp
  clear hS hSF hL hfs hN hjm hg h
  generalize hst : stf n m = st at *
  clear hst
  have LB0 := Lib.hid (Below.refl w0.heap.size w0)
  go_enter Try.func6, Try.ntmps6
  go_wp2_with fail
  with_reducible refine Calls.mono (HSt.out _) ?_
  rintro e w1 ⟨ka, ca, rfl, hka, hrow, hb⟩
  have hba := hb.trans ((((Below.refl _ w1).alloc (Nat.le_refl _) (.cells #[.int .i64 (n : Nat), .int .i64 (n : Nat), .slice (some ⟨ka, 0, none⟩) N ca] 24))).mono hb.size)
  have Ba1 := Lib.hid (Box.new w1 (n : Nat) (n : Nat) (.slice (some ⟨ka, 0, none⟩) N ca))
  have Ra1 := Lib.hid (hrow.alloc (.cells #[.int .i64 (n : Nat), .int .i64 (n : Nat), .slice (some ⟨ka, 0, none⟩) N ca] 24))
  clear hb hrow hka
  have LB1 := Lib.hid (LB0.out.trans (hba.mono LB0.out.size))
  clear hba LB0
  go_wp2_with fail
  with_reducible refine Calls.mono (HM.out _) ?_
  rintro e w2 ⟨rfl, hb⟩
  have LB2 := Lib.hid (LB1.out.trans (hb.mono LB1.out.size))
  have Ba2 := Lib.hid (Ba1.out.below hb Ba1.out.lt)
  have Ra2 := Lib.hid (Ra1.out.below hb Ra1.out.lt)
  clear hb LB1 Ba1 Ra1
  obtain ⟨q0, q1, q2, q3, q4, q5, q6⟩ := Ba2.out.all
  go_wp2_with fail
  clear q0 q1 q2 q3 q4 q5 q6
  with_reducible refine Calls.mono (HK.out _ ka ca) ?_
  rintro e w3 ⟨rfl, hb⟩
  have LB3 := Lib.hid (LB2.out.trans (hb.mono LB2.out.size))
  have Ba3 := Lib.hid (Ba2.out.below hb Ba2.out.lt)
  have Ra3 := Lib.hid (Ra2.out.below hb Ra2.out.lt)
  clear hb LB2 Ba2 Ra2
  have HC := Lib.hid (fun i (hi : i < N) => Ra3.out.cell hi)
  obtain ⟨q0, q1, q2, q3, q4, q5, q6⟩ := Ba3.out.all
  go_wp2
  go_loopw [13] (fun i wr => ∃ x : Nat, x ≤ n ∧ i = .int .i64 x ∧ wr = w3) (fun i _ => n - (intOf i).toNat)
  case atStart => exact ⟨0, by omega, rfl, rfl⟩
  case round =>
    obtain ⟨x, hx, rfl, rfl⟩ := hrel
    by_cases hlx : x < n
    · have x1 : (x : Int) < (n : Int) := by omega
      go_wp2
      go_loopw [14, 15, 16] (fun e p i wv => ∃ y : Nat, y ≤ n ∧ i = .int .i64 y ∧ e = .int .i64 (cnt (fun k => st (k * n + x)) y : Nat) ∧ p = .int .i64 (cnt (fun k => st (x * n + k)) y : Nat) ∧ wv = wr) (fun _ _ i _ => n - (intOf i).toNat)
      case atStart => exact ⟨0, by omega, rfl, rfl, rfl, rfl⟩
      case round =>
        obtain ⟨y, hy, rfl, rfl, rfl, hww⟩ := hrel
        subst hww
        by_cases hly : y < n
        · have x2 : (y : Int) < (n : Int) := by omega
          have b1 := HB.out x y hlx hly
          have b2 := HB.out y x hly hlx
          have c1 := HC.out _ b1
          have c2 := HC.out _ b2
          have hE := HCS.out (fun k => st (k * n + x)) y
          have hP := HCS.out (fun k => st (x * n + k)) y
          have hEl := HCL.out (fun k => st (k * n + x)) y
          have hPl := HCL.out (fun k => st (x * n + k)) y
          try dsimp only at hE hP
          generalize st (y * n + x) = u at *
          generalize st (x * n + y) = v at *
          generalize cnt (fun k => st (k * n + x)) y = ce at *
          generalize cnt (fun k => st (x * n + k)) y = cp at *
          have HEE := Lib.hid hE
          have HPP := Lib.hid hP
          clear hE hP
          have m1 : y * n ≤ 400 := by omega
          have m2 : x * n ≤ 400 := by omega
          have e1 : (y : Int) * (n : Int) = ((y * n : Nat) : Int) := by rw [Int.natCast_mul]
          have e2 : (x : Int) * (n : Int) = ((x * n : Nat) : Int) := by rw [Int.natCast_mul]
          have e3 : IntKind.i64.wrap ((y : Int) * (n : Int)) = ((y * n : Nat) : Int) := by rw [e1]; exact IntWalk.i64_in _ (by omega)
          have e4 : IntKind.i64.wrap ((x : Int) * (n : Int)) = ((x * n : Nat) : Int) := by rw [e2]; exact IntWalk.i64_in _ (by omega)
          have e5 : IntKind.i64.wrap (((y * n : Nat) : Int) + (x : Int)) = ((y * n + x : Nat) : Int) := by rw [← Int.natCast_add]; exact IntWalk.i64_in _ (by omega)
          have e6 : IntKind.i64.wrap (((x * n : Nat) : Int) + (y : Int)) = ((x * n + y : Nat) : Int) := by rw [← Int.natCast_add]; exact IntWalk.i64_in _ (by omega)
          have f5 : ((y * n : Nat) : Int) + (x : Int) = ((y * n + x : Nat) : Int) := by rw [Int.natCast_add]
          have f6 : ((x * n : Nat) : Int) + (y : Int) = ((x * n + y : Nat) : Int) := by rw [Int.natCast_add]
          have i1 : ((y * n + x : Nat) : Int) < (N : Int) := by omega
          have i2 : ((x * n + y : Nat) : Int) < (N : Int) := by omega
          have i3 : (0 : Int) ≤ ((y * n + x : Nat) : Int) := by omega
          have i4 : (0 : Int) ≤ ((x * n + y : Nat) : Int) := by omega
          have o1 : IntKind.i64.wrap ((y * n : Nat) : Int) = ((y * n : Nat) : Int) := IntWalk.i64_in _ (by omega)
          have o2 : IntKind.i64.wrap ((x * n : Nat) : Int) = ((x * n : Nat) : Int) := IntWalk.i64_in _ (by omega)
          have o3 : IntKind.i64.wrap ((y * n + x : Nat) : Int) = ((y * n + x : Nat) : Int) := IntWalk.i64_in _ (by omega)
          have o4 : IntKind.i64.wrap ((x * n + y : Nat) : Int) = ((x * n + y : Nat) : Int) := IntWalk.i64_in _ (by omega)
          have o5 : IntKind.i64.wrap ((ce : Int) + 1) = (ce : Int) + 1 := IntWalk.i64_in _ (by omega)
          have o6 : IntKind.i64.wrap ((cp : Int) + 1) = (cp : Int) + 1 := IntWalk.i64_in _ (by omega)
          generalize y * n + x = p1 at *
          generalize x * n + y = p2 at *
          generalize y * n = q1 at *
          generalize x * n = q2 at *
          cases u <;> cases v
          all_goals
            go_wp2
            exact ⟨⟨y + 1, by omega, by go_num, congrArg (Value.int .i64) (by rw [HEE.out]; simp), congrArg (Value.int .i64) (by rw [HPP.out]; simp), trivial⟩, by simp [intOf]; omega⟩
        · have e : y = n := by omega
          have hE := HE.out x hlx
          have hP := HPk.out x
          rw [← e] at hE hP
          rw [e] at hE hP ⊢
          have x2 : ¬ (n : Int) < (n : Int) := by omega
          rw [hE, hP]
          go_wp2
          exact ⟨⟨x + 1, by omega, by go_num, trivial⟩, by simp [intOf]; omega⟩
    · have e : x = n := by omega
      have x1 : ¬ (x : Int) < (n : Int) := by omega
      clear HE HPk HB HCL HCS
      obtain ⟨q0, q1, q2, q3, q4, q5, q6⟩ := Ba3.out.all
      go_wp2_with fail
      clear q0 q1 q2 q3 q4 q5 q6
      with_reducible refine Calls.mono (HSh.out _ ka ca Ra3.out) ?_
      rintro e w4 ⟨ks, rfl, hks, hrow, hb⟩
      have hba := hb.trans ((((Below.refl _ w4).alloc (Nat.le_refl _) (.cells #[.int .i64 (n : Nat), .int .i64 (n : Nat), .slice (some ⟨ks, 0, none⟩) N N] 24))).mono hb.size)
      have Bs4 := Lib.hid (Box.new w4 (n : Nat) (n : Nat) (.slice (some ⟨ks, 0, none⟩) N N))
      have Rs4 := Lib.hid (hrow.alloc (.cells #[.int .i64 (n : Nat), .int .i64 (n : Nat), .slice (some ⟨ks, 0, none⟩) N N] 24))
      have hsl : ks < w4.heap.size := hrow.lt
      have h0z : w0.heap.size ≤ w4.heap.size := Nat.le_trans LB3.out.size hb.size
      clear hb hrow
      have LB4 := Lib.hid (LB3.out.trans (hba.mono LB3.out.size))
      have Ba4 := Lib.hid (Ba3.out.below hba Ba3.out.lt)
      have Ra4 := Lib.hid (Ra3.out.below hba Ra3.out.lt)
      clear hba LB3 Ba3 Ra3
      clear Ba4
      clear Ra4
      obtain ⟨q0, q1, q2, q3, q4, q5, q6⟩ := Bs4.out.all
      go_wp2_with fail
      clear q0 q1 q2 q3 q4 q5 q6
      with_reducible refine Calls.mono (HNo.out _ ks Rs4.out) ?_
      rintro e w5 ⟨kn, rfl, hkn, hrow, hb⟩
      have hbz := LB4.out.trans (hb.mono LB4.out.size)
      have Bz := Bs4.out.below hb Bs4.out.lt
      have hlz : w4.heap.size < kn := by have := Bs4.out.lt; omega
      obtain ⟨p0, p1, p2, p3, p4, p5, p6⟩ := Bz.all
      have Bx5 := Lib.hid (box_set3 Bz (n : Nat) (n : Nat) (.slice (some ⟨kn, 0, none⟩) N N))
      have Rx5 := Lib.hid (((hrow.far (p := ⟨w4.heap.size, 0, none⟩) (by simp; omega) (.int .i64 (n : Nat))).far (p := ⟨w4.heap.size, 1, none⟩) (by simp; omega) (.int .i64 (n : Nat))).far (p := ⟨w4.heap.size, 2, none⟩) (by simp; omega) (.slice (some ⟨kn, 0, none⟩) N N))
      have LB5 := Lib.hid (((hbz.setCell (p := ⟨w4.heap.size, 0, none⟩) h0z (.int .i64 (n : Nat))).setCell (p := ⟨w4.heap.size, 1, none⟩) h0z (.int .i64 (n : Nat))).setCell (p := ⟨w4.heap.size, 2, none⟩) h0z (.slice (some ⟨kn, 0, none⟩) N N))
      clear Bs4 Rs4 LB4 hbz Bz hb hrow
      obtain ⟨q0, q1, q2, q3, q4, q5, q6⟩ := Bx5.out.all
      go_wp2_with fail
      clear q0 q1 q2 q3 q4 q5 q6
      with_reducible refine Calls.mono (HI.out _ kn Rx5.out) ?_
      rintro e w6 ⟨rfl, hb⟩
      have LB6 := Lib.hid (LB5.out.trans (hb.mono LB5.out.size))
      have Bx6 := Lib.hid (Bx5.out.below hb Bx5.out.lt)
      have Rx6 := Lib.hid (Rx5.out.below hb Rx5.out.lt)
      clear hb LB5 Bx5 Rx5
      obtain ⟨q0, q1, q2, q3, q4, q5, q6⟩ := Bx6.out.all
      go_wp2_with fail
      clear q0 q1 q2 q3 q4 q5 q6
      with_reducible refine Calls.mono (HMo.out _ kn Rx6.out) ?_
      rintro e w7 ⟨DP, dP, rfl, hl, hb⟩
      have P7 := Lib.hid (LV.of hl)
      have LB7 := Lib.hid (LB6.out.trans (hb.mono LB6.out.size))
      have Bx7 := Lib.hid (Bx6.out.below hb Bx6.out.lt)
      have Rx7 := Lib.hid (Rx6.out.below hb Rx6.out.lt)
      clear hb LB6 Bx6 Rx6
      clear hl
      go_wp2_with fail
      with_reducible refine Calls.mono (lv_same (n := 1) (by omega) (P7.out.next ((Below.refl _ _).alloc (Nat.le_refl _) (.cells #[.int .i64 (m : Nat)] 3))) (LV.of (lo := 0) (fun _ => ⟨_, rfl, Nat.zero_le _, row_one (w7) (m : Nat)⟩)) dP 1 (fun _ _ => rfl)) ?_
      rintro e w8 ⟨rfl, hb⟩
      have hb := (show Below (w7).heap.size (w7) w8 from ((Below.refl _ _).alloc (Nat.le_refl _) _).trans (hb.mono (by simp)))
      have LB8 := Lib.hid (LB7.out.trans (hb.mono LB7.out.size))
      have Bx8 := Lib.hid (Bx7.out.below hb Bx7.out.lt)
      have Rx8 := Lib.hid (Rx7.out.below hb Rx7.out.lt)
      have P8 := Lib.hid (P7.out.next hb)
      clear hb LB7 Bx7 Rx7 P7
      go_wp2_with fail
      with_reducible refine Calls.mono (alive9_any _) ?_
      rintro e w9 ⟨rfl, hb⟩
      have LB9 := Lib.hid (LB8.out.trans (hb.mono LB8.out.size))
      have Bx9 := Lib.hid (Bx8.out.below hb Bx8.out.lt)
      have Rx9 := Lib.hid (Rx8.out.below hb Rx8.out.lt)
      have P9 := Lib.hid (P8.out.next hb)
      clear hb LB8 Bx8 Rx8 P8
      go_wp2
      go_ret
      exact ⟨rfl, LB9.out⟩
theorem known9_any (n m dx dy : Int) (nb : Bool) (w0 : World) : Calls Try.prog 6 #[.int .i64 n, .int .i64 m, .int .i64 dx, .int .i64 dy, .bool nb] w0 fun e w' => e = .returned (.bool true) ∧ Below w0.heap.size w0 w' := by
  cases h : mv n m
  · exact known9_err n m dx dy nb w0 h
  obtain ⟨a, b, rfl, rfl, _⟩ := mv_nat h
  by_cases g1 : a ≤ 20
  case neg => exact known9_o0 a b dx dy nb w0 h (by omega)
  by_cases g2 : -1000000000 ≤ dx
  case neg => exact known9_o1 a b dx dy nb w0 h g1 (by omega)
  by_cases g3 : dx ≤ 1000000000
  case neg => exact known9_o2 a b dx dy nb w0 h g1 g2 (by omega)
  by_cases g4 : -1000000000 ≤ dy
  case neg => exact known9_o3 a b dx dy nb w0 h g1 g2 g3 (by omega)
  by_cases g5 : dy ≤ 1000000000
  case neg => exact known9_o4 a b dx dy nb w0 h g1 g2 g3 g4 (by omega)
  cases nb
  · exact known9_false a b dx dy w0 h g1 g2 g3 g4 g5
  · exact known9_true a b dx dy w0 h g1 g2 g3 g4 g5
end Go.Proofs.Ytmakjdfkldacaaa
