/- The statement SatinRuns: the walk. -/
import Derived.Test.YtmakjdfkldacaaaAlv
import Derived.Test.YtmakjdfkldacaaaTwl
import Derived.Test.YtmakjdfkldacaaaRun
import Derived.Test.YtmakjdfkldacaaaOpl
import Derived.Test.YtmakjdfkldacaaaCet
namespace Go.Proofs.Ytmakjdfkldacaaa
open Go.RowKit
set_option maxRecDepth 100000
set_option linter.unusedVariables false
set_option linter.unusedSimpArgs false

/-- The twill of the runs of a row, with the step 0, is the row. -/
theorem ptw_row {g : Nat → Bool} {n : Nat} (hn : 2 ≤ n) (hn2 : n ≤ 64) (h0 : g 0 = true) (h1 : g (n - 1) = false) (D : Option Addr) (d : Nat) (v : World) (hl : L2.Holds v v.heap.size D (cn g n) (rlI g n)) :
    Calls Try.prog 11 #[.slice D (cn g n) d, .int .i64 0] v (SpN v (n : Nat) 1 n g) := by
  have hv := vr_rl hn hn2 h0 h1
  have h := ptw_ok hv D d 0 0 (by rw [sm_rl_all]; simp) (by omega) (by omega) v hl
  rw [sm_rl_all, Nat.gcd_zero_right, Nat.div_self (by omega)] at h
  refine h.mono fun e w' ⟨k, c, p1, p2, p3, p4⟩ => ?_
  rw [Nat.mul_one] at p1 p3
  refine ⟨k, c, p1, p2, p3.congr fun i hi => ?_, p4⟩
  unfold twf
  rw [Nat.zero_mul, Nat.mod_eq_of_lt hi]
  have e1 : (((i : Nat) : Int) - ((0 : Nat) : Int)) % (n : Int) = (i : Int) := by
    rw [show ((i : Nat) : Int) - ((0 : Nat) : Int) = i by omega]
    exact Int.emod_eq_of_lt (by omega) (by omega)
  rw [e1, Int.toNat_natCast]
  exact rowf_rl hi h0
theorem runs9_great (A : Option Addr) (n c : Nat) (w0 : World) (h : 70 < n) : Calls Try.prog 9 #[.slice A n c] w0 fun e w' => e = .returned (.bool true) ∧ Below w0.heap.size w0 w' := by
  have x1 : (70 : Int) < (n : Int) := by omega
  go_enter Try.func9, Try.ntmps9
  go_wp2_with fail
  refine (alive9_any _).mono ?_
  rintro e w1 ⟨rfl, hb⟩
  go_wp2
  go_ret
  exact ⟨rfl, hb⟩
theorem runs9_many (A : Option Addr) (n c : Nat) (w0 : World) (h : n ≤ 70) (h2 : 64 < n) : Calls Try.prog 9 #[.slice A n c] w0 fun e w' => e = .returned (.bool true) ∧ Below w0.heap.size w0 w' := by
  have x1 : ¬ (70 : Int) < (n : Int) := by omega
  have x2 : (64 : Int) < (n : Int) := by omega
  have HP := Lib.hid (fun u => prun_many A n c u h2)
  go_enter Try.func9, Try.ntmps9
  go_wp2_with fail
  refine (HP.out _).mono ?_
  rintro e w1 ⟨D, d, rfl, hl, hb⟩
  go_wp2_with fail
  refine (alive9_any _).mono ?_
  rintro e w2 ⟨rfl, hb2⟩
  go_wp2
  go_ret
  exact ⟨rfl, hb.trans (hb2.mono hb.size)⟩
theorem runs9_bad (A : Option Addr) (n c : Nat) (w0 : World) (h : n ≤ 70) (h2 : ¬ 64 < n) (HP : ∀ u, Below w0.heap.size w0 u → Calls Try.prog 20 #[.slice A n c] u (LOut u 0 (fun _ => 0) 8)) : Calls Try.prog 9 #[.slice A n c] w0 fun e w' => e = .returned (.bool true) ∧ Below w0.heap.size w0 w' := by
  have x1 : ¬ (70 : Int) < (n : Int) := by omega
  have x2 : ¬ (64 : Int) < (n : Int) := by omega
  have HP := Lib.hid HP
  go_enter Try.func9, Try.ntmps9
  go_wp2_with fail
  refine (HP.out _ (Below.refl _ _)).mono ?_
  rintro e w1 ⟨D, d, rfl, hl, hb⟩
  go_wp2_with fail
  refine (alive9_any _).mono ?_
  rintro e w2 ⟨rfl, hb2⟩
  go_wp2
  go_ret
  exact ⟨ret_bool (by simp; omega), hb.trans (hb2.mono hb.size)⟩
set_option maxHeartbeats 1600000 in
theorem runs9_ok (b o n c : Nat) (g : Nat → Bool) (w0 : World) (hb : b < w0.heap.size) (h2 : 2 ≤ n) (h64 : n ≤ 64) (hc : ∀ i, i < n → w0.cell? ⟨b, o + i, none⟩ = some (.bool (g i))) (g0 : g 0 = true) (g1 : g (n - 1) = false) : Calls Try.prog 9 #[.slice (some ⟨b, o, none⟩) n c] w0 fun e w' => e = .returned (.bool true) ∧ Below w0.heap.size w0 w' := by
  have x1 : ¬ (70 : Int) < (n : Int) := by omega
  have HC := Lib.hid (fun u (h : Below w0.heap.size w0 u) => (show Holds u u.heap.size (some ⟨b, o, none⟩) n g from fun _ => ⟨b, o, rfl, Nat.lt_of_lt_of_le hb h.size, fun i hi => (h.cell (p := ⟨b, o + i, none⟩) hb).trans (hc i hi)⟩))
  have HP := Lib.hid (prun_ok b o n c g w0 hb h2 h64 hc g0 g1)
  have HT := Lib.hid (fun D d v (hl : LV v D (cn g n) (rlI g n)) => ptw_row h2 h64 g0 g1 D d v hl.h)
  have HV := Lib.hid (fun D d v (hl : LV v D (cn g n) (rlI g n)) => (show Calls Try.prog 37 #[.slice D (cn g n) d] v fun e w' => e = .returned (.bool true) ∧ Below v.heap.size v w' by
    have k := rvr_any D (cn g n) d (rlI g n) v (by have := cn_le64 g n; omega) hl.h
    rw [vr_iff.2 (vr_rl h2 h64 g0 g1)] at k
    exact k.mono fun e w' ⟨p, q⟩ => ⟨p, by rw [q]; exact Below.refl _ _⟩))
  clear hc g0 g1
  generalize cn g n = N at *
  generalize rlI g n = l at *
  have LB0 := Lib.hid (Below.refl w0.heap.size w0)
  go_enter Try.func9, Try.ntmps9
  go_wp2_with fail
  with_reducible refine Calls.mono (HP.out) ?_
  rintro e w1 ⟨DP, dP, rfl, hl, hb⟩
  have P1 := Lib.hid (LV.of hl)
  have LB1 := Lib.hid (LB0.out.trans (hb.mono LB0.out.size))
  clear hb LB0
  clear hl
  go_wp2_with fail
  with_reducible refine Calls.mono (HT.out DP dP _ P1.out) ?_
  rintro e w2 ⟨ka, ca, rfl, hka, hrow, hb⟩
  have hba := hb.trans ((((Below.refl _ w2).alloc (Nat.le_refl _) (.cells #[.int .i64 (n : Nat), .int .i64 1, .slice (some ⟨ka, 0, none⟩) n ca] 24))).mono hb.size)
  have Ba2 := Lib.hid (Box.new w2 (n : Nat) 1 (.slice (some ⟨ka, 0, none⟩) n ca))
  have Ra2 := Lib.hid (hrow.alloc (.cells #[.int .i64 (n : Nat), .int .i64 1, .slice (some ⟨ka, 0, none⟩) n ca] 24))
  clear hb hrow hka
  have LB2 := Lib.hid (LB1.out.trans (hba.mono LB1.out.size))
  have P2 := Lib.hid (P1.out.next hba)
  clear hba LB1 P1
  go_wp2_with fail
  with_reducible refine Calls.mono (HV.out DP dP _ P2.out) ?_
  rintro e w3 ⟨rfl, hb⟩
  have LB3 := Lib.hid (LB2.out.trans (hb.mono LB2.out.size))
  have P3 := Lib.hid (P2.out.next hb)
  have Ba3 := Lib.hid (Ba2.out.below hb Ba2.out.lt)
  have Ra3 := Lib.hid (Ra2.out.below hb Ra2.out.lt)
  clear hb LB2 P2 Ba2 Ra2
  obtain ⟨q0, q1, q2, q3, q4, q5, q6⟩ := Ba3.out.all
  go_wp2_with fail
  clear q0 q1 q2 q3 q4 q5 q6
  with_reducible refine Calls.mono (rsame_se (n : Nat) 1 (some ⟨ka, 0, none⟩) (some ⟨b, o, none⟩) n ca c g _ (by omega) (Ra3.out.holds Ra3.out.lt) (HC.out _ LB3.out)) ?_
  rintro e w4 ⟨rfl, hb⟩
  have LB4 := Lib.hid (LB3.out.trans (hb.mono LB3.out.size))
  have P4 := Lib.hid (P3.out.next hb)
  have Ba4 := Lib.hid (Ba3.out.below hb Ba3.out.lt)
  have Ra4 := Lib.hid (Ra3.out.below hb Ra3.out.lt)
  clear hb LB3 P3 Ba3 Ra3
  go_wp2_with fail
  with_reducible refine Calls.mono (alive9_any _) ?_
  rintro e w5 ⟨rfl, hb⟩
  have LB5 := Lib.hid (LB4.out.trans (hb.mono LB4.out.size))
  have P5 := Lib.hid (P4.out.next hb)
  have Ba5 := Lib.hid (Ba4.out.below hb Ba4.out.lt)
  have Ra5 := Lib.hid (Ra4.out.below hb Ra4.out.lt)
  clear hb LB4 P4 Ba4 Ra4
  go_wp2
  go_ret
  exact ⟨rfl, LB5.out⟩
theorem runs9_any (A : Option Addr) (n c : Nat) (g : Nat → Bool) (w0 : World) (hr : Holds w0 w0.heap.size A n g) : Calls Try.prog 9 #[.slice A n c] w0 fun e w' => e = .returned (.bool true) ∧ Below w0.heap.size w0 w' := by
  by_cases h1 : 70 < n
  · exact runs9_great A n c w0 h1
  by_cases h2 : 64 < n
  · exact runs9_many A n c w0 (by omega) h2
  by_cases h3 : n < 2
  · exact runs9_bad A n c w0 (by omega) h2 (fun u _ => prun_few A n c u h3)
  obtain ⟨b, o, rfl, hb, hc⟩ := hr (by omega)
  by_cases h4 : g 0 = true ∧ g (n - 1) = false
  · exact runs9_ok b o n c g w0 hb (by omega) (by omega) hc h4.1 h4.2
  · exact runs9_bad _ n c w0 (by omega) h2 (fun u hu => prun_bad b o n c g u (by omega) (by omega) (fun i hi => (hu.cell (p := ⟨b, o + i, none⟩) hb).trans (hc i hi)) h4)
end Go.Proofs.Ytmakjdfkldacaaa
