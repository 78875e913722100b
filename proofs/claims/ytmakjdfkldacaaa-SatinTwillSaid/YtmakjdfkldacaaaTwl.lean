/- The program's Twill and Satin. -/
import Derived.Test.YtmakjdfkldacaaaRow
import Derived.Test.YtmakjdfkldacaaaStl
import Derived.Test.YtmakjdfkldacaaaCb
namespace Go.Proofs.Ytmakjdfkldacaaa
open Go.RowKit
set_option maxRecDepth 100000
set_option linter.unusedVariables false
set_option linter.unusedSimpArgs false

/-- The cells of a twill. -/
def twf (N s : Nat) (r : Nat → Bool) (i : Nat) : Bool := r ((((i % N : Nat) : Int) - ((s * (i / N) : Nat) : Int)) % (N : Int)).toNat
theorem spf_twf (N s : Nat) (r : Nat → Bool) (i : Nat) : spf N 1 r s (i % N) (i / N) = twf N s r i := by
  unfold spf twf
  rw [Nat.mod_one, Nat.zero_mul, Nat.zero_add, Nat.div_one]
theorem psp9 (N k d : Nat) (r : Nat → Bool) (s V : Nat) (w : World) (hrow : Row w k N r) (hN0 : 1 ≤ N) (hN : N ≤ 64) (hs : s < N) (hV0 : 1 ≤ V) (hV : V ≤ 64) :
    Calls Try.prog 46 #[.agg #[.int .i64 (N : Nat), .int .i64 1, .slice (some ⟨k, 0, none⟩) N d], .int .i64 (s : Nat), .int .i64 (N : Nat), .int .i64 (V : Nat)] w (SpG w N V (twf N s r)) := by
  have h := psp_ok N 1 k 0 d r s N V w hrow.lt (fun i hi => by rw [Nat.zero_add]; exact hrow.cell (by omega)) hN0 hN (Nat.le_refl _) (by omega) hs hN0 hN hV0 hV
  rw [Nat.mul_one] at h
  exact h.mono fun e w' ⟨k', c', h1, h2, h3, h4⟩ => ⟨k', c', h1, h2, h3.congr fun i _ => spf_twf N s r i, h4⟩
theorem bdN {B : Nat} {a w : World} (h : Below B a w) (k : Nat) : Below B a (w.drewN k) := ⟨h.os, h.tape, h.output, h.size, h.block⟩
theorem spg_fin {w w2 : World} {W H k c r : Nat} {F : Nat → Bool} {a b d : Value} (hr : w.heap.size ≤ r) (hk : r < k) (hrow : Row w2 k (W * H) F) (hb : Below w.heap.size w w2) :
    SpG w W H F (.returned (.tuple #[.agg #[.int .i64 W, .int .i64 H, .slice (some ⟨k, 0, none⟩) (W * H) c], .int .i64 0])) (((w2.setCell ⟨r, 0, none⟩ a).setCell ⟨r, 1, none⟩ b).setCell ⟨r, 2, none⟩ d) :=
  ⟨k, c, rfl, by omega, ((hrow.far (by simp; omega) _).far (by simp; omega) _).far (by simp; omega) _, ((hb.setCell hr _).setCell hr _).setCell hr _⟩
theorem six_far {w : World} {gb g0 : Nat} {W H : Int} {s : Value} (h : Box w gb W H s) (hne : gb ≠ g0) (a b c : Value) :
    (((w.setCell ⟨g0, 0, none⟩ a).setCell ⟨g0, 1, none⟩ b).setCell ⟨g0, 2, none⟩ c).cell? ⟨gb, 0, none⟩ = some (.int .i64 W) ∧ (((w.setCell ⟨g0, 0, none⟩ a).setCell ⟨g0, 1, none⟩ b).setCell ⟨g0, 2, none⟩ c).cell? ⟨gb, 1, none⟩ = some (.int .i64 H) ∧ (((w.setCell ⟨g0, 0, none⟩ a).setCell ⟨g0, 1, none⟩ b).setCell ⟨g0, 2, none⟩ c).cell? ⟨gb, 2, none⟩ = some s := by
  have k := ((h.far (p := ⟨g0, 0, none⟩) hne a).far (p := ⟨g0, 1, none⟩) hne b).far (p := ⟨g0, 2, none⟩) hne c
  exact ⟨k.c0, k.c1, k.c2⟩
theorem ptw_err (A : Option Addr) (n c : Nat) (f : Nat → Int) (st : Int) (w : World) (hn : n ≤ 5000) (hr : L2.Holds w w.heap.size A n f) (h : vr f n = false) : Calls Try.prog 11 #[.slice A n c, .int .i64 st] w (ErrGrid w 8) := by
  have R0 := RS.new w
  have HV := Lib.hid (fun u (hb : Below w.heap.size w u) => (show Calls Try.prog 43 #[.slice A n c] u fun e w' => e = .returned (.bool false) ∧ w' = u by have k := pvr_any A n c f u hn ((hr.below hb).more hb.size); rwa [h] at k))
  have R1 := Lib.hid R0
  obtain ⟨q0, q1, q2, q3, q4, q5, q6⟩ := R0.box.all
  clear R0 hr
  go_enter Try.func11, Try.ntmps11
  go_wp2_with fail
  refine (HV.out _ R1.out.bel).mono ?_
  rintro e w1 ⟨rfl, hw1⟩
  subst hw1
  go_wp2
  refine bodyPost_ret (v := .tuple #[.agg #[.int .i64 0, .int .i64 0, .slice none 0 0], .int .i64 8]) (by simp [results, Try.results11, go_sem, q0, q1, q2]) rfl ?_
  exact ⟨rfl, by first | exact R1.out.bel | exact (((R1.out.bel.setCell (Nat.le_refl _) _).setCell (Nat.le_refl _) _).setCell (Nat.le_refl _) _)⟩
set_option maxHeartbeats 1600000 in
theorem ptw_ok {f : Nat → Int} {n : Nat} (hv : VR f n) (A : Option Addr) (c : Nat) (st : Int) (s : Nat) (hs : st % ((sm f n : Nat) : Int) = s) (h0 : -9223372036854775808 ≤ st) (h1 : st ≤ 9223372036854775807) (w : World) (hr : L2.Holds w w.heap.size A n f) :
    Calls Try.prog 11 #[.slice A n c, .int .i64 st] w (SpG w (sm f n) (sm f n / Nat.gcd (sm f n) s) (twf (sm f n) s (rowf f n))) := by
  have hn := hv.nle
  have N2 := hv.sge
  have N64 := hv.le
  have R0 := RS.new w
  have HV := Lib.hid (fun u (hb : Below w.heap.size w u) => (show Calls Try.prog 43 #[.slice A n c] u fun e w' => e = .returned (.bool true) ∧ w' = u by have k := pvr_any A n c f u (by omega) ((hr.below hb).more hb.size); rwa [vr_iff.2 hv] at k))
  have HR := Lib.hid (fun u (hb : Below w.heap.size w u) => prow_any hv A c u ((hr.below hb).more hb.size))
  have sN : s < sm f n := by have := Int.emod_lt_of_pos st (show 0 < ((sm f n : Nat) : Int) by omega); omega
  have hM := fun u => modulo9_any st ((sm f n : Nat) : Int) u (by omega) (by omega) h0 h1
  rw [hs] at hM
  have HM := Lib.hid hM
  have HG := Lib.hid (fun u => pgcd_any (sm f n) s u (by omega) (by omega))
  have g0 : 1 ≤ Nat.gcd (sm f n) s := Nat.gcd_pos_of_pos_left _ (by omega)
  have g1 : Nat.gcd (sm f n) s ≤ sm f n := Nat.gcd_le_left _ (by omega)
  have V0 : 1 ≤ sm f n / Nat.gcd (sm f n) s := Nat.div_pos g1 (by omega)
  have V1 : sm f n / Nat.gcd (sm f n) s ≤ sm f n := Nat.div_le_self _ _
  have e1 : ((sm f n : Nat) : Int).tdiv ((Nat.gcd (sm f n) s : Nat) : Int) = ((sm f n / Nat.gcd (sm f n) s : Nat) : Int) := by rw [Int.tdiv_eq_ediv_of_nonneg (by omega), Int.natCast_ediv]
  have HP := Lib.hid (fun u k d (hrow : Row u k (sm f n) (rowf f n)) => psp9 (sm f n) k d (rowf f n) s (sm f n / Nat.gcd (sm f n) s) u hrow (by omega) (by omega) sN V0 (by omega))
  have R1 := Lib.hid R0
  clear R0 hr hs hM hv
  generalize sm f n / Nat.gcd (sm f n) s = V at *
  generalize Nat.gcd (sm f n) s = g at *
  generalize rowf f n = r at *
  generalize sm f n = N at *
  have e2 : ¬ (g : Int) = 0 := by omega
  have e3 : ¬ g = 0 := by omega
  have e4 : IntKind.i64.wrap (V : Int) = (V : Int) := IntWalk.i64_in _ (by omega)
  go_enter Try.func11, Try.ntmps11
  go_wp2_with fail
  refine (HV.out _ R1.out.bel).mono ?_
  rintro e w1 ⟨rfl, hw1⟩
  generalize w.alloc (.cells #[.int .i64 0, .int .i64 0, .slice none 0 0] 24) = w0 at *
  subst hw1
  clear HV
  go_wp2_with fail
  refine (HR.out _ R1.out.bel).mono ?_
  rintro e w2 ⟨k, d, rfl, hk, hrow, hb⟩
  have R2 := Lib.hid (R1.out.step (hb.mono R1.out.sz))
  have X2 := Box.new w2 (N : Nat) 1 (.slice (some ⟨k, 0, none⟩) N d)
  have R3 := Lib.hid (show RS w (w2.alloc (.cells #[.int .i64 (N : Nat), .int .i64 1, .slice (some ⟨k, 0, none⟩) N d] 24)) from R2.out.step ((Below.refl _ _).alloc R2.out.sz _))
  have W3 := Lib.hid (hrow.alloc (.cells #[.int .i64 (N : Nat), .int .i64 1, .slice (some ⟨k, 0, none⟩) N d] 24))
  have gne : w2.heap.size ≠ w.heap.size := by have := R2.out.sz; omega
  clear hb hrow R1 HR
  have hklt : k < (w2.alloc (.cells #[.int .i64 (N : Nat), .int .i64 1, .slice (some ⟨k, 0, none⟩) N d] 24)).heap.size := W3.out.lt
  obtain ⟨q0, q1, q2, q3, q4, q5, q6⟩ := X2.all
  have X3 := Lib.hid X2
  clear X2
  go_wp2_with fail
  refine (HM.out _).mono ?_
  rintro e w3 ⟨rfl, hw3⟩
  clear q0 q1 q2 q3 q4 q5 q6 HM
  generalize w2.heap.size = gb at *
  generalize w2.alloc (.cells #[.int .i64 (N : Nat), .int .i64 1, .slice (some ⟨k, 0, none⟩) N d] 24) = u0 at *
  subst hw3
  have HS := Lib.hid (fun u (h : Below w3.heap.size w3 u) => (show u.cell? ⟨gb, 0, none⟩ = some (.int .i64 (N : Nat)) ∧ u.cell? ⟨gb, 1, none⟩ = some (.int .i64 1) ∧ u.cell? ⟨gb, 2, none⟩ = some (.slice (some ⟨k, 0, none⟩) N d) from ⟨(X3.out.below h X3.out.lt).c0, (X3.out.below h X3.out.lt).c1, (X3.out.below h X3.out.lt).c2⟩))
  have HP2 := Lib.hid (fun u (h : Below w3.heap.size w3 u) => HP.out u k d (W3.out.below h hklt))
  have HRS := Lib.hid (fun u (h : Below w3.heap.size w3 u) => R3.out.step (h.mono R3.out.sz))
  have HX := Lib.hid (fun u (h : Below w3.heap.size w3 u) a b c => six_far (g0 := w.heap.size) (X3.out.below h X3.out.lt) gne a b c)
  obtain ⟨q0, q1, q2, q3, q4, q5, q6⟩ := X3.out.all
  have hlt0 : w.heap.size < w3.heap.size := R3.out.box.lt
  clear HP
  go_wp2
  go_region_held3 (fun w' => w'.cell? ⟨gb, 0, none⟩ = some (.int .i64 (N : Nat)) ∧ w'.cell? ⟨gb, 1, none⟩ = some (.int .i64 1) ∧ w'.cell? ⟨gb, 2, none⟩ = some (.slice (some ⟨k, 0, none⟩) N d))
    (first | exact hX5 _ _ _ | exact HS.out _ (by (repeat' (first | assumption | exact Below.refl _ _ | refine Below.drew ?_ | refine bdN ?_ _))))
    (first
      | (go_at_call 47
         with_reducible refine Calls.mono (HG.out _) ?_
         rintro e w4 ⟨rfl, m4, rfl⟩)
      | (go_at_call 46
         with_reducible refine Calls.mono (HP2.out _ (by (repeat' (first | assumption | exact Below.refl _ _ | refine Below.drew ?_ | refine bdN ?_ _)))) ?_
         rintro e w5 ⟨k5, d5, rfl, hk5, hrow5, hb5⟩
         have hx5 : Below w3.heap.size w3 w5 := Below.trans (by (repeat' (first | assumption | exact Below.refl _ _ | refine Below.drew ?_ | refine bdN ?_ _))) hb5
         have hX5 := HX.out _ hx5
         have hR5 := HRS.out _ hx5
         have HR5 := Lib.hid hR5
         obtain ⟨p0, p1, p2, p3, p4, p5, p6⟩ := hR5.box.all
         have hk6 : w.heap.size < k5 := Nat.lt_of_lt_of_le hlt0 hk5
         clear hR5))
  all_goals
    go_wp2
    refine bodyPost_ret (v := .tuple #[.agg #[.int .i64 (N : Nat), .int .i64 (V : Nat), .slice (some ⟨k5, 0, none⟩) (N * V) d5], .int .i64 0]) (by simp [results, Try.results11, go_sem, p0, p1, p2]) rfl ?_
    exact spg_fin (Nat.le_refl _) hk6 hrow5 HR5.out.bel
/-- The runs of a satin. -/
def f2 (n : Nat) (i : Nat) : Int := if i = 0 then 1 else (n : Int) - 1
theorem f2_sm {n : Nat} (h : 5 ≤ n) : sm (f2 n) 2 = n := by
  show 0 + (f2 n 0).toNat + (f2 n 1).toNat = n
  unfold f2; simp <;> omega
theorem f2_vr {n : Nat} (h : 5 ≤ n) (h' : n ≤ 64) : VR (f2 n) 2 := ⟨by omega, by omega, fun k hk => by unfold f2; split <;> omega, by rw [f2_sm h]; exact h'⟩
theorem f2_row {n i : Nat} (h : 5 ≤ n) (hi : i < n) : rowf (f2 n) 2 i = decide (i = 0) := by
  have e1 : sm (f2 n) 1 = 1 := by show 0 + (f2 n 0).toNat = 1; unfold f2; simp
  by_cases e : i = 0
  · subst e
    have k := rowf_at (f := f2 n) (N := 2) (k := 0) (i := 0) (by omega) (Nat.le_refl _) (by rw [e1]; omega)
    rw [k] <;> rfl
  · have k := rowf_at (f := f2 n) (N := 2) (k := 1) (i := i) (by omega) (by rw [e1]; omega) (by show i < sm (f2 n) 2; rw [f2_sm h]; exact hi)
    rw [k, decide_eq_false e] <;> rfl
theorem twf_stf {n m i : Nat} (h : 5 ≤ n) : twf n m (rowf (f2 n) 2) i = stf n m i := by
  unfold twf
  have h0 := Int.emod_nonneg (((i % n : Nat) : Int) - ((m * (i / n) : Nat) : Int)) (show (n : Int) ≠ 0 by omega)
  have h1 := Int.emod_lt_of_pos (((i % n : Nat) : Int) - ((m * (i / n) : Nat) : Int)) (show 0 < (n : Int) by omega)
  rw [f2_row h (by omega)]
  unfold stf
  congr 1
  apply propext
  have hi : i % n < n := Nat.mod_lt _ (by omega)
  generalize i % n = a at *
  generalize m * (i / n) = p at *
  have hq := Int.emod_add_mul_ediv ((a : Int) - p) n
  constructor
  · intro k
    have k0 : ((a : Int) - p) % n = 0 := by omega
    rw [k0, Int.zero_add] at hq
    have e : (p : Int) = a + n * (-(((a : Int) - p) / n)) := by rw [Int.mul_neg]; omega
    have e2 : ((p % n : Nat) : Int) = a := by
      rw [Int.natCast_emod, e, Int.add_mul_emod_self_left]
      exact Int.emod_eq_of_lt (by omega) (by omega)
    omega
  · intro k
    have e : (p : Int) = (a : Int) + n * (p / n : Nat) := by
      have := Nat.mod_add_div p n
      rw [← k] at this
      exact_mod_cast this.symm
    rw [show (a : Int) - p = 0 + n * (-((p / n : Nat) : Int)) by rw [Int.mul_neg]; omega, Int.add_mul_emod_self_left]
    rfl
set_option maxHeartbeats 800000 in
theorem pst_ok {n m : Nat} (h : mv (n : Nat) (m : Nat) = true) (w : World) : Calls Try.prog 13 #[.int .i64 (n : Nat), .int .i64 (m : Nat)] w (SpG w n n (stf n m)) := by
  obtain ⟨a, b, ha, hb, h5, h64, h2, hm, hg⟩ := mv_nat h
  obtain rfl : n = a := by omega
  obtain rfl : m = b := by omega
  have R0 := RS.new w
  have HM := Lib.hid (fun u => (show Calls Try.prog 49 #[.int .i64 (n : Nat), .int .i64 (m : Nat)] u fun e w' => e = .returned (.bool true) ∧ Below u.heap.size u w' by have k := pmv_b (n : Nat) (m : Nat) u; rwa [h] at k))
  have HT := Lib.hid (fun u (g : Nat) (hrow : L2.Row u g 2 (f2 n)) => (show Calls Try.prog 11 #[.slice (some ⟨g, 0, none⟩) 2 2, .int .i64 (m : Nat)] u (SpG u n n (stf n m)) by
    have k := ptw_ok (f2_vr h5 h64) (some ⟨g, 0, none⟩) 2 (m : Nat) m (by rw [f2_sm h5]; exact Int.emod_eq_of_lt (by omega) (by omega)) (by omega) (by omega) u (hrow.holds hrow.lt)
    rw [f2_sm h5, hg, Nat.div_one] at k
    exact k.mono fun e w' ⟨k1, c1, p1, p2, p3, p4⟩ => ⟨k1, c1, p1, p2, p3.congr fun i _ => twf_stf h5, p4⟩))
  have HF := Lib.hid (fun (u : World) => (show L2.Row (u.alloc (.cells #[.int .i64 1, .int .i64 ((n : Int) - 1)] 3)) u.heap.size 2 (f2 n) from ⟨_, World.alloc_heap_new _ _, by simp, fun i hi => by
    rcases i with _ | _ | i
    · rfl
    · rfl
    · omega⟩))
  have e1 : IntKind.i64.wrap ((n : Int) - 1) = (n : Int) - 1 := IntWalk.i64_in _ (by omega)
  have R1 := Lib.hid R0
  clear R0 h hg
  go_enter Try.func13, Try.ntmps13
  go_wp2_with fail
  refine (HM.out _).mono ?_
  rintro e w1 ⟨rfl, hb⟩
  have R2 := Lib.hid (R1.out.step (hb.mono R1.out.sz))
  clear hb R1
  go_wp2_with fail
  refine (HT.out _ _ (HF.out w1)).mono ?_
  rintro e w2 ⟨k, c, rfl, hk, hrow, hb⟩
  have hb2 : Below w1.heap.size w1 w2 := ((Below.refl _ _).alloc (Nat.le_refl _) _).trans (hb.mono (by simp))
  have R3 := Lib.hid (R2.out.step (hb2.mono R2.out.sz))
  have hk2 : w.heap.size < k := by have := R2.out.sz; simp at hk; omega
  obtain ⟨q0, q1, q2, q3, q4, q5, q6⟩ := R3.out.box.all
  clear hb hb2 R2
  go_wp2
  refine bodyPost_ret (v := .tuple #[.agg #[.int .i64 (n : Nat), .int .i64 (n : Nat), .slice (some ⟨k, 0, none⟩) (n * n) c], .int .i64 0]) (by simp [results, Try.results13, go_sem, q0, q1, q2]) rfl ?_
  exact spg_fin (Nat.le_refl _) hk2 hrow R3.out.bel
theorem pst_err {n m : Int} (h : mv n m = false) (w : World) : Calls Try.prog 13 #[.int .i64 n, .int .i64 m] w (ErrGrid w 2) := by
  have R0 := RS.new w
  have HM := Lib.hid (fun u => (show Calls Try.prog 49 #[.int .i64 n, .int .i64 m] u fun e w' => e = .returned (.bool false) ∧ Below u.heap.size u w' by have k := pmv_b n m u; rwa [h] at k))
  have R1 := Lib.hid R0
  clear R0 h
  go_enter Try.func13, Try.ntmps13
  go_wp2_with fail
  refine (HM.out _).mono ?_
  rintro e w1 ⟨rfl, hb⟩
  have R2 := Lib.hid (R1.out.step (hb.mono R1.out.sz))
  obtain ⟨q0, q1, q2, q3, q4, q5, q6⟩ := R2.out.box.all
  clear hb R1
  go_wp2
  refine bodyPost_ret (v := .tuple #[.agg #[.int .i64 0, .int .i64 0, .slice none 0 0], .int .i64 2]) (by simp [results, Try.results13, go_sem, q0, q1, q2]) rfl ?_
  exact ⟨rfl, by first | exact (((R2.out.bel.setCell (Nat.le_refl _) _).setCell (Nat.le_refl _) _).setCell (Nat.le_refl _) _) | exact R2.out.bel⟩
end Go.Proofs.Ytmakjdfkldacaaa
