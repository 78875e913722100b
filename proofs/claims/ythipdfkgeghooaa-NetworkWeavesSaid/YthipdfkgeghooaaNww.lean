/- NetworkWeaves, begun: its arithmetic, and the case that asks nothing. -/
import Derived.Test.YthipdfkgeghooaaNsw
import Derived.Test.YthipdfkgeghooaaDa
namespace Go.Proofs.Ythipdfkgeghooaa
open Go.RowKit
set_option maxRecDepth 100000
set_option linter.unusedVariables false
set_option linter.unusedSimpArgs false

/-- The threading keeps the evenness of the base, where N is even. -/
theorem vx_even {S N n : Nat} {b : Nat → Nat} (hO : NOk S N n b) (l : Nat → Int) (x : Nat) (hN : N % 2 = 0) : vx S N n b l x % 2 = b (x % n) % 2 := by
  have h := (vx_nst hO l x).2.1
  rw [← h, Nat.mod_mod_of_dvd _ (Nat.dvd_of_mod_eq_zero hN)]
/-- On a network of plain weave each end's shaft is even where its neighbour's is odd. -/
theorem vx_alt {S N n : Nat} {b : Nat → Nat} (hO : NOk S N n b) (l : Nat → Int) (x : Nat) (hp : plB N n b = true) (hx : 0 < x) : ¬ vx S N n b l x % 2 = vx S N n b l (x - 1) % 2 := by
  unfold plB alt at hp
  simp only [Bool.and_eq_true, decide_eq_true_eq] at hp
  rw [vx_even hO l x hp.2, vx_even hO l (x - 1) hp.2]
  have h1 := hp.1 ((x - 1) % n) (Nat.mod_lt _ (by have := hO.l0; omega))
  have e : ((x - 1) % n + 1) % n = x % n := by
    rw [Nat.mod_add_mod]
    congr 1
    omega
  rw [e] at h1
  exact fun q => h1 q.symm
/-- The draft that the law weaves: shafts with even numbers first. -/
def wvP (S N n : Nat) (b : Nat → Nat) (l : Nat → Int) (m : Nat) : PD := ⟨S, 2, m, 2, vx S N n b l, fun i => i, fun t s => decide (s % 2 = t)⟩
/-- The tie-up, as far as it is set. -/
def tieF (i : Nat) (k : Nat) : Bool := decide (k / 2 < i ∧ k / 2 % 2 = k % 2)
theorem tie_step (i k : Nat) : (if k = i * 2 + i % 2 then true else tieF i k) = tieF (i + 1) k := by
  unfold tieF
  by_cases h : k = i * 2 + i % 2
  · have e1 : k / 2 = i := by omega
    have e2 : k % 2 = i % 2 := by omega
    rw [if_pos h, e1, e2]; symm; apply decide_eq_true; exact ⟨by omega, rfl⟩
  · rw [if_neg h]
    by_cases q : k / 2 < i ∧ k / 2 % 2 = k % 2
    · rw [decide_eq_true q]; symm; apply decide_eq_true; omega
    · rw [decide_eq_false q]; symm; apply decide_eq_false; omega
theorem tie_at {S s t : Nat} (hs : s < S) (ht : t < 2) : tieF S (s * 2 + t) = decide (s % 2 = t) := by
  have e1 : (s * 2 + t) / 2 = s := by omega
  have e2 : (s * 2 + t) % 2 = t := by omega
  unfold tieF
  rw [e1, e2]
  by_cases h : s % 2 = t
  · rw [decide_eq_true h]; apply decide_eq_true; omega
  · rw [decide_eq_false h]; apply decide_eq_false; omega
set_option maxHeartbeats 3200000 in
theorem weaves_no (S N : Int) (A D : Option Addr) (n c m d : Nat) (f l : Nat → Int) (w : World) (hA : L2.Holds w w.heap.size A n f) (hD : L2.Holds w w.heap.size D m l) (hf : fitB S N n f m l = false) :
    Calls Try.prog 8 #[.agg #[.int .i64 S, .int .i64 N, .slice A n c], .slice D m d] w fun e w' => e = .returned (.bool true) ∧ Below w.heap.size w w' := by
  have HA := Lib.hid hA
  have HD := Lib.hid hD
  have HFB := Lib.hid hf
  clear hA hD hf
  have LB0 := Lib.hid (Below.refl w.heap.size w)
  have X1 := IBox.new w S N (.slice A n c)
  have X1 := Lib.hid X1
  have LB0 := Lib.hid (LB0.out.alloc LB0.out.size (.cells #[.int .i64 S, .int .i64 N, .slice A n c] 24))
  have hb := bel_alloc w (.cells #[.int .i64 S, .int .i64 N, .slice A n c] 24)
  replace HA := Lib.hid ((HA.out.below hb).more hb.size)
  replace HD := Lib.hid ((HD.out.below hb).more hb.size)
  clear hb
  go_enter Try.func8, Try.ntmps8
  go_upto_region 1 with (fail)
  generalize w.alloc (.cells #[.int .i64 S, .int .i64 N, .slice A n c] 24) = w0 at *
  have HX := Lib.hid (alive_any w0)
  obtain ⟨q0, q1, q2, q3, q4, q5, q6⟩ := X1.out.all
  go_wp2_with fail
  clear q0 q1 q2 q3 q4 q5 q6
  with_reducible refine Calls.mono HX.out ?_
  clear HX
  rintro e w1 ⟨rfl, hb⟩
  have LB1 := Lib.hid (LB0.out.trans (hb.mono LB0.out.size))
  replace X1 := Lib.hid (X1.out.below hb X1.out.lt)
  replace HA := Lib.hid ((HA.out.below hb).more hb.size)
  replace HD := Lib.hid ((HD.out.below hb).more hb.size)
  clear hb
  have HFT := Lib.hid (fit_any S N A D n c m d f l w1 HA.out HD.out)
  rw [HFB.out] at HFT
  have HX := Lib.hid (HFT.out)
  obtain ⟨q0, q1, q2, q3, q4, q5, q6⟩ := X1.out.all
  go_wp2_with fail
  clear q0 q1 q2 q3 q4 q5 q6
  with_reducible refine Calls.mono HX.out ?_
  clear HX
  rintro e w2 ⟨rfl, hb⟩
  have LB2 := Lib.hid (LB1.out.trans (hb.mono LB1.out.size))
  replace X1 := Lib.hid (X1.out.below hb X1.out.lt)
  replace HA := Lib.hid ((HA.out.below hb).more hb.size)
  replace HD := Lib.hid ((HD.out.below hb).more hb.size)
  clear hb
  go_wp2
  go_ret
  exact ⟨rfl, LB2.out⟩
theorem z2_any (S : Nat) (hS : S ≤ 40) (w : World) : Calls Try.prog 31 #[.int .i64 2, .int .i64 (S : Nat)] w fun e w' => ∃ k, e = .returned (.agg #[.int .i64 2, .int .i64 (S : Nat), .slice (some ⟨k, 0, none⟩) (2 * S) (2 * S)]) ∧ w.heap.size ≤ k ∧ Row w' k (2 * S) (fun _ => false) ∧ Below w.heap.size w w' :=
  zero_int 2 S 2 S rfl rfl (by decide) (by omega) w
theorem st_any (S k c i : Nat) (hS : S ≤ 40) (hi : i < S) (w : World) (hr : Row w k (2 * S) (tieF i)) : Calls Try.prog 32 #[.agg #[.int .i64 2, .int .i64 (S : Nat), .slice (some ⟨k, 0, none⟩) (2 * S) c], .int .i64 ((i : Int) % 2), .int .i64 (i : Nat), .bool true] w fun e w' => e = .returned (.tuple #[]) ∧ Row w' k (2 * S) (tieF (i + 1)) ∧ But k w w' :=
  (set_nat 2 S k c _ _ true (tieF i) w hr (by decide) (by omega) (i % 2) i (by omega) rfl (Nat.mod_lt _ (by decide)) hi).mono fun e w' q => ⟨q.1, q.2.1.congr fun l _ => tie_step i l, q.2.2⟩
theorem wv_any (S N n : Nat) (b : Nat → Nat) (hO : NOk S N n b) (l : Nat → Int) (m : Nat) (h0 : 1 ≤ m) (h1 : m ≤ 64) (k1 kt : Nat) (A : Option Addr) (w : World) (hF : L2.Holds w w.heap.size (some ⟨k1, 0, none⟩) m (fun i => ((vx S N n b l i : Nat) : Int))) (hG : L2.Holds w w.heap.size A 2 (fun i => ([0, 1] : List Int).getD i 0)) (hT : Row w kt (2 * S) (tieF S)) :
    Calls Try.prog 33 #[.agg #[.int .i64 (S : Nat), .int .i64 2, .slice (some ⟨k1, 0, none⟩) m m, .slice A 2 2, .int .i64 2, .int .i64 (S : Nat), .slice (some ⟨kt, 0, none⟩) (2 * S) (2 * S)]] w (OkGrid w m 2 (fun i => decide (vx S N n b l (i % m) % 2 = i / m))) := by
  have s0 := hO.n0
  have s1 := hO.ns
  have s2 := hO.s1
  exact weave_ok (D := ⟨(S : Nat), 2, some ⟨k1, 0, none⟩, m, m, A, 2, 2, 2, (S : Nat), some ⟨kt, 0, none⟩, 2 * S, 2 * S, (fun i => ((vx S N n b l i : Nat) : Int)), (fun i => ([0, 1] : List Int).getD i 0), tieF S⟩) (P := wvP S N n b l m)
    ⟨rfl, rfl, rfl, rfl, rfl, rfl, rfl, fun i _ => rfl, fun i hi => by
      have hi2 : i < 2 := hi
      have : i = 0 ∨ i = 1 := by omega
      rcases this with rfl | rfl <;> rfl, fun t s ht hs => tie_at hs ht⟩
    ⟨by show 1 ≤ S; omega, s2, by show 1 ≤ 2; omega, by show 2 ≤ 40; omega, h0, h1, by show 1 ≤ 2; omega, by show 2 ≤ 64; omega, fun i _ => (vx_nst hO l i).1, fun i hi => hi⟩ w ⟨hF, hG, hT.holds hT.lt⟩
theorem ck_any (m k : Nat) (h0 : 1 ≤ m) (h1 : m ≤ 64) (w : World) : Calls Try.prog 34 #[.agg #[.int .i64 (m : Nat), .int .i64 2, .slice (some ⟨k, 0, none⟩) (m * 2) (m * 2)]] w fun e w' => e = .returned (.int .i64 0) ∧ Below w.heap.size w w' :=
  rchk_valid (W := m) (H := 2) _ _ w h0 h1 (by decide) (by decide)
theorem at0_any (m k x : Nat) (h1 : m ≤ 64) (hx : x < m) (v : Nat → Nat) (w : World) (hr : Row w k (m * 2) (fun i => decide (v (i % m) % 2 = i / m))) : Calls Try.prog 35 #[.agg #[.int .i64 (m : Nat), .int .i64 2, .slice (some ⟨k, 0, none⟩) (m * 2) (m * 2)], .int .i64 (x : Nat), .int .i64 0] w fun e w' => e = .returned (.bool (decide (v x % 2 = 0))) ∧ Below w.heap.size w w' := by
  have h := at_nat m 2 (some ⟨k, 0, none⟩) (m * 2) (x : Nat) 0 _ w w.heap.size (hr.holds hr.lt) (Nat.le_refl _) h1 (by decide) x 0 rfl rfl hx (by decide)
  simp only [Nat.zero_mul, Nat.zero_add] at h
  rwa [Nat.mod_eq_of_lt hx, Nat.div_eq_of_lt hx] at h
theorem at0_int (m k x : Nat) (z : Int) (hz : z = x) (h1 : m ≤ 64) (hx : x < m) (v : Nat → Nat) (w : World) (hr : Row w k (m * 2) (fun i => decide (v (i % m) % 2 = i / m))) : Calls Try.prog 35 #[.agg #[.int .i64 (m : Nat), .int .i64 2, .slice (some ⟨k, 0, none⟩) (m * 2) (m * 2)], .int .i64 z, .int .i64 0] w fun e w' => e = .returned (.bool (decide (v x % 2 = 0))) ∧ Below w.heap.size w w' := by
  subst hz
  exact at0_any m k x h1 hx v w hr
theorem at1_any (m k x : Nat) (h1 : m ≤ 64) (hx : x < m) (v : Nat → Nat) (w : World) (hr : Row w k (m * 2) (fun i => decide (v (i % m) % 2 = i / m))) : Calls Try.prog 35 #[.agg #[.int .i64 (m : Nat), .int .i64 2, .slice (some ⟨k, 0, none⟩) (m * 2) (m * 2)], .int .i64 (x : Nat), .int .i64 1] w fun e w' => e = .returned (.bool (decide (v x % 2 = 1))) ∧ Below w.heap.size w w' := by
  have h := at_nat m 2 (some ⟨k, 0, none⟩) (m * 2) (x : Nat) 1 _ w w.heap.size (hr.holds hr.lt) (Nat.le_refl _) h1 (by decide) x 1 rfl rfl hx (by decide)
  simp only [Nat.one_mul] at h
  rwa [Nat.add_mod_left, Nat.mod_eq_of_lt hx, Nat.add_div_left _ (by omega), Nat.div_eq_of_lt hx] at h
set_option maxHeartbeats 6400000 in
theorem weaves_yes (S N n : Nat) (A : Option Addr) (c : Nat) (b : Nat → Nat) (hO : NOk S N n b) (D : Option Addr) (m d : Nat) (l : Nat → Int) (w : World) (hA : NH w A n b) (hD : L2.Holds w w.heap.size D m l) (hh : hts m l = true) (hfb : fitB (S : Nat) (N : Nat) n (fun i => ((b i : Nat) : Int)) m l = true) :
    Calls Try.prog 8 #[.agg #[.int .i64 (S : Nat), .int .i64 (N : Nat), .slice A n c], .slice D m d] w fun e w' => e = .returned (.bool true) ∧ Below w.heap.size w w' := by
  obtain ⟨hm0, hm1, hml⟩ := hts_of hh
  have HA : Hid (L2.Holds w w.heap.size A n (fun i => ((b i : Nat) : Int))) := Lib.hid hA
  have HD := Lib.hid hD
  have HFB := Lib.hid hfb
  have HO := Lib.hid hO
  have HH := Lib.hid hh
  have s40 := hO.s1
  have z0 : ((0 : Int) != 0) = false := rfl
  have z2 : ((2 : Int) != 2) = false := rfl
  have zm : ((m : Int) != (m : Int)) = false := by simp
  clear hA hD hfb hh hml hO
  have LB0 := Lib.hid (Below.refl w.heap.size w)
  have X1 := IBox.new w (S : Nat) (N : Nat) (.slice A n c)
  have X1 := Lib.hid X1
  have LB0 := Lib.hid (LB0.out.alloc LB0.out.size (.cells #[.int .i64 (S : Nat), .int .i64 (N : Nat), .slice A n c] 24))
  have hb := bel_alloc w (.cells #[.int .i64 (S : Nat), .int .i64 (N : Nat), .slice A n c] 24)
  replace HA := Lib.hid ((HA.out.below hb).more hb.size)
  replace HD := Lib.hid ((HD.out.below hb).more hb.size)
  clear hb
  go_enter Try.func8, Try.ntmps8
  go_upto_region 1 with (fail)
  generalize w.alloc (.cells #[.int .i64 (S : Nat), .int .i64 (N : Nat), .slice A n c] 24) = w0 at *
  have HX := Lib.hid (alive_any w0)
  obtain ⟨q0, q1, q2, q3, q4, q5, q6⟩ := X1.out.all
  go_wp2_with fail
  clear q0 q1 q2 q3 q4 q5 q6
  with_reducible refine Calls.mono HX.out ?_
  clear HX
  rintro e w1 ⟨rfl, hb⟩
  have LB1 := Lib.hid (LB0.out.trans (hb.mono LB0.out.size))
  replace X1 := Lib.hid (X1.out.below hb X1.out.lt)
  replace HA := Lib.hid ((HA.out.below hb).more hb.size)
  replace HD := Lib.hid ((HD.out.below hb).more hb.size)
  clear hb
  have HFT := Lib.hid (fit_any (S : Nat) (N : Nat) A D n c m d (fun i => ((b i : Nat) : Int)) l w1 HA.out HD.out)
  rw [HFB.out] at HFT
  have HX := Lib.hid (HFT.out)
  obtain ⟨q0, q1, q2, q3, q4, q5, q6⟩ := X1.out.all
  go_wp2_with fail
  clear q0 q1 q2 q3 q4 q5 q6
  with_reducible refine Calls.mono HX.out ?_
  clear HX
  rintro e w2 ⟨rfl, hb⟩
  have LB2 := Lib.hid (LB1.out.trans (hb.mono LB1.out.size))
  replace X1 := Lib.hid (X1.out.below hb X1.out.lt)
  replace HA := Lib.hid ((HA.out.below hb).more hb.size)
  replace HD := Lib.hid ((HD.out.below hb).more hb.size)
  clear hb
  have HX := Lib.hid (pl_ok S N n A c b HO.out w2 HA.out)
  obtain ⟨q0, q1, q2, q3, q4, q5, q6⟩ := X1.out.all
  go_wp2_with fail
  clear q0 q1 q2 q3 q4 q5 q6
  with_reducible refine Calls.mono HX.out ?_
  clear HX
  rintro e w3 ⟨rfl, hb⟩
  have LB3 := Lib.hid (LB2.out.trans (hb.mono LB2.out.size))
  replace X1 := Lib.hid (X1.out.below hb X1.out.lt)
  replace HA := Lib.hid ((HA.out.below hb).more hb.size)
  replace HD := Lib.hid ((HD.out.below hb).more hb.size)
  clear hb
  have HX := Lib.hid (dr_ok S N n A c b HO.out D m d l w3 HA.out HD.out HH.out)
  obtain ⟨q0, q1, q2, q3, q4, q5, q6⟩ := X1.out.all
  go_wp2_with fail
  clear q0 q1 q2 q3 q4 q5 q6
  with_reducible refine Calls.mono HX.out ?_
  clear HX
  rintro e w4 ⟨k1, rfl, hr, hb⟩
  have LB4 := Lib.hid (LB3.out.trans (hb.mono LB3.out.size))
  replace X1 := Lib.hid (X1.out.below hb X1.out.lt)
  replace HA := Lib.hid ((HA.out.below hb).more hb.size)
  replace HD := Lib.hid ((HD.out.below hb).more hb.size)
  clear hb
  have R1 : Hid (L2.Holds w4 w4.heap.size (some ⟨k1, 0, none⟩) m (fun i => ((vx S N n b l i : Nat) : Int))) := Lib.hid (hr.holds hr.lt)
  clear hr HA HD
  have X1L := Lib.hid X1.out.lt
  have HX := Lib.hid (z2_any S s40 w4)
  obtain ⟨q0, q1, q2, q3, q4, q5, q6⟩ := X1.out.all
  go_wp2_with fail
  clear q0 q1 q2 q3 q4 q5 q6
  with_reducible refine Calls.mono HX.out ?_
  clear HX
  rintro e w5 ⟨kt, rfl, hkt, hr, hb⟩
  have HT := Lib.hid hr
  have HB45 := Lib.hid hb
  have HKT := Lib.hid hkt
  clear hr hkt
  have LB5 := Lib.hid (LB4.out.trans (hb.mono LB4.out.size))
  replace X1 := Lib.hid (X1.out.below hb X1.out.lt)
  clear hb
  have X2 := Lib.hid (Box.new w5 2 (S : Nat) (.slice (some ⟨kt, 0, none⟩) (2 * S) (2 * S)))
  have hb := bel_alloc w5 (.cells #[.int .i64 2, .int .i64 (S : Nat), .slice (some ⟨kt, 0, none⟩) (2 * S) (2 * S)] 57)
  have HTL := Lib.hid HT.out.lt
  have HT0 : Hid (Row (w5.alloc (.cells #[.int .i64 2, .int .i64 (S : Nat), .slice (some ⟨kt, 0, none⟩) (2 * S) (2 * S)] 57)) kt (2 * S) (tieF 0)) := Lib.hid ((HT.out.alloc _).congr fun i _ => by unfold tieF; exact (decide_eq_false (by omega)).symm)
  have HB46 := Lib.hid (HB45.out.trans (hb.mono HB45.out.size))
  have LB6 := Lib.hid (LB5.out.trans (hb.mono LB5.out.size))
  replace X1 := Lib.hid (X1.out.below hb X1.out.lt)
  clear hb
  obtain ⟨q0, q1, q2, q3, q4, q5, q6⟩ := X1.out.all
  go_wp2_with fail
  generalize w5.alloc (.cells #[.int .i64 2, .int .i64 (S : Nat), .slice (some ⟨kt, 0, none⟩) (2 * S) (2 * S)] 57) = w6 at *
  have HNE := Lib.hid (show w5.heap.size ≠ kt from fun e => by have h9 := HTL.out; omega)
  have HNX := Lib.hid (show w.heap.size ≠ kt from fun e => by have h9 := HKT.out; have h8 := X1L.out; omega)
  generalize w5.heap.size = g2 at *
  clear q0 q1 q2 q3 q4 q5 q6 HT
  go_loopw [11] (fun i wr => ∃ j : Nat, j ≤ S ∧ i = .int .i64 (j : Nat) ∧ Hid (Row wr kt (2 * S) (tieF j)) ∧ Hid (Box wr g2 2 (S : Nat) (.slice (some ⟨kt, 0, none⟩) (2 * S) (2 * S))) ∧ Hid (IBox wr w.heap.size (S : Nat) (N : Nat) (.slice A n c)) ∧ Hid (Below w4.heap.size w4 wr)) (fun i _ => S - (intOf i).toNat)
  case atStart => exact ⟨0, Nat.zero_le _, rfl, HT0, X2, X1, HB46⟩
  case round =>
    obtain ⟨j, hj, rfl, HTj, HBx, HX1, HW⟩ := hrel
    by_cases hlt : j < S
    · have y1 : (j : Int) < (S : Int) := by omega
      have y2 : (0 : Int) ≤ (j : Int) := by omega
      have hrem : (j : Int).tmod 2 = ((j % 2 : Nat) : Int) := tmod_nat j 2
      have HX := Lib.hid (st_any S kt (2 * S) j s40 hlt wr HTj.out)
      obtain ⟨q0, q1, q2, q3, q4, q5, q6⟩ := HX1.out.all
      obtain ⟨p0, p1, p2, p3, p4, p5, p6⟩ := HBx.out.all
      go_wp2_with fail
      clear q0 q1 q2 q3 q4 q5 q6 p0 p1 p2 p3 p4 p5 p6
      with_reducible refine Calls.mono HX.out ?_
      rintro e wz ⟨rfl, hr, hbut⟩
      clear HX hrem
      have HR2 := Lib.hid hr
      have HBx2 := Lib.hid (hbut.box HBx.out HNE.out)
      have HX2 : Hid (IBox wz w.heap.size (S : Nat) (N : Nat) (.slice A n c)) := Lib.hid ((hbut.block _ HX1.out.lt HNX.out).trans HX1.out)
      have HW2 := Lib.hid (hbut.below HW.out HKT.out)
      clear hr hbut
      go_wp2
      go_roundw
      case rel => exact ⟨j + 1, by omega, by go_num, HR2, HBx2, HX2, HW2⟩
      case measure => simp [intOf]; omega
    · obtain rfl : j = S := by omega
      have y1 : ¬ (j : Int) < (j : Int) := by omega
      obtain ⟨wo, rfl⟩ : ∃ wo : World, wo = wr := ⟨_, rfl⟩
      have LBo := Lib.hid (LB4.out.trans (HW.out.mono LB4.out.size))
      have hb := bel_alloc wo (.cells #[.int .i64 0, .int .i64 1] 3)
      have HG := Lib.hid ((lv_lit wo [0, 1] (#[.int .i64 0, .int .i64 1]) rfl).h)
      have HF := Lib.hid ((R1.out.below (HW.out.trans (hb.mono HW.out.size))).more (Nat.le_trans HW.out.size hb.size))
      have HTo := Lib.hid (HTj.out.alloc (.cells #[.int .i64 0, .int .i64 1] 3))
      have LB7 := Lib.hid (LBo.out.trans (hb.mono LBo.out.size))
      have HX := Lib.hid (wv_any j N n b HO.out l m hm0 hm1 k1 kt (some ⟨wo.heap.size, 0, none⟩) _ HF.out HG.out HTo.out)
      obtain ⟨q0, q1, q2, q3, q4, q5, q6⟩ := HX1.out.all
      obtain ⟨r0, r1, r2, r3, r4, r5, r6⟩ := (HX1.out.alloc (.cells #[.int .i64 0, .int .i64 1] 3)).all
      obtain ⟨p0, p1, p2, p3, p4, p5, p6⟩ := (HBx.out.alloc (.cells #[.int .i64 0, .int .i64 1] 3)).all
      clear hb
      go_wp2_with fail
      clear q0 q1 q2 q3 q4 q5 q6 p0 p1 p2 p3 p4 p5 p6 r0 r1 r2 r3 r4 r5 r6
      with_reducible refine Calls.mono HX.out ?_
      clear HX
      rintro e w8 ⟨kg, rfl, hkg, hr, hb⟩
      have LB8 := Lib.hid (LB7.out.trans (hb.mono LB7.out.size))
      clear hb HG HF HTo
      have HR := Lib.hid (hr.alloc (.cells #[.int .i64 (m : Nat), .int .i64 2, .slice (some ⟨kg, 0, none⟩) (m * 2) (m * 2)] 57))
      clear hr
      have X3 := Lib.hid (Box.new w8 (m : Nat) 2 (.slice (some ⟨kg, 0, none⟩) (m * 2) (m * 2)))
      have hb := bel_alloc w8 (.cells #[.int .i64 (m : Nat), .int .i64 2, .slice (some ⟨kg, 0, none⟩) (m * 2) (m * 2)] 57)
      have LB9 := Lib.hid (LB8.out.trans (hb.mono LB8.out.size))
      clear hb
      have HX := Lib.hid (fun u => ck_any m kg hm0 hm1 u)
      obtain ⟨p0, p1, p2, p3, p4, p5, p6⟩ := X3.out.all
      go_wp2_with fail
      clear p0 p1 p2 p3 p4 p5 p6
      generalize w8.alloc (.cells #[.int .i64 (m : Nat), .int .i64 2, .slice (some ⟨kg, 0, none⟩) (m * 2) (m * 2)] 57) = w9 at *
      generalize w8.heap.size = g3 at *
      with_reducible refine Calls.mono (HX.out _) ?_
      clear HX
      rintro e wa ⟨rfl, hb⟩
      have LBa := Lib.hid (LB9.out.trans (hb.mono LB9.out.size))
      replace X3 := Lib.hid (X3.out.below hb X3.out.lt)
      replace HR := Lib.hid (HR.out.below hb HR.out.lt)
      clear hb
      obtain ⟨p0, p1, p2, p3, p4, p5, p6⟩ := X3.out.all
      go_wp2
      clear p0 p1 p2 p3 p4 p5 p6
      go_loopw [14] (fun i wr => ∃ x : Nat, x ≤ m ∧ i = .int .i64 (x : Nat) ∧ Hid (Below wa.heap.size wa wr)) (fun i _ => m - (intOf i).toNat)
      case atStart => exact ⟨0, Nat.zero_le _, rfl, Lib.hid (Below.refl _ _)⟩
      case round =>
        obtain ⟨x, hx, rfl, HV⟩ := hrel
        have Y3 := Lib.hid (X3.out.below HV.out X3.out.lt)
        by_cases hlx : x < m
        · have y3 : (x : Int) < (m : Int) := by omega
          have HRr := Lib.hid (HR.out.below HV.out HR.out.lt)
          have A0 := Lib.hid (fun u (hu : Below wr.heap.size wr u) => at0_any m kg x hm1 hlx (vx j N n b l) u (HRr.out.below hu HRr.out.lt))
          have A1 := Lib.hid (fun u (hu : Below wr.heap.size wr u) => at1_any m kg x hm1 hlx (vx j N n b l) u (HRr.out.below hu HRr.out.lt))
          have A2 := Lib.hid (fun u (hu : Below wr.heap.size wr u) => at0_any m kg (x - 1) hm1 (by omega) (vx j N n b l) u (HRr.out.below hu HRr.out.lt))
          have A3 := Lib.hid (fun (h0 : 0 < x) u (hu : Below wr.heap.size wr u) => at0_int m kg (x - 1) ((x : Int) - 1) (by omega) hm1 (by omega) (vx j N n b l) u (HRr.out.below hu HRr.out.lt))
          have f1 : (decide (vx j N n b l x % 2 = 0) == decide (vx j N n b l x % 2 = 1)) = false := by
            rcases Nat.mod_two_eq_zero_or_one (vx j N n b l x) with h | h <;> rw [h] <;> rfl
          have F2 := Lib.hid (fun (hp : plB N n b = true) (h0 : 0 < x) => show (decide (vx j N n b l x % 2 = 0) == decide (vx j N n b l (x - 1) % 2 = 0)) = false by
            have h1 := vx_alt HO.out l x hp h0
            rcases Nat.mod_two_eq_zero_or_one (vx j N n b l x) with h | h <;> rcases Nat.mod_two_eq_zero_or_one (vx j N n b l (x - 1)) with h' | h' <;> rw [h, h'] at h1 ⊢ <;> first | rfl | exact absurd rfl h1)
          have HX0 := Lib.hid hlx
          generalize decide (vx j N n b l x % 2 = 0) = e0 at *
          generalize decide (vx j N n b l x % 2 = 1) = e1 at *
          generalize decide (vx j N n b l (x - 1) % 2 = 0) = e2 at *
          obtain ⟨p0, p1, p2, p3, p4, p5, p6⟩ := Y3.out.all
          have hg3 := Y3.out.lt
          cases hpl : plB N n b with
          | false =>
            obtain ⟨I, Wf, i0, h0f, hbf, hcf⟩ := family wr
            have C0 := Lib.hid (fun n' => (A0.out (Wf n') (hbf n')).mono fun e w2 h => (⟨h.1, hcf n' w2 h.2⟩ : _ ∧ ∃ m, w2 = Wf m))
            have C1 := Lib.hid (fun n' => (A1.out (Wf n') (hbf n')).mono fun e w2 h => (⟨h.1, hcf n' w2 h.2⟩ : _ ∧ ∃ m, w2 = Wf m))
            have C2 := Lib.hid (fun n' => (A2.out (Wf n') (hbf n')).mono fun e w2 h => (⟨h.1, hcf n' w2 h.2⟩ : _ ∧ ∃ m, w2 = Wf m))
            have x0 := fun n' => ((hbf n').cell (p := ⟨g3, 0, none⟩) hg3).trans p0
            have x1 := fun n' => ((hbf n').cell (p := ⟨g3, 1, none⟩) hg3).trans p1
            have x2 := fun n' => ((hbf n').cell (p := ⟨g3, 2, none⟩) hg3).trans p2
            have BF := Lib.hid hbf
            clear hbf hcf
            go_wp2
            clear p0 p1 p2 p3 p4 p5 p6
            refine wp_region_fam Wf i0 h0f (by kernel_rfl) (by kernel_rfl) ?_
            clear h0f
            try dsimp only [List.append]
            repeat (go_big_quiet_step (first | exact rfl | (go_at_call 35; first | with_reducible exact C0.out _ | with_reducible exact C1.out _ | with_reducible exact C2.out _)))
            refine wpQuiet_nil ?_
            rintro _ ⟨nq, rfl⟩
            have HBp := Lib.hid (HV.out.trans ((BF.out nq).mono HV.out.size))
            clear x0 x1 x2 C0 C1 C2 BF
            go_wp2
            go_roundw
            case rel => exact ⟨x + 1, by have := HX0.out; omega, by go_num, HBp⟩
            case measure => have := HX0.out; simp [intOf]; omega
          | true =>
            by_cases hx0 : x = 0
            · have v1 : decide ((0 : Int) < (x : Int)) = false := by simp; omega
              have v3 : decide (0 < x) = false := by simp; omega
              have v4 : ¬ 0 < x := by omega
              have v5 : ¬ (0 : Int) < (x : Int) := by omega
              clear hx0
              obtain ⟨I, Wf, i0, h0f, hbf, hcf⟩ := family wr
              have C0 := Lib.hid (fun n' => (A0.out (Wf n') (hbf n')).mono fun e w2 h => (⟨h.1, hcf n' w2 h.2⟩ : _ ∧ ∃ m, w2 = Wf m))
              have C1 := Lib.hid (fun n' => (A1.out (Wf n') (hbf n')).mono fun e w2 h => (⟨h.1, hcf n' w2 h.2⟩ : _ ∧ ∃ m, w2 = Wf m))
              have C2 := Lib.hid (fun n' => (A2.out (Wf n') (hbf n')).mono fun e w2 h => (⟨h.1, hcf n' w2 h.2⟩ : _ ∧ ∃ m, w2 = Wf m))
              have x0 := fun n' => ((hbf n').cell (p := ⟨g3, 0, none⟩) hg3).trans p0
              have x1 := fun n' => ((hbf n').cell (p := ⟨g3, 1, none⟩) hg3).trans p1
              have x2 := fun n' => ((hbf n').cell (p := ⟨g3, 2, none⟩) hg3).trans p2
              have BF := Lib.hid hbf
              clear hbf hcf
              go_wp2
              clear p0 p1 p2 p3 p4 p5 p6
              refine wp_region_fam Wf i0 h0f (by kernel_rfl) (by kernel_rfl) ?_
              clear h0f
              try dsimp only [List.append]
              repeat (go_big_quiet_step (first | exact rfl | (go_at_call 35; first | with_reducible exact C0.out _ | with_reducible exact C1.out _ | with_reducible exact C2.out _)))
              refine wpQuiet_nil ?_
              rintro _ ⟨nq, rfl⟩
              have HBp := Lib.hid (HV.out.trans ((BF.out nq).mono HV.out.size))
              clear x0 x1 x2 C0 C1 C2 BF
              go_wp2
              go_roundw
              case rel => exact ⟨x + 1, by have := HX0.out; omega, by go_num, HBp⟩
              case measure => have := HX0.out; simp [intOf]; omega
            · have v1 : decide ((0 : Int) < (x : Int)) = true := by simp; omega
              have hxp : 0 < x := by omega
              have f2 := F2.out hpl hxp
              have v3 : decide (0 < x) = true := by simp; omega
              have v2 : IntKind.i64.wrap ((x : Int) - 1) = ((x - 1 : Nat) : Int) := by rw [IntWalk.i64_in _ (by omega)]; omega
              generalize x - 1 = x9 at *
              obtain ⟨I, Wf, i0, h0f, hbf, hcf⟩ := family wr
              have C0 := Lib.hid (fun n' => (A0.out (Wf n') (hbf n')).mono fun e w2 h => (⟨h.1, hcf n' w2 h.2⟩ : _ ∧ ∃ m, w2 = Wf m))
              have C1 := Lib.hid (fun n' => (A1.out (Wf n') (hbf n')).mono fun e w2 h => (⟨h.1, hcf n' w2 h.2⟩ : _ ∧ ∃ m, w2 = Wf m))
              have C2 := Lib.hid (fun n' => (A2.out (Wf n') (hbf n')).mono fun e w2 h => (⟨h.1, hcf n' w2 h.2⟩ : _ ∧ ∃ m, w2 = Wf m))
              have C3 := Lib.hid (fun n' => (A3.out hxp (Wf n') (hbf n')).mono fun e w2 h => (⟨h.1, hcf n' w2 h.2⟩ : _ ∧ ∃ m, w2 = Wf m))
              have x0 := fun n' => ((hbf n').cell (p := ⟨g3, 0, none⟩) hg3).trans p0
              have x1 := fun n' => ((hbf n').cell (p := ⟨g3, 1, none⟩) hg3).trans p1
              have x2 := fun n' => ((hbf n').cell (p := ⟨g3, 2, none⟩) hg3).trans p2
              have BF := Lib.hid hbf
              clear hbf hcf
              go_wp2
              clear p0 p1 p2 p3 p4 p5 p6
              refine wp_region_fam Wf i0 h0f (by kernel_rfl) (by kernel_rfl) ?_
              clear h0f
              try dsimp only [List.append]
              repeat (go_big_quiet_step (first | exact rfl | (go_at_call 35; first | with_reducible exact C0.out _ | with_reducible exact C1.out _ | with_reducible exact C2.out _ | with_reducible exact C3.out _ | exact C2.out _ | exact C3.out _)))
              refine wpQuiet_nil ?_
              rintro _ ⟨nq, rfl⟩
              have HBp := Lib.hid (HV.out.trans ((BF.out nq).mono HV.out.size))
              clear x0 x1 x2 C0 C1 C2 C3 BF
              go_wp2
              go_roundw
              case rel => exact ⟨x + 1, by have := HX0.out; omega, by go_num, HBp⟩
              case measure => have := HX0.out; simp [intOf]; omega
        · obtain rfl : x = m := by omega
          have y3 : ¬ (x : Int) < (x : Int) := by omega
          have LBz := Lib.hid (LBa.out.trans (HV.out.mono LBa.out.size))
          obtain ⟨p0, p1, p2, p3, p4, p5, p6⟩ := Y3.out.all
          go_wp2
          go_ret
          exact ⟨rfl, LBz.out⟩
theorem weaves_any (S N : Int) (A D : Option Addr) (n c m d : Nat) (f l : Nat → Int) (w : World) (hA : L2.Holds w w.heap.size A n f) (hD : L2.Holds w w.heap.size D m l) :
    Calls Try.prog 8 #[.agg #[.int .i64 S, .int .i64 N, .slice A n c], .slice D m d] w fun e w' => e = .returned (.bool true) ∧ Below w.heap.size w w' := by
  cases hf : fitB S N n f m l with
  | false => exact weaves_no S N A D n c m d f l w hA hD hf
  | true =>
    obtain ⟨h1, h2, h3, h4⟩ := fit_of hf
    obtain ⟨P, Q, b, rfl, rfl, hO, hb⟩ := nck_ok h3
    have hf2 : fitB (P : Nat) (Q : Nat) n (fun i => ((b i : Nat) : Int)) m l = true := by
      unfold fitB at hf ⊢
      rw [nck_congr hb] at hf
      exact hf
    exact weaves_yes P Q n A c b hO D m d l w (hA.congr hb) hD h4 hf2
end Go.Proofs.Ythipdfkgeghooaa
