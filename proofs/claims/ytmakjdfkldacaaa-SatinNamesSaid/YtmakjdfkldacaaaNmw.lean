/- The statement SatinNames: its calls, the walk. -/
import Derived.Test.YtmakjdfkldacaaaAlv
import Derived.Test.YtmakjdfkldacaaaIsr
import Derived.Test.YtmakjdfkldacaaaOpl
import Derived.Test.YtmakjdfkldacaaaCet
import Derived.Test.YtmakjdfkldacaaaTwr
import Derived.Test.YtmakjdfkldacaaaKnm
namespace Go.Proofs.Ytmakjdfkldacaaa
open Go.RowKit
set_option maxRecDepth 100000
set_option linter.unusedVariables false
set_option linter.unusedSimpArgs false

/-- A grid of letters came back, with room told. -/
def SpM (w : World) (W H : Int) (N : Nat) (F : Nat → Bool) (e : Ending) (w' : World) : Prop :=
  ∃ k c, e = .returned (.tuple #[.agg #[.int .i64 W, .int .i64 H, .slice (some ⟨k, 0, none⟩) N c], .int .i64 0]) ∧ N ≤ c ∧ w.heap.size ≤ k ∧ Row w' k N F ∧ Below w.heap.size w w'
def fa (i : Nat) : Int := [1, 2, 2, 1].getD i 0
def fb (i : Nat) : Int := [3, 1].getD i 0
def ta : Nat → Bool := twf 6 2 (rowf fa 4)
def tb : Nat → Bool := twf 4 0 (rowf fb 2)
theorem nm_ta (w : World) (s : Nat) (hs : s = w.heap.size) : Calls Try.prog 11 #[.slice (some ⟨s, 0, none⟩) 4 4, .int .i64 2] (w.alloc (.cells #[.int .i64 1, .int .i64 2, .int .i64 2, .int .i64 1] 3)) (SpM (w.alloc (.cells #[.int .i64 1, .int .i64 2, .int .i64 2, .int .i64 1] 3)) 6 3 18 ta) := by
  subst hs
  have hr := (lv_lit w [1, 2, 2, 1] #[.int .i64 1, .int .i64 2, .int .i64 2, .int .i64 1] rfl).h
  have h := ptw_okr (f := fa) (n := 4) (vr_iff.1 (by decide +kernel)) (some ⟨w.heap.size, 0, none⟩) 4 2 2 (by decide +kernel) (by omega) (by omega) _ hr
  rw [show sm fa 4 = 6 from by decide +kernel, show Nat.gcd 6 2 = 2 from by decide +kernel] at h
  exact h
theorem nm_tb (w : World) (s : Nat) (hs : s = w.heap.size) : Calls Try.prog 11 #[.slice (some ⟨s, 0, none⟩) 2 2, .int .i64 (-4)] (w.alloc (.cells #[.int .i64 3, .int .i64 1] 3)) (SpM (w.alloc (.cells #[.int .i64 3, .int .i64 1] 3)) 4 1 4 tb) := by
  subst hs
  have hr := (lv_lit w [3, 1] #[.int .i64 3, .int .i64 1] rfl).h
  have h := ptw_okr (f := fb) (n := 2) (vr_iff.1 (by decide +kernel)) (some ⟨w.heap.size, 0, none⟩) 2 (-4) 0 (by decide +kernel) (by omega) (by omega) _ hr
  rw [show sm fb 2 = 4 from by decide +kernel, show Nat.gcd 4 0 = 4 from by decide +kernel] at h
  exact h
def l64 : List Nat := [3, 5, 7, 9, 11, 13, 15, 17, 19, 21, 23, 25, 27, 29, 31, 33, 35, 37, 39, 41, 43, 45, 47, 49, 51, 53, 55, 57, 59, 61]
theorem nm_c64 (w : World) : Calls Try.prog 12 #[.int .i64 64] w (LOut w 30 (lf l64) 0) := by
  have h := pcou_ok (n := 64) (by omega) (by omega) w
  rw [show ofl (mT 64) 64 = l64 from by decide +kernel] at h
  exact h
theorem nm_s73 (w : World) : Calls Try.prog 13 #[.int .i64 7, .int .i64 3] w (SpM w 7 7 49 (stf 7 3)) := pst_okr (n := 7) (m := 3) (by decide +kernel) w
/-- Exactly so much room. -/
def GrE (w : World) (W H : Int) (N : Nat) (F : Nat → Bool) (e : Ending) (w' : World) : Prop :=
  ∃ k, e = .returned (.tuple #[.agg #[.int .i64 W, .int .i64 H, .slice (some ⟨k, 0, none⟩) N N], .int .i64 0]) ∧ w.heap.size ≤ k ∧ Row w' k N F ∧ Below w.heap.size w w'
theorem nm_not (w : World) (k c : Nat) (hr : Row w k 49 (stf 7 3)) : Calls Try.prog 14 #[.agg #[.int .i64 7, .int .i64 7, .slice (some ⟨k, 0, none⟩) 49 c]] w (GrE w 7 7 49 (fun i => !stf 7 3 i)) :=
  not_ok 7 7 (some ⟨k, 0, none⟩) c (stf 7 3) w (hr.holds hr.lt) (by omega) (by omega) (by omega) (by omega)
theorem nm_is (w : World) (k : Nat) (hr : Row w k 49 (fun i => !stf 7 3 i)) : Calls Try.prog 15 #[.agg #[.int .i64 7, .int .i64 7, .slice (some ⟨k, 0, none⟩) 49 49]] w fun e w' => e = .returned (.tuple #[.int .i64 7, .int .i64 3, .bool false, .int .i64 0]) ∧ Below w.heap.size w w' := by
  have hS : Sat 7 3 0 false (fun i => !stf 7 3 i) := (stf_sat (n := 7) (m := 3) (by omega)).nt
  have q := pis9_ok 7 7 (some ⟨k, 0, none⟩) 49 (fun i => !stf 7 3 i) 7 3 1 (hS.isL (by omega) (by omega)) w (hr.holds hr.lt) (by omega) (by omega) (by omega) (by omega)
  rw [sat_isr hS (by decide +kernel) (by omega)] at q
  exact q
theorem ta_isl : IsL 6 3 ta 6 2 1 := IsL.of (by decide +kernel)
theorem nm_mota (w : World) (k c : Nat) (hc : 18 ≤ c) (hr : Row w k 18 ta) : Calls Try.prog 16 #[.agg #[.int .i64 6, .int .i64 3, .slice (some ⟨k, 0, none⟩) 18 c]] w (LOut w 1 (fun i => [2].getD i 0) 0) := by
  have h := pmo_yes 6 3 (some ⟨k, 0, none⟩) 18 c 6 2 1 0 w rfl rfl (fun v hv => pof_at ta_isl (some ⟨k, 0, none⟩) c v ((hr.below hv hr.lt).holds (hr.below hv hr.lt).lt) hc (by omega) (by omega) (by omega))
  exact h.mono fun e w' ⟨D, d, p1, p2, p3⟩ => ⟨D, d, p1, fun hn => (p2 hn).imp fun k ⟨p4, p5, p6⟩ => ⟨p4, p5, p6.congr fun i hi => by rcases i with _ | i <;> first | rfl | omega⟩, p3⟩
theorem nm_mos (w : World) (k c : Nat) (hc : 49 ≤ c) (hr : Row w k 49 (stf 7 3)) : Calls Try.prog 16 #[.agg #[.int .i64 7, .int .i64 7, .slice (some ⟨k, 0, none⟩) 49 c]] w (LOut w 1 (fun i => [3].getD i 0) 0) := by
  have h := pmo_yes 7 7 (some ⟨k, 0, none⟩) 49 c 7 3 1 0 w rfl rfl (fun v hv => pof_at ((stf_sat (n := 7) (m := 3) (by omega)).isL (by omega) (by omega)) (some ⟨k, 0, none⟩) c v ((hr.below hv hr.lt).holds (hr.below hv hr.lt).lt) hc (by omega) (by omega) (by omega))
  exact h.mono fun e w' ⟨D, d, p1, p2, p3⟩ => ⟨D, d, p1, fun hn => (p2 hn).imp fun k ⟨p4, p5, p6⟩ => ⟨p4, p5, p6.congr fun i hi => by rcases i with _ | i <;> first | rfl | omega⟩, p3⟩
def en (i : Nat) : Bool := i == 2
theorem nm_parse (w : World) : Calls Try.prog 17 #[.string ⟨#[120, 46, 10, 46, 46, 10]⟩] w (GrE w 2 2 4 en) := by
  refine (parse_ok ⟨#[120, 46, 10, 46, 46, 10]⟩ 2 2 w (by decide) (by omega) (by omega) (by omega) (by omega) (by decide) ⟨by decide, ?_⟩ (fun W' => ?_)).mono fun e w' ⟨k, he, hk, hr, hb⟩ => ⟨k, he, hk, hr.congr ?_, hb⟩
  · have key : ∀ i (h : i < 6), okAt ⟨#[120, 46, 10, 46, 46, 10]⟩ 2 i h := by unfold okAt; decide +kernel
    exact key
  · exact (Try.strings_IndexByte _ 10 W').mono fun e w' h => by
      refine ⟨?_, h.2⟩
      rw [h.1]
      rfl
  · decide
theorem en_isl : IsL 2 2 en 2 0 2 := IsL.of (by decide +kernel)
theorem nm_moen (w : World) (k : Nat) (hr : Row w k 4 en) : Calls Try.prog 16 #[.agg #[.int .i64 2, .int .i64 2, .slice (some ⟨k, 0, none⟩) 4 4]] w (LOut w 0 (fun _ => 0) 0) :=
  pmo_no 2 2 (some ⟨k, 0, none⟩) 4 4 2 0 2 0 w rfl (by omega) (fun v hv => pof_at en_isl (some ⟨k, 0, none⟩) 4 v ((hr.below hv hr.lt).holds (hr.below hv hr.lt).lt) (by omega) (by omega) (by omega) (by omega))
theorem nm_rta (v : World) (k c : Nat) (hr : Row v k 18 ta) : Calls Try.prog 18 #[.agg #[.int .i64 6, .int .i64 3, .slice (some ⟨k, 0, none⟩) 18 c], .int .i64 0, .string ⟨#[46, 120, 120, 46, 120, 46, 10, 120, 46, 120, 46, 46, 120, 10, 120, 46, 46, 120, 120, 46, 10]⟩] v fun e w' => e = .returned (.bool true) ∧ Below v.heap.size v w' :=
  reads6_any 6 3 (some ⟨k, 0, none⟩) c ta _ true v (hr.holds hr.lt) (by omega) (by omega) (by omega) (by omega) (by decide +kernel)
theorem nm_rtb (v : World) (k c : Nat) (hr : Row v k 4 tb) : Calls Try.prog 18 #[.agg #[.int .i64 4, .int .i64 1, .slice (some ⟨k, 0, none⟩) 4 c], .int .i64 0, .string ⟨#[120, 120, 120, 46, 10]⟩] v fun e w' => e = .returned (.bool true) ∧ Below v.heap.size v w' :=
  reads6_any 4 1 (some ⟨k, 0, none⟩) c tb _ true v (hr.holds hr.lt) (by omega) (by omega) (by omega) (by omega) (by decide +kernel)
theorem nm_c4 (w : World) : Calls Try.prog 12 #[.int .i64 4] w (LOut w 0 (fun _ => 0) 2) := pcou_err (by omega) w
theorem nm_c65 (w : World) : Calls Try.prog 12 #[.int .i64 65] w (LOut w 0 (fun _ => 0) 2) := pcou_err (by omega) w
theorem nm_s62 (w : World) : Calls Try.prog 13 #[.int .i64 6, .int .i64 2] w (ErrGrid w 2) := pst_err (by decide +kernel) w
theorem nm_s76 (w : World) : Calls Try.prog 13 #[.int .i64 7, .int .i64 6] w (ErrGrid w 2) := pst_err (by decide +kernel) w
theorem nm_tw (w : World) (s : Nat) (hs : s = w.heap.size) (l : List Int) (cs : Array Value) (hc : cs = (l.map fun x => Value.int .i64 x).toArray) (n : Nat) (hn : n = l.length) (hl : l.length ≤ 5000) (h : vr (fun i => l.getD i 0) l.length = false) : Calls Try.prog 11 #[.slice (some ⟨s, 0, none⟩) n n, .int .i64 1] (w.alloc (.cells cs 3)) (ErrGrid (w.alloc (.cells cs 3)) 8) := by
  subst hs hn
  exact ptw_err _ _ _ (fun i => l.getD i 0) 1 _ hl (lv_lit w l cs hc).h h
theorem nm_tw0 (w : World) : Calls Try.prog 11 #[.slice none 0 0, .int .i64 1] w (ErrGrid w 8) := ptw_err none 0 0 (fun _ => 0) 1 w (by omega) (fun h => absurd h (by omega)) (vr_zero _)
theorem nm_r65 (w : World) (s : Nat) : Calls Try.prog 20 #[.slice (some ⟨s, 0, none⟩) 65 65] w (LOut w 0 (fun _ => 0) 4) := prun_many _ 65 65 w (by omega)
theorem nm_r2 (w : World) (s : Nat) (hs : s = w.heap.size) : Calls Try.prog 20 #[.slice (some ⟨s, 0, none⟩) 2 2] (w.alloc (.cells #[.bool true, .bool true] 4)) (LOut (w.alloc (.cells #[.bool true, .bool true] 4)) 0 (fun _ => 0) 8) := by
  subst hs
  exact prun_bad w.heap.size 0 2 2 (fun _ => true) _ (by omega) (by omega) (fun i hi => by
    rw [Lib.cell_of_heap (World.alloc_heap_new w _)]
    rcases i with _ | _ | i <;> first | rfl | omega) (by simp)
theorem nm_r0 (w : World) : Calls Try.prog 20 #[.slice none 0 0] w (LOut w 0 (fun _ => 0) 8) := prun_few none 0 0 w (by omega)
theorem nm_ista (w : World) (k c : Nat) (hc : 18 ≤ c) (hr : Row w k 18 ta) : Calls Try.prog 15 #[.agg #[.int .i64 6, .int .i64 3, .slice (some ⟨k, 0, none⟩) 18 c]] w fun e w' => e = .returned (.tuple #[.int .i64 0, .int .i64 0, .bool false, .int .i64 6]) ∧ Below w.heap.size w w' := by
  have q := pis9_ok 6 3 (some ⟨k, 0, none⟩) c ta 6 2 1 ta_isl w (hr.holds hr.lt) hc (by omega) (by omega) (by omega)
  rw [isr_no (fun h => by have h := h.2.1; revert h; decide +kernel)] at q
  exact q
theorem nm_is0 (w : World) : Calls Try.prog 15 #[.agg #[.int .i64 0, .int .i64 0, .slice none 0 0]] w fun e w' => e = .returned (.tuple #[.int .i64 0, .int .i64 0, .bool false, .int .i64 8]) ∧ Below w.heap.size w w' :=
  pis9_err 0 0 none 0 0 8 w rfl (fun u hu => pof_err 0 0 none 0 0 u (by omega) 8 (by decide) rfl)
theorem mk65_run (w : World) : (Instr.makeSlice 22 (.int .i64 65) (.int .i64 65)).run Try.prog w = .ok (.slice (some ⟨w.heap.size, 0, none⟩) 65 65) (w.alloc (.cells (madeCells #[.bool false] 65) 4)) := by
  have h := make_run 65 1 (by omega) w
  exact h
set_option maxHeartbeats 6400000 in
theorem names9_any (w0 : World) : Calls Try.prog 3 #[] w0 fun e w' => e = .returned (.bool true) ∧ Below w0.heap.size w0 w' := by
  have LB0 := Lib.hid (Below.refl w0.heap.size w0)
  have hmk := mk65_run
  go_enter Try.func3, Try.ntmps3
  go_wp2_with fail
  with_reducible refine Calls.mono (nm_ta _ _ (by simp)) ?_
  rintro e w1 ⟨ka, ca, rfl, hda, hka, hrow, hb⟩
  have hb := (show Below (w0).heap.size (w0) w1 from ((Below.refl _ _).alloc (Nat.le_refl _) _).trans (hb.mono (by simp)))
  have hba := hb.trans ((((Below.refl _ w1).alloc (Nat.le_refl _) (.cells #[.int .i64 6, .int .i64 3, .slice (some ⟨ka, 0, none⟩) 18 ca] 24))).mono hb.size)
  have Ba1 := Lib.hid (Box.new w1 6 3 (.slice (some ⟨ka, 0, none⟩) 18 ca))
  have Ra1 := Lib.hid (hrow.alloc (.cells #[.int .i64 6, .int .i64 3, .slice (some ⟨ka, 0, none⟩) 18 ca] 24))
  clear hb hrow hka
  have LB1 := Lib.hid (LB0.out.trans (hba.mono LB0.out.size))
  clear hba LB0
  go_wp2_with fail
  with_reducible refine Calls.mono (nm_tb _ _ (by simp)) ?_
  rintro e w2 ⟨kb, cb, rfl, hdb, hkb, hrow, hb⟩
  have hb := (show Below (w1.alloc (.cells #[.int .i64 6, .int .i64 3, .slice (some ⟨ka, 0, none⟩) 18 ca] 24)).heap.size (w1.alloc (.cells #[.int .i64 6, .int .i64 3, .slice (some ⟨ka, 0, none⟩) 18 ca] 24)) w2 from ((Below.refl _ _).alloc (Nat.le_refl _) _).trans (hb.mono (by simp)))
  have hba := hb.trans ((((Below.refl _ w2).alloc (Nat.le_refl _) (.cells #[.int .i64 4, .int .i64 1, .slice (some ⟨kb, 0, none⟩) 4 cb] 24))).mono hb.size)
  have Bb2 := Lib.hid (Box.new w2 4 1 (.slice (some ⟨kb, 0, none⟩) 4 cb))
  have Rb2 := Lib.hid (hrow.alloc (.cells #[.int .i64 4, .int .i64 1, .slice (some ⟨kb, 0, none⟩) 4 cb] 24))
  clear hb hrow hkb
  have LB2 := Lib.hid (LB1.out.trans (hba.mono LB1.out.size))
  have Ba2 := Lib.hid (Ba1.out.below hba Ba1.out.lt)
  have Ra2 := Lib.hid (Ra1.out.below hba Ra1.out.lt)
  clear hba LB1 Ba1 Ra1
  go_wp2_with fail
  with_reducible refine Calls.mono (nm_c64 _) ?_
  rintro e w3 ⟨DP, dP, rfl, hl, hb⟩
  have P3 := Lib.hid (LV.of hl)
  have LB3 := Lib.hid (LB2.out.trans (hb.mono LB2.out.size))
  have Ba3 := Lib.hid (Ba2.out.below hb Ba2.out.lt)
  have Ra3 := Lib.hid (Ra2.out.below hb Ra2.out.lt)
  have Bb3 := Lib.hid (Bb2.out.below hb Bb2.out.lt)
  have Rb3 := Lib.hid (Rb2.out.below hb Rb2.out.lt)
  clear hb LB2 Ba2 Ra2 Bb2 Rb2
  clear hl
  go_wp2_with fail
  with_reducible refine Calls.mono (nm_s73 _) ?_
  rintro e w4 ⟨ks, cs, rfl, hds, hks, hrow, hb⟩
  have hba := hb.trans ((((Below.refl _ w4).alloc (Nat.le_refl _) (.cells #[.int .i64 7, .int .i64 7, .slice (some ⟨ks, 0, none⟩) 49 cs] 24))).mono hb.size)
  have Bs4 := Lib.hid (Box.new w4 7 7 (.slice (some ⟨ks, 0, none⟩) 49 cs))
  have Rs4 := Lib.hid (hrow.alloc (.cells #[.int .i64 7, .int .i64 7, .slice (some ⟨ks, 0, none⟩) 49 cs] 24))
  clear hb hrow hks
  have LB4 := Lib.hid (LB3.out.trans (hba.mono LB3.out.size))
  have Ba4 := Lib.hid (Ba3.out.below hba Ba3.out.lt)
  have Ra4 := Lib.hid (Ra3.out.below hba Ra3.out.lt)
  have Bb4 := Lib.hid (Bb3.out.below hba Bb3.out.lt)
  have Rb4 := Lib.hid (Rb3.out.below hba Rb3.out.lt)
  have P4 := Lib.hid (P3.out.next hba)
  clear hba LB3 Ba3 Ra3 Bb3 Rb3 P3
  obtain ⟨q0, q1, q2, q3, q4, q5, q6⟩ := Bs4.out.all
  go_wp2_with fail
  clear q0 q1 q2 q3 q4 q5 q6
  with_reducible refine Calls.mono (nm_not _ ks cs Rs4.out) ?_
  rintro e w5 ⟨ko, rfl, hko, hrow, hb⟩
  have hba := hb.trans ((((Below.refl _ w5).alloc (Nat.le_refl _) (.cells #[.int .i64 7, .int .i64 7, .slice (some ⟨ko, 0, none⟩) 49 49] 24))).mono hb.size)
  have Bo5 := Lib.hid (Box.new w5 7 7 (.slice (some ⟨ko, 0, none⟩) 49 49))
  have Ro5 := Lib.hid (hrow.alloc (.cells #[.int .i64 7, .int .i64 7, .slice (some ⟨ko, 0, none⟩) 49 49] 24))
  clear hb hrow hko
  have LB5 := Lib.hid (LB4.out.trans (hba.mono LB4.out.size))
  have Ba5 := Lib.hid (Ba4.out.below hba Ba4.out.lt)
  have Ra5 := Lib.hid (Ra4.out.below hba Ra4.out.lt)
  have Bb5 := Lib.hid (Bb4.out.below hba Bb4.out.lt)
  have Rb5 := Lib.hid (Rb4.out.below hba Rb4.out.lt)
  have P5 := Lib.hid (P4.out.next hba)
  have Bs5 := Lib.hid (Bs4.out.below hba Bs4.out.lt)
  have Rs5 := Lib.hid (Rs4.out.below hba Rs4.out.lt)
  clear hba LB4 Ba4 Ra4 Bb4 Rb4 P4 Bs4 Rs4
  obtain ⟨q0, q1, q2, q3, q4, q5, q6⟩ := Bo5.out.all
  go_wp2_with fail
  clear q0 q1 q2 q3 q4 q5 q6
  with_reducible refine Calls.mono (nm_is _ ko Ro5.out) ?_
  rintro e w6 ⟨rfl, hb⟩
  have LB6 := Lib.hid (LB5.out.trans (hb.mono LB5.out.size))
  have Ba6 := Lib.hid (Ba5.out.below hb Ba5.out.lt)
  have Ra6 := Lib.hid (Ra5.out.below hb Ra5.out.lt)
  have Bb6 := Lib.hid (Bb5.out.below hb Bb5.out.lt)
  have Rb6 := Lib.hid (Rb5.out.below hb Rb5.out.lt)
  have P6 := Lib.hid (P5.out.next hb)
  have Bs6 := Lib.hid (Bs5.out.below hb Bs5.out.lt)
  have Rs6 := Lib.hid (Rs5.out.below hb Rs5.out.lt)
  have Bo6 := Lib.hid (Bo5.out.below hb Bo5.out.lt)
  have Ro6 := Lib.hid (Ro5.out.below hb Ro5.out.lt)
  clear hb LB5 Ba5 Ra5 Bb5 Rb5 P5 Bs5 Rs5 Bo5 Ro5
  clear Bo6
  clear Ro6
  obtain ⟨q0, q1, q2, q3, q4, q5, q6⟩ := Ba6.out.all
  go_wp2_with fail
  clear q0 q1 q2 q3 q4 q5 q6
  with_reducible refine Calls.mono (nm_mota _ ka ca hda Ra6.out) ?_
  rintro e w7 ⟨DQ, dQ, rfl, hl, hb⟩
  have Q7 := Lib.hid (LV.of hl)
  have LB7 := Lib.hid (LB6.out.trans (hb.mono LB6.out.size))
  have Ba7 := Lib.hid (Ba6.out.below hb Ba6.out.lt)
  have Ra7 := Lib.hid (Ra6.out.below hb Ra6.out.lt)
  have Bb7 := Lib.hid (Bb6.out.below hb Bb6.out.lt)
  have Rb7 := Lib.hid (Rb6.out.below hb Rb6.out.lt)
  have P7 := Lib.hid (P6.out.next hb)
  have Bs7 := Lib.hid (Bs6.out.below hb Bs6.out.lt)
  have Rs7 := Lib.hid (Rs6.out.below hb Rs6.out.lt)
  clear hb LB6 Ba6 Ra6 Bb6 Rb6 P6 Bs6 Rs6
  clear hl
  obtain ⟨q0, q1, q2, q3, q4, q5, q6⟩ := Bs7.out.all
  go_wp2_with fail
  clear q0 q1 q2 q3 q4 q5 q6
  with_reducible refine Calls.mono (nm_mos _ ks cs hds Rs7.out) ?_
  rintro e w8 ⟨DS, dS, rfl, hl, hb⟩
  have S8 := Lib.hid (LV.of hl)
  have LB8 := Lib.hid (LB7.out.trans (hb.mono LB7.out.size))
  have Ba8 := Lib.hid (Ba7.out.below hb Ba7.out.lt)
  have Ra8 := Lib.hid (Ra7.out.below hb Ra7.out.lt)
  have Bb8 := Lib.hid (Bb7.out.below hb Bb7.out.lt)
  have Rb8 := Lib.hid (Rb7.out.below hb Rb7.out.lt)
  have P8 := Lib.hid (P7.out.next hb)
  have Bs8 := Lib.hid (Bs7.out.below hb Bs7.out.lt)
  have Rs8 := Lib.hid (Rs7.out.below hb Rs7.out.lt)
  have Q8 := Lib.hid (Q7.out.next hb)
  clear hb LB7 Ba7 Ra7 Bb7 Rb7 P7 Bs7 Rs7 Q7
  clear hl
  clear Bs8
  clear Rs8
  go_wp2_with fail
  with_reducible refine Calls.mono (nm_parse _) ?_
  rintro e w9 ⟨ke, rfl, hke, hrow, hb⟩
  have hba := hb.trans ((((Below.refl _ w9).alloc (Nat.le_refl _) (.cells #[.int .i64 2, .int .i64 2, .slice (some ⟨ke, 0, none⟩) 4 4] 24))).mono hb.size)
  have Be9 := Lib.hid (Box.new w9 2 2 (.slice (some ⟨ke, 0, none⟩) 4 4))
  have Re9 := Lib.hid (hrow.alloc (.cells #[.int .i64 2, .int .i64 2, .slice (some ⟨ke, 0, none⟩) 4 4] 24))
  clear hb hrow hke
  have LB9 := Lib.hid (LB8.out.trans (hba.mono LB8.out.size))
  have Ba9 := Lib.hid (Ba8.out.below hba Ba8.out.lt)
  have Ra9 := Lib.hid (Ra8.out.below hba Ra8.out.lt)
  have Bb9 := Lib.hid (Bb8.out.below hba Bb8.out.lt)
  have Rb9 := Lib.hid (Rb8.out.below hba Rb8.out.lt)
  have P9 := Lib.hid (P8.out.next hba)
  have Q9 := Lib.hid (Q8.out.next hba)
  have S9 := Lib.hid (S8.out.next hba)
  clear hba LB8 Ba8 Ra8 Bb8 Rb8 P8 Q8 S8
  obtain ⟨q0, q1, q2, q3, q4, q5, q6⟩ := Be9.out.all
  go_wp2_with fail
  clear q0 q1 q2 q3 q4 q5 q6
  with_reducible refine Calls.mono (nm_moen _ ke Re9.out) ?_
  rintro e w10 ⟨D_9, d_9, rfl, hl, hb⟩
  clear hl
  have LB10 := Lib.hid (LB9.out.trans (hb.mono LB9.out.size))
  have Ba10 := Lib.hid (Ba9.out.below hb Ba9.out.lt)
  have Ra10 := Lib.hid (Ra9.out.below hb Ra9.out.lt)
  have Bb10 := Lib.hid (Bb9.out.below hb Bb9.out.lt)
  have Rb10 := Lib.hid (Rb9.out.below hb Rb9.out.lt)
  have P10 := Lib.hid (P9.out.next hb)
  have Q10 := Lib.hid (Q9.out.next hb)
  have S10 := Lib.hid (S9.out.next hb)
  have Be10 := Lib.hid (Be9.out.below hb Be9.out.lt)
  have Re10 := Lib.hid (Re9.out.below hb Re9.out.lt)
  clear hb LB9 Ba9 Ra9 Bb9 Rb9 P9 Q9 S9 Be9 Re9
  clear Be10
  clear Re10
  obtain ⟨q0, q1, q2, q3, q4, q5, q6⟩ := Ba10.out.all
  go_wp2_with fail
  clear q0 q1 q2 q3 q4 q5 q6
  with_reducible refine Calls.mono (nm_rta _ ka ca Ra10.out) ?_
  rintro e w11 ⟨rfl, hb⟩
  have LB11 := Lib.hid (LB10.out.trans (hb.mono LB10.out.size))
  have Ba11 := Lib.hid (Ba10.out.below hb Ba10.out.lt)
  have Ra11 := Lib.hid (Ra10.out.below hb Ra10.out.lt)
  have Bb11 := Lib.hid (Bb10.out.below hb Bb10.out.lt)
  have Rb11 := Lib.hid (Rb10.out.below hb Rb10.out.lt)
  have P11 := Lib.hid (P10.out.next hb)
  have Q11 := Lib.hid (Q10.out.next hb)
  have S11 := Lib.hid (S10.out.next hb)
  clear hb LB10 Ba10 Ra10 Bb10 Rb10 P10 Q10 S10
  obtain ⟨q0, q1, q2, q3, q4, q5, q6⟩ := Bb11.out.all
  go_wp2_with fail
  clear q0 q1 q2 q3 q4 q5 q6
  with_reducible refine Calls.mono (nm_rtb _ kb cb Rb11.out) ?_
  rintro e w12 ⟨rfl, hb⟩
  have LB12 := Lib.hid (LB11.out.trans (hb.mono LB11.out.size))
  have Ba12 := Lib.hid (Ba11.out.below hb Ba11.out.lt)
  have Ra12 := Lib.hid (Ra11.out.below hb Ra11.out.lt)
  have Bb12 := Lib.hid (Bb11.out.below hb Bb11.out.lt)
  have Rb12 := Lib.hid (Rb11.out.below hb Rb11.out.lt)
  have P12 := Lib.hid (P11.out.next hb)
  have Q12 := Lib.hid (Q11.out.next hb)
  have S12 := Lib.hid (S11.out.next hb)
  clear hb LB11 Ba11 Ra11 Bb11 Rb11 P11 Q11 S11
  clear Bb12
  clear Rb12
  obtain ⟨pb, po, hpe, hpb, hpc⟩ := P12.out.h (by omega)
  have hp0 := hpc 0 (by omega)
  have hp29 := hpc 29 (by omega)
  rw [Nat.add_zero, show lf l64 0 = 3 from rfl] at hp0
  rw [show lf l64 29 = 61 from rfl] at hp29
  subst hpe
  clear hpc
  go_wp2_with fail
  with_reducible refine Calls.mono (lv_same (n := 1) (by omega) (Q12.out.next ((Below.refl _ _).alloc (Nat.le_refl _) (.cells #[.int .i64 2] 3))) (lv_lit (w12) [2] #[.int .i64 2] rfl) dQ 1 (fun _ _ => rfl)) ?_
  rintro e w13 ⟨rfl, hb⟩
  have hb := (show Below (w12).heap.size (w12) w13 from ((Below.refl _ _).alloc (Nat.le_refl _) _).trans (hb.mono (by simp)))
  have LB13 := Lib.hid (LB12.out.trans (hb.mono LB12.out.size))
  have Ba13 := Lib.hid (Ba12.out.below hb Ba12.out.lt)
  have Ra13 := Lib.hid (Ra12.out.below hb Ra12.out.lt)
  have P13 := Lib.hid (P12.out.next hb)
  have Q13 := Lib.hid (Q12.out.next hb)
  have S13 := Lib.hid (S12.out.next hb)
  clear hb LB12 Ba12 Ra12 P12 Q12 S12
  clear hp0 hp29
  go_wp2_with fail
  with_reducible refine Calls.mono (lv_same (n := 1) (by omega) (S13.out.next ((Below.refl _ _).alloc (Nat.le_refl _) (.cells #[.int .i64 3] 3))) (lv_lit (w13) [3] #[.int .i64 3] rfl) dS 1 (fun _ _ => rfl)) ?_
  rintro e w14 ⟨rfl, hb⟩
  have hb := (show Below (w13).heap.size (w13) w14 from ((Below.refl _ _).alloc (Nat.le_refl _) _).trans (hb.mono (by simp)))
  have LB14 := Lib.hid (LB13.out.trans (hb.mono LB13.out.size))
  have Ba14 := Lib.hid (Ba13.out.below hb Ba13.out.lt)
  have Ra14 := Lib.hid (Ra13.out.below hb Ra13.out.lt)
  have P14 := Lib.hid (P13.out.next hb)
  have Q14 := Lib.hid (Q13.out.next hb)
  have S14 := Lib.hid (S13.out.next hb)
  clear hb LB13 Ba13 Ra13 P13 Q13 S13
  go_wp2_with fail
  with_reducible refine Calls.mono (nm_c4 _) ?_
  rintro e w15 ⟨D_14, d_14, rfl, hl, hb⟩
  clear hl
  have LB15 := Lib.hid (LB14.out.trans (hb.mono LB14.out.size))
  have Ba15 := Lib.hid (Ba14.out.below hb Ba14.out.lt)
  have Ra15 := Lib.hid (Ra14.out.below hb Ra14.out.lt)
  have P15 := Lib.hid (P14.out.next hb)
  have Q15 := Lib.hid (Q14.out.next hb)
  have S15 := Lib.hid (S14.out.next hb)
  clear hb LB14 Ba14 Ra14 P14 Q14 S14
  go_wp2_with fail
  with_reducible refine Calls.mono (nm_c65 _) ?_
  rintro e w16 ⟨D_15, d_15, rfl, hl, hb⟩
  clear hl
  have LB16 := Lib.hid (LB15.out.trans (hb.mono LB15.out.size))
  have Ba16 := Lib.hid (Ba15.out.below hb Ba15.out.lt)
  have Ra16 := Lib.hid (Ra15.out.below hb Ra15.out.lt)
  have P16 := Lib.hid (P15.out.next hb)
  have Q16 := Lib.hid (Q15.out.next hb)
  have S16 := Lib.hid (S15.out.next hb)
  clear hb LB15 Ba15 Ra15 P15 Q15 S15
  go_wp2_with fail
  with_reducible refine Calls.mono (nm_s62 _) ?_
  rintro e w17 ⟨rfl, hb⟩
  have hba := hb.trans ((((Below.refl _ w17).alloc (Nat.le_refl _) (.cells #[.int .i64 0, .int .i64 0, .slice none 0 0] 24))).mono hb.size)
  clear hb
  have LB17 := Lib.hid (LB16.out.trans (hba.mono LB16.out.size))
  have Ba17 := Lib.hid (Ba16.out.below hba Ba16.out.lt)
  have Ra17 := Lib.hid (Ra16.out.below hba Ra16.out.lt)
  have P17 := Lib.hid (P16.out.next hba)
  have Q17 := Lib.hid (Q16.out.next hba)
  have S17 := Lib.hid (S16.out.next hba)
  clear hba LB16 Ba16 Ra16 P16 Q16 S16
  go_wp2_with fail
  with_reducible refine Calls.mono (nm_s76 _) ?_
  rintro e w18 ⟨rfl, hb⟩
  have hba := hb.trans ((((Below.refl _ w18).alloc (Nat.le_refl _) (.cells #[.int .i64 0, .int .i64 0, .slice none 0 0] 24))).mono hb.size)
  clear hb
  have LB18 := Lib.hid (LB17.out.trans (hba.mono LB17.out.size))
  have Ba18 := Lib.hid (Ba17.out.below hba Ba17.out.lt)
  have Ra18 := Lib.hid (Ra17.out.below hba Ra17.out.lt)
  have P18 := Lib.hid (P17.out.next hba)
  have Q18 := Lib.hid (Q17.out.next hba)
  have S18 := Lib.hid (S17.out.next hba)
  clear hba LB17 Ba17 Ra17 P17 Q17 S17
  go_wp2_with fail
  with_reducible refine Calls.mono (nm_tw _ _ (by simp) [1, 2, 1] #[.int .i64 1, .int .i64 2, .int .i64 1] rfl 3 rfl (by decide) (by decide +kernel)) ?_
  rintro e w19 ⟨rfl, hb⟩
  have hb := (show Below (w18.alloc (.cells #[.int .i64 0, .int .i64 0, .slice none 0 0] 24)).heap.size (w18.alloc (.cells #[.int .i64 0, .int .i64 0, .slice none 0 0] 24)) w19 from ((Below.refl _ _).alloc (Nat.le_refl _) _).trans (hb.mono (by simp)))
  have hba := hb.trans ((((Below.refl _ w19).alloc (Nat.le_refl _) (.cells #[.int .i64 0, .int .i64 0, .slice none 0 0] 24))).mono hb.size)
  clear hb
  have LB19 := Lib.hid (LB18.out.trans (hba.mono LB18.out.size))
  have Ba19 := Lib.hid (Ba18.out.below hba Ba18.out.lt)
  have Ra19 := Lib.hid (Ra18.out.below hba Ra18.out.lt)
  have P19 := Lib.hid (P18.out.next hba)
  have Q19 := Lib.hid (Q18.out.next hba)
  have S19 := Lib.hid (S18.out.next hba)
  clear hba LB18 Ba18 Ra18 P18 Q18 S18
  go_wp2_with fail
  with_reducible refine Calls.mono (nm_tw _ _ (by simp) [60, 5] #[.int .i64 60, .int .i64 5] rfl 2 rfl (by decide) (by decide +kernel)) ?_
  rintro e w20 ⟨rfl, hb⟩
  have hb := (show Below (w19.alloc (.cells #[.int .i64 0, .int .i64 0, .slice none 0 0] 24)).heap.size (w19.alloc (.cells #[.int .i64 0, .int .i64 0, .slice none 0 0] 24)) w20 from ((Below.refl _ _).alloc (Nat.le_refl _) _).trans (hb.mono (by simp)))
  have hba := hb.trans ((((Below.refl _ w20).alloc (Nat.le_refl _) (.cells #[.int .i64 0, .int .i64 0, .slice none 0 0] 24))).mono hb.size)
  clear hb
  have LB20 := Lib.hid (LB19.out.trans (hba.mono LB19.out.size))
  have Ba20 := Lib.hid (Ba19.out.below hba Ba19.out.lt)
  have Ra20 := Lib.hid (Ra19.out.below hba Ra19.out.lt)
  have P20 := Lib.hid (P19.out.next hba)
  have Q20 := Lib.hid (Q19.out.next hba)
  have S20 := Lib.hid (S19.out.next hba)
  clear hba LB19 Ba19 Ra19 P19 Q19 S19
  go_wp2_with fail
  with_reducible refine Calls.mono (nm_tw _ _ (by simp) [1, 0] #[.int .i64 1, .int .i64 0] rfl 2 rfl (by decide) (by decide +kernel)) ?_
  rintro e w21 ⟨rfl, hb⟩
  have hb := (show Below (w20.alloc (.cells #[.int .i64 0, .int .i64 0, .slice none 0 0] 24)).heap.size (w20.alloc (.cells #[.int .i64 0, .int .i64 0, .slice none 0 0] 24)) w21 from ((Below.refl _ _).alloc (Nat.le_refl _) _).trans (hb.mono (by simp)))
  have hba := hb.trans ((((Below.refl _ w21).alloc (Nat.le_refl _) (.cells #[.int .i64 0, .int .i64 0, .slice none 0 0] 24))).mono hb.size)
  clear hb
  have LB21 := Lib.hid (LB20.out.trans (hba.mono LB20.out.size))
  have Ba21 := Lib.hid (Ba20.out.below hba Ba20.out.lt)
  have Ra21 := Lib.hid (Ra20.out.below hba Ra20.out.lt)
  have P21 := Lib.hid (P20.out.next hba)
  have Q21 := Lib.hid (Q20.out.next hba)
  have S21 := Lib.hid (S20.out.next hba)
  clear hba LB20 Ba20 Ra20 P20 Q20 S20
  go_wp2_with fail
  with_reducible refine Calls.mono (nm_r65 _ _) ?_
  rintro e w22 ⟨D_21, d_21, rfl, hl, hb⟩
  have hb := (show Below (w21.alloc (.cells #[.int .i64 0, .int .i64 0, .slice none 0 0] 24)).heap.size (w21.alloc (.cells #[.int .i64 0, .int .i64 0, .slice none 0 0] 24)) w22 from ((Below.refl _ _).alloc (Nat.le_refl _) _).trans (hb.mono (by simp)))
  clear hl
  have LB22 := Lib.hid (LB21.out.trans (hb.mono LB21.out.size))
  have Ba22 := Lib.hid (Ba21.out.below hb Ba21.out.lt)
  have Ra22 := Lib.hid (Ra21.out.below hb Ra21.out.lt)
  have P22 := Lib.hid (P21.out.next hb)
  have Q22 := Lib.hid (Q21.out.next hb)
  have S22 := Lib.hid (S21.out.next hb)
  clear hb LB21 Ba21 Ra21 P21 Q21 S21
  go_wp2_with fail
  with_reducible refine Calls.mono (nm_r2 _ _ (by simp)) ?_
  rintro e w23 ⟨D_22, d_22, rfl, hl, hb⟩
  have hb := (show Below (w22).heap.size (w22) w23 from ((Below.refl _ _).alloc (Nat.le_refl _) _).trans (hb.mono (by simp)))
  clear hl
  have LB23 := Lib.hid (LB22.out.trans (hb.mono LB22.out.size))
  have Ba23 := Lib.hid (Ba22.out.below hb Ba22.out.lt)
  have Ra23 := Lib.hid (Ra22.out.below hb Ra22.out.lt)
  have P23 := Lib.hid (P22.out.next hb)
  have Q23 := Lib.hid (Q22.out.next hb)
  have S23 := Lib.hid (S22.out.next hb)
  clear hb LB22 Ba22 Ra22 P22 Q22 S22
  go_wp2_with fail
  with_reducible refine Calls.mono (nm_r0 _) ?_
  rintro e w24 ⟨D_23, d_23, rfl, hl, hb⟩
  clear hl
  have LB24 := Lib.hid (LB23.out.trans (hb.mono LB23.out.size))
  have Ba24 := Lib.hid (Ba23.out.below hb Ba23.out.lt)
  have Ra24 := Lib.hid (Ra23.out.below hb Ra23.out.lt)
  have P24 := Lib.hid (P23.out.next hb)
  have Q24 := Lib.hid (Q23.out.next hb)
  have S24 := Lib.hid (S23.out.next hb)
  clear hb LB23 Ba23 Ra23 P23 Q23 S23
  obtain ⟨q0, q1, q2, q3, q4, q5, q6⟩ := Ba24.out.all
  go_wp2_with fail
  clear q0 q1 q2 q3 q4 q5 q6
  with_reducible refine Calls.mono (nm_ista _ ka ca hda Ra24.out) ?_
  rintro e w25 ⟨rfl, hb⟩
  have LB25 := Lib.hid (LB24.out.trans (hb.mono LB24.out.size))
  have Ba25 := Lib.hid (Ba24.out.below hb Ba24.out.lt)
  have Ra25 := Lib.hid (Ra24.out.below hb Ra24.out.lt)
  have P25 := Lib.hid (P24.out.next hb)
  have Q25 := Lib.hid (Q24.out.next hb)
  have S25 := Lib.hid (S24.out.next hb)
  clear hb LB24 Ba24 Ra24 P24 Q24 S24
  go_wp2_with fail
  with_reducible refine Calls.mono (nm_is0 _) ?_
  rintro e w26 ⟨rfl, hb⟩
  have LB26 := Lib.hid (LB25.out.trans (hb.mono LB25.out.size))
  have Ba26 := Lib.hid (Ba25.out.below hb Ba25.out.lt)
  have Ra26 := Lib.hid (Ra25.out.below hb Ra25.out.lt)
  have P26 := Lib.hid (P25.out.next hb)
  have Q26 := Lib.hid (Q25.out.next hb)
  have S26 := Lib.hid (S25.out.next hb)
  clear hb LB25 Ba25 Ra25 P25 Q25 S25
  go_wp2_with fail
  with_reducible refine Calls.mono (nm_tw0 _) ?_
  rintro e w27 ⟨rfl, hb⟩
  have hba := hb.trans ((((Below.refl _ w27).alloc (Nat.le_refl _) (.cells #[.int .i64 0, .int .i64 0, .slice none 0 0] 24))).mono hb.size)
  clear hb
  have LB27 := Lib.hid (LB26.out.trans (hba.mono LB26.out.size))
  have Ba27 := Lib.hid (Ba26.out.below hba Ba26.out.lt)
  have Ra27 := Lib.hid (Ra26.out.below hba Ra26.out.lt)
  have P27 := Lib.hid (P26.out.next hba)
  have Q27 := Lib.hid (Q26.out.next hba)
  have S27 := Lib.hid (S26.out.next hba)
  clear hba LB26 Ba26 Ra26 P26 Q26 S26
  go_wp2_with fail
  with_reducible refine Calls.mono (alive9_any _) ?_
  rintro e w28 ⟨rfl, hb⟩
  have LB28 := Lib.hid (LB27.out.trans (hb.mono LB27.out.size))
  have Ba28 := Lib.hid (Ba27.out.below hb Ba27.out.lt)
  have Ra28 := Lib.hid (Ra27.out.below hb Ra27.out.lt)
  have P28 := Lib.hid (P27.out.next hb)
  have Q28 := Lib.hid (Q27.out.next hb)
  have S28 := Lib.hid (S27.out.next hb)
  clear hb LB27 Ba27 Ra27 P27 Q27 S27
  go_wp2
  go_ret
  exact ⟨rfl, LB28.out⟩
end Go.Proofs.Ytmakjdfkldacaaa
