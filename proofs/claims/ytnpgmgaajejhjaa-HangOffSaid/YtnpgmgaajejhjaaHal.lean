/- The examples of alive; valid. -/
import Derived.Test.YtnpgmgaajejhjaaHwk
import Derived.Test.YtnpgmgaajejhjaaTa
namespace Go.Proofs.Ytnpgmgaajejhjaa
open Go.RowKit
set_option maxRecDepth 100000
set_option linter.unusedVariables false
set_option linter.unusedSimpArgs false

/-- A grid of a text. -/
def CG (w : World) (W H : Int) (n : Nat) (f : Nat → Bool) (e : Ending) (w' : World) : Prop := ∃ k, e = .returned (.agg #[.int .i64 W, .int .i64 H, .slice (some ⟨k, 0, none⟩) n n]) ∧ w.heap.size ≤ k ∧ Row w' k n f ∧ Below w.heap.size w w'
def PG (w : World) (W H : Int) (n : Nat) (f : Nat → Bool) (e : Ending) (w' : World) : Prop := ∃ k, e = .returned (.tuple #[.agg #[.int .i64 W, .int .i64 H, .slice (some ⟨k, 0, none⟩) n n], .int .i64 0]) ∧ w.heap.size ≤ k ∧ Row w' k n f ∧ Below w.heap.size w w'
set_option maxHeartbeats 800000 in
theorem cloth_any (s : ByteArray) (W H : Int) (n : Nat) (f : Nat → Bool) (hp : ∀ v, Calls Try.prog 60 #[.string s] v (PG v W H n f)) (w : World) : Calls Try.prog 41 #[.string s] w (CG w W H n f) := by
  have HP := Lib.hid hp
  have L0 := Lib.hid (show Below w.heap.size w (w.alloc (.cells #[.int .i64 0, .int .i64 0, .slice none 0 0] 24)) from (Below.refl _ _).alloc (Nat.le_refl _) _)
  have R0 := Lib.hid (Box.new w 0 0 (.slice none 0 0))
  have hs0 : (w.alloc (.cells #[.int .i64 0, .int .i64 0, .slice none 0 0] 24)).heap.size = w.heap.size + 1 := by simp
  clear hp
  go_enter Try.func41, Try.ntmps41
  go_wp2_with fail
  generalize w.alloc (.cells #[.int .i64 0, .int .i64 0, .slice none 0 0] 24) = v0 at *
  refine (HP.out _).mono ?_
  rintro e w1 ⟨k, rfl, hk, hrow, hb⟩
  have hkl := hrow.lt
  have R1 := Lib.hid ((R0.out.below hb R0.out.lt).alloc (.cells #[.int .i64 W, .int .i64 H, .slice (some ⟨k, 0, none⟩) n n] 24))
  have HW := Lib.hid (hrow.alloc (.cells #[.int .i64 W, .int .i64 H, .slice (some ⟨k, 0, none⟩) n n] 24))
  have LB := Lib.hid ((L0.out.trans (hb.mono L0.out.size)).alloc (Nat.le_trans L0.out.size hb.size) (.cells #[.int .i64 W, .int .i64 H, .slice (some ⟨k, 0, none⟩) n n] 24))
  obtain ⟨q0, q1, q2, q3, q4, q5, q6⟩ := R1.out.all
  obtain ⟨r0, r1, r2, r3, r4, r5, r6⟩ := (Box.new w1 W H (.slice (some ⟨k, 0, none⟩) n n)).all
  have hk2 : w.heap.size < k := by omega
  clear hrow hb
  go_wp2
  refine bodyPost_ret (v := .agg #[.int .i64 W, .int .i64 H, .slice (some ⟨k, 0, none⟩) n n]) (by simp [results, Try.results41, go_sem, q0, q1, q2]) rfl ⟨k, rfl, by omega, ?_, ?_⟩
  · exact ((HW.out.far (by simp; omega) _).far (by simp; omega) _).far (by simp; omega) _
  · exact ((LB.out.setCell (by simp) _).setCell (by simp) _).setCell (by simp) _
/-- A list of numbers came back, with no error. -/
def PLV (w : World) (n : Nat) (l : List Int) (e : Ending) (w' : World) : Prop := ∃ D d, e = .returned (.tuple #[.slice D n d, .int .i64 0]) ∧ LV w' D n (fun i => l.getD i 0) ∧ Below w.heap.size w w'
theorem plv {w : World} {l : List Nat} {m : List Int} (h : m = l.map fun x => ((x : Nat) : Int)) {e : Ending} {w' : World} (k : PRet w l 0 e w') : PLV w l.length m e w' := by
  obtain ⟨D, d, he, _, hl, hb⟩ := k
  refine ⟨D, d, he, ⟨fun hn => ?_⟩, hb⟩
  obtain ⟨b, o, e1, h1, h2⟩ := hl hn
  refine ⟨b, o, e1, h1, fun i hi => ?_⟩
  rw [h2 i hi, h]
  unfold lf
  simp [List.getD, List.getElem?_eq_getElem hi]
def ea (i : Nat) : Bool := i == 0 || i == 3
theorem parse_ea (w : World) : Calls Try.prog 60 #[.string ⟨#[46, 120, 10, 120, 46, 10]⟩] w (PG w 2 2 4 ea) := by
  refine (parse_ok ⟨#[46, 120, 10, 120, 46, 10]⟩ 2 2 w (by decide) (by omega) (by omega) (by omega) (by omega) (by decide) ⟨by decide, ?_⟩ (fun W' => ?_)).mono fun e w' ⟨k, he, hk, hr, hb⟩ => ⟨k, he, hk, hr.congr ?_, hb⟩
  · have key : ∀ i (h : i < 6), okAt ⟨#[46, 120, 10, 120, 46, 10]⟩ 2 i h := by unfold okAt; decide +kernel
    exact key
  · exact (Try.strings_IndexByte _ 10 W').mono fun e w' h => by
      refine ⟨?_, h.2⟩
      rw [h.1]
      rfl
  · decide
theorem cl_ea (w : World) : Calls Try.prog 41 #[.string ⟨#[46, 120, 10, 120, 46, 10]⟩] w (CG w 2 2 4 ea) := cloth_any _ _ _ _ _ parse_ea w
def xd (i : Nat) : Bool := i == 0
theorem parse_xd (w : World) : Calls Try.prog 60 #[.string ⟨#[120, 46, 10]⟩] w (PG w 2 1 2 xd) := by
  refine (parse_ok ⟨#[120, 46, 10]⟩ 2 1 w (by decide) (by omega) (by omega) (by omega) (by omega) (by decide) ⟨by decide, ?_⟩ (fun W' => ?_)).mono fun e w' ⟨k, he, hk, hr, hb⟩ => ⟨k, he, hk, hr.congr ?_, hb⟩
  · have key : ∀ i (h : i < 3), okAt ⟨#[120, 46, 10]⟩ 2 i h := by unfold okAt; decide +kernel
    exact key
  · exact (Try.strings_IndexByte _ 10 W').mono fun e w' h => by
      refine ⟨?_, h.2⟩
      rw [h.1]
      rfl
  · decide
theorem cl_xd (w : World) : Calls Try.prog 41 #[.string ⟨#[120, 46, 10]⟩] w (CG w 2 1 2 xd) := cloth_any _ _ _ _ _ parse_xd w
def xx (i : Nat) : Bool := i == 0 || i == 1 || i == 2 || i == 3
theorem parse_xx (w : World) : Calls Try.prog 60 #[.string ⟨#[120, 120, 10, 120, 120, 10]⟩] w (PG w 2 2 4 xx) := by
  refine (parse_ok ⟨#[120, 120, 10, 120, 120, 10]⟩ 2 2 w (by decide) (by omega) (by omega) (by omega) (by omega) (by decide) ⟨by decide, ?_⟩ (fun W' => ?_)).mono fun e w' ⟨k, he, hk, hr, hb⟩ => ⟨k, he, hk, hr.congr ?_, hb⟩
  · have key : ∀ i (h : i < 6), okAt ⟨#[120, 120, 10, 120, 120, 10]⟩ 2 i h := by unfold okAt; decide +kernel
    exact key
  · exact (Try.strings_IndexByte _ 10 W').mono fun e w' h => by
      refine ⟨?_, h.2⟩
      rw [h.1]
      rfl
  · decide
theorem cl_xx (w : World) : Calls Try.prog 41 #[.string ⟨#[120, 120, 10, 120, 120, 10]⟩] w (CG w 2 2 4 xx) := cloth_any _ _ _ _ _ parse_xx w
theorem wk_ea (w : World) (k c : Nat) (h : Row w k 4 ea) : Calls Try.prog 46 #[.agg #[.int .i64 2, .int .i64 2, .slice (some ⟨k, 0, none⟩) 4 c]] w (PLV w 9 [0, 2, 1, 3, 0, 2, 1, 3, 0]) := by
  have h1 := pwalk_ok 2 2 4 rfl (some ⟨k, 0, none⟩) c ea w (h.holds h.lt) (by omega) (by omega) (by omega) (by omega) (by decide +kernel)
  rw [show wlk (ov 2 ea) 4 4 = [0, 2, 1, 3, 0, 2, 1, 3, 0] by decide +kernel] at h1
  exact h1.mono fun e w' z => plv rfl z
theorem ap_xd (w : World) (k c : Nat) (h : Row w k 2 xd) : Calls Try.prog 42 #[.agg #[.int .i64 2, .int .i64 1, .slice (some ⟨k, 0, none⟩) 2 c]] w (PLV w 1 [0]) :=
  (papart_core 2 1 3 rfl (some ⟨k, 0, none⟩) c xd w (h.holds h.lt) (by omega) (by omega) (by omega) (by omega) false (by decide +kernel) [0] (by decide +kernel)).mono fun e w' z => plv rfl z
theorem ap_xx (w : World) (k c : Nat) (h : Row w k 4 xx) : Calls Try.prog 42 #[.agg #[.int .i64 2, .int .i64 2, .slice (some ⟨k, 0, none⟩) 4 c]] w (PLV w 1 [0]) :=
  (papart_core 2 2 4 rfl (some ⟨k, 0, none⟩) c xx w (h.holds h.lt) (by omega) (by omega) (by omega) (by omega) false (by decide +kernel) [0] (by decide +kernel)).mono fun e w' z => plv rfl z
theorem hn_ea (w : World) (k c : Nat) (h : Row w k 4 ea) : Calls Try.prog 40 #[.agg #[.int .i64 2, .int .i64 2, .slice (some ⟨k, 0, none⟩) 4 c]] w (BRet w true 0) :=
  phangs_core 2 2 4 rfl (some ⟨k, 0, none⟩) c ea w (h.holds h.lt) (by omega) (by omega) (by omega) (by omega) true (by decide +kernel)
set_option maxHeartbeats 800000 in
theorem alive10_any (w0 : World) : Calls Try.prog 48 #[] w0 fun e w' => e = .returned (.bool true) ∧ Below w0.heap.size w0 w' := by
  have LB0 := Lib.hid (Below.refl w0.heap.size w0)
  go_enter Try.func48, Try.ntmps48
  go_wp2_with fail
  with_reducible refine Calls.mono (cl_ea _) ?_
  rintro e w1 ⟨kRa, rfl, _, hrow, hb⟩
  have LB1 := Lib.hid (LB0.out.trans (hb.mono LB0.out.size))
  have Ra := Lib.hid hrow
  clear hrow
  clear hb LB0
  go_wp2_with fail
  with_reducible refine Calls.mono (wk_ea _ _ _ Ra.out) ?_
  rintro e w2 ⟨DP, dP, rfl, hl, hb⟩
  have LB2 := Lib.hid (LB1.out.trans (hb.mono LB1.out.size))
  have Ra := Lib.hid (Ra.out.below hb Ra.out.lt)
  have P := Lib.hid hl
  clear hl
  clear hb LB1
  clear Ra
  go_wp2_with fail
  with_reducible refine Calls.mono (cl_xd _) ?_
  rintro e w3 ⟨kRb, rfl, _, hrow, hb⟩
  have LB3 := Lib.hid (LB2.out.trans (hb.mono LB2.out.size))
  have P := Lib.hid (P.out.next hb)
  have Rb := Lib.hid hrow
  clear hrow
  clear hb LB2
  go_wp2_with fail
  with_reducible refine Calls.mono (ap_xd _ _ _ Rb.out) ?_
  rintro e w4 ⟨DP2, dP2, rfl, hl, hb⟩
  have LB4 := Lib.hid (LB3.out.trans (hb.mono LB3.out.size))
  have P := Lib.hid (P.out.next hb)
  have Rb := Lib.hid (Rb.out.below hb Rb.out.lt)
  have P2 := Lib.hid hl
  clear hl
  clear hb LB3
  clear Rb
  go_wp2_with fail
  with_reducible refine Calls.mono (cl_xx _) ?_
  rintro e w5 ⟨kRc, rfl, _, hrow, hb⟩
  have LB5 := Lib.hid (LB4.out.trans (hb.mono LB4.out.size))
  have P := Lib.hid (P.out.next hb)
  have P2 := Lib.hid (P2.out.next hb)
  have Rc := Lib.hid hrow
  clear hrow
  clear hb LB4
  go_wp2_with fail
  with_reducible refine Calls.mono (ap_xx _ _ _ Rc.out) ?_
  rintro e w6 ⟨DP3, dP3, rfl, hl, hb⟩
  have LB6 := Lib.hid (LB5.out.trans (hb.mono LB5.out.size))
  have P := Lib.hid (P.out.next hb)
  have P2 := Lib.hid (P2.out.next hb)
  have Rc := Lib.hid (Rc.out.below hb Rc.out.lt)
  have P3 := Lib.hid hl
  clear hl
  clear hb LB5
  clear Rc
  go_wp2_with fail
  with_reducible refine Calls.mono (cl_ea _) ?_
  rintro e w7 ⟨kRd, rfl, _, hrow, hb⟩
  have LB7 := Lib.hid (LB6.out.trans (hb.mono LB6.out.size))
  have P := Lib.hid (P.out.next hb)
  have P2 := Lib.hid (P2.out.next hb)
  have P3 := Lib.hid (P3.out.next hb)
  have Rd := Lib.hid hrow
  clear hrow
  clear hb LB6
  go_wp2_with fail
  with_reducible refine Calls.mono (hn_ea _ _ _ Rd.out) ?_
  rintro e w8 ⟨rfl, hb⟩
  have LB8 := Lib.hid (LB7.out.trans (hb.mono LB7.out.size))
  have P := Lib.hid (P.out.next hb)
  have P2 := Lib.hid (P2.out.next hb)
  have P3 := Lib.hid (P3.out.next hb)
  have Rd := Lib.hid (Rd.out.below hb Rd.out.lt)
  clear hb LB7
  clear Rd
  go_wp2_with fail
  with_reducible refine Calls.mono (lv_same (n := 9) (by omega) (P.out.next ((Below.refl _ _).alloc (Nat.le_refl _) (.cells #[.int .i64 0, .int .i64 2, .int .i64 1, .int .i64 3, .int .i64 0, .int .i64 2, .int .i64 1, .int .i64 3, .int .i64 0] 3))) (lv_lit (w8) [0, 2, 1, 3, 0, 2, 1, 3, 0] #[.int .i64 0, .int .i64 2, .int .i64 1, .int .i64 3, .int .i64 0, .int .i64 2, .int .i64 1, .int .i64 3, .int .i64 0] rfl) dP 9 (fun _ _ => rfl)) ?_
  rintro e w9 ⟨rfl, hb⟩
  have hb := (show Below (w8).heap.size (w8) w9 from ((Below.refl _ _).alloc (Nat.le_refl _) _).trans (hb.mono (by simp)))
  have LB9 := Lib.hid (LB8.out.trans (hb.mono LB8.out.size))
  have P := Lib.hid (P.out.next hb)
  have P2 := Lib.hid (P2.out.next hb)
  have P3 := Lib.hid (P3.out.next hb)
  clear hb LB8
  go_wp2_with fail
  with_reducible refine Calls.mono (lv_same (n := 1) (by omega) (P2.out.next ((Below.refl _ _).alloc (Nat.le_refl _) (.cells #[.int .i64 0] 3))) (lv_lit (w9) [0] #[.int .i64 0] rfl) dP2 1 (fun _ _ => rfl)) ?_
  rintro e w10 ⟨rfl, hb⟩
  have hb := (show Below (w9).heap.size (w9) w10 from ((Below.refl _ _).alloc (Nat.le_refl _) _).trans (hb.mono (by simp)))
  have LB10 := Lib.hid (LB9.out.trans (hb.mono LB9.out.size))
  have P := Lib.hid (P.out.next hb)
  have P2 := Lib.hid (P2.out.next hb)
  have P3 := Lib.hid (P3.out.next hb)
  clear hb LB9
  go_wp2_with fail
  with_reducible refine Calls.mono (lv_same (n := 1) (by omega) (P3.out.next ((Below.refl _ _).alloc (Nat.le_refl _) (.cells #[.int .i64 0] 3))) (lv_lit (w10) [0] #[.int .i64 0] rfl) dP3 1 (fun _ _ => rfl)) ?_
  rintro e w11 ⟨rfl, hb⟩
  have hb := (show Below (w10).heap.size (w10) w11 from ((Below.refl _ _).alloc (Nat.le_refl _) _).trans (hb.mono (by simp)))
  have LB11 := Lib.hid (LB10.out.trans (hb.mono LB10.out.size))
  have P := Lib.hid (P.out.next hb)
  have P2 := Lib.hid (P2.out.next hb)
  have P3 := Lib.hid (P3.out.next hb)
  clear hb LB10
  go_wp2
  go_ret
  exact ⟨rfl, LB11.out⟩
end Go.Proofs.Ytnpgmgaajejhjaa
