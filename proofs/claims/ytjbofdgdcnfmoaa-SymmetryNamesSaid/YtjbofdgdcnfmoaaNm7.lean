/- The statement SymmetryNames: the walk. -/
import Derived.Test.YtjbofdgdcnfmoaaAl7
import Derived.Test.YtjbofdgdcnfmoaaLz
import Derived.Test.YtjbofdgdcnfmoaaVd7
namespace Go.Proofs.Ytjbofdgdcnfmoaa
open Go.RowKit
set_option maxRecDepth 100000
set_option linter.unusedVariables false
set_option linter.unusedSimpArgs false

def rib (i : Nat) : Bool := i == 1 || i == 2 || i == 3
theorem parse_rib (w : World) : Calls Try.prog 69 #[.string ⟨#[120, 46, 46, 10, 46, 120, 120, 10]⟩] w (PG w 3 2 6 rib) := by
  refine (parse_ok ⟨#[120, 46, 46, 10, 46, 120, 120, 10]⟩ 3 2 w (by decide) (by omega) (by omega) (by omega) (by omega) (by decide) ⟨by decide, ?_⟩ (fun W' => ?_)).mono fun e w' ⟨k, he, hk, hr, hb⟩ => ⟨k, he, hk, hr.congr ?_, hb⟩
  · have key : ∀ i (h : i < 8), okAt ⟨#[120, 46, 46, 10, 46, 120, 120, 10]⟩ 3 i h := by unfold okAt; decide +kernel
    exact key
  · exact (Try.strings_IndexByte _ 10 W').mono fun e w' h => by
      refine ⟨?_, h.2⟩
      rw [h.1]
      rfl
  · decide
theorem c7_rib (w : World) : Calls Try.prog 45 #[.string ⟨#[120, 46, 46, 10, 46, 120, 120, 10]⟩] w (CG w 3 2 6 rib) := cloth7_any _ _ _ _ _ (parse_rib) w
def pp1 (i : Nat) : Bool := i == 3 || i == 4
theorem parse_pp1 (w : World) : Calls Try.prog 69 #[.string ⟨#[120, 120, 46, 10, 46, 46, 46, 10]⟩] w (PG w 3 2 6 pp1) := by
  refine (parse_ok ⟨#[120, 120, 46, 10, 46, 46, 46, 10]⟩ 3 2 w (by decide) (by omega) (by omega) (by omega) (by omega) (by decide) ⟨by decide, ?_⟩ (fun W' => ?_)).mono fun e w' ⟨k, he, hk, hr, hb⟩ => ⟨k, he, hk, hr.congr ?_, hb⟩
  · have key : ∀ i (h : i < 8), okAt ⟨#[120, 120, 46, 10, 46, 46, 46, 10]⟩ 3 i h := by unfold okAt; decide +kernel
    exact key
  · exact (Try.strings_IndexByte _ 10 W').mono fun e w' h => by
      refine ⟨?_, h.2⟩
      rw [h.1]
      rfl
  · decide
theorem c7_pp1 (w : World) : Calls Try.prog 45 #[.string ⟨#[120, 120, 46, 10, 46, 46, 46, 10]⟩] w (CG w 3 2 6 pp1) := cloth7_any _ _ _ _ _ (parse_pp1) w
def twj (i : Nat) : Bool := i == 0 || i == 3 || i == 6 || i == 7 || i == 9 || i == 10 || i == 12 || i == 13
theorem parse_twj (w : World) : Calls Try.prog 69 #[.string ⟨#[120, 120, 46, 46, 10, 46, 120, 120, 46, 10, 46, 46, 120, 120, 10, 120, 46, 46, 120, 10]⟩] w (PG w 4 4 16 twj) := by
  refine (parse_ok ⟨#[120, 120, 46, 46, 10, 46, 120, 120, 46, 10, 46, 46, 120, 120, 10, 120, 46, 46, 120, 10]⟩ 4 4 w (by decide) (by omega) (by omega) (by omega) (by omega) (by decide) ⟨by decide, ?_⟩ (fun W' => ?_)).mono fun e w' ⟨k, he, hk, hr, hb⟩ => ⟨k, he, hk, hr.congr ?_, hb⟩
  · have key : ∀ i (h : i < 20), okAt ⟨#[120, 120, 46, 46, 10, 46, 120, 120, 46, 10, 46, 46, 120, 120, 10, 120, 46, 46, 120, 10]⟩ 4 i h := by unfold okAt; decide +kernel
    exact key
  · exact (Try.strings_IndexByte _ 10 W').mono fun e w' h => by
      refine ⟨?_, h.2⟩
      rw [h.1]
      rfl
  · decide
theorem c7_twj (w : World) : Calls Try.prog 45 #[.string ⟨#[120, 120, 46, 46, 10, 46, 120, 120, 46, 10, 46, 46, 120, 120, 10, 120, 46, 46, 120, 10]⟩] w (CG w 4 4 16 twj) := cloth7_any _ _ _ _ _ (parse_twj) w
def cc7 (i : Nat) : Bool := i == 1 || i == 2 || i == 3 || i == 5 || i == 6 || i == 7
theorem parse_cc7 (w : World) : Calls Try.prog 69 #[.string ⟨#[120, 120, 10, 46, 120, 10, 120, 120, 10, 46, 120, 10]⟩] w (PG w 2 4 8 cc7) := by
  refine (parse_ok ⟨#[120, 120, 10, 46, 120, 10, 120, 120, 10, 46, 120, 10]⟩ 2 4 w (by decide) (by omega) (by omega) (by omega) (by omega) (by decide) ⟨by decide, ?_⟩ (fun W' => ?_)).mono fun e w' ⟨k, he, hk, hr, hb⟩ => ⟨k, he, hk, hr.congr ?_, hb⟩
  · have key : ∀ i (h : i < 12), okAt ⟨#[120, 120, 10, 46, 120, 10, 120, 120, 10, 46, 120, 10]⟩ 2 i h := by unfold okAt; decide +kernel
    exact key
  · exact (Try.strings_IndexByte _ 10 W').mono fun e w' h => by
      refine ⟨?_, h.2⟩
      rw [h.1]
      rfl
  · decide
theorem c7_cc7 (w : World) : Calls Try.prog 45 #[.string ⟨#[120, 120, 10, 46, 120, 10, 120, 120, 10, 46, 120, 10]⟩] w (CG w 2 4 8 cc7) := cloth7_any _ _ _ _ _ (parse_cc7) w
def ff7 (i : Nat) : Bool := i == 3
theorem parse_ff7 (w : World) : Calls Try.prog 69 #[.string ⟨#[46, 120, 10, 46, 46, 10]⟩] w (PG w 2 2 4 ff7) := by
  refine (parse_ok ⟨#[46, 120, 10, 46, 46, 10]⟩ 2 2 w (by decide) (by omega) (by omega) (by omega) (by omega) (by decide) ⟨by decide, ?_⟩ (fun W' => ?_)).mono fun e w' ⟨k, he, hk, hr, hb⟩ => ⟨k, he, hk, hr.congr ?_, hb⟩
  · have key : ∀ i (h : i < 6), okAt ⟨#[46, 120, 10, 46, 46, 10]⟩ 2 i h := by unfold okAt; decide +kernel
    exact key
  · exact (Try.strings_IndexByte _ 10 W').mono fun e w' h => by
      refine ⟨?_, h.2⟩
      rw [h.1]
      rfl
  · decide
theorem c7_ff7 (w : World) : Calls Try.prog 45 #[.string ⟨#[46, 120, 10, 46, 46, 10]⟩] w (CG w 2 2 4 ff7) := cloth7_any _ _ _ _ _ (parse_ff7) w
theorem nall (v : World) (k : Nat) (hr : Row v k 6 rib) : Calls Try.prog 46 #[.agg #[.int .i64 3, .int .i64 2, .slice (some ⟨k, 0, none⟩) 6 6]] v (LOut v 8 (lf [0, 1, 2, 3, 8, 9, 10, 11]) 0) := by
  exact pall_is (G := ⟨3, 2, rib⟩) (okn _ (by decide)) (l := [0, 1, 2, 3, 8, 9, 10, 11]) (ofl_dec (okn _ (by decide)) (okn _ (by decide)) (by decide +kernel)) (by decide) k 6 v hr (Nat.le_refl _)
def ap13 (i : Nat) : Bool := i == 0 || i == 1 || i == 2 || i == 4
theorem nap (v : World) (k : Nat) (hr : Row v k 6 pp1) : Calls Try.prog 47 #[.agg #[.int .i64 3, .int .i64 2, .slice (some ⟨k, 0, none⟩) 6 6], .int .i64 13] v (fun e w' => ∃ j d, e = .returned (.tuple #[.agg #[.int .i64 2, .int .i64 3, .slice (some ⟨j, 0, none⟩) 6 d], .int .i64 0]) ∧ Row w' j 6 ap13 ∧ Below v.heap.size v w') := by
  refine (papn_row ⟨3, 2, pp1⟩ ⟨okn _ (by decide), by decide, by decide⟩ k 6 13 (by omega) v hr).mono ?_
  rintro e w' ⟨j, d, h1, _, _, h4, h5⟩
  exact ⟨j, d, h1, (show Row w' j 6 ((⟨3, 2, pp1⟩ : GD).ap 13).f from h4).congr (by decide +kernel), h5⟩
theorem nhas8 (v : World) (k : Nat) (hr : Row v k 16 twl) : Calls Try.prog 48 #[.agg #[.int .i64 4, .int .i64 4, .slice (some ⟨k, 0, none⟩) 16 16], .int .i64 8] v (fun e w' => e = .returned (.tuple #[.bool true, .agg #[.int .i64 2, .int .i64 0], .int .i64 0]) ∧ Below v.heap.size v w') := by
  exact phas_is (G := ⟨4, 4, twl⟩) (okn _ (by decide)) (m := 8) (by omega) (show FOut2 4 4 twl ((⟨4, 4, twl⟩ : GD).ap 8).W ((⟨4, 4, twl⟩ : GD).ap 8).H ((⟨4, 4, twl⟩ : GD).ap 8).f 2 0 0 from .inl ⟨2, 0, FO.of (by decide) (by decide) (by decide) (by decide) (by decide +kernel), rfl, rfl, rfl⟩) (by decide) k 16 v hr (Nat.le_refl _)
theorem nhas1 (v : World) (k : Nat) (hr : Row v k 16 twl) : Calls Try.prog 48 #[.agg #[.int .i64 4, .int .i64 4, .slice (some ⟨k, 0, none⟩) 16 16], .int .i64 1] v (fun e w' => e = .returned (.tuple #[.bool false, .agg #[.int .i64 0, .int .i64 0], .int .i64 0]) ∧ Below v.heap.size v w') := by
  exact phas_is (G := ⟨4, 4, twl⟩) (okn _ (by decide)) (m := 1) (by omega) (show FOut2 4 4 twl ((⟨4, 4, twl⟩ : GD).ap 1).W ((⟨4, 4, twl⟩ : GD).ap 1).H ((⟨4, 4, twl⟩ : GD).ap 1).f 0 0 6 from .inr ⟨no_of (by decide) (by decide) (by decide) (by decide) (by decide +kernel), rfl, rfl, rfl⟩) (by decide) k 16 v hr (Nat.le_refl _)
theorem nalk (v : World) (k j : Nat) (hr : Row v k 16 twl) (hs : Row v j 16 twj) : Calls Try.prog 50 #[.agg #[.int .i64 4, .int .i64 4, .slice (some ⟨k, 0, none⟩) 16 16], .agg #[.int .i64 4, .int .i64 4, .slice (some ⟨j, 0, none⟩) 16 16]] v (LOut v 8 (lf [1, 2, 5, 6, 9, 10, 13, 14]) 0) := by
  exact palk_is (G := ⟨4, 4, twl⟩) (K := ⟨4, 4, twj⟩) (okn _ (by decide)) (okn _ (by decide)) (l := [1, 2, 5, 6, 9, 10, 13, 14]) (ofl_dec (okn _ (by decide)) (okn _ (by decide)) (by decide +kernel)) (by decide) k j 16 16 v hr hs (Nat.le_refl _) (Nat.le_refl _)
theorem nle (v : World) (k : Nat) (hr : Row v k 8 cc7) : Calls Try.prog 51 #[.agg #[.int .i64 2, .int .i64 4, .slice (some ⟨k, 0, none⟩) 8 8]] v (fun e w' => ∃ j d, e = .returned (.tuple #[.agg #[.int .i64 2, .int .i64 2, .slice (some ⟨j, 0, none⟩) 4 d], .int .i64 8, .int .i64 0]) ∧ Row w' j 4 ff7 ∧ Below v.heap.size v w') := by
  refine (ple_is (G := ⟨2, 4, cc7⟩) (okn _ (by decide)) (best_of (L := fun _ => (2, 0, 2)) (a := 8) (x0 := 1) (y0 := 1) (by decide +kernel)) (by decide) k 8 v hr).mono ?_
  rintro e w' ⟨j, d, h1, h2, h3⟩
  exact ⟨j, d, h1, (show Row w' j 4 _ from h2).congr (by decide +kernel), h3⟩
theorem ntx (v : World) (j d : Nat) (hr : Row v j 6 ap13) : Calls Try.prog 52 #[.agg #[.int .i64 2, .int .i64 3, .slice (some ⟨j, 0, none⟩) 6 d]] v (fun e w' => e = .returned (.tuple #[.string ⟨#[120, 46, 10, 120, 46, 10, 120, 120, 10]⟩, .int .i64 0]) ∧ Below v.heap.size v w') := by
  have h := text_ok 2 3 (some ⟨j, 0, none⟩) d ap13 v (hr.holds hr.lt) (by omega) (by omega) (by omega) (by omega)
  have e : (⟨(rowsT 2 3 ap13 3).toArray⟩ : ByteArray) = ⟨#[120, 46, 10, 120, 46, 10, 120, 120, 10]⟩ := by decide +kernel
  rw [e] at h
  exact h
theorem nsame (v : World) (j k d : Nat) (hr : Row v j 4 ff7) (hs : Row v k 4 ff7) : Calls Try.prog 39 #[.agg #[.int .i64 2, .int .i64 2, .slice (some ⟨j, 0, none⟩) 4 d], .agg #[.int .i64 2, .int .i64 2, .slice (some ⟨k, 0, none⟩) 4 4]] v (fun e w' => e = .returned (.bool true) ∧ Below v.heap.size v w') := by
  exact rsame_self 2 2 _ _ 4 d 4 ff7 v (by omega) (hr.holds hr.lt) (hs.holds hs.lt)
theorem nbig (v : World) (k : Nat) : Calls Try.prog 46 #[.agg #[.int .i64 17, .int .i64 1, .slice (some ⟨k, 0, none⟩) 17 17]] v (LOut v 0 (lf []) 4) := by
  exact pall_any 17 1 (some ⟨k, 0, none⟩) 17 17 v 0 (lf []) 4 fun u _ => palk_err 17 1 (some ⟨k, 0, none⟩) 17 17 17 1 (some ⟨k, 0, none⟩) 17 17 u (by omega) (by omega) 4 (by decide) (by decide) (lf [])
theorem nap16 (v : World) (k : Nat) : Calls Try.prog 47 #[.agg #[.int .i64 4, .int .i64 4, .slice (some ⟨k, 0, none⟩) 16 16], .int .i64 16] v (fun e w' => ∃ A d, e = .returned (.tuple #[.agg #[.int .i64 0, .int .i64 0, .slice A 0 d], .int .i64 2]) ∧ Below v.heap.size v w') := by
  exact (papply_arg 4 4 (some ⟨k, 0, none⟩) 16 16 16 v (by omega) (by decide) (by omega)).mono fun e w' ⟨A, d, h1, _, h3⟩ => ⟨A, d, h1, h3⟩
theorem nap0 (v : World) : Calls Try.prog 47 #[.agg #[.int .i64 0, .int .i64 0, .slice none 0 0], .int .i64 0] v (fun e w' => ∃ A d, e = .returned (.tuple #[.agg #[.int .i64 0, .int .i64 0, .slice A 0 d], .int .i64 8]) ∧ Below v.heap.size v w') := by
  exact (papply_err 0 0 none 0 0 0 v (by omega) 8 (by decide) (by decide)).mono fun e w' ⟨A, d, h1, _, h3⟩ => ⟨A, d, h1, h3⟩
theorem ncm1 (v : World) : Calls Try.prog 54 #[.int .i64 (-1), .int .i64 0] v (NOut 0 2 v) := by
  exact pcomp_arg (-1) 0 v (by omega)
theorem ncm2 (v : World) : Calls Try.prog 54 #[.int .i64 0, .int .i64 16] v (NOut 0 2 v) := by
  exact pcomp_arg 0 16 v (by omega)
theorem niv (v : World) : Calls Try.prog 55 #[.int .i64 16] v (NOut 0 2 v) := by
  exact pinv_arg 16 v (by omega)
theorem nalb (v : World) (k : Nat) : Calls Try.prog 50 #[.agg #[.int .i64 17, .int .i64 1, .slice (some ⟨k, 0, none⟩) 17 17], .agg #[.int .i64 0, .int .i64 0, .slice none 0 0]] v (LOut v 0 (lf []) 8) := by
  exact palk_err 17 1 (some ⟨k, 0, none⟩) 17 17 0 0 none 0 0 v (by omega) (by omega) 8 (by decide) (by decide) (lf [])
theorem nhasm (v : World) (k : Nat) : Calls Try.prog 48 #[.agg #[.int .i64 4, .int .i64 4, .slice (some ⟨k, 0, none⟩) 16 16], .int .i64 (-1)] v (fun e w' => e = .returned (.tuple #[.bool false, .agg #[.int .i64 0, .int .i64 0], .int .i64 2]) ∧ Below v.heap.size v w') := by
  exact phas_arg 4 4 (some ⟨k, 0, none⟩) 16 16 (-1) v (by omega) (by decide) (by omega)
theorem nleb (v : World) (k : Nat) : Calls Try.prog 51 #[.agg #[.int .i64 17, .int .i64 1, .slice (some ⟨k, 0, none⟩) 17 17]] v (fun e w' => e = .returned (.tuple #[.agg #[.int .i64 0, .int .i64 0, .slice none 0 0], .int .i64 0, .int .i64 4]) ∧ Below v.heap.size v w') := by
  exact ple_err 17 1 (some ⟨k, 0, none⟩) 17 17 v (by omega) 4 (by decide) (by decide)
theorem mk17 : ∀ v : World, (Instr.makeSlice 22 (.int .i64 17) (.int .i64 17)).run Try.prog v = .ok (.slice (some ⟨v.heap.size, 0, none⟩) 17 17) (v.alloc (.cells (madeCells #[.bool false] 17) 4)) := mkn_run 17 (by omega)
set_option maxHeartbeats 6400000 in
theorem names7_any (w : World) : Calls Try.prog 10 #[] w fun e w' => e = .returned (.bool true) ∧ Below w.heap.size w w' := by
  have LB0 := Lib.hid (Below.refl w.heap.size w)
  go_enter Try.func10, Try.ntmps10
  go_wp2_with fail
  refine (c7_rib _).mono ?_
  rintro e w1 ⟨ka, rfl, hk, hrow, hb⟩
  have hba := (show Below _ _ (w1.alloc (.cells #[.int .i64 3, .int .i64 2, .slice (some ⟨ka, 0, none⟩) 6 6] 24)) from hb.trans (((Below.refl _ _).alloc (Nat.le_refl _) _).mono hb.size))
  have Va1 := Lib.hid (Box.new w1 3 2 (.slice (some ⟨ka, 0, none⟩) 6 6))
  have Ra1 := Lib.hid (hrow.alloc (.cells #[.int .i64 3, .int .i64 2, .slice (some ⟨ka, 0, none⟩) 6 6] 24))
  clear hb hk hrow
  have LB1 := Lib.hid (LB0.out.trans (hba.mono LB0.out.size))
  clear hba LB0
  obtain ⟨q0, q1, q2, q3, q4, q5, q6⟩ := Va1.out.all
  go_wp2_with fail
  clear q0 q1 q2 q3 q4 q5 q6
  refine (nall _ ka Ra1.out).mono ?_
  rintro e w2 ⟨D1, c1, rfl, hr, hb⟩
  have La2 := Lib.hid (LV.of hr)
  clear hr
  have LB2 := Lib.hid (LB1.out.trans (hb.mono LB1.out.size))
  have Va2 := Lib.hid (Va1.out.below hb Va1.out.lt)
  have Ra2 := Lib.hid (Ra1.out.below hb Ra1.out.lt)
  clear hb LB1 Va1 Ra1
  clear Va2
  clear Ra2
  go_wp2_with fail
  refine (c7_pp1 _).mono ?_
  rintro e w3 ⟨kb, rfl, hk, hrow, hb⟩
  have Ckb3 := Lib.hid (hrow)
  clear hk hrow
  have LB3 := Lib.hid (LB2.out.trans (hb.mono LB2.out.size))
  have La3 := Lib.hid (La2.out.next hb)
  clear hb LB2 La2
  go_wp2_with fail
  refine (nap _ kb Ckb3.out).mono ?_
  rintro e w4 ⟨j1, d1, rfl, hrow, hb⟩
  have hba := (show Below _ _ (w4.alloc (.cells #[.int .i64 2, .int .i64 3, .slice (some ⟨j1, 0, none⟩) 6 d1] 24)) from hb.trans (((Below.refl _ _).alloc (Nat.le_refl _) _).mono hb.size))
  have Vb4 := Lib.hid (Box.new w4 2 3 (.slice (some ⟨j1, 0, none⟩) 6 d1))
  have Rb4 := Lib.hid (hrow.alloc (.cells #[.int .i64 2, .int .i64 3, .slice (some ⟨j1, 0, none⟩) 6 d1] 24))
  clear hb hrow
  have LB4 := Lib.hid (LB3.out.trans (hba.mono LB3.out.size))
  have La4 := Lib.hid (La3.out.next hba)
  have Ckb4 := Lib.hid (Ckb3.out.below hba Ckb3.out.lt)
  clear hba LB3 La3 Ckb3
  clear Ckb4
  go_wp2_with fail
  refine (twill_any _).mono ?_
  rintro e w5 ⟨kc, rfl, hk, hrow, hb⟩
  have Ckc5 := Lib.hid (hrow)
  clear hk hrow
  have LB5 := Lib.hid (LB4.out.trans (hb.mono LB4.out.size))
  have La5 := Lib.hid (La4.out.next hb)
  have Vb5 := Lib.hid (Vb4.out.below hb Vb4.out.lt)
  have Rb5 := Lib.hid (Rb4.out.below hb Rb4.out.lt)
  clear hb LB4 La4 Vb4 Rb4
  go_wp2_with fail
  refine (nhas8 _ kc Ckc5.out).mono ?_
  rintro e w6 ⟨rfl, hb⟩
  have hba := (show Below _ _ (w6.alloc (.cells #[.int .i64 2, .int .i64 0] 40)) from hb.trans (((Below.refl _ _).alloc (Nat.le_refl _) _).mono hb.size))
  have Pa6 := Lib.hid (Pt.new w6 2 0)
  clear hb
  have LB6 := Lib.hid (LB5.out.trans (hba.mono LB5.out.size))
  have La6 := Lib.hid (La5.out.next hba)
  have Vb6 := Lib.hid (Vb5.out.below hba Vb5.out.lt)
  have Rb6 := Lib.hid (Rb5.out.below hba Rb5.out.lt)
  have Ckc6 := Lib.hid (Ckc5.out.below hba Ckc5.out.lt)
  clear hba LB5 La5 Vb5 Rb5 Ckc5
  clear Ckc6
  go_wp2_with fail
  refine (twill_any _).mono ?_
  rintro e w7 ⟨kd, rfl, hk, hrow, hb⟩
  have Ckd7 := Lib.hid (hrow)
  clear hk hrow
  have LB7 := Lib.hid (LB6.out.trans (hb.mono LB6.out.size))
  have La7 := Lib.hid (La6.out.next hb)
  have Vb7 := Lib.hid (Vb6.out.below hb Vb6.out.lt)
  have Rb7 := Lib.hid (Rb6.out.below hb Rb6.out.lt)
  have Pa7 := Lib.hid (Pa6.out.below hb Pa6.out.lt)
  clear hb LB6 La6 Vb6 Rb6 Pa6
  go_wp2_with fail
  refine (nhas1 _ kd Ckd7.out).mono ?_
  rintro e w8 ⟨rfl, hb⟩
  have hba := (show Below _ _ (w8.alloc (.cells #[.int .i64 0, .int .i64 0] 40)) from hb.trans (((Below.refl _ _).alloc (Nat.le_refl _) _).mono hb.size))
  have Pb8 := Lib.hid (Pt.new w8 0 0)
  clear hb
  have LB8 := Lib.hid (LB7.out.trans (hba.mono LB7.out.size))
  have La8 := Lib.hid (La7.out.next hba)
  have Vb8 := Lib.hid (Vb7.out.below hba Vb7.out.lt)
  have Rb8 := Lib.hid (Rb7.out.below hba Rb7.out.lt)
  have Pa8 := Lib.hid (Pa7.out.below hba Pa7.out.lt)
  have Ckd8 := Lib.hid (Ckd7.out.below hba Ckd7.out.lt)
  clear hba LB7 La7 Vb7 Rb7 Pa7 Ckd7
  clear Ckd8
  go_wp2_with fail
  refine (twill_any _).mono ?_
  rintro e w9 ⟨ke, rfl, hk, hrow, hb⟩
  have Cke9 := Lib.hid (hrow)
  clear hk hrow
  have LB9 := Lib.hid (LB8.out.trans (hb.mono LB8.out.size))
  have La9 := Lib.hid (La8.out.next hb)
  have Vb9 := Lib.hid (Vb8.out.below hb Vb8.out.lt)
  have Rb9 := Lib.hid (Rb8.out.below hb Rb8.out.lt)
  have Pa9 := Lib.hid (Pa8.out.below hb Pa8.out.lt)
  have Pb9 := Lib.hid (Pb8.out.below hb Pb8.out.lt)
  clear hb LB8 La8 Vb8 Rb8 Pa8 Pb8
  go_wp2_with fail
  refine (c7_twj _).mono ?_
  rintro e w10 ⟨kf, rfl, hk, hrow, hb⟩
  have Ckf10 := Lib.hid (hrow)
  clear hk hrow
  have LB10 := Lib.hid (LB9.out.trans (hb.mono LB9.out.size))
  have La10 := Lib.hid (La9.out.next hb)
  have Vb10 := Lib.hid (Vb9.out.below hb Vb9.out.lt)
  have Rb10 := Lib.hid (Rb9.out.below hb Rb9.out.lt)
  have Pa10 := Lib.hid (Pa9.out.below hb Pa9.out.lt)
  have Pb10 := Lib.hid (Pb9.out.below hb Pb9.out.lt)
  have Cke10 := Lib.hid (Cke9.out.below hb Cke9.out.lt)
  clear hb LB9 La9 Vb9 Rb9 Pa9 Pb9 Cke9
  go_wp2_with fail
  refine (nalk _ ke kf Cke10.out Ckf10.out).mono ?_
  rintro e w11 ⟨D2, c2, rfl, hr, hb⟩
  have Lb11 := Lib.hid (LV.of hr)
  clear hr
  have LB11 := Lib.hid (LB10.out.trans (hb.mono LB10.out.size))
  have La11 := Lib.hid (La10.out.next hb)
  have Vb11 := Lib.hid (Vb10.out.below hb Vb10.out.lt)
  have Rb11 := Lib.hid (Rb10.out.below hb Rb10.out.lt)
  have Pa11 := Lib.hid (Pa10.out.below hb Pa10.out.lt)
  have Pb11 := Lib.hid (Pb10.out.below hb Pb10.out.lt)
  have Cke11 := Lib.hid (Cke10.out.below hb Cke10.out.lt)
  have Ckf11 := Lib.hid (Ckf10.out.below hb Ckf10.out.lt)
  clear hb LB10 La10 Vb10 Rb10 Pa10 Pb10 Cke10 Ckf10
  clear Cke11
  clear Ckf11
  go_wp2_with fail
  refine (c7_cc7 _).mono ?_
  rintro e w12 ⟨kg, rfl, hk, hrow, hb⟩
  have Ckg12 := Lib.hid (hrow)
  clear hk hrow
  have LB12 := Lib.hid (LB11.out.trans (hb.mono LB11.out.size))
  have La12 := Lib.hid (La11.out.next hb)
  have Vb12 := Lib.hid (Vb11.out.below hb Vb11.out.lt)
  have Rb12 := Lib.hid (Rb11.out.below hb Rb11.out.lt)
  have Pa12 := Lib.hid (Pa11.out.below hb Pa11.out.lt)
  have Pb12 := Lib.hid (Pb11.out.below hb Pb11.out.lt)
  have Lb12 := Lib.hid (Lb11.out.next hb)
  clear hb LB11 La11 Vb11 Rb11 Pa11 Pb11 Lb11
  go_wp2_with fail
  refine (nle _ kg Ckg12.out).mono ?_
  rintro e w13 ⟨j2, d2, rfl, hrow, hb⟩
  have hba := (show Below _ _ (w13.alloc (.cells #[.int .i64 2, .int .i64 2, .slice (some ⟨j2, 0, none⟩) 4 d2] 24)) from hb.trans (((Below.refl _ _).alloc (Nat.le_refl _) _).mono hb.size))
  have Vc13 := Lib.hid (Box.new w13 2 2 (.slice (some ⟨j2, 0, none⟩) 4 d2))
  have Rc13 := Lib.hid (hrow.alloc (.cells #[.int .i64 2, .int .i64 2, .slice (some ⟨j2, 0, none⟩) 4 d2] 24))
  clear hb hrow
  have LB13 := Lib.hid (LB12.out.trans (hba.mono LB12.out.size))
  have La13 := Lib.hid (La12.out.next hba)
  have Vb13 := Lib.hid (Vb12.out.below hba Vb12.out.lt)
  have Rb13 := Lib.hid (Rb12.out.below hba Rb12.out.lt)
  have Pa13 := Lib.hid (Pa12.out.below hba Pa12.out.lt)
  have Pb13 := Lib.hid (Pb12.out.below hba Pb12.out.lt)
  have Lb13 := Lib.hid (Lb12.out.next hba)
  have Ckg13 := Lib.hid (Ckg12.out.below hba Ckg12.out.lt)
  clear hba LB12 La12 Vb12 Rb12 Pa12 Pb12 Lb12 Ckg12
  clear Ckg13
  obtain ⟨q0, q1, q2, q3, q4, q5, q6⟩ := Vb13.out.all
  go_wp2_with fail
  clear q0 q1 q2 q3 q4 q5 q6
  refine (ntx _ j1 d1 Rb13.out).mono ?_
  rintro e w14 ⟨rfl, hb⟩
  have LB14 := Lib.hid (LB13.out.trans (hb.mono LB13.out.size))
  have La14 := Lib.hid (La13.out.next hb)
  have Vb14 := Lib.hid (Vb13.out.below hb Vb13.out.lt)
  have Rb14 := Lib.hid (Rb13.out.below hb Rb13.out.lt)
  have Pa14 := Lib.hid (Pa13.out.below hb Pa13.out.lt)
  have Pb14 := Lib.hid (Pb13.out.below hb Pb13.out.lt)
  have Lb14 := Lib.hid (Lb13.out.next hb)
  have Vc14 := Lib.hid (Vc13.out.below hb Vc13.out.lt)
  have Rc14 := Lib.hid (Rc13.out.below hb Rc13.out.lt)
  clear hb LB13 La13 Vb13 Rb13 Pa13 Pb13 Lb13 Vc13 Rc13
  clear Vb14
  clear Rb14
  go_upto_region 9 with fail
  obtain ⟨ga, hga⟩ : ∃ gv, w6.heap.size = gv := ⟨_, rfl⟩
  obtain ⟨gb, hgb⟩ : ∃ gv, w8.heap.size = gv := ⟨_, rfl⟩
  obtain ⟨gv, hgv⟩ : ∃ gv, w13.heap.size = gv := ⟨_, rfl⟩
  simp only [hga, hgb, hgv] at Pa14 Pb14 Vc14 ⊢
  clear hga hgb hgv
  generalize w14 = u0 at *
  go_cut [19] (fun v wx => v = .bool true ∧ Below u0.heap.size u0 wx)
  case first =>
    have HS : Hid (∀ w', Below u0.heap.size u0 w' → w'.cell? ⟨ga, 0, none⟩ = some (.int .i64 2) ∧ w'.cell? ⟨ga, 1, none⟩ = some (.int .i64 0) ∧ w'.cell? ⟨gb, 0, none⟩ = some (.int .i64 0) ∧ w'.cell? ⟨gb, 1, none⟩ = some (.int .i64 0) ∧ w'.cell? ⟨gv, 0, none⟩ = some (.int .i64 2) ∧ w'.cell? ⟨gv, 1, none⟩ = some (.int .i64 2) ∧ w'.cell? ⟨gv, 2, none⟩ = some (.slice (some ⟨j2, 0, none⟩) 4 d2)) := Lib.hid (fun w' h => ⟨(Pa14.out.below h Pa14.out.lt).all.1, (Pa14.out.below h Pa14.out.lt).all.2.1, (Pb14.out.below h Pb14.out.lt).all.1, (Pb14.out.below h Pb14.out.lt).all.2.1, (Vc14.out.below h Vc14.out.lt).c0, (Vc14.out.below h Vc14.out.lt).c1, (Vc14.out.below h Vc14.out.lt).c2⟩)
    have hbz := Lib.hid (show Below u0.heap.size u0 (u0.alloc (.cells #[.int .i64 0, .int .i64 1, .int .i64 2, .int .i64 3, .int .i64 8, .int .i64 9, .int .i64 10, .int .i64 11] 3)).drew from ((Below.refl u0.heap.size u0).alloc (Nat.le_refl _) _).drew)
    have HA := Lib.hid (show Calls Try.prog 53 #[.slice D1 8 c1, .slice (some ⟨u0.heap.size, 0, none⟩) 8 8] (u0.alloc (.cells #[.int .i64 0, .int .i64 1, .int .i64 2, .int .i64 3, .int .i64 8, .int .i64 9, .int .i64 10, .int .i64 11] 3)).drew fun e w' => e = .returned (.bool true) ∧ Below (u0.alloc (.cells #[.int .i64 0, .int .i64 1, .int .i64 2, .int .i64 3, .int .i64 8, .int .i64 9, .int .i64 10, .int .i64 11] 3)).heap.size (u0.alloc (.cells #[.int .i64 0, .int .i64 1, .int .i64 2, .int .i64 3, .int .i64 8, .int .i64 9, .int .i64 10, .int .i64 11] 3)).drew w' from
      lv_same (by omega) (La14.out.next hbz.out) ((lv_lit u0 [0, 1, 2, 3, 8, 9, 10, 11] #[.int .i64 0, .int .i64 1, .int .i64 2, .int .i64 3, .int .i64 8, .int .i64 9, .int .i64 10, .int .i64 11] rfl).next (Below.refl _ _).drew) c1 8 (by decide))
    have HA2 := Lib.hid (fun u (h : Below u0.heap.size u0 u) => (show Calls Try.prog 53 #[.slice D2 8 c2, .slice (some ⟨u.heap.size, 0, none⟩) 8 8] (u.alloc (.cells #[.int .i64 1, .int .i64 2, .int .i64 5, .int .i64 6, .int .i64 9, .int .i64 10, .int .i64 13, .int .i64 14] 3)) fun e w' => e = .returned (.bool true) ∧ Below (u.alloc (.cells #[.int .i64 1, .int .i64 2, .int .i64 5, .int .i64 6, .int .i64 9, .int .i64 10, .int .i64 13, .int .i64 14] 3)).heap.size (u.alloc (.cells #[.int .i64 1, .int .i64 2, .int .i64 5, .int .i64 6, .int .i64 9, .int .i64 10, .int .i64 13, .int .i64 14] 3)) w' from
      lv_same (by omega) (Lb14.out.next (blA h (Nat.le_refl _) _)) (lv_lit u [1, 2, 5, 6, 9, 10, 13, 14] #[.int .i64 1, .int .i64 2, .int .i64 5, .int .i64 6, .int .i64 9, .int .i64 10, .int .i64 13, .int .i64 14] rfl) c2 8 (by decide)))
    have hsz : u0.heap.size ≤ (u0.alloc (.cells #[.int .i64 0, .int .i64 1, .int .i64 2, .int .i64 3, .int .i64 8, .int .i64 9, .int .i64 10, .int .i64 11] 3)).heap.size := by simp
    have HR := Lib.hid (fun u (h : Below u0.heap.size u0 u) => Rc14.out.below h Rc14.out.lt)
    dsimp only [List.append]
    go_region_held3 (fun w' => w'.cell? ⟨ga, 0, none⟩ = some (.int .i64 2) ∧ w'.cell? ⟨ga, 1, none⟩ = some (.int .i64 0) ∧ w'.cell? ⟨gb, 0, none⟩ = some (.int .i64 0) ∧ w'.cell? ⟨gb, 1, none⟩ = some (.int .i64 0) ∧ w'.cell? ⟨gv, 0, none⟩ = some (.int .i64 2) ∧ w'.cell? ⟨gv, 1, none⟩ = some (.int .i64 2) ∧ w'.cell? ⟨gv, 2, none⟩ = some (.slice (some ⟨j2, 0, none⟩) 4 d2))
      (exact HS.out _ (by (repeat' (first | assumption | exact Below.refl _ _ | refine Below.drew ?_ | refine blA ?_ (Nat.le_refl _) _))))
      (first
        | (go_at_call 53
           with_reducible refine Calls.mono HA.out ?_
           rintro e u1 ⟨rfl, hb⟩
           have hb7 : Below u0.heap.size u0 u1 := hbz.out.trans (hb.mono hsz))
        | (go_at_call 53
           with_reducible refine Calls.mono (HA2.out _ hb7) ?_
           rintro e u2 ⟨rfl, hbq⟩
           have hb8 : Below u0.heap.size u0 u2 := blT (blA hb7 (Nat.le_refl _) _) (Nat.le_refl _) hbq)
        | (go_at_call 45
           with_reducible refine Calls.mono (c7_ff7 _) ?_
           rintro e u3 ⟨kd, rfl, hk, hrow, hbk⟩
           have hb9 : Below u0.heap.size u0 u3 := hb8.trans (hbk.mono hb8.size)
           have HRd := Lib.hid hrow)
        | (go_at_call 39
           with_reducible refine Calls.mono (nsame _ j2 kd d2 (HR.out _ hb9) HRd.out) ?_
           rintro e u4 ⟨rfl, hbs⟩
           have hb10 : Below u0.heap.size u0 u4 := hb9.trans (hbs.mono hb9.size)))
    all_goals
      go_wp2_with fail
      go_meet
      exact ⟨rfl, hb10⟩
  case rest =>
    obtain ⟨rfl, hb⟩ := hcut
    rename World => w15
    have LB15 := Lib.hid (LB14.out.trans (hb.mono LB14.out.size))
    clear hb Pa14 Pb14 Vc14 Rc14 La14 Lb14 LB14
    have hmk := mk17
    have hbm := (show Below w15.heap.size w15 (w15.alloc (.cells (madeCells #[.bool false] 17) 4)) from (Below.refl _ _).alloc (Nat.le_refl _) _)
    have hbn := hbm.trans (((Below.refl _ _).alloc (Nat.le_refl _) (.cells #[.int .i64 17, .int .i64 1, .slice (some ⟨w15.heap.size, 0, none⟩) 17 17] 24)).mono hbm.size)
    have Vg0 := Lib.hid (show Box ((w15.alloc (.cells (madeCells #[.bool false] 17) 4)).alloc (.cells #[.int .i64 17, .int .i64 1, .slice (some ⟨w15.heap.size, 0, none⟩) 17 17] 24)) (w15.heap.size + 1) 17 1 (.slice (some ⟨w15.heap.size, 0, none⟩) 17 17) from by have h := Box.new (w15.alloc (.cells (madeCells #[.bool false] 17) 4)) 17 1 (.slice (some ⟨w15.heap.size, 0, none⟩) 17 17); rwa [World.size_alloc] at h)
    have LBx := Lib.hid (LB15.out.trans (hbn.mono LB15.out.size))
    clear hbm hbn LB15
    obtain ⟨q0, q1, q2, q3, q4, q5, q6⟩ := Vg0.out.all
    go_wp2_with fail
    clear q0 q1 q2 q3 q4 q5 q6 hmk
    refine (nbig _ _).mono ?_
    rintro e w16 ⟨D3, c3, rfl, _, hb⟩
    have LB16 := Lib.hid (LBx.out.trans (hb.mono LBx.out.size))
    have Vg16 := Lib.hid (Vg0.out.below hb Vg0.out.lt)
    clear hb LBx Vg0
    go_wp2_with fail
    refine (twill_any _).mono ?_
    rintro e w17 ⟨ki, rfl, hk, hrow, hb⟩
    have Cki17 := Lib.hid (hrow)
    clear hk hrow
    have LB17 := Lib.hid (LB16.out.trans (hb.mono LB16.out.size))
    have Vg17 := Lib.hid (Vg16.out.below hb Vg16.out.lt)
    clear hb LB16 Vg16
    go_wp2_with fail
    refine (nap16 _ ki).mono ?_
    rintro e w18 ⟨A4, d4, rfl, hb⟩
    have hba := (show Below _ _ (w18.alloc (.cells #[.int .i64 0, .int .i64 0, .slice A4 0 d4] 24)) from hb.trans (((Below.refl _ _).alloc (Nat.le_refl _) _).mono hb.size))
    clear hb
    have LB18 := Lib.hid (LB17.out.trans (hba.mono LB17.out.size))
    have Vg18 := Lib.hid (Vg17.out.below hba Vg17.out.lt)
    have Cki18 := Lib.hid (Cki17.out.below hba Cki17.out.lt)
    clear hba LB17 Vg17 Cki17
    clear Cki18
    go_wp2_with fail
    refine (nap0 _).mono ?_
    rintro e w19 ⟨A5, d5, rfl, hb⟩
    have hba := (show Below _ _ (w19.alloc (.cells #[.int .i64 0, .int .i64 0, .slice A5 0 d5] 24)) from hb.trans (((Below.refl _ _).alloc (Nat.le_refl _) _).mono hb.size))
    clear hb
    have LB19 := Lib.hid (LB18.out.trans (hba.mono LB18.out.size))
    have Vg19 := Lib.hid (Vg18.out.below hba Vg18.out.lt)
    clear hba LB18 Vg18
    go_wp2_with fail
    refine (ncm1 _).mono ?_
    rintro e w20 ⟨rfl, hb⟩
    have LB20 := Lib.hid (LB19.out.trans (hb.mono LB19.out.size))
    have Vg20 := Lib.hid (Vg19.out.below hb Vg19.out.lt)
    clear hb LB19 Vg19
    go_wp2_with fail
    refine (ncm2 _).mono ?_
    rintro e w21 ⟨rfl, hb⟩
    have LB21 := Lib.hid (LB20.out.trans (hb.mono LB20.out.size))
    have Vg21 := Lib.hid (Vg20.out.below hb Vg20.out.lt)
    clear hb LB20 Vg20
    go_wp2_with fail
    refine (niv _).mono ?_
    rintro e w22 ⟨rfl, hb⟩
    have LB22 := Lib.hid (LB21.out.trans (hb.mono LB21.out.size))
    have Vg22 := Lib.hid (Vg21.out.below hb Vg21.out.lt)
    clear hb LB21 Vg21
    obtain ⟨q0, q1, q2, q3, q4, q5, q6⟩ := Vg22.out.all
    go_wp2_with fail
    clear q0 q1 q2 q3 q4 q5 q6
    refine (nalb _ _).mono ?_
    rintro e w23 ⟨D6, c6, rfl, _, hb⟩
    have LB23 := Lib.hid (LB22.out.trans (hb.mono LB22.out.size))
    have Vg23 := Lib.hid (Vg22.out.below hb Vg22.out.lt)
    clear hb LB22 Vg22
    go_wp2_with fail
    refine (twill_any _).mono ?_
    rintro e w24 ⟨kj, rfl, hk, hrow, hb⟩
    have Ckj24 := Lib.hid (hrow)
    clear hk hrow
    have LB24 := Lib.hid (LB23.out.trans (hb.mono LB23.out.size))
    have Vg24 := Lib.hid (Vg23.out.below hb Vg23.out.lt)
    clear hb LB23 Vg23
    go_wp2_with fail
    refine (nhasm _ kj).mono ?_
    rintro e w25 ⟨rfl, hb⟩
    have hba := (show Below _ _ (w25.alloc (.cells #[.int .i64 0, .int .i64 0] 40)) from hb.trans (((Below.refl _ _).alloc (Nat.le_refl _) _).mono hb.size))
    clear hb
    have LB25 := Lib.hid (LB24.out.trans (hba.mono LB24.out.size))
    have Vg25 := Lib.hid (Vg24.out.below hba Vg24.out.lt)
    have Ckj25 := Lib.hid (Ckj24.out.below hba Ckj24.out.lt)
    clear hba LB24 Vg24 Ckj24
    clear Ckj25
    obtain ⟨q0, q1, q2, q3, q4, q5, q6⟩ := Vg25.out.all
    go_wp2_with fail
    clear q0 q1 q2 q3 q4 q5 q6
    refine (nleb _ _).mono ?_
    rintro e w26 ⟨rfl, hb⟩
    have hba := (show Below _ _ (w26.alloc (.cells #[.int .i64 0, .int .i64 0, .slice none 0 0] 24)) from hb.trans (((Below.refl _ _).alloc (Nat.le_refl _) _).mono hb.size))
    clear hb
    have LB26 := Lib.hid (LB25.out.trans (hba.mono LB25.out.size))
    have Vg26 := Lib.hid (Vg25.out.below hba Vg25.out.lt)
    clear hba LB25 Vg25
    clear Vg26
    go_wp2_with fail
    refine (alive7_any _).mono ?_
    rintro e w27 ⟨rfl, hb⟩
    have LB27 := Lib.hid (LB26.out.trans (hb.mono LB26.out.size))
    clear hb LB26
    go_wp2
    go_ret
    exact ⟨rfl, LB27.out⟩
end Go.Proofs.Ytjbofdgdcnfmoaa
