/- Written cloths; reads; alive of layer 12. -/
import Derived.Test.YtgmcbdnfgdmmaaaDcx
import Derived.Test.YtgmcbdnfgdmmaaaLal
import Derived.Deep.RegionHeld3
import Derived.Deep.DeepCutAuto
namespace Go.Proofs.Ytgmcbdnfgdmmaaa
open Go.RowKit
set_option maxRecDepth 100000
set_option linter.unusedVariables false
set_option linter.unusedSimpArgs false

/-- The text of a grid. -/
def tx (W H : Nat) (f : Nat → Bool) : ByteArray := ⟨(rowsT W H f H).toArray⟩
set_option maxHeartbeats 800000 in
/-- reads: has the grid, that came with no error, the text? -/
theorem reads_any (W H : Nat) (D : Option Addr) (c : Nat) (f : Nat → Bool) (s : ByteArray) (t : Bool) (w : World) (hr : Holds w w.heap.size D (W * H) f) (hW0 : 1 ≤ W) (hW : W ≤ 64) (hH0 : 1 ≤ H) (hH : H ≤ 64) (hs : (s.toList == (tx W H f).toList) = t) :
    Calls Try.prog 47 #[.agg #[.int .i64 (W : Nat), .int .i64 (H : Nat), .slice D (W * H) c], .int .i64 0, .string s] w fun e w' => e = .returned (.bool t) ∧ Below w.heap.size w w' := by
  have HT := Lib.hid (fun v (h : Below w.heap.size w v) => (show Calls Try.prog 95 #[.agg #[.int .i64 (W : Nat), .int .i64 (H : Nat), .slice D (W * H) c]] v fun e w' => e = .returned (.tuple #[.string (tx W H f), .int .i64 0]) ∧ Below v.heap.size v w' from text_ok W H D c f v ((hr.below h).more h.size) hW0 hW hH0 hH))
  have LB0 := Lib.hid (show Below w.heap.size w (w.alloc (.cells #[.int .i64 (W : Nat), .int .i64 (H : Nat), .slice D (W * H) c] 24)) from (Below.refl _ _).alloc (Nat.le_refl _) _)
  obtain ⟨q, hq⟩ : ∃ q, tx W H f = q := ⟨_, rfl⟩
  rw [hq] at hs HT
  clear hr hq
  go_enter Try.func47, Try.ntmps47
  go_wp2_with fail
  refine (HT.out _ LB0.out).mono ?_
  rintro e w1 ⟨rfl, hb⟩
  have LB1 := Lib.hid (LB0.out.trans (hb.mono LB0.out.size))
  clear hb
  have HS := Lib.hid hs
  clear hs
  go_wp2
  go_ret
  refine ⟨?_, LB1.out⟩
  show Ending.returned (.bool (s.toList == q.toList)) = _
  rw [HS.out]
theorem Row.ne_box {w : World} {k g n : Nat} {f : Nat → Bool} {X Y : Int} {v : Value} (h : Row w k n f) (hx : Box w g X Y v) : k ≠ g := by
  rintro rfl
  obtain ⟨cs, h1, _⟩ := h
  unfold Box at hx
  rw [h1] at hx
  cases hx
theorem Row.st3 {w : World} {k g n : Nat} {f : Nat → Bool} (h : Row w k n f) (hk : k ≠ g) (x y z : Value) : Row (((w.setCell ⟨g, 0, none⟩ x).setCell ⟨g, 1, none⟩ y).setCell ⟨g, 2, none⟩ z) k n f :=
  ((h.far (p := ⟨g, 0, none⟩) hk x).far (p := ⟨g, 1, none⟩) hk y).far (p := ⟨g, 2, none⟩) hk z
def pa (i : Nat) : Bool := [true, false, false, true].getD i false
theorem parse_pa (w : World) : Calls Try.prog 65 #[.string ⟨#[46, 120, 10, 120, 46, 10]⟩] w (PG w 2 2 4 pa) := by
  refine (parse_ok ⟨#[46, 120, 10, 120, 46, 10]⟩ 2 2 w (by decide) (by omega) (by omega) (by omega) (by omega) (by decide) ⟨by decide, ?_⟩ (fun W' => ?_)).mono fun e w' ⟨k, he, hk, hr, hb⟩ => ⟨k, he, hk, hr.congr ?_, hb⟩
  · have key : ∀ i (h : i < 6), okAt ⟨#[46, 120, 10, 120, 46, 10]⟩ 2 i h := by unfold okAt; decide +kernel
    exact key
  · exact (Try.strings_IndexByte _ 10 W').mono fun e w' h => by
      refine ⟨?_, h.2⟩
      rw [h.1]
      rfl
  · decide
theorem cl_pa (w : World) : Calls Try.prog 43 #[.string ⟨#[46, 120, 10, 120, 46, 10]⟩] w (CG w 2 2 4 pa) := cloth_any _ _ _ _ _ parse_pa w
def px (i : Nat) : Bool := [true, true, true, true].getD i false
theorem parse_px (w : World) : Calls Try.prog 65 #[.string ⟨#[120, 120, 10, 120, 120, 10]⟩] w (PG w 2 2 4 px) := by
  refine (parse_ok ⟨#[120, 120, 10, 120, 120, 10]⟩ 2 2 w (by decide) (by omega) (by omega) (by omega) (by omega) (by decide) ⟨by decide, ?_⟩ (fun W' => ?_)).mono fun e w' ⟨k, he, hk, hr, hb⟩ => ⟨k, he, hk, hr.congr ?_, hb⟩
  · have key : ∀ i (h : i < 6), okAt ⟨#[120, 120, 10, 120, 120, 10]⟩ 2 i h := by unfold okAt; decide +kernel
    exact key
  · exact (Try.strings_IndexByte _ 10 W').mono fun e w' h => by
      refine ⟨?_, h.2⟩
      rw [h.1]
      rfl
  · decide
theorem cl_px (w : World) : Calls Try.prog 43 #[.string ⟨#[120, 120, 10, 120, 120, 10]⟩] w (CG w 2 2 4 px) := cloth_any _ _ _ _ _ parse_px w
def p1 (i : Nat) : Bool := [true].getD i false
theorem parse_p1 (w : World) : Calls Try.prog 65 #[.string ⟨#[120, 10]⟩] w (PG w 1 1 1 p1) := by
  refine (parse_ok ⟨#[120, 10]⟩ 1 1 w (by decide) (by omega) (by omega) (by omega) (by omega) (by decide) ⟨by decide, ?_⟩ (fun W' => ?_)).mono fun e w' ⟨k, he, hk, hr, hb⟩ => ⟨k, he, hk, hr.congr ?_, hb⟩
  · have key : ∀ i (h : i < 2), okAt ⟨#[120, 10]⟩ 1 i h := by unfold okAt; decide +kernel
    exact key
  · exact (Try.strings_IndexByte _ 10 W').mono fun e w' h => by
      refine ⟨?_, h.2⟩
      rw [h.1]
      rfl
  · decide
theorem cl_p1 (w : World) : Calls Try.prog 43 #[.string ⟨#[120, 10]⟩] w (CG w 1 1 1 p1) := cloth_any _ _ _ _ _ parse_p1 w
def p0 (i : Nat) : Bool := [false].getD i false
theorem parse_p0 (w : World) : Calls Try.prog 65 #[.string ⟨#[46, 10]⟩] w (PG w 1 1 1 p0) := by
  refine (parse_ok ⟨#[46, 10]⟩ 1 1 w (by decide) (by omega) (by omega) (by omega) (by omega) (by decide) ⟨by decide, ?_⟩ (fun W' => ?_)).mono fun e w' ⟨k, he, hk, hr, hb⟩ => ⟨k, he, hk, hr.congr ?_, hb⟩
  · have key : ∀ i (h : i < 2), okAt ⟨#[46, 10]⟩ 1 i h := by unfold okAt; decide +kernel
    exact key
  · exact (Try.strings_IndexByte _ 10 W').mono fun e w' h => by
      refine ⟨?_, h.2⟩
      rw [h.1]
      rfl
  · decide
theorem cl_p0 (w : World) : Calls Try.prog 43 #[.string ⟨#[46, 10]⟩] w (CG w 1 1 1 p0) := cloth_any _ _ _ _ _ parse_p0 w
def p3 (i : Nat) : Bool := [true, false, true].getD i false
theorem parse_p3 (w : World) : Calls Try.prog 65 #[.string ⟨#[120, 46, 120, 10]⟩] w (PG w 3 1 3 p3) := by
  refine (parse_ok ⟨#[120, 46, 120, 10]⟩ 3 1 w (by decide) (by omega) (by omega) (by omega) (by omega) (by decide) ⟨by decide, ?_⟩ (fun W' => ?_)).mono fun e w' ⟨k, he, hk, hr, hb⟩ => ⟨k, he, hk, hr.congr ?_, hb⟩
  · have key : ∀ i (h : i < 4), okAt ⟨#[120, 46, 120, 10]⟩ 3 i h := by unfold okAt; decide +kernel
    exact key
  · exact (Try.strings_IndexByte _ 10 W').mono fun e w' h => by
      refine ⟨?_, h.2⟩
      rw [h.1]
      rfl
  · decide
theorem cl_p3 (w : World) : Calls Try.prog 43 #[.string ⟨#[120, 46, 120, 10]⟩] w (CG w 3 1 3 p3) := cloth_any _ _ _ _ _ parse_p3 w
def pb (i : Nat) : Bool := [false, true, true, false].getD i false
theorem parse_pb (w : World) : Calls Try.prog 65 #[.string ⟨#[120, 46, 10, 46, 120, 10]⟩] w (PG w 2 2 4 pb) := by
  refine (parse_ok ⟨#[120, 46, 10, 46, 120, 10]⟩ 2 2 w (by decide) (by omega) (by omega) (by omega) (by omega) (by decide) ⟨by decide, ?_⟩ (fun W' => ?_)).mono fun e w' ⟨k, he, hk, hr, hb⟩ => ⟨k, he, hk, hr.congr ?_, hb⟩
  · have key : ∀ i (h : i < 6), okAt ⟨#[120, 46, 10, 46, 120, 10]⟩ 2 i h := by unfold okAt; decide +kernel
    exact key
  · exact (Try.strings_IndexByte _ 10 W').mono fun e w' h => by
      refine ⟨?_, h.2⟩
      rw [h.1]
      rfl
  · decide
theorem cl_pb (w : World) : Calls Try.prog 43 #[.string ⟨#[120, 46, 10, 46, 120, 10]⟩] w (CG w 2 2 4 pb) := cloth_any _ _ _ _ _ parse_pb w
/-- A grid of letters came back, with room. -/
def SpN (w : World) (W H : Int) (N : Nat) (F : Nat → Bool) (e : Ending) (w' : World) : Prop :=
  ∃ k c, e = .returned (.tuple #[.agg #[.int .i64 W, .int .i64 H, .slice (some ⟨k, 0, none⟩) N c], .int .i64 0]) ∧ w.heap.size ≤ k ∧ Row w' k N F ∧ Below w.heap.size w w'
theorem wv_a (w : World) (k1 k2 k3 c1 c2 c3 : Nat) (h1 : Row w k1 4 pa) (h2 : Row w k2 4 pa) (h3 : Row w k3 4 px) : Calls Try.prog 48 #[.agg #[.int .i64 2, .int .i64 2, .slice (some ⟨k1, 0, none⟩) 4 c1], .agg #[.int .i64 2, .int .i64 2, .slice (some ⟨k2, 0, none⟩) 4 c2], .agg #[.int .i64 2, .int .i64 2, .slice (some ⟨k3, 0, none⟩) 4 c3]] w (SpN w 4 4 16 (dbl 2 pa pa px)) :=
  weave_ok (W := 2) (H := 2) (by omega) (by omega) (by omega) (by omega) w (h1.holds h1.lt) (h2.holds h2.lt) (h3.holds h3.lt)
theorem wv_1 (w : World) (k1 k2 k3 c1 c2 c3 : Nat) (h1 : Row w k1 1 p1) (h2 : Row w k2 1 p0) (h3 : Row w k3 1 p0) : Calls Try.prog 48 #[.agg #[.int .i64 1, .int .i64 1, .slice (some ⟨k1, 0, none⟩) 1 c1], .agg #[.int .i64 1, .int .i64 1, .slice (some ⟨k2, 0, none⟩) 1 c2], .agg #[.int .i64 1, .int .i64 1, .slice (some ⟨k3, 0, none⟩) 1 c3]] w (SpN w 2 2 4 (dbl 1 p1 p0 p0)) :=
  weave_ok (W := 1) (H := 1) (by omega) (by omega) (by omega) (by omega) w (h1.holds h1.lt) (h2.holds h2.lt) (h3.holds h3.lt)
theorem ap_3 (w : World) (k c : Nat) (h : Row w k 3 p3) : Calls Try.prog 42 #[.agg #[.int .i64 3, .int .i64 1, .slice (some ⟨k, 0, none⟩) 3 c]] w (ApN w 6) :=
  apart_odd 3 1 (by omega) (by omega) (by omega) (by omega) (by omega) (h.holds h.lt)
theorem ap_b (w : World) (k c : Nat) (h : Row w k 4 pb) : Calls Try.prog 42 #[.agg #[.int .i64 2, .int .i64 2, .slice (some ⟨k, 0, none⟩) 4 c]] w (ApN w 6) :=
  (apart_even 1 1 (by omega) (by omega) (by omega) (by omega) (h.holds h.lt)).1 (by unfold isD; decide +kernel)
theorem rd_a (w : World) (k c : Nat) (h : Row w k 16 (dbl 2 pa pa px)) : Calls Try.prog 47 #[.agg #[.int .i64 4, .int .i64 4, .slice (some ⟨k, 0, none⟩) 16 c], .int .i64 0, .string ⟨#[120, 46, 120, 120, 10, 46, 46, 120, 46, 10, 120, 120, 120, 46, 10, 120, 46, 46, 46, 10]⟩] w fun e w' => e = .returned (.bool true) ∧ Below w.heap.size w w' :=
  reads_any 4 4 (some ⟨k, 0, none⟩) c _ _ true w (h.holds h.lt) (by omega) (by omega) (by omega) (by omega) (by decide +kernel)
theorem rd_1 (w : World) (k c : Nat) (h : Row w k 4 (dbl 1 p1 p0 p0)) : Calls Try.prog 47 #[.agg #[.int .i64 2, .int .i64 2, .slice (some ⟨k, 0, none⟩) 4 c], .int .i64 0, .string ⟨#[46, 46, 10, 120, 120, 10]⟩] w fun e w' => e = .returned (.bool true) ∧ Below w.heap.size w w' :=
  reads_any 2 2 (some ⟨k, 0, none⟩) c _ _ true w (h.holds h.lt) (by omega) (by omega) (by omega) (by omega) (by decide +kernel)
set_option maxHeartbeats 3200000 in
theorem alive12_at (w w0 : World) (hw : Below w.heap.size w w0) : Calls Try.prog 49 #[] w0 fun e w' => e = .returned (.bool true) ∧ Below w.heap.size w w' := by
  have LB0 := Lib.hid hw
  clear hw
  go_enter Try.func49, Try.ntmps49
  go_wp2_with fail
  with_reducible refine Calls.mono (cl_pa _) ?_
  rintro e w1 ⟨k, rfl, hk, hrow, hb⟩
  have LB1 := Lib.hid (LB0.out.trans (hb.mono LB0.out.size))
  have HA := Lib.hid hrow
  clear hb LB0 hrow
  have XA := Box.new w1 2 2 (.slice (some ⟨k, 0, none⟩) 4 4)
  obtain ⟨ab, hab⟩ : ∃ z, w1.heap.size = z := ⟨_, rfl⟩
  rw [hab] at XA
  have XA := Lib.hid XA
  have hb := bel_alloc w1 (.cells #[.int .i64 2, .int .i64 2, .slice (some ⟨k, 0, none⟩) 4 4] 24)
  have LB2 := Lib.hid (LB1.out.trans (hb.mono LB1.out.size))
  have HA := Lib.hid (HA.out.below hb HA.out.lt)
  clear hb LB1
  go_upto_region 2 with (fail)
  generalize w1.alloc (.cells #[.int .i64 2, .int .i64 2, .slice (some ⟨k, 0, none⟩) 4 4] 24) = w2 at *
  clear hab
  go_cut [2, 3] (fun s2 s3 wx => ∃ g k d, s2 = .pointer (some ⟨g, 0, none⟩) ∧ s3 = .int .i64 0 ∧ Hid (Box wx g 4 4 (.slice (some ⟨k, 0, none⟩) 16 d)) ∧ Hid (Row wx k 16 (dbl 2 pa pa px)) ∧ Hid (Below w2.heap.size w2 wx))
  case first =>
    obtain ⟨q0, q1, q2, q3, q4, q5, q6⟩ := XA.out.all
    have HK := Lib.hid (fun (u : World) (h : Below w2.heap.size w2 u) => (show u.cell? ⟨ab, 0, none⟩ = some (.int .i64 2) ∧ u.cell? ⟨ab, 1, none⟩ = some (.int .i64 2) ∧ u.cell? ⟨ab, 2, none⟩ = some (.slice (some ⟨k, 0, none⟩) 4 4) from
      ⟨(h.cell (p := ⟨ab, 0, none⟩) q6).trans q0, (h.cell (p := ⟨ab, 1, none⟩) q6).trans q1, (h.cell (p := ⟨ab, 2, none⟩) q6).trans q2⟩))
    have D0 := Lib.hid (Below.refl w2.heap.size w2).drew
    have D1 := Lib.hid (bel_alloc w2 (.cells #[.int .i64 0, .int .i64 0, .slice none 0 0] 24)).drew
    have N1 := Lib.hid ((Box.new w2 0 0 (.slice none 0 0)).drew)
    have HL := Lib.hid (fun (u : World) => bel_alloc u (.cells #[.int .i64 0, .int .i64 0, .slice none 0 0] 24))
    have HN := Lib.hid (fun (u : World) => Box.new u 0 0 (.slice none 0 0))
    go_region_held3 (fun u => u.cell? ⟨ab, 0, none⟩ = some (.int .i64 2) ∧ u.cell? ⟨ab, 1, none⟩ = some (.int .i64 2) ∧ u.cell? ⟨ab, 2, none⟩ = some (.slice (some ⟨k, 0, none⟩) 4 4))
      (first
        | with_reducible exact HK.out _ D0.out
        | with_reducible exact HK.out _ D1.out
        | with_reducible exact HK.out _ H2.out
        | with_reducible exact HK.out _ H3.out
        | with_reducible exact HK.out _ E1.out
        | with_reducible exact HK.out _ E2.out
        | go_keep)
      (first
        | (go_at_call 43
           with_reducible refine Calls.mono (cl_px _) ?_
           rintro e u2 ⟨k2, rfl, hk2, hrow2, hb2⟩
           have H2 : Hid (Below w2.heap.size w2 u2) := by first | exact Lib.hid (D0.out.trans (hb2.mono D0.out.size)) | exact Lib.hid (D1.out.trans (hb2.mono D1.out.size))
           (try have AF := Lib.hid (N1.out.below hb2 N1.out.lt))
           have R2 := Lib.hid hrow2
           have HA2 := Lib.hid (HA.out.below H2.out HA.out.lt)
           clear hb2 hrow2)
        | (go_at_call 48
           with_reducible refine Calls.mono (wv_a _ k k k2 4 4 4 HA2.out HA2.out R2.out) ?_
           rintro e u3 ⟨k3, d3, rfl, hk3, hrow3, hb3⟩
           have H3 := Lib.hid (H2.out.trans (hb3.mono H2.out.size))
           (try have AF := Lib.hid (AF.out.below hb3 AF.out.lt))
           (try obtain ⟨z0, z1, z2, z3, z4, z5, z6⟩ := AF.out.all)
           have R3 := Lib.hid hrow3
           have E1 := Lib.hid (H3.out.trans ((bel_alloc u3 (.cells #[.int .i64 4, .int .i64 4, .slice (some ⟨k3, 0, none⟩) 16 d3] 24)).mono H3.out.size))
           have E2 := Lib.hid (bel_st3 H3.out (g := w2.heap.size) (Nat.le_refl _) (.int .i64 4) (.int .i64 4) (.slice (some ⟨k3, 0, none⟩) 16 d3))
           clear hb3 hrow3)
        | (go_at_call 48
           with_reducible refine Calls.mono (wv_a _ k k k2 4 4 4 (HA2.out.alloc _) (HA2.out.alloc _) (R2.out.alloc _)) ?_
           rintro e u3 ⟨k3, d3, rfl, hk3, hrow3, hb3⟩
           have H3 := Lib.hid ((H2.out.trans ((HL.out u2).mono H2.out.size)).trans (hb3.mono (by have := H2.out.size; simp; omega)))
           have AF := Lib.hid ((HN.out u2).below hb3 (HN.out u2).lt)
           obtain ⟨z0, z1, z2, z3, z4, z5, z6⟩ := AF.out.all
           have R3 := Lib.hid hrow3
           have E1 := Lib.hid (H3.out.trans ((bel_alloc u3 (.cells #[.int .i64 4, .int .i64 4, .slice (some ⟨k3, 0, none⟩) 16 d3] 24)).mono H3.out.size))
           have E2 := Lib.hid (bel_st3 H3.out (g := u2.heap.size) H2.out.size (.int .i64 4) (.int .i64 4) (.slice (some ⟨k3, 0, none⟩) 16 d3))
           clear hb3 hrow3))
    all_goals
      clear HK D0 D1 HL HN q0 q1 q2 q3 q4 q5 q6
      go_wp2
      go_meet
      first
        | exact ⟨u3.heap.size, k3, d3, rfl, rfl, Lib.hid (Box.new u3 4 4 _), Lib.hid (R3.out.alloc _), E1⟩
        | exact ⟨_, k3, d3, rfl, rfl, Lib.hid (AF.out.st3 4 4 _), Lib.hid (R3.out.st3 (R3.out.ne_box AF.out) _ _ _), E2⟩
  case rest =>
    obtain ⟨ga, ka, da, rfl, rfl, XQ, RQ, HB⟩ := hcut
    have hb := HB.out
    have LB3 := Lib.hid (LB2.out.trans (hb.mono LB2.out.size))
    clear hb LB2 HB HA XA
    go_wp2_with fail
    with_reducible refine Calls.mono (cl_p1 _) ?_
    rintro e w4 ⟨kb, rfl, hkb, hrow, hb⟩
    have LB4 := Lib.hid (LB3.out.trans (hb.mono LB3.out.size))
    have XQ := Lib.hid (XQ.out.below hb XQ.out.lt)
    have RQ := Lib.hid (RQ.out.below hb RQ.out.lt)
    have H1 := Lib.hid hrow
    clear hb LB3 hrow
    go_wp2_with fail
    with_reducible refine Calls.mono (cl_p0 _) ?_
    rintro e w5 ⟨kc, rfl, hkc, hrow, hb⟩
    have LB5 := Lib.hid (LB4.out.trans (hb.mono LB4.out.size))
    have XQ := Lib.hid (XQ.out.below hb XQ.out.lt)
    have RQ := Lib.hid (RQ.out.below hb RQ.out.lt)
    have H1 := Lib.hid (H1.out.below hb H1.out.lt)
    have H0 := Lib.hid hrow
    clear hb LB4 hrow
    go_wp2_with fail
    with_reducible refine Calls.mono (cl_p0 _) ?_
    rintro e w6 ⟨kd, rfl, hkd, hrow, hb⟩
    have LB6 := Lib.hid (LB5.out.trans (hb.mono LB5.out.size))
    have XQ := Lib.hid (XQ.out.below hb XQ.out.lt)
    have RQ := Lib.hid (RQ.out.below hb RQ.out.lt)
    have H1 := Lib.hid (H1.out.below hb H1.out.lt)
    have H0 := Lib.hid (H0.out.below hb H0.out.lt)
    have H9 := Lib.hid hrow
    clear hb LB5 hrow
    go_wp2_with fail
    with_reducible refine Calls.mono (wv_1 _ kb kc kd 1 1 1 H1.out H0.out H9.out) ?_
    rintro e w7 ⟨ke, de, rfl, hke, hrow, hb⟩
    have LB7 := Lib.hid (LB6.out.trans (hb.mono LB6.out.size))
    have XQ := Lib.hid (XQ.out.below hb XQ.out.lt)
    have RQ := Lib.hid (RQ.out.below hb RQ.out.lt)
    have H1 := Lib.hid (H1.out.below hb H1.out.lt)
    have H0 := Lib.hid (H0.out.below hb H0.out.lt)
    have H9 := Lib.hid (H9.out.below hb H9.out.lt)
    have RE := Lib.hid hrow
    clear hb LB6 hrow
    clear H1 H0 H9
    have XE := Box.new w7 2 2 (.slice (some ⟨ke, 0, none⟩) 4 de)
    obtain ⟨eb, heb⟩ : ∃ z, w7.heap.size = z := ⟨_, rfl⟩
    rw [heb] at XE
    have XE := Lib.hid XE
    have hb := bel_alloc w7 (.cells #[.int .i64 2, .int .i64 2, .slice (some ⟨ke, 0, none⟩) 4 de] 24)
    have LB8 := Lib.hid (LB7.out.trans (hb.mono LB7.out.size))
    have XQ := Lib.hid (XQ.out.below hb XQ.out.lt)
    have RQ := Lib.hid (RQ.out.below hb RQ.out.lt)
    have RE := Lib.hid (RE.out.below hb RE.out.lt)
    clear hb LB7
    go_upto_region 4 with (fail)
    generalize w7.alloc (.cells #[.int .i64 2, .int .i64 2, .slice (some ⟨ke, 0, none⟩) 4 de] 24) = w8 at *
    clear heb
    go_wp2_with fail
    with_reducible refine Calls.mono (cl_p3 _) ?_
    rintro e w9 ⟨k3, rfl, hk3, hrow, hb⟩
    have LB9 := Lib.hid (LB8.out.trans (hb.mono LB8.out.size))
    have XQ := Lib.hid (XQ.out.below hb XQ.out.lt)
    have RQ := Lib.hid (RQ.out.below hb RQ.out.lt)
    have RE := Lib.hid (RE.out.below hb RE.out.lt)
    have XE := Lib.hid (XE.out.below hb XE.out.lt)
    have HP := Lib.hid hrow
    clear hb LB8 hrow
    go_wp2_with fail
    with_reducible refine Calls.mono (ap_3 _ _ _ HP.out) ?_
    rintro e w10 ⟨rfl, hb⟩
    have LB10 := Lib.hid (LB9.out.trans (hb.mono LB9.out.size))
    have XQ := Lib.hid (XQ.out.below hb XQ.out.lt)
    have RQ := Lib.hid (RQ.out.below hb RQ.out.lt)
    have RE := Lib.hid (RE.out.below hb RE.out.lt)
    have XE := Lib.hid (XE.out.below hb XE.out.lt)
    have HP := Lib.hid (HP.out.below hb HP.out.lt)
    clear hb LB9 
    clear HP
    have hb := ((bel_alloc w10 (.cells #[.int .i64 0, .int .i64 0, .slice none 0 0] 24)).trans ((bel_alloc _ (.cells #[.int .i64 0, .int .i64 0, .slice none 0 0] 24)).mono (by simp))).trans ((bel_alloc _ (.cells #[.int .i64 0, .int .i64 0, .slice none 0 0] 24)).mono (by simp; omega))
    have LB11 := Lib.hid (LB10.out.trans (hb.mono LB10.out.size))
    have XQ := Lib.hid (XQ.out.below hb XQ.out.lt)
    have RQ := Lib.hid (RQ.out.below hb RQ.out.lt)
    have RE := Lib.hid (RE.out.below hb RE.out.lt)
    have XE := Lib.hid (XE.out.below hb XE.out.lt)
    clear hb LB10
    go_upto_region 5 with (fail)
    generalize ((w10.alloc (.cells #[.int .i64 0, .int .i64 0, .slice none 0 0] 24)).alloc (.cells #[.int .i64 0, .int .i64 0, .slice none 0 0] 24)).alloc (.cells #[.int .i64 0, .int .i64 0, .slice none 0 0] 24) = w11 at *
    go_wp2_with fail
    with_reducible refine Calls.mono (cl_pb _) ?_
    rintro e w12 ⟨k4, rfl, hk4, hrow, hb⟩
    have LB12 := Lib.hid (LB11.out.trans (hb.mono LB11.out.size))
    have XQ := Lib.hid (XQ.out.below hb XQ.out.lt)
    have RQ := Lib.hid (RQ.out.below hb RQ.out.lt)
    have RE := Lib.hid (RE.out.below hb RE.out.lt)
    have XE := Lib.hid (XE.out.below hb XE.out.lt)
    have HP := Lib.hid hrow
    clear hb LB11 hrow
    go_wp2_with fail
    with_reducible refine Calls.mono (ap_b _ _ _ HP.out) ?_
    rintro e w13 ⟨rfl, hb⟩
    have LB13 := Lib.hid (LB12.out.trans (hb.mono LB12.out.size))
    have XQ := Lib.hid (XQ.out.below hb XQ.out.lt)
    have RQ := Lib.hid (RQ.out.below hb RQ.out.lt)
    have RE := Lib.hid (RE.out.below hb RE.out.lt)
    have XE := Lib.hid (XE.out.below hb XE.out.lt)
    have HP := Lib.hid (HP.out.below hb HP.out.lt)
    clear hb LB12 
    clear HP
    have hb := ((bel_alloc w13 (.cells #[.int .i64 0, .int .i64 0, .slice none 0 0] 24)).trans ((bel_alloc _ (.cells #[.int .i64 0, .int .i64 0, .slice none 0 0] 24)).mono (by simp))).trans ((bel_alloc _ (.cells #[.int .i64 0, .int .i64 0, .slice none 0 0] 24)).mono (by simp; omega))
    have LB14 := Lib.hid (LB13.out.trans (hb.mono LB13.out.size))
    have XQ := Lib.hid (XQ.out.below hb XQ.out.lt)
    have RQ := Lib.hid (RQ.out.below hb RQ.out.lt)
    have RE := Lib.hid (RE.out.below hb RE.out.lt)
    have XE := Lib.hid (XE.out.below hb XE.out.lt)
    clear hb LB13
    go_upto_region 6 with (fail)
    generalize ((w13.alloc (.cells #[.int .i64 0, .int .i64 0, .slice none 0 0] 24)).alloc (.cells #[.int .i64 0, .int .i64 0, .slice none 0 0] 24)).alloc (.cells #[.int .i64 0, .int .i64 0, .slice none 0 0] 24) = w14 at *
    obtain ⟨q0, q1, q2, q3, q4, q5, q6⟩ := XQ.out.all
    go_wp2_with fail
    clear q0 q1 q2 q3 q4 q5 q6
    with_reducible refine Calls.mono (rd_a _ ka da RQ.out) ?_
    rintro e w15 ⟨rfl, hb⟩
    have LB15 := Lib.hid (LB14.out.trans (hb.mono LB14.out.size))
    have XQ := Lib.hid (XQ.out.below hb XQ.out.lt)
    have RQ := Lib.hid (RQ.out.below hb RQ.out.lt)
    have RE := Lib.hid (RE.out.below hb RE.out.lt)
    have XE := Lib.hid (XE.out.below hb XE.out.lt)
    clear hb LB14 
    obtain ⟨q0, q1, q2, q3, q4, q5, q6⟩ := XE.out.all
    go_wp2_with fail
    clear q0 q1 q2 q3 q4 q5 q6
    with_reducible refine Calls.mono (rd_1 _ ke de RE.out) ?_
    rintro e w16 ⟨rfl, hb⟩
    have LB16 := Lib.hid (LB15.out.trans (hb.mono LB15.out.size))
    have XQ := Lib.hid (XQ.out.below hb XQ.out.lt)
    have RQ := Lib.hid (RQ.out.below hb RQ.out.lt)
    have RE := Lib.hid (RE.out.below hb RE.out.lt)
    have XE := Lib.hid (XE.out.below hb XE.out.lt)
    clear hb LB15 
    go_wp2
    go_ret
    exact ⟨rfl, LB16.out⟩
theorem alive12_any (w : World) : Calls Try.prog 49 #[] w fun e w' => e = .returned (.bool true) ∧ Below w.heap.size w w' := alive12_at w w (Below.refl _ _)
end Go.Proofs.Ytgmcbdnfgdmmaaa
