/- The statement SymmetryAlike: the walk. -/
import Derived.Test.YtjbofdgdcnfmoaaCpw
import Derived.Test.YtjbofdgdcnfmoaaFle
import Derived.Deep.DeepCutAuto
import Derived.Deep.RegionHeld3
namespace Go.Proofs.Ytjbofdgdcnfmoaa
open Go.RowKit
set_option maxRecDepth 100000
set_option linter.unusedVariables false
set_option linter.unusedSimpArgs false

theorem same_alike {G K F F' : GD} {a a' : Nat} (okG : G.Ok) (okK : K.Ok) (hF : Best (Vm G 16) F a) (kF : Best (Vm K 16) F' a') : sm F F' = decide (0 < (ofl (tk G K) 16).length) := by
  rw [Bool.eq_iff_iff, decide_eq_true_iff]
  unfold sm
  rw [decide_eq_true_iff]
  constructor
  · intro e
    have h := best_same okG okK hF kF e
    obtain ⟨i, hi, _⟩ := ln7_at (T := tk G K) (k := 16) (cmp_lt a hF.mem.1 (inv a') (g_inv a' kF.mem.1).1) ((tk_iff okK _).2 h)
    omega
  · intro h
    obtain ⟨h1, h2⟩ := ln7_mem h
    exact best_alike okG okK h1 ((tk_iff okK _).1 h2) hF kF
/-- The number of the operations by which two cloths are alike. -/
theorem alike_num {G K : GD} (okG : G.Ok) (okK : K.Ok) : (ofl (tk G K) 16).length = 0 ∨ (0 < (ofl (tk G K) 16).length ∧ (ofl (tk G K) 16).length = (ofl (tk G G) 16).length) := by
  rcases Nat.eq_zero_or_pos (ofl (tk G K) 16).length with h | h
  · exact .inl h
  · obtain ⟨h1, h2⟩ := ln7_mem h
    exact .inr ⟨h, alike_len okG okK h1 h2⟩
theorem boxk {X u : World} {g : Nat} {a b : Int} {s : Value} (h : Below X.heap.size X u) (hx : Box X g a b s) : Box u g a b s := hx.below h hx.lt
theorem row_far3 {v : World} {k n g : Nat} {f : Nat → Bool} (h : Row v k n f) (hne : k ≠ g) (a b c : Value) : Row (((v.setCell ⟨g, 0, none⟩ a).setCell ⟨g, 1, none⟩ b).setCell ⟨g, 2, none⟩ c) k n f :=
  ((h.far (p := ⟨g, 0, none⟩) hne _).far (p := ⟨g, 1, none⟩) hne _).far (p := ⟨g, 2, none⟩) hne _
/-- What lies while the operations are looked at. -/
structure A7 (w wr : World) (W H : Int) (sa : Value) (X Y : Int) (sb : Value) (k1 k2 N : Nat) (L1 L2' : Nat → Int) : Prop where
  g : Box wr w.heap.size W H sa
  k : Box wr (w.heap.size + 1) X Y sb
  l1 : L2.Row wr k1 N L1
  l2 : L2.Row wr k2 N L2'
  bel : Below w.heap.size w wr
theorem A7.next {w wr w' : World} {W H X Y : Int} {sa sb : Value} {k1 k2 N : Nat} {L1 L2' : Nat → Int} (h : A7 w wr W H sa X Y sb k1 k2 N L1 L2') (hb : Below wr.heap.size wr w') : A7 w w' W H sa X Y sb k1 k2 N L1 L2' :=
  ⟨h.g.below hb h.g.lt, h.k.below hb h.k.lt, h.l1.below hb h.l1.lt, h.l2.below hb h.l2.lt, h.bel.trans (hb.mono h.bel.size)⟩
set_option maxHeartbeats 800000 in
theorem al7_a (W H X Y : Int) (A D : Option Addr) (n c m d : Nat) (w : World) (hv1 : ∀ w, Calls Try.prog 65 #[.agg #[.int .i64 W, .int .i64 H, .slice A n c]] w fun e w' => e = .returned (.bool false) ∧ Below w.heap.size w w') (hal : ∀ w, Calls Try.prog 56 #[] w fun e w' => e = .returned (.bool true) ∧ Below w.heap.size w w') :
    Calls Try.prog 16 #[.agg #[.int .i64 W, .int .i64 H, .slice A n c], .agg #[.int .i64 X, .int .i64 Y, .slice D m d]] w fun e w' => e = .returned (.bool true) ∧ Below w.heap.size w w' := by
  have HV1 := Lib.hid hv1
  have HAL := Lib.hid hal
  clear hv1 hal
  have X0 := Lib.hid ((Box.new w W H (.slice A n c)).alloc (.cells #[.int .i64 X, .int .i64 Y, (.slice D m d)] 24))
  have Y0 := Lib.hid (show Box ((w.alloc (.cells #[.int .i64 W, .int .i64 H, (.slice A n c)] 24)).alloc (.cells #[.int .i64 X, .int .i64 Y, (.slice D m d)] 24)) (w.heap.size + 1) X Y (.slice D m d) from by have h := Box.new (w.alloc (.cells #[.int .i64 W, .int .i64 H, (.slice A n c)] 24)) X Y (.slice D m d); rwa [World.size_alloc] at h)
  have LB0 := Lib.hid (show Below w.heap.size w ((w.alloc (.cells #[.int .i64 W, .int .i64 H, (.slice A n c)] 24)).alloc (.cells #[.int .i64 X, .int .i64 Y, (.slice D m d)] 24)) from blA (blA (Below.refl _ _) (Nat.le_refl _) _) (Nat.le_refl _) _)
  go_enter Try.func16, Try.ntmps16
  obtain ⟨q0, q1, q2, q3, q4, q5, q6⟩ := X0.out.all
  go_wp2_with fail
  clear q0 q1 q2 q3 q4 q5 q6
  refine (HV1.out _).mono ?_
  rintro e w1 ⟨rfl, hb⟩
  have X1 := Lib.hid (X0.out.below hb X0.out.lt)
  have Y1 := Lib.hid (Y0.out.below hb Y0.out.lt)
  have LB1 := Lib.hid (LB0.out.trans (hb.mono LB0.out.size))
  clear hb X0 Y0 LB0
  go_wp2_with fail
  refine (HAL.out _).mono ?_
  rintro e w2 ⟨rfl, hb⟩
  have X2 := Lib.hid (X1.out.below hb X1.out.lt)
  have Y2 := Lib.hid (Y1.out.below hb Y1.out.lt)
  have LB2 := Lib.hid (LB1.out.trans (hb.mono LB1.out.size))
  clear hb X1 Y1 LB1
  go_wp2
  go_ret
  exact ⟨rfl, LB2.out⟩
set_option maxHeartbeats 800000 in
theorem al7_b (W H X Y : Int) (A D : Option Addr) (n c m d : Nat) (w : World) (hv1 : ∀ w, Calls Try.prog 65 #[.agg #[.int .i64 W, .int .i64 H, .slice A n c]] w fun e w' => e = .returned (.bool true) ∧ Below w.heap.size w w') (hv2 : ∀ w, Calls Try.prog 65 #[.agg #[.int .i64 X, .int .i64 Y, .slice D m d]] w fun e w' => e = .returned (.bool false) ∧ Below w.heap.size w w') (hal : ∀ w, Calls Try.prog 56 #[] w fun e w' => e = .returned (.bool true) ∧ Below w.heap.size w w') :
    Calls Try.prog 16 #[.agg #[.int .i64 W, .int .i64 H, .slice A n c], .agg #[.int .i64 X, .int .i64 Y, .slice D m d]] w fun e w' => e = .returned (.bool true) ∧ Below w.heap.size w w' := by
  have HV1 := Lib.hid hv1
  have HV2 := Lib.hid hv2
  have HAL := Lib.hid hal
  clear hv1 hv2 hal
  have X0 := Lib.hid ((Box.new w W H (.slice A n c)).alloc (.cells #[.int .i64 X, .int .i64 Y, (.slice D m d)] 24))
  have Y0 := Lib.hid (show Box ((w.alloc (.cells #[.int .i64 W, .int .i64 H, (.slice A n c)] 24)).alloc (.cells #[.int .i64 X, .int .i64 Y, (.slice D m d)] 24)) (w.heap.size + 1) X Y (.slice D m d) from by have h := Box.new (w.alloc (.cells #[.int .i64 W, .int .i64 H, (.slice A n c)] 24)) X Y (.slice D m d); rwa [World.size_alloc] at h)
  have LB0 := Lib.hid (show Below w.heap.size w ((w.alloc (.cells #[.int .i64 W, .int .i64 H, (.slice A n c)] 24)).alloc (.cells #[.int .i64 X, .int .i64 Y, (.slice D m d)] 24)) from blA (blA (Below.refl _ _) (Nat.le_refl _) _) (Nat.le_refl _) _)
  go_enter Try.func16, Try.ntmps16
  obtain ⟨q0, q1, q2, q3, q4, q5, q6⟩ := X0.out.all
  go_wp2_with fail
  clear q0 q1 q2 q3 q4 q5 q6
  refine (HV1.out _).mono ?_
  rintro e w1 ⟨rfl, hb⟩
  have X1 := Lib.hid (X0.out.below hb X0.out.lt)
  have Y1 := Lib.hid (Y0.out.below hb Y0.out.lt)
  have LB1 := Lib.hid (LB0.out.trans (hb.mono LB0.out.size))
  clear hb X0 Y0 LB0
  obtain ⟨q0, q1, q2, q3, q4, q5, q6⟩ := Y1.out.all
  go_wp2_with fail
  clear q0 q1 q2 q3 q4 q5 q6
  refine (HV2.out _).mono ?_
  rintro e w2 ⟨rfl, hb⟩
  have X2 := Lib.hid (X1.out.below hb X1.out.lt)
  have Y2 := Lib.hid (Y1.out.below hb Y1.out.lt)
  have LB2 := Lib.hid (LB1.out.trans (hb.mono LB1.out.size))
  clear hb X1 Y1 LB1
  go_wp2_with fail
  refine (HAL.out _).mono ?_
  rintro e w3 ⟨rfl, hb⟩
  have X3 := Lib.hid (X2.out.below hb X2.out.lt)
  have Y3 := Lib.hid (Y2.out.below hb Y2.out.lt)
  have LB3 := Lib.hid (LB2.out.trans (hb.mono LB2.out.size))
  clear hb X2 Y2 LB2
  go_wp2
  go_ret
  exact ⟨rfl, LB3.out⟩
set_option maxHeartbeats 3200000 in
theorem al7_zero (G K : GD) (g : GM G) (q : GM K) (b o c b2 o2 d : Nat) (pa : G.W * G.H ≤ c) (pb : K.W * K.H ≤ d) (w : World) (la : b < w.heap.size) (lb : b2 < w.heap.size) (hca : ∀ i, i < G.W * G.H → w.cell? ⟨b, o + i, none⟩ = some (.bool (G.f i))) (hcb : ∀ i, i < K.W * K.H → w.cell? ⟨b2, o2 + i, none⟩ = some (.bool (K.f i))) (h0 : (ofl (tk G K) 16).length = 0) (hv1 : ∀ w, Calls Try.prog 65 #[.agg #[.int .i64 (G.W : Nat), .int .i64 (G.H : Nat), .slice (some ⟨b, o, none⟩) (G.W * G.H) c]] w fun e w' => e = .returned (.bool true) ∧ Below w.heap.size w w') (hv2 : ∀ w, Calls Try.prog 65 #[.agg #[.int .i64 (K.W : Nat), .int .i64 (K.H : Nat), .slice (some ⟨b2, o2, none⟩) (K.W * K.H) d]] w fun e w' => e = .returned (.bool true) ∧ Below w.heap.size w w') (hal : ∀ w, Calls Try.prog 56 #[] w fun e w' => e = .returned (.bool true) ∧ Below w.heap.size w w') :
    Calls Try.prog 16 #[.agg #[.int .i64 (G.W : Nat), .int .i64 (G.H : Nat), .slice (some ⟨b, o, none⟩) (G.W * G.H) c], .agg #[.int .i64 (K.W : Nat), .int .i64 (K.H : Nat), .slice (some ⟨b2, o2, none⟩) (K.W * K.H) d]] w fun e w' => e = .returned (.bool true) ∧ Below w.heap.size w w' := by
  have HV1 := Lib.hid hv1
  have HV2 := Lib.hid hv2
  have HAL := Lib.hid hal
  have hA := fun u (hu : Below w.heap.size w u) i (hi : i < G.W * G.H) => (hu.cell (p := ⟨b, o + i, none⟩) la).trans (hca i hi)
  have hB := fun u (hu : Below w.heap.size w u) i (hi : i < K.W * K.H) => (hu.cell (p := ⟨b2, o2 + i, none⟩) lb).trans (hcb i hi)
  have lA := fun u (hu : Below w.heap.size w u) => Nat.lt_of_lt_of_le la hu.size
  have lB := fun u (hu : Below w.heap.size w u) => Nat.lt_of_lt_of_le lb hu.size
  have HAB := Lib.hid (fun u (hu : Below w.heap.size w u) => palk_at g q b o c b2 o2 d u (lA u hu) (lB u hu) (hA u hu) (hB u hu) pa pb)
  have HBA := Lib.hid (fun u (hu : Below w.heap.size w u) => palk_at q g b2 o2 d b o c u (lB u hu) (lA u hu) (hB u hu) (hA u hu) pb pa)
  have HOW := Lib.hid (fun u (hu : Below w.heap.size w u) => pall_at g b o c u (lA u hu) (hA u hu) pa)
  have HLA := Lib.hid (fun u (hu : Below w.heap.size w u) => ple_ok G g.ok b o c u (lA u hu) (hA u hu) pa g.sk)
  have HLB := Lib.hid (fun u (hu : Below w.heap.size w u) => ple_ok K q.ok b2 o2 d u (lB u hu) (hB u hu) pb q.sk)
  have HSM := Lib.hid (fun (F F' : GD) (a a' : Nat) (hF : Best (Vm G 16) F a) (kF : Best (Vm K 16) F' a') => same_alike g.ok q.ok hF kF)
  have e2 := alike_back g.ok q.ok
  have hT := fun m (hm : m < 16) (h : tk G K m = true) => tk_inv g.ok q.ok hm h
  have hS := fun m (h : tk G K m = true) => (tk_iff q.ok m).1 h
  have hn1 := ofl_len (tk G K) 16
  rw [h0] at HAB e2
  rw [← e2] at HBA
  have HN1 := Lib.hid (show decide (0 < (ofl (tk G K) 16).length) = false from by rw [h0]; rfl)
  clear hv1 hv2 hal hca hcb hA hB lA lB hT hS e2 h0 g q pa pb hn1
  have X0 := Lib.hid ((Box.new w (G.W : Nat) (G.H : Nat) (.slice (some ⟨b, o, none⟩) (G.W * G.H) c)).alloc (.cells #[.int .i64 (K.W : Nat), .int .i64 (K.H : Nat), (.slice (some ⟨b2, o2, none⟩) (K.W * K.H) d)] 24))
  have Y0 := Lib.hid (show Box ((w.alloc (.cells #[.int .i64 (G.W : Nat), .int .i64 (G.H : Nat), (.slice (some ⟨b, o, none⟩) (G.W * G.H) c)] 24)).alloc (.cells #[.int .i64 (K.W : Nat), .int .i64 (K.H : Nat), (.slice (some ⟨b2, o2, none⟩) (K.W * K.H) d)] 24)) (w.heap.size + 1) (K.W : Nat) (K.H : Nat) (.slice (some ⟨b2, o2, none⟩) (K.W * K.H) d) from by have h := Box.new (w.alloc (.cells #[.int .i64 (G.W : Nat), .int .i64 (G.H : Nat), (.slice (some ⟨b, o, none⟩) (G.W * G.H) c)] 24)) (K.W : Nat) (K.H : Nat) (.slice (some ⟨b2, o2, none⟩) (K.W * K.H) d); rwa [World.size_alloc] at h)
  have LB0 := Lib.hid (show Below w.heap.size w ((w.alloc (.cells #[.int .i64 (G.W : Nat), .int .i64 (G.H : Nat), (.slice (some ⟨b, o, none⟩) (G.W * G.H) c)] 24)).alloc (.cells #[.int .i64 (K.W : Nat), .int .i64 (K.H : Nat), (.slice (some ⟨b2, o2, none⟩) (K.W * K.H) d)] 24)) from blA (blA (Below.refl _ _) (Nat.le_refl _) _) (Nat.le_refl _) _)
  go_enter Try.func16, Try.ntmps16
  obtain ⟨q0, q1, q2, q3, q4, q5, q6⟩ := X0.out.all
  go_wp2_with fail
  clear q0 q1 q2 q3 q4 q5 q6
  refine (HV1.out _).mono ?_
  rintro e w1 ⟨rfl, hb⟩
  have X1 := Lib.hid (X0.out.below hb X0.out.lt)
  have Y1 := Lib.hid (Y0.out.below hb Y0.out.lt)
  have LB1 := Lib.hid (LB0.out.trans (hb.mono LB0.out.size))
  clear hb X0 Y0 LB0
  obtain ⟨q0, q1, q2, q3, q4, q5, q6⟩ := Y1.out.all
  go_wp2_with fail
  clear q0 q1 q2 q3 q4 q5 q6
  refine (HV2.out _).mono ?_
  rintro e w2 ⟨rfl, hb⟩
  have X2 := Lib.hid (X1.out.below hb X1.out.lt)
  have Y2 := Lib.hid (Y1.out.below hb Y1.out.lt)
  have LB2 := Lib.hid (LB1.out.trans (hb.mono LB1.out.size))
  clear hb X1 Y1 LB1
  obtain ⟨q0, q1, q2, q3, q4, q5, q6⟩ := X2.out.all
  obtain ⟨r0, r1, r2, r3, r4, r5, r6⟩ := Y2.out.all
  go_wp2_with fail
  clear q0 q1 q2 q3 q4 q5 q6 r0 r1 r2 r3 r4 r5 r6
  refine (HAB.out _ LB2.out).mono ?_
  rintro e w3 ⟨D1, c1, rfl, hrw, hb⟩
  clear hrw
  have X3 := Lib.hid (X2.out.below hb X2.out.lt)
  have Y3 := Lib.hid (Y2.out.below hb Y2.out.lt)
  have LB3 := Lib.hid (LB2.out.trans (hb.mono LB2.out.size))
  clear hb X2 Y2 LB2
  obtain ⟨q0, q1, q2, q3, q4, q5, q6⟩ := Y3.out.all
  obtain ⟨r0, r1, r2, r3, r4, r5, r6⟩ := X3.out.all
  go_wp2_with fail
  clear q0 q1 q2 q3 q4 q5 q6 r0 r1 r2 r3 r4 r5 r6
  refine (HBA.out _ LB3.out).mono ?_
  rintro e w4 ⟨D2, c2, rfl, hrw, hb⟩
  clear hrw
  have X4 := Lib.hid (X3.out.below hb X3.out.lt)
  have Y4 := Lib.hid (Y3.out.below hb Y3.out.lt)
  have LB4 := Lib.hid (LB3.out.trans (hb.mono LB3.out.size))
  clear hb X3 Y3 LB3
  obtain ⟨q0, q1, q2, q3, q4, q5, q6⟩ := X4.out.all
  go_wp2_with fail
  clear q0 q1 q2 q3 q4 q5 q6
  refine (HOW.out _ LB4.out).mono ?_
  rintro e w5 ⟨D3, c3, rfl, hrw, hb⟩
  clear hrw
  have X5 := Lib.hid (X4.out.below hb X4.out.lt)
  have Y5 := Lib.hid (Y4.out.below hb Y4.out.lt)
  have LB5 := Lib.hid (LB4.out.trans (hb.mono LB4.out.size))
  clear hb X4 Y4 LB4
  obtain ⟨q0, q1, q2, q3, q4, q5, q6⟩ := X5.out.all
  go_wp2_with fail
  clear q0 q1 q2 q3 q4 q5 q6
  refine (HLA.out _ LB5.out).mono ?_
  rintro e w6 ⟨F, k4, d4, a1, rfl, hrow, hk, hBa1, hwa1, hha1, hb⟩
  have hba := (show Below _ _ (w6.alloc (.cells #[.int .i64 (F.W : Nat), .int .i64 (F.H : Nat), .slice (some ⟨k4, 0, none⟩) (F.W * F.H) d4] 24)) from hb.trans (((Below.refl _ _).alloc (Nat.le_refl _) _).mono hb.size))
  have Va6 := Lib.hid (Box.new w6 (F.W : Nat) (F.H : Nat) (.slice (some ⟨k4, 0, none⟩) (F.W * F.H) d4))
  have Ra6 := Lib.hid (hrow.alloc (.cells #[.int .i64 (F.W : Nat), .int .i64 (F.H : Nat), .slice (some ⟨k4, 0, none⟩) (F.W * F.H) d4] 24))
  have HBa1 := Lib.hid hBa1
  clear hb hrow hk hBa1
  have X6 := Lib.hid (X5.out.below hba X5.out.lt)
  have Y6 := Lib.hid (Y5.out.below hba Y5.out.lt)
  have LB6 := Lib.hid (LB5.out.trans (hba.mono LB5.out.size))
  clear hba X5 Y5 LB5
  obtain ⟨q0, q1, q2, q3, q4, q5, q6⟩ := Y6.out.all
  go_wp2_with fail
  clear q0 q1 q2 q3 q4 q5 q6
  refine (HLB.out _ LB6.out).mono ?_
  rintro e w7 ⟨F', k5, d5, a2, rfl, hrow, hk, hBa2, hwa2, hha2, hb⟩
  have hba := (show Below _ _ (w7.alloc (.cells #[.int .i64 (F'.W : Nat), .int .i64 (F'.H : Nat), .slice (some ⟨k5, 0, none⟩) (F'.W * F'.H) d5] 24)) from hb.trans (((Below.refl _ _).alloc (Nat.le_refl _) _).mono hb.size))
  have Vb7 := Lib.hid (Box.new w7 (F'.W : Nat) (F'.H : Nat) (.slice (some ⟨k5, 0, none⟩) (F'.W * F'.H) d5))
  have Rb7 := Lib.hid (hrow.alloc (.cells #[.int .i64 (F'.W : Nat), .int .i64 (F'.H : Nat), .slice (some ⟨k5, 0, none⟩) (F'.W * F'.H) d5] 24))
  have HBa2 := Lib.hid hBa2
  clear hb hrow hk hBa2
  have X7 := Lib.hid (X6.out.below hba X6.out.lt)
  have Y7 := Lib.hid (Y6.out.below hba Y6.out.lt)
  have LB7 := Lib.hid (LB6.out.trans (hba.mono LB6.out.size))
  have Va7 := Lib.hid (Va6.out.below hba Va6.out.lt)
  have Ra7 := Lib.hid (Ra6.out.below hba Ra6.out.lt)
  clear hba X6 Y6 LB6 Va6 Ra6
  have hsm := HSM.out F F' a1 a2 HBa1.out HBa2.out
  rw [HN1.out] at hsm
  have hFn : F.W * F.H ≤ 5000 := by have := Nat.mul_le_mul hwa1 hha1; omega
  have HS := Lib.hid (fun w (h1 : Row w k4 (F.W * F.H) F.f) (h2 : Row w k5 (F'.W * F'.H) F'.f) => (show Calls Try.prog 39 #[.agg #[.int .i64 (F.W : Nat), .int .i64 (F.H : Nat), .slice (some ⟨k4, 0, none⟩) (F.W * F.H) d4], .agg #[.int .i64 (F'.W : Nat), .int .i64 (F'.H : Nat), .slice (some ⟨k5, 0, none⟩) (F'.W * F'.H) d5]] w fun e w' => e = .returned (.bool false) ∧ Below w.heap.size w w' from by have h := same_gd F F' k4 d4 k5 d5 w hFn h1 h2; rwa [hsm] at h))
  clear hsm hFn HBa1 HBa2 hwa1 hha1 hwa2 hha2
  obtain ⟨q0, q1, q2, q3, q4, q5, q6⟩ := Va7.out.all
  obtain ⟨r0, r1, r2, r3, r4, r5, r6⟩ := Vb7.out.all
  go_wp2_with fail
  clear q0 q1 q2 q3 q4 q5 q6 r0 r1 r2 r3 r4 r5 r6
  refine (HS.out _ Ra7.out Rb7.out).mono ?_
  rintro e w8 ⟨rfl, hb⟩
  have X8 := Lib.hid (X7.out.below hb X7.out.lt)
  have Y8 := Lib.hid (Y7.out.below hb Y7.out.lt)
  have LB8 := Lib.hid (LB7.out.trans (hb.mono LB7.out.size))
  have Va8 := Lib.hid (Va7.out.below hb Va7.out.lt)
  have Ra8 := Lib.hid (Ra7.out.below hb Ra7.out.lt)
  have Vb8 := Lib.hid (Vb7.out.below hb Vb7.out.lt)
  have Rb8 := Lib.hid (Rb7.out.below hb Rb7.out.lt)
  clear hb X7 Y7 LB7 Va7 Ra7 Vb7 Rb7
  clear Va8
  clear Ra8
  clear Vb8
  clear Rb8
  clear X8
  clear Y8
  go_wp2
  refine wp_loop_rounds 1 ?_
  rw [rounds_succ]
  go_wp2_with fail
  refine (HAL.out _).mono ?_
  rintro e w9 ⟨rfl, hb⟩
  have LB9 := Lib.hid (LB8.out.trans (hb.mono LB8.out.size))
  clear hb LB8
  go_wp2
  go_ret
  exact ⟨rfl, LB9.out⟩
set_option maxHeartbeats 3200000 in
theorem al7_pos (G K : GD) (g : GM G) (q : GM K) (b o c b2 o2 d : Nat) (pa : G.W * G.H ≤ c) (pb : K.W * K.H ≤ d) (w : World) (la : b < w.heap.size) (lb : b2 < w.heap.size) (hca : ∀ i, i < G.W * G.H → w.cell? ⟨b, o + i, none⟩ = some (.bool (G.f i))) (hcb : ∀ i, i < K.W * K.H → w.cell? ⟨b2, o2 + i, none⟩ = some (.bool (K.f i))) (hn0 : 0 < (ofl (tk G K) 16).length) (hv1 : ∀ w, Calls Try.prog 65 #[.agg #[.int .i64 (G.W : Nat), .int .i64 (G.H : Nat), .slice (some ⟨b, o, none⟩) (G.W * G.H) c]] w fun e w' => e = .returned (.bool true) ∧ Below w.heap.size w w') (hv2 : ∀ w, Calls Try.prog 65 #[.agg #[.int .i64 (K.W : Nat), .int .i64 (K.H : Nat), .slice (some ⟨b2, o2, none⟩) (K.W * K.H) d]] w fun e w' => e = .returned (.bool true) ∧ Below w.heap.size w w') (hal : ∀ w, Calls Try.prog 56 #[] w fun e w' => e = .returned (.bool true) ∧ Below w.heap.size w w') :
    Calls Try.prog 16 #[.agg #[.int .i64 (G.W : Nat), .int .i64 (G.H : Nat), .slice (some ⟨b, o, none⟩) (G.W * G.H) c], .agg #[.int .i64 (K.W : Nat), .int .i64 (K.H : Nat), .slice (some ⟨b2, o2, none⟩) (K.W * K.H) d]] w fun e w' => e = .returned (.bool true) ∧ Below w.heap.size w w' := by
  have HV1 := Lib.hid hv1
  have HV2 := Lib.hid hv2
  have HAL := Lib.hid hal
  have hA := fun u (hu : Below w.heap.size w u) i (hi : i < G.W * G.H) => (hu.cell (p := ⟨b, o + i, none⟩) la).trans (hca i hi)
  have hB := fun u (hu : Below w.heap.size w u) i (hi : i < K.W * K.H) => (hu.cell (p := ⟨b2, o2 + i, none⟩) lb).trans (hcb i hi)
  have lA := fun u (hu : Below w.heap.size w u) => Nat.lt_of_lt_of_le la hu.size
  have lB := fun u (hu : Below w.heap.size w u) => Nat.lt_of_lt_of_le lb hu.size
  have HAB := Lib.hid (fun u (hu : Below w.heap.size w u) => palk_at g q b o c b2 o2 d u (lA u hu) (lB u hu) (hA u hu) (hB u hu) pa pb)
  have HBA := Lib.hid (fun u (hu : Below w.heap.size w u) => palk_at q g b2 o2 d b o c u (lB u hu) (lA u hu) (hB u hu) (hA u hu) pb pa)
  have HOW := Lib.hid (fun u (hu : Below w.heap.size w u) => pall_at g b o c u (lA u hu) (hA u hu) pa)
  have HLA := Lib.hid (fun u (hu : Below w.heap.size w u) => ple_ok G g.ok b o c u (lA u hu) (hA u hu) pa g.sk)
  have HLB := Lib.hid (fun u (hu : Below w.heap.size w u) => ple_ok K q.ok b2 o2 d u (lB u hu) (hB u hu) pb q.sk)
  have HSM := Lib.hid (fun (F F' : GD) (a a' : Nat) (hF : Best (Vm G 16) F a) (kF : Best (Vm K 16) F' a') => same_alike g.ok q.ok hF kF)
  have e2 := alike_back g.ok q.ok
  have hT := fun m (hm : m < 16) (h : tk G K m = true) => tk_inv g.ok q.ok hm h
  have hS := fun m (h : tk G K m = true) => (tk_iff q.ok m).1 h
  have hn1 := ofl_len (tk G K) 16
  have e3 : (ofl (tk G K) 16).length = (ofl (tk G G) 16).length := by
    rcases alike_num g.ok q.ok with h | ⟨_, h⟩
    · omega
    · exact h
  rw [← e2] at HBA
  rw [← e3] at HOW
  have HN1 := Lib.hid (show decide (0 < (ofl (tk G K) 16).length) = true from by rw [decide_eq_true_iff]; exact hn0)
  have HLm := Lib.hid (fun i (hi : i < (ofl (tk G K) 16).length) => (show lf (ofl (tk G K) 16) i = ((ln7 (ofl (tk G K) 16) i : Nat) : Int) ∧ ln7 (ofl (tk G K) 16) i < 16 ∧ tk G K (ln7 (ofl (tk G K) 16) i) = true from ⟨rfl, ln7_mem hi⟩))
  have HPy := Lib.hid (fun m (hm : m < 16) (h : tk G K m = true) => (show 0 ≤ pl7 (lf (ofl (tk K G) 16)) (inv m : Nat) (ofl (tk G K) 16).length from pl7_yes (by obtain ⟨i, h1, h2⟩ := ln7_at (g_inv m hm).1 (hT m hm h); exact ⟨i, by rw [e2]; exact h1, by rw [lf_ln, h2]⟩)))
  have HAp := Lib.hid (fun m (hm : m < 16) u (hu : Below w.heap.size w u) => papn G g b o c m hm u (lA u hu) (hA u hu))
  have HOf := Lib.hid (fun m (hm : m < 16) (h : tk G K m = true) => (show ∃ a' b' : Int, ∀ u kk dd, Below w.heap.size w u → (G.ap m).W * (G.ap m).H ≤ dd → Row u kk ((G.ap m).W * (G.ap m).H) (G.ap m).f → Calls Try.prog 25 #[.agg #[.int .i64 ((G.ap m).W : Nat), .int .i64 ((G.ap m).H : Nat), .slice (some ⟨kk, 0, none⟩) ((G.ap m).W * (G.ap m).H) dd], .agg #[.int .i64 (K.W : Nat), .int .i64 (K.H : Nat), .slice (some ⟨b2, o2, none⟩) (K.W * K.H) d]] u fun e w' => e = .returned (.tuple #[.agg #[.int .i64 a', .int .i64 b'], .int .i64 0]) ∧ Below u.heap.size u w' from by
    rcases foff (ap_ok g.ok m) q.ok with ⟨_, a', b', hF⟩ | ⟨hs, _⟩
    · exact ⟨a', b', fun u kk dd hu hd hr => poff_gm (g.ap m) q hF kk 0 dd b2 o2 d u hr.lt (lB u hu) (fun i hi => by rw [Nat.zero_add]; exact hr.cell hi) (hB u hu) hd pb⟩
    · exact absurd (hS m h) hs))
  clear hv1 hv2 hal hca hcb hA hB lA lB hT hS e2 e3 g q pa pb
  obtain ⟨N, hN⟩ : ∃ N, (ofl (tk G K) 16).length = N := ⟨_, rfl⟩
  simp only [hN] at HAB HBA HOW HN1 HLm HPy hn0 hn1 HSM
  clear hN
  generalize lf (ofl (tk G K) 16) = L1 at *
  generalize lf (ofl (tk K G) 16) = L2' at *
  generalize lf (ofl (tk G G) 16) = L3 at *
  generalize ln7 (ofl (tk G K) 16) = M at *
  obtain ⟨T, hT⟩ : ∃ T, tk G K = T := ⟨_, rfl⟩
  simp only [hT] at HLm HPy HOf
  clear hT
  have X0 := Lib.hid ((Box.new w (G.W : Nat) (G.H : Nat) (.slice (some ⟨b, o, none⟩) (G.W * G.H) c)).alloc (.cells #[.int .i64 (K.W : Nat), .int .i64 (K.H : Nat), (.slice (some ⟨b2, o2, none⟩) (K.W * K.H) d)] 24))
  have Y0 := Lib.hid (show Box ((w.alloc (.cells #[.int .i64 (G.W : Nat), .int .i64 (G.H : Nat), (.slice (some ⟨b, o, none⟩) (G.W * G.H) c)] 24)).alloc (.cells #[.int .i64 (K.W : Nat), .int .i64 (K.H : Nat), (.slice (some ⟨b2, o2, none⟩) (K.W * K.H) d)] 24)) (w.heap.size + 1) (K.W : Nat) (K.H : Nat) (.slice (some ⟨b2, o2, none⟩) (K.W * K.H) d) from by have h := Box.new (w.alloc (.cells #[.int .i64 (G.W : Nat), .int .i64 (G.H : Nat), (.slice (some ⟨b, o, none⟩) (G.W * G.H) c)] 24)) (K.W : Nat) (K.H : Nat) (.slice (some ⟨b2, o2, none⟩) (K.W * K.H) d); rwa [World.size_alloc] at h)
  have LB0 := Lib.hid (show Below w.heap.size w ((w.alloc (.cells #[.int .i64 (G.W : Nat), .int .i64 (G.H : Nat), (.slice (some ⟨b, o, none⟩) (G.W * G.H) c)] 24)).alloc (.cells #[.int .i64 (K.W : Nat), .int .i64 (K.H : Nat), (.slice (some ⟨b2, o2, none⟩) (K.W * K.H) d)] 24)) from blA (blA (Below.refl _ _) (Nat.le_refl _) _) (Nat.le_refl _) _)
  go_enter Try.func16, Try.ntmps16
  obtain ⟨q0, q1, q2, q3, q4, q5, q6⟩ := X0.out.all
  go_wp2_with fail
  clear q0 q1 q2 q3 q4 q5 q6
  refine (HV1.out _).mono ?_
  rintro e w1 ⟨rfl, hb⟩
  have X1 := Lib.hid (X0.out.below hb X0.out.lt)
  have Y1 := Lib.hid (Y0.out.below hb Y0.out.lt)
  have LB1 := Lib.hid (LB0.out.trans (hb.mono LB0.out.size))
  clear hb X0 Y0 LB0
  obtain ⟨q0, q1, q2, q3, q4, q5, q6⟩ := Y1.out.all
  go_wp2_with fail
  clear q0 q1 q2 q3 q4 q5 q6
  refine (HV2.out _).mono ?_
  rintro e w2 ⟨rfl, hb⟩
  have X2 := Lib.hid (X1.out.below hb X1.out.lt)
  have Y2 := Lib.hid (Y1.out.below hb Y1.out.lt)
  have LB2 := Lib.hid (LB1.out.trans (hb.mono LB1.out.size))
  clear hb X1 Y1 LB1
  obtain ⟨q0, q1, q2, q3, q4, q5, q6⟩ := X2.out.all
  obtain ⟨r0, r1, r2, r3, r4, r5, r6⟩ := Y2.out.all
  go_wp2_with fail
  clear q0 q1 q2 q3 q4 q5 q6 r0 r1 r2 r3 r4 r5 r6
  refine (HAB.out _ LB2.out).mono ?_
  rintro e w3 ⟨D1, c1, rfl, hrw, hb⟩
  obtain ⟨k1, rfl, _, hrow⟩ := hrw hn0
  clear hrw
  have La3 := Lib.hid (hrow)
  clear hrow
  have X3 := Lib.hid (X2.out.below hb X2.out.lt)
  have Y3 := Lib.hid (Y2.out.below hb Y2.out.lt)
  have LB3 := Lib.hid (LB2.out.trans (hb.mono LB2.out.size))
  clear hb X2 Y2 LB2
  obtain ⟨q0, q1, q2, q3, q4, q5, q6⟩ := Y3.out.all
  obtain ⟨r0, r1, r2, r3, r4, r5, r6⟩ := X3.out.all
  go_wp2_with fail
  clear q0 q1 q2 q3 q4 q5 q6 r0 r1 r2 r3 r4 r5 r6
  refine (HBA.out _ LB3.out).mono ?_
  rintro e w4 ⟨D2, c2, rfl, hrw, hb⟩
  obtain ⟨k2, rfl, _, hrow⟩ := hrw hn0
  clear hrw
  have Lb4 := Lib.hid (hrow)
  clear hrow
  have X4 := Lib.hid (X3.out.below hb X3.out.lt)
  have Y4 := Lib.hid (Y3.out.below hb Y3.out.lt)
  have LB4 := Lib.hid (LB3.out.trans (hb.mono LB3.out.size))
  have La4 := Lib.hid (La3.out.below hb La3.out.lt)
  clear hb X3 Y3 LB3 La3
  obtain ⟨q0, q1, q2, q3, q4, q5, q6⟩ := X4.out.all
  go_wp2_with fail
  clear q0 q1 q2 q3 q4 q5 q6
  refine (HOW.out _ LB4.out).mono ?_
  rintro e w5 ⟨D3, c3, rfl, hrw, hb⟩
  clear hrw
  have X5 := Lib.hid (X4.out.below hb X4.out.lt)
  have Y5 := Lib.hid (Y4.out.below hb Y4.out.lt)
  have LB5 := Lib.hid (LB4.out.trans (hb.mono LB4.out.size))
  have La5 := Lib.hid (La4.out.below hb La4.out.lt)
  have Lb5 := Lib.hid (Lb4.out.below hb Lb4.out.lt)
  clear hb X4 Y4 LB4 La4 Lb4
  obtain ⟨q0, q1, q2, q3, q4, q5, q6⟩ := X5.out.all
  go_wp2_with fail
  clear q0 q1 q2 q3 q4 q5 q6
  refine (HLA.out _ LB5.out).mono ?_
  rintro e w6 ⟨F, k4, d4, a1, rfl, hrow, hk, hBa1, hwa1, hha1, hb⟩
  have hba := (show Below _ _ (w6.alloc (.cells #[.int .i64 (F.W : Nat), .int .i64 (F.H : Nat), .slice (some ⟨k4, 0, none⟩) (F.W * F.H) d4] 24)) from hb.trans (((Below.refl _ _).alloc (Nat.le_refl _) _).mono hb.size))
  have Va6 := Lib.hid (Box.new w6 (F.W : Nat) (F.H : Nat) (.slice (some ⟨k4, 0, none⟩) (F.W * F.H) d4))
  have Ra6 := Lib.hid (hrow.alloc (.cells #[.int .i64 (F.W : Nat), .int .i64 (F.H : Nat), .slice (some ⟨k4, 0, none⟩) (F.W * F.H) d4] 24))
  have HBa1 := Lib.hid hBa1
  clear hb hrow hk hBa1
  have X6 := Lib.hid (X5.out.below hba X5.out.lt)
  have Y6 := Lib.hid (Y5.out.below hba Y5.out.lt)
  have LB6 := Lib.hid (LB5.out.trans (hba.mono LB5.out.size))
  have La6 := Lib.hid (La5.out.below hba La5.out.lt)
  have Lb6 := Lib.hid (Lb5.out.below hba Lb5.out.lt)
  clear hba X5 Y5 LB5 La5 Lb5
  obtain ⟨q0, q1, q2, q3, q4, q5, q6⟩ := Y6.out.all
  go_wp2_with fail
  clear q0 q1 q2 q3 q4 q5 q6
  refine (HLB.out _ LB6.out).mono ?_
  rintro e w7 ⟨F', k5, d5, a2, rfl, hrow, hk, hBa2, hwa2, hha2, hb⟩
  have hba := (show Below _ _ (w7.alloc (.cells #[.int .i64 (F'.W : Nat), .int .i64 (F'.H : Nat), .slice (some ⟨k5, 0, none⟩) (F'.W * F'.H) d5] 24)) from hb.trans (((Below.refl _ _).alloc (Nat.le_refl _) _).mono hb.size))
  have Vb7 := Lib.hid (Box.new w7 (F'.W : Nat) (F'.H : Nat) (.slice (some ⟨k5, 0, none⟩) (F'.W * F'.H) d5))
  have Rb7 := Lib.hid (hrow.alloc (.cells #[.int .i64 (F'.W : Nat), .int .i64 (F'.H : Nat), .slice (some ⟨k5, 0, none⟩) (F'.W * F'.H) d5] 24))
  have HBa2 := Lib.hid hBa2
  clear hb hrow hk hBa2
  have X7 := Lib.hid (X6.out.below hba X6.out.lt)
  have Y7 := Lib.hid (Y6.out.below hba Y6.out.lt)
  have LB7 := Lib.hid (LB6.out.trans (hba.mono LB6.out.size))
  have La7 := Lib.hid (La6.out.below hba La6.out.lt)
  have Lb7 := Lib.hid (Lb6.out.below hba Lb6.out.lt)
  have Va7 := Lib.hid (Va6.out.below hba Va6.out.lt)
  have Ra7 := Lib.hid (Ra6.out.below hba Ra6.out.lt)
  clear hba X6 Y6 LB6 La6 Lb6 Va6 Ra6
  have hsm := HSM.out F F' a1 a2 HBa1.out HBa2.out
  rw [HN1.out] at hsm
  have hFn : F.W * F.H ≤ 5000 := by have := Nat.mul_le_mul hwa1 hha1; omega
  have HS := Lib.hid (fun w (h1 : Row w k4 (F.W * F.H) F.f) (h2 : Row w k5 (F'.W * F'.H) F'.f) => (show Calls Try.prog 39 #[.agg #[.int .i64 (F.W : Nat), .int .i64 (F.H : Nat), .slice (some ⟨k4, 0, none⟩) (F.W * F.H) d4], .agg #[.int .i64 (F'.W : Nat), .int .i64 (F'.H : Nat), .slice (some ⟨k5, 0, none⟩) (F'.W * F'.H) d5]] w fun e w' => e = .returned (.bool true) ∧ Below w.heap.size w w' from by have h := same_gd F F' k4 d4 k5 d5 w hFn h1 h2; rwa [hsm] at h))
  clear hsm hFn HBa1 HBa2 hwa1 hha1 hwa2 hha2
  have y1 : ((N : Int) != 0) = true := by simp; omega
  have y2 : ((N : Int) != (N : Int)) = false := by simp
  have y3 : decide ((0 : Int) < (N : Int)) = true := by simp; omega
  have y4 : (0 : Int) < (N : Int) := by omega
  have y5 : ¬ N = 0 := by omega
  obtain ⟨q0, q1, q2, q3, q4, q5, q6⟩ := Va7.out.all
  obtain ⟨r0, r1, r2, r3, r4, r5, r6⟩ := Vb7.out.all
  go_wp2_with fail
  clear q0 q1 q2 q3 q4 q5 q6 r0 r1 r2 r3 r4 r5 r6
  refine (HS.out _ Ra7.out Rb7.out).mono ?_
  rintro e w8 ⟨rfl, hb⟩
  have X8 := Lib.hid (X7.out.below hb X7.out.lt)
  have Y8 := Lib.hid (Y7.out.below hb Y7.out.lt)
  have LB8 := Lib.hid (LB7.out.trans (hb.mono LB7.out.size))
  have La8 := Lib.hid (La7.out.below hb La7.out.lt)
  have Lb8 := Lib.hid (Lb7.out.below hb Lb7.out.lt)
  have Va8 := Lib.hid (Va7.out.below hb Va7.out.lt)
  have Ra8 := Lib.hid (Ra7.out.below hb Ra7.out.lt)
  have Vb8 := Lib.hid (Vb7.out.below hb Vb7.out.lt)
  have Rb8 := Lib.hid (Rb7.out.below hb Rb7.out.lt)
  clear hb X7 Y7 LB7 La7 Lb7 Va7 Ra7 Vb7 Rb7
  clear Va8
  clear Ra8
  clear Vb8
  clear Rb8
  have S0 : Hid (A7 w w8 (G.W : Nat) (G.H : Nat) (.slice (some ⟨b, o, none⟩) (G.W * G.H) c) (K.W : Nat) (K.H : Nat) (.slice (some ⟨b2, o2, none⟩) (K.W * K.H) d) k1 k2 N L1 L2') := Lib.hid ⟨X8.out, Y8.out, La8.out, Lb8.out, LB8.out⟩
  clear X8 Y8 La8 Lb8 LB8
  go_wp2
  clear y1 y2 y3 y4
  have HPl := Lib.hid (fun u (hu : L2.Row u k2 N L2') (x : Int) => place_det (some ⟨k2, 0, none⟩) N c2 L2' x u (hu.holds hu.lt) (by omega))
  go_loopw [17] (fun v wr => ∃ i : Nat, i ≤ N ∧ v = .int .i64 i ∧ Hid (A7 w wr (G.W : Nat) (G.H : Nat) (.slice (some ⟨b, o, none⟩) (G.W * G.H) c) (K.W : Nat) (K.H : Nat) (.slice (some ⟨b2, o2, none⟩) (K.W * K.H) d) k1 k2 N L1 L2')) (fun v _ => N - (intOf v).toNat)
  case atStart => exact ⟨0, by omega, rfl, S0⟩
  case round =>
    obtain ⟨i, hi, rfl, HS2⟩ := hrel
    by_cases hli : i < N
    · obtain ⟨e1, e2, e3⟩ := HLm.out i hli
      have HPi := Lib.hid (HPy.out (M i) e2 e3)
      have HIv := Lib.hid (fun u => pinv_ok (M i) e2 u)
      obtain ⟨a', b', h2⟩ := HOf.out (M i) e2 e3
      have HA := Lib.hid (fun u hu => HAp.out (M i) e2 u hu)
      have j1 := HS2.out.l1.cell hli
      rw [e1] at j1
      have HM1 := Lib.hid e1
      obtain ⟨a, ha⟩ : ∃ a, M i = a := ⟨_, rfl⟩
      simp only [ha] at j1 HPi HIv HA HM1 h2
      obtain ⟨E, hE⟩ : ∃ E, G.ap a = E := ⟨_, rfl⟩
      simp only [hE] at HA h2
      have HO := Lib.hid h2
      clear e1 e2 e3 ha hE h2
      obtain ⟨a4, hia⟩ : ∃ x, inv a = x := ⟨_, rfl⟩
      simp only [hia] at HPi HIv
      clear hia
      have y1 : (i : Int) < (N : Int) := by omega
      go_wp2_with fail
      clear j1
      refine (HIv.out _).mono ?_
      rintro e v0 ⟨rfl, hb⟩
      have HS3 := Lib.hid (HS2.out.next hb)
      clear hb HS2
      go_upto_region 14 with fail
      go_cut [20, 21] (fun p q wx => ∃ g k d', p = .pointer (some ⟨g, 0, none⟩) ∧ q = .int .i64 0 ∧ Box wx g (E.W : Nat) (E.H : Nat) (.slice (some ⟨k, 0, none⟩) (E.W * E.H) d') ∧ E.W * E.H ≤ d' ∧ Row wx k (E.W * E.H) E.f ∧ Below v0.heap.size v0 wx)
      case first =>
        have HSc := Lib.hid (fun u (h : Below v0.heap.size v0 u) => (show u.cell? ⟨w.heap.size, 0, none⟩ = some (.int .i64 (G.W : Nat)) ∧ u.cell? ⟨w.heap.size, 1, none⟩ = some (.int .i64 (G.H : Nat)) ∧ u.cell? ⟨w.heap.size, 2, none⟩ = some (.slice (some ⟨b, o, none⟩) (G.W * G.H) c) ∧ u.cell? ⟨k1, i, none⟩ = some (.int .i64 (a : Nat)) from by
          have h1 := HS3.out.next h
          have h2 := h1.l1.cell hli
          rw [HM1.out] at h2
          exact ⟨h1.g.c0, h1.g.c1, h1.g.c2, h2⟩))
        have HA1 := Lib.hid (fun u (h : Below v0.heap.size v0 u) => HA.out u (HS3.out.bel.trans (h.mono HS3.out.bel.size)))
        obtain ⟨q0, q1, q2, q3⟩ := HSc.out _ (Below.refl _ _)
        go_region_held3 (fun w' => w'.cell? ⟨w.heap.size, 0, none⟩ = some (.int .i64 (G.W : Nat)) ∧ w'.cell? ⟨w.heap.size, 1, none⟩ = some (.int .i64 (G.H : Nat)) ∧ w'.cell? ⟨w.heap.size, 2, none⟩ = some (.slice (some ⟨b, o, none⟩) (G.W * G.H) c) ∧ w'.cell? ⟨k1, i, none⟩ = some (.int .i64 (a : Nat)))
          (exact HSc.out _ (by (repeat' (first | assumption | exact Below.refl _ _ | refine Below.drew ?_ | refine blA ?_ (Nat.le_refl _) _ | refine Below.setCell ?_ (by first | exact Nat.le_refl _ | exact hx1.size) _))))
          (first
            | (go_at_call 47
               with_reducible refine Calls.mono (HA1.out _ (by (repeat' (first | assumption | exact Below.refl _ _ | refine Below.drew ?_ | refine blA ?_ (Nat.le_refl _) _)))) ?_
               rintro e u1 ⟨k, d', rfl, hcap, hk1, hrow1, hb1⟩
               have hx1 : Below v0.heap.size v0 u1 := blT (by (repeat' (first | assumption | exact Below.refl _ _ | refine Below.drew ?_ | refine blA ?_ (Nat.le_refl _) _))) (Nat.le_refl _) hb1
               have hR1 := Lib.hid hrow1
               try (have kp1 : Box u1 v0.heap.size 0 0 (.slice none 0 0) := boxk hb1 (by (first | assumption | exact Box.new _ _ _ _ | exact (Box.new _ _ _ _).drew)); have hp1 := Lib.hid kp1; have hne1 : k ≠ v0.heap.size := (by simp at hk1; omega); obtain ⟨g0, g1, g2, g3, g4, g5, g6⟩ := kp1.all)
               clear hrow1))
        all_goals
          go_wp2_with fail
          go_meet
          first
          | exact ⟨_, _, _, rfl, rfl, Box.new _ _ _ _, hcap, hR1.out.alloc _, blA hx1 (Nat.le_refl _) _⟩
          | exact ⟨_, _, _, rfl, rfl, box_set3 hp1.out _ _ _, hcap, row_far3 hR1.out hne1 _ _ _, ((hx1.setCell (Nat.le_refl _) _).setCell (Nat.le_refl _) _).setCell (Nat.le_refl _) _⟩
      case rest =>
        obtain ⟨g9, k9, d9, rfl, rfl, hbx, hcap, hrow, hb⟩ := hcut
        have HS4 := Lib.hid (HS3.out.next hb)
        have V4 := Lib.hid hbx
        have R4 := Lib.hid hrow
        rename_i u4
        clear hb hbx hrow HS3
        obtain ⟨q0, q1, q2, q3, q4, q5, q6⟩ := V4.out.all
        obtain ⟨r0, r1, r2, r3, r4, r5, r6⟩ := HS4.out.k.all
        go_wp2_with fail
        clear q0 q1 q2 q3 q4 q5 q6 r0 r1 r2 r3 r4 r5 r6
        refine (HO.out _ k9 d9 HS4.out.bel hcap R4.out).mono ?_
        rintro e v5 ⟨rfl, hb⟩
        have HS5 := Lib.hid ((HS4.out.next hb).next (blA (Below.refl _ _) (Nat.le_refl _) (.cells #[.int .i64 a', .int .i64 b'] 40)))
        clear hb HS4
        obtain ⟨p, hpq⟩ : ∃ p, pl7 L2' (a4 : Nat) N = p := ⟨_, rfl⟩
        rw [hpq] at HPi
        have HPQ := Lib.hid hpq
        clear hpq
        go_wp2_with fail
        refine (HPl.out _ HS5.out.l2 _).mono ?_
        rintro e wx ⟨rfl, hww⟩
        subst wx
        rw [HPQ.out]
        have hp := HPi.out
        have hp1 : ¬ p < 0 := by omega
        go_wp2
        exact ⟨⟨i + 1, by omega, by go_num, HS5⟩, by simp [intOf]; omega⟩
    · have e : i = N := by omega
      subst e
      go_wp2_with fail
      refine (HAL.out _).mono ?_
      rintro e w99 ⟨rfl, hb⟩
      have HL9 := Lib.hid (HS2.out.bel.trans (hb.mono HS2.out.bel.size))
      clear hb
      go_wp2
      go_ret
      exact ⟨rfl, HL9.out⟩
theorem alike7_any (W H : Int) (A : Option Addr) (n c : Nat) (f : Nat → Bool) (X Y : Int) (D : Option Addr) (m d : Nat) (f' : Nat → Bool) (w : World) (hr : Holds w w.heap.size A n f) (hc : n ≤ c) (hs : Holds w w.heap.size D m f') (hd : m ≤ d) (hal : ∀ w, Calls Try.prog 56 #[] w fun e w' => e = .returned (.bool true) ∧ Below w.heap.size w w') :
    Calls Try.prog 16 #[.agg #[.int .i64 W, .int .i64 H, .slice A n c], .agg #[.int .i64 X, .int .i64 Y, .slice D m d]] w fun e w' => e = .returned (.bool true) ∧ Below w.heap.size w w' := by
  rcases valid7_case W H A n c with h | ⟨h, U, V, rfl, rfl, rfl, hg⟩
  · exact al7_a W H X Y A D n c m d w h hal
  · rcases valid7_case X Y D m d with h' | ⟨h', U', V', rfl, rfl, rfl, hg'⟩
    · exact al7_b _ _ X Y A D _ c m d w h h' hal
    · obtain ⟨b, o, rfl, la, hca⟩ := hr (hg f).n0
      obtain ⟨b2, o2, rfl, lb, hcb⟩ := hs (hg' f').n0
      rcases Nat.eq_zero_or_pos (ofl (tk ⟨U, V, f⟩ ⟨U', V', f'⟩) 16).length with h0 | h0
      · exact al7_zero ⟨U, V, f⟩ ⟨U', V', f'⟩ (hg f) (hg' f') b o c b2 o2 d hc hd w la lb hca hcb h0 h h' hal
      · exact al7_pos ⟨U, V, f⟩ ⟨U', V', f'⟩ (hg f) (hg' f') b o c b2 o2 d hc hd w la lb hca hcb h0 h h' hal
end Go.Proofs.Ytjbofdgdcnfmoaa
