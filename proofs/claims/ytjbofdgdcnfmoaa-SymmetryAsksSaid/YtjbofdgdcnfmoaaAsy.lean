/- The statement SymmetryAsks: the walk. -/
import Derived.Test.YtjbofdgdcnfmoaaAlt
namespace Go.Proofs.Ytjbofdgdcnfmoaa
open Go.RowKit
set_option maxRecDepth 100000
set_option linter.unusedVariables false
set_option linter.unusedSimpArgs false

/-- A list that a call has made. -/
structure LW (v : World) (D : Option Addr) (n : Nat) (f : Nat → Int) : Prop where
  h : L2.Holds v v.heap.size D n f
theorem LW.next {v v' : World} {D : Option Addr} {n : Nat} {f : Nat → Int} (h : LW v D n f) (hb : Below v.heap.size v v') : LW v' D n f := ⟨(h.h.below hb).more hb.size⟩
theorem LW.of {v : World} {lo : Nat} {D : Option Addr} {n : Nat} {f : Nat → Int} (h : 0 < n → ∃ k, D = some ⟨k, 0, none⟩ ∧ lo ≤ k ∧ L2.Row v k n f) : LW v D n f :=
  ⟨fun hn => by obtain ⟨k, rfl, _, hr⟩ := h hn; exact hr.holds hr.lt hn⟩
theorem lw_same {v : World} {D E : Option Addr} {n : Nat} {f : Nat → Int} (hn : n ≤ 5000) (h : LW v D n f) (k : LW v E n f) (c d : Nat) : Calls Try.prog 53 #[.slice D n c, .slice E n d] v fun e w' => e = .returned (.bool true) ∧ Below v.heap.size v w' := by
  have h1 := L2.rsame_any D E n c d f f v hn h.h k.h
  rwa [decide_eq_true (fun _ _ => rfl)] at h1
set_option maxHeartbeats 800000 in
theorem asks7_g1 (W H X Y : Int) (A D : Option Addr) (n c m d : Nat) (op : Int) (w : World) (hg1 : ∀ w, Calls Try.prog 57 #[.agg #[.int .i64 W, .int .i64 H, .slice A n c]] w fun e w' => e = .returned (.bool true) ∧ Below w.heap.size w w') :
    Calls Try.prog 12 #[.agg #[.int .i64 W, .int .i64 H, .slice A n c], .agg #[.int .i64 X, .int .i64 Y, .slice D m d], .int .i64 op] w fun e w' => e = .returned (.bool true) ∧ Below w.heap.size w w' := by
  have HG1 := Lib.hid hg1
  clear hg1
  have X0 := Lib.hid ((Box.new w W H (.slice A n c)).alloc (.cells #[.int .i64 X, .int .i64 Y, .slice D m d] 24))
  have Y0 := Lib.hid (show Box ((w.alloc (.cells #[.int .i64 W, .int .i64 H, .slice A n c] 24)).alloc (.cells #[.int .i64 X, .int .i64 Y, .slice D m d] 24)) (w.heap.size + 1) X Y (.slice D m d) from by have h := Box.new (w.alloc (.cells #[.int .i64 W, .int .i64 H, .slice A n c] 24)) X Y (.slice D m d); rwa [World.size_alloc] at h)
  have LB0 := Lib.hid (show Below w.heap.size w ((w.alloc (.cells #[.int .i64 W, .int .i64 H, .slice A n c] 24)).alloc (.cells #[.int .i64 X, .int .i64 Y, .slice D m d] 24)) from blA (blA (Below.refl _ _) (Nat.le_refl _) _) (Nat.le_refl _) _)
  go_enter Try.func12, Try.ntmps12
  obtain ⟨q0, q1, q2, q3, q4, q5, q6⟩ := X0.out.all
  go_wp2_with fail
  clear q0 q1 q2 q3 q4 q5 q6
  refine (HG1.out _).mono ?_
  rintro e w1 ⟨rfl, hb⟩
  have X1 := Lib.hid (X0.out.below hb X0.out.lt)
  have Y1 := Lib.hid (Y0.out.below hb Y0.out.lt)
  have LB1 := Lib.hid (LB0.out.trans (hb.mono LB0.out.size))
  clear hb X0 Y0 LB0
  go_wp2
  go_ret
  exact ⟨rfl, LB1.out⟩
set_option maxHeartbeats 800000 in
theorem asks7_g2 (W H X Y : Int) (A D : Option Addr) (n c m d : Nat) (op : Int) (w : World) (hg1 : ∀ w, Calls Try.prog 57 #[.agg #[.int .i64 W, .int .i64 H, .slice A n c]] w fun e w' => e = .returned (.bool false) ∧ Below w.heap.size w w') (hg2 : ∀ w, Calls Try.prog 57 #[.agg #[.int .i64 X, .int .i64 Y, .slice D m d]] w fun e w' => e = .returned (.bool true) ∧ Below w.heap.size w w') :
    Calls Try.prog 12 #[.agg #[.int .i64 W, .int .i64 H, .slice A n c], .agg #[.int .i64 X, .int .i64 Y, .slice D m d], .int .i64 op] w fun e w' => e = .returned (.bool true) ∧ Below w.heap.size w w' := by
  have HG1 := Lib.hid hg1
  have HG2 := Lib.hid hg2
  clear hg1 hg2
  have X0 := Lib.hid ((Box.new w W H (.slice A n c)).alloc (.cells #[.int .i64 X, .int .i64 Y, .slice D m d] 24))
  have Y0 := Lib.hid (show Box ((w.alloc (.cells #[.int .i64 W, .int .i64 H, .slice A n c] 24)).alloc (.cells #[.int .i64 X, .int .i64 Y, .slice D m d] 24)) (w.heap.size + 1) X Y (.slice D m d) from by have h := Box.new (w.alloc (.cells #[.int .i64 W, .int .i64 H, .slice A n c] 24)) X Y (.slice D m d); rwa [World.size_alloc] at h)
  have LB0 := Lib.hid (show Below w.heap.size w ((w.alloc (.cells #[.int .i64 W, .int .i64 H, .slice A n c] 24)).alloc (.cells #[.int .i64 X, .int .i64 Y, .slice D m d] 24)) from blA (blA (Below.refl _ _) (Nat.le_refl _) _) (Nat.le_refl _) _)
  go_enter Try.func12, Try.ntmps12
  obtain ⟨q0, q1, q2, q3, q4, q5, q6⟩ := X0.out.all
  go_wp2_with fail
  clear q0 q1 q2 q3 q4 q5 q6
  refine (HG1.out _).mono ?_
  rintro e w1 ⟨rfl, hb⟩
  have X1 := Lib.hid (X0.out.below hb X0.out.lt)
  have Y1 := Lib.hid (Y0.out.below hb Y0.out.lt)
  have LB1 := Lib.hid (LB0.out.trans (hb.mono LB0.out.size))
  clear hb X0 Y0 LB0
  obtain ⟨q0, q1, q2, q3, q4, q5, q6⟩ := Y1.out.all
  go_wp2_with fail
  clear q0 q1 q2 q3 q4 q5 q6
  refine (HG2.out _).mono ?_
  rintro e w2 ⟨rfl, hb⟩
  have X2 := Lib.hid (X1.out.below hb X1.out.lt)
  have Y2 := Lib.hid (Y1.out.below hb Y1.out.lt)
  have LB2 := Lib.hid (LB1.out.trans (hb.mono LB1.out.size))
  clear hb X1 Y1 LB1
  go_wp2
  go_ret
  exact ⟨rfl, LB2.out⟩
set_option maxHeartbeats 3200000 in
theorem asks7_main (W H X Y : Int) (A D : Option Addr) (n c m d : Nat) (f g : Nat → Bool) (op : Int) (w : World) (hr : Holds w w.heap.size A n f) (hs : Holds w w.heap.size D m g) (hn : n ≤ 500) (hm : m ≤ 500) (hc : n ≤ c) (hd : m ≤ d) (hg1 : ∀ w, Calls Try.prog 57 #[.agg #[.int .i64 W, .int .i64 H, .slice A n c]] w fun e w' => e = .returned (.bool false) ∧ Below w.heap.size w w') (hg2 : ∀ w, Calls Try.prog 57 #[.agg #[.int .i64 X, .int .i64 Y, .slice D m d]] w fun e w' => e = .returned (.bool false) ∧ Below w.heap.size w w') :
    Calls Try.prog 12 #[.agg #[.int .i64 W, .int .i64 H, .slice A n c], .agg #[.int .i64 X, .int .i64 Y, .slice D m d], .int .i64 op] w fun e w' => e = .returned (.bool true) ∧ Below w.heap.size w w' := by
  have HG1 := Lib.hid hg1
  have HG2 := Lib.hid hg2
  obtain ⟨t, p, q, z1, h1⟩ := has_two W H A n c f op w hr (by omega) hc
  obtain ⟨N1, F1, z2, hN1, h2⟩ := all_two W H A n c f w hr (by omega) hc
  obtain ⟨N2, F2, z3, hN2, h3⟩ := alk_two W H X Y A D n c m d f g w hr hs (by omega) (by omega) hc hd
  have H1 := Lib.hid h1
  have H2 := Lib.hid h2
  have H3 := Lib.hid h3
  clear hg1 hg2 h1 h2 h3 hr hs
  have X0 := Lib.hid ((Box.new w W H (.slice A n c)).alloc (.cells #[.int .i64 X, .int .i64 Y, .slice D m d] 24))
  have Y0 := Lib.hid (show Box ((w.alloc (.cells #[.int .i64 W, .int .i64 H, .slice A n c] 24)).alloc (.cells #[.int .i64 X, .int .i64 Y, .slice D m d] 24)) (w.heap.size + 1) X Y (.slice D m d) from by have h := Box.new (w.alloc (.cells #[.int .i64 W, .int .i64 H, .slice A n c] 24)) X Y (.slice D m d); rwa [World.size_alloc] at h)
  have LB0 := Lib.hid (show Below w.heap.size w ((w.alloc (.cells #[.int .i64 W, .int .i64 H, .slice A n c] 24)).alloc (.cells #[.int .i64 X, .int .i64 Y, .slice D m d] 24)) from blA (blA (Below.refl _ _) (Nat.le_refl _) _) (Nat.le_refl _) _)
  go_enter Try.func12, Try.ntmps12
  obtain ⟨q0, q1, q2, q3, q4, q5, q6⟩ := X0.out.all
  go_wp2_with fail
  clear q0 q1 q2 q3 q4 q5 q6
  refine (HG1.out _).mono ?_
  rintro e w1 ⟨rfl, hb⟩
  have X1 := Lib.hid (X0.out.below hb X0.out.lt)
  have Y1 := Lib.hid (Y0.out.below hb Y0.out.lt)
  have LB1 := Lib.hid (LB0.out.trans (hb.mono LB0.out.size))
  clear hb X0 Y0 LB0
  obtain ⟨q0, q1, q2, q3, q4, q5, q6⟩ := Y1.out.all
  go_wp2_with fail
  clear q0 q1 q2 q3 q4 q5 q6
  refine (HG2.out _).mono ?_
  rintro e w2 ⟨rfl, hb⟩
  have X2 := Lib.hid (X1.out.below hb X1.out.lt)
  have Y2 := Lib.hid (Y1.out.below hb Y1.out.lt)
  have LB2 := Lib.hid (LB1.out.trans (hb.mono LB1.out.size))
  clear hb X1 Y1 LB1
  obtain ⟨q0, q1, q2, q3, q4, q5, q6⟩ := X2.out.all
  go_wp2_with fail
  clear q0 q1 q2 q3 q4 q5 q6
  refine ((H1.out _ LB2.out).1).mono ?_
  rintro e w3 ⟨rfl, hb⟩
  have hba := (show Below _ _ (w3.alloc (.cells #[.int .i64 p, .int .i64 q] 40)) from hb.trans (((Below.refl _ _).alloc (Nat.le_refl _) _).mono hb.size))
  have Pa3 := Lib.hid (Pt.new w3 p q)
  clear hb
  have X3 := Lib.hid (X2.out.below hba X2.out.lt)
  have Y3 := Lib.hid (Y2.out.below hba Y2.out.lt)
  have LB3 := Lib.hid (LB2.out.trans (hba.mono LB2.out.size))
  clear hba X2 Y2 LB2
  obtain ⟨q0, q1, q2, q3, q4, q5, q6⟩ := X3.out.all
  go_wp2_with fail
  clear q0 q1 q2 q3 q4 q5 q6
  refine ((H1.out _ LB3.out).2).mono ?_
  rintro e w4 ⟨rfl, hb⟩
  have hba := (show Below _ _ (w4.alloc (.cells #[.int .i64 p, .int .i64 q] 40)) from hb.trans (((Below.refl _ _).alloc (Nat.le_refl _) _).mono hb.size))
  have Pb4 := Lib.hid (Pt.new w4 p q)
  clear hb
  have X4 := Lib.hid (X3.out.below hba X3.out.lt)
  have Y4 := Lib.hid (Y3.out.below hba Y3.out.lt)
  have LB4 := Lib.hid (LB3.out.trans (hba.mono LB3.out.size))
  have Pa4 := Lib.hid (Pa3.out.below hba Pa3.out.lt)
  clear hba X3 Y3 LB3 Pa3
  obtain ⟨q0, q1, q2, q3, q4, q5, q6⟩ := X4.out.all
  go_wp2_with fail
  clear q0 q1 q2 q3 q4 q5 q6
  refine ((H2.out _ LB4.out).1).mono ?_
  rintro e w5 ⟨D1, c1, rfl, hr, hb⟩
  have La5 := Lib.hid (LW.of hr)
  clear hr
  have X5 := Lib.hid (X4.out.below hb X4.out.lt)
  have Y5 := Lib.hid (Y4.out.below hb Y4.out.lt)
  have LB5 := Lib.hid (LB4.out.trans (hb.mono LB4.out.size))
  have Pa5 := Lib.hid (Pa4.out.below hb Pa4.out.lt)
  have Pb5 := Lib.hid (Pb4.out.below hb Pb4.out.lt)
  clear hb X4 Y4 LB4 Pa4 Pb4
  obtain ⟨q0, q1, q2, q3, q4, q5, q6⟩ := X5.out.all
  go_wp2_with fail
  clear q0 q1 q2 q3 q4 q5 q6
  refine ((H2.out _ LB5.out).2).mono ?_
  rintro e w6 ⟨D2, c2, rfl, hr, hb⟩
  have Lb6 := Lib.hid (LW.of hr)
  clear hr
  have X6 := Lib.hid (X5.out.below hb X5.out.lt)
  have Y6 := Lib.hid (Y5.out.below hb Y5.out.lt)
  have LB6 := Lib.hid (LB5.out.trans (hb.mono LB5.out.size))
  have Pa6 := Lib.hid (Pa5.out.below hb Pa5.out.lt)
  have Pb6 := Lib.hid (Pb5.out.below hb Pb5.out.lt)
  have La6 := Lib.hid (La5.out.next hb)
  clear hb X5 Y5 LB5 Pa5 Pb5 La5
  obtain ⟨q0, q1, q2, q3, q4, q5, q6⟩ := X6.out.all
  obtain ⟨r0, r1, r2, r3, r4, r5, r6⟩ := Y6.out.all
  go_wp2_with fail
  clear q0 q1 q2 q3 q4 q5 q6 r0 r1 r2 r3 r4 r5 r6
  refine ((H3.out _ LB6.out).1).mono ?_
  rintro e w7 ⟨D3, c3, rfl, hr, hb⟩
  have Lc7 := Lib.hid (LW.of hr)
  clear hr
  have X7 := Lib.hid (X6.out.below hb X6.out.lt)
  have Y7 := Lib.hid (Y6.out.below hb Y6.out.lt)
  have LB7 := Lib.hid (LB6.out.trans (hb.mono LB6.out.size))
  have Pa7 := Lib.hid (Pa6.out.below hb Pa6.out.lt)
  have Pb7 := Lib.hid (Pb6.out.below hb Pb6.out.lt)
  have La7 := Lib.hid (La6.out.next hb)
  have Lb7 := Lib.hid (Lb6.out.next hb)
  clear hb X6 Y6 LB6 Pa6 Pb6 La6 Lb6
  obtain ⟨q0, q1, q2, q3, q4, q5, q6⟩ := X7.out.all
  obtain ⟨r0, r1, r2, r3, r4, r5, r6⟩ := Y7.out.all
  go_wp2_with fail
  clear q0 q1 q2 q3 q4 q5 q6 r0 r1 r2 r3 r4 r5 r6
  refine ((H3.out _ LB7.out).2).mono ?_
  rintro e w8 ⟨D4, c4, rfl, hr, hb⟩
  have Ld8 := Lib.hid (LW.of hr)
  clear hr
  have X8 := Lib.hid (X7.out.below hb X7.out.lt)
  have Y8 := Lib.hid (Y7.out.below hb Y7.out.lt)
  have LB8 := Lib.hid (LB7.out.trans (hb.mono LB7.out.size))
  have Pa8 := Lib.hid (Pa7.out.below hb Pa7.out.lt)
  have Pb8 := Lib.hid (Pb7.out.below hb Pb7.out.lt)
  have La8 := Lib.hid (La7.out.next hb)
  have Lb8 := Lib.hid (Lb7.out.next hb)
  have Lc8 := Lib.hid (Lc7.out.next hb)
  clear hb X7 Y7 LB7 Pa7 Pb7 La7 Lb7 Lc7
  clear X8
  clear Y8
  have s1 : (t == t) = true := by simp
  have s2 : (p == p) = true := by simp
  have s3 : (q == q) = true := by simp
  have s4 : (z1 == z1) = true := by simp
  have s5 : (z2 == z2) = true := by simp
  have s6 : (z3 == z3) = true := by simp
  obtain ⟨q0, q1, q2, q3⟩ := Pa8.out.all
  obtain ⟨r0, r1, r2, r3⟩ := Pb8.out.all
  go_wp2_with fail
  clear q0 q1 q2 q3 r0 r1 r2 r3
  refine (lw_same (by omega) La8.out Lb8.out _ _).mono ?_
  rintro e w9 ⟨rfl, hb⟩
  have LB9 := Lib.hid (LB8.out.trans (hb.mono LB8.out.size))
  have Pa9 := Lib.hid (Pa8.out.below hb Pa8.out.lt)
  have Pb9 := Lib.hid (Pb8.out.below hb Pb8.out.lt)
  have La9 := Lib.hid (La8.out.next hb)
  have Lb9 := Lib.hid (Lb8.out.next hb)
  have Lc9 := Lib.hid (Lc8.out.next hb)
  have Ld9 := Lib.hid (Ld8.out.next hb)
  clear hb LB8 Pa8 Pb8 La8 Lb8 Lc8 Ld8
  go_wp2_with fail
  refine (lw_same (by omega) Lc9.out Ld9.out _ _).mono ?_
  rintro e w10 ⟨rfl, hb⟩
  have LB10 := Lib.hid (LB9.out.trans (hb.mono LB9.out.size))
  have Pa10 := Lib.hid (Pa9.out.below hb Pa9.out.lt)
  have Pb10 := Lib.hid (Pb9.out.below hb Pb9.out.lt)
  have La10 := Lib.hid (La9.out.next hb)
  have Lb10 := Lib.hid (Lb9.out.next hb)
  have Lc10 := Lib.hid (Lc9.out.next hb)
  have Ld10 := Lib.hid (Ld9.out.next hb)
  clear hb LB9 Pa9 Pb9 La9 Lb9 Lc9 Ld9
  go_wp2
  go_ret
  exact ⟨rfl, LB10.out⟩
theorem asks7_any (W H X Y : Int) (A D : Option Addr) (n c m d : Nat) (f g : Nat → Bool) (op : Int) (w : World) (hr : Holds w w.heap.size A n f) (hs : Holds w w.heap.size D m g) (hc : n ≤ c) (hd : m ≤ d) :
    Calls Try.prog 12 #[.agg #[.int .i64 W, .int .i64 H, .slice A n c], .agg #[.int .i64 X, .int .i64 Y, .slice D m d], .int .i64 op] w fun e w' => e = .returned (.bool true) ∧ Below w.heap.size w w' := by
  rcases great7_case W H A n c with h | ⟨hn, h⟩
  · exact asks7_g1 W H X Y A D n c m d op w h
  · rcases great7_case X Y D m d with k | ⟨hm, k⟩
    · exact asks7_g2 W H X Y A D n c m d op w h k
    · exact asks7_main W H X Y A D n c m d f g op w hr hs hn hm hc hd h k
end Go.Proofs.Ytjbofdgdcnfmoaa
