/- ColourReads: the walk. -/
import Derived.Test.YtppepcijpdamhaaCpr
import Derived.Test.YtppepcijpdamhaaShw
namespace Go.Proofs.Ytppepcijpdamhaa
open Go.RowKit
set_option maxRecDepth 100000
set_option linter.unusedVariables false
set_option linter.unusedSimpArgs false

theorem parse_pair (s : ByteArray) (hs : s.size ≤ 5000) : ∃ (P Q : Int) (N : Nat) (F : Nat → Int) (z : Int), N ≤ 5000 ∧ (∀ u, Calls Try.prog 33 #[.string s] u (RI u P Q N F z)) ∧ ∀ u, Calls Try.prog 34 #[.string s] u (RI u P Q N F z) := by
  obtain ⟨e, hF, ⟨hlt, hi⟩ | ⟨rfl, hi⟩⟩ := first_any s
  · by_cases e0 : e = 0
    · exact ⟨0, 0, 0, (fun _ => 0), 12, Nat.zero_le _, fun u => pparse_w s e _ u hi (by rw [e0]; rfl), fun u => rparse_bad s e _ u hs hF (.inl e0)⟩
    by_cases e1 : 64 < e
    · exact ⟨0, 0, 0, (fun _ => 0), 12, Nat.zero_le _, fun u => pparse_w s e _ u hi (decide_eq_false fun q => by omega), fun u => rparse_bad s e _ u hs hF (.inr (.inl ⟨e0, e1⟩))⟩
    have q0 : 1 ≤ s.size / (e + 1) := (Nat.le_div_iff_mul_le (by omega)).2 (by omega)
    by_cases q1 : 64 < s.size / (e + 1)
    · refine ⟨0, 0, 0, (fun _ => 0), 12, Nat.zero_le _, fun u => pparse_h s e _ _ u hi (by omega) (by omega) hs rfl (decide_eq_false fun q => by omega), fun u => rparse_bad s e _ u hs hF ?_⟩
      by_cases h : s.size % (e + 1) = 0
      · exact .inr (.inr (.inr ⟨e0, e1, h, q1⟩))
      · exact .inr (.inr (.inl ⟨e0, e1, h⟩))
    have hdm := Nat.div_add_mod s.size (e + 1)
    obtain ⟨q, hq⟩ : ∃ q, s.size / (e + 1) = q := ⟨_, rfl⟩
    rw [hq] at q0 q1 hdm
    have hnot : ¬ GoodC s e q → ∀ u, Calls Try.prog 33 #[.string s] u (RI u 0 0 0 (fun _ => 0) 12) := fun hg u => by
      cases hf : fine (e * q) (pxF s e q)
      · exact pparse_nf s e q u hi (by omega) (by omega) hs hq q0 (by omega) _ hf
      · exact pparse_ne s e q u hi (by omega) (by omega) hs hq q0 (by omega) _ hf fun he => hg ((good_iff (by omega) q0).1 ⟨hf, he⟩)
    by_cases h : s.size % (e + 1) = 0
    · have hn : q * (e + 1) = s.size := by rw [Nat.mul_comm]; omega
      have HR := fun u => rparse_good s e q (fun _ => 0) u hs hF (by omega) (by omega) q0 (by omega) hn
      by_cases hg : GoodC s e q
      · obtain ⟨hf, he⟩ := (good_iff (by omega) q0).2 hg
        have hb : e * q ≤ 64 * 64 := Nat.mul_le_mul (by omega) (by omega)
        exact ⟨_, _, _, pxF s e q, 0, by omega, fun u => pparse_eq s e q u hi (by omega) (by omega) hs hq q0 (by omega) hf he, fun u => (HR u).mono fun _ _ x => x.elim (fun x => x.2) (fun x => absurd hg x.1)⟩
      · exact ⟨0, 0, 0, (fun _ => 0), 12, Nat.zero_le _, hnot hg, fun u => (HR u).mono fun _ _ x => x.elim (fun x => absurd x.1 hg) (fun x => x.2)⟩
    · have hg : ¬ GoodC s e q := fun g => h (by rw [← g.1]; exact Nat.mul_mod_left _ _)
      exact ⟨0, 0, 0, (fun _ => 0), 12, Nat.zero_le _, hnot hg, fun u => rparse_bad s e _ u hs hF (.inr (.inr (.inl ⟨e0, e1, h⟩)))⟩
  · refine ⟨0, 0, 0, (fun _ => 0), 12, Nat.zero_le _, fun u => pparse_w s (-1) _ u hi rfl, fun u => rparse_bad s s.size _ u hs hF ?_⟩
    by_cases h0 : s.size = 0
    · exact .inl h0
    by_cases h1 : 64 < s.size
    · exact .inr (.inl ⟨h0, h1⟩)
    · exact .inr (.inr (.inl ⟨h0, h1, by rw [Nat.mod_eq_of_lt (by omega)]; exact h0⟩))
set_option maxHeartbeats 800000 in
theorem reads14_core (s : ByteArray) (w0 : World) (hs : s.size ≤ 5000) (P Q : Int) (N : Nat) (F : Nat → Int) (z : Int) (l : N ≤ 5000) (p1 : ∀ u, Calls Try.prog 33 #[.string s] u (RI u P Q N F z)) (p2 : ∀ u, Calls Try.prog 34 #[.string s] u (RI u P Q N F z)) :
    Calls Try.prog 5 #[.string s] w0 fun e w' => e = .returned (.bool true) ∧ Below w0.heap.size w0 w' := by
  have HP1 := Lib.hid p1
  have HP2 := Lib.hid p2
  have HE1 := Lib.hid (fun u A1 A2 c1 c2 (h1 : L2.Holds u u.heap.size A1 N F) (h2 : L2.Holds u u.heap.size A2 N F) => risame_b (W := P) (H := Q) (c := c1) (d := c2) l (fun _ _ => rfl) u h1 h2)
  have y1 : (z == z) = true := by simp
  have z1 : ¬ (5000 : Int) < (s.size : Int) := by omega
  clear p1 p2
  have LB0 := Lib.hid (Below.refl w0.heap.size w0)
  go_enter Try.func5, Try.ntmps5
  go_upto_region 1 with (fail)
  go_wp2_with fail
  with_reducible refine Calls.mono (HP1.out _) ?_
  rintro e w1 ⟨A1, c1, rfl, hh, hb⟩
  have LB1 := Lib.hid (LB0.out.trans (hb.mono LB0.out.size))
  have H1 := Lib.hid hh
  clear hb LB0 hh
  have hb := ((Below.refl w1.heap.size w1).alloc (by simp; try omega) (.cells #[.int .i64 P, .int .i64 Q, .slice A1 N c1] 29))
  have LB2 := Lib.hid (LB1.out.trans (hb.mono LB1.out.size))
  have H1 := Lib.hid ((H1.out.below hb).more hb.size)
  have B1 := IBox.new w1 P Q (.slice A1 N c1)
  have B1 := Lib.hid B1
  clear hb LB1
  go_upto_region 4 with (fail)
  obtain ⟨b1, hb1⟩ : ∃ z, w1.heap.size = z := ⟨_, rfl⟩
  rw [hb1] at B1
  try rw [hb1]
  clear hb1
  generalize w1.alloc (.cells #[.int .i64 P, .int .i64 Q, .slice A1 N c1] 29) = w2 at *
  go_wp2_with fail
  with_reducible refine Calls.mono (HP2.out _) ?_
  rintro e w3 ⟨A2, c2, rfl, hh, hb⟩
  have LB3 := Lib.hid (LB2.out.trans (hb.mono LB2.out.size))
  have H1 := Lib.hid ((H1.out.below hb).more hb.size)
  have B1 := Lib.hid (B1.out.below hb B1.out.lt)
  have H2 := Lib.hid hh
  clear hb LB2 hh
  have hb := ((Below.refl w3.heap.size w3).alloc (by simp; try omega) (.cells #[.int .i64 P, .int .i64 Q, .slice A2 N c2] 29))
  have LB4 := Lib.hid (LB3.out.trans (hb.mono LB3.out.size))
  have H1 := Lib.hid ((H1.out.below hb).more hb.size)
  have B1 := Lib.hid (B1.out.below hb B1.out.lt)
  have H2 := Lib.hid ((H2.out.below hb).more hb.size)
  have B2 := IBox.new w3 P Q (.slice A2 N c2)
  have B2 := Lib.hid B2
  clear hb LB3
  go_upto_region 5 with (fail)
  obtain ⟨b2, hb2⟩ : ∃ z, w3.heap.size = z := ⟨_, rfl⟩
  rw [hb2] at B2
  try rw [hb2]
  clear hb2
  generalize w3.alloc (.cells #[.int .i64 P, .int .i64 Q, .slice A2 N c2] 29) = w4 at *
  obtain ⟨q0, q1, q2, q3, q4, q5, q6⟩ := B1.out.all
  obtain ⟨q7, q8, q9, q10, q11, q12, q13⟩ := B2.out.all
  go_wp2_with fail
  clear q0 q1 q2 q3 q4 q5 q6 q7 q8 q9 q10 q11 q12 q13
  with_reducible refine Calls.mono (HE1.out _ _ _ _ _ H1.out H2.out) ?_
  rintro e w5 ⟨rfl, hb⟩
  have LB5 := Lib.hid (LB4.out.trans (hb.mono LB4.out.size))
  have H1 := Lib.hid ((H1.out.below hb).more hb.size)
  have B1 := Lib.hid (B1.out.below hb B1.out.lt)
  have H2 := Lib.hid ((H2.out.below hb).more hb.size)
  have B2 := Lib.hid (B2.out.below hb B2.out.lt)
  clear hb LB4 
  go_wp2
  go_ret
  exact ⟨rfl, LB5.out⟩
theorem reads14_any (s : ByteArray) (w : World) : Calls Try.prog 5 #[.string s] w fun e w' => e = .returned (.bool true) ∧ Below w.heap.size w w' := by
  by_cases hs : s.size ≤ 5000
  · obtain ⟨P, Q, N, F, z, l, p1, p2⟩ := parse_pair s hs
    exact reads14_core s w hs P Q N F z l p1 p2
  · have z1 : (5000 : Int) < (s.size : Int) := by omega
    clear hs
    go_enter Try.func5, Try.ntmps5
    go_wp2
    go_ret
    exact ⟨rfl, Below.refl _ _⟩
end Go.Proofs.Ytppepcijpdamhaa
