/- Walk and Accept of both sides; the walk of HangWalks. -/
import Derived.Test.YtnpgmgaajejhjaaHww
import Derived.Test.YtnpgmgaajejhjaaHap
import Derived.Test.YtnpgmgaajejhjaaHac
import Derived.Test.YtnpgmgaajejhjaaHak
import Derived.Test.YtnpgmgaajejhjaaCnw
namespace Go.Proofs.Ytnpgmgaajejhjaa
open Go.RowKit
set_option maxRecDepth 100000
set_option linter.unusedVariables false
set_option linter.unusedSimpArgs false

/-- Walk of both sides, of a grid that is not great. -/
theorem walk_two (W H : Int) (A : Option Addr) (N c : Nat) (g : Nat → Bool) (w : World) (hg : Holds w w.heap.size A N g) (hN : N ≤ 4200) (hgr : grt W H N = false) :
    ∃ (l : List Nat) (z : Int), l.length ≤ 5000 ∧ ∀ u, Below w.heap.size w u → Calls Try.prog 46 #[.agg #[.int .i64 W, .int .i64 H, .slice A N c]] u (PRet u l z) ∧ Calls Try.prog 54 #[.agg #[.int .i64 W, .int .i64 H, .slice A N c]] u (PRet u l z) := by
  by_cases hz : chk W H N = 0
  · have h24 : W + H ≤ 24 := by
      unfold grt at hgr
      rw [hz] at hgr
      simp at hgr
      omega
    obtain ⟨x, y, rfl, rfl, rfl, h1, h2, h3, h4⟩ := chk_nat hz
    by_cases hh : hgs (ov x g) (x + y) = true
    · refine ⟨wlk (ov x g) (x + y) (x + y), 0, ?_, fun u hu => ⟨pwalk_ok x y (x + y) rfl A c g u ((hg.below hu).more hu.size) h1 h2 h3 h4 hh, rwalk_ok x y (x + y) rfl A c g u ((hg.below hu).more hu.size) h1 h2 h3 h4 hh⟩⟩
      have k1 := wlk_len (R := ov x g) (N := x + y) (by omega) (x + y) (Nat.le_refl _)
      have k2 : (x + y) * (x + y) ≤ 24 * 24 := Nat.mul_le_mul (by omega) (by omega)
      omega
    · have hf : hgs (ov x g) (x + y) = false := by simpa using hh
      exact ⟨[], 20, Nat.zero_le _, fun u hu => ⟨pwalk_no x y (x + y) rfl A c g u ((hg.below hu).more hu.size) h1 h2 h3 h4 hf, rwalk_no x y (x + y) rfl A c g u ((hg.below hu).more hu.size) h1 h2 h3 h4 hf⟩⟩
  · have hne : (chk W H N != 0) = true := by simpa using hz
    exact ⟨[], _, Nat.zero_le _, fun u _ => ⟨pwalk_err _ hN rfl hne u, rwalk_err _ hN rfl hne u⟩⟩
/-- Accept of both sides. -/
theorem accept_two (W H : Int) (A : Option Addr) (N c : Nat) (g : Nat → Bool) (D : Option Addr) (n d : Nat) (l : Nat → Int) (w : World) (hg : Holds w w.heap.size A N g) (hN : N ≤ 4200) (hn : n ≤ 20100) (hcp : n ≤ d) (hr : L2.Holds w w.heap.size D n l) :
    ∃ (b : Bool) (z : Int), ∀ u, Below w.heap.size w u → Calls Try.prog 47 #[.agg #[.int .i64 W, .int .i64 H, .slice A N c], .slice D n d] u (BRet u b z) ∧ Calls Try.prog 55 #[.agg #[.int .i64 W, .int .i64 H, .slice A N c], .slice D n d] u (BRet u b z) := by
  by_cases hz : chk W H N = 0
  · obtain ⟨x, y, rfl, rfl, rfl, h1, h2, h3, h4⟩ := chk_nat hz
    by_cases hm : 20000 < n
    · exact ⟨false, 4, fun u _ => ⟨paccept_many x y A c D n d u h1 h2 h3 h4 hm, raccept_many x y A c D n d u h1 h2 h3 h4 hm⟩⟩
    · exact ⟨_, 0, fun u hu => ⟨paccept_ok x y (x + y) rfl A c g D n d l u ((hg.below hu).more hu.size) h1 h2 h3 h4 hn hcp ((hr.below hu).more hu.size) hm, raccept_ok x y (x + y) rfl A c g D n d l u ((hg.below hu).more hu.size) h1 h2 h3 h4 hn ((hr.below hu).more hu.size) hm⟩⟩
  · have hne : (chk W H N != 0) = true := by simpa using hz
    exact ⟨false, _, fun u _ => ⟨paccept_err D n d _ hN rfl hne u, raccept_err D n d _ hN rfl hne u⟩⟩
set_option maxHeartbeats 1600000 in
theorem walks10_any (W H : Int) (A : Option Addr) (n c : Nat) (f : Nat → Bool) (D : Option Addr) (m d : Nat) (s : Nat → Int) (w : World) (hg : Holds w w.heap.size A n f) (hs : L2.Holds w w.heap.size D m s) (hcp : m ≤ d) :
    Calls Try.prog 12 #[.agg #[.int .i64 W, .int .i64 H, .slice A n c], .slice D m d] w fun e w' => e = .returned (.bool true) ∧ Below w.heap.size w w' := by
  have HGR := Lib.hid (fun u => great_any W H A n c u)
  have X0 := Lib.hid (Box.new w W H (.slice A n c))
  have LB0 := Lib.hid (show Below w.heap.size w (w.alloc (.cells #[.int .i64 W, .int .i64 H, (.slice A n c)] 24)) from (Below.refl _ _).alloc (Nat.le_refl _) _)
  by_cases hgr : grt W H n = true
  · rw [hgr] at HGR
    clear hgr
    go_enter Try.func12, Try.ntmps12
    go_wp2_with fail
    generalize w.alloc (.cells #[.int .i64 W, .int .i64 H, .slice A n c] 24) = w0 at *
    obtain ⟨q0, q1, q2, q3, q4, q5, q6⟩ := X0.out.all
    go_wp2_with fail
    clear q0 q1 q2 q3 q4 q5 q6
    with_reducible refine Calls.mono (HGR.out _) ?_
    rintro e w1 ⟨rfl, hb⟩
    have X1 := Lib.hid (X0.out.below hb X0.out.lt)
    have LB1 := Lib.hid (LB0.out.trans (hb.mono LB0.out.size))
    clear hb X0 LB0
    go_wp2
    go_ret
    exact ⟨rfl, LB1.out⟩
  have hgf : grt W H n = false := by simpa using hgr
  have hn := grt_no hgf
  have HGF := Lib.hid hgf
  rw [hgf] at HGR
  clear hgf hgr
  by_cases hm : 20010 < m
  · have z1 : (20010 : Int) < (m : Int) := by omega
    go_enter Try.func12, Try.ntmps12
    go_wp2_with fail
    generalize w.alloc (.cells #[.int .i64 W, .int .i64 H, .slice A n c] 24) = w0 at *
    obtain ⟨q0, q1, q2, q3, q4, q5, q6⟩ := X0.out.all
    go_wp2_with fail
    clear q0 q1 q2 q3 q4 q5 q6
    with_reducible refine Calls.mono (HGR.out _) ?_
    rintro e w1 ⟨rfl, hb⟩
    have X1 := Lib.hid (X0.out.below hb X0.out.lt)
    have LB1 := Lib.hid (LB0.out.trans (hb.mono LB0.out.size))
    clear hb X0 LB0
    go_wp2
    go_ret
    exact ⟨rfl, LB1.out⟩
  have z1 : ¬ (20010 : Int) < (m : Int) := by omega
  obtain ⟨l1, e1, h1, H1⟩ := walk_two W H A n c f w hg (by omega) HGF.out
  obtain ⟨o2, e2, H2⟩ := accept_two W H A n c f D m d s w hg (by omega) (by omega) hcp hs
  have H1 := Lib.hid H1
  have H2 := Lib.hid H2
  have HR := Lib.hid (fun v (h : Below w.heap.size w v) => (hg.below h).more h.size)
  clear hg hs HGF
  go_enter Try.func12, Try.ntmps12
  go_wp2_with fail
  generalize w.alloc (.cells #[.int .i64 W, .int .i64 H, .slice A n c] 24) = w0 at *
  obtain ⟨q0, q1, q2, q3, q4, q5, q6⟩ := X0.out.all
  go_wp2_with fail
  clear q0 q1 q2 q3 q4 q5 q6
  with_reducible refine Calls.mono (HGR.out _) ?_
  rintro e w1 ⟨rfl, hb⟩
  have X1 := Lib.hid (X0.out.below hb X0.out.lt)
  have LB1 := Lib.hid (LB0.out.trans (hb.mono LB0.out.size))
  clear hb X0 LB0
  obtain ⟨q0, q1, q2, q3, q4, q5, q6⟩ := X1.out.all
  go_wp2_with fail
  clear q0 q1 q2 q3 q4 q5 q6
  with_reducible refine Calls.mono (twin_wr W H A n c f _ (by omega) (HR.out _ LB1.out)) ?_
  rintro e w2 ⟨D9, d9, rfl, hwr, hb⟩
  have hba := (show Below _ _ (w2.alloc (.cells #[.int .i64 W, .int .i64 H, .slice D9 n d9] 24)) from hb.trans (((Below.refl _ _).alloc (Nat.le_refl _) _).mono hb.size))
  have T := Lib.hid (Box.new w2 W H (.slice D9 n d9))
  have Q := Lib.hid (hwr.next ((Below.refl _ _).alloc (Nat.le_refl _) (.cells #[.int .i64 W, .int .i64 H, .slice D9 n d9] 24)))
  clear hb hwr
  have X2 := Lib.hid (X1.out.below hba X1.out.lt)
  have LB2 := Lib.hid (LB1.out.trans (hba.mono LB1.out.size))
  clear hba X1 LB1
  obtain ⟨q0, q1, q2, q3, q4, q5, q6⟩ := X2.out.all
  go_wp2_with fail
  clear q0 q1 q2 q3 q4 q5 q6
  with_reducible refine Calls.mono ((H1.out _ LB2.out).1) ?_
  rintro e w3 ⟨D1, d1, rfl, _, hl, hb⟩
  have X3 := Lib.hid (X2.out.below hb X2.out.lt)
  have LB3 := Lib.hid (LB2.out.trans (hb.mono LB2.out.size))
  have T := Lib.hid (T.out.below hb T.out.lt)
  have Q := Lib.hid (Q.out.next hb)
  have P1 := Lib.hid hl
  clear hl
  clear hb X2 LB2
  obtain ⟨q0, q1, q2, q3, q4, q5, q6⟩ := X3.out.all
  go_wp2_with fail
  clear q0 q1 q2 q3 q4 q5 q6
  with_reducible refine Calls.mono ((H1.out _ LB3.out).2) ?_
  rintro e w4 ⟨D2, d2, rfl, _, hl, hb⟩
  have X4 := Lib.hid (X3.out.below hb X3.out.lt)
  have LB4 := Lib.hid (LB3.out.trans (hb.mono LB3.out.size))
  have T := Lib.hid (T.out.below hb T.out.lt)
  have Q := Lib.hid (Q.out.next hb)
  have P1 := Lib.hid (P1.out.below hb)
  have P2 := Lib.hid hl
  clear hl
  clear hb X3 LB3
  obtain ⟨q0, q1, q2, q3, q4, q5, q6⟩ := X4.out.all
  go_wp2_with fail
  clear q0 q1 q2 q3 q4 q5 q6
  with_reducible refine Calls.mono ((H2.out _ LB4.out).1) ?_
  rintro e w5 ⟨rfl, hb⟩
  have X5 := Lib.hid (X4.out.below hb X4.out.lt)
  have LB5 := Lib.hid (LB4.out.trans (hb.mono LB4.out.size))
  have T := Lib.hid (T.out.below hb T.out.lt)
  have Q := Lib.hid (Q.out.next hb)
  have P1 := Lib.hid (P1.out.below hb)
  have P2 := Lib.hid (P2.out.below hb)
  clear hb X4 LB4
  obtain ⟨q0, q1, q2, q3, q4, q5, q6⟩ := X5.out.all
  go_wp2_with fail
  clear q0 q1 q2 q3 q4 q5 q6
  with_reducible refine Calls.mono ((H2.out _ LB5.out).2) ?_
  rintro e w6 ⟨rfl, hb⟩
  have X6 := Lib.hid (X5.out.below hb X5.out.lt)
  have LB6 := Lib.hid (LB5.out.trans (hb.mono LB5.out.size))
  have T := Lib.hid (T.out.below hb T.out.lt)
  have Q := Lib.hid (Q.out.next hb)
  have P1 := Lib.hid (P1.out.below hb)
  have P2 := Lib.hid (P2.out.below hb)
  clear hb X5 LB5
  have HSM := Lib.hid (fun v (h : Below w6.heap.size w6 v) => same_ll (v := v) h1 (P1.out.below h) (P2.out.below h) d1 d2)
  obtain ⟨ln, hln⟩ : ∃ x, l1.length = x := ⟨_, rfl⟩
  rw [hln] at HSM ⊢
  clear hln P1 P2 h1
  go_wp2_with fail
  with_reducible refine Calls.mono (HSM.out _ (Below.refl _ _)) ?_
  rintro e w7 ⟨rfl, hb⟩
  have X7 := Lib.hid (X6.out.below hb X6.out.lt)
  have LB7 := Lib.hid (LB6.out.trans (hb.mono LB6.out.size))
  have T := Lib.hid (T.out.below hb T.out.lt)
  have Q := Lib.hid (Q.out.next hb)
  clear hb X6 LB6
  obtain ⟨q0, q1, q2, q3, q4, q5, q6⟩ := X7.out.all
  obtain ⟨r0, r1, r2, r3, r4, r5, r6⟩ := T.out.all
  go_wp2_with fail
  clear q0 q1 q2 q3 q4 q5 q6 r0 r1 r2 r3 r4 r5 r6
  with_reducible refine Calls.mono (rsame_self W H A D9 n c d9 f _ (by omega) (HR.out _ LB7.out) Q.out.holds) ?_
  rintro e w8 ⟨rfl, hb⟩
  have LB8 := Lib.hid (LB7.out.trans (hb.mono LB7.out.size))
  clear hb
  go_wp2
  go_ret
  exact ⟨rfl, LB8.out⟩
end Go.Proofs.Ytnpgmgaajejhjaa
