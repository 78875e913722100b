/- The statement FactorMatches. -/
import Derived.Test.YtbafhdinalapoaaFmr
namespace Go.Proofs.Ytbafhdinalapoaa
open Go.RowKit
set_option linter.unusedVariables false
set_option linter.unusedSimpArgs false
set_option maxRecDepth 100000

open L2 (nd ren Cons mt mxs)
/-- Both Matches of two lists hand back the same. -/
theorem tmatch_two (n m : Nat) (f g : Nat → Int) (h1 : L2.lchk n f = 0) (h2 : L2.lchk m g = 0) (h0 : 0 < n) : ∃ (N : Nat) (G : Nat → Int) (e : Int), N ≤ 420 ∧ (e = 0 → n = m ∧ Cons f g n) ∧
    ∀ (A D : Option Addr) (c d : Nat) (w : World), L2.Holds w w.heap.size A n f → L2.Holds w w.heap.size D m g → Calls Try.prog 84 #[.slice A n c, .slice D m d] w (L2.LOut w N G e) ∧ Calls Try.prog 85 #[.slice A n c, .slice D m d] w (L2.LOut w N G e) := by
  have hn4 := L2.lchk_le h1
  have hm4 := L2.lchk_le h2
  have hf := L2.lchk_zero h1
  have hg := L2.lchk_zero h2
  have hb : L2.bchk n f m g = 0 := by unfold L2.bchk; rw [if_neg (by simpa using h1)]; exact h2
  by_cases hnm : n = m
  · subst hnm
    have hmx := L2.mxs_lt (a := f) (k := n) fun i hi => (hf i hi).2
    have hmg := L2.mxs_ge f n
    have hN : mxs f n + 1 = (((mxs f n + 1).toNat : Nat) : Int) := by omega
    by_cases hc : Cons f g n
    · exact ⟨(mxs f n + 1).toNat, fun x => mt f g n x, 0, by omega, fun _ => ⟨rfl, hc⟩, fun A D c d w hr hs =>
        ⟨(L2.match_main A n c f D d g _ w hr hs h0 hn4 hb hN hf hg).mono fun _ _ h => h.elim (fun h => h.2) (fun h => absurd hc h.1),
         (L2.rmatch_main A n c f D d g _ w hr hs h0 hn4 hb hN hf hg).mono fun _ _ h => h.elim (fun h => h.2) (fun h => absurd hc h.1)⟩⟩
    · exact ⟨0, fun _ => 0, 6, by omega, fun h => absurd h (by decide), fun A D c d w hr hs =>
        ⟨(L2.match_main A n c f D d g _ w hr hs h0 hn4 hb hN hf hg).mono fun _ _ h => h.elim (fun h => absurd h.1 hc) (fun h => h.2),
         (L2.rmatch_main A n c f D d g _ w hr hs h0 hn4 hb hN hf hg).mono fun _ _ h => h.elim (fun h => absurd h.1 hc) (fun h => h.2)⟩⟩
  · have hk : L2.mchk n f m g = 2 := by unfold L2.mchk; rw [if_neg (by simpa using hb), if_pos hnm]
    exact ⟨0, fun _ => 0, 2, by omega, fun h => absurd h (by decide), fun A D c d w hr hs =>
      ⟨L2.match_err A n c f D m d g _ w _ hr hs (by omega) (by omega) hk (by decide), L2.rmatch_err A n c f D m d g _ w _ hr hs (by omega) (by omega) hk (by decide)⟩⟩
/-- Both Renumbers hand back the same. -/
theorem rn_two {D : Dr} {P : PD} (hI : D.Is P) (hP : P.Ok) (n1 n2 : Nat) (f1 f2 : Nat → Int) (hn1 : n1 ≤ 420) (hn2 : n2 ≤ 420) : ∃ (R : Dr) (re : Int), R.Small ∧
    ∀ (A1 A2 : Option Addr) (c1 c2 : Nat) (w : World), D.In w w.heap.size → L2.Holds w w.heap.size A1 n1 f1 → L2.Holds w w.heap.size A2 n2 f2 →
      Calls Try.prog 16 #[.agg #[.int .i64 D.S, .int .i64 D.T, .slice D.A D.n D.c, .slice D.B D.m D.d, .int .i64 D.W, .int .i64 D.H, .slice D.C D.k D.e], .slice A1 n1 c1, .slice A2 n2 c2] w (DOut w R re) ∧ Calls Try.prog 36 #[.agg #[.int .i64 D.S, .int .i64 D.T, .slice D.A D.n D.c, .slice D.B D.m D.d, .int .i64 D.W, .int .i64 D.H, .slice D.C D.k D.e], .slice A1 n1 c1, .slice A2 n2 c2] w (DOut w R re) := by
  cases hpa : prm n1 f1 P.S
  · exact ⟨Dr.zero, 2, Dr.zero_small, fun A1 A2 c1 c2 w hd h1 h2 => ⟨(renumber_s hI hP A1 A2 n1 n2 c1 c2 f1 f2 hpa w hd h1 h2).mono fun _ _ h => h.out, (rrenum_s hI hP A1 A2 n1 n2 c1 c2 f1 f2 hpa w hd h1 h2 (by omega) (by omega)).mono fun _ _ h => h.out⟩⟩
  · cases hpb : prm n2 f2 P.T
    · exact ⟨Dr.zero, 2, Dr.zero_small, fun A1 A2 c1 c2 w hd h1 h2 => ⟨(renumber_t hI hP A1 A2 n1 n2 c1 c2 f1 f2 hpa hpb w hd h1 h2).mono fun _ _ h => h.out, (rrenum_t hI hP A1 A2 n1 n2 c1 c2 f1 f2 hpa hpb w hd h1 h2 (by omega) (by omega)).mono fun _ _ h => h.out⟩⟩
    · exact ⟨(P.rnm f1 f2).dr 0 0 0 0 0 0, 0, ⟨Nat.le_trans hP.n1 (by omega), Nat.le_trans hP.m1 (by omega), Nat.le_trans (Nat.mul_le_mul hP.t1 hP.s1) (by omega)⟩, fun A1 A2 c1 c2 w hd h1 h2 =>
        ⟨(renumber_ok hI hP A1 A2 n1 n2 c1 c2 f1 f2 hpa hpb w hd h1 h2).mono fun _ _ h => h.out, (rrenum_ok hI hP A1 A2 n1 n2 c1 c2 f1 f2 hpa hpb w hd h1 h2 (by omega) (by omega)).mono fun _ _ h => h.out⟩⟩
theorem cons_nd {f g : Nat → Int} {n : Nat} (h : Cons f g n) : nd f n = nd g n := nd_same f g n fun y z hy hz => (h.sym hy hz).symm

/-- Both Matches of two drafts hand back the same. -/
theorem dmatch_two (D E : Dr) (hs : D.Small) (ht : E.Small) : ∃ (l1 : Nat) (F1 : Nat → Int) (l2 : Nat) (F2 : Nat → Int) (err : Int), l1 ≤ 420 ∧ l2 ≤ 420 ∧
    ∀ w, D.In w w.heap.size → E.In w w.heap.size → Calls Try.prog 45 #[.agg #[.int .i64 D.S, .int .i64 D.T, .slice D.A D.n D.c, .slice D.B D.m D.d, .int .i64 D.W, .int .i64 D.H, .slice D.C D.k D.e], .agg #[.int .i64 E.S, .int .i64 E.T, .slice E.A E.n E.c, .slice E.B E.m E.d, .int .i64 E.W, .int .i64 E.H, .slice E.C E.k E.e]] w (M3 w l1 F1 l2 F2 err) ∧ Calls Try.prog 46 #[.agg #[.int .i64 D.S, .int .i64 D.T, .slice D.A D.n D.c, .slice D.B D.m D.d, .int .i64 D.W, .int .i64 D.H, .slice D.C D.k D.e], .agg #[.int .i64 E.S, .int .i64 E.T, .slice E.A E.n E.c, .slice E.B E.m E.d, .int .i64 E.W, .int .i64 E.H, .slice E.C E.k E.e]] w (M3 w l1 F1 l2 F2 err) := by
  obtain ⟨z1, hz1⟩ : ∃ z, D.ck = z := ⟨_, rfl⟩
  obtain ⟨z2, hz2⟩ : ∃ z, E.ck = z := ⟨_, rfl⟩
  by_cases a0 : z1 = 0
  · subst a0
    by_cases b0 : z2 = 0
    · subst b0
      obtain ⟨hP, hI⟩ := Dr.valid hz1
      obtain ⟨hQ, hJ⟩ := Dr.valid hz2
      obtain ⟨p1, p2⟩ := hI.lf hP
      obtain ⟨r1, r2⟩ := hJ.lf hQ
      have n0 : 0 < D.n := by rw [hI.n]; exact hP.n0
      have m0 : 0 < D.m := by rw [hI.m]; exact hP.m0
      have k1 : D.n ≤ 5000 := by have := hs.a; omega
      have k2 : D.m ≤ 5000 := by have := hs.b; omega
      have k3 : E.n ≤ 5000 := by have := ht.a; omega
      have k4 : E.m ≤ 5000 := by have := ht.b; omega
      have ua := fun w (hd : D.In w w.heap.size) => uses_ok p1 p2 w hd
      have ub := fun w (hd : E.In w w.heap.size) => uses_ok r1 r2 w hd
      by_cases uD : (nd D.f D.n : Int) = D.S ∧ (nd D.g D.m : Int) = D.T
      · have ua' : ∀ w, D.In w w.heap.size → Calls Try.prog 83 #[.agg #[.int .i64 D.S, .int .i64 D.T, .slice D.A D.n D.c, .slice D.B D.m D.d, .int .i64 D.W, .int .i64 D.H, .slice D.C D.k D.e]] w fun e w2 => e = .returned (.agg #[.int .i64 D.S, .int .i64 D.T]) ∧ Below w.heap.size w w2 := fun w hd => by
          have h := ua w hd
          rw [uD.1, uD.2] at h
          exact h
        have va : ∀ w, D.In w w.heap.size → Calls Try.prog 82 #[.agg #[.int .i64 D.S, .int .i64 D.T, .slice D.A D.n D.c, .slice D.B D.m D.d, .int .i64 D.W, .int .i64 D.H, .slice D.C D.k D.e]] w fun e w2 => e = .returned (.bool true) ∧ Below w.heap.size w w2 := fun w hd => by
          have h := ruses_any D k1 k2 w hd
          rw [decide_eq_true uD] at h
          exact h
        by_cases uE : (nd E.f E.n : Int) = E.S ∧ (nd E.g E.m : Int) = E.T
        · have ub' : ∀ w, E.In w w.heap.size → Calls Try.prog 83 #[.agg #[.int .i64 E.S, .int .i64 E.T, .slice E.A E.n E.c, .slice E.B E.m E.d, .int .i64 E.W, .int .i64 E.H, .slice E.C E.k E.e]] w fun e w2 => e = .returned (.agg #[.int .i64 E.S, .int .i64 E.T]) ∧ Below w.heap.size w w2 := fun w hd => by
            have h := ub w hd
            rw [uE.1, uE.2] at h
            exact h
          have vb : ∀ w, E.In w w.heap.size → Calls Try.prog 82 #[.agg #[.int .i64 E.S, .int .i64 E.T, .slice E.A E.n E.c, .slice E.B E.m E.d, .int .i64 E.W, .int .i64 E.H, .slice E.C E.k E.e]] w fun e w2 => e = .returned (.bool true) ∧ Below w.heap.size w w2 := fun w hd => by
            have h := ruses_any E k3 k4 w hd
            rw [decide_eq_true uE] at h
            exact h
          obtain ⟨N1, G1, e1, b1, c1, t1⟩ := tmatch_two D.n E.n D.f E.f p1 r1 n0
          obtain ⟨N2, G2, e2, b2, c2, t2⟩ := tmatch_two D.m E.m D.g E.g p2 r2 m0
          obtain ⟨R, re, hR, rr⟩ := rn_two hI hP N1 N2 G1 G2 b1 b2
          have hST : e1 = 0 → e2 = 0 → D.S = E.S ∧ D.T = E.T := fun x1 x2 => by
            obtain ⟨q1, q2⟩ := c1 x1
            obtain ⟨q3, q4⟩ := c2 x2
            have y1 := cons_nd q2
            have y2 := cons_nd q4
            rw [← uD.1, ← uD.2, ← uE.1, ← uE.2, ← q1, ← q3, y1, y2]
            exact ⟨rfl, rfl⟩
          have ma : ∀ w, D.In w w.heap.size → E.In w w.heap.size → MA w D E 84 16 N1 G1 e1 N2 G2 e2 R re := fun w hd he =>
            ⟨fun w' h => (t1 _ _ _ _ w' (hd.next h).th (he.next h).th).1, fun w' h => (t2 _ _ _ _ w' (hd.next h).tr (he.next h).tr).1, fun _ _ w' A1 A2 c1 c2 h h1 h2 => (rr A1 A2 c1 c2 w' (hd.next h) h1 h2).1, hR⟩
          have mb : ∀ w, D.In w w.heap.size → E.In w w.heap.size → MA w D E 85 36 N1 G1 e1 N2 G2 e2 R re := fun w hd he =>
            ⟨fun w' h => (t1 _ _ _ _ w' (hd.next h).th (he.next h).th).2, fun w' h => (t2 _ _ _ _ w' (hd.next h).tr (he.next h).tr).2, fun _ _ w' A1 A2 c1 c2 h h1 h2 => (rr A1 A2 c1 c2 w' (hd.next h) h1 h2).2, hR⟩
          cases hbb : bad e1 e2 re (dsm R E)
          · exact ⟨N1, G1, N2, G2, 0, b1, b2, fun w hd he =>
              ⟨(fm_main D E hz1 hz2 hs ht w hd he N1 G1 e1 N2 G2 e2 R re _ (fun w' h => ua' w' (hd.next h)) (fun w' h => ub' w' (he.next h)) (ma w hd he) rfl (M3 w N1 G1 N2 G2 0) (fun h => absurd (hbb.symm.trans h) (by decide)) (fun _ _ _ h => h)).mono fun _ _ h => h,
               (rm_main D E hz1 hz2 hs ht w hd he N1 G1 e1 N2 G2 e2 R re _ (fun w' h => va w' (hd.next h)) (fun w' h => vb w' (he.next h)) (mb w hd he) rfl hST (M3 w N1 G1 N2 G2 0) (fun h => absurd (hbb.symm.trans h) (by decide)) (fun _ _ _ h => h)).mono fun _ _ h => h⟩⟩
          · exact ⟨0, G1, 0, G2, 6, by omega, by omega, fun w hd he =>
              ⟨(fm_main D E hz1 hz2 hs ht w hd he N1 G1 e1 N2 G2 e2 R re _ (fun w' h => ua' w' (hd.next h)) (fun w' h => ub' w' (he.next h)) (ma w hd he) rfl (M3 w 0 G1 0 G2 6) (fun _ _ _ h => h) (fun h => absurd (hbb.symm.trans h) (by decide))).mono fun _ _ h => h,
               (rm_main D E hz1 hz2 hs ht w hd he N1 G1 e1 N2 G2 e2 R re _ (fun w' h => va w' (hd.next h)) (fun w' h => vb w' (he.next h)) (mb w hd he) rfl hST (M3 w 0 G1 0 G2 6) (fun _ _ _ h => h) (fun h => absurd (hbb.symm.trans h) (by decide))).mono fun _ _ h => h⟩⟩
        · have vb : ∀ w, E.In w w.heap.size → Calls Try.prog 82 #[.agg #[.int .i64 E.S, .int .i64 E.T, .slice E.A E.n E.c, .slice E.B E.m E.d, .int .i64 E.W, .int .i64 E.H, .slice E.C E.k E.e]] w fun e w2 => e = .returned (.bool false) ∧ Below w.heap.size w w2 := fun w hd => by
            have h := ruses_any E k3 k4 w hd
            rw [decide_eq_false uE] at h
            exact h
          refine ⟨0, fun _ => 0, 0, fun _ => 0, 2, by omega, by omega, fun w hd he => ⟨?_, rm_unused2 D E _ _ hz1 hz2 hs ht w hd he (fun w' h => va w' (hd.next h)) (fun w' h => vb w' (he.next h))⟩⟩
          by_cases x : (nd E.f E.n : Int) = E.S
          · refine fm_unused4 D E _ _ hz1 hz2 hs ht w hd he 0 0 0 (nd E.g E.m) (fun w' h => ua' w' (hd.next h)) (fun w' h => ?_) (fun y => uE ⟨x, y⟩)
            have h' := ub w' (he.next h)
            rw [x] at h'
            exact h'
          · exact fm_unused3 D E _ _ hz1 hz2 hs ht w hd he 0 0 (nd E.f E.n) (nd E.g E.m) (fun w' h => ua' w' (hd.next h)) (fun w' h => ub w' (he.next h)) x
      · have va : ∀ w, D.In w w.heap.size → Calls Try.prog 82 #[.agg #[.int .i64 D.S, .int .i64 D.T, .slice D.A D.n D.c, .slice D.B D.m D.d, .int .i64 D.W, .int .i64 D.H, .slice D.C D.k D.e]] w fun e w2 => e = .returned (.bool false) ∧ Below w.heap.size w w2 := fun w hd => by
          have h := ruses_any D k1 k2 w hd
          rw [decide_eq_false uD] at h
          exact h
        refine ⟨0, fun _ => 0, 0, fun _ => 0, 2, by omega, by omega, fun w hd he => ⟨?_, rm_unused1 D E _ _ hz1 hz2 hs ht w hd he (fun w' h => va w' (hd.next h))⟩⟩
        by_cases x : (nd D.f D.n : Int) = D.S
        · refine fm_unused2 D E _ _ hz1 hz2 hs ht w hd he 0 (nd D.g D.m) (nd E.f E.n) (nd E.g E.m) (fun w' h => ?_) (fun w' h => ub w' (he.next h)) (fun y => uD ⟨x, y⟩)
          have h' := ua w' (hd.next h)
          rw [x] at h'
          exact h'
        · exact fm_unused1 D E _ _ hz1 hz2 hs ht w hd he (nd D.f D.n) (nd D.g D.m) (nd E.f E.n) (nd E.g E.m) (fun w' h => ua w' (hd.next h)) (fun w' h => ub w' (he.next h)) x
    · have hne : (z2 != 0) = true := by simpa using b0
      exact ⟨0, fun _ => 0, 0, fun _ => 0, z2, by omega, by omega, fun w hd he => ⟨fm_err2 D E _ _ hz1 hz2 hne hs ht w hd he, rm_err2 D E _ _ hz1 hz2 hne hs ht w hd he⟩⟩
  · have hne : (z1 != 0) = true := by simpa using a0
    exact ⟨0, fun _ => 0, 0, fun _ => 0, z1, by omega, by omega, fun w hd he => ⟨fm_err1 D E _ _ hz1 hne hs w hd, rm_err1 D E _ _ hz1 hne hs w hd⟩⟩

set_option maxHeartbeats 800000 in
theorem fmatches_g1 (D E : Dr) (hg : ∀ w, Calls Try.prog 24 #[.agg #[.int .i64 D.S, .int .i64 D.T, .slice D.A D.n D.c, .slice D.B D.m D.d, .int .i64 D.W, .int .i64 D.H, .slice D.C D.k D.e]] w fun e w' => e = .returned (.bool true) ∧ Below w.heap.size w w') (w : World) : Calls Try.prog 11 #[.agg #[.int .i64 D.S, .int .i64 D.T, .slice D.A D.n D.c, .slice D.B D.m D.d, .int .i64 D.W, .int .i64 D.H, .slice D.C D.k D.e], .agg #[.int .i64 E.S, .int .i64 E.T, .slice E.A E.n E.c, .slice E.B E.m E.d, .int .i64 E.W, .int .i64 E.H, .slice E.C E.k E.e]] w fun e w' => e = .returned (.bool true) ∧ Below w.heap.size w w' := by
  have LB0 := Lib.hid (show Below w.heap.size w ((w.alloc (.cells #[.int .i64 D.S, .int .i64 D.T, .slice D.A D.n D.c, .slice D.B D.m D.d, .int .i64 D.W, .int .i64 D.H, .slice D.C D.k D.e] 30)).alloc (.cells #[.int .i64 E.S, .int .i64 E.T, .slice E.A E.n E.c, .slice E.B E.m E.d, .int .i64 E.W, .int .i64 E.H, .slice E.C E.k E.e] 30)) from ((Below.refl _ _).alloc (Nat.le_refl _) _).alloc (by simp) _)
  have X0 := Lib.hid (show DBox ((w.alloc (.cells #[.int .i64 D.S, .int .i64 D.T, .slice D.A D.n D.c, .slice D.B D.m D.d, .int .i64 D.W, .int .i64 D.H, .slice D.C D.k D.e] 30)).alloc (.cells #[.int .i64 E.S, .int .i64 E.T, .slice E.A E.n E.c, .slice E.B E.m E.d, .int .i64 E.W, .int .i64 E.H, .slice E.C E.k E.e] 30)) w.heap.size D from (DBox.new w D).alloc _)
  have Y0 : Hid (DBox ((w.alloc (.cells #[.int .i64 D.S, .int .i64 D.T, .slice D.A D.n D.c, .slice D.B D.m D.d, .int .i64 D.W, .int .i64 D.H, .slice D.C D.k D.e] 30)).alloc (.cells #[.int .i64 E.S, .int .i64 E.T, .slice E.A E.n E.c, .slice E.B E.m E.d, .int .i64 E.W, .int .i64 E.H, .slice E.C E.k E.e] 30)) (w.heap.size + 1) E) := Lib.hid (by
    have h := DBox.new (w.alloc (.cells #[.int .i64 D.S, .int .i64 D.T, .slice D.A D.n D.c, .slice D.B D.m D.d, .int .i64 D.W, .int .i64 D.H, .slice D.C D.k D.e] 30)) E
    simp only [World.size_alloc] at h
    exact h)
  have HG := Lib.hid hg
  clear hg
  go_enter Try.func11, Try.ntmps11
  obtain ⟨q0, q1, q2, q3, q4, q5, q6, q7⟩ := X0.out.all
  go_wp2_with fail
  clear q0 q1 q2 q3 q4 q5 q6 q7 
  refine (HG.out _).mono ?_
  rintro e w1 ⟨rfl, hb⟩
  have X1 := Lib.hid (X0.out.next hb)
  have Y1 := Lib.hid (Y0.out.next hb)
  have LB1 := Lib.hid (LB0.out.trans (hb.mono LB0.out.size))
  clear hb X0 Y0 LB0
  go_wp2
  go_ret
  exact ⟨rfl, LB1.out⟩
set_option maxHeartbeats 800000 in
theorem fmatches_g2 (D E : Dr) (hs : D.Small) (hg : ∀ w, Calls Try.prog 24 #[.agg #[.int .i64 E.S, .int .i64 E.T, .slice E.A E.n E.c, .slice E.B E.m E.d, .int .i64 E.W, .int .i64 E.H, .slice E.C E.k E.e]] w fun e w' => e = .returned (.bool true) ∧ Below w.heap.size w w') (w : World) : Calls Try.prog 11 #[.agg #[.int .i64 D.S, .int .i64 D.T, .slice D.A D.n D.c, .slice D.B D.m D.d, .int .i64 D.W, .int .i64 D.H, .slice D.C D.k D.e], .agg #[.int .i64 E.S, .int .i64 E.T, .slice E.A E.n E.c, .slice E.B E.m E.d, .int .i64 E.W, .int .i64 E.H, .slice E.C E.k E.e]] w fun e w' => e = .returned (.bool true) ∧ Below w.heap.size w w' := by
  have LB0 := Lib.hid (show Below w.heap.size w ((w.alloc (.cells #[.int .i64 D.S, .int .i64 D.T, .slice D.A D.n D.c, .slice D.B D.m D.d, .int .i64 D.W, .int .i64 D.H, .slice D.C D.k D.e] 30)).alloc (.cells #[.int .i64 E.S, .int .i64 E.T, .slice E.A E.n E.c, .slice E.B E.m E.d, .int .i64 E.W, .int .i64 E.H, .slice E.C E.k E.e] 30)) from ((Below.refl _ _).alloc (Nat.le_refl _) _).alloc (by simp) _)
  have X0 := Lib.hid (show DBox ((w.alloc (.cells #[.int .i64 D.S, .int .i64 D.T, .slice D.A D.n D.c, .slice D.B D.m D.d, .int .i64 D.W, .int .i64 D.H, .slice D.C D.k D.e] 30)).alloc (.cells #[.int .i64 E.S, .int .i64 E.T, .slice E.A E.n E.c, .slice E.B E.m E.d, .int .i64 E.W, .int .i64 E.H, .slice E.C E.k E.e] 30)) w.heap.size D from (DBox.new w D).alloc _)
  have Y0 : Hid (DBox ((w.alloc (.cells #[.int .i64 D.S, .int .i64 D.T, .slice D.A D.n D.c, .slice D.B D.m D.d, .int .i64 D.W, .int .i64 D.H, .slice D.C D.k D.e] 30)).alloc (.cells #[.int .i64 E.S, .int .i64 E.T, .slice E.A E.n E.c, .slice E.B E.m E.d, .int .i64 E.W, .int .i64 E.H, .slice E.C E.k E.e] 30)) (w.heap.size + 1) E) := Lib.hid (by
    have h := DBox.new (w.alloc (.cells #[.int .i64 D.S, .int .i64 D.T, .slice D.A D.n D.c, .slice D.B D.m D.d, .int .i64 D.W, .int .i64 D.H, .slice D.C D.k D.e] 30)) E
    simp only [World.size_alloc] at h
    exact h)
  have HG := Lib.hid hg
  have HS := Lib.hid hs
  clear hg hs
  go_enter Try.func11, Try.ntmps11
  obtain ⟨q0, q1, q2, q3, q4, q5, q6, q7⟩ := X0.out.all
  go_wp2_with fail
  clear q0 q1 q2 q3 q4 q5 q6 q7 
  refine (dgreat_no D _ HS.out).mono ?_
  rintro e w1 ⟨rfl, hb⟩
  have X1 := Lib.hid (X0.out.next hb)
  have Y1 := Lib.hid (Y0.out.next hb)
  have LB1 := Lib.hid (LB0.out.trans (hb.mono LB0.out.size))
  clear hb X0 Y0 LB0
  obtain ⟨r0, r1, r2, r3, r4, r5, r6, r7⟩ := Y1.out.all
  go_wp2_with fail
  clear  r0 r1 r2 r3 r4 r5 r6 r7
  refine (HG.out _).mono ?_
  rintro e w2 ⟨rfl, hb⟩
  have X2 := Lib.hid (X1.out.next hb)
  have Y2 := Lib.hid (Y1.out.next hb)
  have LB2 := Lib.hid (LB1.out.trans (hb.mono LB1.out.size))
  clear hb X1 Y1 LB1
  go_wp2
  go_ret
  exact ⟨rfl, LB2.out⟩
set_option maxHeartbeats 1600000 in
theorem fmatches_main (D E : Dr) (hs : D.Small) (ht : E.Small) (w : World) (hd : D.In w w.heap.size) (he : E.In w w.heap.size) : Calls Try.prog 11 #[.agg #[.int .i64 D.S, .int .i64 D.T, .slice D.A D.n D.c, .slice D.B D.m D.d, .int .i64 D.W, .int .i64 D.H, .slice D.C D.k D.e], .agg #[.int .i64 E.S, .int .i64 E.T, .slice E.A E.n E.c, .slice E.B E.m E.d, .int .i64 E.W, .int .i64 E.H, .slice E.C E.k E.e]] w fun e w' => e = .returned (.bool true) ∧ Below w.heap.size w w' := by
  have LB0 := Lib.hid (show Below w.heap.size w ((w.alloc (.cells #[.int .i64 D.S, .int .i64 D.T, .slice D.A D.n D.c, .slice D.B D.m D.d, .int .i64 D.W, .int .i64 D.H, .slice D.C D.k D.e] 30)).alloc (.cells #[.int .i64 E.S, .int .i64 E.T, .slice E.A E.n E.c, .slice E.B E.m E.d, .int .i64 E.W, .int .i64 E.H, .slice E.C E.k E.e] 30)) from ((Below.refl _ _).alloc (Nat.le_refl _) _).alloc (by simp) _)
  have X0 := Lib.hid (show DBox ((w.alloc (.cells #[.int .i64 D.S, .int .i64 D.T, .slice D.A D.n D.c, .slice D.B D.m D.d, .int .i64 D.W, .int .i64 D.H, .slice D.C D.k D.e] 30)).alloc (.cells #[.int .i64 E.S, .int .i64 E.T, .slice E.A E.n E.c, .slice E.B E.m E.d, .int .i64 E.W, .int .i64 E.H, .slice E.C E.k E.e] 30)) w.heap.size D from (DBox.new w D).alloc _)
  have Y0 : Hid (DBox ((w.alloc (.cells #[.int .i64 D.S, .int .i64 D.T, .slice D.A D.n D.c, .slice D.B D.m D.d, .int .i64 D.W, .int .i64 D.H, .slice D.C D.k D.e] 30)).alloc (.cells #[.int .i64 E.S, .int .i64 E.T, .slice E.A E.n E.c, .slice E.B E.m E.d, .int .i64 E.W, .int .i64 E.H, .slice E.C E.k E.e] 30)) (w.heap.size + 1) E) := Lib.hid (by
    have h := DBox.new (w.alloc (.cells #[.int .i64 D.S, .int .i64 D.T, .slice D.A D.n D.c, .slice D.B D.m D.d, .int .i64 D.W, .int .i64 D.H, .slice D.C D.k D.e] 30)) E
    simp only [World.size_alloc] at h
    exact h)
  obtain ⟨b, le, hl⟩ := least_two D hs
  obtain ⟨l1, F1, l2, F2, err, q1, q2, hm⟩ := dmatch_two D E hs ht
  have HL := Lib.hid (fun w' (h : Below w.heap.size w w') => hl w' (hd.next h))
  have HM := Lib.hid (fun w' (h : Below w.heap.size w w') => hm w' (hd.next h) (he.next h))
  have HS := Lib.hid hs
  have HT := Lib.hid ht
  clear hs ht hd he hl hm
  go_enter Try.func11, Try.ntmps11
  obtain ⟨q0, q1, q2, q3, q4, q5, q6, q7⟩ := X0.out.all
  go_wp2_with fail
  clear q0 q1 q2 q3 q4 q5 q6 q7 
  refine (dgreat_no D _ HS.out).mono ?_
  rintro e w1 ⟨rfl, hb⟩
  have X1 := Lib.hid (X0.out.next hb)
  have Y1 := Lib.hid (Y0.out.next hb)
  have LB1 := Lib.hid (LB0.out.trans (hb.mono LB0.out.size))
  clear hb X0 Y0 LB0
  obtain ⟨r0, r1, r2, r3, r4, r5, r6, r7⟩ := Y1.out.all
  go_wp2_with fail
  clear  r0 r1 r2 r3 r4 r5 r6 r7
  refine (dgreat_no E _ HT.out).mono ?_
  rintro e w2 ⟨rfl, hb⟩
  have X2 := Lib.hid (X1.out.next hb)
  have Y2 := Lib.hid (Y1.out.next hb)
  have LB2 := Lib.hid (LB1.out.trans (hb.mono LB1.out.size))
  clear hb X1 Y1 LB1
  obtain ⟨q0, q1, q2, q3, q4, q5, q6, q7⟩ := X2.out.all
  go_wp2_with fail
  clear q0 q1 q2 q3 q4 q5 q6 q7 
  refine ((HL.out _ LB2.out).1).mono ?_
  rintro e w3 ⟨rfl, hb⟩
  have X3 := Lib.hid (X2.out.next hb)
  have Y3 := Lib.hid (Y2.out.next hb)
  have LB3 := Lib.hid (LB2.out.trans (hb.mono LB2.out.size))
  clear hb X2 Y2 LB2
  obtain ⟨q0, q1, q2, q3, q4, q5, q6, q7⟩ := X3.out.all
  go_wp2_with fail
  clear q0 q1 q2 q3 q4 q5 q6 q7 
  refine ((HL.out _ LB3.out).2).mono ?_
  rintro e w4 ⟨rfl, hb⟩
  have X4 := Lib.hid (X3.out.next hb)
  have Y4 := Lib.hid (Y3.out.next hb)
  have LB4 := Lib.hid (LB3.out.trans (hb.mono LB3.out.size))
  clear hb X3 Y3 LB3
  obtain ⟨q0, q1, q2, q3, q4, q5, q6, q7⟩ := X4.out.all
  obtain ⟨r0, r1, r2, r3, r4, r5, r6, r7⟩ := Y4.out.all
  go_wp2_with fail
  clear q0 q1 q2 q3 q4 q5 q6 q7 r0 r1 r2 r3 r4 r5 r6 r7
  refine ((HM.out _ LB4.out).1).mono ?_
  rintro e w5 ⟨A1, c1, A2, c2, rfl, hr1, hr2, hb⟩
  have X5 := Lib.hid (X4.out.next hb)
  have Y5 := Lib.hid (Y4.out.next hb)
  have LB5 := Lib.hid (LB4.out.trans (hb.mono LB4.out.size))
  clear hb X4 Y4 LB4
  have V1 := Lib.hid (show LRow w5 A1 l1 F1 from hr1)
  have V2 := Lib.hid (show LRow w5 A2 l2 F2 from hr2)
  clear hr1 hr2
  obtain ⟨q0, q1, q2, q3, q4, q5, q6, q7⟩ := X5.out.all
  obtain ⟨r0, r1, r2, r3, r4, r5, r6, r7⟩ := Y5.out.all
  go_wp2_with fail
  clear q0 q1 q2 q3 q4 q5 q6 q7 r0 r1 r2 r3 r4 r5 r6 r7
  refine ((HM.out _ LB5.out).2).mono ?_
  rintro e w6 ⟨A3, c3, A4, c4, rfl, hr3, hr4, hb⟩
  have X6 := Lib.hid (X5.out.next hb)
  have Y6 := Lib.hid (Y5.out.next hb)
  have LB6 := Lib.hid (LB5.out.trans (hb.mono LB5.out.size))
  have V1a := Lib.hid (V1.out.next hb)
  have V2a := Lib.hid (V2.out.next hb)
  clear hb V1 V2 X5 Y5 LB5
  have V3 := Lib.hid (show LRow w6 A3 l1 F1 from hr3)
  have V4 := Lib.hid (show LRow w6 A4 l2 F2 from hr4)
  clear hr3 hr4
  cases b
  all_goals
    go_wp2_with fail
    refine (L2.rsame_eq A1 A3 l1 c1 c3 F1 w6 (by omega) V1a.out.holds V3.out.holds).mono ?_
    rintro e w7 ⟨rfl, hb⟩
    have LB7 := Lib.hid (LB6.out.trans (hb.mono LB6.out.size))
    have V2b := Lib.hid (V2a.out.next hb)
    have V4b := Lib.hid (V4.out.next hb)
    clear hb
    go_wp2_with fail
    refine (L2.rsame_eq A2 A4 l2 c2 c4 F2 w7 (by omega) V2b.out.holds V4b.out.holds).mono ?_
    rintro e w8 ⟨rfl, hb⟩
    have LB8 := Lib.hid (LB7.out.trans (hb.mono LB7.out.size))
    clear hb
    go_wp2
    go_ret
    exact ⟨rfl, LB8.out⟩
theorem fmatches_any (D E : Dr) (w : World) (hd : D.In w w.heap.size) (he : E.In w w.heap.size) : Calls Try.prog 11 #[.agg #[.int .i64 D.S, .int .i64 D.T, .slice D.A D.n D.c, .slice D.B D.m D.d, .int .i64 D.W, .int .i64 D.H, .slice D.C D.k D.e], .agg #[.int .i64 E.S, .int .i64 E.T, .slice E.A E.n E.c, .slice E.B E.m E.d, .int .i64 E.W, .int .i64 E.H, .slice E.C E.k E.e]] w fun e w' => e = .returned (.bool true) ∧ Below w.heap.size w w' := by
  rcases dgreat_case D with hs | hg
  · rcases dgreat_case E with ht | hg
    · exact fmatches_main D E hs ht w hd he
    · exact fmatches_g2 D E hs hg w
  · exact fmatches_g1 D E hg w
end Go.Proofs.Ytbafhdinalapoaa
