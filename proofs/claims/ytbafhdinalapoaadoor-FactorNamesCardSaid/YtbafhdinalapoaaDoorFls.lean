/- Least, the program's and the reference's. -/
import Derived.Test.YtbafhdinalapoaaDoorFct
import Derived.Test.YtbafhdinalapoaaDoorFew
import Derived.Test.YtbafhdinalapoaaDoorFlm
import Derived.Test.YtbafhdinalapoaaDoorDb
import Derived.Test.YtbafhdinalapoaaDoorRkd
namespace Go.Proofs.YtbafhdinalapoaaDoor
open Go.RowKit
set_option linter.unusedVariables false
set_option linter.unusedSimpArgs false
set_option maxRecDepth 100000

open L2 (nd ren)
/-- A bool and an error came back. -/
def BOut (w : World) (b : Bool) (err : Int) (e : Ending) (w' : World) : Prop := e = .returned (.tuple #[.bool b, .int .i64 err]) ∧ Below w.heap.size w w'
/-- Is the drawdown's count of columns and rows that of the shafts and treadles? -/
def PD.lst (P : PD) : Bool := decide (nd (rc P.m (tnf P.n P.m P.wvf)) P.n = P.S ∧ nd (rc P.n P.wvf) P.m = P.T)

set_option maxHeartbeats 800000 in
theorem fleast_err {D : Dr} {err : Int} (hz : D.ck = err) (hne : (err != 0) = true) (hs : D.Small) (w : World) (hd : D.In w w.heap.size) :
    Calls Tryd.prog 13 #[.agg #[.int .i64 D.S, .int .i64 D.T, .slice D.A D.n D.c, .slice D.B D.m D.d, .int .i64 D.W, .int .i64 D.H, .slice D.C D.k D.e]] w (BOut w false err) := by
  have L0 := Lib.hid (show Below w.heap.size w (w.alloc (.cells #[.int .i64 D.S, .int .i64 D.T, .slice D.A D.n D.c, .slice D.B D.m D.d, .int .i64 D.W, .int .i64 D.H, .slice D.C D.k D.e] 27)) from (Below.refl _ _).alloc (Nat.le_refl _) _)
  have HC := Lib.hid (weave_err hz hne hs _ (hd.next L0.out))
  clear hz hs hd
  go_enter Tryd.func13, Tryd.ntmps13
  go_wp2_with fail
  refine HC.out.mono ?_
  rintro e w1 ⟨rfl, hb⟩
  have L1 := Lib.hid (L0.out.trans (hb.mono L0.out.size))
  clear hb HC
  go_wp2
  exact bodyPost_ret (v := .tuple #[.bool false, .int .i64 err]) (by simp [results, Tryd.results13, go_sem]) rfl ⟨rfl, L1.out.alloc L1.out.size _⟩

set_option maxHeartbeats 800000 in
theorem fleast_ok {D : Dr} {P : PD} (hI : D.Is P) (hP : P.Ok) (w : World) (hd : D.In w w.heap.size) :
    Calls Tryd.prog 13 #[.agg #[.int .i64 D.S, .int .i64 D.T, .slice D.A D.n D.c, .slice D.B D.m D.d, .int .i64 D.W, .int .i64 D.H, .slice D.C D.k D.e]] w (BOut w P.lst 0) := by
  have L0 := Lib.hid (show Below w.heap.size w (w.alloc (.cells #[.int .i64 D.S, .int .i64 D.T, .slice D.A D.n D.c, .slice D.B D.m D.d, .int .i64 D.W, .int .i64 D.H, .slice D.C D.k D.e] 27)) from (Below.refl _ _).alloc (Nat.le_refl _) _)
  have X0 := Lib.hid (DBox.new w D)
  have HC := Lib.hid (show Calls Tryd.prog 30 #[.agg #[.int .i64 D.S, .int .i64 D.T, .slice D.A D.n D.c, .slice D.B D.m D.d, .int .i64 D.W, .int .i64 D.H, .slice D.C D.k D.e]] (w.alloc (.cells #[.int .i64 D.S, .int .i64 D.T, .slice D.A D.n D.c, .slice D.B D.m D.d, .int .i64 D.W, .int .i64 D.H, .slice D.C D.k D.e] 27)) (OkGrid (w.alloc (.cells #[.int .i64 D.S, .int .i64 D.T, .slice D.A D.n D.c, .slice D.B D.m D.d, .int .i64 D.W, .int .i64 D.H, .slice D.C D.k D.e] 27)) P.n P.m P.wvf) from weave_ok hI hP _ (hd.next L0.out))
  have HK := Lib.hid (fun (k : Nat) (v : World) (h : Holds v v.heap.size (some ⟨k, 0, none⟩) (P.n * P.m) P.wvf) => count_ok P.n P.m k 0 (P.n * P.m) P.wvf v h (Nat.le_refl _) hP.n0 hP.n1 hP.m0 hP.m1)
  obtain ⟨X, hX⟩ : ∃ X, nd (rc P.m (tnf P.n P.m P.wvf)) P.n = X := ⟨_, rfl⟩
  obtain ⟨Y, hY⟩ : ∃ Y, nd (rc P.n P.wvf) P.m = Y := ⟨_, rfl⟩
  rw [hX, hY] at HK
  obtain ⟨b, hb0⟩ : ∃ b, P.lst = b := ⟨_, rfl⟩
  have hb1 : b = decide ((X : Int) = D.S ∧ (Y : Int) = D.T) := by
    rw [← hb0, PD.lst, hX, hY, hI.S, hI.T]
    congr 1
    simp only [eq_iff_iff]
    omega
  have HB := Lib.hid hb1
  rw [hb0]
  obtain ⟨n, hn⟩ : ∃ n, P.n = n := ⟨_, rfl⟩
  obtain ⟨m, hm⟩ : ∃ m, P.m = m := ⟨_, rfl⟩
  rw [hn, hm] at HC HK
  clear hX hY hb0 hb1 hd hn hm
  go_enter Tryd.func13, Tryd.ntmps13
  go_wp2_with fail
  refine HC.out.mono ?_
  rintro e w1 ⟨k, rfl, hk, hrow, hb⟩
  have L1 := Lib.hid (L0.out.trans (hb.mono L0.out.size))
  have X1 := Lib.hid ((X0.out.next hb).alloc (.cells #[.int .i64 n, .int .i64 m, .slice (some ⟨k, 0, none⟩) (n * m) (n * m)] 25))
  have R1 := Lib.hid (hrow.alloc (.cells #[.int .i64 n, .int .i64 m, .slice (some ⟨k, 0, none⟩) (n * m) (n * m)] 25))
  have L2' := Lib.hid (L1.out.alloc L1.out.size (.cells #[.int .i64 n, .int .i64 m, .slice (some ⟨k, 0, none⟩) (n * m) (n * m)] 25))
  clear hb hk hrow HC
  go_wp2_with fail
  generalize w1.alloc (.cells #[.int .i64 n, .int .i64 m, .slice (some ⟨k, 0, none⟩) (n * m) (n * m)] 25) = w2 at *
  refine (HK.out k w2 (R1.out.holds R1.out.lt)).mono ?_
  rintro e w3 ⟨rfl, hb⟩
  have X3 := Lib.hid (X1.out.next hb)
  have L3 := Lib.hid (L2'.out.trans (hb.mono L2'.out.size))
  clear hb X1 R1 L2'
  obtain ⟨q0, q1, q2, q3, q4, q5, q6, q7⟩ := X3.out.all
  go_wp2_with fail
  clear q0 q1 q2 q3 q4 q5 q6 q7
  refine (has_any D w3).mono ?_
  rintro e w4 ⟨rfl, hb⟩
  have L4 := Lib.hid (L3.out.trans (hb.mono L3.out.size))
  clear hb
  go_wp2
  all_goals
    first
      | (have e : b = true := by rw [HB.out]; exact decide_eq_true (by omega)
         subst e
         exact bodyPost_ret (v := .tuple #[.bool true, .int .i64 0]) (by simp [results, Tryd.results13, go_sem]) rfl ⟨rfl, L4.out⟩)
      | (have e : b = false := by rw [HB.out]; exact decide_eq_false (by omega)
         subst e
         exact bodyPost_ret (v := .tuple #[.bool false, .int .i64 0]) (by simp [results, Tryd.results13, go_sem]) rfl ⟨rfl, L4.out⟩)

set_option maxHeartbeats 800000 in
theorem ruses_any (D : Dr) (hn : D.n ≤ 5000) (hm : D.m ≤ 5000) (w : World) (hd : D.In w w.heap.size) :
    Calls Tryd.prog 34 #[.agg #[.int .i64 D.S, .int .i64 D.T, .slice D.A D.n D.c, .slice D.B D.m D.d, .int .i64 D.W, .int .i64 D.H, .slice D.C D.k D.e]] w fun e w' => e = .returned (.bool (decide ((nd D.f D.n : Int) = D.S ∧ (nd D.g D.m : Int) = D.T))) ∧ Below w.heap.size w w' := by
  have L0 := Lib.hid (show Below w.heap.size w (w.alloc (.cells #[.int .i64 D.S, .int .i64 D.T, .slice D.A D.n D.c, .slice D.B D.m D.d, .int .i64 D.W, .int .i64 D.H, .slice D.C D.k D.e] 27)) from (Below.refl _ _).alloc (Nat.le_refl _) _)
  have X0 := Lib.hid (DBox.new w D)
  have C1 := Lib.hid (fun w' (h : Below w.heap.size w w') => L2.numbered_any D.A D.n D.c D.f w' hn (hd.next h).th)
  have C2 := Lib.hid (fun w' (h : Below w.heap.size w w') => L2.numbered_any D.B D.m D.d D.g w' hm (hd.next h).tr)
  clear hd
  obtain ⟨S, hS⟩ : ∃ S, nd D.f D.n = S := ⟨_, rfl⟩
  obtain ⟨T, hT⟩ : ∃ T, nd D.g D.m = T := ⟨_, rfl⟩
  obtain ⟨b, hb0⟩ : ∃ b, decide ((nd D.f D.n : Int) = D.S ∧ (nd D.g D.m : Int) = D.T) = b := ⟨_, rfl⟩
  rw [hb0]
  rw [hS, hT] at hb0
  have HB := Lib.hid hb0.symm
  have HS := Lib.hid hS
  have HT := Lib.hid hT
  clear hS hT hb0
  go_enter Tryd.func34, Tryd.ntmps34
  obtain ⟨q0, q1, q2, q3, q4, q5, q6, q7⟩ := X0.out.all
  go_wp2_with fail
  clear q0 q1 q2 q3 q4 q5 q6 q7
  refine (C1.out _ L0.out).mono ?_
  rintro e w1 ⟨A1, c1, rfl, -, -, hb⟩
  rw [HS.out]
  have X1 := Lib.hid (X0.out.next hb)
  have L1 := Lib.hid (L0.out.trans (hb.mono L0.out.size))
  clear hb X0 L0
  obtain ⟨q0, q1, q2, q3, q4, q5, q6, q7⟩ := X1.out.all
  go_wp2_with fail
  clear q0 q1 q2 q3 q4 q5 q6 q7
  refine (C2.out _ L1.out).mono ?_
  rintro e w2 ⟨A2, c2, rfl, -, -, hb⟩
  rw [HT.out]
  have X2 := Lib.hid (X1.out.next hb)
  have L2' := Lib.hid (L1.out.trans (hb.mono L1.out.size))
  clear hb X1 L1
  obtain ⟨q0, q1, q2, q3, q4, q5, q6, q7⟩ := X2.out.all
  have hb := HB.out
  by_cases h1 : (S : Int) = D.S
  · by_cases h2 : (T : Int) = D.T
    · have d1 : ((S : Int) == D.S) = true := by simpa using h1
      have d2 : ((T : Int) == D.T) = true := by simpa using h2
      have e : b = true := by rw [hb]; exact decide_eq_true ⟨h1, h2⟩
      subst e
      clear hb h1 h2
      go_wp2
      go_ret
      exact ⟨rfl, L2'.out⟩
    · have d1 : ((S : Int) == D.S) = true := by simpa using h1
      have d2 : ((T : Int) == D.T) = false := by simpa using h2
      have e : b = false := by rw [hb]; exact decide_eq_false (fun h => h2 h.2)
      subst e
      clear hb h1 h2
      go_wp2
      go_ret
      exact ⟨rfl, L2'.out⟩
  · have d1 : ((S : Int) == D.S) = false := by simpa using h1
    have e : b = false := by rw [hb]; exact decide_eq_false (fun h => h1 h.1)
    subst e
    clear hb h1
    go_wp2
    go_ret
    exact ⟨rfl, L2'.out⟩
theorem rc_iff (W : Nat) (f : Nat → Bool) (y z : Nat) : rc W f y = rc W f z ↔ ∀ i, i < W → f (y * W + i) = f (z * W + i) := by
  rw [rc_eq, rsm, decide_eq_true_eq]
/-- What the reference reckons. -/
theorem lst_eq {P : PD} (hP : P.Ok) (f g : Nat → Int) (b : Nat → Bool) (hf : ∀ i, i < P.n → f i = P.F i) (hg : ∀ i, i < P.m → g i = P.G i) (hb : ∀ t s, t < P.T → s < P.S → b (s * P.T + t) = P.L t s) :
    P.lst = decide (((nd f P.n : Int) = P.S ∧ (nd g P.m : Int) = P.T) ∧ (nd (rc P.T b) P.S : Int) = P.S ∧ (nd (rc P.S (tnf P.T P.S b)) P.T : Int) = P.T) := by
  have e1 : nd f P.n = nd (fun x => (P.F x : Nat)) P.n := nd_same _ _ _ fun y z hy hz => by rw [hf y hy, hf z hz]
  have e2 : nd g P.m = nd (fun x => (P.G x : Nat)) P.m := nd_same _ _ _ fun y z hy hz => by rw [hg y hy, hg z hz]
  have h := least_iff P.n P.m P.S P.T P.F P.G P.L (rc P.m (tnf P.n P.m P.wvf)) (rc P.n P.wvf) (rc P.T b) (rc P.S (tnf P.T P.S b)) hP.f hP.g
    (fun x z hx hz => by
      rw [rc_iff]
      constructor
      · intro h y hy
        have := h y hy
        rwa [tnf_at _ _ _ hy, tnf_at _ _ _ hy, wvf_at P hx, wvf_at P hz] at this
      · intro h y hy
        rw [tnf_at _ _ _ hy, tnf_at _ _ _ hy, wvf_at P hx, wvf_at P hz]
        exact h y hy)
    (fun y z hy hz => by
      rw [rc_iff]
      constructor
      · intro h x hx
        have := h x hx
        rwa [wvf_at P hx, wvf_at P hx] at this
      · intro h x hx
        rw [wvf_at P hx, wvf_at P hx]
        exact h x hx)
    (fun s z hs hz => by
      rw [rc_iff]
      constructor
      · intro h t ht
        have := h t ht
        rwa [hb t s ht hs, hb t z ht hz] at this
      · intro h t ht
        rw [hb t s ht hs, hb t z ht hz]
        exact h t ht)
    (fun t z ht hz => by
      rw [rc_iff]
      constructor
      · intro h s hs
        have := h s hs
        rwa [tnf_at _ _ _ hs, tnf_at _ _ _ hs, hb t s ht hs, hb z s hz hs] at this
      · intro h s hs
        rw [tnf_at _ _ _ hs, tnf_at _ _ _ hs, hb t s ht hs, hb z s hz hs]
        exact h s hs)
  unfold PD.lst
  rw [e1, e2]
  congr 1
  simp only [eq_iff_iff]
  rw [h]
  omega

end Go.Proofs.YtbafhdinalapoaaDoor
