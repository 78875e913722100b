/- The statement FactorFewest. -/
import Derived.Test.YtbafhdinalapoaaDoorAlf
import Derived.Test.YtbafhdinalapoaaDoorVld
import Derived.Test.YtbafhdinalapoaaDoorFkc
namespace Go.Proofs.YtbafhdinalapoaaDoor
open Go.RowKit
set_option linter.unusedVariables false
set_option linter.unusedSimpArgs false
set_option maxRecDepth 100000

open L2 (nd ren)
/-- The drawdown of a draft, as its cells. -/
def PD.wvf (P : PD) (i : Nat) : Bool := P.L (P.G (i / P.n)) (P.F (i % P.n))
theorem tnf_at (W H : Nat) (f : Nat → Bool) {x y : Nat} (hy : y < H) : tnf W H f (x * H + y) = f (y * W + x) := by
  unfold tnf
  have e1 : (x * H + y) % H = y := by rw [Nat.mul_comm, Nat.mul_add_mod]; exact Nat.mod_eq_of_lt hy
  have e2 : (x * H + y) / H = x := by rw [Nat.mul_comm, Nat.mul_add_div (by omega), Nat.div_eq_of_lt hy]; rfl
  rw [e1, e2]
theorem wvf_at (P : PD) {x y : Nat} (hx : x < P.n) : P.wvf (y * P.n + x) = P.L (P.G y) (P.F x) := by
  unfold PD.wvf
  have e1 : (y * P.n + x) % P.n = x := by rw [Nat.mul_comm, Nat.mul_add_mod]; exact Nat.mod_eq_of_lt hx
  have e2 : (y * P.n + x) / P.n = y := by rw [Nat.mul_comm, Nat.mul_add_div (by omega), Nat.div_eq_of_lt hx]; rfl
  rw [e1, e2]
/-- Columns with one shaft are of one kind. -/
theorem col_kind (P : PD) {x z : Nat} (hx : x < P.n) (hz : z < P.n) (h : P.F x = P.F z) : rc P.m (tnf P.n P.m P.wvf) x = rc P.m (tnf P.n P.m P.wvf) z := by
  rw [rc_eq]
  unfold rsm
  rw [decide_eq_true_iff]
  intro i hi
  rw [tnf_at _ _ _ hi, tnf_at _ _ _ hi, wvf_at P hx, wvf_at P hz, h]
theorem row_kind (P : PD) {y z : Nat} (h : P.G y = P.G z) : rc P.n P.wvf y = rc P.n P.wvf z := by
  rw [rc_eq]
  unfold rsm
  rw [decide_eq_true_iff]
  intro i hi
  rw [wvf_at P hi, wvf_at P hi, h]

set_option maxHeartbeats 800000 in
theorem few_not (D : Dr) (w : World) (hE : Env w) (hd : D.In w w.heap.size) (hv : ∀ v, Below w.heap.size w v → Calls Tryd.prog 29 #[.agg #[.int .i64 D.S, .int .i64 D.T, .slice D.A D.n D.c, .slice D.B D.m D.d, .int .i64 D.W, .int .i64 D.H, .slice D.C D.k D.e]] v fun e w' => e = .returned (.bool false) ∧ Below v.heap.size v w') :
    Calls Tryd.prog 6 #[.agg #[.int .i64 D.S, .int .i64 D.T, .slice D.A D.n D.c, .slice D.B D.m D.d, .int .i64 D.W, .int .i64 D.H, .slice D.C D.k D.e]] w fun e w' => e = .returned (.bool true) ∧ Below w.heap.size w w' := by
  obtain ⟨hx, hz⟩ := dps1 w D hd
  have HV := Lib.hid hv
  have HE := Lib.hid (fun v (h : Below w.heap.size w v) => hE.next h)
  have HX := Lib.hid hx
  have L0 := Lib.hid hz
  clear hd hx hz hE hv
  go_enter Tryd.func6, Tryd.ntmps6
  obtain ⟨q0, q1, q2, q3, q4, q5, q6, q7⟩ := HX.out.box.all
  go_wp2_with fail
  clear q0 q1 q2 q3 q4 q5 q6 q7
  refine (HV.out _ L0.out.bel).mono ?_
  rintro e w1 ⟨rfl, hb⟩
  have L1 := Lib.hid (L0.out.next hb)
  clear hb
  go_wp2_with fail
  refine (alive_any _ (HE.out _ L1.out.bel)).mono ?_
  rintro e w2 ⟨rfl, hb⟩
  have L2' := Lib.hid (L1.out.next hb)
  clear hb
  go_wp2
  go_ret
  exact ⟨rfl, L2'.out.bel⟩

set_option maxHeartbeats 3200000 in
theorem few_main (P : PD) (hP : P.Ok) (ba oa ca bb ob cb : Nat) (C : Option Addr) (cc : Nat) (f g : Nat → Int) (b : Nat → Bool) (w : World) (hE : Env w)
    (hI : (⟨P.S, P.T, some ⟨ba, oa, none⟩, P.n, ca, some ⟨bb, ob, none⟩, P.m, cb, P.T, P.S, C, P.T * P.S, cc, f, g, b⟩ : Dr).Is P) (hd : (⟨P.S, P.T, some ⟨ba, oa, none⟩, P.n, ca, some ⟨bb, ob, none⟩, P.m, cb, P.T, P.S, C, P.T * P.S, cc, f, g, b⟩ : Dr).In w w.heap.size)
    (hv : ∀ v, Below w.heap.size w v → Calls Tryd.prog 29 #[.agg #[.int .i64 P.S, .int .i64 P.T, .slice (some ⟨ba, oa, none⟩) P.n ca, .slice (some ⟨bb, ob, none⟩) P.m cb, .int .i64 P.T, .int .i64 P.S, .slice C (P.T * P.S) cc]] v fun e w' => e = .returned (.bool true) ∧ Below v.heap.size v w') :
    Calls Tryd.prog 6 #[.agg #[.int .i64 P.S, .int .i64 P.T, .slice (some ⟨ba, oa, none⟩) P.n ca, .slice (some ⟨bb, ob, none⟩) P.m cb, .int .i64 P.T, .int .i64 P.S, .slice C (P.T * P.S) cc]] w fun e w' => e = .returned (.bool true) ∧ Below w.heap.size w w' := by
  obtain ⟨hx, hz⟩ := dps1 w _ hd
  have HV := Lib.hid hv
  have HE := Lib.hid (fun v (h : Below w.heap.size w v) => hE.next h)
  have HW := Lib.hid (fun v (h : Below w.heap.size w v) => (show Calls Tryd.prog 30 #[.agg #[.int .i64 P.S, .int .i64 P.T, .slice (some ⟨ba, oa, none⟩) P.n ca, .slice (some ⟨bb, ob, none⟩) P.m cb, .int .i64 P.T, .int .i64 P.S, .slice C (P.T * P.S) cc]] v (OkGrid v P.n P.m P.wvf) from weave_ok hI hP v (hd.next h)))
  have HTH := Lib.hid (fun v (h : Below w.heap.size w v) => (show L2.Holds v v.heap.size (some ⟨ba, oa, none⟩) P.n f from (hd.next h).th))
  have HTR := Lib.hid (fun v (h : Below w.heap.size w v) => (show L2.Holds v v.heap.size (some ⟨bb, ob, none⟩) P.m g from (hd.next h).tr))
  have HF := Lib.hid (show ∀ i, i < P.n → f i = (P.F i : Nat) from hI.f)
  have HGG := Lib.hid (show ∀ i, i < P.m → g i = (P.G i : Nat) from hI.g)
  obtain ⟨p1, p2, p3, p4, p5, p6, p7, p8, pf, pg⟩ := hP
  have HX := Lib.hid hx.box
  have L0 := Lib.hid hz
  clear hd hx hz hE hv hI pf pg
  obtain ⟨wf, hwf⟩ : ∃ wf, P.wvf = wf := ⟨_, rfl⟩
  obtain ⟨cx, hcx⟩ : ∃ cx, rc P.m (tnf P.n P.m wf) = cx := ⟨_, rfl⟩
  obtain ⟨cy, hcy⟩ : ∃ cy, rc P.n wf = cy := ⟨_, rfl⟩
  have HKX := Lib.hid (show ∀ x z, x < P.n → z < P.n → f x = f z → cx x = cx z by
    intro x z hx hz h
    have e : P.F x = P.F z := by have h1 := HF.out x hx; have h2 := HF.out z hz; omega
    rw [← hcx, ← hwf]
    exact col_kind P hx hz e)
  have HKY := Lib.hid (show ∀ x z, x < P.m → z < P.m → g x = g z → cy x = cy z by
    intro x z hx hz h
    have e : P.G x = P.G z := by have h1 := HGG.out x hx; have h2 := HGG.out z hz; omega
    rw [← hcy, ← hwf]
    exact row_kind P e)
  rw [hwf] at HW
  clear HF HGG hwf
  obtain ⟨S, T, n, m, F, G, L⟩ := P
  dsimp only at *
  have hnx : nd cx n ≤ nd f n := nd_le_nd _ _ _ fun y z hy hz h => HKX.out y z hy hz h
  have hny : nd cy m ≤ nd g m := nd_le_nd _ _ _ fun y z hy hz h => HKY.out y z hy hz h
  go_enter Tryd.func6, Tryd.ntmps6
  obtain ⟨q0, q1, q2, q3, q4, q5, q6, q7⟩ := HX.out.all
  dsimp only at q0 q1 q2 q3 q4 q5 q6
  go_wp2_with fail
  clear q0 q1 q2 q3 q4 q5 q6 q7
  refine (HV.out _ L0.out.bel).mono ?_
  rintro e w1 ⟨rfl, hb⟩
  have X1 := Lib.hid (HX.out.next hb)
  have L1 := Lib.hid (L0.out.next hb)
  clear hb HX L0
  obtain ⟨q0, q1, q2, q3, q4, q5, q6, q7⟩ := X1.out.all
  dsimp only at q0 q1 q2 q3 q4 q5 q6
  go_wp2_with fail
  clear q0 q1 q2 q3 q4 q5 q6 q7
  refine (HW.out _ L1.out.bel).mono ?_
  rintro e w2 ⟨kg, rfl, hkg, hrow, hb⟩
  have hba : Below w2.heap.size w2 (w2.alloc (.cells #[.int .i64 n, .int .i64 m, .slice (some ⟨kg, 0, none⟩) (n * m) (n * m)] 25)) := (Below.refl _ _).alloc (Nat.le_refl _) _
  have Y2 := Lib.hid (Box.new w2 n m (.slice (some ⟨kg, 0, none⟩) (n * m) (n * m)))
  have R2 := Lib.hid (hrow.below hba hrow.lt)
  have X2 := Lib.hid ((X1.out.next hb).next hba)
  have L2' := Lib.hid ((L1.out.next hb).next hba)
  have hw2g : w2.heap.size < (w2.alloc (.cells #[.int .i64 n, .int .i64 m, .slice (some ⟨kg, 0, none⟩) (n * m) (n * m)] 25)).heap.size := by simp
  clear hb hba hrow X1 L1
  obtain ⟨r0, r1, r2, r3, r4, r5, r6⟩ := Y2.out.all
  go_wp2_with fail
  clear r0 r1 r2 r3 r4 r5 r6
  generalize w2.alloc (.cells #[.int .i64 n, .int .i64 m, .slice (some ⟨kg, 0, none⟩) (n * m) (n * m)] 25) = v2 at *
  have hcnt := count_ok n m kg 0 (n * m) wf v2 (R2.out.holds R2.out.lt) (Nat.le_refl _) p5 p6 p7 p8
  rw [hcx, hcy] at hcnt
  refine hcnt.mono ?_
  rintro e w3 ⟨rfl, hb⟩
  have X3 := Lib.hid (X2.out.next hb)
  have L3 := Lib.hid (L2'.out.next hb)
  have Y3 := Lib.hid (Y2.out.below hb Y2.out.lt)
  have R3 := Lib.hid (R2.out.below hb R2.out.lt)
  clear hb X2 Y2 R2
  have hcol := columns_ok n m kg 0 (n * m) wf w3 (R3.out.holds R3.out.lt) (Nat.le_refl _) p5 p6 p7 p8
  rw [hcx] at hcol
  obtain ⟨r0, r1, r2, r3, r4, r5, r6⟩ := Y3.out.all
  go_wp2_with fail
  clear r0 r1 r2 r3 r4 r5 r6
  refine hcol.mono ?_
  rintro e w4 ⟨A1, c1, rfl, -, hr1, hb⟩
  have X4 := Lib.hid (X3.out.next hb)
  have L4 := Lib.hid (L3.out.next hb)
  have Y4 := Lib.hid (Y3.out.below hb Y3.out.lt)
  have R4 := Lib.hid (R3.out.below hb R3.out.lt)
  clear hb X3 Y3 R3
  obtain ⟨k1, rfl, hk1, hr1⟩ := hr1 p5
  have C4 := Lib.hid hr1
  clear hcol hr1 hcnt
  have hrowk := rows_ok n m kg 0 (n * m) wf w4 (R4.out.holds R4.out.lt) (Nat.le_refl _) p5 p6 p7 p8
  rw [hcy] at hrowk
  obtain ⟨r0, r1, r2, r3, r4, r5, r6⟩ := Y4.out.all
  go_wp2_with fail
  clear r0 r1 r2 r3 r4 r5 r6
  refine hrowk.mono ?_
  rintro e w5 ⟨A2, c2, rfl, -, hr2, hb⟩
  have C5 := Lib.hid (C4.out.below hb C4.out.lt)
  have X5 := Lib.hid (X4.out.next hb)
  have L5 := Lib.hid (L4.out.next hb)
  have Y5 := Lib.hid (Y4.out.below hb Y4.out.lt)
  have R5 := Lib.hid (R4.out.below hb R4.out.lt)
  clear hb X4 Y4 R4
  obtain ⟨k2, rfl, hk2, hr2⟩ := hr2 p7
  have E5 := Lib.hid hr2
  clear hrowk hr2
  obtain ⟨q0, q1, q2, q3, q4, q5, q6, q7⟩ := X5.out.all
  dsimp only at q0 q1 q2 q3 q4 q5 q6
  go_wp2_with fail
  clear q0 q1 q2 q3 q4 q5 q6 q7
  refine (L2.numbered_any (some ⟨ba, oa, none⟩) n ca f _ (by omega) (HTH.out _ L5.out.bel)).mono ?_
  rintro e w6 ⟨A3, c3, rfl, -, -, hb⟩
  have C6 := Lib.hid (C5.out.below hb C5.out.lt)
  have E6 := Lib.hid (E5.out.below hb E5.out.lt)
  have X6 := Lib.hid (X5.out.next hb)
  have L6 := Lib.hid (L5.out.next hb)
  have Y6 := Lib.hid (Y5.out.below hb Y5.out.lt)
  have R6 := Lib.hid (R5.out.below hb R5.out.lt)
  clear hb X5 Y5 R5
  obtain ⟨q0, q1, q2, q3, q4, q5, q6, q7⟩ := X6.out.all
  dsimp only at q0 q1 q2 q3 q4 q5 q6
  go_wp2_with fail
  clear q0 q1 q2 q3 q4 q5 q6 q7
  refine (L2.numbered_any (some ⟨bb, ob, none⟩) m cb g _ (by omega) (HTR.out _ L6.out.bel)).mono ?_
  rintro e w7 ⟨A4, c4, rfl, -, -, hb⟩
  have C7 := Lib.hid (C6.out.below hb C6.out.lt)
  have E7 := Lib.hid (E6.out.below hb E6.out.lt)
  have X7 := Lib.hid (X6.out.next hb)
  have L7 := Lib.hid (L6.out.next hb)
  have Y7 := Lib.hid (Y6.out.below hb Y6.out.lt)
  have R7 := Lib.hid (R6.out.below hb R6.out.lt)
  clear hb X6 Y6 R6
  obtain ⟨tb, ob', et, hlt, hth⟩ := HTH.out _ L7.out.bel p5
  obtain ⟨rfl, rfl⟩ : ba = tb ∧ oa = ob' := by cases et; exact ⟨rfl, rfl⟩
  obtain ⟨ub, oc', eu, hlu, htr⟩ := HTR.out _ L7.out.bel p7
  obtain ⟨rfl, rfl⟩ : bb = ub ∧ ob = oc' := by cases eu; exact ⟨rfl, rfl⟩
  clear et eu
  have TH := Lib.hid (fun v (h : Below w7.heap.size w7 v) i (hi : i < n) => (h.cell (p := ⟨ba, oa + i, none⟩) hlt).trans (hth i hi))
  have TR := Lib.hid (fun v (h : Below w7.heap.size w7 v) i (hi : i < m) => (h.cell (p := ⟨bb, ob + i, none⟩) hlu).trans (htr i hi))
  clear hth htr
  have d1 : decide (((nd f n : Nat) : Int) < ((nd cx n : Nat) : Int)) = false := by simp; omega
  have d2 : decide (((nd g m : Nat) : Int) < ((nd cy m : Nat) : Int)) = false := by simp; omega
  have d3 : ((n : Int) != (n : Int)) = false := by simp
  have d4 : ((m : Int) != (m : Int)) = false := by simp
  obtain ⟨q0, q1, q2, q3, q4, q5, q6, q7⟩ := X7.out.all
  dsimp only at q0 q1 q2 q3 q4 q5 q6
  go_wp2
  clear q0 q1 q2 q3 q4 q5 q6 q7 d1 d2 d3 d4 hnx hny
  go_loopw [16] (fun i wr => ∃ x : Nat, x ≤ n ∧ i = .int .i64 x ∧ Hid (Below w7.heap.size w7 wr)) (fun i _ => n - (intOf i).toNat)
  case atStart => exact ⟨0, Nat.zero_le _, rfl, Lib.hid (Below.refl _ _)⟩
  case round =>
    obtain ⟨x, hx, rfl, hB⟩ := hrel
    by_cases hlx : x < n
    · have x1 : decide ((x : Int) < (n : Int)) = true := by simp; omega
      go_wp2
      go_loopw [17] (fun i wr => ∃ y : Nat, y ≤ x ∧ i = .int .i64 y ∧ Hid (Below w7.heap.size w7 wr)) (fun i _ => x - (intOf i).toNat)
      case atStart => exact ⟨0, Nat.zero_le _, rfl, hB⟩
      case round =>
        rename_i wo _ _ _
        obtain ⟨y, hy, rfl, hB2⟩ := hrel
        by_cases hly : y < x
        · have y1 : decide ((y : Int) < (x : Int)) = true := by simp; omega
          have y2 : (y : Int) < (n : Int) := by omega
          have y3 : (x : Int) < (n : Int) := by omega
          obtain ⟨q0, q1, q2, q3, q4, q5, q6, q7⟩ := (X7.out.next hB2.out).all
          dsimp only at q0 q1 q2 q3 q4 q5 q6
          have t1 := TH.out _ hB2.out x hlx
          have t2 := TH.out _ hB2.out y (by omega)
          have k1' := (C7.out.below hB2.out C7.out.lt).cell hlx
          have k2' := (C7.out.below hB2.out C7.out.lt).cell (show y < n by omega)
          have k3' := (C7.out.below hB2.out C7.out.lt).lt
          have tl : ba < wr.heap.size := by have := hB2.out.size; omega
          by_cases hf : f x = f y
          · have hk := HKX.out x y hlx (by omega) hf
            have hk2 : ren cx x = ren cx y := (ren_eq _ _ _).2 hk
            rw [hf] at t1
            rw [hk2] at k1'
            generalize f y = u at t1 t2
            generalize ren cx y = z at k1' k2'
            have g1 : (u == u) = true := by simp
            have g2 : (z != z) = false := by simp
            clear hf hk hk2
            go_wp2_with fail
            go_quiet (fail)
            go_wp2
            exact ⟨⟨y + 1, by omega, by go_num, Lib.hid (Go.Proofs.below_drewN' hB2.out _)⟩, by simp [intOf]; omega⟩
          · have g1 : (f x == f y) = false := by simpa using hf
            generalize f x = u at *
            generalize f y = u2 at *
            clear hf
            go_wp2_with fail
            go_quiet (fail)
            go_wp2
            exact ⟨⟨y + 1, by omega, by go_num, Lib.hid (Go.Proofs.below_drewN' hB2.out _)⟩, by simp [intOf]; omega⟩
        · have e : y = x := by omega
          subst e
          have y1 : decide ((y : Int) < (y : Int)) = false := by simp
          go_wp2
          exact ⟨⟨y + 1, by omega, by go_num, hB2⟩, by simp [intOf]; omega⟩
    · have e : x = n := by omega
      have x1 : decide ((x : Int) < (n : Int)) = false := by simp; omega
      go_wp2_with fail
      go_loopw [18] (fun i wr => ∃ x : Nat, x ≤ m ∧ i = .int .i64 x ∧ Hid (Below w7.heap.size w7 wr)) (fun i _ => m - (intOf i).toNat)
      case atStart => exact ⟨0, Nat.zero_le _, rfl, hB⟩
      case round =>
        obtain ⟨x, hx, rfl, hB⟩ := hrel
        by_cases hlx : x < m
        · have x1 : decide ((x : Int) < (m : Int)) = true := by simp; omega
          go_wp2
          go_loopw [19] (fun i wr => ∃ y : Nat, y ≤ x ∧ i = .int .i64 y ∧ Hid (Below w7.heap.size w7 wr)) (fun i _ => x - (intOf i).toNat)
          case atStart => exact ⟨0, Nat.zero_le _, rfl, hB⟩
          case round =>
            rename_i wo _ _ _
            obtain ⟨y, hy, rfl, hB2⟩ := hrel
            by_cases hly : y < x
            · have y1 : decide ((y : Int) < (x : Int)) = true := by simp; omega
              have y2 : (y : Int) < (m : Int) := by omega
              have y3 : (x : Int) < (m : Int) := by omega
              obtain ⟨q0, q1, q2, q3, q4, q5, q6, q7⟩ := (X7.out.next hB2.out).all
              dsimp only at q0 q1 q2 q3 q4 q5 q6
              have t1 := TR.out _ hB2.out x hlx
              have t2 := TR.out _ hB2.out y (by omega)
              have k1' := (E7.out.below hB2.out E7.out.lt).cell hlx
              have k2' := (E7.out.below hB2.out E7.out.lt).cell (show y < m by omega)
              have k3' := (E7.out.below hB2.out E7.out.lt).lt
              have tl : bb < wr.heap.size := by have := hB2.out.size; omega
              by_cases hf : g x = g y
              · have hk := HKY.out x y hlx (by omega) hf
                have hk2 : ren cy x = ren cy y := (ren_eq _ _ _).2 hk
                rw [hf] at t1
                rw [hk2] at k1'
                generalize g y = u at t1 t2
                generalize ren cy y = z at k1' k2'
                have g1 : (u == u) = true := by simp
                have g2 : (z != z) = false := by simp
                clear hf hk hk2
                go_wp2_with fail
                go_quiet (fail)
                go_wp2
                exact ⟨⟨y + 1, by omega, by go_num, Lib.hid (Go.Proofs.below_drewN' hB2.out _)⟩, by simp [intOf]; omega⟩
              · have g1 : (g x == g y) = false := by simpa using hf
                generalize g x = u at *
                generalize g y = u2 at *
                clear hf
                go_wp2_with fail
                go_quiet (fail)
                go_wp2
                exact ⟨⟨y + 1, by omega, by go_num, Lib.hid (Go.Proofs.below_drewN' hB2.out _)⟩, by simp [intOf]; omega⟩
            · have e : y = x := by omega
              subst e
              have y1 : decide ((y : Int) < (y : Int)) = false := by simp
              go_wp2
              exact ⟨⟨y + 1, by omega, by go_num, hB2⟩, by simp [intOf]; omega⟩
        · have e : x = m := by omega
          have x1 : decide ((x : Int) < (m : Int)) = false := by simp; omega
          go_wp2_with fail
          refine (alive_any _ (HE.out _ ((L7.out.bel).trans (hB.out.mono L7.out.bel.size)))).mono ?_
          rintro e w9 ⟨rfl, hb⟩
          have LF := Lib.hid ((L7.out.bel.trans (hB.out.mono L7.out.bel.size)))
          have LG := Lib.hid (LF.out.trans (hb.mono LF.out.size))
          clear hb
          go_wp2
          go_ret
          exact ⟨rfl, LG.out⟩

theorem few_any (D : Dr) (w : World) (hE : Env w) (hd : D.In w w.heap.size) : Calls Tryd.prog 6 #[.agg #[.int .i64 D.S, .int .i64 D.T, .slice D.A D.n D.c, .slice D.B D.m D.d, .int .i64 D.W, .int .i64 D.H, .slice D.C D.k D.e]] w fun e w' => e = .returned (.bool true) ∧ Below w.heap.size w w' := by
  rcases valid_case D w hd with ⟨P, hP, hI, hs, hv⟩ | hv
  · obtain ⟨S, T, A, n, c, B, m, d, W, H, C, kk, e', f, g, b⟩ := D
    have hI' := hI
    obtain ⟨eS, eT, en, em, eW, eH, ek, ef, eg, eb⟩ := hI'
    dsimp only at *
    subst eS eT en em eW eH ek
    obtain ⟨ba, oa, rfl, _, _⟩ := hd.th hP.n0
    obtain ⟨bb, ob, rfl, _, _⟩ := hd.tr hP.m0
    exact few_main P hP ba oa c bb ob d C e' f g b w hE hI hd hv
  · exact few_not D w hE hd hv
end Go.Proofs.YtbafhdinalapoaaDoor
