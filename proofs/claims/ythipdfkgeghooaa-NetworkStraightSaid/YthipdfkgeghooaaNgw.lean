/- The walk of NetworkStraight. -/
import Derived.Test.YthipdfkgeghooaaNri
import Derived.Test.YthipdfkgeghooaaNlw
namespace Go.Proofs.Ythipdfkgeghooaa
open Go.RowKit
set_option maxRecDepth 100000
set_option linter.unusedVariables false
set_option linter.unusedSimpArgs false

theorem xs_mono {n : Nat} {X Y : Nat → Nat} (h : PtOk n X Y) : ∀ {i : Nat}, i < n → X i ≤ X (n - 1) := by
  have key : ∀ d i, i + d = n - 1 → X i ≤ X (n - 1) := by
    intro d
    induction d with
    | zero => intro i e; rw [show i = n - 1 from by omega]; exact Nat.le_refl _
    | succ d ih => intro i e; have h1 := h.up i (by have := h.n0; omega); have h2 := ih (i + 1) (by omega); omega
  intro i hi
  exact key (n - 1 - i) i (by omega)
theorem hgt_lo {x0 y0 x1 y1 x y : Nat} (h : x0 < x1) (h1 : x0 ≤ x) (h2 : x ≤ x1) (a : y ≤ y0) (b : y ≤ y1) : y ≤ hgt x0 y0 x1 y1 x := by
  rw [hgt_iff h]
  have e1 : y * (x1 - x) ≤ y0 * (x1 - x) := Nat.mul_le_mul_right _ a
  have e2 : y * (x - x0) ≤ y1 * (x - x0) := Nat.mul_le_mul_right _ b
  have e3 : y * (x1 - x) + y * (x - x0) = y * (x1 - x0) := by rw [← Nat.mul_add]; congr 1; omega
  rw [Nat.mul_assoc]
  omega
theorem hgt_hi {x0 y0 x1 y1 x y : Nat} (h : x0 < x1) (h1 : x0 ≤ x) (h2 : x ≤ x1) (a : y0 ≤ y) (b : y1 ≤ y) : hgt x0 y0 x1 y1 x ≤ y := by
  rcases Nat.lt_or_ge y (hgt x0 y0 x1 y1 x) with q | q
  · have q2 := (hgt_iff (y0 := y0) (y1 := y1) (x := x) (y := y + 1) h).1 q
    have e1 : y0 * (x1 - x) ≤ y * (x1 - x) := Nat.mul_le_mul_right _ a
    have e2 : y1 * (x - x0) ≤ y * (x - x0) := Nat.mul_le_mul_right _ b
    have e3 : y * (x1 - x) + y * (x - x0) = y * (x1 - x0) := by rw [← Nat.mul_add]; congr 1; omega
    rw [Nat.mul_assoc, Nat.add_mul, Nat.one_mul] at q2
    omega
  · exact q
theorem hgt_bd {x0 y0 x1 y1 x : Nat} (h : x0 < x1) (h1 : x0 ≤ x) (h2 : x ≤ x1) : 2 * ((hgt x0 y0 x1 y1 x : Nat) : Int) * ((x1 : Int) - x0) ≤ 2 * ((y0 : Int) * ((x1 : Int) - x) + (y1 : Int) * ((x : Int) - x0)) + ((x1 : Int) - x0) ∧
    2 * ((y0 : Int) * ((x1 : Int) - x) + (y1 : Int) * ((x : Int) - x0)) + ((x1 : Int) - x0) < 2 * (((hgt x0 y0 x1 y1 x : Nat) : Int) + 1) * ((x1 : Int) - x0) := by
  have q1 := (hgt_iff (y0 := y0) (y1 := y1) (x := x) (y := hgt x0 y0 x1 y1 x) h).1 (Nat.le_refl _)
  have q2 : ¬ 2 * (hgt x0 y0 x1 y1 x + 1) * (x1 - x0) ≤ 2 * (y0 * (x1 - x) + y1 * (x - x0)) + (x1 - x0) := fun q => by
    have := (hgt_iff (y0 := y0) (y1 := y1) (x := x) (y := hgt x0 y0 x1 y1 x + 1) h).2 q
    omega
  rw [show ((x1 : Int) - x0) = ((x1 - x0 : Nat) : Int) by omega, show ((x1 : Int) - x) = ((x1 - x : Nat) : Int) by omega, show ((x : Int) - x0) = ((x - x0 : Nat) : Int) by omega]
  constructor
  · exact_mod_cast q1
  · exact_mod_cast Nat.lt_of_not_le q2
theorem hgt_step {x0 y0 x1 y1 x : Nat} {lo hi : Int} (h : x0 < x1) (h1 : x0 + 1 ≤ x) (h2 : x ≤ x1) (a0 : lo ≤ y0) (a1 : lo ≤ y1) (b0 : (y0 : Int) ≤ hi) (b1 : (y1 : Int) ≤ hi) :
    aw ((hgt x0 y0 x1 y1 x : Nat) : Int) ((hgt x0 y0 x1 y1 (x - 1) : Nat) : Int) * ((x1 : Int) - x0) < hi - lo + ((x1 : Int) - x0) := by
  obtain ⟨p1, p2⟩ := hgt_bd (y0 := y0) (y1 := y1) h (show x0 ≤ x by omega) h2
  obtain ⟨r1, r2⟩ := hgt_bd (y0 := y0) (y1 := y1) h (show x0 ≤ x - 1 by omega) (show x - 1 ≤ x1 by omega)
  rw [show ((x - 1 : Nat) : Int) = (x : Int) - 1 by omega] at r1 r2
  generalize hgt x0 y0 x1 y1 x = H at *
  generalize hgt x0 y0 x1 y1 (x - 1) = G at *
  have eE : (y0 : Int) * ((x1 : Int) - ((x : Int) - 1)) + (y1 : Int) * ((x : Int) - 1 - x0) = (y0 : Int) * ((x1 : Int) - x) + (y1 : Int) * ((x : Int) - x0) + y0 - y1 := by
    rw [show (x1 : Int) - ((x : Int) - 1) = ((x1 : Int) - x) + 1 by omega, show (x : Int) - 1 - x0 = ((x : Int) - x0) - 1 by omega, Int.mul_add (y0 : Int) ((x1 : Int) - x) 1, Int.mul_sub (y1 : Int) ((x : Int) - x0) 1, Int.mul_one, Int.mul_one]
    omega
  rw [eE] at r1 r2
  generalize (y0 : Int) * ((x1 : Int) - x) + (y1 : Int) * ((x : Int) - x0) = E at *
  generalize hW : (x1 : Int) - x0 = W at *
  have hW1 : 0 < W := by omega
  rw [Int.mul_assoc] at p1 r1
  rw [Int.mul_assoc, Int.add_mul, Int.one_mul] at p2 r2
  unfold aw
  split
  · rw [Int.sub_mul]; omega
  · rw [Int.sub_mul]; omega
theorem straight_big (A : Option Addr) (n c : Nat) (X Y : Nat → Int) (w : World) (h : PH w w.heap.size A n X Y) (hc : n ≤ c) (h20 : 20 < n) : Calls Try.prog 9 #[.slice A n c] w fun e w' => e = .returned (.bool true) ∧ Below w.heap.size w w' := by
  have HA := Lib.hid (alive_any w)
  have u1 : decide ((20 : Int) < (n : Int)) = true := by simp; omega
  clear h
  go_enter Try.func9, Try.ntmps9
  go_wp2_with (go_at_call 28; with_reducible refine Calls.mono HA.out ?_; rintro e w1 ⟨rfl, hb⟩)
  go_ret
  exact ⟨rfl, hb⟩
theorem straight_bad (A : Option Addr) (n c : Nat) (X Y : Nat → Int) (w : World) (h : PH w w.heap.size A n X Y) (hc : n ≤ c) (h20 : ¬ 20 < n) (hz : ptB n X Y = false) : Calls Try.prog 9 #[.slice A n c] w fun e w' => e = .returned (.bool true) ∧ Below w.heap.size w w' := by
  have HA := Lib.hid (alive_any w)
  have HL := Lib.hid (fun u (hb : Below w.heap.size w u) => ln_bad A n c X Y u (by omega) (h.next hb) hz)
  have u1 : decide ((20 : Int) < (n : Int)) = false := by simp; omega
  clear h hz
  go_enter Try.func9, Try.ntmps9
  go_wp2_with (first | (go_at_call 28; with_reducible refine Calls.mono HA.out ?_; rintro e w1 ⟨rfl, hb⟩; have HB := Lib.hid hb) | (go_at_call 23; with_reducible refine Calls.mono (HL.out _ HB.out) ?_; rintro e w2 ⟨rfl, hb2⟩))
  go_ret
  exact ⟨rfl, HB.out.trans (hb2.mono HB.out.size)⟩
set_option maxHeartbeats 6400000 in
theorem straight_ok (A : Option Addr) (n c : Nat) (X Y : Nat → Nat) (w : World) (hp : PtOk n X Y) (h : PH w w.heap.size A n (fun i => ((X i : Nat) : Int)) (fun i => ((Y i : Nat) : Int))) (hc : n ≤ c) (h20 : ¬ 20 < n) : Calls Try.prog 9 #[.slice A n c] w fun e w' => e = .returned (.bool true) ∧ Below w.heap.size w w' := by
  have HA := Lib.hid (alive_any w)
  have HL := Lib.hid (fun u (hb : Below w.heap.size w u) => ln_ok A n c X Y u hp (by omega) hc (h.next hb))
  have u1 : decide ((20 : Int) < (n : Int)) = false := by simp; omega
  have hn0 := hp.n0
  obtain ⟨b, o, rfl, hl, hcc⟩ := h (by omega)
  have HCC := Lib.hid hcc
  have HP := Lib.hid hp
  have hxl := hp.xs (n - 1) (by omega)
  have z0 : ((n : Int) == 0) = false := by simp; omega
  have z00 : ((0 : Int) != 0) = false := rfl
  have z7 : IntKind.i64.wrap ((n : Int) - 1) = ((n - 1 : Nat) : Int) := by rw [IntWalk.i64_in _ (by omega)]; omega
  have y1 : ((n - 1 : Nat) : Int) < (n : Int) := by omega
  have y2 : (0 : Int) ≤ ((n - 1 : Nat) : Int) := by omega
  have HB1 := Lib.hid hcc
  have HLF := Lib.hid (lnf_line hp)
  have HLP := Lib.hid (fun i hi => lnf_pt hp (i := i) hi)
  clear h hcc hp
  go_enter Try.func9, Try.ntmps9
  go_wp2_with (first | (go_at_call 28; with_reducible refine Calls.mono HA.out ?_; rintro e w1 ⟨rfl, hb⟩; have HB := Lib.hid hb; clear hb) | (go_at_call 23; with_reducible refine Calls.mono (HL.out _ HB.out) ?_; rintro e w2 ⟨k, d, rfl, hr, hb2⟩; have HR := Lib.hid hr; have HB2 := Lib.hid (HB.out.trans (hb2.mono HB.out.size)); clear hr hb2; have a0 := (HB2.out.cell (p := ⟨b, o + (n - 1) * 2, none⟩) hl).trans (HCC.out (n - 1) (by omega)).1; generalize hxx : X (n - 1) = xl at *; generalize hnp : n - 1 = np at *; have v1 : IntKind.i64.wrap ((xl : Int) + 1) = (xl : Int) + 1 := IntWalk.i64_in _ (by omega); have v2 : (((xl : Int) + 1) != ((xl : Int) + 1)) = false := by simp))
  clear a0 HL HA HB v1 v2
  have HXL := Lib.hid (And.intro hxx hnp)
  clear hxx hnp
  go_loopw [6] (fun i wr => ∃ j : Nat, j ≤ n ∧ i = .int .i64 (j : Nat) ∧ Hid (Below w2.heap.size w2 wr)) (fun i _ => n - (intOf i).toNat)
  case atStart => exact ⟨0, Nat.zero_le _, rfl, Lib.hid (Below.refl _ _)⟩
  case round =>
    obtain ⟨j, hj, rfl, HW⟩ := hrel
    have HBW := Lib.hid (HB2.out.trans (HW.out.mono HB2.out.size))
    by_cases hlt : j < n
    · have t1 : (j : Int) < (n : Int) := by omega
      have t2 : (0 : Int) ≤ (j : Int) := by omega
      have a0 := (HBW.out.cell (p := ⟨b, o + j * 2, none⟩) hl).trans (HCC.out j hlt).1
      have a1 := (HBW.out.cell (p := ⟨b, o + j * 2 + 1, none⟩) hl).trans (HCC.out j hlt).2
      have hle : X j ≤ xl := by
        have h1 := xs_mono HP.out hlt
        have h2 := HXL.out
        rw [← h2.1, ← h2.2]
        exact h1
      have a2 := (HR.out.below HW.out HR.out.lt).cell (i := X j) (by omega)
      rw [HLP.out j hlt] at a2
      have HYJ := Lib.hid (HP.out.ys j hlt)
      generalize hxj : X j = xj at *
      generalize hyj : Y j = yj at *
      have u2 : decide ((xj : Int) < 0) = false := by simp
      have u3 : decide ((xl : Int) + 1 ≤ (xj : Int)) = false := by simp; omega
      have u4 : ((yj : Int) != (yj : Int)) = false := by simp
      have u5 : (xj : Int) < (xl : Int) + 1 := by omega
      have u6 : (0 : Int) ≤ (xj : Int) := by omega
      go_wp2
      go_quiet (fail)
      generalize hwd : World.drewN wr _ = wd
      have HWd : Hid (Below w2.heap.size w2 wd) := Lib.hid (by rw [← hwd]; exact Go.Proofs.below_drewN' HW.out _)
      clear hwd HW HBW a0 a1 a2
      have HBd := Lib.hid (HB2.out.trans (HWd.out.mono HB2.out.size))
      have a0 := (HBd.out.cell (p := ⟨b, o + j * 2, none⟩) hl).trans (HCC.out j hlt).1
      have a1 := (HBd.out.cell (p := ⟨b, o + j * 2 + 1, none⟩) hl).trans (HCC.out j hlt).2
      rw [hxj] at a0
      rw [hyj] at a1
      by_cases hj0 : j = 0
      · have g1 : ((j : Int) == 0) = true := by simp; omega
        go_wp2
        go_roundw
        case rel => exact ⟨j + 1, by omega, by go_num, HWd⟩
        case measure => simp [intOf]; omega
      · have g1 : ((j : Int) == 0) = false := by simp; omega
        have w1 : IntKind.i64.wrap ((j : Int) - 1) = ((j - 1 : Nat) : Int) := by rw [IntWalk.i64_in _ (by omega)]; omega
        have w2' : ((j - 1 : Nat) : Int) < (n : Int) := by omega
        have w3 : (0 : Int) ≤ ((j - 1 : Nat) : Int) := by omega
        have a3 := (HBd.out.cell (p := ⟨b, o + (j - 1) * 2, none⟩) hl).trans (HCC.out (j - 1) (by omega)).1
        have a4 := (HBd.out.cell (p := ⟨b, o + (j - 1) * 2 + 1, none⟩) hl).trans (HCC.out (j - 1) (by omega)).2
        have HJ1 := Lib.hid (show (j - 1) + 1 = j by omega)
        have HUP := Lib.hid (show X (j - 1) < xj by have h := HP.out.up (j - 1) (by omega); rw [HJ1.out, hxj] at h; exact h)
        have HYP := Lib.hid (HP.out.ys (j - 1) (by omega))
        have HAT := Lib.hid (show ∀ x, X (j - 1) ≤ x → x ≤ xj → lnf n X Y x = ((hgt (X (j - 1)) (Y (j - 1)) xj yj x : Nat) : Int) by
          intro x q1 q2
          have h := HLF.out.at' (j - 1) (by omega) x q1
          rw [HJ1.out, hxj, hyj] at h
          exact h q2)
        have HC1 := Lib.hid (HCC.out (j - 1) (by omega))
        have HC0 := Lib.hid (show w.cell? ⟨b, o + j * 2, none⟩ = some (.int .i64 ((xj : Nat) : Int)) ∧ True by have h := (HCC.out j hlt).1; rw [hxj] at h; exact ⟨h, trivial⟩)
        generalize hj1 : j - 1 = j1 at *
        generalize X j1 = xp at *
        generalize Y j1 = yp at *
        clear hj1 hxj hyj
        have hup := HUP.out
        obtain ⟨W, hW⟩ : ∃ W : Int, W = (xj : Int) - (xp : Int) := ⟨_, rfl⟩
        have w4 : IntKind.i64.wrap ((xj : Int) - (xp : Int)) = W := by rw [IntWalk.i64_in _ (by omega)]; omega
        have HWW := Lib.hid hW
        have hW0 : 0 ≤ W := by omega
        have hW1 : W ≤ 64 := by omega
        have hW2 : xj < 64 := by have h := hxl; omega
        clear hW
        have w5 : IntKind.i64.wrap ((xp : Int) + 1) = ((xp + 1 : Nat) : Int) := by rw [IntWalk.i64_in _ (by omega)]; omega
        go_wp2
        go_quiet (fail)
        generalize hwe : World.drewN wd _ = we
        have HWe : Hid (Below w2.heap.size w2 we) := Lib.hid (by rw [← hwe]; exact Go.Proofs.below_drewN' HWd.out _)
        clear hwe HWd HBd a0 a1 a3 a4
        have HBe := Lib.hid (HB2.out.trans (HWe.out.mono HB2.out.size))
        have hyj := HYJ.out
        have hyp := HYP.out
        have l1 : min (yp : Int) (yj : Int) ≤ (yp : Int) := by omega
        have l2 : min (yp : Int) (yj : Int) ≤ (yj : Int) := by omega
        have l3 : 0 ≤ min (yp : Int) (yj : Int) := by omega
        have l4 : (yp : Int) ≤ max (yp : Int) (yj : Int) := by omega
        have l5 : (yj : Int) ≤ max (yp : Int) (yj : Int) := by omega
        have l6 : max (yp : Int) (yj : Int) ≤ 1000 := by omega
        generalize min (yp : Int) (yj : Int) = lo at *
        generalize max (yp : Int) (yj : Int) = hi at *
        have a3 := (HBe.out.cell (p := ⟨b, o + j1 * 2, none⟩) hl).trans (HC1.out).1
        go_wp2
        go_loopw [10] (fun i wr => ∃ x : Nat, xp < x ∧ x ≤ xj + 1 ∧ i = .int .i64 (x : Nat) ∧ Hid (Below w2.heap.size w2 wr)) (fun i _ => 64 + 1 - (intOf i).toNat)
        case atStart => exact ⟨xp + 1, by omega, by omega, rfl, HWe⟩
        case round =>
          obtain ⟨x, hx0, hx1, rfl, HV⟩ := hrel
          have HBV := Lib.hid (HB2.out.trans (HV.out.mono HB2.out.size))
          have b0 := (HBV.out.cell (p := ⟨b, o + j * 2, none⟩) hl).trans HC0.out.1
          by_cases hxj : x ≤ xj
          · have s1 : decide ((x : Int) ≤ (xj : Int)) = true := by simp; exact hxj
            have s2 : decide ((x : Int) < 1) = false := by simp; omega
            have b1 := (HR.out.below HV.out HR.out.lt).cell (i := x) (by omega)
            have b2 := (HR.out.below HV.out HR.out.lt).cell (i := x - 1) (by omega)
            rw [HAT.out x (by omega) hxj] at b1
            rw [HAT.out (x - 1) (by omega) (by omega)] at b2
            have m1 : (lo : Int) ≤ ((hgt xp yp xj yj x : Nat) : Int) := by
              have h := hgt_lo (x0 := xp) (y0 := yp) (x1 := xj) (y1 := yj) (x := x) (y := lo.toNat) hup (by omega) hxj (by omega) (by omega)
              omega
            have m2 : ((hgt xp yp xj yj x : Nat) : Int) ≤ hi := by
              have h := hgt_hi (x0 := xp) (y0 := yp) (x1 := xj) (y1 := yj) (x := x) (y := hi.toNat) hup (by omega) hxj (by omega) (by omega)
              omega
            have m3 : ((hgt xp yp xj yj (x - 1) : Nat) : Int) ≤ hi := by
              have h := hgt_hi (x0 := xp) (y0 := yp) (x1 := xj) (y1 := yj) (x := x - 1) (y := hi.toNat) hup (by omega) (by omega) (by omega) (by omega)
              omega
            have m4 := hgt_step (x0 := xp) (y0 := yp) (x1 := xj) (y1 := yj) (x := x) (lo := lo) (hi := hi) hup (by omega) hxj l1 l2 l4 l5
            rw [← HWW.out] at m4
            generalize hgt xp yp xj yj x = H at *
            generalize hgt xp yp xj yj (x - 1) = G at *
            have HA1 := Lib.hid (fun u => away_any ((H : Nat) : Int) ((G : Nat) : Int) u (by omega) (by omega))
            have m5 : 0 ≤ aw ((H : Nat) : Int) ((G : Nat) : Int) := by unfold aw; split <;> omega
            generalize aw ((H : Nat) : Int) ((G : Nat) : Int) = av at *
            have m6 : 0 ≤ av * W := Int.mul_nonneg m5 (by omega)
            have s3 : decide ((H : Int) < lo) = false := by simp; omega
            have s4 : decide (hi < (H : Int)) = false := by simp; omega
            have s5 : IntKind.i64.wrap ((x : Int) - 1) = ((x - 1 : Nat) : Int) := by rw [IntWalk.i64_in _ (by omega)]; omega
            have s6 : ((x - 1 : Nat) : Int) < (xl : Int) + 1 := by omega
            have s7 : (0 : Int) ≤ ((x - 1 : Nat) : Int) := by omega
            have s8 : (x : Int) < (xl : Int) + 1 := by omega
            have s9 : (0 : Int) ≤ (x : Int) := by omega
            have r1 : IntKind.i64.wrap (av * W) = av * W := IntWalk.i64_in _ (by omega)
            have r2 : IntKind.i64.wrap (hi - lo) = hi - lo := IntWalk.i64_in _ (by omega)
            have r3 : IntKind.i64.wrap (hi - lo + W) = hi - lo + W := IntWalk.i64_in _ (by omega)
            have r4 : decide (hi - lo + W ≤ av * W) = false := by simp; omega
            have r5 : IntKind.i64.wrap ((x : Int) + 1) = ((x + 1 : Nat) : Int) := by rw [IntWalk.i64_in _ (by omega)]; omega
            have HXX := Lib.hid (show 1 ≤ x by omega)
            generalize hx9 : x - 1 = x9 at *
            clear hx9 m1 m2 m3 m4 m5
            have hlk : k < wr.heap.size := Nat.lt_of_lt_of_le HR.out.lt HV.out.size
            obtain ⟨I, Wf, i0, h0f, hbf, hcf⟩ := family wr
            have C1 := Lib.hid (fun n' => (HA1.out (Wf n')).mono fun e w2 h => (⟨h.1, n', h.2⟩ : _ ∧ ∃ m, w2 = Wf m))
            have x0 := fun n' => ((hbf n').cell (p := ⟨k, x, none⟩) hlk).trans b1
            have x1 := fun n' => ((hbf n').cell (p := ⟨k, x9, none⟩) hlk).trans b2
            have BF := Lib.hid hbf
            clear hbf hcf b1 b2 m6
            go_wp2
            refine wp_region_fam Wf i0 h0f (by kernel_rfl) (by kernel_rfl) ?_
            clear h0f
            try dsimp only [List.append]
            repeat (go_big_quiet_step (first | exact rfl | (go_at_call 30; with_reducible exact C1.out _)))
            refine wpQuiet_nil ?_
            rintro _ ⟨nq, rfl⟩
            have HBp := Lib.hid (HV.out.trans ((BF.out nq).mono HV.out.size))
            clear x0 x1 C1 BF
            go_wp2
            go_roundw
            case rel => exact ⟨x + 1, by omega, by omega, by first | rfl | go_num, HBp⟩
            case measure => simp [intOf]; omega
          · have s1 : decide ((x : Int) ≤ (xj : Int)) = false := by simp; omega
            go_wp2
            go_roundw
            case rel => exact ⟨j + 1, by omega, by go_num, HV⟩
            case measure => simp [intOf]; omega
    · obtain rfl : j = n := by omega
      have t1 : ¬ (j : Int) < (j : Int) := by omega
      go_wp2
      go_ret
      exact ⟨rfl, HBW.out⟩
theorem straight_any (A : Option Addr) (n c : Nat) (X Y : Nat → Int) (w : World) (h : PH w w.heap.size A n X Y) (hc : n ≤ c) : Calls Try.prog 9 #[.slice A n c] w fun e w' => e = .returned (.bool true) ∧ Below w.heap.size w w' := by
  by_cases h20 : 20 < n
  · exact straight_big A n c X Y w h hc h20
  · cases hz : ptB n X Y with
    | false => exact straight_bad A n c X Y w h hc h20 hz
    | true =>
      obtain ⟨P, Q, hp, hx, hy⟩ := pt_ok hz
      exact straight_ok A n c P Q w hp (h.congr hx hy) hc h20
end Go.Proofs.Ythipdfkgeghooaa
