/- Layer 13 of the reference: a part of a grid. -/
import Derived.Test.YtngjcekjboedjaaKrg
namespace Go.Proofs.Ytngjcekjboedjaa
open Go.RowKit
set_option maxRecDepth 100000
set_option linter.unusedVariables false
set_option linter.unusedSimpArgs false

theorem part_cols {P u iu x : Nat} (h : iu + u ≤ P) (hx : x < u) : iu + x < P := by omega
set_option maxHeartbeats 6400000 in
theorem rpart_ok (P Qq u v i j : Nat) (A : Option Addr) (c : Nat) (f : Nat → Bool) (w : World) (P1 : P ≤ 64) (Q1 : Qq ≤ 64) (u0 : 1 ≤ u) (u1 : u ≤ 64) (v0 : 1 ≤ v) (v1 : v ≤ 64) (hi : i * u + u ≤ P) (hj : j * v + v ≤ Qq) (hf : Holds w w.heap.size A (P * Qq) f) :
    Calls Try.prog 99 #[.agg #[.int .i64 (P : Nat), .int .i64 (Qq : Nat), .slice A (P * Qq) c], .int .i64 (u : Nat), .int .i64 (v : Nat), .int .i64 (i : Nat), .int .i64 (j : Nat)] w fun e w' => ∃ k, e = .returned (.agg #[.int .i64 (u : Nat), .int .i64 (v : Nat), .slice (some ⟨k, 0, none⟩) (u * v) (u * v)]) ∧ w.heap.size ≤ k ∧ Row w' k (u * v) (fun q => f ((j * v + q / u) * P + (i * u + q % u))) ∧ Below w.heap.size w w' := by
  have f1 := wrap_mul (a := i) (b := u) (by omega)
  have f2 := wrap_mul (a := j) (b := v) (by omega)
  have HZ := Lib.hid (fun z => zero_int (u : Nat) (v : Nat) u v rfl rfl u1 v1 z)
  obtain ⟨iu, hiu⟩ : ∃ z, i * u = z := ⟨_, rfl⟩
  obtain ⟨jv, hjv⟩ : ∃ z, j * v = z := ⟨_, rfl⟩
  simp only [hiu] at f1 hi ⊢
  simp only [hjv] at f2 hj ⊢
  clear hiu hjv
  obtain ⟨FN, hFN⟩ : ∃ z, (fun q => f ((jv + q / u) * P + (iu + q % u))) = z := ⟨_, rfl⟩
  have HFN := Lib.hid (fun x y (hx : x < u) => (show FN (y * u + x) = f ((jv + y) * P + (iu + x)) by rw [← hFN]; show f ((jv + (y * u + x) / u) * P + (iu + (y * u + x) % u)) = _; rw [(co y hx).1, (co y hx).2]))
  rw [hFN]
  clear hFN
  obtain ⟨N, hN⟩ : ∃ z, u * v = z := ⟨_, rfl⟩
  obtain ⟨M, hM⟩ : ∃ z, P * Qq = z := ⟨_, rfl⟩
  have HNE := Lib.hid hN
  have HA := Lib.hid hf
  have HAT := Lib.hid (fun z x y (hx : x < P) (hy : y < Qq) (hr : Holds z z.heap.size A M f) => at_nat P Qq A c (x : Nat) (y : Nat) f z z.heap.size (by rw [hM]; exact hr) (Nat.le_refl _) P1 Q1 x y rfl rfl hx hy)
  have HST := Lib.hid (fun z k c1 x y q (F : Nat → Bool) (hx : x < u) (hy : y < v) (hr : Row z k N F) => set_nat u v k c1 (x : Nat) (y : Nat) q F z (by rw [hN]; exact hr) u1 v1 x y rfl rfl hx hy)
  simp only [hM] at HAT HA ⊢
  simp only [hN] at HZ HST ⊢
  clear hN hM hf
  have LB0 := Lib.hid (Below.refl w.heap.size w)
  have X1 := Lib.hid (Box.new w (P : Nat) (Qq : Nat) (.slice A M c))
  have LB0 := Lib.hid (LB0.out.alloc LB0.out.size (.cells #[.int .i64 (P : Nat), .int .i64 (Qq : Nat), .slice A M c] 24))
  have X1 := Lib.hid (X1.out.alloc (.cells #[.int .i64 0, .int .i64 0, .slice none 0 0] 24))
  have R0 := Box.new (w.alloc (.cells #[.int .i64 (P : Nat), .int .i64 (Qq : Nat), .slice A M c] 24)) 0 0 (.slice none 0 0)
  rw [show ((w.alloc (.cells #[.int .i64 (P : Nat), .int .i64 (Qq : Nat), .slice A M c] 24))).heap.size = w.heap.size + 1 by simp] at R0
  have R0 := Lib.hid R0
  have LB0 := Lib.hid (LB0.out.alloc LB0.out.size (.cells #[.int .i64 0, .int .i64 0, .slice none 0 0] 24))
  go_enter Try.func99, Try.ntmps99
  go_upto_region 1 with (fail)
  generalize (w.alloc (.cells #[.int .i64 (P : Nat), .int .i64 (Qq : Nat), .slice A M c] 24)).alloc (.cells #[.int .i64 0, .int .i64 0, .slice none 0 0] 24) = w0 at *
  go_wp2_with fail
  with_reducible refine Calls.mono (HZ.out _) ?_
  rintro e w1 ⟨k, rfl, hk, hrow, hb⟩
  have LB1 := Lib.hid (LB0.out.trans (hb.mono LB0.out.size))
  have X1 := Lib.hid (X1.out.below hb X1.out.lt)
  have R0 := Lib.hid (R0.out.below hb R0.out.lt)
  have RK := Lib.hid hrow
  have hkw : w.heap.size ≤ k := Nat.le_trans LB0.out.size hk
  clear hb LB0 hrow hk
  have hb := ((Below.refl w1.heap.size w1).alloc (by simp; try omega) (.cells #[.int .i64 (u : Nat), .int .i64 (v : Nat), .slice (some ⟨k, 0, none⟩) N N] 24))
  have LB2 := Lib.hid (LB1.out.trans (hb.mono LB1.out.size))
  have X1 := Lib.hid (X1.out.below hb X1.out.lt)
  have R0 := Lib.hid (R0.out.below hb R0.out.lt)
  have RK := Lib.hid (RK.out.below hb RK.out.lt)
  have XO := Box.new w1 (u : Nat) (v : Nat) (.slice (some ⟨k, 0, none⟩) N N)
  have XO := Lib.hid XO
  clear hb LB1
  go_upto_region 2 with (fail)
  obtain ⟨ob, hob⟩ : ∃ z, w1.heap.size = z := ⟨_, rfl⟩
  rw [hob] at XO
  try rw [hob]
  clear hob
  generalize w1.alloc (.cells #[.int .i64 (u : Nat), .int .i64 (v : Nat), .slice (some ⟨k, 0, none⟩) N N] 24) = w2 at *
  have HA := Lib.hid (HA.out.below LB2.out)
  have n1 : w.heap.size ≠ k := fun h => RK.out.ne_box X1.out h.symm
  have n4 : ob ≠ k := fun h => RK.out.ne_box XO.out h.symm
  have n5 : w.heap.size + 1 ≠ k := fun h => RK.out.ne_box R0.out h.symm
  have hw2 := LB2.out.size
  go_wp2
  go_loopw [12] (fun i wr => ∃ y : Nat, y ≤ v ∧ i = .int .i64 y ∧ Hid (Row wr k N (part u (fun x y => FN (y * u + x)) (y * u))) ∧ Hid (But k w2 wr)) (fun i _ => v - (intOf i).toNat)
  case atStart => exact ⟨0, Nat.zero_le _, rfl, Lib.hid (RK.out.congr fun i _ => by rw [Nat.zero_mul, part_zero]), Lib.hid (But.of (Below.refl _ _))⟩
  case round =>
    obtain ⟨y, hy, rfl, HR, HU⟩ := hrel
    by_cases hlt : y < v
    · have z1 : (y : Int) < (v : Int) := by omega
      go_wp2
      go_loopw [13] (fun i wr => ∃ x : Nat, x ≤ u ∧ i = .int .i64 x ∧ Hid (Row wr k N (part u (fun x y => FN (y * u + x)) (y * u + x))) ∧ Hid (But k w2 wr)) (fun i _ => u - (intOf i).toNat)
      case atStart => exact ⟨0, Nat.zero_le _, rfl, HR, HU⟩
      case round =>
        obtain ⟨x, hx, rfl, HR2, HU2⟩ := hrel
        clear HR HU
        by_cases hlx : x < u
        · have z3 : (x : Int) < (u : Int) := by omega
          have p1 : iu + x < P := by omega
          have p2 : jv + y < Qq := by omega
          have f5 : IntKind.i64.wrap ((iu : Int) + (x : Int)) = ((iu + x : Nat) : Int) := by rw [IntWalk.i64_in _ (by omega)]; omega
          have f6 : IntKind.i64.wrap ((jv : Int) + (y : Int)) = ((jv + y : Nat) : Int) := by rw [IntWalk.i64_in _ (by omega)]; omega
          have HFQ := Lib.hid (HFN.out x y hlx)
          have HPS := Lib.hid (part_succ (W := u) (fun x y => FN (y * u + x)) x y hlx)
          obtain ⟨gx, hgx⟩ : ∃ z, iu + x = z := ⟨_, rfl⟩
          obtain ⟨gy, hgy⟩ : ∃ z, jv + y = z := ⟨_, rfl⟩
          rw [hgx] at f5 p1 HFQ
          rw [hgy] at f6 p2 HFQ
          clear hgx hgy
          have HK := Lib.hid (fun (z : World) (h : But k w2 z) => (show z.cell? ⟨ob, 0, none⟩ = some (.int .i64 (u : Nat)) ∧ z.cell? ⟨ob, 1, none⟩ = some (.int .i64 (v : Nat)) ∧ z.cell? ⟨ob, 2, none⟩ = some (.slice (some ⟨k, 0, none⟩) N N) ∧ z.cell? ⟨w.heap.size, 0, none⟩ = some (.int .i64 (P : Nat)) ∧ z.cell? ⟨w.heap.size, 1, none⟩ = some (.int .i64 (Qq : Nat)) ∧ z.cell? ⟨w.heap.size, 2, none⟩ = some (.slice A M c) from ⟨(h.box XO.out n4).c0, (h.box XO.out n4).c1, (h.box XO.out n4).c2, (h.box X1.out n1).c0, (h.box X1.out n1).c1, (h.box X1.out n1).c2⟩))
          have HHq := Lib.hid (fun (z : World) (h : But k w2 z) => ((h.holds HA.out hkw hw2).more (Nat.le_trans hw2 h.size) : Holds z z.heap.size A M f))
          have D := Lib.hid (HU2.out.trans (But.of (Below.refl wr.heap.size wr).drew))
          obtain ⟨s0, s1, s2, s3, s4, s5⟩ := HK.out _ HU2.out
          go_upto_region 8 with (fail)
          go_region_held3 (fun z => z.cell? ⟨ob, 0, none⟩ = some (.int .i64 (u : Nat)) ∧ z.cell? ⟨ob, 1, none⟩ = some (.int .i64 (v : Nat)) ∧ z.cell? ⟨ob, 2, none⟩ = some (.slice (some ⟨k, 0, none⟩) N N) ∧ z.cell? ⟨w.heap.size, 0, none⟩ = some (.int .i64 (P : Nat)) ∧ z.cell? ⟨w.heap.size, 1, none⟩ = some (.int .i64 (Qq : Nat)) ∧ z.cell? ⟨w.heap.size, 2, none⟩ = some (.slice A M c))
            (first
              | with_reducible exact HK.out _ D.out
              | with_reducible exact HK.out _ E.out
              | with_reducible exact HK.out _ HU2.out
              | with_reducible exact HK.out _ HUc.out)
            (first
              | (go_at_call 79
                 with_reducible refine Calls.mono (HAT.out _ gx gy p1 p2 (HHq.out _ D.out)) ?_
                 rintro e wb ⟨rfl, hb⟩
                 have E := Lib.hid (D.out.trans (But.of hb))
                 have RKb := Lib.hid ((HR2.out.drew).below hb (HR2.out.drew).lt)
                 clear hb)
              | (go_at_call 95
                 with_reducible refine Calls.mono (HST.out _ k N x y _ _ hlx hlt RKb.out) ?_
                 rintro e wc ⟨rfl, hrc, hbc⟩
                 have RKc := Lib.hid hrc
                 have HUc := Lib.hid (E.out.trans hbc)
                 clear hrc hbc))
          go_wp2
          go_roundw
          case rel => exact ⟨x + 1, by omega, by go_num, Lib.hid (by rw [← Nat.add_assoc, ← HPS.out]; refine RKc.out.congr fun i _ => ?_; rw [HFQ.out]), HUc⟩
          case measure => simp [intOf]; omega
        · have e : x = u := by omega
          have z3 : ¬ (x : Int) < (u : Int) := by omega
          have HR3 := Lib.hid (show Row wr k N (part u (fun x y => FN (y * u + x)) ((y + 1) * u)) by rw [Nat.add_mul, Nat.one_mul]; have h := HR2.out; rwa [e] at h)
          clear e
          go_wp2
          go_roundw
          case rel => exact ⟨y + 1, by omega, by go_num, HR3, HU2⟩
          case measure => simp [intOf]; omega
    · have e : y = v := by omega
      have z1 : ¬ (y : Int) < (v : Int) := by omega
      have R0r := Lib.hid (HU.out.box R0.out n5)
      have XOr := Lib.hid (HU.out.box XO.out n4)
      have LBr := Lib.hid (HU.out.below LB2.out hkw)
      have HE := Lib.hid (show Row wr k N FN from HR.out.congr fun i hi => by
        unfold part
        rw [if_pos (by rw [e, Nat.mul_comm, HNE.out]; exact hi)]
        show FN (i / u * u + i % u) = FN i
        rw [nat_div_mod])
      obtain ⟨rb, hrb⟩ : ∃ z, w.heap.size + 1 = z := ⟨_, rfl⟩
      have hrw : w.heap.size ≤ rb := by omega
      rw [hrb] at R0r n5 ⊢
      clear hrb e HR
      obtain ⟨r0, r1, r2, r3, r4, r5, r6⟩ := R0r.out.all
      obtain ⟨o0, o1, o2, o3, o4, o5, o6⟩ := XOr.out.all
      have HF := Lib.hid (HE.out.st3 (fun h => n5 h.symm) (.int .i64 (u : Nat)) (.int .i64 (v : Nat)) (.slice (some ⟨k, 0, none⟩) N N))
      go_wp2
      refine bodyPost_ret (v := .agg #[.int .i64 (u : Nat), .int .i64 (v : Nat), .slice (some ⟨k, 0, none⟩) N N]) (by simp [results, Try.results99, go_sem, r0, r1, r2, r3, r4, r5]) rfl ?_
      exact ⟨k, rfl, hkw, HF.out, bel_st3 LBr.out hrw _ _ _⟩
end Go.Proofs.Ytngjcekjboedjaa
