/- The reference's FromLift. -/
import Derived.Test.YtbafhdinalapoaaRfe
import Derived.Test.YtbafhdinalapoaaTwn
import Derived.Deep.DeepCutAuto
namespace Go.Proofs.Ytbafhdinalapoaa
open Go.RowKit
set_option linter.unusedVariables false
set_option linter.unusedSimpArgs false
set_option maxRecDepth 100000

open L2 (fst nd ren nd_le)
theorem Mk.some_ {w3 u : World} {k N r : Nat} {D : Dr} {S T : Int} {A : Option Addr} {n c : Nat} {B : Option Addr} {m d : Nat} {W H : Int} {C : Option Addr} {kk e : Nat} {f g : Nat → Int} {b : Nat → Bool} (hj : DBox u r D) (hr0 : w3.heap.size ≤ r) (hrk : r ≠ k) (hk : w3.heap.size ≤ k) (hr : Row u k N (fun _ => false)) (hb : Below w3.heap.size w3 u) :
    Mk w3 (((((((u.setCell ⟨r, 0, none⟩ (.int .i64 S)).setCell ⟨r, 1, none⟩ (.int .i64 T)).setCell ⟨r, 2, none⟩ (.slice A n c)).setCell ⟨r, 3, none⟩ (.slice B m d)).setCell ⟨r, 4, none⟩ (.int .i64 W)).setCell ⟨r, 5, none⟩ (.int .i64 H)).setCell ⟨r, 6, none⟩ (.slice C kk e)) r k N ⟨S, T, A, n, c, B, m, d, W, H, C, kk, e, f, g, b⟩ :=
  ⟨hr0, hk, hrk, set7_dbox hj ⟨S, T, A, n, c, B, m, d, W, H, C, kk, e, f, g, b⟩, (((((((hr.far (by simp; omega) _).far (by simp; omega) _).far (by simp; omega) _).far (by simp; omega) _).far (by simp; omega) _).far (by simp; omega) _).far (by simp; omega) _), set7_keep hr0 hb⟩

set_option maxHeartbeats 1600000 in
theorem rfromlift_ok (A : Option Addr) (n c : Nat) (th : Nat → Int) (W H N : Nat) (C : Option Addr) (cap : Nat) (f : Nat → Bool) (w : World) (ht : L2.Holds w w.heap.size A n th) (hr : Holds w w.heap.size C N f) (hN : W * H = N) (hW : W ≤ 64) (hH0 : 1 ≤ H) (hH : H ≤ 64) (hW0 : 1 ≤ W) (hn : n ≤ 5000) (h0 : ¬ 64 < n) (h1 : ¬ 40 < W) (h2 : ¬ 40 < nd (rc W f) H) (hw : wi n th W = true) :
    Calls Try.prog 35 #[.slice A n c, .agg #[.int .i64 W, .int .i64 H, .slice C N cap]] w (OkDr w (flp W H n th f)) := by
  have HT := Lib.hid ht
  have HR := Lib.hid hr
  have HNN := Lib.hid hN
  have hN2 : N ≤ 4200 := by have := Nat.mul_le_mul hW hH; omega
  have HX := Lib.hid (show chk W H N = 0 by rw [← hN]; exact chk_zero hW0 hW hH0 hH)
  obtain ⟨K, hKe⟩ : ∃ K, nd (rc W f) H = K := ⟨_, rfl⟩
  try rw [hKe] at h
  try rw [hKe] at h2
  try have HWI := Lib.hid hw
  try clear hw
  have HKE := Lib.hid hKe
  clear ht hr hN hKe
  have X0 := Lib.hid ((Box.new w W H (.slice C N cap)).alloc (.cells #[.int .i64 0, .int .i64 0, .slice none 0 0, .slice none 0 0, .int .i64 0, .int .i64 0, .slice none 0 0] 30))
  have Z0 : Hid (DBox ((w.alloc (.cells #[.int .i64 W, .int .i64 H, .slice C N cap] 24)).alloc (.cells #[.int .i64 0, .int .i64 0, .slice none 0 0, .slice none 0 0, .int .i64 0, .int .i64 0, .slice none 0 0] 30)) (w.heap.size + 1) Dr.zero) := Lib.hid (by
    have h := DBox.new (w.alloc (.cells #[.int .i64 W, .int .i64 H, .slice C N cap] 24)) Dr.zero
    simp only [World.size_alloc] at h
    exact h)
  have L0 := Lib.hid (show Below w.heap.size w ((w.alloc (.cells #[.int .i64 W, .int .i64 H, .slice C N cap] 24)).alloc (.cells #[.int .i64 0, .int .i64 0, .slice none 0 0, .slice none 0 0, .int .i64 0, .int .i64 0, .slice none 0 0] 30)) from ((Below.refl _ _).alloc (Nat.le_refl _) _).alloc (by simp) _)
  have S0 := Lib.hid (show ((w.alloc (.cells #[.int .i64 W, .int .i64 H, .slice C N cap] 24)).alloc (.cells #[.int .i64 0, .int .i64 0, .slice none 0 0, .slice none 0 0, .int .i64 0, .int .i64 0, .slice none 0 0] 30)).heap.size = w.heap.size + 2 by simp)
  go_enter Try.func35, Try.ntmps35
  go_wp2_with fail
  generalize (w.alloc (.cells #[.int .i64 W, .int .i64 H, .slice C N cap] 24)).alloc (.cells #[.int .i64 0, .int .i64 0, .slice none 0 0, .slice none 0 0, .int .i64 0, .int .i64 0, .slice none 0 0] 30) = w0 at *
  refine (rgchk_err hN2 HX.out _).mono ?_
  rintro e w1 ⟨rfl, hb⟩
  have X1 := Lib.hid (X0.out.below hb X0.out.lt)
  have Z1 := Lib.hid (Z0.out.next hb)
  have L1 := Lib.hid (L0.out.trans (hb.mono L0.out.size))
  clear X0 Z0 L0 hb
  obtain ⟨q0, q1, q2, q3, q4, q5, q6⟩ := X1.out.all
  go_wp2_with fail
  clear q0 q1 q2 q3 q4 q5 q6
  have hkd := rkinds_any W H C cap f w.heap.size w1 (by have := HR.out.below L1.out; rw [← HNN.out] at this; exact this) L1.out.size hW hH
  rw [HNN.out] at hkd
  refine hkd.mono ?_
  rintro e w2 ⟨B1, d1, B2, d2, rfl, hk1, hk2, hb⟩
  rw [HKE.out] at hk2 ⊢
  have hw1s : w.heap.size + 2 ≤ w1.heap.size := by have := Z1.out.lt; omega
  have HK1 := Lib.hid hk1
  have HK2 := Lib.hid hk2
  clear hk1 hk2 hkd
  have X2 := Lib.hid (X1.out.below hb X1.out.lt)
  have Z2 := Lib.hid (Z1.out.next hb)
  have Lb := Lib.hid (L1.out.trans (hb.mono L1.out.size))
  clear X1 Z1 L1 hb
  obtain ⟨q0, q1, q2, q3, q4, q5, q6⟩ := X2.out.all
  have L1s := Lib.hid (show w.heap.size + 2 ≤ w1.heap.size by omega)
  have e1 : decide (64 < (n : Int)) = false := by simp; omega
  have e2 : decide (40 < (W : Int)) = false := by simp; omega
  have e3 : decide (40 < (K : Int)) = false := by simp; omega
  go_wp2_with fail
  clear q0 q1 q2 q3 q4 q5 q6
  have hh := within_any A n c th W w.heap.size w2 (by omega) (HT.out.below Lb.out)
  rw [HWI.out] at hh
  refine hh.mono ?_
  rintro e w2' ⟨rfl, rfl⟩
  obtain ⟨q0, q1, q2, q3, q4, q5, q6⟩ := X2.out.all
  have hcut0 := Lib.hid (HT.out.below Lb.out)
  obtain ⟨q, hq0, hq1, hq2⟩ := HK2.out (by rw [← HKE.out]; exact nd_pos _ _ hH0)
  subst hq0
  have HQ := Lib.hid hq2
  have hq3 := Lib.hid (Nat.le_trans L1s.out hq1)
  obtain ⟨kk, hkk0, hkk1, hkk2⟩ := HK1.out hH0
  subst hkk0
  have HKK := Lib.hid hkk2
  have hkk3 := Lib.hid (Nat.le_trans L1s.out hkk1)
  have x2l := Lib.hid X2.out.lt
  have z2l := Lib.hid Z2.out.lt
  clear hq1 hq2 hkk1 hkk2
  have HS : Hid (∀ w', Below w2.heap.size w2 w' → (fun w' => w'.cell? ⟨w.heap.size, 0, none⟩ = some (.int .i64 W)) w') := Lib.hid (fun w' h => (X2.out.below h X2.out.lt).c0)
  have hz := Below.refl w2.heap.size w2
  have hA := Lib.hid ((hz.alloc (Nat.le_refl _) (.cells #[] 3)).drew)
  have hB := Lib.hid (((hz.alloc (Nat.le_refl _) (.cells #[.int .i64 0, .int .i64 0, .slice none 0 0, .slice none 0 0, .int .i64 0, .int .i64 0, .slice none 0 0] 30)).alloc (by simp) (.cells #[] 3)).drew)
  have hC := Lib.hid (((hz.alloc (Nat.le_refl _) (.cells #[] 3)).alloc (by simp) (.cells #[.int .i64 0, .int .i64 0, .slice none 0 0, .slice none 0 0, .int .i64 0, .int .i64 0, .slice none 0 0] 30)).drew)
  have hD := Lib.hid ((hz.alloc (Nat.le_refl _) (.cells #[.int .i64 0, .int .i64 0, .slice none 0 0, .slice none 0 0, .int .i64 0, .int .i64 0, .slice none 0 0] 30)).drew)
  have hE := Lib.hid hz.drew
  have jB : Hid (DBox (((w2.alloc (.cells #[.int .i64 0, .int .i64 0, .slice none 0 0, .slice none 0 0, .int .i64 0, .int .i64 0, .slice none 0 0] 30)).alloc (.cells #[] 3)).drew) w2.heap.size Dr.zero) := Lib.hid ((DBox.new w2 Dr.zero).alloc _).drew
  have jC : Hid (DBox (((w2.alloc (.cells #[] 3)).alloc (.cells #[.int .i64 0, .int .i64 0, .slice none 0 0, .slice none 0 0, .int .i64 0, .int .i64 0, .slice none 0 0] 30)).drew) (w2.heap.size + 1) Dr.zero) := Lib.hid (by
    have h := (DBox.new (w2.alloc (.cells #[] 3)) Dr.zero).drew
    simp only [World.size_alloc] at h
    exact h)
  have sB := Lib.hid (show (((w2.alloc (.cells #[.int .i64 0, .int .i64 0, .slice none 0 0, .slice none 0 0, .int .i64 0, .int .i64 0, .slice none 0 0] 30)).alloc (.cells #[] 3)).drew).heap.size = w2.heap.size + 2 by simp)
  have sC := Lib.hid (show (((w2.alloc (.cells #[] 3)).alloc (.cells #[.int .i64 0, .int .i64 0, .slice none 0 0, .slice none 0 0, .int .i64 0, .int .i64 0, .slice none 0 0] 30)).drew).heap.size = w2.heap.size + 2 by simp)
  have hSA := HS.out _ hA.out
  have hSB := HS.out _ hB.out
  have hSC := HS.out _ hC.out
  have hSD := HS.out _ hD.out
  have hSE := HS.out _ hE.out
  have hn0 : 0 < n := by have := HWI.out; unfold wi at this; simp only [decide_eq_true_eq] at this; exact this.1
  have hK40 : K ≤ 40 := by omega
  have HTN := Lib.hid (fun v (h : Below w2.heap.size w2 v) => (HT.out.below (Lb.out.trans (h.mono Lb.out.size))))
  clear hz
  go_upto_region 8 with fail
  clear q0 q1 q2 q3 q4 q5 q6
  go_cut [8] (fun p wx => ∃ j k ka ca, p = .pointer (some ⟨j, 0, none⟩) ∧ Mk w2 wx j k (K * W) ⟨W, K, some ⟨ka, 0, none⟩, n, ca, some ⟨kk, 0, none⟩, H, d1, K, W, some ⟨k, 0, none⟩, K * W, K * W, fun _ => 0, fun _ => 0, fun _ => false⟩ ∧ L2.Row wx ka n th ∧ w2.heap.size ≤ ka ∧ ka ≠ k)
  case first =>
    go_region_held3 (fun w' => w'.cell? ⟨w.heap.size, 0, none⟩ = some (.int .i64 W))
      (first
        | with_reducible exact hSu
        | with_reducible exact hSv
        | with_reducible exact hSA
        | with_reducible exact hSB
        | with_reducible exact hSC
        | with_reducible exact hSD
        | with_reducible exact hSE
        | with_reducible exact HS.out _ (hbx.alloc hbx.size _)
        | with_reducible exact HS.out _ (set7_keep hr0 hbx))
      (first
        | (refine step_cat rfl (.tmp 46) (.tmp 47) rfl _ rfl rfl (HTN.out _ ?_) (by omega) ?_
           first | with_reducible exact hA.out | with_reducible exact hB.out | with_reducible exact hC.out
           intro ka ca u1 hra hbu
           have hka := (hra hn0).2
           have hra := Lib.hid (hra hn0).1
           have hbx : Below w2.heap.size w2 u1 := (by first | with_reducible exact hA.out.trans (hbu.mono hA.out.size) | with_reducible exact hB.out.trans (hbu.mono hB.out.size) | with_reducible exact hC.out.trans (hbu.mono hC.out.size))
           have hka1 : w2.heap.size ≤ ka := (by first | with_reducible exact Nat.le_trans hA.out.size hka | with_reducible exact Nat.le_trans hB.out.size hka | with_reducible exact Nat.le_trans hC.out.size hka)
           have hSu := HS.out _ hbx
           have hSv := HS.out (u1.alloc (.cells #[.int .i64 0, .int .i64 0, .slice none 0 0, .slice none 0 0, .int .i64 0, .int .i64 0, .slice none 0 0] 30)) (hbx.alloc hbx.size _)
           have hu1 := Lib.hid hbx.size
           have hkl1 := Lib.hid hra.out.lt
           first
             | (have hj := Lib.hid (show DBox u1 w2.heap.size Dr.zero from (by with_reducible exact jB.out.next hbu))
                have hr0 := Nat.le_refl w2.heap.size
                have hru : w2.heap.size < u1.heap.size := by have := hbu.size; rw [sB.out] at this; omega
                have hrka : ka ≠ w2.heap.size := by have := hka; rw [sB.out] at this; omega)
             | (have hj := Lib.hid (show DBox u1 (w2.heap.size + 1) Dr.zero from (by with_reducible exact jC.out.next hbu))
                have hr0 := Nat.le_succ w2.heap.size
                have hru : w2.heap.size + 1 < u1.heap.size := by have := hbu.size; rw [sC.out] at this; omega
                have hrka : ka ≠ w2.heap.size + 1 := by have := hka; rw [sC.out] at this; omega)
             | skip
           clear hbu)
        | (go_at_call 68
           refine (zero_int K W K W rfl rfl (by omega) (by omega) _).mono ?_
           rintro e u2 ⟨k, rfl, hk, hrow, hbu⟩
           first
             | (have hbx : Below w2.heap.size w2 u2 := (by with_reducible exact hbx.trans (hbu.mono hbx.size))
                have hk1 : u1.heap.size ≤ k := hk
                have hra := Lib.hid (hra.out.below hbu hra.out.lt)
                have hkne : ka ≠ k := (by have := hkl1.out; omega)
                have hk2 : w2.heap.size ≤ k := Nat.le_trans hu1.out hk1
                first
                  | (have hj := Lib.hid (hj.out.next hbu)
                     have hrk := Nat.ne_of_lt (Nat.lt_of_lt_of_le hru hk1)
                     obtain ⟨z0, z1, z2, z3, z4, z5, z6⟩ := hj.out.frees
                     have tt := hj.out.all
                     simp only [Dr.zero] at tt
                     obtain ⟨t0, t1, t2, t3, t4, t5, t6, t7⟩ := tt)
                  | skip)
             | (have hk1 : u1.heap.size ≤ k := Nat.le_trans (by simp) hk
                have hkj : u1.heap.size ≠ k := (by have hk := hk; simp at hk; omega)
                have hr0 := hbx.size
                have hrk := hkj
                have hrka := Nat.ne_of_lt hkl1.out
                have hkne : ka ≠ k := (by have := hkl1.out; omega)
                have hk2 : w2.heap.size ≤ k := Nat.le_trans hu1.out hk1
                have hj := Lib.hid (show DBox u2 u1.heap.size Dr.zero from (DBox.new u1 Dr.zero).next hbu)
                have hra := Lib.hid ((hra.out.alloc _).below hbu (hra.out.alloc _).lt)
                have hbx : Below w2.heap.size w2 u2 := ((hbx.alloc hbx.size _).trans (hbu.mono (hbx.alloc hbx.size _).size))
                obtain ⟨z0, z1, z2, z3, z4, z5, z6⟩ := hj.out.frees
                have tt := hj.out.all
                simp only [Dr.zero] at tt
                obtain ⟨t0, t1, t2, t3, t4, t5, t6, t7⟩ := tt)
           have hSu := HS.out _ hbx
           have hSv := HS.out (u2.alloc (.cells #[.int .i64 0, .int .i64 0, .slice none 0 0, .slice none 0 0, .int .i64 0, .int .i64 0, .slice none 0 0] 30)) (hbx.alloc hbx.size _)
           clear hbu))
    all_goals
      go_wp2_with fail
      go_meet
      first
        | with_reducible exact ⟨_, k, ka, ca, rfl, Mk.late hk2 hrow hbx, hra.out.alloc _, hka1, hkne⟩
        | with_reducible exact ⟨_, k, ka, ca, rfl, Mk.some_ hj.out hr0 hrk hk2 hrow hbx, set7_irow hra.out hrka, hka1, hkne⟩
  case rest =>
    obtain ⟨j, k, ka, ca, rfl, hmk, hth, hka, hkak⟩ := hcut
    have MK := Lib.hid hmk
    have TH := Lib.hid hth
    have hka0 := Lib.hid hka
    have hkak0 := Lib.hid hkak
    have hjk := Lib.hid hmk.jk
    have hk := Lib.hid hmk.k0
    have hNk := Lib.hid (show w.heap.size ≠ k from by have := hk.out; have := x2l.out; omega)
    have hZk := Lib.hid (show w.heap.size + 1 ≠ k from by have := hk.out; have := z2l.out; omega)
    have hqk := Lib.hid (show q ≠ k from by have := hk.out; have := HQ.out.lt; omega)
    have hkkk := Lib.hid (show kk ≠ k from by have := hk.out; have := HKK.out.lt; omega)
    have L4 := Lib.hid (Lb.out.trans (hmk.bel.mono Lb.out.size))
    have X4 := Lib.hid (X2.out.below hmk.bel X2.out.lt)
    have Z4 := Lib.hid (Z2.out.next hmk.bel)
    have Q4 := Lib.hid (HQ.out.below hmk.bel HQ.out.lt)
    have K4 := Lib.hid (HKK.out.below hmk.bel HKK.out.lt)
    have hFH := Lib.hid (fun x (hx : x < K) => (frn_spec (rc W f) H x (by rw [HKE.out]; exact hx)).1)
    clear hmk hth hka hkak HS hA hB hC hD hE jB jC sB sC hSA hSB hSC hSD hSE
    go_wp2
    go_loopw [9] (fun i wr => ∃ x : Nat, x ≤ K ∧ i = .int .i64 x ∧ Hid (Lp k wc wr (K * W) (cp (· % K) (· / K) (fun t s => f (frn (rc W f) H t * W + s)) x 0))) (fun i _ => K - (intOf i).toNat)
    case atStart => exact ⟨0, Nat.zero_le _, rfl, Lib.hid ⟨But.refl _ _, MK.out.row.congr fun i _ => by rw [cp_zero]⟩⟩
    case round =>
      obtain ⟨x, hx, rfl, hlp⟩ := hrel
      have LP := Lib.hid hlp.out
      clear hlp
      obtain ⟨wo, rfl⟩ : ∃ wo : World, wo = wr := ⟨_, rfl⟩
      by_cases hlx : x < K
      · have y1 : decide ((x : Int) < (K : Int)) = true := by simp; omega
        go_wp2
        go_loopw [10] (fun i wr => ∃ y : Nat, y ≤ W ∧ i = .int .i64 y ∧ Hid (Lp k wc wr (K * W) (cp (· % K) (· / K) (fun t s => f (frn (rc W f) H t * W + s)) x y))) (fun i _ => W - (intOf i).toNat)
        case atStart => exact ⟨0, Nat.zero_le _, rfl, LP⟩
        case round =>
          obtain ⟨y, hy, rfl, hlq⟩ := hrel
          have LQ := Lib.hid hlq.out
          clear hlq
          have XQ := Lib.hid (LQ.out.but.box X4.out hNk.out)
          obtain ⟨q0, q1, q2, q3, q4, q5, q6⟩ := XQ.out.all
          by_cases hly : y < W
          · have y2 : decide ((y : Int) < (W : Int)) = true := by simp; omega
            obtain ⟨p, hp⟩ : ∃ p, frn (rc W f) H x = p := ⟨_, rfl⟩
            have HPP := Lib.hid hp
            have hpH : p < H := by rw [← hp]; exact hFH.out x hlx
            have hwk : w.heap.size ≤ k := by have := hk.out; have := x2l.out; omega
            have HS : Hid (∀ w', But k wc w' → w'.cell? ⟨w.heap.size, 0, none⟩ = some (.int .i64 W) ∧ w'.cell? ⟨w.heap.size, 1, none⟩ = some (.int .i64 H) ∧ w'.cell? ⟨w.heap.size, 2, none⟩ = some (.slice C N cap) ∧ w'.cell? ⟨j, 4, none⟩ = some (.int .i64 K) ∧ w'.cell? ⟨j, 5, none⟩ = some (.int .i64 W) ∧ w'.cell? ⟨j, 6, none⟩ = some (.slice (some ⟨k, 0, none⟩) (K * W) (K * W)) ∧ w'.cell? ⟨q, x, none⟩ = some (.int .i64 p)) := Lib.hid (fun w' h => by
              have z1 := h.box X4.out hNk.out
              have z2 := (h.dbox MK.out.box hjk.out).all
              have z3 := (h.irow Q4.out hqk.out).cell hlx
              rw [HPP.out] at z3
              exact ⟨z1.c0, z1.c1, z1.c2, z2.2.2.2.2.1, z2.2.2.2.2.2.1, z2.2.2.2.2.2.2.1, z3⟩)
            have HA := Lib.hid (fun w' (h : But k wc w') => (show Calls Try.prog 76 #[.agg #[.int .i64 W, .int .i64 H, .slice C N cap], .int .i64 (y : Nat), .int .i64 (p : Nat)] w' (fun e w'' => e = .returned (.bool (f (p * W + y))) ∧ Below w'.heap.size w' w'') from by
              have h2 := at_nat W H C cap (y : Nat) (p : Nat) f w' w.heap.size (by have := h.holds (HR.out.below L4.out) hwk L4.out.size; rw [← HNN.out] at this; exact this) (Nat.le_trans L4.out.size h.size) hW hH y p rfl rfl hly hpH
              rw [HNN.out] at h2
              exact h2))
            have B1 := Lib.hid (LQ.out.but.trans (But.of ((Below.refl wr.heap.size wr).drew) k))
            have hs1 := HS.out _ B1.out
            have x1 : (0 : Int) ≤ (x : Int) := by omega
            have x2 : (x : Int) < (K : Int) := by omega
            have hdr := Lib.hid (LQ.out.next ((Below.refl wr.heap.size wr).drew))
            have hfe := Lib.hid (show f (frn (rc W f) H x * W + y) = f (p * W + y) by rw [hp])
            clear hp
            go_wp2
            clear q0 q1 q2 q3 q4 q5 q6
            go_region_held3 (fun w' => w'.cell? ⟨w.heap.size, 0, none⟩ = some (.int .i64 W) ∧ w'.cell? ⟨w.heap.size, 1, none⟩ = some (.int .i64 H) ∧ w'.cell? ⟨w.heap.size, 2, none⟩ = some (.slice C N cap) ∧ w'.cell? ⟨j, 4, none⟩ = some (.int .i64 K) ∧ w'.cell? ⟨j, 5, none⟩ = some (.int .i64 W) ∧ w'.cell? ⟨j, 6, none⟩ = some (.slice (some ⟨k, 0, none⟩) (K * W) (K * W)) ∧ w'.cell? ⟨q, x, none⟩ = some (.int .i64 p))
              (first
                | with_reducible exact hs1
                | with_reducible exact hs2
                | with_reducible exact hs3)
              (first
                | (go_at_call 76
                   with_reducible refine Calls.mono (HA.out _ B1.out) ?_
                   rintro e u ⟨rfl, hbu⟩
                   have LU := Lib.hid (hdr.out.next hbu)
                   have hs2 := HS.out _ LU.out.but)
                | (go_at_call 69
                   refine (set_nat K W k (K * W) x y _ _ _ LU.out.row (by omega) (by omega) x y rfl rfl hlx hly).mono ?_
                   rintro e v ⟨rfl, hrv, hbv⟩
                   have LV := Lib.hid (LU.out.wrote hbv hrv)
                   have hs3 := HS.out _ LV.out.but))
            all_goals
              go_wp2
              refine ⟨⟨y + 1, by omega, by go_num, Lib.hid (LV.out.congr fun i hi => ?_)⟩, by simp [intOf]; omega⟩
              rw [← hfe.out]
              exact cp_succ (G := fun t s => f (frn (rc W f) H t * W + s)) (plain_at hlx hi)
          · have e : y = W := by omega
            subst e
            have y2 : decide ((y : Int) < (y : Int)) = false := by simp
            go_wp2
            exact ⟨⟨x + 1, by omega, by go_num, Lib.hid (LQ.out.congr fun i hi => cp_next (div_bd hi))⟩, by simp [intOf]; omega⟩
      · have e : x = K := by omega
        have y1 : decide ((x : Int) < (K : Int)) = false := by simp; omega
        have JO := Lib.hid (LP.out.but.dbox MK.out.box hjk.out)
        have ZO := Lib.hid (LP.out.but.dbox Z4.out hZk.out)
        have tt := ZO.out.all
        have zf := ZO.out.frees
        simp only [Dr.zero] at tt
        obtain ⟨t0, t1, t2, t3, t4, t5, t6, t7⟩ := tt
        obtain ⟨g0, g1, g2, g3, g4, g5, g6⟩ := zf
        have rr := JO.out.all
        dsimp only at rr
        obtain ⟨r0, r1, r2, r3, r4, r5, r6, r7⟩ := rr
        have hwi : ∀ i, i < n → 0 ≤ th i := fun i hi => by have hw := HWI.out; unfold wi at hw; simp only [decide_eq_true_eq] at hw; exact (hw.2 i hi).1
        have hs2 : w.heap.size + 2 ≤ w2.heap.size := by have := z2l.out; omega
        have HR3 : Hid (Rows3 wo (w.heap.size + 2) (flp W H n th f) ka kk k) := Lib.hid ⟨by have := hka0.out; omega, by have := hkk3.out; omega, by have := hk.out; omega,
          (LP.out.but.irow TH.out hkak0.out).congr fun i hi => (Int.toNat_of_nonneg (hwi i hi)).symm,
          (LP.out.but.irow K4.out hkkk.out).congr fun y hy => by
            obtain ⟨k, h1, _, _⟩ := ren_at (rc W f) H y hy
            show ren (rc W f) y = ((ren (rc W f) y).toNat : Nat)
            rw [h1]; rfl,
          by
            have e1 : (flp W H n th f).T = K := HKE.out
            have e2 : (flp W H n th f).S = W := rfl
            rw [e1, e2]
            exact LP.out.row.congr fun i hi => by
              rw [e]
              exact cp_all (Nat.mod_lt _ (by rcases Nat.eq_zero_or_pos K with h | h; (rw [h] at hi; omega); exact h))⟩
        have HBE := Lib.hid (LP.out.but.below (w0 := w) L4.out (by have := hk.out; have := x2l.out; omega))
        clear hwi
        go_wp2
        refine bodyPost_ret (v := .tuple #[.agg #[.int .i64 W, .int .i64 K, .slice (some ⟨ka, 0, none⟩) n ca, .slice (some ⟨kk, 0, none⟩) H d1, .int .i64 K, .int .i64 W, .slice (some ⟨k, 0, none⟩) (K * W) (K * W)], .int .i64 0]) (by simp [results, Try.results35, go_sem, t0, t1, t2, t3, t4, t5, t6]) rfl ⟨ka, ca, kk, d1, k, K * W, ?_, ?_, ?_⟩
        · have e : (flp W H n th f).T = K := HKE.out
          rw [e]
          rfl
        · exact (set7_rows (by omega) HR3.out).lower (by omega)
        · exact set7_below (by omega) HBE.out
end Go.Proofs.Ytbafhdinalapoaa
