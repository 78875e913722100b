/- The statement DraftLifts. -/
import Derived.Test.YtbafhdinalapoaaLfh
import Derived.Test.YtbafhdinalapoaaFre
namespace Go.Proofs.Ytbafhdinalapoaa
open Go.RowKit
set_option linter.unusedVariables false
set_option linter.unusedSimpArgs false
set_option maxRecDepth 100000

open L2 (nd ren)

theorem GPar.low {w v v' : World} {W H : Int} {A : Option Addr} {N cap : Nat} {f : Nat → Bool} (h : GPar w v W H A N cap f) (hb : Below (w.heap.size + 1) v v') : GPar w v' W H A N cap f :=
  ⟨h.box.below hb (by omega), h.cells.below (hb.mono (by omega)), h.bel.trans (hb.mono (by omega))⟩
/-- A list in a row of the call's own. -/
structure LV' (v : World) (A : Option Addr) (n : Nat) (F : Nat → Int) : Prop where
  row : 0 < n → ∃ k, A = some ⟨k, 0, none⟩ ∧ L2.Row v k n F
theorem LV'.next {v v' : World} {A : Option Addr} {n : Nat} {F : Nat → Int} (h : LV' v A n F) (hb : Below v.heap.size v v') : LV' v' A n F :=
  ⟨fun hn => by obtain ⟨k, e, h1⟩ := h.row hn; exact ⟨k, e, h1.below hb h1.lt⟩⟩
theorem LV'.holds {v : World} {A : Option Addr} {n : Nat} {F : Nat → Int} (h : LV' v A n F) : L2.Holds v v.heap.size A n F := fun hn => by
  obtain ⟨k, rfl, h1⟩ := h.row hn
  exact h1.holds h1.lt hn
theorem lsm_true {n : Nat} {f g : Nat → Int} (h : ∀ i, i < n → f i = g i) : lsm n f n g = true := by
  unfold lsm
  rw [decide_eq_true_iff]
  exact ⟨rfl, h⟩
theorem rieq_yes (A D : Option Addr) (n c d : Nat) (f g : Nat → Int) (w : World) (hn : n ≤ 5000) (hr : L2.Holds w w.heap.size A n f) (hs : L2.Holds w w.heap.size D n g) (e : ∀ i, i < n → f i = g i) :
    Calls Try.prog 19 #[.slice A n c, .slice D n d] w fun e w' => e = .returned (.bool true) ∧ Below w.heap.size w w' := by
  have h := rieq_any A D n n c d f g w hn hr hs
  rw [lsm_true e] at h
  exact h
theorem rgsm_eq' (W H : Int) (A D : Option Addr) (n c d : Nat) (f : Nat → Bool) (w : World) (hn : n ≤ 5000) (hr : Holds w w.heap.size A n f) (hs : Holds w w.heap.size D n f) :
    Calls Try.prog 31 #[.agg #[.int .i64 W, .int .i64 H, .slice A n c], .agg #[.int .i64 W, .int .i64 H, .slice D n d]] w fun e w' => e = .returned (.bool true) ∧ Below w.heap.size w w' := by
  have h := rgsm_any W H W H A D n n c d f f w hn hr hs
  have e : gsm W H n f W H n f = true := by unfold gsm; simp
  rw [e] at h
  exact h
theorem numb_out {c : Nat → Int} {H : Nat} (A : Option Addr) (d : Nat) (w : World) (hH : H ≤ 5000) (hr : L2.Holds w w.heap.size A H (ren c)) :
    Calls Try.prog 39 #[.slice A H d] w fun e w' => ∃ A' c', e = .returned (.tuple #[.slice A' H c', .int .i64 (nd c H : Nat)]) ∧ LV' w' A' H (ren c) ∧ Below w.heap.size w w' :=
  (L2.numbered_any A H d (ren c) w hH hr).mono fun e w' ⟨A', c', he, _, hrow, hb⟩ => ⟨A', c', by rw [he, nd_ren], ⟨fun hn => by
    obtain ⟨k, e, _, h1⟩ := hrow hn
    exact ⟨k, e, h1.congr fun i _ => ren_ren c i⟩⟩, hb⟩

set_option maxHeartbeats 8000000 in
theorem lifts_err (W H N K : Nat) (C : Option Addr) (cap : Nat) (f : Nat → Bool) (w : World) (hr : Holds w w.heap.size C N f) (hN : W * H = N) (hW0 : 1 ≤ W) (hW : W ≤ 8) (hH0 : 1 ≤ H) (hH : H ≤ 64) (hE : ∀ v A' c', Below w.heap.size w v → L2.Holds v v.heap.size A' W (fun i => (i : Int)) → Calls Try.prog 13 #[.slice A' W c', .agg #[.int .i64 W, .int .i64 H, .slice C N cap]] v (ErrDr v 4)) (hH40 : 40 < H) :
    Calls Try.prog 10 #[.agg #[.int .i64 W, .int .i64 H, .slice C N cap]] w fun e w' => e = .returned (.bool true) ∧ Below w.heap.size w w' := by
  have G0 := Lib.hid (GPar.start w W H C N cap f hr)
  have hN2 : N ≤ 4200 := by have := Nat.mul_le_mul (show W ≤ 64 by omega) hH; omega
  have HX := Lib.hid (show chk W H N = 0 by rw [← hN]; exact chk_zero hW0 (by omega) hH0 hH)
  have z1 : decide ((8 : Int) < (W : Int)) = false := by simp; omega
  have HE := Lib.hid hE
  have z9 : decide ((40 : Int) < (H : Int)) = true := by simp; omega
  clear hr hE
  have HN := Lib.hid hN
  clear hN
  go_enter Try.func10, Try.ntmps10
  go_wp2_with fail
  refine (great_no _ _ _ _ _ _ hN2).mono ?_
  rintro e wu1 ⟨rfl, hb⟩
  have G1 := Lib.hid (G0.out.next hb)
  clear hb G0
  obtain ⟨q0, q1, q2, q3, q4, q5, q6⟩ := G1.out.box.all
  go_wp2_with fail
  clear q0 q1 q2 q3 q4 q5 q6
  refine (rgchk_err hN2 HX.out _).mono ?_
  rintro e wu2 ⟨rfl, hb⟩
  have G2 := Lib.hid (G1.out.next hb)
  clear hb G1
  obtain ⟨q0, q1, q2, q3, q4, q5, q6⟩ := G2.out.box.all
  go_wp2
  clear q0 q1 q2 q3 q4 q5 q6
  go_loopw [3, 4] (fun v i wr => ∃ k : Nat, k ≤ W ∧ i = .int .i64 k ∧ L2.Own wr (w.heap.size + 1) v k (fun j => (j : Int)) ∧ Hid (GPar w wr W H C N cap f)) (fun _ i _ => W - (intOf i).toNat)
  case atStart => exact ⟨0, Nat.zero_le _, rfl, L2.Own.nil _ _ _, G2.out⟩
  case round =>
    obtain ⟨k, hk, rfl, hown, hgp⟩ := hrel
    have GP0 := Lib.hid hgp.out
    clear hgp
    obtain ⟨q0, q1, q2, q3, q4, q5, q6⟩ := GP0.out.box.all
    obtain ⟨A', c', rfl, _, hrow⟩ := hown.out
    have HO := Lib.hid hown
    clear hown
    by_cases hlt : k < W
    · have y1 : decide ((k : Int) < (W : Int)) = true := by simp; omega
      have hbs : w.heap.size + 1 ≤ wr.heap.size := GP0.out.box.lt
      clear hrow
      go_wp2_with (at_builtin; refine L2.app1 _ rfl _ _ (by rfl) (w.heap.size + 1) (by rfl) HO.out (k : Int) (by rfl) (by rfl) (by omega) hbs ?_; intro v' w3 hown3 hb3; have HO3 := Lib.hid hown3; have GP3 := Lib.hid (GP0.out.low hb3); clear hown3 hb3)
      exact ⟨⟨k + 1, by omega, by go_num, HO3.out, GP3.out⟩, by simp [intOf]; omega⟩
    · have e : k = W := by omega
      have y1 : decide ((k : Int) < (W : Int)) = false := by simp; omega
      subst e
      have HA := Lib.hid (show L2.Holds wr wr.heap.size A' k (fun i => (i : Int)) from fun h => by
        obtain ⟨q, rfl, _, h1⟩ := hrow h
        exact h1.holds h1.lt h)
      clear hrow HO
      go_wp2_with fail
      clear q0 q1 q2 q3 q4 q5 q6
      refine (HE.out _ _ _ GP0.out.bel HA.out).mono ?_
      rintro e wu3 ⟨rfl, hb⟩
      have G3 := Lib.hid (GP0.out.next hb)
      have G4 := Lib.hid ((GP0.out.next hb).next ((Below.refl _ _).alloc (Nat.le_refl _) (.cells #[.int .i64 0, .int .i64 0, .slice none 0 0, .slice none 0 0, .int .i64 0, .int .i64 0, .slice none 0 0] 30)))
      clear hb GP0 HA
      obtain ⟨q0, q1, q2, q3, q4, q5, q6⟩ := G3.out.box.all
      go_wp2_with fail
      clear q0 q1 q2 q3 q4 q5 q6
      refine (alive_any _).mono ?_
      rintro e wu4 ⟨rfl, hb⟩
      have G5 := Lib.hid (G4.out.next hb)
      clear hb
      go_wp2
      refine bodyPost_ret (v := .bool true) (by simp [results, Try.results10, go_sem]) rfl ⟨rfl, G5.out.bel⟩

set_option maxHeartbeats 8000000 in
theorem lifts_ok (W H N K : Nat) (C : Option Addr) (cap : Nat) (f : Nat → Bool) (w : World) (hr : Holds w w.heap.size C N f) (hN : W * H = N) (hW0 : 1 ≤ W) (hW : W ≤ 8) (hH0 : 1 ≤ H) (hH : H ≤ 64) (hL : LH W H N K f C cap w) (hKe : nd (rc W f) H = K) :
    Calls Try.prog 10 #[.agg #[.int .i64 W, .int .i64 H, .slice C N cap]] w fun e w' => e = .returned (.bool true) ∧ Below w.heap.size w w' := by
  have G0 := Lib.hid (GPar.start w W H C N cap f hr)
  have hN2 : N ≤ 4200 := by have := Nat.mul_le_mul (show W ≤ 64 by omega) hH; omega
  have HX := Lib.hid (show chk W H N = 0 by rw [← hN]; exact chk_zero hW0 (by omega) hH0 hH)
  have z1 : decide ((8 : Int) < (W : Int)) = false := by simp; omega
  have HL := Lib.hid hL
  have HKE := Lib.hid hKe
  clear hr hL hKe
  have HN := Lib.hid hN
  clear hN
  go_enter Try.func10, Try.ntmps10
  go_wp2_with fail
  refine (great_no _ _ _ _ _ _ hN2).mono ?_
  rintro e wu1 ⟨rfl, hb⟩
  have G1 := Lib.hid (G0.out.next hb)
  clear hb G0
  obtain ⟨q0, q1, q2, q3, q4, q5, q6⟩ := G1.out.box.all
  go_wp2_with fail
  clear q0 q1 q2 q3 q4 q5 q6
  refine (rgchk_err hN2 HX.out _).mono ?_
  rintro e wu2 ⟨rfl, hb⟩
  have G2 := Lib.hid (G1.out.next hb)
  clear hb G1
  obtain ⟨q0, q1, q2, q3, q4, q5, q6⟩ := G2.out.box.all
  go_wp2
  clear q0 q1 q2 q3 q4 q5 q6
  go_loopw [3, 4] (fun v i wr => ∃ k : Nat, k ≤ W ∧ i = .int .i64 k ∧ L2.Own wr (w.heap.size + 1) v k (fun j => (j : Int)) ∧ Hid (GPar w wr W H C N cap f)) (fun _ i _ => W - (intOf i).toNat)
  case atStart => exact ⟨0, Nat.zero_le _, rfl, L2.Own.nil _ _ _, G2.out⟩
  case round =>
    obtain ⟨k, hk, rfl, hown, hgp⟩ := hrel
    have GP0 := Lib.hid hgp.out
    clear hgp
    obtain ⟨q0, q1, q2, q3, q4, q5, q6⟩ := GP0.out.box.all
    obtain ⟨A', c', rfl, _, hrow⟩ := hown.out
    have HO := Lib.hid hown
    clear hown
    by_cases hlt : k < W
    · have y1 : decide ((k : Int) < (W : Int)) = true := by simp; omega
      have hbs : w.heap.size + 1 ≤ wr.heap.size := GP0.out.box.lt
      clear hrow
      go_wp2_with (at_builtin; refine L2.app1 _ rfl _ _ (by rfl) (w.heap.size + 1) (by rfl) HO.out (k : Int) (by rfl) (by rfl) (by omega) hbs ?_; intro v' w3 hown3 hb3; have HO3 := Lib.hid hown3; have GP3 := Lib.hid (GP0.out.low hb3); clear hown3 hb3)
      exact ⟨⟨k + 1, by omega, by go_num, HO3.out, GP3.out⟩, by simp [intOf]; omega⟩
    · have e : k = W := by omega
      have y1 : decide ((k : Int) < (W : Int)) = false := by simp; omega
      subst e
      have HA := Lib.hid (show L2.Holds wr wr.heap.size A' k (fun i => (i : Int)) from fun h => by
        obtain ⟨q, rfl, _, h1⟩ := hrow h
        exact h1.holds h1.lt h)
      clear hrow HO
      go_wp2_with fail
      clear q0 q1 q2 q3 q4 q5 q6
      refine (HL.out.fl _ _ _ GP0.out.bel HA.out).mono ?_
      rintro e wu3 ⟨a1, ca1, b1, cb1, c1, cc1, rfl, ⟨DD, hDD, hin, hgg, hWW, hLL⟩, hb⟩
      have P_3 := Lib.hid (GP0.out.next hb)
      clear GP0
      have M_3 := Lib.hid (show DP (wu3.alloc (.cells #[.int .i64 k, .int .i64 K, .slice (some ⟨a1, 0, none⟩) k ca1, .slice (some ⟨b1, 0, none⟩) H cb1, .int .i64 K, .int .i64 k, .slice (some ⟨c1, 0, none⟩) (K * k) cc1] 30)) wu3.heap.size wu3.heap.size DD from by have h := DP.new _ hin; rw [hDD] at h ⊢; exact h)
      clear hb hin
      have HWW := Lib.hid hWW
      have HLL := Lib.hid hLL
      have HDD := Lib.hid hDD
      have HGG := Lib.hid hgg
      clear hWW hLL hDD hgg
      have ff := M_3.out.box.all
      rw [HDD.out] at ff
      dsimp only at ff
      obtain ⟨f0_0, f0_1, f0_2, f0_3, f0_4, f0_5, f0_6, f0_7⟩ := ff
      go_wp2_with fail
      clear f0_0 f0_1 f0_2 f0_3 f0_4 f0_5 f0_6 f0_7
      have Pa_4 := Lib.hid (P_3.out.next ((Below.refl _ _).alloc (Nat.le_refl _) (.cells #[.int .i64 k, .int .i64 K, .slice (some ⟨a1, 0, none⟩) k ca1, .slice (some ⟨b1, 0, none⟩) H cb1, .int .i64 K, .int .i64 k, .slice (some ⟨c1, 0, none⟩) (K * k) cc1] 30)))
      clear P_3
      generalize wu3.alloc (.cells #[.int .i64 k, .int .i64 K, .slice (some ⟨a1, 0, none⟩) k ca1, .slice (some ⟨b1, 0, none⟩) H cb1, .int .i64 K, .int .i64 k, .slice (some ⟨c1, 0, none⟩) (K * k) cc1] 30) = wv3 at *
      refine (HWW.out _ M_3.out.in_).mono ?_
      rintro e wu4 ⟨k1, rfl, hrow, hb⟩
      have P_4 := Lib.hid (Pa_4.out.next hb)
      have M_4 := Lib.hid (M_3.out.next hb)
      clear Pa_4 M_3
      have G1_4 := Lib.hid (show GP (wu4.alloc (.cells #[.int .i64 k, .int .i64 H, .slice (some ⟨k1, 0, none⟩) N N] 24)) 0 wu4.heap.size k1 k H (some ⟨k1, 0, none⟩) N N f from GP.new (fun _ => ⟨rfl, Nat.zero_le _, hrow⟩))
      clear hb hrow
      have ff := M_4.out.box.all
      rw [HDD.out] at ff
      dsimp only at ff
      obtain ⟨f0_0, f0_1, f0_2, f0_3, f0_4, f0_5, f0_6, f0_7⟩ := ff
      go_wp2_with fail
      clear f0_0 f0_1 f0_2 f0_3 f0_4 f0_5 f0_6 f0_7
      have Pa_5 := Lib.hid (P_4.out.next ((Below.refl _ _).alloc (Nat.le_refl _) (.cells #[.int .i64 k, .int .i64 H, .slice (some ⟨k1, 0, none⟩) N N] 24)))
      clear P_4
      have Ma_5 := Lib.hid (M_4.out.next ((Below.refl _ _).alloc (Nat.le_refl _) (.cells #[.int .i64 k, .int .i64 H, .slice (some ⟨k1, 0, none⟩) N N] 24)))
      clear M_4
      generalize wu4.alloc (.cells #[.int .i64 k, .int .i64 H, .slice (some ⟨k1, 0, none⟩) N N] 24) = wv4 at *
      refine (HLL.out _ Ma_5.out.in_).mono ?_
      rintro e wu5 ⟨k2, rfl, hrow, hb⟩
      have P_5 := Lib.hid (Pa_5.out.next hb)
      have M_5 := Lib.hid (Ma_5.out.next hb)
      have G1_5 := Lib.hid (G1_4.out.next hb)
      clear Pa_5 Ma_5 G1_4
      have G2_5 := Lib.hid (show GP (wu5.alloc (.cells #[.int .i64 k, .int .i64 H, .slice (some ⟨k2, 0, none⟩) N N] 24)) 0 wu5.heap.size k2 k H (some ⟨k2, 0, none⟩) N N f from GP.new (fun _ => ⟨rfl, Nat.zero_le _, hrow⟩))
      clear hb hrow
      obtain ⟨h0_0, h0_1, h0_2, h0_3, h0_4, h0_5, h0_6⟩ := G1_5.out.box.all
      obtain ⟨h1_0, h1_1, h1_2, h1_3, h1_4, h1_5, h1_6⟩ := P_5.out.box.all
      go_wp2_with fail
      clear  h0_0 h0_1 h0_2 h0_3 h0_4 h0_5 h0_6 h1_0 h1_1 h1_2 h1_3 h1_4 h1_5 h1_6
      have Pa_6 := Lib.hid (P_5.out.next ((Below.refl _ _).alloc (Nat.le_refl _) (.cells #[.int .i64 k, .int .i64 H, .slice (some ⟨k2, 0, none⟩) N N] 24)))
      clear P_5
      have Ma_6 := Lib.hid (M_5.out.next ((Below.refl _ _).alloc (Nat.le_refl _) (.cells #[.int .i64 k, .int .i64 H, .slice (some ⟨k2, 0, none⟩) N N] 24)))
      clear M_5
      have G1a_6 := Lib.hid (G1_5.out.next ((Below.refl _ _).alloc (Nat.le_refl _) (.cells #[.int .i64 k, .int .i64 H, .slice (some ⟨k2, 0, none⟩) N N] 24)))
      clear G1_5
      generalize wu5.alloc (.cells #[.int .i64 k, .int .i64 H, .slice (some ⟨k2, 0, none⟩) N N] 24) = wv5 at *
      refine (rgsm_eq' _ _ _ _ _ _ _ _ _ (by omega) G1a_6.out.holds (Pa_6.out.cells.more Pa_6.out.bel.size)).mono ?_
      rintro e wu6 ⟨rfl, hb⟩
      have P_6 := Lib.hid (Pa_6.out.next hb)
      have M_6 := Lib.hid (Ma_6.out.next hb)
      have G1_6 := Lib.hid (G1a_6.out.next hb)
      have G2_6 := Lib.hid (G2_5.out.next hb)
      clear Pa_6 Ma_6 G1a_6 G2_5
      clear hb 
      obtain ⟨h0_0, h0_1, h0_2, h0_3, h0_4, h0_5, h0_6⟩ := G2_6.out.box.all
      obtain ⟨h1_0, h1_1, h1_2, h1_3, h1_4, h1_5, h1_6⟩ := P_6.out.box.all
      go_wp2_with fail
      clear  h0_0 h0_1 h0_2 h0_3 h0_4 h0_5 h0_6 h1_0 h1_1 h1_2 h1_3 h1_4 h1_5 h1_6
      refine (rgsm_eq' _ _ _ _ _ _ _ _ _ (by omega) G2_6.out.holds (P_6.out.cells.more P_6.out.bel.size)).mono ?_
      rintro e wu7 ⟨rfl, hb⟩
      have P_7 := Lib.hid (P_6.out.next hb)
      have M_7 := Lib.hid (M_6.out.next hb)
      have G1_7 := Lib.hid (G1_6.out.next hb)
      have G2_7 := Lib.hid (G2_6.out.next hb)
      clear P_6 M_6 G1_6 G2_6
      clear hb 
      have ff := M_7.out.box.all
      rw [HDD.out] at ff
      dsimp only at ff
      obtain ⟨f0_0, f0_1, f0_2, f0_3, f0_4, f0_5, f0_6, f0_7⟩ := ff
      obtain ⟨h1_0, h1_1, h1_2, h1_3, h1_4, h1_5, h1_6⟩ := P_7.out.box.all
      have hKN : nd (rc k f) H = K := HKE.out
      go_wp2_with fail
      clear f0_0 f0_1 f0_2 f0_3 f0_4 f0_5 f0_6 f0_7 h1_0 h1_1 h1_2 h1_3 h1_4 h1_5 h1_6
      refine (numb_out (c := rc k f) _ _ _ (by omega) (iholds_congr (f := DD.g) (by have h := M_7.out.in_.tr; rw [HDD.out] at h; exact h) HGG.out)).mono ?_
      rintro e wu8 ⟨A5, c5, rfl, hlv, hb⟩
      have P_8 := Lib.hid (P_7.out.next hb)
      have M_8 := Lib.hid (M_7.out.next hb)
      have G1_8 := Lib.hid (G1_7.out.next hb)
      have G2_8 := Lib.hid (G2_7.out.next hb)
      clear P_7 M_7 G1_7 G2_7
      have V_8 := Lib.hid (hlv)
      clear hb hlv
      rw [hKN]
      have ff := M_8.out.box.all
      rw [HDD.out] at ff
      dsimp only at ff
      obtain ⟨f0_0, f0_1, f0_2, f0_3, f0_4, f0_5, f0_6, f0_7⟩ := ff
      go_wp2_with fail
      clear f0_0 f0_1 f0_2 f0_3 f0_4 f0_5 f0_6 f0_7
      refine (rieq_yes _ _ H _ _ _ _ _ (by omega) V_8.out.holds (iholds_congr (f := DD.g) (by have h := M_8.out.in_.tr; rw [HDD.out] at h; exact h) HGG.out) (fun _ _ => rfl)).mono ?_
      rintro e wu9 ⟨rfl, hb⟩
      have P_9 := Lib.hid (P_8.out.next hb)
      have M_9 := Lib.hid (M_8.out.next hb)
      have G1_9 := Lib.hid (G1_8.out.next hb)
      have G2_9 := Lib.hid (G2_8.out.next hb)
      have V_9 := Lib.hid (V_8.out.next hb)
      clear P_8 M_8 G1_8 G2_8 V_8
      clear hb 
      have ff := M_9.out.box.all
      rw [HDD.out] at ff
      dsimp only at ff
      obtain ⟨f0_0, f0_1, f0_2, f0_3, f0_4, f0_5, f0_6, f0_7⟩ := ff
      go_wp2
      clear f0_0 f0_1 f0_2 f0_3 f0_4 f0_5 f0_6 f0_7
      have PS := P_9
      clear P_9
      have MS := M_9
      clear M_9
      go_loopw [13] (fun i wr => ∃ x : Nat, x ≤ H ∧ i = .int .i64 x ∧ Hid (Below wu9.heap.size wu9 wr)) (fun i _ => H - (intOf i).toNat)
      case atStart => exact ⟨0, Nat.zero_le _, rfl, Below.refl _ _⟩
      case round =>
        obtain ⟨x, hx, rfl, hbv⟩ := hrel
        obtain ⟨wo, rfl⟩ : ∃ wo : World, wo = wr := ⟨_, rfl⟩
        have hbv := Lib.hid hbv.out
        obtain ⟨r0, r1, r2, r3, r4, r5, r6⟩ := (PS.out.next hbv.out).box.all
        by_cases hlx : x < H
        · have y5 : decide ((x : Int) < (H : Int)) = true := by simp; omega
          go_wp2
          clear r0 r1 r2 r3 r4 r5 r6
          go_loopw [14] (fun i wr => ∃ y : Nat, y ≤ x ∧ i = .int .i64 y ∧ Hid (Below wu9.heap.size wu9 wr)) (fun i _ => x - (intOf i).toNat)
          case atStart => exact ⟨0, Nat.zero_le _, rfl, hbv.out⟩
          case round =>
            obtain ⟨y, hy, rfl, hbv⟩ := hrel
            have hbv := Lib.hid hbv.out
            by_cases hly : y < x
            · have y6 : decide ((y : Int) < (x : Int)) = true := by simp; omega
              have P1 := Lib.hid (PS.out.next hbv.out)
              have M1 := Lib.hid (MS.out.next hbv.out)
              go_wp2
              obtain ⟨I, Wf, i0, h0, hbf, hcl⟩ := family wr
              have HCL := Lib.hid hcl
              have BF := Lib.hid (fun n => hbv.out.trans ((hbf n).mono hbv.out.size))
              have pP := fun n => (P1.out.next (hbf n)).box.all
              have pM := fun n => (M1.out.next (hbf n)).box.all
              have g0 := fun n => (pP n).1
              have g1 := fun n => (pP n).2.1
              have g2 := fun n => (pP n).2.2.1
              have d3 := fun n => (pM n).2.2.2.1
              have hDDB : DD.B = some ⟨b1, 0, none⟩ ∧ DD.m = H ∧ DD.d = cb1 := by rw [HDD.out]; exact ⟨rfl, rfl, rfl⟩
              rw [hDDB.1, hDDB.2.1, hDDB.2.2] at d3
              have hel : ∀ i, i < H → ∀ n, (Wf n).cell? ⟨b1, i, none⟩ = some (.int .i64 (ren (rc k f) i)) := fun i hi n => by
                have h := (M1.out.next (hbf n)).in_.tr
                rw [hDDB.1, hDDB.2.1] at h
                obtain ⟨b', o', e, _, hc⟩ := h (by omega)
                cases e
                have := hc i hi
                rw [HGG.out i hi, Nat.zero_add] at this
                exact this
              have e1 := hel x hlx
              have e2 := hel y (by omega)
              have hq := ren_eq (rc k f) x y
              rw [rc_eq] at hq
              obtain ⟨ta, hta⟩ : ∃ z, ren (rc k f) x = z := ⟨_, rfl⟩
              obtain ⟨tb, htb⟩ : ∃ z, ren (rc k f) y = z := ⟨_, rfl⟩
              have C1 := Lib.hid (fun n => (samerows_any k H C cap f x y w.heap.size (Wf n) (by rw [HN.out]; exact (P1.out.next (hbf n)).cells) (P1.out.next (hbf n)).bel.size (by omega) hH hlx (by omega)).mono fun e w2 h => (⟨h.1, HCL.out n _ h.2⟩ : _ ∧ ∃ m, w2 = Wf m))
              rw [HN.out] at C1
              obtain ⟨u, hu⟩ : ∃ u, rsm k f x y = u := ⟨_, rfl⟩
              rw [hta] at e1 hq
              rw [htb] at e2 hq
              rw [hu] at C1 hq
              have z2 : (ta == tb) = u := by
                cases u
                · rw [beq_eq_false_iff_ne]; intro h; cases hq.1 h
                · rw [beq_iff_eq]; exact hq.2 rfl
              have z3 : (u != u) = false := by simp
              have y1 : (0 : Int) ≤ (x : Int) := by omega
              have y2 : (x : Int) < (H : Int) := by omega
              have y3 : (0 : Int) ≤ (y : Int) := by omega
              have y4 : (y : Int) < (H : Int) := by omega
              clear hbf hcl pP pM hel hq hta htb hu hDDB P1 M1
              refine wp_region_fam Wf i0 h0 (by kernel_rfl) (by kernel_rfl) ?_
              clear h0
              have hne : Nonempty I := ⟨i0⟩
              repeat (go_big_quiet_step (first | exact rfl | (go_at_call 42; with_reducible exact C1.out _)))
              refine wpQuiet_nil ?_
              rintro _ ⟨nq, rfl⟩
              go_wp2
              exact ⟨⟨y + 1, by omega, by go_num, BF.out nq⟩, by simp [intOf]; omega⟩
            · have y6 : decide ((y : Int) < (x : Int)) = false := by simp; omega
              go_wp2
              exact ⟨⟨x + 1, by omega, by go_num, hbv.out⟩, by simp [intOf]; omega⟩
        · have y5 : decide ((x : Int) < (H : Int)) = false := by simp; omega
          have PE := Lib.hid (PS.out.next hbv.out)
          go_wp2_with fail
          refine (alive_any _).mono ?_
          rintro e wu9 ⟨rfl, hb⟩
          have PF := Lib.hid (PE.out.next hb)
          clear hb
          go_wp2
          refine bodyPost_ret (v := .bool true) (by simp [results, Try.results10, go_sem]) rfl ⟨rfl, PF.out.bel⟩

theorem dlifts_any (W H : Int) (A : Option Addr) (N cap : Nat) (f : Nat → Bool) (w : World) (hr : Holds w w.heap.size A N f) (hcap : N ≤ cap) :
    Calls Try.prog 10 #[.agg #[.int .i64 W, .int .i64 H, .slice A N cap]] w fun e w' => e = .returned (.bool true) ∧ Below w.heap.size w w' := by
  by_cases h1 : 4200 < N
  · exact lifts_great W H A N cap f w hr h1
  by_cases h2 : chk W H N = 0
  · by_cases h3 : 8 < W
    · exact lifts_wide W H A N cap f w hr (by omega) h2 h3
    · obtain ⟨a1, a2, a3, a4, a5⟩ := chk_ok h2
      obtain ⟨U, rfl⟩ : ∃ U : Nat, W = U := ⟨W.toNat, (Int.toNat_of_nonneg (by omega)).symm⟩
      obtain ⟨V, rfl⟩ : ∃ V : Nat, H = V := ⟨H.toNat, (Int.toNat_of_nonneg (by omega)).symm⟩
      have hN : U * V = N := by
        have : ((U * V : Nat) : Int) = (N : Int) := by rw [a5]; simp
        omega
      subst hN
      have h0 : 0 < U * V := Nat.mul_pos (by omega) (by omega)
      obtain ⟨b, o, rfl, _⟩ := hr h0
      by_cases h4 : nd (rc U f) V ≤ 40
      · exact lifts_ok U V (U * V) _ _ cap f w hr rfl (by omega) (by omega) (by omega) (by omega) (lh_of hr hcap (by omega) (by omega) (by omega) (by omega) h4) rfl
      · have h5 := L2.nd_le (rc U f) V
        exact lifts_err U V (U * V) 0 _ cap f w hr rfl (by omega) (by omega) (by omega) (by omega)
          (fun v A' c' hb ht => fromlift_K A' U c' _ U V b o cap f v ht ((hr.below hb).more hb.size) hcap (by omega) (by omega) (by omega) (by omega) (by omega) (by omega) (by omega) (by omega)) (by omega)
  · exact lifts_bad W H A N cap f w hr (by omega) _ rfl (by simp [h2])
end Go.Proofs.Ytbafhdinalapoaa
