/- Has of both sides, for a grid with a motif and an operation. -/
import Derived.Test.YtjbofdgdcnfmoaaSbc
import Derived.Test.YtjbofdgdcnfmoaaMva
import Derived.Deep.DeepCutAuto
import Derived.Deep.RegionHeld3
namespace Go.Proofs.Ytjbofdgdcnfmoaa
open Go.RowKit
set_option maxRecDepth 100000
set_option linter.unusedVariables false
set_option linter.unusedSimpArgs false

theorem Pt.put {u : World} {g : Nat} {a b : Int} (h : Pt u g a b) (x y : Int) : Pt ((u.setCell ⟨g, 0, none⟩ (.int .i64 x)).setCell ⟨g, 1, none⟩ (.int .i64 y)) g x y := by
  have st : ∀ (u : World) (cs : Array Value) (i : Nat) (v : Value), u.heap[g]? = some (.cells cs 40 (0, 0)) → (u.setCell ⟨g, i, none⟩ v).heap[g]? = some (.cells (cs.setIfInBounds i v) 40 (0, 0)) := by
    intro u cs i v h
    obtain ⟨hlt, hk⟩ := Array.getElem?_eq_some_iff.1 h
    show (u.heap.modify g _)[g]? = _
    rw [Array.getElem?_eq_getElem (by rw [Array.size_modify]; exact hlt), Array.getElem_modify_self, hk]
    rfl
  exact st _ _ 1 _ (st _ _ 0 _ h)
theorem Pt.alloc' {u : World} {g : Nat} {a b : Int} (h : Pt u g a b) (o : Obj) : Pt (u.alloc o) g a b := (Below.heap_alloc u o g h.lt).trans h
theorem ptk {X u : World} {g : Nat} {a b : Int} (h : Below X.heap.size X u) (hx : Pt X g a b) : Pt u g a b := hx.below h hx.lt
theorem Pt.far {w : World} {g : Nat} {a b : Int} (h : Pt w g a b) {p : Addr} (hp : g ≠ p.block) (u : Value) : Pt (w.setCell p u) g a b := (Below.heap_setCell w p u g hp).trans h
theorem ptS {u : World} {g : Nat} {a b : Int} (h : Pt u g a b) : u.cell? ⟨g, 0, none⟩ = some (.int .i64 a) ∧ u.cell? ⟨g, 1, none⟩ = some (.int .i64 b) := ⟨h.all.1, h.all.2.1⟩
theorem ptSd {u : World} {g : Nat} {a b : Int} (h : Pt u g a b) : u.drew.cell? ⟨g, 0, none⟩ = some (.int .i64 a) ∧ u.drew.cell? ⟨g, 1, none⟩ = some (.int .i64 b) := ptS (show Pt u.drew g a b from h)
theorem boxS {u : World} {g : Nat} {a b : Int} {s : Value} (h : Box u g a b s) : u.cell? ⟨g, 0, none⟩ = some (.int .i64 a) ∧ u.cell? ⟨g, 1, none⟩ = some (.int .i64 b) ∧ u.cell? ⟨g, 2, none⟩ = some s := ⟨h.c0, h.c1, h.c2⟩
set_option maxHeartbeats 1600000 in
theorem phas_ok {P : Nat → Prop} (W H b o d : Nat) (U V : Nat) (h : Nat → Bool) (m : Nat) (a' b' z : Int) (w : World) (hm : m < 16) (hn : W * H ≤ 4200) (hx : schk W H (W * H) = 0) (hz : z = 0 ∨ z = 6)
    (HAP : ∀ u, Below w.heap.size w u → Calls Try.prog 94 #[.agg #[.int .i64 (W : Nat), .int .i64 (H : Nat), .slice (some ⟨b, o, none⟩) (W * H) d], .int .i64 (m : Nat)] u fun e u' => ∃ k d', e = .returned (.agg #[.int .i64 (U : Nat), .int .i64 (V : Nat), .slice (some ⟨k, 0, none⟩) (U * V) d']) ∧ P d' ∧ u.heap.size ≤ k ∧ Row u' k (U * V) h ∧ Below u.heap.size u u')
    (HOF : ∀ u k d', Below w.heap.size w u → P d' → Row u k (U * V) h → Calls Try.prog 25 #[.agg #[.int .i64 (W : Nat), .int .i64 (H : Nat), .slice (some ⟨b, o, none⟩) (W * H) d], (.agg #[.int .i64 (U : Nat), .int .i64 (V : Nat), .slice (some ⟨k, 0, none⟩) (U * V) d'])] u fun e u' => e = .returned (.tuple #[.agg #[.int .i64 a', .int .i64 b'], .int .i64 z]) ∧ Below u.heap.size u u') :
    Calls Try.prog 48 #[.agg #[.int .i64 (W : Nat), .int .i64 (H : Nat), .slice (some ⟨b, o, none⟩) (W * H) d], .int .i64 (m : Nat)] w fun e w' => e = .returned (.tuple #[.bool (decide (z = 0)), .agg #[.int .i64 a', .int .i64 b'], .int .i64 0]) ∧ Below w.heap.size w w' := by
  have X0 := Lib.hid ((Box.new w (W : Nat) (H : Nat) (.slice (some ⟨b, o, none⟩) (W * H) d)).alloc (.cells #[.int .i64 0, .int .i64 0] 40))
  have Y0 := Lib.hid (show Pt ((w.alloc (.cells #[.int .i64 (W : Nat), .int .i64 (H : Nat), .slice (some ⟨b, o, none⟩) (W * H) d] 24)).alloc (.cells #[.int .i64 0, .int .i64 0] 40)) (w.heap.size + 1) 0 0 from by
    have h := Pt.new (w.alloc (.cells #[.int .i64 (W : Nat), .int .i64 (H : Nat), .slice (some ⟨b, o, none⟩) (W * H) d] 24)) 0 0
    rwa [World.size_alloc] at h)
  have LB0 := Lib.hid (show Below w.heap.size w ((w.alloc (.cells #[.int .i64 (W : Nat), .int .i64 (H : Nat), .slice (some ⟨b, o, none⟩) (W * H) d] 24)).alloc (.cells #[.int .i64 0, .int .i64 0] 40)) from blA (blA (Below.refl _ _) (Nat.le_refl _) _) (Nat.le_refl _) _)
  have HI := Lib.hid (fun u => (show Calls Try.prog 93 #[.int .i64 (m : Nat)] u fun e w' => e = .returned (.bool true) ∧ w' = u by have h := isop_any (m : Nat) u; rw [decide_eq_true (show 0 ≤ ((m : Nat) : Int) ∧ ((m : Nat) : Int) < 16 by omega)] at h; exact h))
  have HAP := Lib.hid HAP
  have HOF := Lib.hid HOF
  have HC := Lib.hid (fun (u : World) (kk : Nat) (hb : Box u kk (W : Nat) (H : Nat) (.slice (some ⟨b, o, none⟩) (W * H) d)) => (show Calls Try.prog 92 #[.slice (some ⟨kk, 0, none⟩) 1 1] u fun e w' => e = .returned (.int .i64 0) ∧ Below u.heap.size u w' by have h := check1_any (W : Nat) (H : Nat) (some ⟨b, o, none⟩) (W * H) d kk u (by omega) hb; rwa [hx] at h))
  have LBc := Lib.hid (blA LB0.out (Nat.le_refl _) (.cells #[.int .i64 (W : Nat), .int .i64 (H : Nat), .slice (some ⟨b, o, none⟩) (W * H) d] 24))
  have Xc := Lib.hid (X0.out.alloc (.cells #[.int .i64 (W : Nat), .int .i64 (H : Nat), .slice (some ⟨b, o, none⟩) (W * H) d] 24))
  have Yc := Lib.hid (Y0.out.alloc' (.cells #[.int .i64 (W : Nat), .int .i64 (H : Nat), .slice (some ⟨b, o, none⟩) (W * H) d] 24))
  have Zc := Lib.hid (show Box (((w.alloc (.cells #[.int .i64 (W : Nat), .int .i64 (H : Nat), .slice (some ⟨b, o, none⟩) (W * H) d] 24)).alloc (.cells #[.int .i64 0, .int .i64 0] 40)).alloc (.cells #[.int .i64 (W : Nat), .int .i64 (H : Nat), .slice (some ⟨b, o, none⟩) (W * H) d] 24)) (w.heap.size + 1 + 1) (W : Nat) (H : Nat) (.slice (some ⟨b, o, none⟩) (W * H) d) from by
    have h := Box.new ((w.alloc (.cells #[.int .i64 (W : Nat), .int .i64 (H : Nat), .slice (some ⟨b, o, none⟩) (W * H) d] 24)).alloc (.cells #[.int .i64 0, .int .i64 0] 40)) (W : Nat) (H : Nat) (.slice (some ⟨b, o, none⟩) (W * H) d)
    rwa [World.size_alloc, World.size_alloc] at h)
  clear hx hm
  go_enter Try.func48, Try.ntmps48
  obtain ⟨q0, q1, q2, q3, q4, q5, q6⟩ := X0.out.all
  go_wp2_with fail
  clear q0 q1 q2 q3 q4 q5 q6
  refine (HC.out _ _ Zc.out).mono ?_
  rintro e w1 ⟨rfl, hb⟩
  have LB1 := Lib.hid (LBc.out.trans (hb.mono LBc.out.size))
  have X1 := Lib.hid (Xc.out.below hb Xc.out.lt)
  have Y1 := Lib.hid (Yc.out.below hb Yc.out.lt)
  clear LBc Xc Yc Zc HC
  clear hb LB0 X0 Y0
  go_wp2_with fail
  refine (HI.out _).mono ?_
  rintro e w2 ⟨rfl, hww⟩
  subst w2
  go_upto_region 6 with fail
  generalize w1 = v0 at *
  go_cut [8, 9] (fun p q wx => ∃ g, p = .pointer (some ⟨g, 0, none⟩) ∧ q = .int .i64 z ∧ Pt wx g a' b' ∧ Below v0.heap.size v0 wx ∧ v0.heap.size ≤ g)
  case first =>
    have HS := Lib.hid (fun u (h : Below v0.heap.size v0 u) => (show Box u w.heap.size (W : Nat) (H : Nat) (.slice (some ⟨b, o, none⟩) (W * H) d) from X1.out.below h X1.out.lt))
    have HA := Lib.hid (fun u (h : Below v0.heap.size v0 u) => HAP.out u (LB1.out.trans (h.mono LB1.out.size)))
    have HO := Lib.hid (fun u k d' (h : Below v0.heap.size v0 u) => HOF.out u k d' (LB1.out.trans (h.mono LB1.out.size)))
    clear HAP HOF HI
    obtain ⟨q0, q1, q2, q3, q4, q5, q6⟩ := X1.out.all
    go_region_held3 (fun w' => w'.cell? ⟨w.heap.size, 0, none⟩ = some (.int .i64 (W : Nat)) ∧ w'.cell? ⟨w.heap.size, 1, none⟩ = some (.int .i64 (H : Nat)) ∧ w'.cell? ⟨w.heap.size, 2, none⟩ = some (.slice (some ⟨b, o, none⟩) (W * H) d))
      (exact boxS (HS.out _ (by (repeat' (first | assumption | exact Below.refl _ _ | refine Below.drew ?_ | refine blA ?_ (Nat.le_refl _) _ | refine Below.setCell ?_ (by first | exact Nat.le_refl _ | exact hx1.size) _)))))
      (first
            | (go_at_call 94
               with_reducible refine Calls.mono (HA.out _ (by (repeat' (first | assumption | exact Below.refl _ _ | refine Below.drew ?_ | refine blA ?_ (Nat.le_refl _) _)))) ?_
               rintro e u1 ⟨k, d', rfl, hd1, hk1, hrow1, hb1⟩
               have hx1 : Below v0.heap.size v0 u1 := blT (by (repeat' (first | assumption | exact Below.refl _ _ | refine Below.drew ?_ | refine blA ?_ (Nat.le_refl _) _))) (Nat.le_refl _) hb1
               have hR1 := Lib.hid hrow1
               have hP1 := Lib.hid hd1
               try (have kp1 : Pt u1 v0.heap.size 0 0 := ptk hb1 (by (first | assumption | exact Pt.new _ _ _ | exact Pt.alloc' (by assumption) _)); have hp1 := Lib.hid kp1; have hl1 : v0.heap.size < u1.heap.size := kp1.lt; obtain ⟨g0, g1, g2, g3⟩ := kp1.all)
               clear hrow1 hd1)
            | (go_at_call 25
               with_reducible refine Calls.mono (HO.out _ k d' (by (repeat' (first | assumption | exact Below.refl _ _ | refine Below.drew ?_ | refine blA ?_ (Nat.le_refl _) _))) hP1.out (by first | exact hR1.out | exact hR1.out.alloc _)) ?_
               rintro e u2 ⟨rfl, hb2⟩
               have hx2 : Below v0.heap.size v0 u2 := blT (by (repeat' (first | assumption | exact Below.refl _ _ | refine Below.drew ?_ | refine blA ?_ (Nat.le_refl _) _))) (Nat.le_refl _) hb2
               try (have kp2 : Pt u2 v0.heap.size 0 0 := hp1.out.below hb2 (by first | exact hl1 | (simp; omega)); have hp2 := Lib.hid kp2; obtain ⟨g4, g5, g6, g7⟩ := kp2.all)
               try (have kp3 : Pt u2 u1.heap.size 0 0 := ptk hb2 (by (first | assumption | exact Pt.new _ _ _ | exact Pt.alloc' (by assumption) _)); have hp3 := Lib.hid kp3; obtain ⟨g8, g9, g10, g11⟩ := kp3.all)))
    all_goals
      go_wp2_with fail
      go_meet
      first
      | exact ⟨_, rfl, rfl, Pt.new _ _ _, blA hx2 (Nat.le_refl _) _, by have := hx2.size; simp; omega⟩
      | exact ⟨_, rfl, rfl, hp2.out.put _ _, (hx2.setCell (Nat.le_refl _) _).setCell (Nat.le_refl _) _, Nat.le_refl _⟩
      | exact ⟨_, rfl, rfl, hp3.out.put _ _, (hx2.setCell hx1.size _).setCell hx1.size _, hx1.size⟩
  case rest =>
    obtain ⟨g, rfl, rfl, hp, hb, hg⟩ := hcut
    have Y2 := Lib.hid (Y1.out.below hb Y1.out.lt)
    have LB2 := Lib.hid (LB1.out.trans (hb.mono LB1.out.size))
    have hp := Lib.hid hp
    have hlt := Y1.out.lt
    have hne : w.heap.size + 1 ≠ g := by omega
    clear hb HAP HOF
    obtain ⟨g0, g1, g2, g3⟩ := hp.out.all
    obtain ⟨y0, y1, y2, y3⟩ := Y2.out.all
    rcases hz with rfl | rfl
    all_goals
      go_wp2
      go_region_held3 (fun w' => w'.cell? ⟨g, 0, none⟩ = some (.int .i64 a') ∧ w'.cell? ⟨g, 1, none⟩ = some (.int .i64 b'))
        (first | exact ptS hp.out | exact ptSd hp.out | exact ptSd ((hp.out.far (Ne.symm hne) _).far (Ne.symm hne) _) | exact ptS ((hp.out.far (Ne.symm hne) _).far (Ne.symm hne) _)) (fail)
      all_goals
        go_wp2
        obtain ⟨z0, z1⟩ := ptSd (Y2.out.put a' b')
        first
          | exact bodyPost_ret (v := .tuple #[.bool true, .agg #[.int .i64 a', .int .i64 b'], .int .i64 0]) (by simp [results, Try.results48, go_sem, z0, z1]) rfl ⟨rfl, ((LB2.out.setCell (Nat.le_succ _) _).setCell (Nat.le_succ _) _).drew⟩
          | exact bodyPost_ret (v := .tuple #[.bool false, .agg #[.int .i64 a', .int .i64 b'], .int .i64 0]) (by simp [results, Try.results48, go_sem, z0, z1]) rfl ⟨rfl, ((LB2.out.setCell (Nat.le_succ _) _).setCell (Nat.le_succ _) _).drew⟩
set_option maxHeartbeats 1600000 in
theorem rhas_ok {P : Nat → Prop} (W H b o d : Nat) (U V : Nat) (h : Nat → Bool) (m : Nat) (a' b' z : Int) (w : World) (hm : m < 16) (hn : W * H ≤ 4200) (hx : schk W H (W * H) = 0) (hz : z = 0 ∨ z = 6)
    (HAP : ∀ u, Below w.heap.size w u → Calls Try.prog 104 #[.agg #[.int .i64 (W : Nat), .int .i64 (H : Nat), .slice (some ⟨b, o, none⟩) (W * H) d], .int .i64 (m : Nat)] u fun e u' => ∃ k d', e = .returned (.agg #[.int .i64 (U : Nat), .int .i64 (V : Nat), .slice (some ⟨k, 0, none⟩) (U * V) d']) ∧ P d' ∧ u.heap.size ≤ k ∧ Row u' k (U * V) h ∧ Below u.heap.size u u')
    (HOF : ∀ u k d', Below w.heap.size w u → P d' → Row u k (U * V) h → Calls Try.prog 38 #[.agg #[.int .i64 (W : Nat), .int .i64 (H : Nat), .slice (some ⟨b, o, none⟩) (W * H) d], (.agg #[.int .i64 (U : Nat), .int .i64 (V : Nat), .slice (some ⟨k, 0, none⟩) (U * V) d'])] u fun e u' => e = .returned (.tuple #[.agg #[.int .i64 a', .int .i64 b'], .int .i64 z]) ∧ Below u.heap.size u u') :
    Calls Try.prog 61 #[.agg #[.int .i64 (W : Nat), .int .i64 (H : Nat), .slice (some ⟨b, o, none⟩) (W * H) d], .int .i64 (m : Nat)] w fun e w' => e = .returned (.tuple #[.bool (decide (z = 0)), .agg #[.int .i64 a', .int .i64 b'], .int .i64 0]) ∧ Below w.heap.size w w' := by
  have X0 := Lib.hid ((Box.new w (W : Nat) (H : Nat) (.slice (some ⟨b, o, none⟩) (W * H) d)).alloc (.cells #[.int .i64 0, .int .i64 0] 40))
  have Y0 := Lib.hid (show Pt ((w.alloc (.cells #[.int .i64 (W : Nat), .int .i64 (H : Nat), .slice (some ⟨b, o, none⟩) (W * H) d] 24)).alloc (.cells #[.int .i64 0, .int .i64 0] 40)) (w.heap.size + 1) 0 0 from by
    have h := Pt.new (w.alloc (.cells #[.int .i64 (W : Nat), .int .i64 (H : Nat), .slice (some ⟨b, o, none⟩) (W * H) d] 24)) 0 0
    rwa [World.size_alloc] at h)
  have LB0 := Lib.hid (show Below w.heap.size w ((w.alloc (.cells #[.int .i64 (W : Nat), .int .i64 (H : Nat), .slice (some ⟨b, o, none⟩) (W * H) d] 24)).alloc (.cells #[.int .i64 0, .int .i64 0] 40)) from blA (blA (Below.refl _ _) (Nat.le_refl _) _) (Nat.le_refl _) _)
  have HI := Lib.hid (fun u => (show Calls Try.prog 67 #[.int .i64 (m : Nat)] u fun e w' => e = .returned (.bool true) ∧ w' = u by have h := ris_any (m : Nat) u; rw [decide_eq_true (show 0 ≤ ((m : Nat) : Int) ∧ ((m : Nat) : Int) < 16 by omega)] at h; exact h))
  have HAP := Lib.hid HAP
  have HOF := Lib.hid HOF
  have HC := Lib.hid (fun (u : World) => (show Calls Try.prog 103 #[.agg #[.int .i64 (W : Nat), .int .i64 (H : Nat), .slice (some ⟨b, o, none⟩) (W * H) d]] u fun e w' => e = .returned (.int .i64 0) ∧ Below u.heap.size u w' by have h := start_any (W : Nat) (H : Nat) (some ⟨b, o, none⟩) (W * H) d u (by omega); rwa [hx] at h))
  clear hx hm
  go_enter Try.func61, Try.ntmps61
  obtain ⟨q0, q1, q2, q3, q4, q5, q6⟩ := X0.out.all
  go_wp2_with fail
  clear q0 q1 q2 q3 q4 q5 q6
  refine (HC.out _).mono ?_
  rintro e w1 ⟨rfl, hb⟩
  have LB1 := Lib.hid (LB0.out.trans (hb.mono LB0.out.size))
  have X1 := Lib.hid (X0.out.below hb X0.out.lt)
  have Y1 := Lib.hid (Y0.out.below hb Y0.out.lt)
  clear HC
  clear hb LB0 X0 Y0
  go_wp2_with fail
  refine (HI.out _).mono ?_
  rintro e w2 ⟨rfl, hww⟩
  subst w2
  go_upto_region 5 with fail
  generalize w1 = v0 at *
  go_cut [7, 8] (fun p q wx => ∃ g, p = .pointer (some ⟨g, 0, none⟩) ∧ q = .int .i64 z ∧ Pt wx g a' b' ∧ Below v0.heap.size v0 wx ∧ v0.heap.size ≤ g)
  case first =>
    have HS := Lib.hid (fun u (h : Below v0.heap.size v0 u) => (show Box u w.heap.size (W : Nat) (H : Nat) (.slice (some ⟨b, o, none⟩) (W * H) d) from X1.out.below h X1.out.lt))
    have HA := Lib.hid (fun u (h : Below v0.heap.size v0 u) => HAP.out u (LB1.out.trans (h.mono LB1.out.size)))
    have HO := Lib.hid (fun u k d' (h : Below v0.heap.size v0 u) => HOF.out u k d' (LB1.out.trans (h.mono LB1.out.size)))
    clear HAP HOF HI
    obtain ⟨q0, q1, q2, q3, q4, q5, q6⟩ := X1.out.all
    go_region_held3 (fun w' => w'.cell? ⟨w.heap.size, 0, none⟩ = some (.int .i64 (W : Nat)) ∧ w'.cell? ⟨w.heap.size, 1, none⟩ = some (.int .i64 (H : Nat)) ∧ w'.cell? ⟨w.heap.size, 2, none⟩ = some (.slice (some ⟨b, o, none⟩) (W * H) d))
      (exact boxS (HS.out _ (by (repeat' (first | assumption | exact Below.refl _ _ | refine Below.drew ?_ | refine blA ?_ (Nat.le_refl _) _ | refine Below.setCell ?_ (by first | exact Nat.le_refl _ | exact hx1.size) _)))))
      (first
            | (go_at_call 104
               with_reducible refine Calls.mono (HA.out _ (by (repeat' (first | assumption | exact Below.refl _ _ | refine Below.drew ?_ | refine blA ?_ (Nat.le_refl _) _)))) ?_
               rintro e u1 ⟨k, d', rfl, hd1, hk1, hrow1, hb1⟩
               have hx1 : Below v0.heap.size v0 u1 := blT (by (repeat' (first | assumption | exact Below.refl _ _ | refine Below.drew ?_ | refine blA ?_ (Nat.le_refl _) _))) (Nat.le_refl _) hb1
               have hR1 := Lib.hid hrow1
               have hP1 := Lib.hid hd1
               try (have kp1 : Pt u1 v0.heap.size 0 0 := ptk hb1 (by (first | assumption | exact Pt.new _ _ _ | exact Pt.alloc' (by assumption) _)); have hp1 := Lib.hid kp1; have hl1 : v0.heap.size < u1.heap.size := kp1.lt; obtain ⟨g0, g1, g2, g3⟩ := kp1.all)
               clear hrow1 hd1)
            | (go_at_call 38
               with_reducible refine Calls.mono (HO.out _ k d' (by (repeat' (first | assumption | exact Below.refl _ _ | refine Below.drew ?_ | refine blA ?_ (Nat.le_refl _) _))) hP1.out (by first | exact hR1.out | exact hR1.out.alloc _)) ?_
               rintro e u2 ⟨rfl, hb2⟩
               have hx2 : Below v0.heap.size v0 u2 := blT (by (repeat' (first | assumption | exact Below.refl _ _ | refine Below.drew ?_ | refine blA ?_ (Nat.le_refl _) _))) (Nat.le_refl _) hb2
               try (have kp2 : Pt u2 v0.heap.size 0 0 := hp1.out.below hb2 (by first | exact hl1 | (simp; omega)); have hp2 := Lib.hid kp2; obtain ⟨g4, g5, g6, g7⟩ := kp2.all)
               try (have kp3 : Pt u2 u1.heap.size 0 0 := ptk hb2 (by (first | assumption | exact Pt.new _ _ _ | exact Pt.alloc' (by assumption) _)); have hp3 := Lib.hid kp3; obtain ⟨g8, g9, g10, g11⟩ := kp3.all)))
    all_goals
      go_wp2_with fail
      go_meet
      first
      | exact ⟨_, rfl, rfl, Pt.new _ _ _, blA hx2 (Nat.le_refl _) _, by have := hx2.size; simp; omega⟩
      | exact ⟨_, rfl, rfl, hp2.out.put _ _, (hx2.setCell (Nat.le_refl _) _).setCell (Nat.le_refl _) _, Nat.le_refl _⟩
      | exact ⟨_, rfl, rfl, hp3.out.put _ _, (hx2.setCell hx1.size _).setCell hx1.size _, hx1.size⟩
  case rest =>
    obtain ⟨g, rfl, rfl, hp, hb, hg⟩ := hcut
    have Y2 := Lib.hid (Y1.out.below hb Y1.out.lt)
    have LB2 := Lib.hid (LB1.out.trans (hb.mono LB1.out.size))
    have hp := Lib.hid hp
    have hlt := Y1.out.lt
    have hne : w.heap.size + 1 ≠ g := by omega
    clear hb HAP HOF
    obtain ⟨g0, g1, g2, g3⟩ := hp.out.all
    obtain ⟨y0, y1, y2, y3⟩ := Y2.out.all
    rcases hz with rfl | rfl
    all_goals
      go_wp2
      go_region_held3 (fun w' => w'.cell? ⟨g, 0, none⟩ = some (.int .i64 a') ∧ w'.cell? ⟨g, 1, none⟩ = some (.int .i64 b'))
        (first | exact ptS hp.out | exact ptSd hp.out | exact ptSd ((hp.out.far (Ne.symm hne) _).far (Ne.symm hne) _) | exact ptS ((hp.out.far (Ne.symm hne) _).far (Ne.symm hne) _)) (fail)
      all_goals
        go_wp2
        obtain ⟨z0, z1⟩ := ptSd (Y2.out.put a' b')
        first
          | exact bodyPost_ret (v := .tuple #[.bool true, .agg #[.int .i64 a', .int .i64 b'], .int .i64 0]) (by simp [results, Try.results61, go_sem, z0, z1]) rfl ⟨rfl, ((LB2.out.setCell (Nat.le_succ _) _).setCell (Nat.le_succ _) _).drew⟩
          | exact bodyPost_ret (v := .tuple #[.bool false, .agg #[.int .i64 a', .int .i64 b'], .int .i64 0]) (by simp [results, Try.results61, go_sem, z0, z1]) rfl ⟨rfl, ((LB2.out.setCell (Nat.le_succ _) _).setCell (Nat.le_succ _) _).drew⟩
theorem pt1 (w : World) (W H : Int) (s : Value) : Pt ((w.alloc (.cells #[.int .i64 W, .int .i64 H, s] 24)).alloc (.cells #[.int .i64 0, .int .i64 0] 40)) (w.heap.size + 1) 0 0 := by
  have h := Pt.new (w.alloc (.cells #[.int .i64 W, .int .i64 H, s] 24)) 0 0
  rwa [World.size_alloc] at h
theorem bl1 (w : World) (W H : Int) (s : Value) : Below w.heap.size w ((w.alloc (.cells #[.int .i64 W, .int .i64 H, s] 24)).alloc (.cells #[.int .i64 0, .int .i64 0] 40)) := blA (blA (Below.refl _ _) (Nat.le_refl _) _) (Nat.le_refl _) _
theorem bx2' (w : World) (W H : Int) (s : Value) : Box (((w.alloc (.cells #[.int .i64 W, .int .i64 H, s] 24)).alloc (.cells #[.int .i64 0, .int .i64 0] 40)).alloc (.cells #[.int .i64 W, .int .i64 H, s] 24)) (w.heap.size + 1 + 1) W H s := by
  have h := Box.new ((w.alloc (.cells #[.int .i64 W, .int .i64 H, s] 24)).alloc (.cells #[.int .i64 0, .int .i64 0] 40)) W H s
  rwa [World.size_alloc, World.size_alloc] at h
set_option maxHeartbeats 800000 in
theorem phas_err (W H : Int) (A : Option Addr) (n c : Nat) (v : Int) (w : World) (hn : n ≤ 4200) (z : Int) (hx : schk W H n = z) (hne : (z != 0) = true) :
    Calls Try.prog 48 #[.agg #[.int .i64 W, .int .i64 H, .slice A n c], .int .i64 v] w fun e w' => e = .returned (.tuple #[.bool false, .agg #[.int .i64 0, .int .i64 0], .int .i64 z]) ∧ Below w.heap.size w w' := by
  have X0 := Lib.hid ((Box.new w W H (.slice A n c)).alloc (.cells #[.int .i64 0, .int .i64 0] 40))
  have Y0 := Lib.hid (pt1 w W H (.slice A n c))
  have LB0 := Lib.hid (bl1 w W H (.slice A n c))
  have HC := Lib.hid (fun (u : World) (kk : Nat) (hb : Box u kk W H (.slice A n c)) => (show Calls Try.prog 92 #[.slice (some ⟨kk, 0, none⟩) 1 1] u fun e w' => e = .returned (.int .i64 z) ∧ Below u.heap.size u w' by have h := check1_any W H A n c kk u hn hb; rwa [hx] at h))
  have LBc := Lib.hid (blA LB0.out (Nat.le_refl _) (.cells #[.int .i64 W, .int .i64 H, .slice A n c] 24))
  have Xc := Lib.hid (X0.out.alloc (.cells #[.int .i64 W, .int .i64 H, .slice A n c] 24))
  have Yc := Lib.hid (Y0.out.alloc' (.cells #[.int .i64 W, .int .i64 H, .slice A n c] 24))
  have Zc := Lib.hid (bx2' w W H (.slice A n c))
  clear hx
  go_enter Try.func48, Try.ntmps48
  obtain ⟨q0, q1, q2, q3, q4, q5, q6⟩ := X0.out.all
  go_wp2_with fail
  clear q0 q1 q2 q3 q4 q5 q6
  refine (HC.out _ _ Zc.out).mono ?_
  rintro e w1 ⟨rfl, hb⟩
  have LB1 := Lib.hid (LBc.out.trans (hb.mono LBc.out.size))
  have X1 := Lib.hid (Xc.out.below hb Xc.out.lt)
  have Y1 := Lib.hid (Yc.out.below hb Yc.out.lt)
  clear LBc Xc Yc Zc HC
  clear hb LB0 X0 Y0
  obtain ⟨y0, y1, y2, y3⟩ := Y1.out.all
  go_wp2
  obtain ⟨z0, z1⟩ := ptS (Y1.out.put 0 0)
  exact bodyPost_ret (v := .tuple #[.bool false, .agg #[.int .i64 0, .int .i64 0], .int .i64 z]) (by simp [results, Try.results48, go_sem, z0, z1]) rfl ⟨rfl, ((LB1.out.setCell (Nat.le_succ _) _).setCell (Nat.le_succ _) _)⟩
set_option maxHeartbeats 800000 in
theorem phas_arg (W H : Int) (A : Option Addr) (n c : Nat) (v : Int) (w : World) (hn : n ≤ 4200) (hx : schk W H n = 0) (hv : ¬ (0 ≤ v ∧ v < 16)) :
    Calls Try.prog 48 #[.agg #[.int .i64 W, .int .i64 H, .slice A n c], .int .i64 v] w fun e w' => e = .returned (.tuple #[.bool false, .agg #[.int .i64 0, .int .i64 0], .int .i64 2]) ∧ Below w.heap.size w w' := by
  have X0 := Lib.hid ((Box.new w W H (.slice A n c)).alloc (.cells #[.int .i64 0, .int .i64 0] 40))
  have Y0 := Lib.hid (pt1 w W H (.slice A n c))
  have LB0 := Lib.hid (bl1 w W H (.slice A n c))
  have HI := Lib.hid (fun u => (show Calls Try.prog 93 #[.int .i64 v] u fun e w' => e = .returned (.bool false) ∧ w' = u by have h := isop_any v u; rw [decide_eq_false hv] at h; exact h))
  have HC := Lib.hid (fun (u : World) (kk : Nat) (hb : Box u kk W H (.slice A n c)) => (show Calls Try.prog 92 #[.slice (some ⟨kk, 0, none⟩) 1 1] u fun e w' => e = .returned (.int .i64 0) ∧ Below u.heap.size u w' by have h := check1_any W H A n c kk u hn hb; rwa [hx] at h))
  have LBc := Lib.hid (blA LB0.out (Nat.le_refl _) (.cells #[.int .i64 W, .int .i64 H, .slice A n c] 24))
  have Xc := Lib.hid (X0.out.alloc (.cells #[.int .i64 W, .int .i64 H, .slice A n c] 24))
  have Yc := Lib.hid (Y0.out.alloc' (.cells #[.int .i64 W, .int .i64 H, .slice A n c] 24))
  have Zc := Lib.hid (bx2' w W H (.slice A n c))
  clear hx hv
  go_enter Try.func48, Try.ntmps48
  obtain ⟨q0, q1, q2, q3, q4, q5, q6⟩ := X0.out.all
  go_wp2_with fail
  clear q0 q1 q2 q3 q4 q5 q6
  refine (HC.out _ _ Zc.out).mono ?_
  rintro e w1 ⟨rfl, hb⟩
  have LB1 := Lib.hid (LBc.out.trans (hb.mono LBc.out.size))
  have X1 := Lib.hid (Xc.out.below hb Xc.out.lt)
  have Y1 := Lib.hid (Yc.out.below hb Yc.out.lt)
  clear LBc Xc Yc Zc HC
  clear hb LB0 X0 Y0
  go_wp2_with fail
  refine (HI.out _).mono ?_
  rintro e w2 ⟨rfl, hww⟩
  subst w2
  obtain ⟨y0, y1, y2, y3⟩ := Y1.out.all
  go_wp2
  obtain ⟨z0, z1⟩ := ptS (Y1.out.put 0 0)
  exact bodyPost_ret (v := .tuple #[.bool false, .agg #[.int .i64 0, .int .i64 0], .int .i64 2]) (by simp [results, Try.results48, go_sem, z0, z1]) rfl ⟨rfl, ((LB1.out.setCell (Nat.le_succ _) _).setCell (Nat.le_succ _) _)⟩
set_option maxHeartbeats 800000 in
theorem rhas_err (W H : Int) (A : Option Addr) (n c : Nat) (v : Int) (w : World) (hn : n ≤ 4200) (z : Int) (hx : schk W H n = z) (hne : (z != 0) = true) :
    Calls Try.prog 61 #[.agg #[.int .i64 W, .int .i64 H, .slice A n c], .int .i64 v] w fun e w' => e = .returned (.tuple #[.bool false, .agg #[.int .i64 0, .int .i64 0], .int .i64 z]) ∧ Below w.heap.size w w' := by
  have X0 := Lib.hid ((Box.new w W H (.slice A n c)).alloc (.cells #[.int .i64 0, .int .i64 0] 40))
  have Y0 := Lib.hid (pt1 w W H (.slice A n c))
  have LB0 := Lib.hid (bl1 w W H (.slice A n c))
  have HC := Lib.hid (fun (u : World) => (show Calls Try.prog 103 #[.agg #[.int .i64 W, .int .i64 H, .slice A n c]] u fun e w' => e = .returned (.int .i64 z) ∧ Below u.heap.size u w' by have h := start_any W H A n c u hn; rwa [hx] at h))
  clear hx
  go_enter Try.func61, Try.ntmps61
  obtain ⟨q0, q1, q2, q3, q4, q5, q6⟩ := X0.out.all
  go_wp2_with fail
  clear q0 q1 q2 q3 q4 q5 q6
  refine (HC.out _).mono ?_
  rintro e w1 ⟨rfl, hb⟩
  have LB1 := Lib.hid (LB0.out.trans (hb.mono LB0.out.size))
  have X1 := Lib.hid (X0.out.below hb X0.out.lt)
  have Y1 := Lib.hid (Y0.out.below hb Y0.out.lt)
  obtain ⟨q0, q1, q2, q3, q4, q5, q6⟩ := X1.out.all
  clear hb LB0 X0 Y0
  have LBx := LB1
  have Yx := Y1
  clear LB1 Y1
  go_wp2_with fail
  clear q0 q1 q2 q3 q4 q5 q6
  refine (HC.out _).mono ?_
  rintro e w3 ⟨rfl, hb⟩
  have LB1 := Lib.hid (LBx.out.trans (hb.mono LBx.out.size))
  have Y1 := Lib.hid (Yx.out.below hb Yx.out.lt)
  clear hb
  obtain ⟨y0, y1, y2, y3⟩ := Y1.out.all
  go_wp2
  obtain ⟨z0, z1⟩ := ptS (Y1.out.put 0 0)
  exact bodyPost_ret (v := .tuple #[.bool false, .agg #[.int .i64 0, .int .i64 0], .int .i64 z]) (by simp [results, Try.results61, go_sem, z0, z1]) rfl ⟨rfl, ((LB1.out.setCell (Nat.le_succ _) _).setCell (Nat.le_succ _) _)⟩
set_option maxHeartbeats 800000 in
theorem rhas_arg (W H : Int) (A : Option Addr) (n c : Nat) (v : Int) (w : World) (hn : n ≤ 4200) (hx : schk W H n = 0) (hv : ¬ (0 ≤ v ∧ v < 16)) :
    Calls Try.prog 61 #[.agg #[.int .i64 W, .int .i64 H, .slice A n c], .int .i64 v] w fun e w' => e = .returned (.tuple #[.bool false, .agg #[.int .i64 0, .int .i64 0], .int .i64 2]) ∧ Below w.heap.size w w' := by
  have X0 := Lib.hid ((Box.new w W H (.slice A n c)).alloc (.cells #[.int .i64 0, .int .i64 0] 40))
  have Y0 := Lib.hid (pt1 w W H (.slice A n c))
  have LB0 := Lib.hid (bl1 w W H (.slice A n c))
  have HI := Lib.hid (fun u => (show Calls Try.prog 67 #[.int .i64 v] u fun e w' => e = .returned (.bool false) ∧ w' = u by have h := ris_any v u; rw [decide_eq_false hv] at h; exact h))
  have HC := Lib.hid (fun (u : World) => (show Calls Try.prog 103 #[.agg #[.int .i64 W, .int .i64 H, .slice A n c]] u fun e w' => e = .returned (.int .i64 0) ∧ Below u.heap.size u w' by have h := start_any W H A n c u hn; rwa [hx] at h))
  clear hx hv
  go_enter Try.func61, Try.ntmps61
  obtain ⟨q0, q1, q2, q3, q4, q5, q6⟩ := X0.out.all
  go_wp2_with fail
  clear q0 q1 q2 q3 q4 q5 q6
  refine (HC.out _).mono ?_
  rintro e w1 ⟨rfl, hb⟩
  have LB1 := Lib.hid (LB0.out.trans (hb.mono LB0.out.size))
  have X1 := Lib.hid (X0.out.below hb X0.out.lt)
  have Y1 := Lib.hid (Y0.out.below hb Y0.out.lt)
  clear hb LB0 X0 Y0
  go_wp2_with fail
  refine (HI.out _).mono ?_
  rintro e w2 ⟨rfl, hww⟩
  subst w2
  obtain ⟨y0, y1, y2, y3⟩ := Y1.out.all
  go_wp2
  obtain ⟨z0, z1⟩ := ptS (Y1.out.put 0 0)
  exact bodyPost_ret (v := .tuple #[.bool false, .agg #[.int .i64 0, .int .i64 0], .int .i64 2]) (by simp [results, Try.results61, go_sem, z0, z1]) rfl ⟨rfl, ((LB1.out.setCell (Nat.le_succ _) _).setCell (Nat.le_succ _) _)⟩
end Go.Proofs.Ytjbofdgdcnfmoaa
