/- DraftLifts: what the walk asks of FromLift; the lifts that the statement does not speak of. -/
import Derived.Test.YtbafhdinalapoaaAlv
import Derived.Test.YtbafhdinalapoaaLmt
namespace Go.Proofs.Ytbafhdinalapoaa
open Go.RowKit
set_option linter.unusedVariables false
set_option linter.unusedSimpArgs false
set_option maxRecDepth 100000

open L2 (nd ren)
/-- A draft made of these lifts, with a threading that has each shaft once. -/
structure LH (W H N K : Nat) (f : Nat → Bool) (A : Option Addr) (cap : Nat) (w : World) : Prop where
  fl : ∀ v A' c', Below w.heap.size w v → L2.Holds v v.heap.size A' W (fun i => (i : Int)) → Calls Try.prog 13 #[.slice A' W c', .agg #[.int .i64 W, .int .i64 H, .slice A N cap]] v fun e w' => ∃ a1 ca1 b1 cb1 c1 cc1, e = .returned (.tuple #[.agg #[.int .i64 W, .int .i64 K, .slice (some ⟨a1, 0, none⟩) W ca1, .slice (some ⟨b1, 0, none⟩) H cb1, .int .i64 K, .int .i64 W, .slice (some ⟨c1, 0, none⟩) (K * W) cc1], .int .i64 0]) ∧
      (∃ D : Dr, D = ⟨W, K, some ⟨a1, 0, none⟩, W, ca1, some ⟨b1, 0, none⟩, H, cb1, K, W, some ⟨c1, 0, none⟩, K * W, cc1, D.f, D.g, D.b⟩ ∧ D.In w' w'.heap.size ∧ (∀ i, i < H → D.g i = ren (rc W f) i) ∧
      (∀ v, D.In v v.heap.size → Calls Try.prog 14 #[.agg #[.int .i64 W, .int .i64 K, .slice (some ⟨a1, 0, none⟩) W ca1, .slice (some ⟨b1, 0, none⟩) H cb1, .int .i64 K, .int .i64 W, .slice (some ⟨c1, 0, none⟩) (K * W) cc1]] v fun e w' => ∃ k, e = .returned (.tuple #[.agg #[.int .i64 W, .int .i64 H, .slice (some ⟨k, 0, none⟩) N N], .int .i64 0]) ∧ Row w' k N (f) ∧ Below v.heap.size v w') ∧
      (∀ v, D.In v v.heap.size → Calls Try.prog 27 #[.agg #[.int .i64 W, .int .i64 K, .slice (some ⟨a1, 0, none⟩) W ca1, .slice (some ⟨b1, 0, none⟩) H cb1, .int .i64 K, .int .i64 W, .slice (some ⟨c1, 0, none⟩) (K * W) cc1]] v fun e w' => ∃ k, e = .returned (.tuple #[.agg #[.int .i64 W, .int .i64 H, .slice (some ⟨k, 0, none⟩) N N], .int .i64 0]) ∧ Row w' k N (f) ∧ Below v.heap.size v w')) ∧ Below v.heap.size v w'
theorem flp_row {W H n : Nat} {th : Nat → Int} {f : Nat → Bool} {y s : Nat} (hy : y < H) (hs : s < W) : (flp W H n th f).L ((flp W H n th f).G y) s = f (y * W + s) := by
  obtain ⟨k, h1, h2, h3⟩ := ren_at (rc W f) H y hy
  show f (frn (rc W f) H (ren (rc W f) y).toNat * W + s) = _
  rw [h1]
  have h4 := (rc_eq _ _ _ _).1 h3
  unfold rsm at h4
  rw [decide_eq_true_iff] at h4
  rw [Int.toNat_natCast]
  exact h4 s hs
theorem okgrid_rows {w w' : World} {W H : Nat} {F G : Nat → Bool} {e : Ending} (h : OkGrid w W H F e w') (hc : ∀ i, i < W * H → F i = G i) : ∃ k, e = .returned (.tuple #[.agg #[.int .i64 W, .int .i64 H, .slice (some ⟨k, 0, none⟩) (W * H) (W * H)], .int .i64 0]) ∧ Row w' k (W * H) G ∧ Below w.heap.size w w' := by
  obtain ⟨k, he, _, hr, hb⟩ := h
  exact ⟨k, he, hr.congr hc, hb⟩
theorem lh_of {W H b o cap : Nat} {f : Nat → Bool} {w : World} (hr : Holds w w.heap.size (some ⟨b, o, none⟩) (W * H) f) (hcap : W * H ≤ cap) (hW0 : 1 ≤ W) (hW : W ≤ 8) (hH0 : 1 ≤ H) (hH : H ≤ 64) (hK : nd (rc W f) H ≤ 40) :
    LH W H (W * H) (nd (rc W f) H) f (some ⟨b, o, none⟩) cap w := by
  refine ⟨fun v A' c' hb ht => ?_⟩
  have hwi : wi W (fun i => (i : Int)) W = true := by unfold wi; rw [decide_eq_true_iff]; exact ⟨by omega, fun i hi => ⟨by dsimp only; omega, by dsimp only; omega⟩⟩
  refine (fromlift_ok A' W c' (fun i => (i : Int)) W H b o cap f v ht ((hr.below hb).more hb.size) hcap hW0 (by omega) hH0 hH hK (by omega) hwi).mono ?_
  rintro e w' ⟨a, ca, b', cb, c, cc, he, hrw, hb'⟩
  have hQ := flp_ok hW0 (by omega) hH0 hH hK (show W ≤ 64 by omega) hwi
  refine ⟨a, ca, b', cb, c, cc, he, ⟨(flp W H W (fun i => (i : Int)) f).dr a ca b' cb c cc, rfl, hrw.dr ca cb cc, fun i hi => ?_, fun v h => ?_, fun v h => ?_⟩, hb'⟩
  · obtain ⟨k, h1, _, _⟩ := ren_at (rc W f) H i hi
    show (((ren (rc W f) i).toNat : Nat) : Int) = _
    rw [h1]; rfl
  · refine (weave_ok ((flp W H W (fun i => (i : Int)) f).dr_is a ca b' cb c cc) hQ v h).mono fun e w' h => okgrid_rows h fun i hi => ?_
    have h1 : i % W < W := Nat.mod_lt _ (by omega)
    have h2 : i / W < H := Nat.div_lt_of_lt_mul hi
    have e : (flp W H W (fun i => (i : Int)) f).F (i % W) = i % W := by show (((i % W : Nat) : Int)).toNat = _; rw [Int.toNat_natCast]
    show (flp W H W (fun i => (i : Int)) f).L ((flp W H W (fun i => (i : Int)) f).G (i / W)) ((flp W H W (fun i => (i : Int)) f).F (i % W)) = _
    rw [e, flp_row h2 h1, nat_div_mod]
  · refine (lift_ok ((flp W H W (fun i => (i : Int)) f).dr_is a ca b' cb c cc) hQ v h).mono fun e w' h => okgrid_rows h fun i hi => ?_
    have h1 : i % W < W := Nat.mod_lt _ (by omega)
    have h2 : i / W < H := Nat.div_lt_of_lt_mul hi
    show (flp W H W (fun i => (i : Int)) f).L ((flp W H W (fun i => (i : Int)) f).G (i / W)) (i % W) = _
    rw [flp_row h2 h1, nat_div_mod]

/-- The lifts in their variable. -/
structure GPar (w v : World) (W H : Int) (A : Option Addr) (N cap : Nat) (f : Nat → Bool) : Prop where
  box : Box v w.heap.size W H (.slice A N cap)
  cells : Holds v w.heap.size A N f
  bel : Below w.heap.size w v
theorem GPar.next {w v v' : World} {W H : Int} {A : Option Addr} {N cap : Nat} {f : Nat → Bool} (h : GPar w v W H A N cap f) (hb : Below v.heap.size v v') : GPar w v' W H A N cap f :=
  ⟨h.box.below hb h.box.lt, h.cells.below (hb.mono h.bel.size), h.bel.trans (hb.mono h.bel.size)⟩
theorem GPar.start (w : World) (W H : Int) (A : Option Addr) (N cap : Nat) (f : Nat → Bool) (hr : Holds w w.heap.size A N f) : GPar w (w.alloc (.cells #[.int .i64 W, .int .i64 H, .slice A N cap] 24)) W H A N cap f :=
  ⟨Box.new w W H _, hr.below ((Below.refl _ _).alloc (Nat.le_refl _) _), (Below.refl _ _).alloc (Nat.le_refl _) _⟩

set_option maxHeartbeats 1600000 in
theorem lifts_great (W H : Int) (A : Option Addr) (N cap : Nat) (f : Nat → Bool) (w : World) (hr : Holds w w.heap.size A N f) (hN : 4200 < N) :
    Calls Try.prog 10 #[.agg #[.int .i64 W, .int .i64 H, .slice A N cap]] w fun e w' => e = .returned (.bool true) ∧ Below w.heap.size w w' := by
  have G0 := Lib.hid (GPar.start w W H A N cap f hr)
  clear hr
  go_enter Try.func10, Try.ntmps10
  go_wp2_with fail
  refine (great_yes _ _ _ _ _ _ hN).mono ?_
  rintro e w1 ⟨rfl, hb⟩
  have G1 := Lib.hid (G0.out.next hb)
  clear hb G0
  go_wp2_with fail
  refine (alive_any _).mono ?_
  rintro e w2 ⟨rfl, hb⟩
  have G2 := Lib.hid (G1.out.next hb)
  clear hb G1
  go_wp2
  refine bodyPost_ret (v := .bool true) (by simp [results, Try.results10, go_sem]) rfl ⟨rfl, G2.out.bel⟩

set_option maxHeartbeats 1600000 in
theorem lifts_bad (W H : Int) (A : Option Addr) (N cap : Nat) (f : Nat → Bool) (w : World) (hr : Holds w w.heap.size A N f) (hN : N ≤ 4200) (err : Int) (hx : chk W H N = err) (hne : (err != 0) = true) :
    Calls Try.prog 10 #[.agg #[.int .i64 W, .int .i64 H, .slice A N cap]] w fun e w' => e = .returned (.bool true) ∧ Below w.heap.size w w' := by
  have G0 := Lib.hid (GPar.start w W H A N cap f hr)
  have HX := Lib.hid hx
  clear hr hx
  go_enter Try.func10, Try.ntmps10
  go_wp2_with fail
  refine (great_no _ _ _ _ _ _ hN).mono ?_
  rintro e w1 ⟨rfl, hb⟩
  have G1 := Lib.hid (G0.out.next hb)
  clear hb G0
  obtain ⟨q0, q1, q2, q3, q4, q5, q6⟩ := G1.out.box.all
  go_wp2_with fail
  clear q0 q1 q2 q3 q4 q5 q6
  refine (rgchk_err hN HX.out _).mono ?_
  rintro e w2 ⟨rfl, hb⟩
  have G2 := Lib.hid (G1.out.next hb)
  clear hb G1
  go_wp2_with fail
  refine (alive_any _).mono ?_
  rintro e w3 ⟨rfl, hb⟩
  have G3 := Lib.hid (G2.out.next hb)
  clear hb G2
  go_wp2
  refine bodyPost_ret (v := .bool true) (by simp [results, Try.results10, go_sem]) rfl ⟨rfl, G3.out.bel⟩

set_option maxHeartbeats 1600000 in
theorem lifts_wide (W H : Int) (A : Option Addr) (N cap : Nat) (f : Nat → Bool) (w : World) (hr : Holds w w.heap.size A N f) (hN : N ≤ 4200) (hx : chk W H N = 0) (hW : 8 < W) :
    Calls Try.prog 10 #[.agg #[.int .i64 W, .int .i64 H, .slice A N cap]] w fun e w' => e = .returned (.bool true) ∧ Below w.heap.size w w' := by
  have G0 := Lib.hid (GPar.start w W H A N cap f hr)
  have HX := Lib.hid hx
  have z1 : decide ((8 : Int) < W) = true := by simp [hW]
  clear hr hx
  go_enter Try.func10, Try.ntmps10
  go_wp2_with fail
  refine (great_no _ _ _ _ _ _ hN).mono ?_
  rintro e w1 ⟨rfl, hb⟩
  have G1 := Lib.hid (G0.out.next hb)
  clear hb G0
  obtain ⟨q0, q1, q2, q3, q4, q5, q6⟩ := G1.out.box.all
  go_wp2_with fail
  clear q0 q1 q2 q3 q4 q5 q6
  refine (rgchk_err hN HX.out _).mono ?_
  rintro e w2 ⟨rfl, hb⟩
  have G2 := Lib.hid (G1.out.next hb)
  clear hb G1
  obtain ⟨q0, q1, q2, q3, q4, q5, q6⟩ := G2.out.box.all
  go_wp2_with fail
  clear q0 q1 q2 q3 q4 q5 q6
  refine (alive_any _).mono ?_
  rintro e w3 ⟨rfl, hb⟩
  have G3 := Lib.hid (G2.out.next hb)
  clear hb G2
  go_wp2
  refine bodyPost_ret (v := .bool true) (by simp [results, Try.results10, go_sem]) rfl ⟨rfl, G3.out.bel⟩
end Go.Proofs.Ytbafhdinalapoaa
