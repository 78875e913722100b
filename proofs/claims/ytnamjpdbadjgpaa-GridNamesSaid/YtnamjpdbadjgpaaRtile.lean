/- The reference's Tile. -/
import Derived.Test.YtnamjpdbadjgpaaRefm
import Derived.Deep.RegionHeld3
namespace Go.Proofs.Ytnamjpdbadjgpaa
open Go.RowKit
set_option linter.unusedVariables false
set_option linter.unusedSimpArgs false

set_option maxHeartbeats 800000 in
theorem rtile_err (W H : Int) (A : Option Addr) (n c : Nat) (nx : Int) (ny : Int) (w : World) (err : Int) (hn : n ≤ 4200) (hx : chk W H n = err) (hne : (err != 0) = true) :
    Calls Try.prog 38 #[.agg #[.int .i64 W, .int .i64 H, .slice A n c], .int .i64 nx, .int .i64 ny] w (ErrGrid w err) := by
  have HC := Lib.hid (rchk_err (A := A) (c := c) hn hx)
  clear hx
  go_enter Try.func38, Try.ntmps38
  go_wp2_with fail
  refine (HC.out _).mono ?_
  rintro e w1 ⟨rfl, hb1⟩
  obtain ⟨hbox1, hbox2, hbel1, hsz1⟩ := after2 hb1
  clear hb1
  obtain ⟨q0, q1, q2, q3, q4, q5, q6⟩ := hbox1.all
  go_wp2_with fail
  refine (HC.out _).mono ?_
  rintro e w2 ⟨rfl, hb2⟩
  have hbox3 := hbox2.below hb2 (by omega)
  have hbel2 := hbel1.trans (hb2.mono hbel1.size)
  clear hb2 q0 q1 q2 q3 q4 q5 q6
  obtain ⟨p0, p1, p2, p3, p4, p5, p6⟩ := hbox3.all
  go_wp2
  refine bodyPost_ret (v := .tuple #[.agg #[.int .i64 0, .int .i64 0, .slice none 0 0], .int .i64 err]) (by simp [results, Try.results38, go_sem, p0, p1, p2]) rfl ?_
  exact fin_err (by omega) hbel2

set_option maxHeartbeats 800000 in
theorem rtile_arg1 (W H : Nat) (A : Option Addr) (c : Nat) (nx : Int) (ny : Int) (w : World) (hW0 : 1 ≤ W) (hW : W ≤ 64) (hH0 : 1 ≤ H) (hH : H ≤ 64) (h1 : nx < 1) :
    Calls Try.prog 38 #[.agg #[.int .i64 W, .int .i64 H, .slice A (W * H) c], .int .i64 nx, .int .i64 ny] w (ErrGrid w 2) := by
  go_enter Try.func38, Try.ntmps38
  go_wp2_with fail
  refine (rchk_valid A c _ hW0 hW hH0 hH).mono ?_
  rintro e w1 ⟨rfl, hb1⟩
  obtain ⟨hbox1, hbox2, hbel1, hsz1⟩ := after2 hb1
  clear hb1
  obtain ⟨q0, q1, q2, q3, q4, q5, q6⟩ := hbox1.all
  obtain ⟨p0, p1, p2, p3, p4, p5, p6⟩ := hbox2.all
  go_wp2
  refine bodyPost_ret (v := .tuple #[.agg #[.int .i64 0, .int .i64 0, .slice none 0 0], .int .i64 2]) (by simp [results, Try.results38, go_sem, p0, p1, p2]) rfl ?_
  exact fin_err (by omega) hbel1

set_option maxHeartbeats 800000 in
theorem rtile_arg2 (W H : Nat) (A : Option Addr) (c : Nat) (nx : Int) (ny : Int) (w : World) (hW0 : 1 ≤ W) (hW : W ≤ 64) (hH0 : 1 ≤ H) (hH : H ≤ 64) (h1 : ¬ nx < 1) (h2 : ny < 1) :
    Calls Try.prog 38 #[.agg #[.int .i64 W, .int .i64 H, .slice A (W * H) c], .int .i64 nx, .int .i64 ny] w (ErrGrid w 2) := by
  go_enter Try.func38, Try.ntmps38
  go_wp2_with fail
  refine (rchk_valid A c _ hW0 hW hH0 hH).mono ?_
  rintro e w1 ⟨rfl, hb1⟩
  obtain ⟨hbox1, hbox2, hbel1, hsz1⟩ := after2 hb1
  clear hb1
  obtain ⟨q0, q1, q2, q3, q4, q5, q6⟩ := hbox1.all
  obtain ⟨p0, p1, p2, p3, p4, p5, p6⟩ := hbox2.all
  go_wp2
  refine bodyPost_ret (v := .tuple #[.agg #[.int .i64 0, .int .i64 0, .slice none 0 0], .int .i64 2]) (by simp [results, Try.results38, go_sem, p0, p1, p2]) rfl ?_
  exact fin_err (by omega) hbel1

set_option maxHeartbeats 800000 in
theorem rtile_many1 (W H : Nat) (A : Option Addr) (c : Nat) (nx : Int) (ny : Int) (w : World) (hW0 : 1 ≤ W) (hW : W ≤ 64) (hH0 : 1 ≤ H) (hH : H ≤ 64) (h1 : ¬ nx < 1) (h2 : ¬ ny < 1) (h3 : 64 < nx) :
    Calls Try.prog 38 #[.agg #[.int .i64 W, .int .i64 H, .slice A (W * H) c], .int .i64 nx, .int .i64 ny] w (ErrGrid w 4) := by
  go_enter Try.func38, Try.ntmps38
  go_wp2_with fail
  refine (rchk_valid A c _ hW0 hW hH0 hH).mono ?_
  rintro e w1 ⟨rfl, hb1⟩
  obtain ⟨hbox1, hbox2, hbel1, hsz1⟩ := after2 hb1
  clear hb1
  obtain ⟨q0, q1, q2, q3, q4, q5, q6⟩ := hbox1.all
  obtain ⟨p0, p1, p2, p3, p4, p5, p6⟩ := hbox2.all
  go_wp2
  refine bodyPost_ret (v := .tuple #[.agg #[.int .i64 0, .int .i64 0, .slice none 0 0], .int .i64 4]) (by simp [results, Try.results38, go_sem, p0, p1, p2]) rfl ?_
  exact fin_err (by omega) hbel1

set_option maxHeartbeats 800000 in
theorem rtile_many2 (W H : Nat) (A : Option Addr) (c : Nat) (nx : Int) (ny : Int) (w : World) (hW0 : 1 ≤ W) (hW : W ≤ 64) (hH0 : 1 ≤ H) (hH : H ≤ 64) (h1 : ¬ nx < 1) (h2 : ¬ ny < 1) (h3 : nx ≤ 64) (h4 : 64 < ny) :
    Calls Try.prog 38 #[.agg #[.int .i64 W, .int .i64 H, .slice A (W * H) c], .int .i64 nx, .int .i64 ny] w (ErrGrid w 4) := by
  go_enter Try.func38, Try.ntmps38
  go_wp2_with fail
  refine (rchk_valid A c _ hW0 hW hH0 hH).mono ?_
  rintro e w1 ⟨rfl, hb1⟩
  obtain ⟨hbox1, hbox2, hbel1, hsz1⟩ := after2 hb1
  clear hb1
  obtain ⟨q0, q1, q2, q3, q4, q5, q6⟩ := hbox1.all
  obtain ⟨p0, p1, p2, p3, p4, p5, p6⟩ := hbox2.all
  go_wp2
  refine bodyPost_ret (v := .tuple #[.agg #[.int .i64 0, .int .i64 0, .slice none 0 0], .int .i64 4]) (by simp [results, Try.results38, go_sem, p0, p1, p2]) rfl ?_
  exact fin_err (by omega) hbel1

set_option maxHeartbeats 800000 in
theorem rtile_many3 (W H : Nat) (A : Option Addr) (c : Nat) (nx : Int) (ny : Int) (w : World) (hW0 : 1 ≤ W) (hW : W ≤ 64) (hH0 : 1 ≤ H) (hH : H ≤ 64) (h1 : ¬ nx < 1) (h2 : ¬ ny < 1) (h3 : nx ≤ 64) (h4 : ny ≤ 64) (h5 : 64 < nx * (W : Int)) :
    Calls Try.prog 38 #[.agg #[.int .i64 W, .int .i64 H, .slice A (W * H) c], .int .i64 nx, .int .i64 ny] w (ErrGrid w 4) := by
  have mb := mul_pos_bd (W := nx) (H := (W : Int)) (by omega) (by omega) (by omega) (by omega)
  have mc := mul_pos_bd (W := ny) (H := (H : Int)) (by omega) (by omega) (by omega) (by omega)
  obtain ⟨m1, m2⟩ := mb
  obtain ⟨m3, m4⟩ := mc
  go_enter Try.func38, Try.ntmps38
  go_wp2_with fail
  refine (rchk_valid A c _ hW0 hW hH0 hH).mono ?_
  rintro e w1 ⟨rfl, hb1⟩
  obtain ⟨hbox1, hbox2, hbel1, hsz1⟩ := after2 hb1
  clear hb1
  obtain ⟨q0, q1, q2, q3, q4, q5, q6⟩ := hbox1.all
  obtain ⟨p0, p1, p2, p3, p4, p5, p6⟩ := hbox2.all
  go_wp2
  refine bodyPost_ret (v := .tuple #[.agg #[.int .i64 0, .int .i64 0, .slice none 0 0], .int .i64 4]) (by simp [results, Try.results38, go_sem, p0, p1, p2]) rfl ?_
  exact fin_err (by omega) hbel1

set_option maxHeartbeats 800000 in
theorem rtile_many4 (W H : Nat) (A : Option Addr) (c : Nat) (nx : Int) (ny : Int) (w : World) (hW0 : 1 ≤ W) (hW : W ≤ 64) (hH0 : 1 ≤ H) (hH : H ≤ 64) (h1 : ¬ nx < 1) (h2 : ¬ ny < 1) (h3 : nx ≤ 64) (h4 : ny ≤ 64) (h5 : nx * (W : Int) ≤ 64) (h6 : 64 < ny * (H : Int)) :
    Calls Try.prog 38 #[.agg #[.int .i64 W, .int .i64 H, .slice A (W * H) c], .int .i64 nx, .int .i64 ny] w (ErrGrid w 4) := by
  have mb := mul_pos_bd (W := nx) (H := (W : Int)) (by omega) (by omega) (by omega) (by omega)
  have mc := mul_pos_bd (W := ny) (H := (H : Int)) (by omega) (by omega) (by omega) (by omega)
  obtain ⟨m1, m2⟩ := mb
  obtain ⟨m3, m4⟩ := mc
  go_enter Try.func38, Try.ntmps38
  go_wp2_with fail
  refine (rchk_valid A c _ hW0 hW hH0 hH).mono ?_
  rintro e w1 ⟨rfl, hb1⟩
  obtain ⟨hbox1, hbox2, hbel1, hsz1⟩ := after2 hb1
  clear hb1
  obtain ⟨q0, q1, q2, q3, q4, q5, q6⟩ := hbox1.all
  obtain ⟨p0, p1, p2, p3, p4, p5, p6⟩ := hbox2.all
  go_wp2
  refine bodyPost_ret (v := .tuple #[.agg #[.int .i64 0, .int .i64 0, .slice none 0 0], .int .i64 4]) (by simp [results, Try.results38, go_sem, p0, p1, p2]) rfl ?_
  exact fin_err (by omega) hbel1

set_option maxHeartbeats 800000 in
theorem rtile_ok (W H : Nat) (A : Option Addr) (c : Nat) (f : Nat → Bool) (nx ny V U : Nat) (w : World) (hr : Holds w w.heap.size A (W * H) f) (hW0 : 1 ≤ W) (hW : W ≤ 64) (hH0 : 1 ≤ H) (hH : H ≤ 64) (h1 : 1 ≤ nx) (h2 : 1 ≤ ny) (eV : nx * W = V) (eU : ny * H = U) (h3 : V ≤ 64) (h4 : U ≤ 64) (h7 : 1 ≤ V) :
    Calls Try.prog 38 #[.agg #[.int .i64 W, .int .i64 H, .slice A (W * H) c], .int .i64 nx, .int .i64 ny] w (OkGrid w V U fun i => (fun x y => f (y % H * W + x % W)) (i % V) (i / V)) := by
  have HR := Lib.hid hr
  clear hr
  have EV : (nx : Int) * (W : Int) = (V : Int) := by rw [← eV]; simp
  have EU : (ny : Int) * (H : Int) = (U : Int) := by rw [← eU]; simp
  have k3 : (nx : Int) * (W : Int) ≤ 64 := by omega
  have k4 : (ny : Int) * (H : Int) ≤ 64 := by omega
  have k5 : 0 ≤ (nx : Int) * (W : Int) := by omega
  have k6 : 0 ≤ (ny : Int) * (H : Int) := by omega
  have k7 : (nx : Int) ≤ 64 := by have := Nat.le_mul_of_pos_right nx hW0; omega
  have k8 : (ny : Int) ≤ 64 := by have := Nat.le_mul_of_pos_right ny hH0; omega
  have EV' := Lib.hid EV
  have EU' := Lib.hid EU
  clear EV EU eV eU
  go_enter Try.func38, Try.ntmps38
  go_wp2_with fail
  refine (rchk_valid A c _ hW0 hW hH0 hH).mono ?_
  rintro e w1 ⟨rfl, hb1⟩
  obtain ⟨hbox1, hbox2, hbel1, hsz1⟩ := after2 hb1
  clear hb1
  obtain ⟨q0, q1, q2, q3, q4, q5, q6⟩ := hbox1.all
  go_wp2_with fail
  refine (zero_int _ _ V U (by first | exact EV'.out | rfl) (by first | exact EU'.out | rfl) h3 h4 _).mono ?_
  rintro e w2 ⟨k, rfl, hk, hrow, hb⟩
  have R0 := Lib.hid (⟨(hbox1.below hb (by omega)).alloc _, (hbox2.below hb (by omega)).alloc _, Box.new w2 V U _, (hrow.alloc _).congr (fun i _ => by rw [cp_zero]),
    HR.out.below ((hbel1.trans (hb.mono hbel1.size)).alloc (Nat.le_trans hbel1.size hb.size) _), (hbel1.trans (hb.mono hbel1.size)).alloc (Nat.le_trans hbel1.size hb.size) _, by omega, by omega, hrow.lt⟩ :
    DR w (w2.alloc (.cells #[.int .i64 V, .int .i64 U, .slice (some ⟨k, 0, none⟩) (V * U) (V * U)] 24)) W H A c f (w.heap.size + 1) w2.heap.size k V U (cp (· % V) (· / V) (fun x y => f (y % H * W + x % W)) 0 0))
  clear hbox1 hbox2 hbel1 hb hrow q0 q1 q2 q3 q4 q5 q6
  have R00 := R0.out
  obtain ⟨q0, q1, q2, q3, q4, q5⟩ := R00.six
  clear R00
  go_wp2
  clear q0 q1 q2 q3 q4 q5
  go_loopw [9] (fun i wr => ∃ x : Nat, x ≤ V ∧ i = .int .i64 x ∧ DR w wr W H A c f (w.heap.size + 1) w2.heap.size k V U (cp (· % V) (· / V) (fun x y => f (y % H * W + x % W)) x 0)) (fun i _ => V - (intOf i).toNat)
  case atStart => exact ⟨0, Nat.zero_le _, rfl, R0.out⟩
  case round =>
    obtain ⟨x, hx, rfl, R⟩ := hrel
    obtain ⟨wo, rfl⟩ : ∃ wo : World, wo = wr := ⟨_, rfl⟩
    obtain ⟨q0, q1, q2, q3, q4, q5⟩ := R.six
    by_cases hlx : x < V
    · have R1 := Lib.hid R
      clear R
      go_wp2
      clear q0 q1 q2 q3 q4 q5
      go_loopw [10] (fun i wr => ∃ y : Nat, y ≤ U ∧ i = .int .i64 y ∧ DR w wr W H A c f (w.heap.size + 1) w2.heap.size k V U (cp (· % V) (· / V) (fun x y => f (y % H * W + x % W)) x y)) (fun i _ => U - (intOf i).toNat)
      case atStart => exact ⟨0, Nat.zero_le _, rfl, R1.out⟩
      case round =>
        obtain ⟨y, hy, rfl, R⟩ := hrel
        obtain ⟨q0, q1, q2, q3, q4, q5⟩ := R.six
        have R2 := Lib.hid R
        clear R
        by_cases hly : y < U
        · have HK := Lib.hid (fun w' (h : Below wr.heap.size wr w') => (R2.out.next h).six)
          have z1 : ¬ W = 0 := by omega
          have z2 : ¬ H = 0 := by omega
          have HA := Lib.hid (fun w' (h : Below wr.heap.size wr w') => at_nat W H A c ((x : Int) % (W : Int)) ((y : Int) % (H : Int)) f w' w.heap.size (R2.out.next h).cells (Nat.le_trans R2.out.bel.size h.size) hW hH (x % W) (y % H) (by simp) (by simp) (Nat.mod_lt _ (by omega)) (Nat.mod_lt _ (by omega)))
          have z3 : (x : Int).tmod (W : Int) = (x : Int) % (W : Int) := Int.tmod_eq_emod_of_nonneg (by omega)
          have z4 : (y : Int).tmod (H : Int) = (y : Int) % (H : Int) := Int.tmod_eq_emod_of_nonneg (by omega)
          go_wp2
          go_region_held3 (fun w' => w'.cell? ⟨w.heap.size, 0, none⟩ = some (.int .i64 W) ∧ w'.cell? ⟨w.heap.size, 1, none⟩ = some (.int .i64 H) ∧ w'.cell? ⟨w.heap.size, 2, none⟩ = some (.slice A (W * H) c) ∧ w'.cell? ⟨w2.heap.size, 0, none⟩ = some (.int .i64 V) ∧ w'.cell? ⟨w2.heap.size, 1, none⟩ = some (.int .i64 U) ∧ w'.cell? ⟨w2.heap.size, 2, none⟩ = some (.slice (some ⟨k, 0, none⟩) (V * U) (V * U)))
            (first
              | exact hS3
              | exact HK.out _ hb2'
              | exact HK.out _ (Below.refl _ _).drew)
            (first
              | (go_at_call 61
                 refine (HA.out _ (Below.refl _ _).drew).mono ?_
                 rintro e w3 ⟨rfl, hb2⟩
                 have hb2' : Below wr.heap.size wr w3 := (Below.refl _ _).drew.trans hb2)
              | (go_at_call 66
                 refine (set_nat V U k (V * U) x y _ _ _ (R2.out.next hb2').row h3 h4 x y rfl rfl hlx hly).mono ?_
                 rintro e w4 ⟨rfl, hr3, hb3⟩
                 have hR3 := Lib.hid ((R2.out.next hb2').but hb3 hr3)
                 have hS3 := hR3.out.six))
          go_wp2
          exact ⟨⟨y + 1, by omega, by go_num, hR3.out.congr fun i hi => cp_succ (plain_at hlx hi)⟩, by simp [intOf]; omega⟩
        · have e : y = U := by omega
          subst e
          go_wp2
          exact ⟨⟨x + 1, by omega, by go_num, R2.out.congr fun i hi => cp_next (div_bd hi)⟩, by simp [intOf]; omega⟩
    · have e : x = V := by omega
      subst e
      obtain ⟨p0, p1, p2, p3, p4, p5, p6⟩ := R.res.all
      have R1 := Lib.hid R
      clear R
      go_wp2
      refine bodyPost_ret (v := .tuple #[.agg #[.int .i64 x, .int .i64 U, .slice (some ⟨k, 0, none⟩) (x * U) (x * U)], .int .i64 0]) (by simp [results, Try.results38, go_sem, p0, p1, p2]) rfl ?_
      have s1 := R1.out.s1
      exact fin_ok (by omega) (by omega) (R1.out.row.congr fun i hi => cp_all (Nat.mod_lt _ (by omega))) R1.out.bel
end Go.Proofs.Ytnamjpdbadjgpaa
