/- The reference's Part. -/
import Derived.Test.YtjbofdgdcnfmoaaRefm
import Derived.Deep.RegionHeld3
namespace Go.Proofs.Ytjbofdgdcnfmoaa
open Go.RowKit
set_option maxRecDepth 100000
set_option linter.unusedVariables false
set_option linter.unusedSimpArgs false

set_option maxHeartbeats 800000 in
theorem rpart_err (W H : Int) (A : Option Addr) (n c : Nat) (px : Int) (py : Int) (pw : Int) (ph : Int) (w : World) (err : Int) (hn : n ≤ 4200) (hx : chk W H n = err) (hne : (err != 0) = true) :
    Calls Try.prog 108 #[.agg #[.int .i64 W, .int .i64 H, .slice A n c], .int .i64 px, .int .i64 py, .int .i64 pw, .int .i64 ph] w (ErrGrid w err) := by
  have HC := Lib.hid (rchk_err (A := A) (c := c) hn hx)
  clear hx
  go_enter Try.func108, Try.ntmps108
  go_wp2_with fail
  refine (HC.out _).mono ?_
  rintro e w1 ⟨rfl, hb1⟩
  obtain ⟨hbox1, hbox2, hbel1, hsz1⟩ := after2 hb1
  clear hb1
  obtain ⟨q0, q1, q2, q3, q4, q5, q6⟩ := hbox1.all
  go_wp2_with fail
  refine (HC.out _).mono ?_
  rintro e w2 ⟨rfl, hb2⟩
  have hbox3 := hbox2.below hb2 (by omega)
  have hbel2 := hbel1.trans (hb2.mono hbel1.size)
  clear hb2 q0 q1 q2 q3 q4 q5 q6
  obtain ⟨p0, p1, p2, p3, p4, p5, p6⟩ := hbox3.all
  go_wp2
  refine bodyPost_ret (v := .tuple #[.agg #[.int .i64 0, .int .i64 0, .slice none 0 0], .int .i64 err]) (by simp [results, Try.results108, go_sem, p0, p1, p2]) rfl ?_
  exact fin_err (by omega) hbel2

set_option maxHeartbeats 800000 in
theorem rpart_arg0 (W H : Nat) (A : Option Addr) (c : Nat) (px : Int) (py : Int) (pw : Int) (ph : Int) (w : World) (hW0 : 1 ≤ W) (hW : W ≤ 64) (hH0 : 1 ≤ H) (hH : H ≤ 64) (h0 : px < 0) :
    Calls Try.prog 108 #[.agg #[.int .i64 W, .int .i64 H, .slice A (W * H) c], .int .i64 px, .int .i64 py, .int .i64 pw, .int .i64 ph] w (ErrGrid w 2) := by
  go_enter Try.func108, Try.ntmps108
  go_wp2_with fail
  refine (rchk_valid A c _ hW0 hW hH0 hH).mono ?_
  rintro e w1 ⟨rfl, hb1⟩
  obtain ⟨hbox1, hbox2, hbel1, hsz1⟩ := after2 hb1
  clear hb1
  obtain ⟨q0, q1, q2, q3, q4, q5, q6⟩ := hbox1.all
  obtain ⟨p0, p1, p2, p3, p4, p5, p6⟩ := hbox2.all
  go_wp2
  refine bodyPost_ret (v := .tuple #[.agg #[.int .i64 0, .int .i64 0, .slice none 0 0], .int .i64 2]) (by simp [results, Try.results108, go_sem, p0, p1, p2]) rfl ?_
  exact fin_err (by omega) hbel1

set_option maxHeartbeats 800000 in
theorem rpart_arg1 (W H : Nat) (A : Option Addr) (c : Nat) (px : Int) (py : Int) (pw : Int) (ph : Int) (w : World) (hW0 : 1 ≤ W) (hW : W ≤ 64) (hH0 : 1 ≤ H) (hH : H ≤ 64) (h0 : 0 ≤ px) (h1 : (W : Int) ≤ px) :
    Calls Try.prog 108 #[.agg #[.int .i64 W, .int .i64 H, .slice A (W * H) c], .int .i64 px, .int .i64 py, .int .i64 pw, .int .i64 ph] w (ErrGrid w 2) := by
  go_enter Try.func108, Try.ntmps108
  go_wp2_with fail
  refine (rchk_valid A c _ hW0 hW hH0 hH).mono ?_
  rintro e w1 ⟨rfl, hb1⟩
  obtain ⟨hbox1, hbox2, hbel1, hsz1⟩ := after2 hb1
  clear hb1
  obtain ⟨q0, q1, q2, q3, q4, q5, q6⟩ := hbox1.all
  obtain ⟨p0, p1, p2, p3, p4, p5, p6⟩ := hbox2.all
  go_wp2
  refine bodyPost_ret (v := .tuple #[.agg #[.int .i64 0, .int .i64 0, .slice none 0 0], .int .i64 2]) (by simp [results, Try.results108, go_sem, p0, p1, p2]) rfl ?_
  exact fin_err (by omega) hbel1

set_option maxHeartbeats 800000 in
theorem rpart_arg2 (W H : Nat) (A : Option Addr) (c : Nat) (px : Int) (py : Int) (pw : Int) (ph : Int) (w : World) (hW0 : 1 ≤ W) (hW : W ≤ 64) (hH0 : 1 ≤ H) (hH : H ≤ 64) (h0 : 0 ≤ px) (h1 : px < (W : Int)) (h2 : py < 0) :
    Calls Try.prog 108 #[.agg #[.int .i64 W, .int .i64 H, .slice A (W * H) c], .int .i64 px, .int .i64 py, .int .i64 pw, .int .i64 ph] w (ErrGrid w 2) := by
  go_enter Try.func108, Try.ntmps108
  go_wp2_with fail
  refine (rchk_valid A c _ hW0 hW hH0 hH).mono ?_
  rintro e w1 ⟨rfl, hb1⟩
  obtain ⟨hbox1, hbox2, hbel1, hsz1⟩ := after2 hb1
  clear hb1
  obtain ⟨q0, q1, q2, q3, q4, q5, q6⟩ := hbox1.all
  obtain ⟨p0, p1, p2, p3, p4, p5, p6⟩ := hbox2.all
  go_wp2
  refine bodyPost_ret (v := .tuple #[.agg #[.int .i64 0, .int .i64 0, .slice none 0 0], .int .i64 2]) (by simp [results, Try.results108, go_sem, p0, p1, p2]) rfl ?_
  exact fin_err (by omega) hbel1

set_option maxHeartbeats 800000 in
theorem rpart_arg3 (W H : Nat) (A : Option Addr) (c : Nat) (px : Int) (py : Int) (pw : Int) (ph : Int) (w : World) (hW0 : 1 ≤ W) (hW : W ≤ 64) (hH0 : 1 ≤ H) (hH : H ≤ 64) (h0 : 0 ≤ px) (h1 : px < (W : Int)) (h2 : 0 ≤ py) (h3 : (H : Int) ≤ py) :
    Calls Try.prog 108 #[.agg #[.int .i64 W, .int .i64 H, .slice A (W * H) c], .int .i64 px, .int .i64 py, .int .i64 pw, .int .i64 ph] w (ErrGrid w 2) := by
  go_enter Try.func108, Try.ntmps108
  go_wp2_with fail
  refine (rchk_valid A c _ hW0 hW hH0 hH).mono ?_
  rintro e w1 ⟨rfl, hb1⟩
  obtain ⟨hbox1, hbox2, hbel1, hsz1⟩ := after2 hb1
  clear hb1
  obtain ⟨q0, q1, q2, q3, q4, q5, q6⟩ := hbox1.all
  obtain ⟨p0, p1, p2, p3, p4, p5, p6⟩ := hbox2.all
  go_wp2
  refine bodyPost_ret (v := .tuple #[.agg #[.int .i64 0, .int .i64 0, .slice none 0 0], .int .i64 2]) (by simp [results, Try.results108, go_sem, p0, p1, p2]) rfl ?_
  exact fin_err (by omega) hbel1

set_option maxHeartbeats 800000 in
theorem rpart_arg4 (W H : Nat) (A : Option Addr) (c : Nat) (px : Int) (py : Int) (pw : Int) (ph : Int) (w : World) (hW0 : 1 ≤ W) (hW : W ≤ 64) (hH0 : 1 ≤ H) (hH : H ≤ 64) (h0 : 0 ≤ px) (h1 : px < (W : Int)) (h2 : 0 ≤ py) (h3 : py < (H : Int)) (h4 : pw < 1) :
    Calls Try.prog 108 #[.agg #[.int .i64 W, .int .i64 H, .slice A (W * H) c], .int .i64 px, .int .i64 py, .int .i64 pw, .int .i64 ph] w (ErrGrid w 2) := by
  go_enter Try.func108, Try.ntmps108
  go_wp2_with fail
  refine (rchk_valid A c _ hW0 hW hH0 hH).mono ?_
  rintro e w1 ⟨rfl, hb1⟩
  obtain ⟨hbox1, hbox2, hbel1, hsz1⟩ := after2 hb1
  clear hb1
  obtain ⟨q0, q1, q2, q3, q4, q5, q6⟩ := hbox1.all
  obtain ⟨p0, p1, p2, p3, p4, p5, p6⟩ := hbox2.all
  go_wp2
  refine bodyPost_ret (v := .tuple #[.agg #[.int .i64 0, .int .i64 0, .slice none 0 0], .int .i64 2]) (by simp [results, Try.results108, go_sem, p0, p1, p2]) rfl ?_
  exact fin_err (by omega) hbel1

set_option maxHeartbeats 800000 in
theorem rpart_arg5 (W H : Nat) (A : Option Addr) (c : Nat) (px : Int) (py : Int) (pw : Int) (ph : Int) (w : World) (hW0 : 1 ≤ W) (hW : W ≤ 64) (hH0 : 1 ≤ H) (hH : H ≤ 64) (h0 : 0 ≤ px) (h1 : px < (W : Int)) (h2 : 0 ≤ py) (h3 : py < (H : Int)) (h4 : 1 ≤ pw) (h5 : (W : Int) - px < pw) :
    Calls Try.prog 108 #[.agg #[.int .i64 W, .int .i64 H, .slice A (W * H) c], .int .i64 px, .int .i64 py, .int .i64 pw, .int .i64 ph] w (ErrGrid w 2) := by
  go_enter Try.func108, Try.ntmps108
  go_wp2_with fail
  refine (rchk_valid A c _ hW0 hW hH0 hH).mono ?_
  rintro e w1 ⟨rfl, hb1⟩
  obtain ⟨hbox1, hbox2, hbel1, hsz1⟩ := after2 hb1
  clear hb1
  obtain ⟨q0, q1, q2, q3, q4, q5, q6⟩ := hbox1.all
  obtain ⟨p0, p1, p2, p3, p4, p5, p6⟩ := hbox2.all
  go_wp2
  refine bodyPost_ret (v := .tuple #[.agg #[.int .i64 0, .int .i64 0, .slice none 0 0], .int .i64 2]) (by simp [results, Try.results108, go_sem, p0, p1, p2]) rfl ?_
  exact fin_err (by omega) hbel1

set_option maxHeartbeats 800000 in
theorem rpart_arg6 (W H : Nat) (A : Option Addr) (c : Nat) (px : Int) (py : Int) (pw : Int) (ph : Int) (w : World) (hW0 : 1 ≤ W) (hW : W ≤ 64) (hH0 : 1 ≤ H) (hH : H ≤ 64) (h0 : 0 ≤ px) (h1 : px < (W : Int)) (h2 : 0 ≤ py) (h3 : py < (H : Int)) (h4 : 1 ≤ pw) (h5 : pw ≤ (W : Int) - px) (h6 : ph < 1) :
    Calls Try.prog 108 #[.agg #[.int .i64 W, .int .i64 H, .slice A (W * H) c], .int .i64 px, .int .i64 py, .int .i64 pw, .int .i64 ph] w (ErrGrid w 2) := by
  go_enter Try.func108, Try.ntmps108
  go_wp2_with fail
  refine (rchk_valid A c _ hW0 hW hH0 hH).mono ?_
  rintro e w1 ⟨rfl, hb1⟩
  obtain ⟨hbox1, hbox2, hbel1, hsz1⟩ := after2 hb1
  clear hb1
  obtain ⟨q0, q1, q2, q3, q4, q5, q6⟩ := hbox1.all
  obtain ⟨p0, p1, p2, p3, p4, p5, p6⟩ := hbox2.all
  go_wp2
  refine bodyPost_ret (v := .tuple #[.agg #[.int .i64 0, .int .i64 0, .slice none 0 0], .int .i64 2]) (by simp [results, Try.results108, go_sem, p0, p1, p2]) rfl ?_
  exact fin_err (by omega) hbel1

set_option maxHeartbeats 800000 in
theorem rpart_arg7 (W H : Nat) (A : Option Addr) (c : Nat) (px : Int) (py : Int) (pw : Int) (ph : Int) (w : World) (hW0 : 1 ≤ W) (hW : W ≤ 64) (hH0 : 1 ≤ H) (hH : H ≤ 64) (h0 : 0 ≤ px) (h1 : px < (W : Int)) (h2 : 0 ≤ py) (h3 : py < (H : Int)) (h4 : 1 ≤ pw) (h5 : pw ≤ (W : Int) - px) (h6 : 1 ≤ ph) (h7 : (H : Int) - py < ph) :
    Calls Try.prog 108 #[.agg #[.int .i64 W, .int .i64 H, .slice A (W * H) c], .int .i64 px, .int .i64 py, .int .i64 pw, .int .i64 ph] w (ErrGrid w 2) := by
  go_enter Try.func108, Try.ntmps108
  go_wp2_with fail
  refine (rchk_valid A c _ hW0 hW hH0 hH).mono ?_
  rintro e w1 ⟨rfl, hb1⟩
  obtain ⟨hbox1, hbox2, hbel1, hsz1⟩ := after2 hb1
  clear hb1
  obtain ⟨q0, q1, q2, q3, q4, q5, q6⟩ := hbox1.all
  obtain ⟨p0, p1, p2, p3, p4, p5, p6⟩ := hbox2.all
  go_wp2
  refine bodyPost_ret (v := .tuple #[.agg #[.int .i64 0, .int .i64 0, .slice none 0 0], .int .i64 2]) (by simp [results, Try.results108, go_sem, p0, p1, p2]) rfl ?_
  exact fin_err (by omega) hbel1

set_option maxHeartbeats 800000 in
theorem rpart_ok (W H : Nat) (A : Option Addr) (c : Nat) (f : Nat → Bool) (px py pw ph : Nat) (w : World) (hr : Holds w w.heap.size A (W * H) f) (hW0 : 1 ≤ W) (hW : W ≤ 64) (hH0 : 1 ≤ H) (hH : H ≤ 64) (h2 : 1 ≤ pw) (h3 : px + pw ≤ W) (h4 : 1 ≤ ph) (h5 : py + ph ≤ H) :
    Calls Try.prog 108 #[.agg #[.int .i64 W, .int .i64 H, .slice A (W * H) c], .int .i64 px, .int .i64 py, .int .i64 pw, .int .i64 ph] w (OkGrid w pw ph fun i => (fun x y => f ((py + y) * W + (px + x))) (i % pw) (i / pw)) := by
  have HR := Lib.hid hr
  clear hr
  go_enter Try.func108, Try.ntmps108
  go_wp2_with fail
  refine (rchk_valid A c _ hW0 hW hH0 hH).mono ?_
  rintro e w1 ⟨rfl, hb1⟩
  obtain ⟨hbox1, hbox2, hbel1, hsz1⟩ := after2 hb1
  clear hb1
  obtain ⟨q0, q1, q2, q3, q4, q5, q6⟩ := hbox1.all
  go_wp2_with fail
  refine (zero_int _ _ pw ph (rfl) (rfl) (by omega) (by omega) _).mono ?_
  rintro e w2 ⟨k, rfl, hk, hrow, hb⟩
  have R0 := Lib.hid (⟨(hbox1.below hb (by omega)).alloc _, (hbox2.below hb (by omega)).alloc _, Box.new w2 pw ph _, (hrow.alloc _).congr (fun i _ => by rw [cp_zero]),
    HR.out.below ((hbel1.trans (hb.mono hbel1.size)).alloc (Nat.le_trans hbel1.size hb.size) _), (hbel1.trans (hb.mono hbel1.size)).alloc (Nat.le_trans hbel1.size hb.size) _, by omega, by omega, hrow.lt⟩ :
    DR w (w2.alloc (.cells #[.int .i64 pw, .int .i64 ph, .slice (some ⟨k, 0, none⟩) (pw * ph) (pw * ph)] 24)) W H A c f (w.heap.size + 1) w2.heap.size k pw ph (cp (· % pw) (· / pw) (fun x y => f ((py + y) * W + (px + x))) 0 0))
  clear hbox1 hbox2 hbel1 hb hrow q0 q1 q2 q3 q4 q5 q6
  have R00 := R0.out
  obtain ⟨q0, q1, q2, q3, q4, q5⟩ := R00.six
  clear R00
  go_wp2
  clear q0 q1 q2 q3 q4 q5
  go_loopw [13] (fun i wr => ∃ x : Nat, x ≤ pw ∧ i = .int .i64 x ∧ DR w wr W H A c f (w.heap.size + 1) w2.heap.size k pw ph (cp (· % pw) (· / pw) (fun x y => f ((py + y) * W + (px + x))) x 0)) (fun i _ => pw - (intOf i).toNat)
  case atStart => exact ⟨0, Nat.zero_le _, rfl, R0.out⟩
  case round =>
    obtain ⟨x, hx, rfl, R⟩ := hrel
    obtain ⟨wo, rfl⟩ : ∃ wo : World, wo = wr := ⟨_, rfl⟩
    obtain ⟨q0, q1, q2, q3, q4, q5⟩ := R.six
    by_cases hlx : x < pw
    · have R1 := Lib.hid R
      clear R
      go_wp2
      clear q0 q1 q2 q3 q4 q5
      go_loopw [14] (fun i wr => ∃ y : Nat, y ≤ ph ∧ i = .int .i64 y ∧ DR w wr W H A c f (w.heap.size + 1) w2.heap.size k pw ph (cp (· % pw) (· / pw) (fun x y => f ((py + y) * W + (px + x))) x y)) (fun i _ => ph - (intOf i).toNat)
      case atStart => exact ⟨0, Nat.zero_le _, rfl, R1.out⟩
      case round =>
        obtain ⟨y, hy, rfl, R⟩ := hrel
        obtain ⟨q0, q1, q2, q3, q4, q5⟩ := R.six
        have R2 := Lib.hid R
        clear R
        by_cases hly : y < ph
        · have HK := Lib.hid (fun w' (h : Below wr.heap.size wr w') => (R2.out.next h).six)
          have HA := Lib.hid (fun w' (h : Below wr.heap.size wr w') => at_nat W H A c ((px : Int) + (x : Int)) ((py : Int) + (y : Int)) f w' w.heap.size (R2.out.next h).cells (Nat.le_trans R2.out.bel.size h.size) hW hH (px + x) (py + y) (by omega) (by omega) (by omega) (by omega))
          have e0 : IntKind.i64.wrap ((px : Int) + (x : Int)) = (px : Int) + (x : Int) := IntWalk.i64_in _ (by omega)
          have e1 : IntKind.i64.wrap ((py : Int) + (y : Int)) = (py : Int) + (y : Int) := IntWalk.i64_in _ (by omega)
          go_wp2
          go_region_held3 (fun w' => w'.cell? ⟨w.heap.size, 0, none⟩ = some (.int .i64 W) ∧ w'.cell? ⟨w.heap.size, 1, none⟩ = some (.int .i64 H) ∧ w'.cell? ⟨w.heap.size, 2, none⟩ = some (.slice A (W * H) c) ∧ w'.cell? ⟨w2.heap.size, 0, none⟩ = some (.int .i64 pw) ∧ w'.cell? ⟨w2.heap.size, 1, none⟩ = some (.int .i64 ph) ∧ w'.cell? ⟨w2.heap.size, 2, none⟩ = some (.slice (some ⟨k, 0, none⟩) (pw * ph) (pw * ph)))
            (first
              | exact hS3
              | exact HK.out _ hb2'
              | exact HK.out _ (Below.refl _ _).drew)
            (first
              | (go_at_call 116
                 refine (HA.out _ (Below.refl _ _).drew).mono ?_
                 rintro e w3 ⟨rfl, hb2⟩
                 have hb2' : Below wr.heap.size wr w3 := (Below.refl _ _).drew.trans hb2)
              | (go_at_call 80
                 refine (set_nat pw ph k (pw * ph) x y _ _ _ (R2.out.next hb2').row (by omega) (by omega) x y rfl rfl hlx hly).mono ?_
                 rintro e w4 ⟨rfl, hr3, hb3⟩
                 have hR3 := Lib.hid ((R2.out.next hb2').but hb3 hr3)
                 have hS3 := hR3.out.six))
          clear e0 e1
          go_wp2
          exact ⟨⟨y + 1, by omega, by go_num, hR3.out.congr fun i hi => cp_succ (plain_at hlx hi)⟩, by simp [intOf]; omega⟩
        · have e : y = ph := by omega
          subst e
          go_wp2
          exact ⟨⟨x + 1, by omega, by go_num, R2.out.congr fun i hi => cp_next (div_bd hi)⟩, by simp [intOf]; omega⟩
    · have e : x = pw := by omega
      subst e
      obtain ⟨p0, p1, p2, p3, p4, p5, p6⟩ := R.res.all
      have R1 := Lib.hid R
      clear R
      go_wp2
      refine bodyPost_ret (v := .tuple #[.agg #[.int .i64 x, .int .i64 ph, .slice (some ⟨k, 0, none⟩) (x * ph) (x * ph)], .int .i64 0]) (by simp [results, Try.results108, go_sem, p0, p1, p2]) rfl ?_
      have s1 := R1.out.s1
      exact fin_ok (by omega) (by omega) (R1.out.row.congr fun i hi => cp_all (Nat.mod_lt _ (by omega))) R1.out.bel
end Go.Proofs.Ytjbofdgdcnfmoaa
