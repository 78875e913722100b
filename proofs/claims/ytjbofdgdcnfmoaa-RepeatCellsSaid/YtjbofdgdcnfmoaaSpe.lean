/- The errors of Spread by both sides. -/
import Derived.Test.YtjbofdgdcnfmoaaTwo
import Derived.Test.YtjbofdgdcnfmoaaCel
namespace Go.Proofs.Ytjbofdgdcnfmoaa
open Go.RowKit
set_option maxRecDepth 100000
set_option linter.unusedVariables false
set_option linter.unusedSimpArgs false

set_option maxHeartbeats 800000 in
theorem psp_err (W H : Int) (A : Option Addr) (n c : Nat) (b u v : Int) (w : World) (hn : n ≤ 4200) (z : Int) (hx : chk W H n = z) (hne : (z != 0) = true) :
    Calls Try.prog 21 #[.agg #[.int .i64 W, .int .i64 H, .slice A n c], .int .i64 b, .int .i64 u, .int .i64 v] w (ErrGrid w z) := by
  have HC := Lib.hid (chk_err (A := A) (c := c) hn hx)
  clear hx
  go_enter Try.func21, Try.ntmps21
  go_wp2_with fail
  refine (HC.out _).mono ?_
  rintro e w1 ⟨rfl, hb1⟩
  obtain ⟨hbox1, hbox2, hbel1, hsz1⟩ := after2 hb1
  clear hb1
  obtain ⟨q0, q1, q2, q3, q4, q5, q6⟩ := hbox1.all
  have hbel2 := hbel1
  obtain ⟨p0, p1, p2, p3, p4, p5, p6⟩ := hbox2.all
  go_wp2
  refine bodyPost_ret (v := .tuple #[.agg #[.int .i64 0, .int .i64 0, .slice none 0 0], .int .i64 z]) (by simp [results, Try.results21, go_sem, p0, p1, p2]) rfl ?_
  exact fin_err (by omega) hbel2
set_option maxHeartbeats 800000 in
theorem psp_b0 (W H : Nat) (D : Option Addr) (c : Nat) (b u v : Int) (w : World) (hW0 : 1 ≤ W) (hW : W ≤ 64) (hH0 : 1 ≤ H) (hH : H ≤ 64) (h0 : b < 0) :
    Calls Try.prog 21 #[.agg #[.int .i64 (W : Nat), .int .i64 (H : Nat), .slice D (W * H) c], .int .i64 b, .int .i64 u, .int .i64 v] w (ErrGrid w 2) := by
  go_enter Try.func21, Try.ntmps21
  go_wp2_with fail
  refine (chk_valid D c _ hW0 hW hH0 hH).mono ?_
  rintro e w1 ⟨rfl, hb1⟩
  obtain ⟨hbox1, hbox2, hbel1, hsz1⟩ := after2 hb1
  clear hb1
  obtain ⟨q0, q1, q2, q3, q4, q5, q6⟩ := hbox1.all
  obtain ⟨p0, p1, p2, p3, p4, p5, p6⟩ := hbox2.all
  go_wp2
  refine bodyPost_ret (v := .tuple #[.agg #[.int .i64 0, .int .i64 0, .slice none 0 0], .int .i64 2]) (by simp [results, Try.results21, go_sem, p0, p1, p2]) rfl ?_
  exact fin_err (by omega) hbel1
set_option maxHeartbeats 800000 in
theorem psp_b1 (W H : Nat) (D : Option Addr) (c : Nat) (b u v : Int) (w : World) (hW0 : 1 ≤ W) (hW : W ≤ 64) (hH0 : 1 ≤ H) (hH : H ≤ 64) (h0 : 0 ≤ b) (h1 : (W : Int) ≤ b) :
    Calls Try.prog 21 #[.agg #[.int .i64 (W : Nat), .int .i64 (H : Nat), .slice D (W * H) c], .int .i64 b, .int .i64 u, .int .i64 v] w (ErrGrid w 2) := by
  go_enter Try.func21, Try.ntmps21
  go_wp2_with fail
  refine (chk_valid D c _ hW0 hW hH0 hH).mono ?_
  rintro e w1 ⟨rfl, hb1⟩
  obtain ⟨hbox1, hbox2, hbel1, hsz1⟩ := after2 hb1
  clear hb1
  obtain ⟨q0, q1, q2, q3, q4, q5, q6⟩ := hbox1.all
  obtain ⟨p0, p1, p2, p3, p4, p5, p6⟩ := hbox2.all
  go_wp2
  refine bodyPost_ret (v := .tuple #[.agg #[.int .i64 0, .int .i64 0, .slice none 0 0], .int .i64 2]) (by simp [results, Try.results21, go_sem, p0, p1, p2]) rfl ?_
  exact fin_err (by omega) hbel1
set_option maxHeartbeats 800000 in
theorem psp_u0 (W H : Nat) (D : Option Addr) (c : Nat) (b u v : Int) (w : World) (hW0 : 1 ≤ W) (hW : W ≤ 64) (hH0 : 1 ≤ H) (hH : H ≤ 64) (h0 : 0 ≤ b) (h1 : b < (W : Int)) (h2 : u < 1) :
    Calls Try.prog 21 #[.agg #[.int .i64 (W : Nat), .int .i64 (H : Nat), .slice D (W * H) c], .int .i64 b, .int .i64 u, .int .i64 v] w (ErrGrid w 2) := by
  go_enter Try.func21, Try.ntmps21
  go_wp2_with fail
  refine (chk_valid D c _ hW0 hW hH0 hH).mono ?_
  rintro e w1 ⟨rfl, hb1⟩
  obtain ⟨hbox1, hbox2, hbel1, hsz1⟩ := after2 hb1
  clear hb1
  obtain ⟨q0, q1, q2, q3, q4, q5, q6⟩ := hbox1.all
  obtain ⟨p0, p1, p2, p3, p4, p5, p6⟩ := hbox2.all
  go_wp2
  refine bodyPost_ret (v := .tuple #[.agg #[.int .i64 0, .int .i64 0, .slice none 0 0], .int .i64 2]) (by simp [results, Try.results21, go_sem, p0, p1, p2]) rfl ?_
  exact fin_err (by omega) hbel1
set_option maxHeartbeats 800000 in
theorem psp_v0 (W H : Nat) (D : Option Addr) (c : Nat) (b u v : Int) (w : World) (hW0 : 1 ≤ W) (hW : W ≤ 64) (hH0 : 1 ≤ H) (hH : H ≤ 64) (h0 : 0 ≤ b) (h1 : b < (W : Int)) (h2 : 1 ≤ u) (h3 : v < 1) :
    Calls Try.prog 21 #[.agg #[.int .i64 (W : Nat), .int .i64 (H : Nat), .slice D (W * H) c], .int .i64 b, .int .i64 u, .int .i64 v] w (ErrGrid w 2) := by
  go_enter Try.func21, Try.ntmps21
  go_wp2_with fail
  refine (chk_valid D c _ hW0 hW hH0 hH).mono ?_
  rintro e w1 ⟨rfl, hb1⟩
  obtain ⟨hbox1, hbox2, hbel1, hsz1⟩ := after2 hb1
  clear hb1
  obtain ⟨q0, q1, q2, q3, q4, q5, q6⟩ := hbox1.all
  obtain ⟨p0, p1, p2, p3, p4, p5, p6⟩ := hbox2.all
  go_wp2
  refine bodyPost_ret (v := .tuple #[.agg #[.int .i64 0, .int .i64 0, .slice none 0 0], .int .i64 2]) (by simp [results, Try.results21, go_sem, p0, p1, p2]) rfl ?_
  exact fin_err (by omega) hbel1
set_option maxHeartbeats 800000 in
theorem psp_u1 (W H : Nat) (D : Option Addr) (c : Nat) (b u v : Int) (w : World) (hW0 : 1 ≤ W) (hW : W ≤ 64) (hH0 : 1 ≤ H) (hH : H ≤ 64) (h0 : 0 ≤ b) (h1 : b < (W : Int)) (h2 : 1 ≤ u) (h3 : 1 ≤ v) (h4 : 64 < u) :
    Calls Try.prog 21 #[.agg #[.int .i64 (W : Nat), .int .i64 (H : Nat), .slice D (W * H) c], .int .i64 b, .int .i64 u, .int .i64 v] w (ErrGrid w 4) := by
  go_enter Try.func21, Try.ntmps21
  go_wp2_with fail
  refine (chk_valid D c _ hW0 hW hH0 hH).mono ?_
  rintro e w1 ⟨rfl, hb1⟩
  obtain ⟨hbox1, hbox2, hbel1, hsz1⟩ := after2 hb1
  clear hb1
  obtain ⟨q0, q1, q2, q3, q4, q5, q6⟩ := hbox1.all
  obtain ⟨p0, p1, p2, p3, p4, p5, p6⟩ := hbox2.all
  go_wp2
  refine bodyPost_ret (v := .tuple #[.agg #[.int .i64 0, .int .i64 0, .slice none 0 0], .int .i64 4]) (by simp [results, Try.results21, go_sem, p0, p1, p2]) rfl ?_
  exact fin_err (by omega) hbel1
set_option maxHeartbeats 800000 in
theorem psp_v1 (W H : Nat) (D : Option Addr) (c : Nat) (b u v : Int) (w : World) (hW0 : 1 ≤ W) (hW : W ≤ 64) (hH0 : 1 ≤ H) (hH : H ≤ 64) (h0 : 0 ≤ b) (h1 : b < (W : Int)) (h2 : 1 ≤ u) (h3 : 1 ≤ v) (h4 : u ≤ 64) (h5 : 64 < v) :
    Calls Try.prog 21 #[.agg #[.int .i64 (W : Nat), .int .i64 (H : Nat), .slice D (W * H) c], .int .i64 b, .int .i64 u, .int .i64 v] w (ErrGrid w 4) := by
  go_enter Try.func21, Try.ntmps21
  go_wp2_with fail
  refine (chk_valid D c _ hW0 hW hH0 hH).mono ?_
  rintro e w1 ⟨rfl, hb1⟩
  obtain ⟨hbox1, hbox2, hbel1, hsz1⟩ := after2 hb1
  clear hb1
  obtain ⟨q0, q1, q2, q3, q4, q5, q6⟩ := hbox1.all
  obtain ⟨p0, p1, p2, p3, p4, p5, p6⟩ := hbox2.all
  go_wp2
  refine bodyPost_ret (v := .tuple #[.agg #[.int .i64 0, .int .i64 0, .slice none 0 0], .int .i64 4]) (by simp [results, Try.results21, go_sem, p0, p1, p2]) rfl ?_
  exact fin_err (by omega) hbel1
set_option maxHeartbeats 800000 in
theorem rsp_err (W H : Int) (A : Option Addr) (n c : Nat) (b u v : Int) (w : World) (hn : n ≤ 4200) (z : Int) (hx : chk W H n = z) (hne : (z != 0) = true) :
    Calls Try.prog 36 #[.agg #[.int .i64 W, .int .i64 H, .slice A n c], .int .i64 b, .int .i64 u, .int .i64 v] w (ErrGrid w z) := by
  have HC := Lib.hid (rchk_err (A := A) (c := c) hn hx)
  clear hx
  go_enter Try.func36, Try.ntmps36
  go_wp2_with fail
  refine (HC.out _).mono ?_
  rintro e w1 ⟨rfl, hb1⟩
  obtain ⟨hbox1, hbox2, hbel1, hsz1⟩ := after2 hb1
  clear hb1
  obtain ⟨q0, q1, q2, q3, q4, q5, q6⟩ := hbox1.all
  go_wp2_with fail
  refine (HC.out _).mono ?_
  rintro e w2 ⟨rfl, hb2⟩
  have hbox3 := hbox2.below hb2 (by omega)
  have hbel2 := hbel1.trans (hb2.mono hbel1.size)
  clear hb2 q0 q1 q2 q3 q4 q5 q6
  obtain ⟨p0, p1, p2, p3, p4, p5, p6⟩ := hbox3.all
  go_wp2
  refine bodyPost_ret (v := .tuple #[.agg #[.int .i64 0, .int .i64 0, .slice none 0 0], .int .i64 z]) (by simp [results, Try.results36, go_sem, p0, p1, p2]) rfl ?_
  exact fin_err (by omega) hbel2
set_option maxHeartbeats 800000 in
theorem rsp_b0 (W H : Nat) (D : Option Addr) (c : Nat) (b u v : Int) (w : World) (hW0 : 1 ≤ W) (hW : W ≤ 64) (hH0 : 1 ≤ H) (hH : H ≤ 64) (h0 : b < 0) :
    Calls Try.prog 36 #[.agg #[.int .i64 (W : Nat), .int .i64 (H : Nat), .slice D (W * H) c], .int .i64 b, .int .i64 u, .int .i64 v] w (ErrGrid w 2) := by
  go_enter Try.func36, Try.ntmps36
  go_wp2_with fail
  refine (rchk_valid D c _ hW0 hW hH0 hH).mono ?_
  rintro e w1 ⟨rfl, hb1⟩
  obtain ⟨hbox1, hbox2, hbel1, hsz1⟩ := after2 hb1
  clear hb1
  obtain ⟨q0, q1, q2, q3, q4, q5, q6⟩ := hbox1.all
  obtain ⟨p0, p1, p2, p3, p4, p5, p6⟩ := hbox2.all
  go_wp2
  refine bodyPost_ret (v := .tuple #[.agg #[.int .i64 0, .int .i64 0, .slice none 0 0], .int .i64 2]) (by simp [results, Try.results36, go_sem, p0, p1, p2]) rfl ?_
  exact fin_err (by omega) hbel1
set_option maxHeartbeats 800000 in
theorem rsp_b1 (W H : Nat) (D : Option Addr) (c : Nat) (b u v : Int) (w : World) (hW0 : 1 ≤ W) (hW : W ≤ 64) (hH0 : 1 ≤ H) (hH : H ≤ 64) (h0 : 0 ≤ b) (h1 : (W : Int) ≤ b) :
    Calls Try.prog 36 #[.agg #[.int .i64 (W : Nat), .int .i64 (H : Nat), .slice D (W * H) c], .int .i64 b, .int .i64 u, .int .i64 v] w (ErrGrid w 2) := by
  go_enter Try.func36, Try.ntmps36
  go_wp2_with fail
  refine (rchk_valid D c _ hW0 hW hH0 hH).mono ?_
  rintro e w1 ⟨rfl, hb1⟩
  obtain ⟨hbox1, hbox2, hbel1, hsz1⟩ := after2 hb1
  clear hb1
  obtain ⟨q0, q1, q2, q3, q4, q5, q6⟩ := hbox1.all
  obtain ⟨p0, p1, p2, p3, p4, p5, p6⟩ := hbox2.all
  go_wp2
  refine bodyPost_ret (v := .tuple #[.agg #[.int .i64 0, .int .i64 0, .slice none 0 0], .int .i64 2]) (by simp [results, Try.results36, go_sem, p0, p1, p2]) rfl ?_
  exact fin_err (by omega) hbel1
set_option maxHeartbeats 800000 in
theorem rsp_u0 (W H : Nat) (D : Option Addr) (c : Nat) (b u v : Int) (w : World) (hW0 : 1 ≤ W) (hW : W ≤ 64) (hH0 : 1 ≤ H) (hH : H ≤ 64) (h0 : 0 ≤ b) (h1 : b < (W : Int)) (h2 : u < 1) :
    Calls Try.prog 36 #[.agg #[.int .i64 (W : Nat), .int .i64 (H : Nat), .slice D (W * H) c], .int .i64 b, .int .i64 u, .int .i64 v] w (ErrGrid w 2) := by
  go_enter Try.func36, Try.ntmps36
  go_wp2_with fail
  refine (rchk_valid D c _ hW0 hW hH0 hH).mono ?_
  rintro e w1 ⟨rfl, hb1⟩
  obtain ⟨hbox1, hbox2, hbel1, hsz1⟩ := after2 hb1
  clear hb1
  obtain ⟨q0, q1, q2, q3, q4, q5, q6⟩ := hbox1.all
  obtain ⟨p0, p1, p2, p3, p4, p5, p6⟩ := hbox2.all
  go_wp2
  refine bodyPost_ret (v := .tuple #[.agg #[.int .i64 0, .int .i64 0, .slice none 0 0], .int .i64 2]) (by simp [results, Try.results36, go_sem, p0, p1, p2]) rfl ?_
  exact fin_err (by omega) hbel1
set_option maxHeartbeats 800000 in
theorem rsp_v0 (W H : Nat) (D : Option Addr) (c : Nat) (b u v : Int) (w : World) (hW0 : 1 ≤ W) (hW : W ≤ 64) (hH0 : 1 ≤ H) (hH : H ≤ 64) (h0 : 0 ≤ b) (h1 : b < (W : Int)) (h2 : 1 ≤ u) (h3 : v < 1) :
    Calls Try.prog 36 #[.agg #[.int .i64 (W : Nat), .int .i64 (H : Nat), .slice D (W * H) c], .int .i64 b, .int .i64 u, .int .i64 v] w (ErrGrid w 2) := by
  go_enter Try.func36, Try.ntmps36
  go_wp2_with fail
  refine (rchk_valid D c _ hW0 hW hH0 hH).mono ?_
  rintro e w1 ⟨rfl, hb1⟩
  obtain ⟨hbox1, hbox2, hbel1, hsz1⟩ := after2 hb1
  clear hb1
  obtain ⟨q0, q1, q2, q3, q4, q5, q6⟩ := hbox1.all
  obtain ⟨p0, p1, p2, p3, p4, p5, p6⟩ := hbox2.all
  go_wp2
  refine bodyPost_ret (v := .tuple #[.agg #[.int .i64 0, .int .i64 0, .slice none 0 0], .int .i64 2]) (by simp [results, Try.results36, go_sem, p0, p1, p2]) rfl ?_
  exact fin_err (by omega) hbel1
set_option maxHeartbeats 800000 in
theorem rsp_u1 (W H : Nat) (D : Option Addr) (c : Nat) (b u v : Int) (w : World) (hW0 : 1 ≤ W) (hW : W ≤ 64) (hH0 : 1 ≤ H) (hH : H ≤ 64) (h0 : 0 ≤ b) (h1 : b < (W : Int)) (h2 : 1 ≤ u) (h3 : 1 ≤ v) (h4 : 64 < u) :
    Calls Try.prog 36 #[.agg #[.int .i64 (W : Nat), .int .i64 (H : Nat), .slice D (W * H) c], .int .i64 b, .int .i64 u, .int .i64 v] w (ErrGrid w 4) := by
  go_enter Try.func36, Try.ntmps36
  go_wp2_with fail
  refine (rchk_valid D c _ hW0 hW hH0 hH).mono ?_
  rintro e w1 ⟨rfl, hb1⟩
  obtain ⟨hbox1, hbox2, hbel1, hsz1⟩ := after2 hb1
  clear hb1
  obtain ⟨q0, q1, q2, q3, q4, q5, q6⟩ := hbox1.all
  obtain ⟨p0, p1, p2, p3, p4, p5, p6⟩ := hbox2.all
  go_wp2
  refine bodyPost_ret (v := .tuple #[.agg #[.int .i64 0, .int .i64 0, .slice none 0 0], .int .i64 4]) (by simp [results, Try.results36, go_sem, p0, p1, p2]) rfl ?_
  exact fin_err (by omega) hbel1
set_option maxHeartbeats 800000 in
theorem rsp_v1 (W H : Nat) (D : Option Addr) (c : Nat) (b u v : Int) (w : World) (hW0 : 1 ≤ W) (hW : W ≤ 64) (hH0 : 1 ≤ H) (hH : H ≤ 64) (h0 : 0 ≤ b) (h1 : b < (W : Int)) (h2 : 1 ≤ u) (h3 : 1 ≤ v) (h4 : u ≤ 64) (h5 : 64 < v) :
    Calls Try.prog 36 #[.agg #[.int .i64 (W : Nat), .int .i64 (H : Nat), .slice D (W * H) c], .int .i64 b, .int .i64 u, .int .i64 v] w (ErrGrid w 4) := by
  go_enter Try.func36, Try.ntmps36
  go_wp2_with fail
  refine (rchk_valid D c _ hW0 hW hH0 hH).mono ?_
  rintro e w1 ⟨rfl, hb1⟩
  obtain ⟨hbox1, hbox2, hbel1, hsz1⟩ := after2 hb1
  clear hb1
  obtain ⟨q0, q1, q2, q3, q4, q5, q6⟩ := hbox1.all
  obtain ⟨p0, p1, p2, p3, p4, p5, p6⟩ := hbox2.all
  go_wp2
  refine bodyPost_ret (v := .tuple #[.agg #[.int .i64 0, .int .i64 0, .slice none 0 0], .int .i64 4]) (by simp [results, Try.results36, go_sem, p0, p1, p2]) rfl ?_
  exact fin_err (by omega) hbel1
end Go.Proofs.Ytjbofdgdcnfmoaa
