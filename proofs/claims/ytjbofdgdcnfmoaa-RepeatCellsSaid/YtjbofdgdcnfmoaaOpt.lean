/- The program's Tile and Part. -/
import Derived.Test.YtjbofdgdcnfmoaaOps
namespace Go.Proofs.Ytjbofdgdcnfmoaa
open Go.RowKit
set_option maxRecDepth 100000
set_option linter.unusedVariables false
set_option linter.unusedSimpArgs false

theorem build_int (Wi Hi : Int) (W H : Nat) (eW : Wi = W) (eH : Hi = H) (hW0 : 1 ≤ W) (hW : W ≤ 64) (hH0 : 1 ≤ H) (hH : H ≤ 64) (g : Nat) (lb : Array Value) (F : Nat → Nat → Bool) (w : World) (hG : Gives g lb w W H F)
    (eg : ∀ args w, (callFunc g args).run Try.prog w = .ok (.enter g args) w) :
    Calls Try.prog 86 #[.int .i64 Wi, .int .i64 Hi, .func (.func g) #[] lb] w fun e w' =>
      ∃ k, e = .returned (.agg #[.int .i64 W, .int .i64 H, .slice (some ⟨k, 0, none⟩) (W * H) (W * H)]) ∧ w.heap.size ≤ k ∧ Row w' k (W * H) (fun i => F (i % W) (i / W)) ∧ Below w.heap.size w w' := by
  subst eW eH
  exact build_any W H hW0 hW hH0 hH g lb F w hG eg

theorem quo_bd (W : Nat) (hW0 : 1 ≤ W) : (64 : Int).tdiv (W : Int) = (64 : Int) / (W : Int) ∧ 0 ≤ (64 : Int) / (W : Int) ∧ (64 : Int) / (W : Int) ≤ 64 := by
  have e : (64 : Int) / (W : Int) = ((64 / W : Nat) : Int) := by simp
  refine ⟨Int.tdiv_eq_ediv_of_nonneg (by omega), by rw [e]; exact Int.natCast_nonneg _, ?_⟩
  rw [e]
  exact Int.ofNat_le.2 (Nat.div_le_self 64 W)
theorem quo_le {W n : Nat} (hW0 : 1 ≤ W) : ¬ (64 : Int) / (W : Int) < (n : Int) ↔ n * W ≤ 64 := by
  have e : (64 : Int) / (W : Int) = ((64 / W : Nat) : Int) := by simp
  rw [e, Int.not_lt, Int.ofNat_le, Nat.le_div_iff_mul_le (by omega)]

set_option maxHeartbeats 400000 in
theorem tile_err (W H : Int) (A : Option Addr) (n c : Nat) (nx : Int) (ny : Int) (w : World) (err : Int) (hn : n ≤ 4200) (hx : chk W H n = err) (hne : (err != 0) = true) :
    Calls Try.prog 42 #[.agg #[.int .i64 W, .int .i64 H, .slice A n c], .int .i64 nx, .int .i64 ny] w (ErrGrid w err) := by
  have HC := Lib.hid (chk_err (A := A) (c := c) hn hx)
  clear hx
  go_enter Try.func42, Try.ntmps42
  go_wp2_with fail
  refine (HC.out _).mono ?_
  rintro e w1 ⟨rfl, hb1⟩
  obtain ⟨hbox1, hbox2, hbel1, hsz1⟩ := after2 hb1
  clear hb1
  obtain ⟨p0, p1, p2, p3, p4, p5, p6⟩ := hbox2.all
  go_wp2
  refine bodyPost_ret (v := .tuple #[.agg #[.int .i64 0, .int .i64 0, .slice none 0 0], .int .i64 err]) (by simp [results, Try.results42, go_sem, p0, p1, p2]) rfl ?_
  exact fin_err (by omega) hbel1

set_option maxHeartbeats 800000 in
theorem tile_arg1 (W H : Nat) (A : Option Addr) (c : Nat) (nx ny : Int) (w : World) (hW0 : 1 ≤ W) (hW : W ≤ 64) (hH0 : 1 ≤ H) (hH : H ≤ 64) (h1 : nx < 1) :
    Calls Try.prog 42 #[.agg #[.int .i64 W, .int .i64 H, .slice A (W * H) c], .int .i64 nx, .int .i64 ny] w (ErrGrid w 2) := by
  obtain ⟨d1, d2, d3⟩ := quo_bd W hW0
  obtain ⟨d4, d5, d6⟩ := quo_bd H hH0
  have z1 : ¬ W = 0 := by omega
  have z2 : ¬ H = 0 := by omega
  have z3 : (1 : Int) ≤ (W : Int) := by omega
  have z4 : (1 : Int) ≤ (H : Int) := by omega
  go_enter Try.func42, Try.ntmps42
  go_wp2_with fail
  refine (chk_valid A c _ hW0 hW hH0 hH).mono ?_
  rintro e w1 ⟨rfl, hb1⟩
  obtain ⟨hbox1, hbox2, hbel1, hsz1⟩ := after2 hb1
  clear hb1
  obtain ⟨q0, q1, q2, q3, q4, q5, q6⟩ := hbox1.all
  obtain ⟨p0, p1, p2, p3, p4, p5, p6⟩ := hbox2.all
  go_wp2
  refine bodyPost_ret (v := .tuple #[.agg #[.int .i64 0, .int .i64 0, .slice none 0 0], .int .i64 2]) (by simp [results, Try.results42, go_sem, p0, p1, p2]) rfl ?_
  exact fin_err (by omega) hbel1

set_option maxHeartbeats 800000 in
theorem tile_arg2 (W H : Nat) (A : Option Addr) (c : Nat) (nx ny : Int) (w : World) (hW0 : 1 ≤ W) (hW : W ≤ 64) (hH0 : 1 ≤ H) (hH : H ≤ 64) (h1 : ¬ nx < 1) (h2 : ny < 1) :
    Calls Try.prog 42 #[.agg #[.int .i64 W, .int .i64 H, .slice A (W * H) c], .int .i64 nx, .int .i64 ny] w (ErrGrid w 2) := by
  obtain ⟨d1, d2, d3⟩ := quo_bd W hW0
  obtain ⟨d4, d5, d6⟩ := quo_bd H hH0
  have z1 : ¬ W = 0 := by omega
  have z2 : ¬ H = 0 := by omega
  have z3 : (1 : Int) ≤ (W : Int) := by omega
  have z4 : (1 : Int) ≤ (H : Int) := by omega
  go_enter Try.func42, Try.ntmps42
  go_wp2_with fail
  refine (chk_valid A c _ hW0 hW hH0 hH).mono ?_
  rintro e w1 ⟨rfl, hb1⟩
  obtain ⟨hbox1, hbox2, hbel1, hsz1⟩ := after2 hb1
  clear hb1
  obtain ⟨q0, q1, q2, q3, q4, q5, q6⟩ := hbox1.all
  obtain ⟨p0, p1, p2, p3, p4, p5, p6⟩ := hbox2.all
  go_wp2
  refine bodyPost_ret (v := .tuple #[.agg #[.int .i64 0, .int .i64 0, .slice none 0 0], .int .i64 2]) (by simp [results, Try.results42, go_sem, p0, p1, p2]) rfl ?_
  exact fin_err (by omega) hbel1

set_option maxHeartbeats 800000 in
theorem tile_many1 (W H : Nat) (A : Option Addr) (c : Nat) (nx ny : Int) (w : World) (hW0 : 1 ≤ W) (hW : W ≤ 64) (hH0 : 1 ≤ H) (hH : H ≤ 64) (h1 : ¬ nx < 1) (h2 : ¬ ny < 1) (h3 : (64 : Int) / (W : Int) < nx) :
    Calls Try.prog 42 #[.agg #[.int .i64 W, .int .i64 H, .slice A (W * H) c], .int .i64 nx, .int .i64 ny] w (ErrGrid w 4) := by
  obtain ⟨d1, d2, d3⟩ := quo_bd W hW0
  obtain ⟨d4, d5, d6⟩ := quo_bd H hH0
  have z1 : ¬ W = 0 := by omega
  have z2 : ¬ H = 0 := by omega
  have z3 : (1 : Int) ≤ (W : Int) := by omega
  have z4 : (1 : Int) ≤ (H : Int) := by omega
  go_enter Try.func42, Try.ntmps42
  go_wp2_with fail
  refine (chk_valid A c _ hW0 hW hH0 hH).mono ?_
  rintro e w1 ⟨rfl, hb1⟩
  obtain ⟨hbox1, hbox2, hbel1, hsz1⟩ := after2 hb1
  clear hb1
  obtain ⟨q0, q1, q2, q3, q4, q5, q6⟩ := hbox1.all
  obtain ⟨p0, p1, p2, p3, p4, p5, p6⟩ := hbox2.all
  go_wp2
  refine bodyPost_ret (v := .tuple #[.agg #[.int .i64 0, .int .i64 0, .slice none 0 0], .int .i64 4]) (by simp [results, Try.results42, go_sem, p0, p1, p2]) rfl ?_
  exact fin_err (by omega) hbel1

set_option maxHeartbeats 800000 in
theorem tile_many2 (W H : Nat) (A : Option Addr) (c : Nat) (nx ny : Int) (w : World) (hW0 : 1 ≤ W) (hW : W ≤ 64) (hH0 : 1 ≤ H) (hH : H ≤ 64) (h1 : ¬ nx < 1) (h2 : ¬ ny < 1) (h3 : ¬ (64 : Int) / (W : Int) < nx) (h4 : (64 : Int) / (H : Int) < ny) :
    Calls Try.prog 42 #[.agg #[.int .i64 W, .int .i64 H, .slice A (W * H) c], .int .i64 nx, .int .i64 ny] w (ErrGrid w 4) := by
  obtain ⟨d1, d2, d3⟩ := quo_bd W hW0
  obtain ⟨d4, d5, d6⟩ := quo_bd H hH0
  have z1 : ¬ W = 0 := by omega
  have z2 : ¬ H = 0 := by omega
  have z3 : (1 : Int) ≤ (W : Int) := by omega
  have z4 : (1 : Int) ≤ (H : Int) := by omega
  go_enter Try.func42, Try.ntmps42
  go_wp2_with fail
  refine (chk_valid A c _ hW0 hW hH0 hH).mono ?_
  rintro e w1 ⟨rfl, hb1⟩
  obtain ⟨hbox1, hbox2, hbel1, hsz1⟩ := after2 hb1
  clear hb1
  obtain ⟨q0, q1, q2, q3, q4, q5, q6⟩ := hbox1.all
  obtain ⟨p0, p1, p2, p3, p4, p5, p6⟩ := hbox2.all
  go_wp2
  refine bodyPost_ret (v := .tuple #[.agg #[.int .i64 0, .int .i64 0, .slice none 0 0], .int .i64 4]) (by simp [results, Try.results42, go_sem, p0, p1, p2]) rfl ?_
  exact fin_err (by omega) hbel1

set_option maxHeartbeats 800000 in
theorem tile_ok (W H : Nat) (A : Option Addr) (c : Nat) (nx ny : Nat) (w : World) (hW0 : 1 ≤ W) (hW : W ≤ 64) (hH0 : 1 ≤ H) (hH : H ≤ 64) (f : Nat → Bool) (hr : Holds w w.heap.size A (W * H) f) (h1 : 1 ≤ nx) (h2 : 1 ≤ ny) (h3 : nx * W ≤ 64) (h4 : ny * H ≤ 64) :
    Calls Try.prog 42 #[.agg #[.int .i64 W, .int .i64 H, .slice A (W * H) c], .int .i64 nx, .int .i64 ny] w (OkGrid w (nx * W) (ny * H) fun i => f (i / (nx * W) % H * W + i % (nx * W) % W)) := by
  obtain ⟨d1, d2, d3⟩ := quo_bd W hW0
  obtain ⟨d4, d5, d6⟩ := quo_bd H hH0
  have z1 : ¬ W = 0 := by omega
  have z2 : ¬ H = 0 := by omega
  have z3 : (1 : Int) ≤ (W : Int) := by omega
  have z4 : (1 : Int) ≤ (H : Int) := by omega
  have k1 := (quo_le (n := nx) hW0).2 h3
  have k2 := (quo_le (n := ny) hH0).2 h4
  have k3 : (nx : Int) * (W : Int) ≤ 64 := by have := Int.ofNat_le.2 h3; simpa using this
  have k4 : (ny : Int) * (H : Int) ≤ 64 := by have := Int.ofNat_le.2 h4; simpa using this
  have k5 : 0 ≤ (nx : Int) * (W : Int) := Int.mul_nonneg (by omega) (by omega)
  have k6 : 0 ≤ (ny : Int) * (H : Int) := Int.mul_nonneg (by omega) (by omega)
  have k7 : 1 ≤ nx * W := Nat.mul_pos h1 hW0
  have k8 : 1 ≤ ny * H := Nat.mul_pos h2 hH0
  have hmf := mk_fn
  have HR := Lib.hid hr
  clear hr
  go_enter Try.func42, Try.ntmps42
  go_wp2_with fail
  refine (chk_valid A c _ hW0 hW hH0 hH).mono ?_
  rintro e w1 ⟨rfl, hb1⟩
  obtain ⟨hbox1, hbox2, hbel1, hsz1⟩ := after2 hb1
  clear hb1
  obtain ⟨q0, q1, q2, q3, q4, q5, q6⟩ := hbox1.all
  go_wp2_with fail
  refine (build_int _ _ (nx * W) (ny * H) (by simp) (by simp) k7 h3 k8 h4 89 _ _ _ (tile_clo ⟨hbox1, (HR.out.below hbel1).more hbel1.size, hW0, hW, hH0, hH⟩ (nx * W) (ny * H)) (Go.Proofs.enters_of Try.func89 (by kernel_rfl) rfl)).mono ?_
  rintro e w2 ⟨k, rfl, hk, hrow, hb2⟩
  have hbox3 := hbox2.below hb2 (by omega)
  obtain ⟨p0, p1, p2, p3, p4, p5, p6⟩ := hbox3.all
  go_wp2
  refine bodyPost_ret (v := .tuple #[.agg #[.int .i64 ((nx * W : Nat) : Int), .int .i64 ((ny * H : Nat) : Int), .slice (some ⟨k, 0, none⟩) (nx * W * (ny * H)) (nx * W * (ny * H))], .int .i64 0]) (by simp [results, Try.results42, go_sem, p0, p1, p2]) rfl ?_
  exact fin_ok (by omega) (by omega) (hrow.congr fun i hi => rfl) (hbel1.trans (hb2.mono hbel1.size))

set_option maxHeartbeats 400000 in
theorem within_yes (s n size : Int) (w : World) (hs : size ≤ 64) (h0 : 0 ≤ s) (h1 : 1 ≤ n) (h2 : n ≤ size - s) :
    Calls Try.prog 85 #[.int .i64 s, .int .i64 n, .int .i64 size] w fun e w' => e = .returned (.bool true) ∧ w' = w := by
  go_enter Try.func85, Try.ntmps85
  go_wp2
  go_ret
  exact ⟨ret_bool (by first | rfl | (simp; omega)), rfl⟩
set_option maxHeartbeats 400000 in
theorem within_no (s n size : Int) (w : World) (hs : size ≤ 64) (hs0 : 1 ≤ size) (hb : s ≤ 9223372036854775807) (h : ¬ (0 ≤ s ∧ 1 ≤ n ∧ n ≤ size - s)) :
    Calls Try.prog 85 #[.int .i64 s, .int .i64 n, .int .i64 size] w fun e w' => e = .returned (.bool false) ∧ w' = w := by
  by_cases h0 : 0 ≤ s
  · by_cases h1 : 1 ≤ n
    · have h2 : size - s < n := by omega
      clear h
      go_enter Try.func85, Try.ntmps85
      go_wp2
      go_ret
      exact ⟨ret_bool (by first | rfl | (simp; omega)), rfl⟩
    · clear h
      have h2 : n < 1 := by omega
      go_enter Try.func85, Try.ntmps85
      go_wp2
      go_ret
      exact ⟨ret_bool (by first | rfl | (simp; omega)), rfl⟩
  · clear h
    have h2 : s < 0 := by omega
    go_enter Try.func85, Try.ntmps85
    go_wp2
    go_ret
    exact ⟨ret_bool (by first | rfl | (simp; omega)), rfl⟩

theorem Num.new (w : World) (v : Int) : Num (w.alloc (.cells #[.int .i64 v] 3)) w.heap.size v := by
  refine ⟨?_, by simp⟩
  simp
/-- Part's parameters in boxes of their own, and the result's box, behind the first call. -/
theorem after4 {w w1 : World} {W H x y : Int} {v : Value} (hb : Below ((((w.alloc (.cells #[.int .i64 W, .int .i64 H, v] 24)).alloc (.cells #[.int .i64 x] 3)).alloc (.cells #[.int .i64 y] 3)).alloc (.cells #[.int .i64 0, .int .i64 0, .slice none 0 0] 24)).heap.size
      ((((w.alloc (.cells #[.int .i64 W, .int .i64 H, v] 24)).alloc (.cells #[.int .i64 x] 3)).alloc (.cells #[.int .i64 y] 3)).alloc (.cells #[.int .i64 0, .int .i64 0, .slice none 0 0] 24)) w1) :
    Box w1 w.heap.size W H v ∧ Num w1 (w.heap.size + 1) x ∧ Num w1 (w.heap.size + 2) y ∧ Box w1 (w.heap.size + 3) 0 0 (.slice none 0 0) ∧ Below w.heap.size w w1 ∧ w.heap.size + 4 ≤ w1.heap.size := by
  have h1 := ((((Box.new w W H v).alloc (.cells #[.int .i64 x] 3)).alloc (.cells #[.int .i64 y] 3)).alloc (.cells #[.int .i64 0, .int .i64 0, .slice none 0 0] 24)).below hb (by simp; omega)
  have h2 := (Box.new (((w.alloc (.cells #[.int .i64 W, .int .i64 H, v] 24)).alloc (.cells #[.int .i64 x] 3)).alloc (.cells #[.int .i64 y] 3)) 0 0 (.slice none 0 0)).below hb (by simp)
  have n1 := (((Num.new (w.alloc (.cells #[.int .i64 W, .int .i64 H, v] 24)) x).below ((Below.refl _ _).alloc (Nat.le_refl _) (.cells #[.int .i64 y] 3))).below ((Below.refl _ _).alloc (Nat.le_refl _) (.cells #[.int .i64 0, .int .i64 0, .slice none 0 0] 24))).below hb
  have n2 := ((Num.new ((w.alloc (.cells #[.int .i64 W, .int .i64 H, v] 24)).alloc (.cells #[.int .i64 x] 3)) y).below ((Below.refl _ _).alloc (Nat.le_refl _) (.cells #[.int .i64 0, .int .i64 0, .slice none 0 0] 24))).below hb
  have h3 : Below w.heap.size w w1 := (((((Below.refl _ _).alloc (Nat.le_refl _) _).alloc (by simp) _).alloc (by simp; omega) _).alloc (by simp; omega) _).trans (hb.mono (by simp; omega))
  have h4 := hb.size
  simp at h2 h4 n1 n2
  exact ⟨h1, n1, n2, h2, h3, by omega⟩

set_option maxHeartbeats 800000 in
theorem part_arg1 (W H : Nat) (A : Option Addr) (c : Nat) (x y pw ph : Int) (w : World) (hW0 : 1 ≤ W) (hW : W ≤ 64) (hH0 : 1 ≤ H) (hH : H ≤ 64) (hx : x ≤ 9223372036854775807) (h : ¬ (0 ≤ x ∧ 1 ≤ pw ∧ pw ≤ W - x)) :
    Calls Try.prog 41 #[.agg #[.int .i64 W, .int .i64 H, .slice A (W * H) c], .int .i64 x, .int .i64 y, .int .i64 pw, .int .i64 ph] w (ErrGrid w 2) := by
  have HN := Lib.hid h
  clear h
  go_enter Try.func41, Try.ntmps41
  go_wp2_with fail
  refine (chk_valid A c _ hW0 hW hH0 hH).mono ?_
  rintro e w1 ⟨rfl, hb1⟩
  obtain ⟨hbox1, n1, n2, hbox2, hbel1, hsz1⟩ := after4 hb1
  clear hb1
  obtain ⟨q0, q1, q2, q3, q4, q5, q6⟩ := hbox1.all
  obtain ⟨r1, r2⟩ := n1
  obtain ⟨r3, r4⟩ := n2
  go_wp2_with fail
  refine (within_no _ _ _ _ (by omega) (by omega) hx HN.out).mono ?_
  rintro e w1 ⟨rfl, rfl⟩
  obtain ⟨p0, p1, p2, p3, p4, p5, p6⟩ := hbox2.all
  go_wp2
  refine bodyPost_ret (v := .tuple #[.agg #[.int .i64 0, .int .i64 0, .slice none 0 0], .int .i64 2]) (by simp [results, Try.results41, go_sem, p0, p1, p2]) rfl ?_
  exact fin_err (by omega) hbel1

set_option maxHeartbeats 800000 in
theorem part_arg2 (W H : Nat) (A : Option Addr) (c : Nat) (x y pw ph : Int) (w : World) (hW0 : 1 ≤ W) (hW : W ≤ 64) (hH0 : 1 ≤ H) (hH : H ≤ 64) (hy : y ≤ 9223372036854775807) (h1 : 0 ≤ x) (h2 : 1 ≤ pw) (h3 : pw ≤ W - x) (h : ¬ (0 ≤ y ∧ 1 ≤ ph ∧ ph ≤ H - y)) :
    Calls Try.prog 41 #[.agg #[.int .i64 W, .int .i64 H, .slice A (W * H) c], .int .i64 x, .int .i64 y, .int .i64 pw, .int .i64 ph] w (ErrGrid w 2) := by
  have HN := Lib.hid h
  clear h
  go_enter Try.func41, Try.ntmps41
  go_wp2_with fail
  refine (chk_valid A c _ hW0 hW hH0 hH).mono ?_
  rintro e w1 ⟨rfl, hb1⟩
  obtain ⟨hbox1, n1, n2, hbox2, hbel1, hsz1⟩ := after4 hb1
  clear hb1
  obtain ⟨q0, q1, q2, q3, q4, q5, q6⟩ := hbox1.all
  obtain ⟨r1, r2⟩ := n1
  obtain ⟨r3, r4⟩ := n2
  go_wp2_with fail
  refine (within_yes _ _ _ _ (by omega) (by omega) (by omega) (by omega)).mono ?_
  rintro e w1 ⟨rfl, rfl⟩
  go_wp2_with fail
  refine (within_no _ _ _ _ (by omega) (by omega) hy HN.out).mono ?_
  rintro e w1 ⟨rfl, rfl⟩
  obtain ⟨p0, p1, p2, p3, p4, p5, p6⟩ := hbox2.all
  go_wp2
  refine bodyPost_ret (v := .tuple #[.agg #[.int .i64 0, .int .i64 0, .slice none 0 0], .int .i64 2]) (by simp [results, Try.results41, go_sem, p0, p1, p2]) rfl ?_
  exact fin_err (by omega) hbel1

set_option maxHeartbeats 800000 in
theorem part_ok (W H : Nat) (A : Option Addr) (c : Nat) (x y pw ph : Nat) (w : World) (hW0 : 1 ≤ W) (hW : W ≤ 64) (hH0 : 1 ≤ H) (hH : H ≤ 64) (f : Nat → Bool) (hr : Holds w w.heap.size A (W * H) f) (h2 : 1 ≤ pw) (h3 : x + pw ≤ W) (h4 : 1 ≤ ph) (h5 : y + ph ≤ H) :
    Calls Try.prog 41 #[.agg #[.int .i64 W, .int .i64 H, .slice A (W * H) c], .int .i64 x, .int .i64 y, .int .i64 pw, .int .i64 ph] w (OkGrid w pw ph fun i => f ((y + i / pw) * W + (x + i % pw))) := by
  have hmf := mk_fn
  have HR := Lib.hid hr
  clear hr
  go_enter Try.func41, Try.ntmps41
  go_wp2_with fail
  refine (chk_valid A c _ hW0 hW hH0 hH).mono ?_
  rintro e w1 ⟨rfl, hb1⟩
  obtain ⟨hbox1, n1, n2, hbox2, hbel1, hsz1⟩ := after4 hb1
  clear hb1
  obtain ⟨q0, q1, q2, q3, q4, q5, q6⟩ := hbox1.all
  obtain ⟨r1, r2⟩ := n1
  obtain ⟨r3, r4⟩ := n2
  go_wp2_with fail
  refine (within_yes _ _ _ _ (by omega) (by omega) (by omega) (by omega)).mono ?_
  rintro e w1 ⟨rfl, rfl⟩
  go_wp2_with fail
  refine (within_yes _ _ _ _ (by omega) (by omega) (by omega) (by omega)).mono ?_
  rintro e w1 ⟨rfl, rfl⟩
  go_wp2_with fail
  refine (build_any pw ph h2 (by omega) h4 (by omega) 87 _ _ _ (part_clo ⟨hbox1, (HR.out.below hbel1).more hbel1.size, hW0, hW, hH0, hH⟩ ⟨r1, r2⟩ ⟨r3, r4⟩ h3 h5) (Go.Proofs.enters_of Try.func87 (by kernel_rfl) rfl)).mono ?_
  rintro e w2 ⟨k, rfl, hk, hrow, hb2⟩
  have hbox3 := hbox2.below hb2 (by omega)
  obtain ⟨p0, p1, p2, p3, p4, p5, p6⟩ := hbox3.all
  go_wp2
  refine bodyPost_ret (v := .tuple #[.agg #[.int .i64 pw, .int .i64 ph, .slice (some ⟨k, 0, none⟩) (pw * ph) (pw * ph)], .int .i64 0]) (by simp [results, Try.results41, go_sem, p0, p1, p2]) rfl ?_
  exact fin_ok (by omega) (by omega) (hrow.congr fun i hi => rfl) (hbel1.trans (hb2.mono hbel1.size))

set_option maxHeartbeats 400000 in
theorem part_err (W H : Int) (A : Option Addr) (n c : Nat) (x y pw ph : Int) (w : World) (err : Int) (hn : n ≤ 4200) (hx : chk W H n = err) (hne : (err != 0) = true) :
    Calls Try.prog 41 #[.agg #[.int .i64 W, .int .i64 H, .slice A n c], .int .i64 x, .int .i64 y, .int .i64 pw, .int .i64 ph] w (ErrGrid w err) := by
  have HC := Lib.hid (chk_err (A := A) (c := c) hn hx)
  clear hx
  go_enter Try.func41, Try.ntmps41
  go_wp2_with fail
  refine (HC.out _).mono ?_
  rintro e w1 ⟨rfl, hb1⟩
  obtain ⟨hbox1, n1, n2, hbox2, hbel1, hsz1⟩ := after4 hb1
  clear hb1
  obtain ⟨p0, p1, p2, p3, p4, p5, p6⟩ := hbox2.all
  go_wp2
  refine bodyPost_ret (v := .tuple #[.agg #[.int .i64 0, .int .i64 0, .slice none 0 0], .int .i64 err]) (by simp [results, Try.results41, go_sem, p0, p1, p2]) rfl ?_
  exact fin_err (by omega) hbel1
end Go.Proofs.Ytjbofdgdcnfmoaa
