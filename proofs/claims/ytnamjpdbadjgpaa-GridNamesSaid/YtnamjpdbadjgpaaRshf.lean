/- Shift, by the program and by the reference. -/
import Derived.Test.YtnamjpdbadjgpaaRshift
namespace Go.Proofs.Ytnamjpdbadjgpaa
open Go.RowKit
set_option linter.unusedVariables false
set_option linter.unusedSimpArgs false

set_option maxHeartbeats 800000 in
theorem rshift_ok (W H : Nat) (A : Option Addr) (c : Nat) (f : Nat → Bool) (dx dy : Int) (w : World) (hr : Holds w w.heap.size A (W * H) f) (hW0 : 1 ≤ W) (hW : W ≤ 64) (hH0 : 1 ≤ H) (hH : H ≤ 64)
    (x0 : -9223372036854775808 ≤ dx) (x1 : dx ≤ 9223372036854775807) (y0 : -9223372036854775808 ≤ dy) (y1 : dy ≤ 9223372036854775807) :
    Calls Try.prog 37 #[.agg #[.int .i64 W, .int .i64 H, .slice A (W * H) c], .int .i64 dx, .int .i64 dy] w (OkGrid w W H fun i => f (ay W H (dy % H) i * W + ax W (dx % W) i)) := by
  have HR := Lib.hid hr
  clear hr
  obtain ⟨r0, r1⟩ := mod_bd (v := dx) (W := (W : Int)) (by omega)
  obtain ⟨u0, u1⟩ := mod_bd (v := dy) (W := (H : Int)) (by omega)
  have HS := Lib.hid (fun w' (h : Holds w' w'.heap.size A (W * H) f) => shifted_core W H A c f dx dy w' h hW0 hW hH0 hH (dx % W) (dy % H) r0 r1 u0 u1 (fun w' => mod_any dx W w' (by omega) (by omega) x0 x1) (fun w' => mod_any dy H w' (by omega) (by omega) y0 y1))
  clear r0 r1 u0 u1
  go_enter Try.func37, Try.ntmps37
  go_wp2_with fail
  refine (rchk_valid A c _ hW0 hW hH0 hH).mono ?_
  rintro e w1 ⟨rfl, hb1⟩
  obtain ⟨hbox1, hbox2, hbel1, hsz1⟩ := after2 hb1
  clear hb1
  obtain ⟨q0, q1, q2, q3, q4, q5, q6⟩ := hbox1.all
  go_wp2_with fail
  refine (HS.out _ ((HR.out.below hbel1).more hbel1.size)).mono ?_
  rintro e w2 ⟨k, rfl, hk, hrow, hb2⟩
  have hbox3 := hbox2.below hb2 (by omega)
  obtain ⟨p0, p1, p2, p3, p4, p5, p6⟩ := hbox3.all
  go_wp2
  refine bodyPost_ret (v := .tuple #[.agg #[.int .i64 W, .int .i64 H, .slice (some ⟨k, 0, none⟩) (W * H) (W * H)], .int .i64 0]) (by simp [results, Try.results37, go_sem, p0, p1, p2]) rfl ?_
  exact fin_ok (by omega) (by omega) hrow (hbel1.trans (hb2.mono hbel1.size))

set_option maxHeartbeats 800000 in
theorem shift_err (W H : Int) (A : Option Addr) (n c : Nat) (dx dy : Int) (w : World) (err : Int) (hn : n ≤ 4200) (hx : chk W H n = err) (hne : (err != 0) = true) :
    Calls Try.prog 19 #[.agg #[.int .i64 W, .int .i64 H, .slice A n c], .int .i64 dx, .int .i64 dy] w (ErrGrid w err) := by
  have HC := Lib.hid (chk_err (A := A) (c := c) hn hx)
  clear hx
  go_enter Try.func19, Try.ntmps19
  go_wp2_with fail
  refine (HC.out _).mono ?_
  rintro e w1 ⟨rfl, hb1⟩
  obtain ⟨hbox1, hbox2, hbel1, hsz1⟩ := after2 hb1
  clear hb1
  obtain ⟨p0, p1, p2, p3, p4, p5, p6⟩ := hbox2.all
  go_wp2
  refine bodyPost_ret (v := .tuple #[.agg #[.int .i64 0, .int .i64 0, .slice none 0 0], .int .i64 err]) (by simp [results, Try.results19, go_sem, p0, p1, p2]) rfl ?_
  exact fin_err (by omega) hbel1

theorem shift_num {w1 : World} (a b : Int) : Num ((w1.alloc (.cells #[.int .i64 a] 3)).alloc (.cells #[.int .i64 b] 3)).drew w1.heap.size a ∧ Num ((w1.alloc (.cells #[.int .i64 a] 3)).alloc (.cells #[.int .i64 b] 3)).drew (w1.heap.size + 1) b ∧
    Below w1.heap.size w1 ((w1.alloc (.cells #[.int .i64 a] 3)).alloc (.cells #[.int .i64 b] 3)).drew := by
  have h1 := (Num.new w1 a).below ((Below.refl _ _).alloc (Nat.le_refl _) (.cells #[.int .i64 b] 3))
  have h2 := Num.new (w1.alloc (.cells #[.int .i64 a] 3)) b
  simp only [World.size_alloc] at h2
  exact ⟨h1, h2, (((Below.refl _ _).alloc (Nat.le_refl _) _).alloc (by simp) _).drew⟩

set_option maxHeartbeats 1600000 in
theorem shift_core (W H : Nat) (A : Option Addr) (c : Nat) (f : Nat → Bool) (dx dy : Int) (w : World) (hr : Holds w w.heap.size A (W * H) f) (hW0 : 1 ≤ W) (hW : W ≤ 64) (hH0 : 1 ≤ H) (hH : H ≤ 64)
    (r u : Int) (r0 : 0 ≤ r) (r1 : r < W) (u0 : 0 ≤ u) (u1 : u < H)
    (hM1 : ∀ w', Calls Try.prog 55 #[.int .i64 dx, .int .i64 (W : Int)] w' fun e w2 => e = .returned (.int .i64 r) ∧ w2 = w')
    (hM2 : ∀ w', Calls Try.prog 55 #[.int .i64 dy, .int .i64 (H : Int)] w' fun e w2 => e = .returned (.int .i64 u) ∧ w2 = w') :
    Calls Try.prog 19 #[.agg #[.int .i64 W, .int .i64 H, .slice A (W * H) c], .int .i64 dx, .int .i64 dy] w (OkGrid w W H fun i => f (ay W H u i * W + ax W r i)) := by
  have hmf := mk_fn
  have HR := Lib.hid hr
  have M1 := Lib.hid hM1
  have M2 := Lib.hid hM2
  clear hr hM1 hM2
  go_enter Try.func19, Try.ntmps19
  go_wp2_with fail
  refine (chk_valid A c _ hW0 hW hH0 hH).mono ?_
  rintro e w1 ⟨rfl, hb1⟩
  obtain ⟨hbox1, hbox2, hbel1, hsz1⟩ := after2 hb1
  clear hb1
  obtain ⟨q0, q1, q2, q3, q4, q5, q6⟩ := hbox1.all
  have HK := Lib.hid (fun w' (h : Below w1.heap.size w1 w') => twin_keep hbox1 (h.mono (by omega)))
  have HX := Lib.hid hbox1
  have HY := Lib.hid hbox2
  clear hbox1 hbox2 q3 q4 q5
  go_wp2_with fail
  go_cut [9, 10] (fun s9 s10 wx => ∃ g1 g2, s9 = .pointer (some ⟨g1, 0, none⟩) ∧ s10 = .pointer (some ⟨g2, 0, none⟩) ∧ Num wx g1 r ∧ Num wx g2 u ∧ Below w1.heap.size w1 wx)
  case first =>
    go_region_held3 (fun w' => w'.cell? ⟨w.heap.size, 0, none⟩ = some (.int .i64 W) ∧ w'.cell? ⟨w.heap.size, 1, none⟩ = some (.int .i64 H) ∧ w'.cell? ⟨w.heap.size, 2, none⟩ = some (.slice A (W * H) c))
      (first
        | exact HK.out _ (Below.refl _ _).drew
        | exact HK.out _ (((Below.refl _ _).alloc (Nat.le_refl _) _).drew)
        | exact HK.out _ ((((Below.refl _ _).alloc (Nat.le_refl _) _).alloc (by simp) _).drew))
      (first
        | (go_at_call_of 55 (Value.int IntKind.i64 dx); (with_reducible refine (M1.out _).mono ?_); rintro e w2 ⟨rfl, rfl⟩)
        | (go_at_call_of 55 (Value.int IntKind.i64 dy); (with_reducible refine (M2.out _).mono ?_); rintro e w2 ⟨rfl, rfl⟩))
    all_goals (go_wp2_with fail; go_meet)
    all_goals first
      | exact ⟨_, _, rfl, rfl, (shift_num r u).1, (shift_num r u).2.1, (shift_num r u).2.2⟩
      | exact ⟨_, _, rfl, rfl, (shift_num u r).2.1, (shift_num u r).1, (shift_num u r).2.2⟩
  case rest =>
    obtain ⟨g1, g2, rfl, rfl, n1, n2, hb⟩ := hcut
    have hbox1 := HX.out.below hb (by omega)
    have hbox2 := HY.out.below hb (by omega)
    have hbel2 := hbel1.trans (hb.mono hbel1.size)
    have hsz2 := hb.size
    clear q0 q1 q2 q6
    obtain ⟨q0, q1, q2, q3, q4, q5, q6⟩ := hbox1.all
    go_wp2_with fail
    refine (build_any W H hW0 hW hH0 hH 56 _ _ _ (shift_clo ⟨hbox1, (HR.out.below hbel2).more hbel2.size, hW0, hW, hH0, hH⟩ n1 n2 r0 r1 u0 u1) (Go.Proofs.enters_of Try.func56 (by kernel_rfl) rfl)).mono ?_
    rintro e w2 ⟨k, rfl, hk, hrow, hb2⟩
    have hbox3 := hbox2.below hb2 (by omega)
    obtain ⟨p0, p1, p2, p3, p4, p5, p6⟩ := hbox3.all
    go_wp2
    refine bodyPost_ret (v := .tuple #[.agg #[.int .i64 W, .int .i64 H, .slice (some ⟨k, 0, none⟩) (W * H) (W * H)], .int .i64 0]) (by simp [results, Try.results19, go_sem, p0, p1, p2]) rfl ?_
    exact fin_ok (by omega) (by omega) (hrow.congr fun i hi => rfl) (hbel2.trans (hb2.mono hbel2.size))

theorem shift_ok (W H : Nat) (A : Option Addr) (c : Nat) (f : Nat → Bool) (dx dy : Int) (w : World) (hr : Holds w w.heap.size A (W * H) f) (hW0 : 1 ≤ W) (hW : W ≤ 64) (hH0 : 1 ≤ H) (hH : H ≤ 64)
    (x0 : -9223372036854775808 ≤ dx) (x1 : dx ≤ 9223372036854775807) (y0 : -9223372036854775808 ≤ dy) (y1 : dy ≤ 9223372036854775807) :
    Calls Try.prog 19 #[.agg #[.int .i64 W, .int .i64 H, .slice A (W * H) c], .int .i64 dx, .int .i64 dy] w (OkGrid w W H fun i => f (ay W H (dy % H) i * W + ax W (dx % W) i)) := by
  obtain ⟨r0, r1⟩ := mod_bd (v := dx) (W := (W : Int)) (by omega)
  obtain ⟨u0, u1⟩ := mod_bd (v := dy) (W := (H : Int)) (by omega)
  exact shift_core W H A c f dx dy w hr hW0 hW hH0 hH (dx % W) (dy % H) r0 r1 u0 u1 (fun w' => modulo_any dx W w' (by omega) (by omega) x0 x1) (fun w' => modulo_any dy H w' (by omega) (by omega) y0 y1)
end Go.Proofs.Ytnamjpdbadjgpaa
