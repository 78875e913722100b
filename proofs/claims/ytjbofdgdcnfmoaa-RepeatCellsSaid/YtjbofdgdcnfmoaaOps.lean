/- The program's operations on a grid: Not, Mirror, Turn, Tile, Part, Shift, And, Or. -/
import Derived.Test.YtjbofdgdcnfmoaaComb
namespace Go.Proofs.Ytjbofdgdcnfmoaa
open Go.RowKit
set_option maxRecDepth 100000
set_option linter.unusedVariables false
set_option linter.unusedSimpArgs false

/-- A grid came back, in a new row, with no error. -/
def OkGrid (w : World) (W H : Nat) (F : Nat → Bool) (e : Ending) (w' : World) : Prop :=
  ∃ k, e = .returned (.tuple #[.agg #[.int .i64 W, .int .i64 H, .slice (some ⟨k, 0, none⟩) (W * H) (W * H)], .int .i64 0]) ∧ w.heap.size ≤ k ∧ Row w' k (W * H) F ∧ Below w.heap.size w w'
/-- The zero grid came back, with an error. -/
def ErrGrid (w : World) (err : Int) (e : Ending) (w' : World) : Prop :=
  e = .returned (.tuple #[.agg #[.int .i64 0, .int .i64 0, .slice none 0 0], .int .i64 err]) ∧ Below w.heap.size w w'

theorem chk_zero {W H : Nat} (hW0 : 1 ≤ W) (hW : W ≤ 64) (hH0 : 1 ≤ H) (hH : H ≤ 64) : chk W H (W * H) = 0 := by
  unfold chk
  rw [if_neg (by omega), if_neg]
  rintro (h | h | h)
  · omega
  · omega
  · exact h (by simp)

theorem chk_valid {W H : Nat} (A : Option Addr) (c : Nat) (w : World) (hW0 : 1 ≤ W) (hW : W ≤ 64) (hH0 : 1 ≤ H) (hH : H ≤ 64) :
    Calls Try.prog 70 #[.agg #[.int .i64 W, .int .i64 H, .slice A (W * H) c]] w fun e w' => e = .returned (.int .i64 0) ∧ Below w.heap.size w w' := by
  have h := chk_any W H A (W * H) c w (by have := Nat.mul_le_mul hW hH; omega)
  rw [chk_zero hW0 hW hH0 hH] at h
  exact h

theorem mk_fn : ∀ (fn : Fn) (first cap : Array Value) (w : World), (Instr.makeFunc fn first cap).run Try.prog w = .ok (.func fn first cap) w := fun _ _ _ _ => rfl

/-- A parameter's box and the result's box, behind the first call. -/
theorem after2 {w w1 : World} {W H : Int} {v : Value} (hb : Below ((w.alloc (.cells #[.int .i64 W, .int .i64 H, v] 24)).alloc (.cells #[.int .i64 0, .int .i64 0, .slice none 0 0] 24)).heap.size
      ((w.alloc (.cells #[.int .i64 W, .int .i64 H, v] 24)).alloc (.cells #[.int .i64 0, .int .i64 0, .slice none 0 0] 24)) w1) :
    Box w1 w.heap.size W H v ∧ Box w1 (w.heap.size + 1) 0 0 (.slice none 0 0) ∧ Below w.heap.size w w1 ∧ w.heap.size + 2 ≤ w1.heap.size := by
  have h1 := ((Box.new w W H v).alloc (.cells #[.int .i64 0, .int .i64 0, .slice none 0 0] 24)).below hb (by simp; omega)
  have h2 := (Box.new (w.alloc (.cells #[.int .i64 W, .int .i64 H, v] 24)) 0 0 (.slice none 0 0)).below hb (by simp)
  have h3 : Below w.heap.size w w1 := (((Below.refl _ _).alloc (Nat.le_refl _) _).alloc (by simp) _).trans (hb.mono (by simp; omega))
  have h4 := hb.size
  simp at h2 h4
  exact ⟨h1, h2, h3, by omega⟩

theorem fin_ok {w w2 : World} {W H k r : Nat} {F : Nat → Bool} {a b d : Value} (hr : w.heap.size ≤ r) (hk : r < k) (hrow : Row w2 k (W * H) F) (hb : Below w.heap.size w w2) :
    OkGrid w W H F (.returned (.tuple #[.agg #[.int .i64 W, .int .i64 H, .slice (some ⟨k, 0, none⟩) (W * H) (W * H)], .int .i64 0])) (((w2.setCell ⟨r, 0, none⟩ a).setCell ⟨r, 1, none⟩ b).setCell ⟨r, 2, none⟩ d) :=
  ⟨k, rfl, by omega, ((hrow.far (by simp; omega) _).far (by simp; omega) _).far (by simp; omega) _, ((hb.setCell hr _).setCell hr _).setCell hr _⟩

theorem fin_err {w w2 : World} {err : Int} {r : Nat} {a b d : Value} (hr : w.heap.size ≤ r) (hb : Below w.heap.size w w2) :
    ErrGrid w err (.returned (.tuple #[.agg #[.int .i64 0, .int .i64 0, .slice none 0 0], .int .i64 err])) (((w2.setCell ⟨r, 0, none⟩ a).setCell ⟨r, 1, none⟩ b).setCell ⟨r, 2, none⟩ d) :=
  ⟨rfl, ((hb.setCell hr _).setCell hr _).setCell hr _⟩
theorem chk_err {W H : Int} {A : Option Addr} {n c : Nat} {err : Int} (hn : n ≤ 4200) (hx : chk W H n = err) (w : World) :
    Calls Try.prog 70 #[.agg #[.int .i64 W, .int .i64 H, .slice A n c]] w fun e w' => e = .returned (.int .i64 err) ∧ Below w.heap.size w w' := by
  have h := chk_any W H A n c w hn
  rw [hx] at h
  exact h
theorem nat_div_mod (W i : Nat) : i / W * W + i % W = i := by rw [Nat.mul_comm, Nat.div_add_mod]


set_option maxHeartbeats 400000 in
theorem not_err (W H : Int) (A : Option Addr) (n c : Nat) (w : World) (err : Int) (hn : n ≤ 4200) (hx : chk W H n = err) (hne : (err != 0) = true) :
    Calls Try.prog 120 #[.agg #[.int .i64 W, .int .i64 H, .slice A n c]] w (ErrGrid w err) := by
  have HC := Lib.hid (chk_err (A := A) (c := c) hn hx)
  clear hx
  go_enter Try.func120, Try.ntmps120
  go_wp2_with fail
  refine (HC.out _).mono ?_
  rintro e w1 ⟨rfl, hb1⟩
  obtain ⟨hbox1, hbox2, hbel1, hsz1⟩ := after2 hb1
  clear hb1
  obtain ⟨p0, p1, p2, p3, p4, p5, p6⟩ := hbox2.all
  go_wp2
  refine bodyPost_ret (v := .tuple #[.agg #[.int .i64 0, .int .i64 0, .slice none 0 0], .int .i64 err]) (by simp [results, Try.results120, go_sem, p0, p1, p2]) rfl ?_
  exact fin_err (by omega) hbel1

set_option maxHeartbeats 400000 in
theorem not_ok (W H : Nat) (A : Option Addr) (c : Nat) (f : Nat → Bool) (w : World) (hr : Holds w w.heap.size A (W * H) f) (hW0 : 1 ≤ W) (hW : W ≤ 64) (hH0 : 1 ≤ H) (hH : H ≤ 64) :
    Calls Try.prog 120 #[.agg #[.int .i64 W, .int .i64 H, .slice A (W * H) c]] w (OkGrid w W H fun i => !f i) := by
  have hmf := mk_fn
  have HR := Lib.hid hr
  clear hr
  go_enter Try.func120, Try.ntmps120
  go_wp2_with fail
  refine (chk_valid A c _ hW0 hW hH0 hH).mono ?_
  rintro e w1 ⟨rfl, hb1⟩
  obtain ⟨hbox1, hbox2, hbel1, hsz1⟩ := after2 hb1
  clear hb1
  obtain ⟨q0, q1, q2, q3, q4, q5, q6⟩ := hbox1.all
  go_wp2_with fail
  refine (build_any W H hW0 hW hH0 hH 136 _ _ _ (not_clo ⟨hbox1, (HR.out.below hbel1).more hbel1.size, hW0, hW, hH0, hH⟩) (Go.Proofs.enters_of Try.func136 (by kernel_rfl) rfl)).mono ?_
  rintro e w2 ⟨k, rfl, hk, hrow, hb2⟩
  have hbox3 := hbox2.below hb2 (by omega)
  obtain ⟨p0, p1, p2, p3, p4, p5, p6⟩ := hbox3.all
  go_wp2
  refine bodyPost_ret (v := .tuple #[.agg #[.int .i64 W, .int .i64 H, .slice (some ⟨k, 0, none⟩) (W * H) (W * H)], .int .i64 0]) (by simp [results, Try.results120, go_sem, p0, p1, p2]) rfl ?_
  exact fin_ok (by omega) (by omega) (hrow.congr fun i hi => by rw [nat_div_mod]) (hbel1.trans (hb2.mono hbel1.size))

set_option maxHeartbeats 400000 in
theorem turn_err (W H : Int) (A : Option Addr) (n c : Nat) (w : World) (err : Int) (hn : n ≤ 4200) (hx : chk W H n = err) (hne : (err != 0) = true) :
    Calls Try.prog 119 #[.agg #[.int .i64 W, .int .i64 H, .slice A n c]] w (ErrGrid w err) := by
  have HC := Lib.hid (chk_err (A := A) (c := c) hn hx)
  clear hx
  go_enter Try.func119, Try.ntmps119
  go_wp2_with fail
  refine (HC.out _).mono ?_
  rintro e w1 ⟨rfl, hb1⟩
  obtain ⟨hbox1, hbox2, hbel1, hsz1⟩ := after2 hb1
  clear hb1
  obtain ⟨p0, p1, p2, p3, p4, p5, p6⟩ := hbox2.all
  go_wp2
  refine bodyPost_ret (v := .tuple #[.agg #[.int .i64 0, .int .i64 0, .slice none 0 0], .int .i64 err]) (by simp [results, Try.results119, go_sem, p0, p1, p2]) rfl ?_
  exact fin_err (by omega) hbel1

set_option maxHeartbeats 400000 in
theorem turn_ok (W H : Nat) (A : Option Addr) (c : Nat) (f : Nat → Bool) (w : World) (hr : Holds w w.heap.size A (W * H) f) (hW0 : 1 ≤ W) (hW : W ≤ 64) (hH0 : 1 ≤ H) (hH : H ≤ 64) :
    Calls Try.prog 119 #[.agg #[.int .i64 W, .int .i64 H, .slice A (W * H) c]] w (OkGrid w H W fun i => f (i % H * W + i / H)) := by
  have hmf := mk_fn
  have HR := Lib.hid hr
  clear hr
  go_enter Try.func119, Try.ntmps119
  go_wp2_with fail
  refine (chk_valid A c _ hW0 hW hH0 hH).mono ?_
  rintro e w1 ⟨rfl, hb1⟩
  obtain ⟨hbox1, hbox2, hbel1, hsz1⟩ := after2 hb1
  clear hb1
  obtain ⟨q0, q1, q2, q3, q4, q5, q6⟩ := hbox1.all
  go_wp2_with fail
  refine (build_any H W hH0 hH hW0 hW 135 _ _ _ (turn_clo ⟨hbox1, (HR.out.below hbel1).more hbel1.size, hW0, hW, hH0, hH⟩) (Go.Proofs.enters_of Try.func135 (by kernel_rfl) rfl)).mono ?_
  rintro e w2 ⟨k, rfl, hk, hrow, hb2⟩
  have hbox3 := hbox2.below hb2 (by omega)
  obtain ⟨p0, p1, p2, p3, p4, p5, p6⟩ := hbox3.all
  go_wp2
  refine bodyPost_ret (v := .tuple #[.agg #[.int .i64 H, .int .i64 W, .slice (some ⟨k, 0, none⟩) (H * W) (H * W)], .int .i64 0]) (by simp [results, Try.results119, go_sem, p0, p1, p2]) rfl ?_
  exact fin_ok (by omega) (by omega) (hrow.congr fun i hi => rfl) (hbel1.trans (hb2.mono hbel1.size))

set_option maxHeartbeats 400000 in
theorem mirror_err (W H : Int) (A : Option Addr) (n c : Nat) (axis : Int) (w : World) (err : Int) (hn : n ≤ 4200) (hx : chk W H n = err) (hne : (err != 0) = true) :
    Calls Try.prog 118 #[.agg #[.int .i64 W, .int .i64 H, .slice A n c], .int .i64 axis] w (ErrGrid w err) := by
  have HC := Lib.hid (chk_err (A := A) (c := c) hn hx)
  clear hx
  go_enter Try.func118, Try.ntmps118
  go_wp2_with fail
  refine (HC.out _).mono ?_
  rintro e w1 ⟨rfl, hb1⟩
  obtain ⟨hbox1, hbox2, hbel1, hsz1⟩ := after2 hb1
  clear hb1
  obtain ⟨p0, p1, p2, p3, p4, p5, p6⟩ := hbox2.all
  go_wp2
  refine bodyPost_ret (v := .tuple #[.agg #[.int .i64 0, .int .i64 0, .slice none 0 0], .int .i64 err]) (by simp [results, Try.results118, go_sem, p0, p1, p2]) rfl ?_
  exact fin_err (by omega) hbel1

set_option maxHeartbeats 400000 in
theorem mirror_ok0 (W H : Nat) (A : Option Addr) (c : Nat) (f : Nat → Bool) (w : World) (hr : Holds w w.heap.size A (W * H) f) (hW0 : 1 ≤ W) (hW : W ≤ 64) (hH0 : 1 ≤ H) (hH : H ≤ 64) :
    Calls Try.prog 118 #[.agg #[.int .i64 W, .int .i64 H, .slice A (W * H) c], .int .i64 0] w (OkGrid w W H fun i => f (i / W * W + (W - 1 - i % W))) := by
  have hmf := mk_fn
  have HR := Lib.hid hr
  clear hr
  go_enter Try.func118, Try.ntmps118
  go_wp2_with fail
  refine (chk_valid A c _ hW0 hW hH0 hH).mono ?_
  rintro e w1 ⟨rfl, hb1⟩
  obtain ⟨hbox1, hbox2, hbel1, hsz1⟩ := after2 hb1
  clear hb1
  obtain ⟨q0, q1, q2, q3, q4, q5, q6⟩ := hbox1.all
  go_wp2_with fail
  refine (build_any W H hW0 hW hH0 hH 133 _ _ _ (mir0_clo ⟨hbox1, (HR.out.below hbel1).more hbel1.size, hW0, hW, hH0, hH⟩) (Go.Proofs.enters_of Try.func133 (by kernel_rfl) rfl)).mono ?_
  rintro e w2 ⟨k, rfl, hk, hrow, hb2⟩
  have hbox3 := hbox2.below hb2 (by omega)
  obtain ⟨p0, p1, p2, p3, p4, p5, p6⟩ := hbox3.all
  go_wp2
  refine bodyPost_ret (v := .tuple #[.agg #[.int .i64 W, .int .i64 H, .slice (some ⟨k, 0, none⟩) (W * H) (W * H)], .int .i64 0]) (by simp [results, Try.results118, go_sem, p0, p1, p2]) rfl ?_
  exact fin_ok (by omega) (by omega) (hrow.congr fun i hi => rfl) (hbel1.trans (hb2.mono hbel1.size))

set_option maxHeartbeats 400000 in
theorem mirror_ok1 (W H : Nat) (A : Option Addr) (c : Nat) (f : Nat → Bool) (w : World) (hr : Holds w w.heap.size A (W * H) f) (hW0 : 1 ≤ W) (hW : W ≤ 64) (hH0 : 1 ≤ H) (hH : H ≤ 64) :
    Calls Try.prog 118 #[.agg #[.int .i64 W, .int .i64 H, .slice A (W * H) c], .int .i64 1] w (OkGrid w W H fun i => f ((H - 1 - i / W) * W + i % W)) := by
  have hmf := mk_fn
  have HR := Lib.hid hr
  clear hr
  go_enter Try.func118, Try.ntmps118
  go_wp2_with fail
  refine (chk_valid A c _ hW0 hW hH0 hH).mono ?_
  rintro e w1 ⟨rfl, hb1⟩
  obtain ⟨hbox1, hbox2, hbel1, hsz1⟩ := after2 hb1
  clear hb1
  obtain ⟨q0, q1, q2, q3, q4, q5, q6⟩ := hbox1.all
  go_wp2_with fail
  refine (build_any W H hW0 hW hH0 hH 134 _ _ _ (mir1_clo ⟨hbox1, (HR.out.below hbel1).more hbel1.size, hW0, hW, hH0, hH⟩) (Go.Proofs.enters_of Try.func134 (by kernel_rfl) rfl)).mono ?_
  rintro e w2 ⟨k, rfl, hk, hrow, hb2⟩
  have hbox3 := hbox2.below hb2 (by omega)
  obtain ⟨p0, p1, p2, p3, p4, p5, p6⟩ := hbox3.all
  go_wp2
  refine bodyPost_ret (v := .tuple #[.agg #[.int .i64 W, .int .i64 H, .slice (some ⟨k, 0, none⟩) (W * H) (W * H)], .int .i64 0]) (by simp [results, Try.results118, go_sem, p0, p1, p2]) rfl ?_
  exact fin_ok (by omega) (by omega) (hrow.congr fun i hi => rfl) (hbel1.trans (hb2.mono hbel1.size))

set_option maxHeartbeats 400000 in
theorem mirror_arg (W H : Nat) (A : Option Addr) (c : Nat) (axis : Int) (w : World) (hW0 : 1 ≤ W) (hW : W ≤ 64) (hH0 : 1 ≤ H) (hH : H ≤ 64) (h0 : ¬ axis = 0) (h1 : ¬ axis = 1) :
    Calls Try.prog 118 #[.agg #[.int .i64 W, .int .i64 H, .slice A (W * H) c], .int .i64 axis] w (ErrGrid w 2) := by
  have z0 : (axis == 0) = false := by simp [h0]
  have z1 : (axis == 1) = false := by simp [h1]
  go_enter Try.func118, Try.ntmps118
  go_wp2_with fail
  refine (chk_valid A c _ hW0 hW hH0 hH).mono ?_
  rintro e w1 ⟨rfl, hb1⟩
  obtain ⟨hbox1, hbox2, hbel1, hsz1⟩ := after2 hb1
  clear hb1
  obtain ⟨p0, p1, p2, p3, p4, p5, p6⟩ := hbox2.all
  go_wp2
  refine bodyPost_ret (v := .tuple #[.agg #[.int .i64 0, .int .i64 0, .slice none 0 0], .int .i64 2]) (by simp [results, Try.results118, go_sem, p0, p1, p2]) rfl ?_
  exact fin_err (by omega) hbel1
end Go.Proofs.Ytjbofdgdcnfmoaa
