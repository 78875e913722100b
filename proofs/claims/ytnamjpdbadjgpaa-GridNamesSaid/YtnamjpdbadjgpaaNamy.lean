/- GridNames: the contracts at the statement's own numbers. -/
import Derived.Test.YtnamjpdbadjgpaaNamw
import Derived.Test.YtnamjpdbadjgpaaAlgy
namespace Go.Proofs.Ytnamjpdbadjgpaa
open Go.RowKit
set_option linter.unusedVariables false
set_option linter.unusedSimpArgs false

def nF (i : Nat) : Bool := !givenF i
def mF (i : Nat) : Bool := givenF (i / 3 * 3 + (3 - 1 - i % 3))
def oF (i : Nat) : Bool := givenF ((2 - 1 - i / 3) * 3 + i % 3)
def pF (i : Nat) : Bool := givenF (i / (2 * 3) % 2 * 3 + i % (2 * 3) % 3)
def qF (i : Nat) : Bool := givenF ((0 + i / 2) * 3 + (1 + i % 2))
def rF (i : Nat) : Bool := (givenF i && mF i)
def sF (i : Nat) : Bool := (givenF i || mF i)
def xF (i : Nat) : Bool := givenF (ay 3 2 (9223372036854775807 % 2) i * 3 + ax 3 (-9223372036854775808 % 3) i)
theorem xn : T 3 2 nF = ⟨#[120, 46, 46, 10, 46, 120, 120, 10]⟩ := by decide +kernel
theorem xm : T 3 2 mF = ⟨#[120, 120, 46, 10, 46, 46, 120, 10]⟩ := by decide +kernel
theorem xo : T 3 2 oF = ⟨#[120, 46, 46, 10, 46, 120, 120, 10]⟩ := by decide +kernel
theorem xp : T 6 2 pF = ⟨#[46, 120, 120, 46, 120, 120, 10, 120, 46, 46, 120, 46, 46, 10]⟩ := by decide +kernel
theorem xq : T 2 2 qF = ⟨#[120, 120, 10, 46, 46, 10]⟩ := by decide +kernel
theorem xr : T 3 2 rF = ⟨#[46, 120, 46, 10, 46, 46, 46, 10]⟩ := by decide +kernel
theorem xs : T 3 2 sF = ⟨#[120, 120, 120, 10, 120, 46, 120, 10]⟩ := by decide +kernel
theorem xx : T 3 2 xF = ⟨#[46, 120, 46, 10, 120, 46, 120, 10]⟩ := by decide +kernel

theorem m0 (w h : Nat) : ¬ Txt ⟨#[]⟩ w h := by
  rintro ⟨_, _, h1, _, e, _, _⟩
  have e' : h * (w + 1) = 0 := e
  have := Nat.mul_pos h1 (show 0 < w + 1 by omega)
  omega
theorem m1 (w h : Nat) : ¬ Txt ⟨#[10]⟩ w h := by
  rintro ⟨a, _, _, _, _, _, e⟩
  have : Lib.indexByte [10] 10 = 0 := by decide +kernel
  have e' : Lib.indexByte [10] 10 = (w : Int) := e
  omega
theorem m2 (w h : Nat) : ¬ Txt ⟨#[120, 10, 10]⟩ w h := by
  rintro ⟨_, _, _, _, e5, _, e⟩
  have : Lib.indexByte [120, 10, 10] 10 = 1 := by decide +kernel
  have e' : Lib.indexByte [120, 10, 10] 10 = (w : Int) := e
  have : w = 1 := by omega
  subst this
  have : h * 2 = 3 := e5
  omega
theorem m3 (w h : Nat) : ¬ Txt ⟨#[88, 10]⟩ w h := by
  rintro ⟨_, _, _, _, _, L, e⟩
  have : Lib.indexByte [88, 10] 10 = 1 := by decide +kernel
  have e' : Lib.indexByte [88, 10] 10 = (w : Int) := e
  have : w = 1 := by omega
  subst this
  have h0 := L.2 0 (by decide)
  unfold okAt at h0
  rw [if_neg (by decide)] at h0
  rcases h0 with h0 | h0
  · have h1 : (88 : Nat) = 120 := h0
    omega
  · have h1 : (88 : Nat) = 46 := h0
    omega
theorem m4 (w h : Nat) : ¬ Txt ⟨#[120, 46]⟩ w h := by
  rintro ⟨_, _, _, _, _, _, e⟩
  have : Lib.indexByte [120, 46] 10 = -1 := by decide +kernel
  have e' : Lib.indexByte [120, 46] 10 = (w : Int) := e
  omega
theorem ck (W H : Int) (A : Option Addr) (n c : Nat) (err : Int) (hn : n ≤ 4200) (hx : chk W H n = err) (v : World) :
    Calls Try.prog 20 #[.agg #[.int .i64 W, .int .i64 H, .slice A n c]] v fun e w' => e = .returned (.int .i64 err) ∧ Below v.heap.size v w' := chk_err hn hx v
theorem same_zero (v : World) (A : Option Addr) : Calls Try.prog 21 #[.agg #[.int .i64 0, .int .i64 0, .slice none 0 0], .agg #[.int .i64 0, .int .i64 0, .slice A 0 0]] v fun e w' => e = .returned (.bool true) ∧ Below v.heap.size v w' := by
  refine (same_any 0 0 0 0 none A 0 0 0 0 (fun _ => false) (fun _ => false) v (by omega) Holds.none_ Holds.none_).mono ?_
  rintro e w' ⟨rfl, hb⟩
  exact ⟨ret_bool (by simp), hb⟩

theorem c_not (v : World) (k : Nat) (R : Row v k 6 givenF) : Calls Try.prog 12 #[.agg #[.int .i64 3, .int .i64 2, .slice (some ⟨k, 0, none⟩) 6 6]] v (OkLit v 3 2 6 nF) :=
  (not_ok 3 2 (some ⟨k, 0, none⟩) 6 givenF v (R.holds R.lt) (by decide) (by decide) (by decide) (by decide)).mono fun e w' o => o
theorem c_mir0 (v : World) (k : Nat) (R : Row v k 6 givenF) : Calls Try.prog 13 #[.agg #[.int .i64 3, .int .i64 2, .slice (some ⟨k, 0, none⟩) 6 6], .int .i64 0] v (OkLit v 3 2 6 mF) :=
  (mirror_ok0 3 2 (some ⟨k, 0, none⟩) 6 givenF v (R.holds R.lt) (by decide) (by decide) (by decide) (by decide)).mono fun e w' o => o
theorem c_mir1 (v : World) (k : Nat) (R : Row v k 6 givenF) : Calls Try.prog 13 #[.agg #[.int .i64 3, .int .i64 2, .slice (some ⟨k, 0, none⟩) 6 6], .int .i64 1] v (OkLit v 3 2 6 oF) :=
  (mirror_ok1 3 2 (some ⟨k, 0, none⟩) 6 givenF v (R.holds R.lt) (by decide) (by decide) (by decide) (by decide)).mono fun e w' o => o
theorem c_tile (v : World) (k : Nat) (R : Row v k 6 givenF) : Calls Try.prog 14 #[.agg #[.int .i64 3, .int .i64 2, .slice (some ⟨k, 0, none⟩) 6 6], .int .i64 2, .int .i64 1] v (OkLit v 6 2 12 pF) :=
  (tile_ok 3 2 (some ⟨k, 0, none⟩) 6 2 1 v (by decide) (by decide) (by decide) (by decide) givenF (R.holds R.lt) (by decide) (by decide) (by decide) (by decide)).mono fun e w' o => o
theorem c_part (v : World) (k : Nat) (R : Row v k 6 givenF) : Calls Try.prog 15 #[.agg #[.int .i64 3, .int .i64 2, .slice (some ⟨k, 0, none⟩) 6 6], .int .i64 1, .int .i64 0, .int .i64 2, .int .i64 2] v (OkLit v 2 2 4 qF) :=
  (part_ok 3 2 (some ⟨k, 0, none⟩) 6 1 0 2 2 v (by decide) (by decide) (by decide) (by decide) givenF (R.holds R.lt) (by decide) (by decide) (by decide) (by decide)).mono fun e w' o => o
theorem c_and (v : World) (k l : Nat) (R : Row v k 6 givenF) (R2 : Row v l 6 mF) : Calls Try.prog 16 #[.agg #[.int .i64 3, .int .i64 2, .slice (some ⟨k, 0, none⟩) 6 6], .agg #[.int .i64 3, .int .i64 2, .slice (some ⟨l, 0, none⟩) 6 6]] v (OkLit v 3 2 6 rF) :=
  (and_ok 3 2 (some ⟨k, 0, none⟩) (some ⟨l, 0, none⟩) 6 6 givenF mF v (R.holds R.lt) (R2.holds R2.lt) (by decide) (by decide) (by decide) (by decide)).mono fun e w' o => o
theorem c_or (v : World) (k l : Nat) (R : Row v k 6 givenF) (R2 : Row v l 6 mF) : Calls Try.prog 17 #[.agg #[.int .i64 3, .int .i64 2, .slice (some ⟨k, 0, none⟩) 6 6], .agg #[.int .i64 3, .int .i64 2, .slice (some ⟨l, 0, none⟩) 6 6]] v (OkLit v 3 2 6 sF) :=
  (or_ok 3 2 (some ⟨k, 0, none⟩) (some ⟨l, 0, none⟩) 6 6 givenF mF v (R.holds R.lt) (R2.holds R2.lt) (by decide) (by decide) (by decide) (by decide)).mono fun e w' o => o
theorem c_shift (v : World) (k : Nat) (R : Row v k 6 givenF) : Calls Try.prog 19 #[.agg #[.int .i64 3, .int .i64 2, .slice (some ⟨k, 0, none⟩) 6 6], .int .i64 (-9223372036854775808), .int .i64 9223372036854775807] v (OkLit v 3 2 6 xF) :=
  (shift_ok 3 2 (some ⟨k, 0, none⟩) 6 givenF (-9223372036854775808) 9223372036854775807 v (R.holds R.lt) (by decide) (by decide) (by decide) (by decide) (by decide) (by decide) (by decide) (by decide)).mono fun e w' o => o
theorem rd (X Y : Nat) (F : Nat → Bool) (s : ByteArray) (ht : T X Y F = s) (a1 : 1 ≤ X) (a2 : X ≤ 64) (a3 : 1 ≤ Y) (a4 : Y ≤ 64) (v : World) (k : Nat) (R : Row v k (X * Y) F) :
    Calls Try.prog 18 #[.string s, .agg #[.int .i64 X, .int .i64 Y, .slice (some ⟨k, 0, none⟩) (X * Y) (X * Y)], .int .i64 0] v fun e w' => e = .returned (.bool true) ∧ Below v.heap.size v w' := by
  rw [← ht]
  exact reads_yes X Y (some ⟨k, 0, none⟩) (X * Y) F v (R.holds R.lt) a1 a2 a3 a4

theorem names_any (w : World) : Calls Try.prog 3 #[] w fun e w' => e = .returned (.bool true) ∧ Below w.heap.size w w' :=
  names_core w (madeCells #[.bool false] (64 * 64)) (madeCells #[.bool false] (65 * 1)) (madeCells #[.bool false] (3 * 1)) (madeCells #[.bool false] (1 * 1))
    (fun w => make_run 64 64 (by decide) w) (fun w => make_run 65 1 (by decide) w) (fun w => make_run 3 1 (by decide) w) (fun w => make_run 1 1 (by decide) w)
    givenF nF mF oF pF qF rF sF xF
    given_ok c_not c_mir0 c_mir1 c_tile c_part c_and c_or
    (fun v k R => rd 3 2 nF _ xn (by decide) (by decide) (by decide) (by decide) v k R) (fun v k R => rd 3 2 mF _ xm (by decide) (by decide) (by decide) (by decide) v k R)
    (fun v k R => rd 3 2 oF _ xo (by decide) (by decide) (by decide) (by decide) v k R) (fun v k R => rd 6 2 pF _ xp (by decide) (by decide) (by decide) (by decide) v k R)
    (fun v k R => rd 2 2 qF _ xq (by decide) (by decide) (by decide) (by decide) v k R) (fun v k R => rd 3 2 rF _ xr (by decide) (by decide) (by decide) (by decide) v k R)
    (fun v k R => rd 3 2 sF _ xs (by decide) (by decide) (by decide) (by decide) v k R) (fun v k R => rd 3 2 xF _ xx (by decide) (by decide) (by decide) (by decide) v k R)
    (fun v k => tile_many2 64 64 (some ⟨k, 0, none⟩) 4096 1 2 v (by decide) (by decide) (by decide) (by decide) (by decide) (by decide) (by decide) (by decide))
    (fun v k => tile_arg1 3 2 (some ⟨k, 0, none⟩) 6 0 1 v (by decide) (by decide) (by decide) (by decide) (by decide))
    (fun v k => mirror_arg 3 2 (some ⟨k, 0, none⟩) 6 2 v (by decide) (by decide) (by decide) (by decide) (by decide) (by decide))
    (fun v k => part_arg1 3 2 (some ⟨k, 0, none⟩) 6 1 0 3 1 v (by decide) (by decide) (by decide) (by decide) (by decide) (by decide))
    (fun v k => part_arg1 3 2 (some ⟨k, 0, none⟩) 6 0 0 0 1 v (by decide) (by decide) (by decide) (by decide) (by decide) (by decide))
    (fun v k l => and_of_err 3 2 2 2 (some ⟨k, 0, none⟩) (some ⟨l, 0, none⟩) 6 4 6 4 v 2 fun w' _ => comb_arg 3 2 2 2 (some ⟨k, 0, none⟩) (some ⟨l, 0, none⟩) 6 4 6 4 53 w' (by decide) (by decide) (by decide) (by decide) (by decide))
    (fun v k l => or_of_err 3 2 65 1 (some ⟨k, 0, none⟩) (some ⟨l, 0, none⟩) 6 65 6 65 v 4 fun w' _ => comb_err2 3 2 65 1 (some ⟨k, 0, none⟩) (some ⟨l, 0, none⟩) 6 65 6 65 54 w' 4 (by decide) (by decide) (by decide) (by decide) (by decide))
    (fun v k => tile_many1 3 2 (some ⟨k, 0, none⟩) 6 9223372036854775807 9223372036854775807 v (by decide) (by decide) (by decide) (by decide) (by decide) (by decide) (by decide))
    c_shift
    (fun v k => ck 64 64 _ 4096 4096 0 (by decide) (by decide) v) (fun v => ck 0 0 none 0 0 8 (by decide) (by decide) v) (fun v k => ck 2 2 _ 3 3 8 (by decide) (by decide) v)
    (fun v => ck 65 (-1) none 0 0 4 (by decide) (by decide) v) (fun v k => ck (-1) (-1) _ 1 1 8 (by decide) (by decide) v)
    same_zero
    (fun v => refused_yes ⟨#[]⟩ v (by decide) m0) (fun v => refused_yes ⟨#[10]⟩ v (by decide) m1) (fun v => refused_yes ⟨#[120, 10, 10]⟩ v (by decide) m2)
    (fun v => refused_yes ⟨#[88, 10]⟩ v (by decide) m3) (fun v => refused_yes ⟨#[120, 46]⟩ v (by decide) m4)
    alive_yes
end Go.Proofs.Ytnamjpdbadjgpaa
