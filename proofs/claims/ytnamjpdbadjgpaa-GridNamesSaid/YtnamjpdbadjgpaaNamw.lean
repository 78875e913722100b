/- The walk of the statement GridNames. -/
import Derived.Test.YtnamjpdbadjgpaaGv
import Derived.Test.YtnamjpdbadjgpaaEq
import Derived.Deep.RegionHeld3
import Derived.Deep.DeepCutAuto
namespace Go.Proofs.Ytnamjpdbadjgpaa
open Go.RowKit
set_option linter.unusedVariables false
set_option linter.unusedSimpArgs false

/-- A grid came back, its sides and its length said in numbers. -/
def OkLit (w : World) (X Y : Int) (n : Nat) (F : Nat → Bool) (e : Ending) (w' : World) : Prop :=
  ∃ k, e = .returned (.tuple #[.agg #[.int .i64 X, .int .i64 Y, .slice (some ⟨k, 0, none⟩) n n], .int .i64 0]) ∧ w.heap.size ≤ k ∧ Row w' k n F ∧ Below w.heap.size w w'
structure Gw (v : World) (b : Nat) (X Y : Int) (n k : Nat) (F : Nat → Bool) : Prop where
  box : Box v b X Y (.slice (some ⟨k, 0, none⟩) n n)
  row : Row v k n F
section
variable {v v' : World} {b n k : Nat} {X Y : Int} {F : Nat → Bool}
theorem Gw.next (h : Gw v b X Y n k F) (hb : Below v.heap.size v v') : Gw v' b X Y n k F := ⟨h.box.below hb h.box.lt, h.row.below hb h.row.lt⟩
theorem Gw.alloc (h : Gw v b X Y n k F) (o : Obj) : Gw (v.alloc o) b X Y n k F := ⟨h.box.alloc o, h.row.alloc o⟩
theorem Gw.new (X Y : Int) {n k : Nat} {F : Nat → Bool} (hrow : Row v k n F) : Gw (v.alloc (.cells #[.int .i64 X, .int .i64 Y, .slice (some ⟨k, 0, none⟩) n n] 24)) v.heap.size X Y n k F := ⟨Box.new v X Y _, hrow.alloc _⟩
end
theorem first_below {v0 X u : World} (hX : Below v0.heap.size v0 X) (hb : Below X.heap.size X u) : Below v0.heap.size v0 u := hX.trans (hb.mono hX.size)
/-- Only how the world has grown. -/
structure LZ (w v : World) : Prop where
  bel : Below w.heap.size w v
theorem LZ.next {w v v' : World} (h : LZ w v) (hb : Below v.heap.size v v') : LZ w v' := ⟨h.bel.trans (hb.mono h.bel.size)⟩
theorem LZ.alloc {w v : World} (h : LZ w v) (o : Obj) : LZ w (v.alloc o) := h.next ((Below.refl _ _).alloc (Nat.le_refl _) o)

set_option maxRecDepth 100000 in
set_option maxHeartbeats 4000000 in
theorem names_core (w : World) (C1 C2 C3 C4 : Array Value) (HM1' : ∀ w, (Instr.makeSlice 22 (.int .i64 4096) (.int .i64 4096)).run Try.prog w = .ok (.slice (some ⟨w.heap.size, 0, none⟩) 4096 4096) (w.alloc (.cells C1 4)))
    (HM2' : ∀ w, (Instr.makeSlice 22 (.int .i64 65) (.int .i64 65)).run Try.prog w = .ok (.slice (some ⟨w.heap.size, 0, none⟩) 65 65) (w.alloc (.cells C2 4)))
    (HM3' : ∀ w, (Instr.makeSlice 22 (.int .i64 3) (.int .i64 3)).run Try.prog w = .ok (.slice (some ⟨w.heap.size, 0, none⟩) 3 3) (w.alloc (.cells C3 4)))
    (HM4' : ∀ w, (Instr.makeSlice 22 (.int .i64 1) (.int .i64 1)).run Try.prog w = .ok (.slice (some ⟨w.heap.size, 0, none⟩) 1 1) (w.alloc (.cells C4 4)))
    (fg fn fm fo fp fq fr fs fx : Nat → Bool)
    (HG : ∀ v, Calls Try.prog 11 #[] v fun e w' => ∃ k, e = .returned (.agg #[.int .i64 3, .int .i64 2, .slice (some ⟨k, 0, none⟩) 6 6]) ∧ v.heap.size ≤ k ∧ Row w' k 6 fg ∧ Below v.heap.size v w')
    (HN : ∀ v k, Row v k 6 fg → Calls Try.prog 12 #[.agg #[.int .i64 3, .int .i64 2, .slice (some ⟨k, 0, none⟩) 6 6]] v (OkLit v 3 2 6 fn))
    (HM0 : ∀ v k, Row v k 6 fg → Calls Try.prog 13 #[.agg #[.int .i64 3, .int .i64 2, .slice (some ⟨k, 0, none⟩) 6 6], .int .i64 0] v (OkLit v 3 2 6 fm))
    (HM1 : ∀ v k, Row v k 6 fg → Calls Try.prog 13 #[.agg #[.int .i64 3, .int .i64 2, .slice (some ⟨k, 0, none⟩) 6 6], .int .i64 1] v (OkLit v 3 2 6 fo))
    (HTl : ∀ v k, Row v k 6 fg → Calls Try.prog 14 #[.agg #[.int .i64 3, .int .i64 2, .slice (some ⟨k, 0, none⟩) 6 6], .int .i64 2, .int .i64 1] v (OkLit v 6 2 12 fp))
    (HPa : ∀ v k, Row v k 6 fg → Calls Try.prog 15 #[.agg #[.int .i64 3, .int .i64 2, .slice (some ⟨k, 0, none⟩) 6 6], .int .i64 1, .int .i64 0, .int .i64 2, .int .i64 2] v (OkLit v 2 2 4 fq))
    (HAn : ∀ v k l, Row v k 6 fg → Row v l 6 fm → Calls Try.prog 16 #[.agg #[.int .i64 3, .int .i64 2, .slice (some ⟨k, 0, none⟩) 6 6], .agg #[.int .i64 3, .int .i64 2, .slice (some ⟨l, 0, none⟩) 6 6]] v (OkLit v 3 2 6 fr))
    (HOr : ∀ v k l, Row v k 6 fg → Row v l 6 fm → Calls Try.prog 17 #[.agg #[.int .i64 3, .int .i64 2, .slice (some ⟨k, 0, none⟩) 6 6], .agg #[.int .i64 3, .int .i64 2, .slice (some ⟨l, 0, none⟩) 6 6]] v (OkLit v 3 2 6 fs))
    (HRn : ∀ v k, Row v k 6 fn → Calls Try.prog 18 #[.string ⟨#[120, 46, 46, 10, 46, 120, 120, 10]⟩, .agg #[.int .i64 3, .int .i64 2, .slice (some ⟨k, 0, none⟩) 6 6], .int .i64 0] v fun e w' => e = .returned (.bool true) ∧ Below v.heap.size v w')
    (HRm : ∀ v k, Row v k 6 fm → Calls Try.prog 18 #[.string ⟨#[120, 120, 46, 10, 46, 46, 120, 10]⟩, .agg #[.int .i64 3, .int .i64 2, .slice (some ⟨k, 0, none⟩) 6 6], .int .i64 0] v fun e w' => e = .returned (.bool true) ∧ Below v.heap.size v w')
    (HRo : ∀ v k, Row v k 6 fo → Calls Try.prog 18 #[.string ⟨#[120, 46, 46, 10, 46, 120, 120, 10]⟩, .agg #[.int .i64 3, .int .i64 2, .slice (some ⟨k, 0, none⟩) 6 6], .int .i64 0] v fun e w' => e = .returned (.bool true) ∧ Below v.heap.size v w')
    (HRp : ∀ v k, Row v k 12 fp → Calls Try.prog 18 #[.string ⟨#[46, 120, 120, 46, 120, 120, 10, 120, 46, 46, 120, 46, 46, 10]⟩, .agg #[.int .i64 6, .int .i64 2, .slice (some ⟨k, 0, none⟩) 12 12], .int .i64 0] v fun e w' => e = .returned (.bool true) ∧ Below v.heap.size v w')
    (HRq : ∀ v k, Row v k 4 fq → Calls Try.prog 18 #[.string ⟨#[120, 120, 10, 46, 46, 10]⟩, .agg #[.int .i64 2, .int .i64 2, .slice (some ⟨k, 0, none⟩) 4 4], .int .i64 0] v fun e w' => e = .returned (.bool true) ∧ Below v.heap.size v w')
    (HRr : ∀ v k, Row v k 6 fr → Calls Try.prog 18 #[.string ⟨#[46, 120, 46, 10, 46, 46, 46, 10]⟩, .agg #[.int .i64 3, .int .i64 2, .slice (some ⟨k, 0, none⟩) 6 6], .int .i64 0] v fun e w' => e = .returned (.bool true) ∧ Below v.heap.size v w')
    (HRs : ∀ v k, Row v k 6 fs → Calls Try.prog 18 #[.string ⟨#[120, 120, 120, 10, 120, 46, 120, 10]⟩, .agg #[.int .i64 3, .int .i64 2, .slice (some ⟨k, 0, none⟩) 6 6], .int .i64 0] v fun e w' => e = .returned (.bool true) ∧ Below v.heap.size v w')
    (HRx : ∀ v k, Row v k 6 fx → Calls Try.prog 18 #[.string ⟨#[46, 120, 46, 10, 120, 46, 120, 10]⟩, .agg #[.int .i64 3, .int .i64 2, .slice (some ⟨k, 0, none⟩) 6 6], .int .i64 0] v fun e w' => e = .returned (.bool true) ∧ Below v.heap.size v w')
    (HB : ∀ v k, Calls Try.prog 14 #[.agg #[.int .i64 64, .int .i64 64, .slice (some ⟨k, 0, none⟩) 4096 4096], .int .i64 1, .int .i64 2] v (ErrGrid v 4))
    (HE1 : ∀ v k, Calls Try.prog 14 #[.agg #[.int .i64 3, .int .i64 2, .slice (some ⟨k, 0, none⟩) 6 6], .int .i64 0, .int .i64 1] v (ErrGrid v 2))
    (HE2 : ∀ v k, Calls Try.prog 13 #[.agg #[.int .i64 3, .int .i64 2, .slice (some ⟨k, 0, none⟩) 6 6], .int .i64 2] v (ErrGrid v 2))
    (HE3 : ∀ v k, Calls Try.prog 15 #[.agg #[.int .i64 3, .int .i64 2, .slice (some ⟨k, 0, none⟩) 6 6], .int .i64 1, .int .i64 0, .int .i64 3, .int .i64 1] v (ErrGrid v 2))
    (HE4 : ∀ v k, Calls Try.prog 15 #[.agg #[.int .i64 3, .int .i64 2, .slice (some ⟨k, 0, none⟩) 6 6], .int .i64 0, .int .i64 0, .int .i64 0, .int .i64 1] v (ErrGrid v 2))
    (HE5 : ∀ v k l, Calls Try.prog 16 #[.agg #[.int .i64 3, .int .i64 2, .slice (some ⟨k, 0, none⟩) 6 6], .agg #[.int .i64 2, .int .i64 2, .slice (some ⟨l, 0, none⟩) 4 4]] v (ErrGrid v 2))
    (HE6 : ∀ v k l, Calls Try.prog 17 #[.agg #[.int .i64 3, .int .i64 2, .slice (some ⟨k, 0, none⟩) 6 6], .agg #[.int .i64 65, .int .i64 1, .slice (some ⟨l, 0, none⟩) 65 65]] v (ErrGrid v 4))
    (HE7 : ∀ v k, Calls Try.prog 14 #[.agg #[.int .i64 3, .int .i64 2, .slice (some ⟨k, 0, none⟩) 6 6], .int .i64 9223372036854775807, .int .i64 9223372036854775807] v (ErrGrid v 4))
    (HSh : ∀ v k, Row v k 6 fg → Calls Try.prog 19 #[.agg #[.int .i64 3, .int .i64 2, .slice (some ⟨k, 0, none⟩) 6 6], .int .i64 (-9223372036854775808), .int .i64 9223372036854775807] v (OkLit v 3 2 6 fx))
    (HK1 : ∀ v k, Calls Try.prog 20 #[.agg #[.int .i64 64, .int .i64 64, .slice (some ⟨k, 0, none⟩) 4096 4096]] v fun e w' => e = .returned (.int .i64 0) ∧ Below v.heap.size v w')
    (HK2 : ∀ v, Calls Try.prog 20 #[.agg #[.int .i64 0, .int .i64 0, .slice none 0 0]] v fun e w' => e = .returned (.int .i64 8) ∧ Below v.heap.size v w')
    (HK3 : ∀ v k, Calls Try.prog 20 #[.agg #[.int .i64 2, .int .i64 2, .slice (some ⟨k, 0, none⟩) 3 3]] v fun e w' => e = .returned (.int .i64 8) ∧ Below v.heap.size v w')
    (HK4 : ∀ v, Calls Try.prog 20 #[.agg #[.int .i64 65, .int .i64 (-1), .slice none 0 0]] v fun e w' => e = .returned (.int .i64 4) ∧ Below v.heap.size v w')
    (HK5 : ∀ v k, Calls Try.prog 20 #[.agg #[.int .i64 (-1), .int .i64 (-1), .slice (some ⟨k, 0, none⟩) 1 1]] v fun e w' => e = .returned (.int .i64 8) ∧ Below v.heap.size v w')
    (HSa : ∀ v A, Calls Try.prog 21 #[.agg #[.int .i64 0, .int .i64 0, .slice none 0 0], .agg #[.int .i64 0, .int .i64 0, .slice A 0 0]] v fun e w' => e = .returned (.bool true) ∧ Below v.heap.size v w')
    (HF0 : ∀ v, Calls Try.prog 22 #[.string ⟨#[]⟩] v fun e w' => e = .returned (.bool true) ∧ Below v.heap.size v w')
    (HF1 : ∀ v, Calls Try.prog 22 #[.string ⟨#[10]⟩] v fun e w' => e = .returned (.bool true) ∧ Below v.heap.size v w')
    (HF2 : ∀ v, Calls Try.prog 22 #[.string ⟨#[120, 10, 10]⟩] v fun e w' => e = .returned (.bool true) ∧ Below v.heap.size v w')
    (HF3 : ∀ v, Calls Try.prog 22 #[.string ⟨#[88, 10]⟩] v fun e w' => e = .returned (.bool true) ∧ Below v.heap.size v w')
    (HF4 : ∀ v, Calls Try.prog 22 #[.string ⟨#[120, 46]⟩] v fun e w' => e = .returned (.bool true) ∧ Below v.heap.size v w')
    (HA : ∀ v, Calls Try.prog 23 #[] v fun e w' => e = .returned (.bool true) ∧ Below v.heap.size v w') :
    Calls Try.prog 3 #[] w fun e w' => e = .returned (.bool true) ∧ Below w.heap.size w w' := by
  have HG := Lib.hid HG
  have HN := Lib.hid HN
  have HM0 := Lib.hid HM0
  have HM1 := Lib.hid HM1
  have HTl := Lib.hid HTl
  have HPa := Lib.hid HPa
  have HAn := Lib.hid HAn
  have HOr := Lib.hid HOr
  have HRn := Lib.hid HRn
  have HRm := Lib.hid HRm
  have HRo := Lib.hid HRo
  have HRp := Lib.hid HRp
  have HRq := Lib.hid HRq
  have HRr := Lib.hid HRr
  have HRs := Lib.hid HRs
  have HRx := Lib.hid HRx
  have HB := Lib.hid HB
  have HE1 := Lib.hid HE1
  have HE2 := Lib.hid HE2
  have HE3 := Lib.hid HE3
  have HE4 := Lib.hid HE4
  have HE5 := Lib.hid HE5
  have HE6 := Lib.hid HE6
  have HE7 := Lib.hid HE7
  have HSh := Lib.hid HSh
  have HK1 := Lib.hid HK1
  have HK2 := Lib.hid HK2
  have HK3 := Lib.hid HK3
  have HK4 := Lib.hid HK4
  have HK5 := Lib.hid HK5
  have HSa := Lib.hid HSa
  have HF0 := Lib.hid HF0
  have HF1 := Lib.hid HF1
  have HF2 := Lib.hid HF2
  have HF3 := Lib.hid HF3
  have HF4 := Lib.hid HF4
  have HA := Lib.hid HA
  have L0 := Lib.hid (⟨Below.refl w.heap.size w⟩ : LZ w w)
  go_enter Try.func3, Try.ntmps3
  go_wp2_with fail
  refine (HG.out _).mono ?_
  rintro e u1 ⟨k1, rfl, hk, hrow, hb⟩
  have L1 := Lib.hid ((L0.out.next hb).alloc (.cells #[.int .i64 3, .int .i64 2, .slice (some ⟨k1, 0, none⟩) 6 6] 24))
  have Gg1 := Lib.hid (Gw.new 3 2 hrow)
  clear hk hrow hb L0 
  obtain ⟨pa0, pa1, pa2, pa3, pa4, pa5, pa6⟩ := Gg1.out.box.all
  go_wp2_with fail
  refine (HN.out _ _ Gg1.out.row).mono ?_
  rintro e u2 ⟨k2, rfl, hk, hrow, hb⟩
  have L2 := Lib.hid ((L1.out.next hb).alloc (.cells #[.int .i64 3, .int .i64 2, .slice (some ⟨k2, 0, none⟩) 6 6] 24))
  have Gg2 := Lib.hid ((Gg1.out.next hb).alloc (.cells #[.int .i64 3, .int .i64 2, .slice (some ⟨k2, 0, none⟩) 6 6] 24))
  have Gn2 := Lib.hid (Gw.new 3 2 hrow)
  clear hk hrow hb L1 Gg1 pa0 pa1 pa2 pa3 pa4 pa5 pa6
  obtain ⟨pa0, pa1, pa2, pa3, pa4, pa5, pa6⟩ := Gg2.out.box.all
  go_wp2_with fail
  refine (HM0.out _ _ Gg2.out.row).mono ?_
  rintro e u3 ⟨k3, rfl, hk, hrow, hb⟩
  have L3 := Lib.hid ((L2.out.next hb).alloc (.cells #[.int .i64 3, .int .i64 2, .slice (some ⟨k3, 0, none⟩) 6 6] 24))
  have Gg3 := Lib.hid ((Gg2.out.next hb).alloc (.cells #[.int .i64 3, .int .i64 2, .slice (some ⟨k3, 0, none⟩) 6 6] 24))
  have Gn3 := Lib.hid ((Gn2.out.next hb).alloc (.cells #[.int .i64 3, .int .i64 2, .slice (some ⟨k3, 0, none⟩) 6 6] 24))
  have Gm3 := Lib.hid (Gw.new 3 2 hrow)
  clear hk hrow hb L2 Gg2 Gn2 pa0 pa1 pa2 pa3 pa4 pa5 pa6
  obtain ⟨pa0, pa1, pa2, pa3, pa4, pa5, pa6⟩ := Gg3.out.box.all
  go_wp2_with fail
  refine (HM1.out _ _ Gg3.out.row).mono ?_
  rintro e u4 ⟨k4, rfl, hk, hrow, hb⟩
  have L4 := Lib.hid ((L3.out.next hb).alloc (.cells #[.int .i64 3, .int .i64 2, .slice (some ⟨k4, 0, none⟩) 6 6] 24))
  have Gg4 := Lib.hid ((Gg3.out.next hb).alloc (.cells #[.int .i64 3, .int .i64 2, .slice (some ⟨k4, 0, none⟩) 6 6] 24))
  have Gn4 := Lib.hid ((Gn3.out.next hb).alloc (.cells #[.int .i64 3, .int .i64 2, .slice (some ⟨k4, 0, none⟩) 6 6] 24))
  have Gm4 := Lib.hid ((Gm3.out.next hb).alloc (.cells #[.int .i64 3, .int .i64 2, .slice (some ⟨k4, 0, none⟩) 6 6] 24))
  have Go4 := Lib.hid (Gw.new 3 2 hrow)
  clear hk hrow hb L3 Gg3 Gn3 Gm3 pa0 pa1 pa2 pa3 pa4 pa5 pa6
  obtain ⟨pa0, pa1, pa2, pa3, pa4, pa5, pa6⟩ := Gg4.out.box.all
  go_wp2_with fail
  refine (HTl.out _ _ Gg4.out.row).mono ?_
  rintro e u5 ⟨k5, rfl, hk, hrow, hb⟩
  have L5 := Lib.hid ((L4.out.next hb).alloc (.cells #[.int .i64 6, .int .i64 2, .slice (some ⟨k5, 0, none⟩) 12 12] 24))
  have Gg5 := Lib.hid ((Gg4.out.next hb).alloc (.cells #[.int .i64 6, .int .i64 2, .slice (some ⟨k5, 0, none⟩) 12 12] 24))
  have Gn5 := Lib.hid ((Gn4.out.next hb).alloc (.cells #[.int .i64 6, .int .i64 2, .slice (some ⟨k5, 0, none⟩) 12 12] 24))
  have Gm5 := Lib.hid ((Gm4.out.next hb).alloc (.cells #[.int .i64 6, .int .i64 2, .slice (some ⟨k5, 0, none⟩) 12 12] 24))
  have Go5 := Lib.hid ((Go4.out.next hb).alloc (.cells #[.int .i64 6, .int .i64 2, .slice (some ⟨k5, 0, none⟩) 12 12] 24))
  have Gp5 := Lib.hid (Gw.new 6 2 hrow)
  clear hk hrow hb L4 Gg4 Gn4 Gm4 Go4 pa0 pa1 pa2 pa3 pa4 pa5 pa6
  obtain ⟨pa0, pa1, pa2, pa3, pa4, pa5, pa6⟩ := Gg5.out.box.all
  go_wp2_with fail
  refine (HPa.out _ _ Gg5.out.row).mono ?_
  rintro e u6 ⟨k6, rfl, hk, hrow, hb⟩
  have L6 := Lib.hid ((L5.out.next hb).alloc (.cells #[.int .i64 2, .int .i64 2, .slice (some ⟨k6, 0, none⟩) 4 4] 24))
  have Gg6 := Lib.hid ((Gg5.out.next hb).alloc (.cells #[.int .i64 2, .int .i64 2, .slice (some ⟨k6, 0, none⟩) 4 4] 24))
  have Gn6 := Lib.hid ((Gn5.out.next hb).alloc (.cells #[.int .i64 2, .int .i64 2, .slice (some ⟨k6, 0, none⟩) 4 4] 24))
  have Gm6 := Lib.hid ((Gm5.out.next hb).alloc (.cells #[.int .i64 2, .int .i64 2, .slice (some ⟨k6, 0, none⟩) 4 4] 24))
  have Go6 := Lib.hid ((Go5.out.next hb).alloc (.cells #[.int .i64 2, .int .i64 2, .slice (some ⟨k6, 0, none⟩) 4 4] 24))
  have Gp6 := Lib.hid ((Gp5.out.next hb).alloc (.cells #[.int .i64 2, .int .i64 2, .slice (some ⟨k6, 0, none⟩) 4 4] 24))
  have Gq6 := Lib.hid (Gw.new 2 2 hrow)
  clear hk hrow hb L5 Gg5 Gn5 Gm5 Go5 Gp5 pa0 pa1 pa2 pa3 pa4 pa5 pa6
  obtain ⟨pa0, pa1, pa2, pa3, pa4, pa5, pa6⟩ := Gg6.out.box.all
  obtain ⟨pb0, pb1, pb2, pb3, pb4, pb5, pb6⟩ := Gm6.out.box.all
  go_wp2_with fail
  refine (HAn.out _ _ _ Gg6.out.row Gm6.out.row).mono ?_
  rintro e u7 ⟨k7, rfl, hk, hrow, hb⟩
  have L7 := Lib.hid ((L6.out.next hb).alloc (.cells #[.int .i64 3, .int .i64 2, .slice (some ⟨k7, 0, none⟩) 6 6] 24))
  have Gg7 := Lib.hid ((Gg6.out.next hb).alloc (.cells #[.int .i64 3, .int .i64 2, .slice (some ⟨k7, 0, none⟩) 6 6] 24))
  have Gn7 := Lib.hid ((Gn6.out.next hb).alloc (.cells #[.int .i64 3, .int .i64 2, .slice (some ⟨k7, 0, none⟩) 6 6] 24))
  have Gm7 := Lib.hid ((Gm6.out.next hb).alloc (.cells #[.int .i64 3, .int .i64 2, .slice (some ⟨k7, 0, none⟩) 6 6] 24))
  have Go7 := Lib.hid ((Go6.out.next hb).alloc (.cells #[.int .i64 3, .int .i64 2, .slice (some ⟨k7, 0, none⟩) 6 6] 24))
  have Gp7 := Lib.hid ((Gp6.out.next hb).alloc (.cells #[.int .i64 3, .int .i64 2, .slice (some ⟨k7, 0, none⟩) 6 6] 24))
  have Gq7 := Lib.hid ((Gq6.out.next hb).alloc (.cells #[.int .i64 3, .int .i64 2, .slice (some ⟨k7, 0, none⟩) 6 6] 24))
  have Gr7 := Lib.hid (Gw.new 3 2 hrow)
  clear hk hrow hb L6 Gg6 Gn6 Gm6 Go6 Gp6 Gq6 pa0 pa1 pa2 pa3 pa4 pa5 pa6 pb0 pb1 pb2 pb3 pb4 pb5 pb6
  obtain ⟨pa0, pa1, pa2, pa3, pa4, pa5, pa6⟩ := Gg7.out.box.all
  obtain ⟨pb0, pb1, pb2, pb3, pb4, pb5, pb6⟩ := Gm7.out.box.all
  go_wp2_with fail
  refine (HOr.out _ _ _ Gg7.out.row Gm7.out.row).mono ?_
  rintro e u8 ⟨k8, rfl, hk, hrow, hb⟩
  have L8 := Lib.hid ((L7.out.next hb).alloc (.cells #[.int .i64 3, .int .i64 2, .slice (some ⟨k8, 0, none⟩) 6 6] 24))
  have Gg8 := Lib.hid ((Gg7.out.next hb).alloc (.cells #[.int .i64 3, .int .i64 2, .slice (some ⟨k8, 0, none⟩) 6 6] 24))
  have Gn8 := Lib.hid ((Gn7.out.next hb).alloc (.cells #[.int .i64 3, .int .i64 2, .slice (some ⟨k8, 0, none⟩) 6 6] 24))
  have Gm8 := Lib.hid ((Gm7.out.next hb).alloc (.cells #[.int .i64 3, .int .i64 2, .slice (some ⟨k8, 0, none⟩) 6 6] 24))
  have Go8 := Lib.hid ((Go7.out.next hb).alloc (.cells #[.int .i64 3, .int .i64 2, .slice (some ⟨k8, 0, none⟩) 6 6] 24))
  have Gp8 := Lib.hid ((Gp7.out.next hb).alloc (.cells #[.int .i64 3, .int .i64 2, .slice (some ⟨k8, 0, none⟩) 6 6] 24))
  have Gq8 := Lib.hid ((Gq7.out.next hb).alloc (.cells #[.int .i64 3, .int .i64 2, .slice (some ⟨k8, 0, none⟩) 6 6] 24))
  have Gr8 := Lib.hid ((Gr7.out.next hb).alloc (.cells #[.int .i64 3, .int .i64 2, .slice (some ⟨k8, 0, none⟩) 6 6] 24))
  have Gs8 := Lib.hid (Gw.new 3 2 hrow)
  clear hk hrow hb L7 Gg7 Gn7 Gm7 Go7 Gp7 Gq7 Gr7 pa0 pa1 pa2 pa3 pa4 pa5 pa6 pb0 pb1 pb2 pb3 pb4 pb5 pb6
  obtain ⟨pa0, pa1, pa2, pa3, pa4, pa5, pa6⟩ := Gn8.out.box.all
  go_wp2_with fail
  refine (HRn.out _ _ Gn8.out.row).mono ?_
  rintro e u9 ⟨rfl, hb⟩
  have L9 := Lib.hid (L8.out.next hb)
  have Gg9 := Lib.hid (Gg8.out.next hb)
  have Gm9 := Lib.hid (Gm8.out.next hb)
  have Go9 := Lib.hid (Go8.out.next hb)
  have Gp9 := Lib.hid (Gp8.out.next hb)
  have Gq9 := Lib.hid (Gq8.out.next hb)
  have Gr9 := Lib.hid (Gr8.out.next hb)
  have Gs9 := Lib.hid (Gs8.out.next hb)
  clear hb L8 Gn8 Gg8 Gm8 Go8 Gp8 Gq8 Gr8 Gs8 pa0 pa1 pa2 pa3 pa4 pa5 pa6
  obtain ⟨pa0, pa1, pa2, pa3, pa4, pa5, pa6⟩ := Gm9.out.box.all
  go_wp2_with fail
  refine (HRm.out _ _ Gm9.out.row).mono ?_
  rintro e u10 ⟨rfl, hb⟩
  have L10 := Lib.hid (L9.out.next hb)
  have Gg10 := Lib.hid (Gg9.out.next hb)
  have Go10 := Lib.hid (Go9.out.next hb)
  have Gp10 := Lib.hid (Gp9.out.next hb)
  have Gq10 := Lib.hid (Gq9.out.next hb)
  have Gr10 := Lib.hid (Gr9.out.next hb)
  have Gs10 := Lib.hid (Gs9.out.next hb)
  clear hb L9 Gm9 Gg9 Go9 Gp9 Gq9 Gr9 Gs9 pa0 pa1 pa2 pa3 pa4 pa5 pa6
  obtain ⟨pa0, pa1, pa2, pa3, pa4, pa5, pa6⟩ := Go10.out.box.all
  go_wp2_with fail
  refine (HRo.out _ _ Go10.out.row).mono ?_
  rintro e u11 ⟨rfl, hb⟩
  have L11 := Lib.hid (L10.out.next hb)
  have Gg11 := Lib.hid (Gg10.out.next hb)
  have Gp11 := Lib.hid (Gp10.out.next hb)
  have Gq11 := Lib.hid (Gq10.out.next hb)
  have Gr11 := Lib.hid (Gr10.out.next hb)
  have Gs11 := Lib.hid (Gs10.out.next hb)
  clear hb L10 Go10 Gg10 Gp10 Gq10 Gr10 Gs10 pa0 pa1 pa2 pa3 pa4 pa5 pa6
  obtain ⟨pa0, pa1, pa2, pa3, pa4, pa5, pa6⟩ := Gp11.out.box.all
  go_wp2_with fail
  refine (HRp.out _ _ Gp11.out.row).mono ?_
  rintro e u12 ⟨rfl, hb⟩
  have L12 := Lib.hid (L11.out.next hb)
  have Gg12 := Lib.hid (Gg11.out.next hb)
  have Gq12 := Lib.hid (Gq11.out.next hb)
  have Gr12 := Lib.hid (Gr11.out.next hb)
  have Gs12 := Lib.hid (Gs11.out.next hb)
  clear hb L11 Gp11 Gg11 Gq11 Gr11 Gs11 pa0 pa1 pa2 pa3 pa4 pa5 pa6
  obtain ⟨pa0, pa1, pa2, pa3, pa4, pa5, pa6⟩ := Gq12.out.box.all
  go_wp2_with fail
  refine (HRq.out _ _ Gq12.out.row).mono ?_
  rintro e u13 ⟨rfl, hb⟩
  have L13 := Lib.hid (L12.out.next hb)
  have Gg13 := Lib.hid (Gg12.out.next hb)
  have Gq13 := Lib.hid (Gq12.out.next hb)
  have Gr13 := Lib.hid (Gr12.out.next hb)
  have Gs13 := Lib.hid (Gs12.out.next hb)
  clear hb L12 Gg12 Gq12 Gr12 Gs12 pa0 pa1 pa2 pa3 pa4 pa5 pa6
  obtain ⟨pa0, pa1, pa2, pa3, pa4, pa5, pa6⟩ := Gr13.out.box.all
  go_wp2_with fail
  refine (HRr.out _ _ Gr13.out.row).mono ?_
  rintro e u14 ⟨rfl, hb⟩
  have L14 := Lib.hid (L13.out.next hb)
  have Gg14 := Lib.hid (Gg13.out.next hb)
  have Gq14 := Lib.hid (Gq13.out.next hb)
  have Gs14 := Lib.hid (Gs13.out.next hb)
  clear hb L13 Gr13 Gg13 Gq13 Gs13 pa0 pa1 pa2 pa3 pa4 pa5 pa6
  obtain ⟨pa0, pa1, pa2, pa3, pa4, pa5, pa6⟩ := Gs14.out.box.all
  go_wp2_with fail
  refine (HRs.out _ _ Gs14.out.row).mono ?_
  rintro e u15 ⟨rfl, hb⟩
  have L15 := Lib.hid (L14.out.next hb)
  have Gg15 := Lib.hid (Gg14.out.next hb)
  have Gq15 := Lib.hid (Gq14.out.next hb)
  clear hb L14 Gs14 Gg14 Gq14 pa0 pa1 pa2 pa3 pa4 pa5 pa6
  have Lb := Lib.hid ((L15.out.alloc (.cells C1 4)).alloc (.cells #[.int .i64 64, .int .i64 64, .slice (some ⟨u15.heap.size, 0, none⟩) 4096 4096] 24))
  have Hg := Lib.hid ((Gg15.out.alloc (.cells C1 4)).alloc (.cells #[.int .i64 64, .int .i64 64, .slice (some ⟨u15.heap.size, 0, none⟩) 4096 4096] 24))
  have Hq := Lib.hid ((Gq15.out.alloc (.cells C1 4)).alloc (.cells #[.int .i64 64, .int .i64 64, .slice (some ⟨u15.heap.size, 0, none⟩) 4096 4096] 24))
  have hbg := Box.new (u15.alloc (.cells C1 4)) 64 64 (.slice (some ⟨u15.heap.size, 0, none⟩) 4096 4096)
  simp only [World.size_alloc] at hbg
  have Xb := Lib.hid hbg
  clear hbg L15 Gg15 Gq15
  obtain ⟨pb0, pb1, pb2, pb3, pb4, pb5, pb6⟩ := Xb.out.all
  go_wp2_with fail
  refine (HB.out _ _).mono ?_
  rintro e u101 ⟨rfl, hb⟩
  have L101 := Lib.hid (((Lb.out).next hb).alloc (.cells #[.int .i64 0, .int .i64 0, .slice none 0 0] 24))
  have Gg101 := Lib.hid (((Hg.out).next hb).alloc (.cells #[.int .i64 0, .int .i64 0, .slice none 0 0] 24))
  have Gq101 := Lib.hid (((Hq.out).next hb).alloc (.cells #[.int .i64 0, .int .i64 0, .slice none 0 0] 24))
  have X101 := Lib.hid (((Xb.out).below hb (Xb.out).lt).alloc (.cells #[.int .i64 0, .int .i64 0, .slice none 0 0] 24))
  clear hb Lb Xb Hg Hq pb0 pb1 pb2 pb3 pb4 pb5 pb6
  obtain ⟨pa0, pa1, pa2, pa3, pa4, pa5, pa6⟩ := Gg101.out.box.all
  go_wp2_with fail
  refine (HE1.out _ _).mono ?_
  rintro e u102 ⟨rfl, hb⟩
  have L102 := Lib.hid (((L101.out).next hb).alloc (.cells #[.int .i64 0, .int .i64 0, .slice none 0 0] 24))
  have Gg102 := Lib.hid (((Gg101.out).next hb).alloc (.cells #[.int .i64 0, .int .i64 0, .slice none 0 0] 24))
  have Gq102 := Lib.hid (((Gq101.out).next hb).alloc (.cells #[.int .i64 0, .int .i64 0, .slice none 0 0] 24))
  have X102 := Lib.hid (((X101.out).below hb (X101.out).lt).alloc (.cells #[.int .i64 0, .int .i64 0, .slice none 0 0] 24))
  clear hb L101 X101 Gg101 Gq101 pa0 pa1 pa2 pa3 pa4 pa5 pa6
  obtain ⟨pa0, pa1, pa2, pa3, pa4, pa5, pa6⟩ := Gg102.out.box.all
  go_wp2_with fail
  refine (HE2.out _ _).mono ?_
  rintro e u103 ⟨rfl, hb⟩
  have L103 := Lib.hid (((L102.out).next hb).alloc (.cells #[.int .i64 0, .int .i64 0, .slice none 0 0] 24))
  have Gg103 := Lib.hid (((Gg102.out).next hb).alloc (.cells #[.int .i64 0, .int .i64 0, .slice none 0 0] 24))
  have Gq103 := Lib.hid (((Gq102.out).next hb).alloc (.cells #[.int .i64 0, .int .i64 0, .slice none 0 0] 24))
  have X103 := Lib.hid (((X102.out).below hb (X102.out).lt).alloc (.cells #[.int .i64 0, .int .i64 0, .slice none 0 0] 24))
  clear hb L102 X102 Gg102 Gq102 pa0 pa1 pa2 pa3 pa4 pa5 pa6
  obtain ⟨pa0, pa1, pa2, pa3, pa4, pa5, pa6⟩ := Gg103.out.box.all
  go_wp2_with fail
  refine (HE3.out _ _).mono ?_
  rintro e u104 ⟨rfl, hb⟩
  have L104 := Lib.hid (((L103.out).next hb).alloc (.cells #[.int .i64 0, .int .i64 0, .slice none 0 0] 24))
  have Gg104 := Lib.hid (((Gg103.out).next hb).alloc (.cells #[.int .i64 0, .int .i64 0, .slice none 0 0] 24))
  have Gq104 := Lib.hid (((Gq103.out).next hb).alloc (.cells #[.int .i64 0, .int .i64 0, .slice none 0 0] 24))
  have X104 := Lib.hid (((X103.out).below hb (X103.out).lt).alloc (.cells #[.int .i64 0, .int .i64 0, .slice none 0 0] 24))
  clear hb L103 X103 Gg103 Gq103 pa0 pa1 pa2 pa3 pa4 pa5 pa6
  obtain ⟨pa0, pa1, pa2, pa3, pa4, pa5, pa6⟩ := Gg104.out.box.all
  go_wp2_with fail
  refine (HE4.out _ _).mono ?_
  rintro e u105 ⟨rfl, hb⟩
  have L105 := Lib.hid (((L104.out).next hb).alloc (.cells #[.int .i64 0, .int .i64 0, .slice none 0 0] 24))
  have Gg105 := Lib.hid (((Gg104.out).next hb).alloc (.cells #[.int .i64 0, .int .i64 0, .slice none 0 0] 24))
  have Gq105 := Lib.hid (((Gq104.out).next hb).alloc (.cells #[.int .i64 0, .int .i64 0, .slice none 0 0] 24))
  have X105 := Lib.hid (((X104.out).below hb (X104.out).lt).alloc (.cells #[.int .i64 0, .int .i64 0, .slice none 0 0] 24))
  clear hb L104 X104 Gg104 Gq104 pa0 pa1 pa2 pa3 pa4 pa5 pa6
  obtain ⟨pa0, pa1, pa2, pa3, pa4, pa5, pa6⟩ := Gg105.out.box.all
  obtain ⟨pb0, pb1, pb2, pb3, pb4, pb5, pb6⟩ := Gq105.out.box.all
  go_wp2_with fail
  refine (HE5.out _ _ _).mono ?_
  rintro e u106 ⟨rfl, hb⟩
  have L106 := Lib.hid (((L105.out).next hb).alloc (.cells #[.int .i64 0, .int .i64 0, .slice none 0 0] 24))
  have Gg106 := Lib.hid (((Gg105.out).next hb).alloc (.cells #[.int .i64 0, .int .i64 0, .slice none 0 0] 24))
  have Gq106 := Lib.hid (((Gq105.out).next hb).alloc (.cells #[.int .i64 0, .int .i64 0, .slice none 0 0] 24))
  have X106 := Lib.hid (((X105.out).below hb (X105.out).lt).alloc (.cells #[.int .i64 0, .int .i64 0, .slice none 0 0] 24))
  clear hb L105 X105 Gg105 Gq105 pa0 pa1 pa2 pa3 pa4 pa5 pa6 pb0 pb1 pb2 pb3 pb4 pb5 pb6
  go_upto_region 17 with fail
  generalize u106.alloc (.cells #[.int .i64 0, .int .i64 0, .slice none 0 0] 24) = v0 at *
  have HK : Hid (∀ w', Below v0.heap.size v0 w' → w'.cell? ⟨u1.heap.size, 0, none⟩ = some (.int .i64 3) ∧ w'.cell? ⟨u1.heap.size, 1, none⟩ = some (.int .i64 2) ∧ w'.cell? ⟨u1.heap.size, 2, none⟩ = some (.slice (some ⟨k1, 0, none⟩) 6 6)) := fun w' hb => ⟨(Gg106.out.next hb).box.c0, (Gg106.out.next hb).box.c1, (Gg106.out.next hb).box.c2⟩
  have hz := Below.refl v0.heap.size v0
  have hz1 := Lib.hid hz.drew
  have hz2 := Lib.hid (fun o => (hz.alloc (Nat.le_refl v0.heap.size) o).drew)
  have hz3 := Lib.hid (fun o p => ((hz.alloc (Nat.le_refl v0.heap.size) o).alloc (hz.alloc (Nat.le_refl v0.heap.size) o).size p).drew)
  clear hz
  go_cut [30, 31] (fun p e wx => ∃ j, p = .pointer (some ⟨j, 0, none⟩) ∧ e = .int .i64 4 ∧ Below v0.heap.size v0 wx)
  case first =>
    go_region_held3 (fun w' => w'.cell? ⟨u1.heap.size, 0, none⟩ = some (.int .i64 3) ∧ w'.cell? ⟨u1.heap.size, 1, none⟩ = some (.int .i64 2) ∧ w'.cell? ⟨u1.heap.size, 2, none⟩ = some (.slice (some ⟨k1, 0, none⟩) 6 6))
      (first
        | exact HK.out _ hb9
        | exact HK.out _ hb8
        | exact HK.out _ hb7
        | exact HK.out _ (hb7.alloc hb7.size _)
        | exact HK.out _ (((hb7.setCell (by simp) _).setCell (by simp) _).setCell (by simp) _)
        | exact HK.out _ ((((hb7.alloc hb7.size _).setCell (by first | exact hb7.size | simp) _).setCell (by first | exact hb7.size | simp) _).setCell (by first | exact hb7.size | simp) _)
        | exact HK.out _ hz1.out
        | exact HK.out _ (hz2.out _)
        | exact HK.out _ (hz3.out _ _))
      (first
        | (go_at_call 17
           refine (HE6.out _ _ _).mono ?_
           rintro e uu ⟨rfl, hb⟩
           have hb7 : Below v0.heap.size v0 uu := (first_below (by first | exact hz3.out _ _ | exact hz2.out _) hb)
           first
             | (have hj := ((Box.new v0 0 0 (.slice none 0 0)).alloc (.cells C2 4)).drew.below hb (by simp; omega); obtain ⟨j0, j1, j2, j3, j4, j5, j6⟩ := hj.all)
             | (have hj := (Box.new (v0.alloc (.cells C2 4)) 0 0 (.slice none 0 0)).drew.below hb (by simp); simp only [World.size_alloc] at hj; obtain ⟨j0, j1, j2, j3, j4, j5, j6⟩ := hj.all)
             | skip
           clear hb))
    all_goals
      go_wp2_with fail
      go_meet
      first
        | exact ⟨_, rfl, rfl, (((hb7.setCell (by simp) _).setCell (by simp) _).setCell (by simp) _)⟩
        | exact ⟨_, rfl, rfl, hb7⟩
        | exact ⟨_, rfl, rfl, (hb7.alloc hb7.size _)⟩
        | exact ⟨_, rfl, rfl, ((((hb7.alloc hb7.size _).setCell (by first | exact hb7.size | simp) _).setCell (by first | exact hb7.size | simp) _).setCell (by first | exact hb7.size | simp) _)⟩
  case rest =>
    obtain ⟨j, rfl, rfl, hB⟩ := hcut
    have L200 := Lib.hid (L106.out.next hB)
    have Gg200 := Lib.hid (Gg106.out.next hB)
    have X200 := Lib.hid (X106.out.below hB X106.out.lt)
    clear hB HK hz1 hz2 hz3 L106 Gg106 X106
    obtain ⟨pa0, pa1, pa2, pa3, pa4, pa5, pa6⟩ := Gg200.out.box.all
    go_wp2_with fail
    refine (HE7.out _ _).mono ?_
    rintro e u201 ⟨rfl, hb⟩
    have L201 := Lib.hid (((L200.out).next hb).alloc (.cells #[.int .i64 0, .int .i64 0, .slice none 0 0] 24))
    have Gg201 := Lib.hid (((Gg200.out).next hb).alloc (.cells #[.int .i64 0, .int .i64 0, .slice none 0 0] 24))
    have X201 := Lib.hid (((X200.out).below hb (X200.out).lt).alloc (.cells #[.int .i64 0, .int .i64 0, .slice none 0 0] 24))
    clear hb L200 X200 Gg200 pa0 pa1 pa2 pa3 pa4 pa5 pa6
    obtain ⟨pa0, pa1, pa2, pa3, pa4, pa5, pa6⟩ := Gg201.out.box.all
    go_wp2_with fail
    refine (HSh.out _ _ Gg201.out.row).mono ?_
    rintro e u202 ⟨k202, rfl, hk, hrow, hb⟩
    have L202 := Lib.hid (((L201.out).next hb).alloc (.cells #[.int .i64 3, .int .i64 2, .slice (some ⟨k202, 0, none⟩) 6 6] 24))
    have Gg202 := Lib.hid (((Gg201.out).next hb).alloc (.cells #[.int .i64 3, .int .i64 2, .slice (some ⟨k202, 0, none⟩) 6 6] 24))
    have X202 := Lib.hid (((X201.out).below hb (X201.out).lt).alloc (.cells #[.int .i64 3, .int .i64 2, .slice (some ⟨k202, 0, none⟩) 6 6] 24))
    have Gx202 := Lib.hid (Gw.new 3 2 hrow)
    clear hb L201 X201 Gg201 pa0 pa1 pa2 pa3 pa4 pa5 pa6 hk hrow
    obtain ⟨pb0, pb1, pb2, pb3, pb4, pb5, pb6⟩ := X202.out.all
    go_wp2_with fail
    refine (HK1.out _ _).mono ?_
    rintro e u203 ⟨rfl, hb⟩
    have L203 := Lib.hid (((L202.out).next hb))
    have Gx203 := Lib.hid (((Gx202.out).next hb))
    have X203 := Lib.hid (((X202.out).below hb (X202.out).lt))
    clear hb L202 X202 Gx202 pb0 pb1 pb2 pb3 pb4 pb5 pb6
    go_wp2_with fail
    refine (HK2.out _).mono ?_
    rintro e u204 ⟨rfl, hb⟩
    have L204 := Lib.hid (((L203.out).next hb))
    have Gx204 := Lib.hid (((Gx203.out).next hb))
    have X204 := Lib.hid (((X203.out).below hb (X203.out).lt))
    clear hb L203 X203 Gx203 
    go_wp2_with fail
    refine (HK3.out _ _).mono ?_
    rintro e u205 ⟨rfl, hb⟩
    have L205 := Lib.hid (((L204.out.alloc (.cells C3 4)).next hb))
    have Gx205 := Lib.hid (((Gx204.out.alloc (.cells C3 4)).next hb))
    have X205 := Lib.hid (((X204.out.alloc (.cells C3 4)).below hb (X204.out.alloc (.cells C3 4)).lt))
    clear hb L204 X204 Gx204 
    go_wp2_with fail
    refine (HK4.out _).mono ?_
    rintro e u206 ⟨rfl, hb⟩
    have L206 := Lib.hid (((L205.out).next hb))
    have Gx206 := Lib.hid (((Gx205.out).next hb))
    have X206 := Lib.hid (((X205.out).below hb (X205.out).lt))
    clear hb L205 X205 Gx205 
    go_wp2_with fail
    refine (HK5.out _ _).mono ?_
    rintro e u207 ⟨rfl, hb⟩
    have L207 := Lib.hid (((L206.out.alloc (.cells C4 4)).next hb))
    have Gx207 := Lib.hid (((Gx206.out.alloc (.cells C4 4)).next hb))
    have X207 := Lib.hid (((X206.out.alloc (.cells C4 4)).below hb (X206.out.alloc (.cells C4 4)).lt))
    clear hb L206 X206 Gx206 
    go_wp2_with fail
    refine (HSa.out _ _).mono ?_
    rintro e u208 ⟨rfl, hb⟩
    have L208 := Lib.hid (((L207.out.alloc (.cells #[] 4)).next hb))
    have Gx208 := Lib.hid (((Gx207.out.alloc (.cells #[] 4)).next hb))
    have X208 := Lib.hid (((X207.out.alloc (.cells #[] 4)).below hb (X207.out.alloc (.cells #[] 4)).lt))
    clear hb L207 X207 Gx207 
    obtain ⟨pa0, pa1, pa2, pa3, pa4, pa5, pa6⟩ := Gx208.out.box.all
    go_wp2_with fail
    refine (HRx.out _ _ Gx208.out.row).mono ?_
    rintro e u209 ⟨rfl, hb⟩
    have L209 := Lib.hid (((L208.out).next hb))
    have Gx209 := Lib.hid (((Gx208.out).next hb))
    have X209 := Lib.hid (((X208.out).below hb (X208.out).lt))
    clear hb L208 X208 Gx208 pa0 pa1 pa2 pa3 pa4 pa5 pa6
    go_wp2_with fail
    refine (HF0.out _).mono ?_
    rintro e u210 ⟨rfl, hb⟩
    have L210 := Lib.hid (((L209.out).next hb))
    have Gx210 := Lib.hid (((Gx209.out).next hb))
    have X210 := Lib.hid (((X209.out).below hb (X209.out).lt))
    clear hb L209 X209 Gx209 
    go_wp2_with fail
    refine (HF1.out _).mono ?_
    rintro e u211 ⟨rfl, hb⟩
    have L211 := Lib.hid (((L210.out).next hb))
    have Gx211 := Lib.hid (((Gx210.out).next hb))
    have X211 := Lib.hid (((X210.out).below hb (X210.out).lt))
    clear hb L210 X210 Gx210 
    go_wp2_with fail
    refine (HF2.out _).mono ?_
    rintro e u212 ⟨rfl, hb⟩
    have L212 := Lib.hid (((L211.out).next hb))
    have Gx212 := Lib.hid (((Gx211.out).next hb))
    have X212 := Lib.hid (((X211.out).below hb (X211.out).lt))
    clear hb L211 X211 Gx211 
    go_wp2_with fail
    refine (HF3.out _).mono ?_
    rintro e u213 ⟨rfl, hb⟩
    have L213 := Lib.hid (((L212.out).next hb))
    have Gx213 := Lib.hid (((Gx212.out).next hb))
    have X213 := Lib.hid (((X212.out).below hb (X212.out).lt))
    clear hb L212 X212 Gx212 
    go_wp2_with fail
    refine (HF4.out _).mono ?_
    rintro e u214 ⟨rfl, hb⟩
    have L214 := Lib.hid (((L213.out).next hb))
    have Gx214 := Lib.hid (((Gx213.out).next hb))
    have X214 := Lib.hid (((X213.out).below hb (X213.out).lt))
    clear hb L213 X213 Gx213 
    go_wp2_with fail
    refine (HA.out _).mono ?_
    rintro e u215 ⟨rfl, hb⟩
    have L215 := Lib.hid (((L214.out).next hb))
    have Gx215 := Lib.hid (((Gx214.out).next hb))
    have X215 := Lib.hid (((X214.out).below hb (X214.out).lt))
    clear hb L214 X214 Gx214 
    go_wp2_with fail
    refine bodyPost_ret (v := .bool true) (by simp [results, Try.results3, go_sem]) rfl ⟨rfl, L215.out.bel⟩
end Go.Proofs.Ytnamjpdbadjgpaa
