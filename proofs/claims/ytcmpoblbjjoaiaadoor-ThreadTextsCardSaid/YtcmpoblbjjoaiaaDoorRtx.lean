/- The reference's Used, and its Text where it refuses. -/
import Derived.Test.YtcmpoblbjjoaiaaDoorUsd
import Derived.Test.YtcmpoblbjjoaiaaDoorRnm
import Derived.Test.YtcmpoblbjjoaiaaDoorRev
import Derived.Test.YtcmpoblbjjoaiaaDoorTxt
namespace Go.Proofs.YtcmpoblbjjoaiaaDoor
open Go.RowKit
set_option linter.unusedVariables false
set_option linter.unusedSimpArgs false
set_option maxRecDepth 100000

set_option maxHeartbeats 400000 in
theorem rused_err (A : Option Addr) (n c : Nat) (f : Nat → Int) (w : World) (err : Int) (hn : n ≤ 420) (hr : Holds w w.heap.size A n f) (hx : lchk n f = err) (hne : (err != 0) = true) :
    Calls Tryd.prog 22 #[.slice A n c] w (IOut w 0 err) := by
  have HC := Lib.hid (fun (w' : World) (hb : Below w.heap.size w w') => rchk_is c hn hx w' ((hr.below hb).more hb.size))
  clear hx hr
  go_enter Tryd.func22, Tryd.ntmps22
  go_wp2_with fail
  refine (HC.out w (Below.refl _ _)).mono ?_
  rintro e w1 ⟨rfl, hb⟩
  have HF := Lib.hid hb
  clear hb
  go_wp2_with fail
  refine (HC.out w1 HF.out).mono ?_
  rintro e w2 ⟨rfl, hb⟩
  have HF2 := Lib.hid (HF.out.trans (hb.mono HF.out.size))
  clear hb
  go_wp2
  go_ret2
  exact ⟨rfl, HF2.out⟩
set_option maxHeartbeats 400000 in
theorem rused_ok (A : Option Addr) (n c : Nat) (f : Nat → Int) (w : World) (hr : Holds w w.heap.size A n f) (hx : lchk n f = 0) :
    Calls Tryd.prog 22 #[.slice A n c] w (IOut w (nd f n : Nat) 0) := by
  have hn := lchk_le hx
  have HC := Lib.hid (rchk_is c (by omega) hx w hr)
  have HN := Lib.hid (fun (w' : World) (hb : Below w.heap.size w w') => numbered_any A n c f w' (by omega) ((hr.below hb).more hb.size))
  clear hx hr
  go_enter Tryd.func22, Tryd.ntmps22
  go_wp2_with fail
  refine HC.out.mono ?_
  rintro e w1 ⟨rfl, hb⟩
  have HF := Lib.hid hb
  clear hb
  go_wp2_with fail
  refine (HN.out w1 HF.out).mono ?_
  rintro e w2 ⟨A2, c2, rfl, -, -, hb⟩
  have HF2 := Lib.hid (HF.out.trans (hb.mono HF.out.size))
  clear hb
  go_wp2
  go_ret2
  exact ⟨rfl, HF2.out⟩

set_option maxHeartbeats 400000 in
theorem rtext_err (A : Option Addr) (n c : Nat) (f : Nat → Int) (w : World) (err : Int) (hn : n ≤ 420) (hr : Holds w w.heap.size A n f) (hx : lchk n f = err) (hne : (err != 0) = true) :
    Calls Tryd.prog 24 #[.slice A n c] w (TOut w [] err) := by
  have HC := Lib.hid (fun (w' : World) (hb : Below w.heap.size w w') => rchk_is c hn hx w' ((hr.below hb).more hb.size))
  clear hx hr
  go_enter Tryd.func24, Tryd.ntmps24
  go_wp2_with fail
  refine (HC.out w (Below.refl _ _)).mono ?_
  rintro e w1 ⟨rfl, hb⟩
  have HF := Lib.hid hb
  clear hb
  go_wp2_with fail
  refine (HC.out w1 HF.out).mono ?_
  rintro e w2 ⟨rfl, hb⟩
  have HF2 := Lib.hid (HF.out.trans (hb.mono HF.out.size))
  clear hb
  go_wp2
  go_ret2
  exact ⟨rfl, HF2.out⟩
end Go.Proofs.YtcmpoblbjjoaiaaDoor
