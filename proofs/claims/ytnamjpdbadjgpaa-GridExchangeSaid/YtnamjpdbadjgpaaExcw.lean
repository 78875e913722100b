/- The walk of the statement GridExchange. -/
import Derived.Test.YtnamjpdbadjgpaaGv
import Derived.Test.YtnamjpdbadjgpaaCo
import Derived.LoopN
namespace Go.Proofs.Ytnamjpdbadjgpaa
open Go.RowKit
set_option linter.unusedVariables false
set_option linter.unusedSimpArgs false

set_option maxRecDepth 100000 in
set_option maxHeartbeats 4000000 in
theorem exch_core (W H : Nat) (A : Option Addr) (c : Nat) (f ft fs fa fm0 fc0 fn0 fm1 fc1 fn1 : Nat → Bool) (dx dy : Int) (w : World)
    (x1 : -1000000000 ≤ dx) (x2 : dx ≤ 1000000000) (y1 : -1000000000 ≤ dy) (y2 : dy ≤ 1000000000)
    (HV : ∀ v, Calls Try.prog 43 #[.agg #[.int .i64 W, .int .i64 H, .slice A (W * H) c]] v fun e w' => e = .returned (.bool true) ∧ Below v.heap.size v w')
    (HT : ∀ v, Below w.heap.size w v → Calls Try.prog 34 #[.agg #[.int .i64 W, .int .i64 H, .slice A (W * H) c]] v (OkGrid v H W ft))
    (HS : ∀ v, Below w.heap.size w v → Calls Try.prog 19 #[.agg #[.int .i64 W, .int .i64 H, .slice A (W * H) c], .int .i64 dx, .int .i64 dy] v (OkGrid v W H fs))
    (HTS : ∀ v k, Row v k (W * H) fs → Calls Try.prog 34 #[.agg #[.int .i64 W, .int .i64 H, .slice (some ⟨k, 0, none⟩) (W * H) (W * H)]] v (OkGrid v H W fa))
    (HST : ∀ v k, Row v k (H * W) ft → Calls Try.prog 19 #[.agg #[.int .i64 H, .int .i64 W, .slice (some ⟨k, 0, none⟩) (H * W) (H * W)], .int .i64 dy, .int .i64 dx] v (OkGrid v H W fa))
    (HM0 : ∀ v, Below w.heap.size w v → Calls Try.prog 13 #[.agg #[.int .i64 W, .int .i64 H, .slice A (W * H) c], .int .i64 0] v (OkGrid v W H fm0))
    (HC0 : ∀ v k, Row v k (W * H) fm0 → Calls Try.prog 34 #[.agg #[.int .i64 W, .int .i64 H, .slice (some ⟨k, 0, none⟩) (W * H) (W * H)]] v (OkGrid v H W fc0))
    (HD0 : ∀ v k, Row v k (H * W) ft → Calls Try.prog 13 #[.agg #[.int .i64 H, .int .i64 W, .slice (some ⟨k, 0, none⟩) (H * W) (H * W)], .int .i64 1] v (OkGrid v H W fc0))
    (HN0 : ∀ v k, Row v k (W * H) fs → Calls Try.prog 13 #[.agg #[.int .i64 W, .int .i64 H, .slice (some ⟨k, 0, none⟩) (W * H) (W * H)], .int .i64 0] v (OkGrid v W H fn0))
    (HP0 : ∀ v k, Row v k (W * H) fm0 → Calls Try.prog 19 #[.agg #[.int .i64 W, .int .i64 H, .slice (some ⟨k, 0, none⟩) (W * H) (W * H)], .int .i64 (-dx), .int .i64 dy] v (OkGrid v W H fn0))
    (HM1 : ∀ v, Below w.heap.size w v → Calls Try.prog 13 #[.agg #[.int .i64 W, .int .i64 H, .slice A (W * H) c], .int .i64 1] v (OkGrid v W H fm1))
    (HC1 : ∀ v k, Row v k (W * H) fm1 → Calls Try.prog 34 #[.agg #[.int .i64 W, .int .i64 H, .slice (some ⟨k, 0, none⟩) (W * H) (W * H)]] v (OkGrid v H W fc1))
    (HD1 : ∀ v k, Row v k (H * W) ft → Calls Try.prog 13 #[.agg #[.int .i64 H, .int .i64 W, .slice (some ⟨k, 0, none⟩) (H * W) (H * W)], .int .i64 0] v (OkGrid v H W fc1))
    (HN1 : ∀ v k, Row v k (W * H) fs → Calls Try.prog 13 #[.agg #[.int .i64 W, .int .i64 H, .slice (some ⟨k, 0, none⟩) (W * H) (W * H)], .int .i64 1] v (OkGrid v W H fn1))
    (HP1 : ∀ v k, Row v k (W * H) fm1 → Calls Try.prog 19 #[.agg #[.int .i64 W, .int .i64 H, .slice (some ⟨k, 0, none⟩) (W * H) (W * H)], .int .i64 dx, .int .i64 (-dy)] v (OkGrid v W H fn1))
    (HA : ∀ v, Calls Try.prog 23 #[] v fun e w' => e = .returned (.bool true) ∧ Below v.heap.size v w')
    (HE : ∀ v k l F, Row v k (W * H) F → Row v l (W * H) F → Calls Try.prog 32 #[.agg #[.int .i64 W, .int .i64 H, .slice (some ⟨k, 0, none⟩) (W * H) (W * H)], .agg #[.int .i64 W, .int .i64 H, .slice (some ⟨l, 0, none⟩) (W * H) (W * H)]] v fun e w' => e = .returned (.bool true) ∧ Below v.heap.size v w')
    (HF : ∀ v k l F, Row v k (H * W) F → Row v l (H * W) F → Calls Try.prog 32 #[.agg #[.int .i64 H, .int .i64 W, .slice (some ⟨k, 0, none⟩) (H * W) (H * W)], .agg #[.int .i64 H, .int .i64 W, .slice (some ⟨l, 0, none⟩) (H * W) (H * W)]] v fun e w' => e = .returned (.bool true) ∧ Below v.heap.size v w') :
    Calls Try.prog 9 #[.agg #[.int .i64 W, .int .i64 H, .slice A (W * H) c], .int .i64 dx, .int .i64 dy] w fun e w' => e = .returned (.bool true) ∧ Below w.heap.size w w' := by
  have HV := Lib.hid HV
  have HT := Lib.hid HT
  have HS := Lib.hid HS
  have HTS := Lib.hid HTS
  have HST := Lib.hid HST
  have HM0 := Lib.hid HM0
  have HC0 := Lib.hid HC0
  have HD0 := Lib.hid HD0
  have HN0 := Lib.hid HN0
  have HP0 := Lib.hid HP0
  have HM1 := Lib.hid HM1
  have HC1 := Lib.hid HC1
  have HD1 := Lib.hid HD1
  have HN1 := Lib.hid HN1
  have HP1 := Lib.hid HP1
  have HA := Lib.hid HA
  have HE := Lib.hid HE
  have HF := Lib.hid HF
  have L0 := Lib.hid (LA.start w W H A (W * H) c)
  go_enter Try.func9, Try.ntmps9
  obtain ⟨pz0, pz1, pz2, pz3, pz4, pz5, pz6⟩ := L0.out.a.all
  go_wp2_with fail
  refine (HV.out _).mono ?_
  rintro e u1 ⟨rfl, hb⟩
  have L1 := Lib.hid (L0.out.next hb)
  clear hb L0 pz0 pz1 pz2 pz3 pz4 pz5 pz6
  obtain ⟨pz0, pz1, pz2, pz3, pz4, pz5, pz6⟩ := L1.out.a.all
  go_wp2_with fail
  refine (HT.out _ L1.out.bel).mono ?_
  rintro e u2 ⟨k2, rfl, hk, hrow, hb⟩
  have L2 := Lib.hid ((L1.out.next hb).alloc (.cells #[.int .i64 H, .int .i64 W, .slice (some ⟨k2, 0, none⟩) (H * W) (H * W)] 24))
  have Gt2 := Lib.hid (Gv.new H W hrow)
  clear hk hrow hb L1 pz0 pz1 pz2 pz3 pz4 pz5 pz6
  obtain ⟨pz0, pz1, pz2, pz3, pz4, pz5, pz6⟩ := L2.out.a.all
  go_wp2_with fail
  refine (HS.out _ L2.out.bel).mono ?_
  rintro e u3 ⟨k3, rfl, hk, hrow, hb⟩
  have L3 := Lib.hid ((L2.out.next hb).alloc (.cells #[.int .i64 W, .int .i64 H, .slice (some ⟨k3, 0, none⟩) (W * H) (W * H)] 24))
  have Gt3 := Lib.hid ((Gt2.out.next hb).alloc (.cells #[.int .i64 W, .int .i64 H, .slice (some ⟨k3, 0, none⟩) (W * H) (W * H)] 24))
  have Gs3 := Lib.hid (Gv.new W H hrow)
  clear hk hrow hb L2 Gt2 pz0 pz1 pz2 pz3 pz4 pz5 pz6
  obtain ⟨pa0, pa1, pa2, pa3, pa4, pa5, pa6⟩ := Gs3.out.box.all
  go_wp2_with fail
  refine (HTS.out _ _ Gs3.out.row).mono ?_
  rintro e u4 ⟨k4, rfl, hk, hrow, hb⟩
  have L4 := Lib.hid ((L3.out.next hb).alloc (.cells #[.int .i64 H, .int .i64 W, .slice (some ⟨k4, 0, none⟩) (H * W) (H * W)] 24))
  have Gt4 := Lib.hid ((Gt3.out.next hb).alloc (.cells #[.int .i64 H, .int .i64 W, .slice (some ⟨k4, 0, none⟩) (H * W) (H * W)] 24))
  have Gs4 := Lib.hid ((Gs3.out.next hb).alloc (.cells #[.int .i64 H, .int .i64 W, .slice (some ⟨k4, 0, none⟩) (H * W) (H * W)] 24))
  have Ga4 := Lib.hid (Gv.new H W hrow)
  clear hk hrow hb L3 Gt3 Gs3 pa0 pa1 pa2 pa3 pa4 pa5 pa6
  obtain ⟨pa0, pa1, pa2, pa3, pa4, pa5, pa6⟩ := Gt4.out.box.all
  go_wp2_with fail
  refine (HST.out _ _ Gt4.out.row).mono ?_
  rintro e u5 ⟨k5, rfl, hk, hrow, hb⟩
  have L5 := Lib.hid ((L4.out.next hb).alloc (.cells #[.int .i64 H, .int .i64 W, .slice (some ⟨k5, 0, none⟩) (H * W) (H * W)] 24))
  have Gt5 := Lib.hid ((Gt4.out.next hb).alloc (.cells #[.int .i64 H, .int .i64 W, .slice (some ⟨k5, 0, none⟩) (H * W) (H * W)] 24))
  have Gs5 := Lib.hid ((Gs4.out.next hb).alloc (.cells #[.int .i64 H, .int .i64 W, .slice (some ⟨k5, 0, none⟩) (H * W) (H * W)] 24))
  have Ga5 := Lib.hid ((Ga4.out.next hb).alloc (.cells #[.int .i64 H, .int .i64 W, .slice (some ⟨k5, 0, none⟩) (H * W) (H * W)] 24))
  have Gb5 := Lib.hid (Gv.new H W hrow)
  clear hk hrow hb L4 Gt4 Gs4 Ga4 pa0 pa1 pa2 pa3 pa4 pa5 pa6
  obtain ⟨pa0, pa1, pa2, pa3, pa4, pa5, pa6⟩ := Ga5.out.box.all
  obtain ⟨pb0, pb1, pb2, pb3, pb4, pb5, pb6⟩ := Gb5.out.box.all
  go_wp2_with fail
  refine (HF.out _ _ _ _ Ga5.out.row Gb5.out.row).mono ?_
  rintro e u6 ⟨rfl, hb⟩
  have L6 := Lib.hid (L5.out.next hb)
  have Gt6 := Lib.hid (Gt5.out.next hb)
  have Gs6 := Lib.hid (Gs5.out.next hb)
  clear hb L5 Ga5 Gb5 Gt5 Gs5 pa0 pa1 pa2 pa3 pa4 pa5 pa6 pb0 pb1 pb2 pb3 pb4 pb5 pb6
  go_wp2
  refine wp_loop_rounds 3 ?_
  rw [rounds_succ]
  obtain ⟨pz0, pz1, pz2, pz3, pz4, pz5, pz6⟩ := L6.out.a.all
  go_wp2_with fail
  refine (HM0.out _ L6.out.bel).mono ?_
  rintro e u7 ⟨k7, rfl, hk, hrow, hb⟩
  have L7 := Lib.hid ((L6.out.next hb).alloc (.cells #[.int .i64 W, .int .i64 H, .slice (some ⟨k7, 0, none⟩) (W * H) (W * H)] 24))
  have Gt7 := Lib.hid ((Gt6.out.next hb).alloc (.cells #[.int .i64 W, .int .i64 H, .slice (some ⟨k7, 0, none⟩) (W * H) (W * H)] 24))
  have Gs7 := Lib.hid ((Gs6.out.next hb).alloc (.cells #[.int .i64 W, .int .i64 H, .slice (some ⟨k7, 0, none⟩) (W * H) (W * H)] 24))
  have Gm7 := Lib.hid (Gv.new W H hrow)
  clear hk hrow hb L6 Gt6 Gs6 pz0 pz1 pz2 pz3 pz4 pz5 pz6
  obtain ⟨pa0, pa1, pa2, pa3, pa4, pa5, pa6⟩ := Gm7.out.box.all
  go_wp2_with fail
  refine (HC0.out _ _ Gm7.out.row).mono ?_
  rintro e u8 ⟨k8, rfl, hk, hrow, hb⟩
  have L8 := Lib.hid ((L7.out.next hb).alloc (.cells #[.int .i64 H, .int .i64 W, .slice (some ⟨k8, 0, none⟩) (H * W) (H * W)] 24))
  have Gt8 := Lib.hid ((Gt7.out.next hb).alloc (.cells #[.int .i64 H, .int .i64 W, .slice (some ⟨k8, 0, none⟩) (H * W) (H * W)] 24))
  have Gs8 := Lib.hid ((Gs7.out.next hb).alloc (.cells #[.int .i64 H, .int .i64 W, .slice (some ⟨k8, 0, none⟩) (H * W) (H * W)] 24))
  have Gm8 := Lib.hid ((Gm7.out.next hb).alloc (.cells #[.int .i64 H, .int .i64 W, .slice (some ⟨k8, 0, none⟩) (H * W) (H * W)] 24))
  have Gc8 := Lib.hid (Gv.new H W hrow)
  clear hk hrow hb L7 Gt7 Gs7 Gm7 pa0 pa1 pa2 pa3 pa4 pa5 pa6
  obtain ⟨pa0, pa1, pa2, pa3, pa4, pa5, pa6⟩ := Gt8.out.box.all
  go_wp2_with fail
  refine (HD0.out _ _ Gt8.out.row).mono ?_
  rintro e u9 ⟨k9, rfl, hk, hrow, hb⟩
  have L9 := Lib.hid ((L8.out.next hb).alloc (.cells #[.int .i64 H, .int .i64 W, .slice (some ⟨k9, 0, none⟩) (H * W) (H * W)] 24))
  have Gt9 := Lib.hid ((Gt8.out.next hb).alloc (.cells #[.int .i64 H, .int .i64 W, .slice (some ⟨k9, 0, none⟩) (H * W) (H * W)] 24))
  have Gs9 := Lib.hid ((Gs8.out.next hb).alloc (.cells #[.int .i64 H, .int .i64 W, .slice (some ⟨k9, 0, none⟩) (H * W) (H * W)] 24))
  have Gm9 := Lib.hid ((Gm8.out.next hb).alloc (.cells #[.int .i64 H, .int .i64 W, .slice (some ⟨k9, 0, none⟩) (H * W) (H * W)] 24))
  have Gc9 := Lib.hid ((Gc8.out.next hb).alloc (.cells #[.int .i64 H, .int .i64 W, .slice (some ⟨k9, 0, none⟩) (H * W) (H * W)] 24))
  have Gd9 := Lib.hid (Gv.new H W hrow)
  clear hk hrow hb L8 Gt8 Gs8 Gm8 Gc8 pa0 pa1 pa2 pa3 pa4 pa5 pa6
  obtain ⟨pa0, pa1, pa2, pa3, pa4, pa5, pa6⟩ := Gs9.out.box.all
  go_wp2_with fail
  refine (HN0.out _ _ Gs9.out.row).mono ?_
  rintro e u10 ⟨k10, rfl, hk, hrow, hb⟩
  have L10 := Lib.hid ((L9.out.next hb).alloc (.cells #[.int .i64 W, .int .i64 H, .slice (some ⟨k10, 0, none⟩) (W * H) (W * H)] 24))
  have Gt10 := Lib.hid ((Gt9.out.next hb).alloc (.cells #[.int .i64 W, .int .i64 H, .slice (some ⟨k10, 0, none⟩) (W * H) (W * H)] 24))
  have Gs10 := Lib.hid ((Gs9.out.next hb).alloc (.cells #[.int .i64 W, .int .i64 H, .slice (some ⟨k10, 0, none⟩) (W * H) (W * H)] 24))
  have Gm10 := Lib.hid ((Gm9.out.next hb).alloc (.cells #[.int .i64 W, .int .i64 H, .slice (some ⟨k10, 0, none⟩) (W * H) (W * H)] 24))
  have Gc10 := Lib.hid ((Gc9.out.next hb).alloc (.cells #[.int .i64 W, .int .i64 H, .slice (some ⟨k10, 0, none⟩) (W * H) (W * H)] 24))
  have Gd10 := Lib.hid ((Gd9.out.next hb).alloc (.cells #[.int .i64 W, .int .i64 H, .slice (some ⟨k10, 0, none⟩) (W * H) (W * H)] 24))
  have Gn10 := Lib.hid (Gv.new W H hrow)
  clear hk hrow hb L9 Gt9 Gs9 Gm9 Gc9 Gd9 pa0 pa1 pa2 pa3 pa4 pa5 pa6
  obtain ⟨pa0, pa1, pa2, pa3, pa4, pa5, pa6⟩ := Gm10.out.box.all
  go_wp2_with fail
  refine (HP0.out _ _ Gm10.out.row).mono ?_
  rintro e u11 ⟨k11, rfl, hk, hrow, hb⟩
  have L11 := Lib.hid ((L10.out.next hb).alloc (.cells #[.int .i64 W, .int .i64 H, .slice (some ⟨k11, 0, none⟩) (W * H) (W * H)] 24))
  have Gt11 := Lib.hid ((Gt10.out.next hb).alloc (.cells #[.int .i64 W, .int .i64 H, .slice (some ⟨k11, 0, none⟩) (W * H) (W * H)] 24))
  have Gs11 := Lib.hid ((Gs10.out.next hb).alloc (.cells #[.int .i64 W, .int .i64 H, .slice (some ⟨k11, 0, none⟩) (W * H) (W * H)] 24))
  have Gm11 := Lib.hid ((Gm10.out.next hb).alloc (.cells #[.int .i64 W, .int .i64 H, .slice (some ⟨k11, 0, none⟩) (W * H) (W * H)] 24))
  have Gc11 := Lib.hid ((Gc10.out.next hb).alloc (.cells #[.int .i64 W, .int .i64 H, .slice (some ⟨k11, 0, none⟩) (W * H) (W * H)] 24))
  have Gd11 := Lib.hid ((Gd10.out.next hb).alloc (.cells #[.int .i64 W, .int .i64 H, .slice (some ⟨k11, 0, none⟩) (W * H) (W * H)] 24))
  have Gn11 := Lib.hid ((Gn10.out.next hb).alloc (.cells #[.int .i64 W, .int .i64 H, .slice (some ⟨k11, 0, none⟩) (W * H) (W * H)] 24))
  have Gp11 := Lib.hid (Gv.new W H hrow)
  clear hk hrow hb L10 Gt10 Gs10 Gm10 Gc10 Gd10 Gn10 pa0 pa1 pa2 pa3 pa4 pa5 pa6
  obtain ⟨pa0, pa1, pa2, pa3, pa4, pa5, pa6⟩ := Gc11.out.box.all
  obtain ⟨pb0, pb1, pb2, pb3, pb4, pb5, pb6⟩ := Gd11.out.box.all
  go_wp2_with fail
  refine (HF.out _ _ _ _ Gc11.out.row Gd11.out.row).mono ?_
  rintro e u12 ⟨rfl, hb⟩
  have L12 := Lib.hid (L11.out.next hb)
  have Gt12 := Lib.hid (Gt11.out.next hb)
  have Gs12 := Lib.hid (Gs11.out.next hb)
  have Gn12 := Lib.hid (Gn11.out.next hb)
  have Gp12 := Lib.hid (Gp11.out.next hb)
  clear hb L11 Gc11 Gd11 Gm11 Gt11 Gs11 Gn11 Gp11 pa0 pa1 pa2 pa3 pa4 pa5 pa6 pb0 pb1 pb2 pb3 pb4 pb5 pb6
  obtain ⟨pa0, pa1, pa2, pa3, pa4, pa5, pa6⟩ := Gn12.out.box.all
  obtain ⟨pb0, pb1, pb2, pb3, pb4, pb5, pb6⟩ := Gp12.out.box.all
  go_wp2_with fail
  refine (HE.out _ _ _ _ Gn12.out.row Gp12.out.row).mono ?_
  rintro e u13 ⟨rfl, hb⟩
  have L13 := Lib.hid (L12.out.next hb)
  have Gt13 := Lib.hid (Gt12.out.next hb)
  have Gs13 := Lib.hid (Gs12.out.next hb)
  clear hb L12 Gn12 Gp12 Gt12 Gs12 pa0 pa1 pa2 pa3 pa4 pa5 pa6 pb0 pb1 pb2 pb3 pb4 pb5 pb6
  go_wp2
  rw [rounds_succ]
  obtain ⟨pz0, pz1, pz2, pz3, pz4, pz5, pz6⟩ := L13.out.a.all
  go_wp2_with fail
  refine (HM1.out _ L13.out.bel).mono ?_
  rintro e u14 ⟨k14, rfl, hk, hrow, hb⟩
  have L14 := Lib.hid ((L13.out.next hb).alloc (.cells #[.int .i64 W, .int .i64 H, .slice (some ⟨k14, 0, none⟩) (W * H) (W * H)] 24))
  have Gt14 := Lib.hid ((Gt13.out.next hb).alloc (.cells #[.int .i64 W, .int .i64 H, .slice (some ⟨k14, 0, none⟩) (W * H) (W * H)] 24))
  have Gs14 := Lib.hid ((Gs13.out.next hb).alloc (.cells #[.int .i64 W, .int .i64 H, .slice (some ⟨k14, 0, none⟩) (W * H) (W * H)] 24))
  have Gm14 := Lib.hid (Gv.new W H hrow)
  clear hk hrow hb L13 Gt13 Gs13 pz0 pz1 pz2 pz3 pz4 pz5 pz6
  obtain ⟨pa0, pa1, pa2, pa3, pa4, pa5, pa6⟩ := Gm14.out.box.all
  go_wp2_with fail
  refine (HC1.out _ _ Gm14.out.row).mono ?_
  rintro e u15 ⟨k15, rfl, hk, hrow, hb⟩
  have L15 := Lib.hid ((L14.out.next hb).alloc (.cells #[.int .i64 H, .int .i64 W, .slice (some ⟨k15, 0, none⟩) (H * W) (H * W)] 24))
  have Gt15 := Lib.hid ((Gt14.out.next hb).alloc (.cells #[.int .i64 H, .int .i64 W, .slice (some ⟨k15, 0, none⟩) (H * W) (H * W)] 24))
  have Gs15 := Lib.hid ((Gs14.out.next hb).alloc (.cells #[.int .i64 H, .int .i64 W, .slice (some ⟨k15, 0, none⟩) (H * W) (H * W)] 24))
  have Gm15 := Lib.hid ((Gm14.out.next hb).alloc (.cells #[.int .i64 H, .int .i64 W, .slice (some ⟨k15, 0, none⟩) (H * W) (H * W)] 24))
  have Gc15 := Lib.hid (Gv.new H W hrow)
  clear hk hrow hb L14 Gt14 Gs14 Gm14 pa0 pa1 pa2 pa3 pa4 pa5 pa6
  obtain ⟨pa0, pa1, pa2, pa3, pa4, pa5, pa6⟩ := Gt15.out.box.all
  go_wp2_with fail
  refine (HD1.out _ _ Gt15.out.row).mono ?_
  rintro e u16 ⟨k16, rfl, hk, hrow, hb⟩
  have L16 := Lib.hid ((L15.out.next hb).alloc (.cells #[.int .i64 H, .int .i64 W, .slice (some ⟨k16, 0, none⟩) (H * W) (H * W)] 24))
  have Gt16 := Lib.hid ((Gt15.out.next hb).alloc (.cells #[.int .i64 H, .int .i64 W, .slice (some ⟨k16, 0, none⟩) (H * W) (H * W)] 24))
  have Gs16 := Lib.hid ((Gs15.out.next hb).alloc (.cells #[.int .i64 H, .int .i64 W, .slice (some ⟨k16, 0, none⟩) (H * W) (H * W)] 24))
  have Gm16 := Lib.hid ((Gm15.out.next hb).alloc (.cells #[.int .i64 H, .int .i64 W, .slice (some ⟨k16, 0, none⟩) (H * W) (H * W)] 24))
  have Gc16 := Lib.hid ((Gc15.out.next hb).alloc (.cells #[.int .i64 H, .int .i64 W, .slice (some ⟨k16, 0, none⟩) (H * W) (H * W)] 24))
  have Gd16 := Lib.hid (Gv.new H W hrow)
  clear hk hrow hb L15 Gt15 Gs15 Gm15 Gc15 pa0 pa1 pa2 pa3 pa4 pa5 pa6
  obtain ⟨pa0, pa1, pa2, pa3, pa4, pa5, pa6⟩ := Gs16.out.box.all
  go_wp2_with fail
  refine (HN1.out _ _ Gs16.out.row).mono ?_
  rintro e u17 ⟨k17, rfl, hk, hrow, hb⟩
  have L17 := Lib.hid ((L16.out.next hb).alloc (.cells #[.int .i64 W, .int .i64 H, .slice (some ⟨k17, 0, none⟩) (W * H) (W * H)] 24))
  have Gt17 := Lib.hid ((Gt16.out.next hb).alloc (.cells #[.int .i64 W, .int .i64 H, .slice (some ⟨k17, 0, none⟩) (W * H) (W * H)] 24))
  have Gs17 := Lib.hid ((Gs16.out.next hb).alloc (.cells #[.int .i64 W, .int .i64 H, .slice (some ⟨k17, 0, none⟩) (W * H) (W * H)] 24))
  have Gm17 := Lib.hid ((Gm16.out.next hb).alloc (.cells #[.int .i64 W, .int .i64 H, .slice (some ⟨k17, 0, none⟩) (W * H) (W * H)] 24))
  have Gc17 := Lib.hid ((Gc16.out.next hb).alloc (.cells #[.int .i64 W, .int .i64 H, .slice (some ⟨k17, 0, none⟩) (W * H) (W * H)] 24))
  have Gd17 := Lib.hid ((Gd16.out.next hb).alloc (.cells #[.int .i64 W, .int .i64 H, .slice (some ⟨k17, 0, none⟩) (W * H) (W * H)] 24))
  have Gn17 := Lib.hid (Gv.new W H hrow)
  clear hk hrow hb L16 Gt16 Gs16 Gm16 Gc16 Gd16 pa0 pa1 pa2 pa3 pa4 pa5 pa6
  obtain ⟨pa0, pa1, pa2, pa3, pa4, pa5, pa6⟩ := Gm17.out.box.all
  go_wp2_with fail
  refine (HP1.out _ _ Gm17.out.row).mono ?_
  rintro e u18 ⟨k18, rfl, hk, hrow, hb⟩
  have L18 := Lib.hid ((L17.out.next hb).alloc (.cells #[.int .i64 W, .int .i64 H, .slice (some ⟨k18, 0, none⟩) (W * H) (W * H)] 24))
  have Gt18 := Lib.hid ((Gt17.out.next hb).alloc (.cells #[.int .i64 W, .int .i64 H, .slice (some ⟨k18, 0, none⟩) (W * H) (W * H)] 24))
  have Gs18 := Lib.hid ((Gs17.out.next hb).alloc (.cells #[.int .i64 W, .int .i64 H, .slice (some ⟨k18, 0, none⟩) (W * H) (W * H)] 24))
  have Gm18 := Lib.hid ((Gm17.out.next hb).alloc (.cells #[.int .i64 W, .int .i64 H, .slice (some ⟨k18, 0, none⟩) (W * H) (W * H)] 24))
  have Gc18 := Lib.hid ((Gc17.out.next hb).alloc (.cells #[.int .i64 W, .int .i64 H, .slice (some ⟨k18, 0, none⟩) (W * H) (W * H)] 24))
  have Gd18 := Lib.hid ((Gd17.out.next hb).alloc (.cells #[.int .i64 W, .int .i64 H, .slice (some ⟨k18, 0, none⟩) (W * H) (W * H)] 24))
  have Gn18 := Lib.hid ((Gn17.out.next hb).alloc (.cells #[.int .i64 W, .int .i64 H, .slice (some ⟨k18, 0, none⟩) (W * H) (W * H)] 24))
  have Gp18 := Lib.hid (Gv.new W H hrow)
  clear hk hrow hb L17 Gt17 Gs17 Gm17 Gc17 Gd17 Gn17 pa0 pa1 pa2 pa3 pa4 pa5 pa6
  obtain ⟨pa0, pa1, pa2, pa3, pa4, pa5, pa6⟩ := Gc18.out.box.all
  obtain ⟨pb0, pb1, pb2, pb3, pb4, pb5, pb6⟩ := Gd18.out.box.all
  go_wp2_with fail
  refine (HF.out _ _ _ _ Gc18.out.row Gd18.out.row).mono ?_
  rintro e u19 ⟨rfl, hb⟩
  have L19 := Lib.hid (L18.out.next hb)
  have Gt19 := Lib.hid (Gt18.out.next hb)
  have Gs19 := Lib.hid (Gs18.out.next hb)
  have Gn19 := Lib.hid (Gn18.out.next hb)
  have Gp19 := Lib.hid (Gp18.out.next hb)
  clear hb L18 Gc18 Gd18 Gm18 Gt18 Gs18 Gn18 Gp18 pa0 pa1 pa2 pa3 pa4 pa5 pa6 pb0 pb1 pb2 pb3 pb4 pb5 pb6
  obtain ⟨pa0, pa1, pa2, pa3, pa4, pa5, pa6⟩ := Gn19.out.box.all
  obtain ⟨pb0, pb1, pb2, pb3, pb4, pb5, pb6⟩ := Gp19.out.box.all
  go_wp2_with fail
  refine (HE.out _ _ _ _ Gn19.out.row Gp19.out.row).mono ?_
  rintro e u20 ⟨rfl, hb⟩
  have L20 := Lib.hid (L19.out.next hb)
  have Gt20 := Lib.hid (Gt19.out.next hb)
  have Gs20 := Lib.hid (Gs19.out.next hb)
  clear hb L19 Gn19 Gp19 Gt19 Gs19 pa0 pa1 pa2 pa3 pa4 pa5 pa6 pb0 pb1 pb2 pb3 pb4 pb5 pb6
  go_wp2
  rw [rounds_succ]
  go_wp2_with fail
  refine (HA.out _).mono ?_
  rintro e u21 ⟨rfl, hb⟩
  have L21 := Lib.hid (L20.out.next hb)
  have Gt21 := Lib.hid (Gt20.out.next hb)
  have Gs21 := Lib.hid (Gs20.out.next hb)
  clear hb L20 Gt20 Gs20 
  go_wp2_with fail
  refine bodyPost_ret (v := .bool true) (by simp [results, Try.results9, go_sem]) rfl ⟨rfl, L21.out.bel⟩
end Go.Proofs.Ytnamjpdbadjgpaa
