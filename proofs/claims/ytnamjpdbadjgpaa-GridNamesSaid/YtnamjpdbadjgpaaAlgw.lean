/- The walk of the statement GridAlgebra. -/
import Derived.Test.YtnamjpdbadjgpaaGv
import Derived.Test.YtnamjpdbadjgpaaCo
import Derived.Test.YtnamjpdbadjgpaaAndor
namespace Go.Proofs.Ytnamjpdbadjgpaa
open Go.RowKit
set_option linter.unusedVariables false
set_option linter.unusedSimpArgs false

set_option maxRecDepth 100000 in
set_option maxHeartbeats 4000000 in
theorem alg_core (W H : Nat) (A D : Option Addr) (c d : Nat) (fand for_ fna fnb fbo fs ft : Nat → Bool) (dx dy n m c0 d0 q : Int) (w : World)
    (a1 : 1 ≤ W) (a2 : W ≤ 64) (a3 : 1 ≤ H) (a4 : H ≤ 64) (i1 : 0 ≤ n) (i2 : n ≤ 4096) (i3 : 0 ≤ m) (i4 : m ≤ 4096) (i5 : 0 ≤ c0) (i6 : c0 ≤ 4096) (i7 : 0 ≤ d0) (i8 : d0 ≤ 4096) (i9 : 0 ≤ q) (i10 : q ≤ 4096)
    (s1 : n + m = c0 + d0) (s2 : n + q = (W : Int) * (H : Int))
    (HVa : ∀ v, Calls Try.prog 43 #[.agg #[.int .i64 W, .int .i64 H, .slice A (W * H) c]] v fun e w' => e = .returned (.bool true) ∧ Below v.heap.size v w')
    (HVb : ∀ v, Calls Try.prog 43 #[.agg #[.int .i64 W, .int .i64 H, .slice D (W * H) d]] v fun e w' => e = .returned (.bool true) ∧ Below v.heap.size v w')
    (HAN : ∀ v, Below w.heap.size w v → Calls Try.prog 16 #[.agg #[.int .i64 W, .int .i64 H, .slice A (W * H) c], .agg #[.int .i64 W, .int .i64 H, .slice D (W * H) d]] v (OkGrid v W H fand))
    (HOR : ∀ v, Below w.heap.size w v → Calls Try.prog 17 #[.agg #[.int .i64 W, .int .i64 H, .slice A (W * H) c], .agg #[.int .i64 W, .int .i64 H, .slice D (W * H) d]] v (OkGrid v W H for_))
    (HNA : ∀ v, Below w.heap.size w v → Calls Try.prog 12 #[.agg #[.int .i64 W, .int .i64 H, .slice A (W * H) c]] v (OkGrid v W H fna))
    (HNB : ∀ v, Below w.heap.size w v → Calls Try.prog 12 #[.agg #[.int .i64 W, .int .i64 H, .slice D (W * H) d]] v (OkGrid v W H fnb))
    (HBO : ∀ v k l, Row v k (W * H) fna → Row v l (W * H) fnb → Calls Try.prog 16 #[.agg #[.int .i64 W, .int .i64 H, .slice (some ⟨k, 0, none⟩) (W * H) (W * H)], .agg #[.int .i64 W, .int .i64 H, .slice (some ⟨l, 0, none⟩) (W * H) (W * H)]] v (OkGrid v W H fbo))
    (HNE : ∀ v k, Row v k (W * H) for_ → Calls Try.prog 12 #[.agg #[.int .i64 W, .int .i64 H, .slice (some ⟨k, 0, none⟩) (W * H) (W * H)]] v (OkGrid v W H fbo))
    (HE : ∀ v k l, Row v k (W * H) fbo → Row v l (W * H) fbo → Calls Try.prog 32 #[.agg #[.int .i64 W, .int .i64 H, .slice (some ⟨k, 0, none⟩) (W * H) (W * H)], .agg #[.int .i64 W, .int .i64 H, .slice (some ⟨l, 0, none⟩) (W * H) (W * H)]] v fun e w' => e = .returned (.bool true) ∧ Below v.heap.size v w')
    (HC1 : ∀ v, Below w.heap.size w v → Calls Try.prog 25 #[.agg #[.int .i64 W, .int .i64 H, .slice A (W * H) c]] v fun e w' => e = .returned (.tuple #[.int .i64 n, .int .i64 0]) ∧ Below v.heap.size v w')
    (HC2 : ∀ v, Below w.heap.size w v → Calls Try.prog 25 #[.agg #[.int .i64 W, .int .i64 H, .slice D (W * H) d]] v fun e w' => e = .returned (.tuple #[.int .i64 m, .int .i64 0]) ∧ Below v.heap.size v w')
    (HC3 : ∀ v k, Row v k (W * H) fand → Calls Try.prog 25 #[.agg #[.int .i64 W, .int .i64 H, .slice (some ⟨k, 0, none⟩) (W * H) (W * H)]] v fun e w' => e = .returned (.tuple #[.int .i64 c0, .int .i64 0]) ∧ Below v.heap.size v w')
    (HC4 : ∀ v k, Row v k (W * H) for_ → Calls Try.prog 25 #[.agg #[.int .i64 W, .int .i64 H, .slice (some ⟨k, 0, none⟩) (W * H) (W * H)]] v fun e w' => e = .returned (.tuple #[.int .i64 d0, .int .i64 0]) ∧ Below v.heap.size v w')
    (HC5 : ∀ v k, Row v k (W * H) fna → Calls Try.prog 25 #[.agg #[.int .i64 W, .int .i64 H, .slice (some ⟨k, 0, none⟩) (W * H) (W * H)]] v fun e w' => e = .returned (.tuple #[.int .i64 q, .int .i64 0]) ∧ Below v.heap.size v w')
    (HS : ∀ v, Below w.heap.size w v → Calls Try.prog 19 #[.agg #[.int .i64 W, .int .i64 H, .slice A (W * H) c], .int .i64 dx, .int .i64 dy] v (OkGrid v W H fs))
    (HC6 : ∀ v k, Row v k (W * H) fs → Calls Try.prog 25 #[.agg #[.int .i64 W, .int .i64 H, .slice (some ⟨k, 0, none⟩) (W * H) (W * H)]] v fun e w' => e = .returned (.tuple #[.int .i64 n, .int .i64 0]) ∧ Below v.heap.size v w')
    (HT : ∀ v, Below w.heap.size w v → Calls Try.prog 34 #[.agg #[.int .i64 W, .int .i64 H, .slice A (W * H) c]] v (OkGrid v H W ft))
    (HC7 : ∀ v k, Row v k (H * W) ft → Calls Try.prog 25 #[.agg #[.int .i64 H, .int .i64 W, .slice (some ⟨k, 0, none⟩) (H * W) (H * W)]] v fun e w' => e = .returned (.tuple #[.int .i64 n, .int .i64 0]) ∧ Below v.heap.size v w')
    (HA : ∀ v, Calls Try.prog 23 #[] v fun e w' => e = .returned (.bool true) ∧ Below v.heap.size v w') :
    Calls Try.prog 10 #[.agg #[.int .i64 W, .int .i64 H, .slice A (W * H) c], .agg #[.int .i64 W, .int .i64 H, .slice D (W * H) d], .int .i64 dx, .int .i64 dy] w fun e w' => e = .returned (.bool true) ∧ Below w.heap.size w w' := by
  have HVa := Lib.hid HVa
  have HVb := Lib.hid HVb
  have HAN := Lib.hid HAN
  have HOR := Lib.hid HOR
  have HNA := Lib.hid HNA
  have HNB := Lib.hid HNB
  have HBO := Lib.hid HBO
  have HNE := Lib.hid HNE
  have HE := Lib.hid HE
  have HC1 := Lib.hid HC1
  have HC2 := Lib.hid HC2
  have HC3 := Lib.hid HC3
  have HC4 := Lib.hid HC4
  have HC5 := Lib.hid HC5
  have HS := Lib.hid HS
  have HC6 := Lib.hid HC6
  have HT := Lib.hid HT
  have HC7 := Lib.hid HC7
  have HA := Lib.hid HA
  have z1 : ((W : Int) != (W : Int)) = false := by simp
  have z2 : ((H : Int) != (H : Int)) = false := by simp
  have S1 := Lib.hid s1
  have S2 := Lib.hid s2
  clear s1 s2
  have L0 := Lib.hid (LB.start w W H W H A D (W * H) c (W * H) d)
  go_enter Try.func10, Try.ntmps10
  obtain ⟨pz0, pz1, pz2, pz3, pz4, pz5, pz6⟩ := L0.out.a.all
  obtain ⟨py0, py1, py2, py3, py4, py5, py6⟩ := L0.out.b.all
  go_wp2_with fail
  refine (HVa.out _).mono ?_
  rintro e u1 ⟨rfl, hb⟩
  have L1 := Lib.hid (L0.out.next hb)
  clear hb L0 pz0 pz1 pz2 pz3 pz4 pz5 pz6 py0 py1 py2 py3 py4 py5 py6
  obtain ⟨pz0, pz1, pz2, pz3, pz4, pz5, pz6⟩ := L1.out.a.all
  obtain ⟨py0, py1, py2, py3, py4, py5, py6⟩ := L1.out.b.all
  go_wp2_with fail
  refine (HVb.out _).mono ?_
  rintro e u2 ⟨rfl, hb⟩
  have L2 := Lib.hid (L1.out.next hb)
  clear hb L1 pz0 pz1 pz2 pz3 pz4 pz5 pz6 py0 py1 py2 py3 py4 py5 py6
  obtain ⟨pz0, pz1, pz2, pz3, pz4, pz5, pz6⟩ := L2.out.a.all
  obtain ⟨py0, py1, py2, py3, py4, py5, py6⟩ := L2.out.b.all
  go_wp2_with fail
  refine (HAN.out _ L2.out.bel).mono ?_
  rintro e u3 ⟨k3, rfl, hk, hrow, hb⟩
  have L3 := Lib.hid ((L2.out.next hb).alloc (.cells #[.int .i64 W, .int .i64 H, .slice (some ⟨k3, 0, none⟩) (W * H) (W * H)] 24))
  have Gan3 := Lib.hid (Gv.new W H hrow)
  clear hk hrow hb L2 pz0 pz1 pz2 pz3 pz4 pz5 pz6 py0 py1 py2 py3 py4 py5 py6
  obtain ⟨pz0, pz1, pz2, pz3, pz4, pz5, pz6⟩ := L3.out.a.all
  obtain ⟨py0, py1, py2, py3, py4, py5, py6⟩ := L3.out.b.all
  go_wp2_with fail
  refine (HOR.out _ L3.out.bel).mono ?_
  rintro e u4 ⟨k4, rfl, hk, hrow, hb⟩
  have L4 := Lib.hid ((L3.out.next hb).alloc (.cells #[.int .i64 W, .int .i64 H, .slice (some ⟨k4, 0, none⟩) (W * H) (W * H)] 24))
  have Gan4 := Lib.hid ((Gan3.out.next hb).alloc (.cells #[.int .i64 W, .int .i64 H, .slice (some ⟨k4, 0, none⟩) (W * H) (W * H)] 24))
  have Gor4 := Lib.hid (Gv.new W H hrow)
  clear hk hrow hb L3 Gan3 pz0 pz1 pz2 pz3 pz4 pz5 pz6 py0 py1 py2 py3 py4 py5 py6
  obtain ⟨pz0, pz1, pz2, pz3, pz4, pz5, pz6⟩ := L4.out.a.all
  go_wp2_with fail
  refine (HNA.out _ L4.out.bel).mono ?_
  rintro e u5 ⟨k5, rfl, hk, hrow, hb⟩
  have L5 := Lib.hid ((L4.out.next hb).alloc (.cells #[.int .i64 W, .int .i64 H, .slice (some ⟨k5, 0, none⟩) (W * H) (W * H)] 24))
  have Gan5 := Lib.hid ((Gan4.out.next hb).alloc (.cells #[.int .i64 W, .int .i64 H, .slice (some ⟨k5, 0, none⟩) (W * H) (W * H)] 24))
  have Gor5 := Lib.hid ((Gor4.out.next hb).alloc (.cells #[.int .i64 W, .int .i64 H, .slice (some ⟨k5, 0, none⟩) (W * H) (W * H)] 24))
  have Gna5 := Lib.hid (Gv.new W H hrow)
  clear hk hrow hb L4 Gan4 Gor4 pz0 pz1 pz2 pz3 pz4 pz5 pz6
  obtain ⟨py0, py1, py2, py3, py4, py5, py6⟩ := L5.out.b.all
  go_wp2_with fail
  refine (HNB.out _ L5.out.bel).mono ?_
  rintro e u6 ⟨k6, rfl, hk, hrow, hb⟩
  have L6 := Lib.hid ((L5.out.next hb).alloc (.cells #[.int .i64 W, .int .i64 H, .slice (some ⟨k6, 0, none⟩) (W * H) (W * H)] 24))
  have Gan6 := Lib.hid ((Gan5.out.next hb).alloc (.cells #[.int .i64 W, .int .i64 H, .slice (some ⟨k6, 0, none⟩) (W * H) (W * H)] 24))
  have Gor6 := Lib.hid ((Gor5.out.next hb).alloc (.cells #[.int .i64 W, .int .i64 H, .slice (some ⟨k6, 0, none⟩) (W * H) (W * H)] 24))
  have Gna6 := Lib.hid ((Gna5.out.next hb).alloc (.cells #[.int .i64 W, .int .i64 H, .slice (some ⟨k6, 0, none⟩) (W * H) (W * H)] 24))
  have Gnb6 := Lib.hid (Gv.new W H hrow)
  clear hk hrow hb L5 Gan5 Gor5 Gna5 py0 py1 py2 py3 py4 py5 py6
  obtain ⟨pa0, pa1, pa2, pa3, pa4, pa5, pa6⟩ := Gna6.out.box.all
  obtain ⟨pb0, pb1, pb2, pb3, pb4, pb5, pb6⟩ := Gnb6.out.box.all
  go_wp2_with fail
  refine (HBO.out _ _ _ Gna6.out.row Gnb6.out.row).mono ?_
  rintro e u7 ⟨k7, rfl, hk, hrow, hb⟩
  have L7 := Lib.hid ((L6.out.next hb).alloc (.cells #[.int .i64 W, .int .i64 H, .slice (some ⟨k7, 0, none⟩) (W * H) (W * H)] 24))
  have Gan7 := Lib.hid ((Gan6.out.next hb).alloc (.cells #[.int .i64 W, .int .i64 H, .slice (some ⟨k7, 0, none⟩) (W * H) (W * H)] 24))
  have Gor7 := Lib.hid ((Gor6.out.next hb).alloc (.cells #[.int .i64 W, .int .i64 H, .slice (some ⟨k7, 0, none⟩) (W * H) (W * H)] 24))
  have Gna7 := Lib.hid ((Gna6.out.next hb).alloc (.cells #[.int .i64 W, .int .i64 H, .slice (some ⟨k7, 0, none⟩) (W * H) (W * H)] 24))
  have Gnb7 := Lib.hid ((Gnb6.out.next hb).alloc (.cells #[.int .i64 W, .int .i64 H, .slice (some ⟨k7, 0, none⟩) (W * H) (W * H)] 24))
  have Gbo7 := Lib.hid (Gv.new W H hrow)
  clear hk hrow hb L6 Gan6 Gor6 Gna6 Gnb6 pa0 pa1 pa2 pa3 pa4 pa5 pa6 pb0 pb1 pb2 pb3 pb4 pb5 pb6
  obtain ⟨pa0, pa1, pa2, pa3, pa4, pa5, pa6⟩ := Gor7.out.box.all
  go_wp2_with fail
  refine (HNE.out _ _ Gor7.out.row).mono ?_
  rintro e u8 ⟨k8, rfl, hk, hrow, hb⟩
  have L8 := Lib.hid ((L7.out.next hb).alloc (.cells #[.int .i64 W, .int .i64 H, .slice (some ⟨k8, 0, none⟩) (W * H) (W * H)] 24))
  have Gan8 := Lib.hid ((Gan7.out.next hb).alloc (.cells #[.int .i64 W, .int .i64 H, .slice (some ⟨k8, 0, none⟩) (W * H) (W * H)] 24))
  have Gor8 := Lib.hid ((Gor7.out.next hb).alloc (.cells #[.int .i64 W, .int .i64 H, .slice (some ⟨k8, 0, none⟩) (W * H) (W * H)] 24))
  have Gna8 := Lib.hid ((Gna7.out.next hb).alloc (.cells #[.int .i64 W, .int .i64 H, .slice (some ⟨k8, 0, none⟩) (W * H) (W * H)] 24))
  have Gnb8 := Lib.hid ((Gnb7.out.next hb).alloc (.cells #[.int .i64 W, .int .i64 H, .slice (some ⟨k8, 0, none⟩) (W * H) (W * H)] 24))
  have Gbo8 := Lib.hid ((Gbo7.out.next hb).alloc (.cells #[.int .i64 W, .int .i64 H, .slice (some ⟨k8, 0, none⟩) (W * H) (W * H)] 24))
  have Gne8 := Lib.hid (Gv.new W H hrow)
  clear hk hrow hb L7 Gan7 Gor7 Gna7 Gnb7 Gbo7 pa0 pa1 pa2 pa3 pa4 pa5 pa6
  obtain ⟨pa0, pa1, pa2, pa3, pa4, pa5, pa6⟩ := Gbo8.out.box.all
  obtain ⟨pb0, pb1, pb2, pb3, pb4, pb5, pb6⟩ := Gne8.out.box.all
  go_wp2_with fail
  refine (HE.out _ _ _ Gbo8.out.row Gne8.out.row).mono ?_
  rintro e u9 ⟨rfl, hb⟩
  have L9 := Lib.hid (L8.out.next hb)
  have Gan9 := Lib.hid (Gan8.out.next hb)
  have Gor9 := Lib.hid (Gor8.out.next hb)
  have Gna9 := Lib.hid (Gna8.out.next hb)
  clear hb L8 Gbo8 Gne8 Gnb8 Gan8 Gor8 Gna8 pa0 pa1 pa2 pa3 pa4 pa5 pa6 pb0 pb1 pb2 pb3 pb4 pb5 pb6
  clear HVa HVb HAN HOR HNA HNB HBO HNE HE
  obtain ⟨pz0, pz1, pz2, pz3, pz4, pz5, pz6⟩ := L9.out.a.all
  go_wp2_with fail
  refine (HC1.out _ L9.out.bel).mono ?_
  rintro e u10 ⟨rfl, hb⟩
  have L10 := Lib.hid (L9.out.next hb)
  have Gan10 := Lib.hid (Gan9.out.next hb)
  have Gor10 := Lib.hid (Gor9.out.next hb)
  have Gna10 := Lib.hid (Gna9.out.next hb)
  clear hb L9 Gan9 Gor9 Gna9 pz0 pz1 pz2 pz3 pz4 pz5 pz6
  obtain ⟨py0, py1, py2, py3, py4, py5, py6⟩ := L10.out.b.all
  go_wp2_with fail
  refine (HC2.out _ L10.out.bel).mono ?_
  rintro e u11 ⟨rfl, hb⟩
  have L11 := Lib.hid (L10.out.next hb)
  have Gan11 := Lib.hid (Gan10.out.next hb)
  have Gor11 := Lib.hid (Gor10.out.next hb)
  have Gna11 := Lib.hid (Gna10.out.next hb)
  clear hb L10 Gan10 Gor10 Gna10 py0 py1 py2 py3 py4 py5 py6
  obtain ⟨pa0, pa1, pa2, pa3, pa4, pa5, pa6⟩ := Gan11.out.box.all
  go_wp2_with fail
  refine (HC3.out _ _ Gan11.out.row).mono ?_
  rintro e u12 ⟨rfl, hb⟩
  have L12 := Lib.hid (L11.out.next hb)
  have Gor12 := Lib.hid (Gor11.out.next hb)
  have Gna12 := Lib.hid (Gna11.out.next hb)
  clear hb L11 Gan11 Gor11 Gna11 pa0 pa1 pa2 pa3 pa4 pa5 pa6
  obtain ⟨pa0, pa1, pa2, pa3, pa4, pa5, pa6⟩ := Gor12.out.box.all
  go_wp2_with fail
  refine (HC4.out _ _ Gor12.out.row).mono ?_
  rintro e u13 ⟨rfl, hb⟩
  have L13 := Lib.hid (L12.out.next hb)
  have Gna13 := Lib.hid (Gna12.out.next hb)
  clear hb L12 Gor12 Gna12 pa0 pa1 pa2 pa3 pa4 pa5 pa6
  obtain ⟨pa0, pa1, pa2, pa3, pa4, pa5, pa6⟩ := Gna13.out.box.all
  go_wp2_with fail
  refine (HC5.out _ _ Gna13.out.row).mono ?_
  rintro e u14 ⟨rfl, hb⟩
  have L14 := Lib.hid (L13.out.next hb)
  clear hb L13 Gna13 pa0 pa1 pa2 pa3 pa4 pa5 pa6
  obtain ⟨pz0, pz1, pz2, pz3, pz4, pz5, pz6⟩ := L14.out.a.all
  go_wp2_with fail
  refine (HS.out _ L14.out.bel).mono ?_
  rintro e u15 ⟨k15, rfl, hk, hrow, hb⟩
  have L15 := Lib.hid ((L14.out.next hb).alloc (.cells #[.int .i64 W, .int .i64 H, .slice (some ⟨k15, 0, none⟩) (W * H) (W * H)] 24))
  have Gs15 := Lib.hid (Gv.new W H hrow)
  clear hk hrow hb L14 pz0 pz1 pz2 pz3 pz4 pz5 pz6
  obtain ⟨pa0, pa1, pa2, pa3, pa4, pa5, pa6⟩ := Gs15.out.box.all
  go_wp2_with fail
  refine (HC6.out _ _ Gs15.out.row).mono ?_
  rintro e u16 ⟨rfl, hb⟩
  have L16 := Lib.hid (L15.out.next hb)
  clear hb L15 Gs15 pa0 pa1 pa2 pa3 pa4 pa5 pa6
  obtain ⟨pz0, pz1, pz2, pz3, pz4, pz5, pz6⟩ := L16.out.a.all
  go_wp2_with fail
  refine (HT.out _ L16.out.bel).mono ?_
  rintro e u17 ⟨k17, rfl, hk, hrow, hb⟩
  have L17 := Lib.hid ((L16.out.next hb).alloc (.cells #[.int .i64 H, .int .i64 W, .slice (some ⟨k17, 0, none⟩) (H * W) (H * W)] 24))
  have Gt17 := Lib.hid (Gv.new H W hrow)
  clear hk hrow hb L16 pz0 pz1 pz2 pz3 pz4 pz5 pz6
  obtain ⟨pa0, pa1, pa2, pa3, pa4, pa5, pa6⟩ := Gt17.out.box.all
  go_wp2_with fail
  refine (HC7.out _ _ Gt17.out.row).mono ?_
  rintro e u18 ⟨rfl, hb⟩
  have L18 := Lib.hid (L17.out.next hb)
  clear hb L17 Gt17 pa0 pa1 pa2 pa3 pa4 pa5 pa6
  have t1 : (n + m == c0 + d0) = true := by simp [S1.out]
  have t2 : (n + q == (W : Int) * (H : Int)) = true := by simp [S2.out]
  have t4 : 0 ≤ (W : Int) * (H : Int) := Int.mul_nonneg (by omega) (by omega)
  have t5 : (W : Int) * (H : Int) ≤ 4096 := by have := Int.ofNat_le.2 (Nat.mul_le_mul a2 a4); simpa using this
  obtain ⟨pz0, pz1, pz2, pz3, pz4, pz5, pz6⟩ := L18.out.a.all
  go_wp2_with fail
  refine (HA.out _).mono ?_
  rintro e u19 ⟨rfl, hb⟩
  have L19 := Lib.hid (L18.out.next hb)
  clear hb L18 pz0 pz1 pz2 pz3 pz4 pz5 pz6
  go_wp2_with fail
  refine bodyPost_ret (v := .bool true) (by simp [results, Try.results10, go_sem]) rfl ⟨rfl, L19.out.bel⟩
end Go.Proofs.Ytnamjpdbadjgpaa
