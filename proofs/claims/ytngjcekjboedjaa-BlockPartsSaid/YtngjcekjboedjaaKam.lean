/- Layer 13: alive. -/
import Derived.Test.YtngjcekjboedjaaKal
namespace Go.Proofs.Ytngjcekjboedjaa
open Go.RowKit
set_option maxRecDepth 100000
set_option linter.unusedVariables false
set_option linter.unusedSimpArgs false

theorem wof {B : Nat} {w w' : World} (h : Below B w w') : ∃ z : World, z = w' := ⟨_, rfl⟩
theorem bxb {u v : World} {g : Nat} {W H : Int} {x : Value} (hb : Below u.heap.size u v) (h : Box u g W H x) : Box v g W H x := h.below hb h.lt
theorem bxn (u : World) : Box (u.alloc (.cells #[.int .i64 0, .int .i64 0, .slice none 0 0] 24)) u.heap.size 0 0 (.slice none 0 0) := Box.new u 0 0 _
theorem bxa {u : World} {o : Obj} {g : Nat} {W H : Int} {x : Value} (h : Box u g W H x) : Box (u.alloc o) g W H x := h.alloc o
theorem bxn1 (u : World) (o : Obj) : Box ((u.alloc o).alloc (.cells #[.int .i64 0, .int .i64 0, .slice none 0 0] 24)) (u.heap.size + 1) 0 0 (.slice none 0 0) := by
  have h := bxn (u.alloc o)
  rwa [World.size_alloc] at h
theorem bxn2 (u : World) (o o' : Obj) : Box (((u.alloc o).alloc o').alloc (.cells #[.int .i64 0, .int .i64 0, .slice none 0 0] 24)) (u.heap.size + 1 + 1) 0 0 (.slice none 0 0) := by
  have h := bxn1 (u.alloc o) o'
  rwa [World.size_alloc] at h
theorem bt {a u v : World} (h : Below a.heap.size a u) (k : Below u.heap.size u v) : Below a.heap.size a v := h.trans (k.mono h.size)
theorem ba {a u : World} {o : Obj} (h : Below a.heap.size a u) : Below a.heap.size a (u.alloc o) := h.alloc h.size o
theorem bs {a u : World} {g i : Nat} {x : Value} (h : Below a.heap.size a u) (hg : a.heap.size ≤ g) : Below a.heap.size a (u.setCell ⟨g, i, none⟩ x) := h.setCell (p := ⟨g, i, none⟩) hg x
theorem cn0 {u : World} {cs : Array Value} {t : TypeId} {i : Nat} {x : Value} (h : cs[i]? = some x) : (u.alloc (.cells cs t)).cell? ⟨u.heap.size, i, none⟩ = some x := cn h
theorem cn1 {u : World} {o : Obj} {cs : Array Value} {t : TypeId} {i : Nat} {x : Value} (h : cs[i]? = some x) : ((u.alloc o).alloc (.cells cs t)).cell? ⟨u.heap.size + 1, i, none⟩ = some x := by
  have h2 := cn (u := u.alloc o) (t := t) h
  rwa [World.size_alloc] at h2
theorem cn2 {u : World} {o o' : Obj} {cs : Array Value} {t : TypeId} {i : Nat} {x : Value} (h : cs[i]? = some x) : (((u.alloc o).alloc o').alloc (.cells cs t)).cell? ⟨u.heap.size + 1 + 1, i, none⟩ = some x := by
  have h2 := cn1 (u := u.alloc o) (o := o') (t := t) h
  rwa [World.size_alloc] at h2
theorem cn3 {u : World} {o o' o2 : Obj} {cs : Array Value} {t : TypeId} {i : Nat} {x : Value} (h : cs[i]? = some x) : ((((u.alloc o).alloc o').alloc o2).alloc (.cells cs t)).cell? ⟨u.heap.size + 1 + 1 + 1, i, none⟩ = some x := by
  have h2 := cn2 (u := u.alloc o) (o := o') (o' := o2) (t := t) h
  rwa [World.size_alloc] at h2
set_option maxHeartbeats 6400000 in
theorem alive13_at (w wz : World) (hw : Below w.heap.size w wz) : Calls Try.prog 65 #[] wz fun e w' => e = .returned (.bool true) ∧ Below w.heap.size w w' := by
  have HRA := Lib.hid (fun u => row_any (some ⟨wz.heap.size, 0, none⟩) 2 2 u)
  have LBz := Lib.hid hw
  have P0 := Lib.hid (cn (u := wz) (cs := #[.bool true, .bool false]) (t := 4) (i := 0) (x := .bool true) rfl)
  have P1 := Lib.hid (cn (u := wz) (cs := #[.bool true, .bool false]) (t := 4) (i := 1) (x := .bool false) rfl)
  have hb0 := bel_alloc wz (.cells #[.bool true, .bool false] 4)
  have LB0 := Lib.hid (LBz.out.trans (hb0.mono LBz.out.size))
  clear hw hb0
  go_enter Try.func65, Try.ntmps65
  go_wp2_with fail
  with_reducible refine Calls.mono (HRA.out _) ?_
  rintro e w1 ⟨rfl, hb⟩
  have P0 := Lib.hid (cb hb P0.out)
  have P1 := Lib.hid (cb hb P1.out)
  have LB1 := Lib.hid (LB0.out.trans (hb.mono LB0.out.size))
  clear hb LB0 HRA LBz
  obtain ⟨kp, hkp⟩ : ∃ z, wz.heap.size = z := ⟨_, rfl⟩
  rw [hkp] at P0 P1 ⊢
  clear hkp
  have X1 := Lib.hid (Box.new w1 2 1 (.slice (some ⟨kp, 0, none⟩) 2 2))
  have hb := bel_alloc w1 (.cells #[.int .i64 2, .int .i64 1, .slice (some ⟨kp, 0, none⟩) 2 2] 24)
  have P0 := Lib.hid (cb hb P0.out)
  have P1 := Lib.hid (cb hb P1.out)
  have LB2 := Lib.hid (LB1.out.trans (hb.mono LB1.out.size))
  clear hb LB1
  go_upto_region 2 with (fail)
  obtain ⟨g1, hg1⟩ : ∃ z, w1.heap.size = z := ⟨_, rfl⟩
  rw [hg1] at X1 ⊢
  clear hg1
  generalize w1.alloc (.cells #[.int .i64 2, .int .i64 1, .slice (some ⟨kp, 0, none⟩) 2 2] 24) = w2 at *
  go_cut [2, 3] (fun s2 s3 wx => ∃ g A c, s2 = .pointer (some ⟨g, 0, none⟩) ∧ s3 = .int .i64 0 ∧ Hid (Box wx g 2 1 (.slice A 2 c)) ∧ Hid (Holds wx wx.heap.size A 2 row10) ∧ Hid (Below w2.heap.size w2 wx))
  case first =>
    have HK := Lib.hid (fun (z : World) (h : Below w2.heap.size w2 z) => (show z.cell? ⟨g1, 0, none⟩ = some (.int .i64 2) ∧ z.cell? ⟨g1, 1, none⟩ = some (.int .i64 1) ∧ z.cell? ⟨g1, 2, none⟩ = some (.slice (some ⟨kp, 0, none⟩) 2 2) from ⟨(X1.out.below h X1.out.lt).c0, (X1.out.below h X1.out.lt).c1, (X1.out.below h X1.out.lt).c2⟩))
    clear LB2
    go_region_held3 (fun z => z.cell? ⟨g1, 0, none⟩ = some (.int .i64 2) ∧ z.cell? ⟨g1, 1, none⟩ = some (.int .i64 1) ∧ z.cell? ⟨g1, 2, none⟩ = some (.slice (some ⟨kp, 0, none⟩) 2 2))
      (exact HK.out _ (by (repeat' (first | assumption | exact Below.refl _ _ | refine Below.drew ?_ | refine ba ?_ | refine bs ?_ ?_ | omega | (simp; done) | (simp; omega)))))
      ((first
        | (go_at_call 63
           with_reducible refine Calls.mono (row1 _ _ true ?_) ?_
           · (first | exact cn0 rfl | exact ck (cn0 rfl) | exact ck (ck (cn0 rfl)) | exact cn1 rfl | exact ck (cn1 rfl) | exact ck (ck (cn1 rfl)) | exact cn2 rfl | exact ck (cn2 rfl) | exact ck (ck (cn2 rfl)))
           rintro e u1 ⟨rfl, hc1, hb1⟩
           have HB1 : Below w2.heap.size w2 u1 := bt (by (repeat' (first | assumption | exact Below.refl _ _ | refine Below.drew ?_ | refine ba ?_ | refine bs ?_ ?_ | omega | (simp; done) | (simp; omega)))) hb1
           have hs1 := HB1.size
           (first | have AF := bxb hb1 (bxa (bxn w2)) | have AF := bxb hb1 (bxn1 w2 _) | have AF := bxb hb1 (bxa (bxa (bxn w2))) | have AF := bxb hb1 (bxa (bxn1 w2 _)) | have AF := bxb hb1 (bxn2 w2 _ _) | skip))
        | (go_at_call 63
           with_reducible refine Calls.mono (row1 _ _ false ?_) ?_
           · (first | exact cn0 rfl | exact ck (cn0 rfl) | exact ck (ck (cn0 rfl)) | exact cn1 rfl | exact ck (cn1 rfl) | exact ck (ck (cn1 rfl)) | exact cn2 rfl | exact ck (cn2 rfl) | exact ck (ck (cn2 rfl)) | exact cb hb1 (cn0 rfl) | exact cb hb1 (ck (cn0 rfl)) | exact cb hb1 (ck (ck (cn0 rfl))) | exact cb hb1 (cn1 rfl) | exact cb hb1 (ck (cn1 rfl)) | exact cb hb1 (ck (ck (cn1 rfl))) | exact cb hb1 (cn2 rfl) | exact cb hb1 (ck (cn2 rfl)) | exact cb hb1 (ck (ck (cn2 rfl))) | exact ck (cb hb1 (cn0 rfl)) | exact ck (cb hb1 (ck (cn0 rfl))) | exact ck (cb hb1 (ck (ck (cn0 rfl)))) | exact ck (cb hb1 (cn1 rfl)) | exact ck (cb hb1 (ck (cn1 rfl))) | exact ck (cb hb1 (ck (ck (cn1 rfl)))) | exact ck (cb hb1 (cn2 rfl)) | exact ck (cb hb1 (ck (cn2 rfl))) | exact ck (cb hb1 (ck (ck (cn2 rfl)))))
           rintro e u2 ⟨rfl, hc2, hb2⟩
           have HB2 : Below w2.heap.size w2 u2 := bt (by (repeat' (first | assumption | exact Below.refl _ _ | refine Below.drew ?_ | refine ba ?_ | refine bs ?_ ?_ | omega | (simp; done) | (simp; omega)))) hb2
           have hs2 := HB2.size
           (first | have AF := bxb hb2 AF | have AF := bxb hb2 (bxa AF) | have AF := bxb hb2 (bxn u1) | have AF := bxb hb2 (bxn1 u1 _) | have AF := bxb hb2 (bxa (bxn u1)) | skip))
        | (go_at_call 45
           with_reducible refine Calls.mono (fill_ex1 _ kp _ _ ?_ ?_ ?_ ?_) ?_
           · exact cb (by (repeat' (first | assumption | exact Below.refl _ _ | refine Below.drew ?_ | refine ba ?_ | refine bs ?_ ?_ | omega | (simp; done) | (simp; omega)))) P0.out
           · exact cb (by (repeat' (first | assumption | exact Below.refl _ _ | refine Below.drew ?_ | refine ba ?_ | refine bs ?_ ?_ | omega | (simp; done) | (simp; omega)))) P1.out
           · (first | exact cb hb2 hc1 | exact cb hb2 (ck hc1) | exact cb hb2 (ck (ck hc1)) | exact ck (cb hb2 hc1) | exact ck (cb hb2 (ck hc1)) | exact ck (cb hb2 (ck (ck hc1))))
           · (first | exact hc2 | exact ck hc2)
           rintro e u3 ⟨A3, c3, rfl, hh3, hb3⟩
           have HB3 : Below w2.heap.size w2 u3 := bt (by (repeat' (first | assumption | exact Below.refl _ _ | refine Below.drew ?_ | refine ba ?_ | refine bs ?_ ?_ | omega | (simp; done) | (simp; omega)))) hb3
           have hs3 := HB3.size
           (first | have AF := bxb hb3 AF | have AF := bxb hb3 (bxn u2) | skip)
           (try obtain ⟨z0, z1, z2, z3, z4, z5, z6⟩ := AF.all))))
    all_goals
      clear HK
      go_wp2
      go_meet
      first
        | exact ⟨_, A3, c3, rfl, rfl, Lib.hid (Box.new u3 2 1 _), Lib.hid ((hh3.below (bel_alloc u3 _)).more (bel_alloc u3 _).size), Lib.hid (ba HB3)⟩
        | exact ⟨_, A3, c3, rfl, rfl, Lib.hid (AF.st3 2 1 _), Lib.hid ((hh3.st3 (holds_ne_box hh3 AF) _ _ _).more (by simp)), Lib.hid (bel_st3 HB3 (by first | exact Nat.le_refl _ | omega | (simp; done) | (simp; omega)) _ _ _)⟩
  case rest =>
    obtain ⟨ga, A1, c1, rfl, rfl, XA, HA, HB⟩ := hcut
    have P0 := Lib.hid (cb HB.out P0.out)
    have P1 := Lib.hid (cb HB.out P1.out)
    have X1 := Lib.hid (X1.out.below HB.out X1.out.lt)
    have LB3 := Lib.hid (LB2.out.trans (HB.out.mono LB2.out.size))
    clear HB LB2
    go_upto_region 3 with (fail)
    obtain ⟨w3, hw3⟩ := wof LB3.out
    subst hw3
    go_cut [4, 5] (fun s2 s3 wx => ∃ g A c, s2 = .pointer (some ⟨g, 0, none⟩) ∧ s3 = .int .i64 0 ∧ Hid (Box wx g 4 2 (.slice A 8 c)) ∧ Hid (Below w3.heap.size w3 wx))
    case first =>
      have HK := Lib.hid (fun (z : World) (h : Below w3.heap.size w3 z) => (show z.cell? ⟨g1, 0, none⟩ = some (.int .i64 2) ∧ z.cell? ⟨g1, 1, none⟩ = some (.int .i64 1) ∧ z.cell? ⟨g1, 2, none⟩ = some (.slice (some ⟨kp, 0, none⟩) 2 2) from ⟨(X1.out.below h X1.out.lt).c0, (X1.out.below h X1.out.lt).c1, (X1.out.below h X1.out.lt).c2⟩))
      clear LB3
      go_region_held3 (fun z => z.cell? ⟨g1, 0, none⟩ = some (.int .i64 2) ∧ z.cell? ⟨g1, 1, none⟩ = some (.int .i64 1) ∧ z.cell? ⟨g1, 2, none⟩ = some (.slice (some ⟨kp, 0, none⟩) 2 2))
        (exact HK.out _ (by (repeat' (first | assumption | exact Below.refl _ _ | refine Below.drew ?_ | refine ba ?_ | refine bs ?_ ?_ | omega | (simp; done) | (simp; omega)))))
        ((first
          | (go_at_call 64
             have hx := hr1
             with_reducible refine Calls.mono (zero22 _) ?_
             rintro e u2 ⟨k2, rfl, hk2, hr2, hb2⟩
             have HB2 : Below w3.heap.size w3 u2 := bt (by (repeat' (first | assumption | exact Below.refl _ _ | refine Below.drew ?_ | refine ba ?_ | refine bs ?_ ?_ | omega | (simp; done) | (simp; omega)))) hb2
             have hs2 := HB2.size
             have hr1b : Row u2 k1 4 (fun _ => false) := by first | exact hr1.below hb2 hr1.lt | exact (Row.alloc hr1 _).below hb2 (Row.alloc hr1 _).lt
             (first | have AF := bxb hb2 AF | have AF := bxb hb2 (bxn u1) | skip))
          | (go_at_call 64
             with_reducible refine Calls.mono (zero22 _) ?_
             rintro e u1 ⟨k1, rfl, hk1, hr1, hb1⟩
             have HB1 : Below w3.heap.size w3 u1 := bt (by (repeat' (first | assumption | exact Below.refl _ _ | refine Below.drew ?_ | refine ba ?_ | refine bs ?_ ?_ | omega | (simp; done) | (simp; omega)))) hb1
             have hs1 := HB1.size
             (first | have AF := bxb hb1 (bxn w3) | skip))
          | (go_at_call 45
             with_reducible refine Calls.mono (fill_ex2 _ kp _ _ _ _ ?_ ?_ ?_ ?_) ?_
             · exact cb (by (repeat' (first | assumption | exact Below.refl _ _ | refine Below.drew ?_ | refine ba ?_ | refine bs ?_ ?_ | omega | (simp; done) | (simp; omega)))) P0.out
             · exact cb (by (repeat' (first | assumption | exact Below.refl _ _ | refine Below.drew ?_ | refine ba ?_ | refine bs ?_ ?_ | omega | (simp; done) | (simp; omega)))) P1.out
             · first | exact hr1b | exact Row.alloc hr1b _
             · first | exact hr2 | exact Row.alloc hr2 _
             rintro e u3 ⟨A3, c3, rfl, hh3, hb3⟩
             have HB3 : Below w3.heap.size w3 u3 := bt (by (repeat' (first | assumption | exact Below.refl _ _ | refine Below.drew ?_ | refine ba ?_ | refine bs ?_ ?_ | omega | (simp; done) | (simp; omega)))) hb3
             have hs3 := HB3.size
             (first | have AF := bxb hb3 AF | have AF := bxb hb3 (bxn u2) | skip)
             (try obtain ⟨z0, z1, z2, z3, z4, z5, z6⟩ := AF.all))))
      all_goals
        clear HK
        go_wp2
        go_meet
        first
          | exact ⟨_, A3, c3, rfl, rfl, Lib.hid (Box.new u3 4 2 _), Lib.hid (ba HB3)⟩
          | exact ⟨_, A3, c3, rfl, rfl, Lib.hid (AF.st3 4 2 _), Lib.hid (bel_st3 HB3 (by first | exact Nat.le_refl _ | omega | (simp; done) | (simp; omega)) _ _ _)⟩
    case rest =>
      obtain ⟨gb, A2, c2, rfl, rfl, XB, HB⟩ := hcut
      have P0 := Lib.hid (cb HB.out P0.out)
      have P1 := Lib.hid (cb HB.out P1.out)
      have X1 := Lib.hid (X1.out.below HB.out X1.out.lt)
      have XA := Lib.hid (XA.out.below HB.out XA.out.lt)
      have HA := Lib.hid ((HA.out.below HB.out).more HB.out.size)
      have LB4 := Lib.hid (LB3.out.trans (HB.out.mono LB3.out.size))
      clear HB LB3
      go_upto_region 4 with (fail)
      obtain ⟨w4, hw4⟩ := wof LB4.out
      subst hw4
      have R8 := Lib.hid (show Row (w4.alloc (.cells #[.bool true, .bool true, .bool false, .bool false, .bool true, .bool true, .bool false, .bool false] 4)) w4.heap.size 8 g42 from ⟨_, World.alloc_heap_new _ _, by decide, fun i hi => by
        rcases (show i = 0 ∨ i = 1 ∨ i = 2 ∨ i = 3 ∨ i = 4 ∨ i = 5 ∨ i = 6 ∨ i = 7 by omega) with rfl | rfl | rfl | rfl | rfl | rfl | rfl | rfl <;> rfl⟩)
      have hb := ba (o := .cells #[.int .i64 4, .int .i64 2, .slice (some ⟨w4.heap.size, 0, none⟩) 8 8] 24) (ba (o := .cells #[.bool true, .bool true, .bool false, .bool false, .bool true, .bool true, .bool false, .bool false] 4) (Below.refl w4.heap.size w4))
      have X8 := Lib.hid (show Box ((w4.alloc (.cells #[.bool true, .bool true, .bool false, .bool false, .bool true, .bool true, .bool false, .bool false] 4)).alloc (.cells #[.int .i64 4, .int .i64 2, .slice (some ⟨w4.heap.size, 0, none⟩) 8 8] 24)) (w4.heap.size + 1) 4 2 (.slice (some ⟨w4.heap.size, 0, none⟩) 8 8) from by
        have h := Box.new (w4.alloc (.cells #[.bool true, .bool true, .bool false, .bool false, .bool true, .bool true, .bool false, .bool false] 4)) 4 2 (.slice (some ⟨w4.heap.size, 0, none⟩) 8 8)
        rwa [World.size_alloc] at h)
      have R8 := Lib.hid (R8.out.alloc (.cells #[.int .i64 4, .int .i64 2, .slice (some ⟨w4.heap.size, 0, none⟩) 8 8] 24))
      have P0 := Lib.hid (cb hb P0.out)
      have P1 := Lib.hid (cb hb P1.out)
      have X1 := Lib.hid (X1.out.below hb X1.out.lt)
      have XA := Lib.hid (XA.out.below hb XA.out.lt)
      have XB := Lib.hid (XB.out.below hb XB.out.lt)
      have HA := Lib.hid ((HA.out.below hb).more hb.size)
      have LB5 := Lib.hid (LB4.out.trans (hb.mono LB4.out.size))
      clear hb LB4
      go_upto_region 5 with (fail)
      obtain ⟨k8, hk8⟩ : ∃ z, w4.heap.size = z := ⟨_, rfl⟩
      rw [hk8] at R8 X8 P0 P1 X1 XA XB HA LB5 ⊢
      clear hk8
      generalize (w4.alloc (.cells #[.bool true, .bool true, .bool false, .bool false, .bool true, .bool true, .bool false, .bool false] 4)).alloc (.cells #[.int .i64 4, .int .i64 2, .slice (some ⟨k8, 0, none⟩) 8 8] 24) = w5 at *
      obtain ⟨q0, q1, q2, q3, q4, q5, q6⟩ := X8.out.all
      go_wp2_with fail
      clear q0 q1 q2 q3 q4 q5 q6
      with_reducible refine Calls.mono (units_ex _ k8 R8.out) ?_
      rintro e w6 ⟨A4, c4, A5, c5, rfl, hpl, hb⟩
      have HPL := Lib.hid hpl
      have P0 := Lib.hid (cb hb P0.out)
      have P1 := Lib.hid (cb hb P1.out)
      have X1 := Lib.hid (X1.out.below hb X1.out.lt)
      have XA := Lib.hid (XA.out.below hb XA.out.lt)
      have XB := Lib.hid (XB.out.below hb XB.out.lt)
      have HA := Lib.hid ((HA.out.below hb).more hb.size)
      have LB6 := Lib.hid (LB5.out.trans (hb.mono LB5.out.size))
      clear hb LB5 hpl R8 X8
      obtain ⟨n0, hn0⟩ : ∃ z, w6.heap.size = z := ⟨_, rfl⟩
      have HSPX := Lib.hid (spell_ex ((((w6.alloc (.cells #[.int .i64 0, .int .i64 1, .int .i64 0] 3)).alloc (.cells #[.int .i64 0, .int .i64 1] 3)).alloc (.cells #[.int .i64 2, .int .i64 3] 3)).alloc (.cells #[.slice (some ⟨w6.heap.size + 1, 0, none⟩) 2 2, .slice (some ⟨w6.heap.size + 1 + 1, 0, none⟩) 2 2] 45)) w6.heap.size (w6.heap.size + 1 + 1 + 1) (w6.heap.size + 1) (w6.heap.size + 1 + 1)
        (ck (ck (ck (cn0 rfl)))) (ck (ck (ck (cn0 rfl)))) (ck (ck (ck (cn0 rfl)))) (cn3 rfl) (cn3 rfl) (ck (ck (cn1 rfl))) (ck (ck (cn1 rfl))) (ck (cn2 rfl)) (ck (cn2 rfl)))
      have hb := ba (o := .cells #[.slice (some ⟨w6.heap.size + 1, 0, none⟩) 2 2, .slice (some ⟨w6.heap.size + 1 + 1, 0, none⟩) 2 2] 45) (ba (o := .cells #[.int .i64 2, .int .i64 3] 3) (ba (o := .cells #[.int .i64 0, .int .i64 1] 3) (ba (o := .cells #[.int .i64 0, .int .i64 1, .int .i64 0] 3) (Below.refl w6.heap.size w6))))
      have P0 := Lib.hid (cb hb P0.out)
      have P1 := Lib.hid (cb hb P1.out)
      have X1 := Lib.hid (X1.out.below hb X1.out.lt)
      have XA := Lib.hid (XA.out.below hb XA.out.lt)
      have XB := Lib.hid (XB.out.below hb XB.out.lt)
      have HA := Lib.hid ((HA.out.below hb).more hb.size)
      have HPL := Lib.hid ((HPL.out.below hb).more hb.size)
      have LB7 := Lib.hid (LB6.out.trans (hb.mono LB6.out.size))
      clear hb LB6 hn0
      go_wp2_with fail
      with_reducible refine Calls.mono HSPX.out ?_
      rintro e w8 ⟨A6, c6, rfl, hsp, hb⟩
      have HSL := Lib.hid hsp
      have P0 := Lib.hid (cb hb P0.out)
      have P1 := Lib.hid (cb hb P1.out)
      have X1 := Lib.hid (X1.out.below hb X1.out.lt)
      have XA := Lib.hid (XA.out.below hb XA.out.lt)
      have XB := Lib.hid (XB.out.below hb XB.out.lt)
      have HA := Lib.hid ((HA.out.below hb).more hb.size)
      have HPL := Lib.hid ((HPL.out.below hb).more hb.size)
      have LB8 := Lib.hid (LB7.out.trans (hb.mono LB7.out.size))
      clear hb LB7 hsp HSPX
      obtain ⟨q0, q1, q2, q3, q4, q5, q6⟩ := XA.out.all
      obtain ⟨r0, r1, r2, r3, r4, r5, r6⟩ := X1.out.all
      go_wp2_with fail
      clear q0 q1 q2 q3 q4 q5 q6 r0 r1 r2 r3 r4 r5 r6
      with_reducible refine Calls.mono (rsame_loop 2 1 2 1 A1 (some ⟨kp, 0, none⟩) 2 c1 2 row10 row10 _ (by omega) rfl rfl HA.out (holds2 P0.out P1.out rfl rfl)) ?_
      rintro e w9 ⟨rfl, hb⟩
      have XB := Lib.hid (XB.out.below hb XB.out.lt)
      have HPL := Lib.hid ((HPL.out.below hb).more hb.size)
      have HSL := Lib.hid ((HSL.out.below hb).more hb.size)
      have LB9 := Lib.hid (LB8.out.trans (hb.mono LB8.out.size))
      clear hb LB8 P0 P1 X1 XA HA
      obtain ⟨q0, q1, q2, q3, q4, q5, q6⟩ := XB.out.all
      have hba := bel_alloc w9 (.cells #[.int .i64 0, .int .i64 1] 3)
      have HP2 := Lib.hid ((HPL.out.below hba).more hba.size)
      have HS2 := Lib.hid ((HSL.out.below hba).more hba.size)
      have LBa := Lib.hid (LB9.out.trans (hba.mono LB9.out.size))
      have HN := Lib.hid (show L2.Holds (w9.alloc (.cells #[.int .i64 0, .int .i64 1] 3)) (w9.alloc (.cells #[.int .i64 0, .int .i64 1] 3)).heap.size (some ⟨w9.heap.size, 0, none⟩) 2 (fun i => (i : Int)) from fun _ => ⟨_, 0, rfl, by simp, fun i hi => by
        rcases (show i = 0 ∨ i = 1 by omega) with rfl | rfl
        · exact cn0 rfl
        · exact cn0 rfl⟩)
      clear hba HPL HSL LB9
      go_wp2_with fail
      clear q0 q1 q2 q3 q4 q5 q6
      with_reducible refine Calls.mono (L2.rsame_any A5 (some ⟨w9.heap.size, 0, none⟩) 2 c5 2 (fun i => (i : Int)) (fun i => (i : Int)) _ (by omega) HP2.out HN.out) ?_
      rintro e w10 ⟨rfl, hb⟩
      have HS3 := Lib.hid ((HS2.out.below hb).more hb.size)
      have LBb := Lib.hid (LBa.out.trans (hb.mono LBa.out.size))
      clear hb HP2 HN HS2 LBa XB
      have hba := bel_alloc w10 (.cells #[.int .i64 0, .int .i64 1, .int .i64 2, .int .i64 3, .int .i64 0, .int .i64 1] 3)
      have HS4 := Lib.hid ((HS3.out.below hba).more hba.size)
      have LBc := Lib.hid (LBb.out.trans (hba.mono LBb.out.size))
      have HN := Lib.hid (show L2.Holds (w10.alloc (.cells #[.int .i64 0, .int .i64 1, .int .i64 2, .int .i64 3, .int .i64 0, .int .i64 1] 3)) (w10.alloc (.cells #[.int .i64 0, .int .i64 1, .int .i64 2, .int .i64 3, .int .i64 0, .int .i64 1] 3)).heap.size (some ⟨w10.heap.size, 0, none⟩) 6 (fun i => [0, 1, 2, 3, 0, 1].getD i 0) from fun _ => ⟨_, 0, rfl, by simp, fun i hi => by
        rcases (show i = 0 ∨ i = 1 ∨ i = 2 ∨ i = 3 ∨ i = 4 ∨ i = 5 by omega) with rfl | rfl | rfl | rfl | rfl | rfl <;> exact cn0 rfl⟩)
      clear hba HS3 LBb
      go_wp2_with fail
      with_reducible refine Calls.mono (L2.rsame_any A6 (some ⟨w10.heap.size, 0, none⟩) 6 c6 6 (fun i => [0, 1, 2, 3, 0, 1].getD i 0) (fun i => [0, 1, 2, 3, 0, 1].getD i 0) _ (by omega) HS4.out HN.out) ?_
      rintro e w12 ⟨rfl, hb⟩
      have LBd := Lib.hid (LBc.out.trans (hb.mono LBc.out.size))
      go_wp2
      go_ret
      exact ⟨by first | rfl | simp, LBd.out⟩
theorem alive13_any (w : World) : Calls Try.prog 65 #[] w fun e w' => e = .returned (.bool true) ∧ Below w.heap.size w w' := alive13_at w w (Below.refl _ _)
end Go.Proofs.Ytngjcekjboedjaa
