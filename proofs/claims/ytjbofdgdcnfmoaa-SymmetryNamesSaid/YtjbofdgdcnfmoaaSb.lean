/- Merged: Syb Syc Sye. -/
import Derived.Test.YtjbofdgdcnfmoaaSa

/- The program's apply. -/
namespace Go.Proofs.Ytjbofdgdcnfmoaa
open Go.RowKit
set_option maxRecDepth 100000
set_option linter.unusedVariables false
set_option linter.unusedSimpArgs false

set_option maxHeartbeats 6400000 in
theorem apply_any (G : GD) (ok : G.Ok) (b o d : Nat) (v : Int) (b1 b2 b4 b8 : Bool) (h1 : (bits BinOp.and IntKind.i64 v 1 != 0) = b1) (h2 : (bits BinOp.and IntKind.i64 v 2 != 0) = b2) (h4 : (bits BinOp.and IntKind.i64 v 4 != 0) = b4) (h8 : (bits BinOp.and IntKind.i64 v 8 != 0) = b8)
    (w : World) (hr : Holds w w.heap.size (some ⟨b, o, none⟩) (G.W * G.H) G.f) :
    Calls Try.prog 94 #[.agg #[.int .i64 (G.W : Nat), .int .i64 (G.H : Nat), .slice (some ⟨b, o, none⟩) (G.W * G.H) d], .int .i64 v] w (OkG w (G.apb b1 b2 b4 b8)) := by
  have A0 := Lib.hid (as_new w G b o d ok hr)
  have K := Lib.hid (Nat.le_refl w.heap.size)
  have hnn : G.W * G.H ≤ 4096 := Nat.mul_le_mul ok.w1 ok.h1
  have hn0 : 0 < G.W * G.H := Nat.mul_pos ok.w0 ok.h0
  have OK := Lib.hid ok
  clear hr ok
  go_enter Try.func94, Try.ntmps94
  obtain ⟨q0, q1, q2, q3, q4, q5, q6⟩ := A0.out.box.all
  go_wp2_with fail
  clear q0 q1 q2 q3 q4 q5 q6
  refine (clone_any b o (G.W * G.H) d G.f _ hn0 (by omega) A0.out.holds).mono ?_
  rintro e w1 ⟨k1, d1, rfl, hd1, hk, hrow, hb⟩
  obtain ⟨hA, hR⟩ := A0.out.put2 hb (d' := d1) hk hrow
  have A1 := Lib.hid hA
  have R1 := Lib.hid hR
  have K1 := Lib.hid (Nat.le_trans A0.out.bel.size hk)
  obtain ⟨x1_0, x1_1, x1_2, x1_3, x1_4, x1_5, x1_6⟩ := (A0.out.next hb).box.all
  clear hb hrow hA hR
  cases b1
  · skip
    cases b2
    · skip
      cases b4
      · skip
        cases b8
        · skip
          obtain ⟨q0, q1, q2, q3, q4, q5, q6⟩ := A1.out.box.all
          try dsimp only [GD.m0, GD.m1, GD.tn, GD.nt] at q0 q1 q2
          obtain ⟨p0, p1, p2, p3, p4, p5, p6⟩ := A1.out.res.all
          go_wp2
          refine bodyPost_ret (v := .agg #[.int .i64 (G.W : Nat), .int .i64 (G.H : Nat), .slice (some ⟨k1, 0, none⟩) (G.W * G.H) d1]) (by simp [results, Try.results94, go_sem, p0, p1, p2, GD.m0, GD.m1, GD.tn, GD.nt]) rfl ?_
          exact okg_fin (G := G) R1.out (Nat.le_trans K.out K1.out) A1.out.r0 A1.out.br A1.out.bel _ _ _
        · skip
          obtain ⟨q0, q1, q2, q3, q4, q5, q6⟩ := A1.out.box.all
          try dsimp only [GD.m0, GD.m1, GD.tn, GD.nt] at q0 q1 q2
          go_wp2_with fail
          clear q0 q1 q2 q3 q4 q5 q6
          refine (show Calls Try.prog _ _ _ (OkGrid _ G.W G.H (G.nt).f) from p_nt G A1.out.ok _ _ _ _ A1.out.holds).mono ?_
          rintro e w2 ⟨k2, rfl, hk, hrow, hb⟩
          obtain ⟨x2_0, x2_1, x2_2, x2_3, x2_4, x2_5, x2_6⟩ := (A1.out.next hb).box.all
          try dsimp only [GD.m0, GD.m1, GD.tn, GD.nt] at x2_0 x2_1 x2_2
          obtain ⟨hA, hR⟩ := A1.out.put hb (G' := G.nt) (d' := (G.W * G.H)) hk hrow A1.out.ok.nt
          have A2 := Lib.hid (show AS w (((w2.setCell ⟨w.heap.size, 0, none⟩ (.int .i64 (G.W : Nat))).setCell ⟨w.heap.size, 1, none⟩ (.int .i64 (G.H : Nat))).setCell ⟨w.heap.size, 2, none⟩ (.slice (some ⟨k2, 0, none⟩) (G.W * G.H) (G.W * G.H))) w.heap.size (w.heap.size + 1) G.nt k2 0 (G.W * G.H) from hA)
          have R2 := Lib.hid (show Row (((w2.setCell ⟨w.heap.size, 0, none⟩ (.int .i64 (G.W : Nat))).setCell ⟨w.heap.size, 1, none⟩ (.int .i64 (G.H : Nat))).setCell ⟨w.heap.size, 2, none⟩ (.slice (some ⟨k2, 0, none⟩) (G.W * G.H) (G.W * G.H))) k2 (G.W * G.H) (G.nt).f from hR)
          have K2 := Lib.hid (Nat.le_trans A1.out.bel.size hk)
          clear hb hrow hA hR
          skip
          obtain ⟨q0, q1, q2, q3, q4, q5, q6⟩ := A2.out.box.all
          try dsimp only [GD.m0, GD.m1, GD.tn, GD.nt] at q0 q1 q2
          obtain ⟨p0, p1, p2, p3, p4, p5, p6⟩ := A2.out.res.all
          go_wp2
          refine bodyPost_ret (v := .agg #[.int .i64 (G.W : Nat), .int .i64 (G.H : Nat), .slice (some ⟨k2, 0, none⟩) (G.W * G.H) (G.W * G.H)]) (by simp [results, Try.results94, go_sem, p0, p1, p2, GD.m0, GD.m1, GD.tn, GD.nt]) rfl ?_
          exact okg_fin (G := G.nt) R2.out (Nat.le_trans K.out K2.out) A2.out.r0 A2.out.br A2.out.bel _ _ _
      · skip
        obtain ⟨q0, q1, q2, q3, q4, q5, q6⟩ := A1.out.box.all
        try dsimp only [GD.m0, GD.m1, GD.tn, GD.nt] at q0 q1 q2
        go_wp2_with fail
        clear q0 q1 q2 q3 q4 q5 q6
        refine (show Calls Try.prog _ _ _ (OkGrid _ G.H G.W (G.tn).f) from p_tn G A1.out.ok _ _ _ _ A1.out.holds).mono ?_
        rintro e w2 ⟨k2, rfl, hk, hrow, hb⟩
        obtain ⟨x2_0, x2_1, x2_2, x2_3, x2_4, x2_5, x2_6⟩ := (A1.out.next hb).box.all
        try dsimp only [GD.m0, GD.m1, GD.tn, GD.nt] at x2_0 x2_1 x2_2
        obtain ⟨hA, hR⟩ := A1.out.put hb (G' := G.tn) (d' := (G.H * G.W)) hk hrow A1.out.ok.tn
        have A2 := Lib.hid (show AS w (((w2.setCell ⟨w.heap.size, 0, none⟩ (.int .i64 (G.H : Nat))).setCell ⟨w.heap.size, 1, none⟩ (.int .i64 (G.W : Nat))).setCell ⟨w.heap.size, 2, none⟩ (.slice (some ⟨k2, 0, none⟩) (G.H * G.W) (G.H * G.W))) w.heap.size (w.heap.size + 1) G.tn k2 0 (G.H * G.W) from hA)
        have R2 := Lib.hid (show Row (((w2.setCell ⟨w.heap.size, 0, none⟩ (.int .i64 (G.H : Nat))).setCell ⟨w.heap.size, 1, none⟩ (.int .i64 (G.W : Nat))).setCell ⟨w.heap.size, 2, none⟩ (.slice (some ⟨k2, 0, none⟩) (G.H * G.W) (G.H * G.W))) k2 (G.H * G.W) (G.tn).f from hR)
        have K2 := Lib.hid (Nat.le_trans A1.out.bel.size hk)
        clear hb hrow hA hR
        skip
        cases b8
        · skip
          obtain ⟨q0, q1, q2, q3, q4, q5, q6⟩ := A2.out.box.all
          try dsimp only [GD.m0, GD.m1, GD.tn, GD.nt] at q0 q1 q2
          obtain ⟨p0, p1, p2, p3, p4, p5, p6⟩ := A2.out.res.all
          go_wp2
          refine bodyPost_ret (v := .agg #[.int .i64 (G.H : Nat), .int .i64 (G.W : Nat), .slice (some ⟨k2, 0, none⟩) (G.H * G.W) (G.H * G.W)]) (by simp [results, Try.results94, go_sem, p0, p1, p2, GD.m0, GD.m1, GD.tn, GD.nt]) rfl ?_
          exact okg_fin (G := G.tn) R2.out (Nat.le_trans K.out K2.out) A2.out.r0 A2.out.br A2.out.bel _ _ _
        · skip
          obtain ⟨q0, q1, q2, q3, q4, q5, q6⟩ := A2.out.box.all
          try dsimp only [GD.m0, GD.m1, GD.tn, GD.nt] at q0 q1 q2
          go_wp2_with fail
          clear q0 q1 q2 q3 q4 q5 q6
          refine (show Calls Try.prog _ _ _ (OkGrid _ G.H G.W (G.tn.nt).f) from p_nt G.tn A2.out.ok _ _ _ _ A2.out.holds).mono ?_
          rintro e w3 ⟨k3, rfl, hk, hrow, hb⟩
          obtain ⟨x3_0, x3_1, x3_2, x3_3, x3_4, x3_5, x3_6⟩ := (A2.out.next hb).box.all
          try dsimp only [GD.m0, GD.m1, GD.tn, GD.nt] at x3_0 x3_1 x3_2
          obtain ⟨hA, hR⟩ := A2.out.put hb (G' := G.tn.nt) (d' := (G.H * G.W)) hk hrow A2.out.ok.nt
          have A3 := Lib.hid (show AS w (((w3.setCell ⟨w.heap.size, 0, none⟩ (.int .i64 (G.H : Nat))).setCell ⟨w.heap.size, 1, none⟩ (.int .i64 (G.W : Nat))).setCell ⟨w.heap.size, 2, none⟩ (.slice (some ⟨k3, 0, none⟩) (G.H * G.W) (G.H * G.W))) w.heap.size (w.heap.size + 1) G.tn.nt k3 0 (G.H * G.W) from hA)
          have R3 := Lib.hid (show Row (((w3.setCell ⟨w.heap.size, 0, none⟩ (.int .i64 (G.H : Nat))).setCell ⟨w.heap.size, 1, none⟩ (.int .i64 (G.W : Nat))).setCell ⟨w.heap.size, 2, none⟩ (.slice (some ⟨k3, 0, none⟩) (G.H * G.W) (G.H * G.W))) k3 (G.H * G.W) (G.tn.nt).f from hR)
          have K3 := Lib.hid (Nat.le_trans A2.out.bel.size hk)
          clear hb hrow hA hR
          skip
          obtain ⟨q0, q1, q2, q3, q4, q5, q6⟩ := A3.out.box.all
          try dsimp only [GD.m0, GD.m1, GD.tn, GD.nt] at q0 q1 q2
          obtain ⟨p0, p1, p2, p3, p4, p5, p6⟩ := A3.out.res.all
          go_wp2
          refine bodyPost_ret (v := .agg #[.int .i64 (G.H : Nat), .int .i64 (G.W : Nat), .slice (some ⟨k3, 0, none⟩) (G.H * G.W) (G.H * G.W)]) (by simp [results, Try.results94, go_sem, p0, p1, p2, GD.m0, GD.m1, GD.tn, GD.nt]) rfl ?_
          exact okg_fin (G := G.tn.nt) R3.out (Nat.le_trans K.out K3.out) A3.out.r0 A3.out.br A3.out.bel _ _ _
    · skip
      obtain ⟨q0, q1, q2, q3, q4, q5, q6⟩ := A1.out.box.all
      try dsimp only [GD.m0, GD.m1, GD.tn, GD.nt] at q0 q1 q2
      go_wp2_with fail
      clear q0 q1 q2 q3 q4 q5 q6
      refine (show Calls Try.prog _ _ _ (OkGrid _ G.W G.H (G.m1).f) from p_m1 G A1.out.ok _ _ _ _ A1.out.holds).mono ?_
      rintro e w2 ⟨k2, rfl, hk, hrow, hb⟩
      obtain ⟨x2_0, x2_1, x2_2, x2_3, x2_4, x2_5, x2_6⟩ := (A1.out.next hb).box.all
      try dsimp only [GD.m0, GD.m1, GD.tn, GD.nt] at x2_0 x2_1 x2_2
      obtain ⟨hA, hR⟩ := A1.out.put hb (G' := G.m1) (d' := (G.W * G.H)) hk hrow A1.out.ok.m1
      have A2 := Lib.hid (show AS w (((w2.setCell ⟨w.heap.size, 0, none⟩ (.int .i64 (G.W : Nat))).setCell ⟨w.heap.size, 1, none⟩ (.int .i64 (G.H : Nat))).setCell ⟨w.heap.size, 2, none⟩ (.slice (some ⟨k2, 0, none⟩) (G.W * G.H) (G.W * G.H))) w.heap.size (w.heap.size + 1) G.m1 k2 0 (G.W * G.H) from hA)
      have R2 := Lib.hid (show Row (((w2.setCell ⟨w.heap.size, 0, none⟩ (.int .i64 (G.W : Nat))).setCell ⟨w.heap.size, 1, none⟩ (.int .i64 (G.H : Nat))).setCell ⟨w.heap.size, 2, none⟩ (.slice (some ⟨k2, 0, none⟩) (G.W * G.H) (G.W * G.H))) k2 (G.W * G.H) (G.m1).f from hR)
      have K2 := Lib.hid (Nat.le_trans A1.out.bel.size hk)
      clear hb hrow hA hR
      skip
      cases b4
      · skip
        cases b8
        · skip
          obtain ⟨q0, q1, q2, q3, q4, q5, q6⟩ := A2.out.box.all
          try dsimp only [GD.m0, GD.m1, GD.tn, GD.nt] at q0 q1 q2
          obtain ⟨p0, p1, p2, p3, p4, p5, p6⟩ := A2.out.res.all
          go_wp2
          refine bodyPost_ret (v := .agg #[.int .i64 (G.W : Nat), .int .i64 (G.H : Nat), .slice (some ⟨k2, 0, none⟩) (G.W * G.H) (G.W * G.H)]) (by simp [results, Try.results94, go_sem, p0, p1, p2, GD.m0, GD.m1, GD.tn, GD.nt]) rfl ?_
          exact okg_fin (G := G.m1) R2.out (Nat.le_trans K.out K2.out) A2.out.r0 A2.out.br A2.out.bel _ _ _
        · skip
          obtain ⟨q0, q1, q2, q3, q4, q5, q6⟩ := A2.out.box.all
          try dsimp only [GD.m0, GD.m1, GD.tn, GD.nt] at q0 q1 q2
          go_wp2_with fail
          clear q0 q1 q2 q3 q4 q5 q6
          refine (show Calls Try.prog _ _ _ (OkGrid _ G.W G.H (G.m1.nt).f) from p_nt G.m1 A2.out.ok _ _ _ _ A2.out.holds).mono ?_
          rintro e w3 ⟨k3, rfl, hk, hrow, hb⟩
          obtain ⟨x3_0, x3_1, x3_2, x3_3, x3_4, x3_5, x3_6⟩ := (A2.out.next hb).box.all
          try dsimp only [GD.m0, GD.m1, GD.tn, GD.nt] at x3_0 x3_1 x3_2
          obtain ⟨hA, hR⟩ := A2.out.put hb (G' := G.m1.nt) (d' := (G.W * G.H)) hk hrow A2.out.ok.nt
          have A3 := Lib.hid (show AS w (((w3.setCell ⟨w.heap.size, 0, none⟩ (.int .i64 (G.W : Nat))).setCell ⟨w.heap.size, 1, none⟩ (.int .i64 (G.H : Nat))).setCell ⟨w.heap.size, 2, none⟩ (.slice (some ⟨k3, 0, none⟩) (G.W * G.H) (G.W * G.H))) w.heap.size (w.heap.size + 1) G.m1.nt k3 0 (G.W * G.H) from hA)
          have R3 := Lib.hid (show Row (((w3.setCell ⟨w.heap.size, 0, none⟩ (.int .i64 (G.W : Nat))).setCell ⟨w.heap.size, 1, none⟩ (.int .i64 (G.H : Nat))).setCell ⟨w.heap.size, 2, none⟩ (.slice (some ⟨k3, 0, none⟩) (G.W * G.H) (G.W * G.H))) k3 (G.W * G.H) (G.m1.nt).f from hR)
          have K3 := Lib.hid (Nat.le_trans A2.out.bel.size hk)
          clear hb hrow hA hR
          skip
          obtain ⟨q0, q1, q2, q3, q4, q5, q6⟩ := A3.out.box.all
          try dsimp only [GD.m0, GD.m1, GD.tn, GD.nt] at q0 q1 q2
          obtain ⟨p0, p1, p2, p3, p4, p5, p6⟩ := A3.out.res.all
          go_wp2
          refine bodyPost_ret (v := .agg #[.int .i64 (G.W : Nat), .int .i64 (G.H : Nat), .slice (some ⟨k3, 0, none⟩) (G.W * G.H) (G.W * G.H)]) (by simp [results, Try.results94, go_sem, p0, p1, p2, GD.m0, GD.m1, GD.tn, GD.nt]) rfl ?_
          exact okg_fin (G := G.m1.nt) R3.out (Nat.le_trans K.out K3.out) A3.out.r0 A3.out.br A3.out.bel _ _ _
      · skip
        obtain ⟨q0, q1, q2, q3, q4, q5, q6⟩ := A2.out.box.all
        try dsimp only [GD.m0, GD.m1, GD.tn, GD.nt] at q0 q1 q2
        go_wp2_with fail
        clear q0 q1 q2 q3 q4 q5 q6
        refine (show Calls Try.prog _ _ _ (OkGrid _ G.H G.W (G.m1.tn).f) from p_tn G.m1 A2.out.ok _ _ _ _ A2.out.holds).mono ?_
        rintro e w3 ⟨k3, rfl, hk, hrow, hb⟩
        obtain ⟨x3_0, x3_1, x3_2, x3_3, x3_4, x3_5, x3_6⟩ := (A2.out.next hb).box.all
        try dsimp only [GD.m0, GD.m1, GD.tn, GD.nt] at x3_0 x3_1 x3_2
        obtain ⟨hA, hR⟩ := A2.out.put hb (G' := G.m1.tn) (d' := (G.H * G.W)) hk hrow A2.out.ok.tn
        have A3 := Lib.hid (show AS w (((w3.setCell ⟨w.heap.size, 0, none⟩ (.int .i64 (G.H : Nat))).setCell ⟨w.heap.size, 1, none⟩ (.int .i64 (G.W : Nat))).setCell ⟨w.heap.size, 2, none⟩ (.slice (some ⟨k3, 0, none⟩) (G.H * G.W) (G.H * G.W))) w.heap.size (w.heap.size + 1) G.m1.tn k3 0 (G.H * G.W) from hA)
        have R3 := Lib.hid (show Row (((w3.setCell ⟨w.heap.size, 0, none⟩ (.int .i64 (G.H : Nat))).setCell ⟨w.heap.size, 1, none⟩ (.int .i64 (G.W : Nat))).setCell ⟨w.heap.size, 2, none⟩ (.slice (some ⟨k3, 0, none⟩) (G.H * G.W) (G.H * G.W))) k3 (G.H * G.W) (G.m1.tn).f from hR)
        have K3 := Lib.hid (Nat.le_trans A2.out.bel.size hk)
        clear hb hrow hA hR
        skip
        cases b8
        · skip
          obtain ⟨q0, q1, q2, q3, q4, q5, q6⟩ := A3.out.box.all
          try dsimp only [GD.m0, GD.m1, GD.tn, GD.nt] at q0 q1 q2
          obtain ⟨p0, p1, p2, p3, p4, p5, p6⟩ := A3.out.res.all
          go_wp2
          refine bodyPost_ret (v := .agg #[.int .i64 (G.H : Nat), .int .i64 (G.W : Nat), .slice (some ⟨k3, 0, none⟩) (G.H * G.W) (G.H * G.W)]) (by simp [results, Try.results94, go_sem, p0, p1, p2, GD.m0, GD.m1, GD.tn, GD.nt]) rfl ?_
          exact okg_fin (G := G.m1.tn) R3.out (Nat.le_trans K.out K3.out) A3.out.r0 A3.out.br A3.out.bel _ _ _
        · skip
          obtain ⟨q0, q1, q2, q3, q4, q5, q6⟩ := A3.out.box.all
          try dsimp only [GD.m0, GD.m1, GD.tn, GD.nt] at q0 q1 q2
          go_wp2_with fail
          clear q0 q1 q2 q3 q4 q5 q6
          refine (show Calls Try.prog _ _ _ (OkGrid _ G.H G.W (G.m1.tn.nt).f) from p_nt G.m1.tn A3.out.ok _ _ _ _ A3.out.holds).mono ?_
          rintro e w4 ⟨k4, rfl, hk, hrow, hb⟩
          obtain ⟨x4_0, x4_1, x4_2, x4_3, x4_4, x4_5, x4_6⟩ := (A3.out.next hb).box.all
          try dsimp only [GD.m0, GD.m1, GD.tn, GD.nt] at x4_0 x4_1 x4_2
          obtain ⟨hA, hR⟩ := A3.out.put hb (G' := G.m1.tn.nt) (d' := (G.H * G.W)) hk hrow A3.out.ok.nt
          have A4 := Lib.hid (show AS w (((w4.setCell ⟨w.heap.size, 0, none⟩ (.int .i64 (G.H : Nat))).setCell ⟨w.heap.size, 1, none⟩ (.int .i64 (G.W : Nat))).setCell ⟨w.heap.size, 2, none⟩ (.slice (some ⟨k4, 0, none⟩) (G.H * G.W) (G.H * G.W))) w.heap.size (w.heap.size + 1) G.m1.tn.nt k4 0 (G.H * G.W) from hA)
          have R4 := Lib.hid (show Row (((w4.setCell ⟨w.heap.size, 0, none⟩ (.int .i64 (G.H : Nat))).setCell ⟨w.heap.size, 1, none⟩ (.int .i64 (G.W : Nat))).setCell ⟨w.heap.size, 2, none⟩ (.slice (some ⟨k4, 0, none⟩) (G.H * G.W) (G.H * G.W))) k4 (G.H * G.W) (G.m1.tn.nt).f from hR)
          have K4 := Lib.hid (Nat.le_trans A3.out.bel.size hk)
          clear hb hrow hA hR
          skip
          obtain ⟨q0, q1, q2, q3, q4, q5, q6⟩ := A4.out.box.all
          try dsimp only [GD.m0, GD.m1, GD.tn, GD.nt] at q0 q1 q2
          obtain ⟨p0, p1, p2, p3, p4, p5, p6⟩ := A4.out.res.all
          go_wp2
          refine bodyPost_ret (v := .agg #[.int .i64 (G.H : Nat), .int .i64 (G.W : Nat), .slice (some ⟨k4, 0, none⟩) (G.H * G.W) (G.H * G.W)]) (by simp [results, Try.results94, go_sem, p0, p1, p2, GD.m0, GD.m1, GD.tn, GD.nt]) rfl ?_
          exact okg_fin (G := G.m1.tn.nt) R4.out (Nat.le_trans K.out K4.out) A4.out.r0 A4.out.br A4.out.bel _ _ _
  · skip
    obtain ⟨q0, q1, q2, q3, q4, q5, q6⟩ := A1.out.box.all
    try dsimp only [GD.m0, GD.m1, GD.tn, GD.nt] at q0 q1 q2
    go_wp2_with fail
    clear q0 q1 q2 q3 q4 q5 q6
    refine (show Calls Try.prog _ _ _ (OkGrid _ G.W G.H (G.m0).f) from p_m0 G A1.out.ok _ _ _ _ A1.out.holds).mono ?_
    rintro e w2 ⟨k2, rfl, hk, hrow, hb⟩
    obtain ⟨x2_0, x2_1, x2_2, x2_3, x2_4, x2_5, x2_6⟩ := (A1.out.next hb).box.all
    try dsimp only [GD.m0, GD.m1, GD.tn, GD.nt] at x2_0 x2_1 x2_2
    obtain ⟨hA, hR⟩ := A1.out.put hb (G' := G.m0) (d' := (G.W * G.H)) hk hrow A1.out.ok.m0
    have A2 := Lib.hid (show AS w (((w2.setCell ⟨w.heap.size, 0, none⟩ (.int .i64 (G.W : Nat))).setCell ⟨w.heap.size, 1, none⟩ (.int .i64 (G.H : Nat))).setCell ⟨w.heap.size, 2, none⟩ (.slice (some ⟨k2, 0, none⟩) (G.W * G.H) (G.W * G.H))) w.heap.size (w.heap.size + 1) G.m0 k2 0 (G.W * G.H) from hA)
    have R2 := Lib.hid (show Row (((w2.setCell ⟨w.heap.size, 0, none⟩ (.int .i64 (G.W : Nat))).setCell ⟨w.heap.size, 1, none⟩ (.int .i64 (G.H : Nat))).setCell ⟨w.heap.size, 2, none⟩ (.slice (some ⟨k2, 0, none⟩) (G.W * G.H) (G.W * G.H))) k2 (G.W * G.H) (G.m0).f from hR)
    have K2 := Lib.hid (Nat.le_trans A1.out.bel.size hk)
    clear hb hrow hA hR
    skip
    cases b2
    · skip
      cases b4
      · skip
        cases b8
        · skip
          obtain ⟨q0, q1, q2, q3, q4, q5, q6⟩ := A2.out.box.all
          try dsimp only [GD.m0, GD.m1, GD.tn, GD.nt] at q0 q1 q2
          obtain ⟨p0, p1, p2, p3, p4, p5, p6⟩ := A2.out.res.all
          go_wp2
          refine bodyPost_ret (v := .agg #[.int .i64 (G.W : Nat), .int .i64 (G.H : Nat), .slice (some ⟨k2, 0, none⟩) (G.W * G.H) (G.W * G.H)]) (by simp [results, Try.results94, go_sem, p0, p1, p2, GD.m0, GD.m1, GD.tn, GD.nt]) rfl ?_
          exact okg_fin (G := G.m0) R2.out (Nat.le_trans K.out K2.out) A2.out.r0 A2.out.br A2.out.bel _ _ _
        · skip
          obtain ⟨q0, q1, q2, q3, q4, q5, q6⟩ := A2.out.box.all
          try dsimp only [GD.m0, GD.m1, GD.tn, GD.nt] at q0 q1 q2
          go_wp2_with fail
          clear q0 q1 q2 q3 q4 q5 q6
          refine (show Calls Try.prog _ _ _ (OkGrid _ G.W G.H (G.m0.nt).f) from p_nt G.m0 A2.out.ok _ _ _ _ A2.out.holds).mono ?_
          rintro e w3 ⟨k3, rfl, hk, hrow, hb⟩
          obtain ⟨x3_0, x3_1, x3_2, x3_3, x3_4, x3_5, x3_6⟩ := (A2.out.next hb).box.all
          try dsimp only [GD.m0, GD.m1, GD.tn, GD.nt] at x3_0 x3_1 x3_2
          obtain ⟨hA, hR⟩ := A2.out.put hb (G' := G.m0.nt) (d' := (G.W * G.H)) hk hrow A2.out.ok.nt
          have A3 := Lib.hid (show AS w (((w3.setCell ⟨w.heap.size, 0, none⟩ (.int .i64 (G.W : Nat))).setCell ⟨w.heap.size, 1, none⟩ (.int .i64 (G.H : Nat))).setCell ⟨w.heap.size, 2, none⟩ (.slice (some ⟨k3, 0, none⟩) (G.W * G.H) (G.W * G.H))) w.heap.size (w.heap.size + 1) G.m0.nt k3 0 (G.W * G.H) from hA)
          have R3 := Lib.hid (show Row (((w3.setCell ⟨w.heap.size, 0, none⟩ (.int .i64 (G.W : Nat))).setCell ⟨w.heap.size, 1, none⟩ (.int .i64 (G.H : Nat))).setCell ⟨w.heap.size, 2, none⟩ (.slice (some ⟨k3, 0, none⟩) (G.W * G.H) (G.W * G.H))) k3 (G.W * G.H) (G.m0.nt).f from hR)
          have K3 := Lib.hid (Nat.le_trans A2.out.bel.size hk)
          clear hb hrow hA hR
          skip
          obtain ⟨q0, q1, q2, q3, q4, q5, q6⟩ := A3.out.box.all
          try dsimp only [GD.m0, GD.m1, GD.tn, GD.nt] at q0 q1 q2
          obtain ⟨p0, p1, p2, p3, p4, p5, p6⟩ := A3.out.res.all
          go_wp2
          refine bodyPost_ret (v := .agg #[.int .i64 (G.W : Nat), .int .i64 (G.H : Nat), .slice (some ⟨k3, 0, none⟩) (G.W * G.H) (G.W * G.H)]) (by simp [results, Try.results94, go_sem, p0, p1, p2, GD.m0, GD.m1, GD.tn, GD.nt]) rfl ?_
          exact okg_fin (G := G.m0.nt) R3.out (Nat.le_trans K.out K3.out) A3.out.r0 A3.out.br A3.out.bel _ _ _
      · skip
        obtain ⟨q0, q1, q2, q3, q4, q5, q6⟩ := A2.out.box.all
        try dsimp only [GD.m0, GD.m1, GD.tn, GD.nt] at q0 q1 q2
        go_wp2_with fail
        clear q0 q1 q2 q3 q4 q5 q6
        refine (show Calls Try.prog _ _ _ (OkGrid _ G.H G.W (G.m0.tn).f) from p_tn G.m0 A2.out.ok _ _ _ _ A2.out.holds).mono ?_
        rintro e w3 ⟨k3, rfl, hk, hrow, hb⟩
        obtain ⟨x3_0, x3_1, x3_2, x3_3, x3_4, x3_5, x3_6⟩ := (A2.out.next hb).box.all
        try dsimp only [GD.m0, GD.m1, GD.tn, GD.nt] at x3_0 x3_1 x3_2
        obtain ⟨hA, hR⟩ := A2.out.put hb (G' := G.m0.tn) (d' := (G.H * G.W)) hk hrow A2.out.ok.tn
        have A3 := Lib.hid (show AS w (((w3.setCell ⟨w.heap.size, 0, none⟩ (.int .i64 (G.H : Nat))).setCell ⟨w.heap.size, 1, none⟩ (.int .i64 (G.W : Nat))).setCell ⟨w.heap.size, 2, none⟩ (.slice (some ⟨k3, 0, none⟩) (G.H * G.W) (G.H * G.W))) w.heap.size (w.heap.size + 1) G.m0.tn k3 0 (G.H * G.W) from hA)
        have R3 := Lib.hid (show Row (((w3.setCell ⟨w.heap.size, 0, none⟩ (.int .i64 (G.H : Nat))).setCell ⟨w.heap.size, 1, none⟩ (.int .i64 (G.W : Nat))).setCell ⟨w.heap.size, 2, none⟩ (.slice (some ⟨k3, 0, none⟩) (G.H * G.W) (G.H * G.W))) k3 (G.H * G.W) (G.m0.tn).f from hR)
        have K3 := Lib.hid (Nat.le_trans A2.out.bel.size hk)
        clear hb hrow hA hR
        skip
        cases b8
        · skip
          obtain ⟨q0, q1, q2, q3, q4, q5, q6⟩ := A3.out.box.all
          try dsimp only [GD.m0, GD.m1, GD.tn, GD.nt] at q0 q1 q2
          obtain ⟨p0, p1, p2, p3, p4, p5, p6⟩ := A3.out.res.all
          go_wp2
          refine bodyPost_ret (v := .agg #[.int .i64 (G.H : Nat), .int .i64 (G.W : Nat), .slice (some ⟨k3, 0, none⟩) (G.H * G.W) (G.H * G.W)]) (by simp [results, Try.results94, go_sem, p0, p1, p2, GD.m0, GD.m1, GD.tn, GD.nt]) rfl ?_
          exact okg_fin (G := G.m0.tn) R3.out (Nat.le_trans K.out K3.out) A3.out.r0 A3.out.br A3.out.bel _ _ _
        · skip
          obtain ⟨q0, q1, q2, q3, q4, q5, q6⟩ := A3.out.box.all
          try dsimp only [GD.m0, GD.m1, GD.tn, GD.nt] at q0 q1 q2
          go_wp2_with fail
          clear q0 q1 q2 q3 q4 q5 q6
          refine (show Calls Try.prog _ _ _ (OkGrid _ G.H G.W (G.m0.tn.nt).f) from p_nt G.m0.tn A3.out.ok _ _ _ _ A3.out.holds).mono ?_
          rintro e w4 ⟨k4, rfl, hk, hrow, hb⟩
          obtain ⟨x4_0, x4_1, x4_2, x4_3, x4_4, x4_5, x4_6⟩ := (A3.out.next hb).box.all
          try dsimp only [GD.m0, GD.m1, GD.tn, GD.nt] at x4_0 x4_1 x4_2
          obtain ⟨hA, hR⟩ := A3.out.put hb (G' := G.m0.tn.nt) (d' := (G.H * G.W)) hk hrow A3.out.ok.nt
          have A4 := Lib.hid (show AS w (((w4.setCell ⟨w.heap.size, 0, none⟩ (.int .i64 (G.H : Nat))).setCell ⟨w.heap.size, 1, none⟩ (.int .i64 (G.W : Nat))).setCell ⟨w.heap.size, 2, none⟩ (.slice (some ⟨k4, 0, none⟩) (G.H * G.W) (G.H * G.W))) w.heap.size (w.heap.size + 1) G.m0.tn.nt k4 0 (G.H * G.W) from hA)
          have R4 := Lib.hid (show Row (((w4.setCell ⟨w.heap.size, 0, none⟩ (.int .i64 (G.H : Nat))).setCell ⟨w.heap.size, 1, none⟩ (.int .i64 (G.W : Nat))).setCell ⟨w.heap.size, 2, none⟩ (.slice (some ⟨k4, 0, none⟩) (G.H * G.W) (G.H * G.W))) k4 (G.H * G.W) (G.m0.tn.nt).f from hR)
          have K4 := Lib.hid (Nat.le_trans A3.out.bel.size hk)
          clear hb hrow hA hR
          skip
          obtain ⟨q0, q1, q2, q3, q4, q5, q6⟩ := A4.out.box.all
          try dsimp only [GD.m0, GD.m1, GD.tn, GD.nt] at q0 q1 q2
          obtain ⟨p0, p1, p2, p3, p4, p5, p6⟩ := A4.out.res.all
          go_wp2
          refine bodyPost_ret (v := .agg #[.int .i64 (G.H : Nat), .int .i64 (G.W : Nat), .slice (some ⟨k4, 0, none⟩) (G.H * G.W) (G.H * G.W)]) (by simp [results, Try.results94, go_sem, p0, p1, p2, GD.m0, GD.m1, GD.tn, GD.nt]) rfl ?_
          exact okg_fin (G := G.m0.tn.nt) R4.out (Nat.le_trans K.out K4.out) A4.out.r0 A4.out.br A4.out.bel _ _ _
    · skip
      obtain ⟨q0, q1, q2, q3, q4, q5, q6⟩ := A2.out.box.all
      try dsimp only [GD.m0, GD.m1, GD.tn, GD.nt] at q0 q1 q2
      go_wp2_with fail
      clear q0 q1 q2 q3 q4 q5 q6
      refine (show Calls Try.prog _ _ _ (OkGrid _ G.W G.H (G.m0.m1).f) from p_m1 G.m0 A2.out.ok _ _ _ _ A2.out.holds).mono ?_
      rintro e w3 ⟨k3, rfl, hk, hrow, hb⟩
      obtain ⟨x3_0, x3_1, x3_2, x3_3, x3_4, x3_5, x3_6⟩ := (A2.out.next hb).box.all
      try dsimp only [GD.m0, GD.m1, GD.tn, GD.nt] at x3_0 x3_1 x3_2
      obtain ⟨hA, hR⟩ := A2.out.put hb (G' := G.m0.m1) (d' := (G.W * G.H)) hk hrow A2.out.ok.m1
      have A3 := Lib.hid (show AS w (((w3.setCell ⟨w.heap.size, 0, none⟩ (.int .i64 (G.W : Nat))).setCell ⟨w.heap.size, 1, none⟩ (.int .i64 (G.H : Nat))).setCell ⟨w.heap.size, 2, none⟩ (.slice (some ⟨k3, 0, none⟩) (G.W * G.H) (G.W * G.H))) w.heap.size (w.heap.size + 1) G.m0.m1 k3 0 (G.W * G.H) from hA)
      have R3 := Lib.hid (show Row (((w3.setCell ⟨w.heap.size, 0, none⟩ (.int .i64 (G.W : Nat))).setCell ⟨w.heap.size, 1, none⟩ (.int .i64 (G.H : Nat))).setCell ⟨w.heap.size, 2, none⟩ (.slice (some ⟨k3, 0, none⟩) (G.W * G.H) (G.W * G.H))) k3 (G.W * G.H) (G.m0.m1).f from hR)
      have K3 := Lib.hid (Nat.le_trans A2.out.bel.size hk)
      clear hb hrow hA hR
      skip
      cases b4
      · skip
        cases b8
        · skip
          obtain ⟨q0, q1, q2, q3, q4, q5, q6⟩ := A3.out.box.all
          try dsimp only [GD.m0, GD.m1, GD.tn, GD.nt] at q0 q1 q2
          obtain ⟨p0, p1, p2, p3, p4, p5, p6⟩ := A3.out.res.all
          go_wp2
          refine bodyPost_ret (v := .agg #[.int .i64 (G.W : Nat), .int .i64 (G.H : Nat), .slice (some ⟨k3, 0, none⟩) (G.W * G.H) (G.W * G.H)]) (by simp [results, Try.results94, go_sem, p0, p1, p2, GD.m0, GD.m1, GD.tn, GD.nt]) rfl ?_
          exact okg_fin (G := G.m0.m1) R3.out (Nat.le_trans K.out K3.out) A3.out.r0 A3.out.br A3.out.bel _ _ _
        · skip
          obtain ⟨q0, q1, q2, q3, q4, q5, q6⟩ := A3.out.box.all
          try dsimp only [GD.m0, GD.m1, GD.tn, GD.nt] at q0 q1 q2
          go_wp2_with fail
          clear q0 q1 q2 q3 q4 q5 q6
          refine (show Calls Try.prog _ _ _ (OkGrid _ G.W G.H (G.m0.m1.nt).f) from p_nt G.m0.m1 A3.out.ok _ _ _ _ A3.out.holds).mono ?_
          rintro e w4 ⟨k4, rfl, hk, hrow, hb⟩
          obtain ⟨x4_0, x4_1, x4_2, x4_3, x4_4, x4_5, x4_6⟩ := (A3.out.next hb).box.all
          try dsimp only [GD.m0, GD.m1, GD.tn, GD.nt] at x4_0 x4_1 x4_2
          obtain ⟨hA, hR⟩ := A3.out.put hb (G' := G.m0.m1.nt) (d' := (G.W * G.H)) hk hrow A3.out.ok.nt
          have A4 := Lib.hid (show AS w (((w4.setCell ⟨w.heap.size, 0, none⟩ (.int .i64 (G.W : Nat))).setCell ⟨w.heap.size, 1, none⟩ (.int .i64 (G.H : Nat))).setCell ⟨w.heap.size, 2, none⟩ (.slice (some ⟨k4, 0, none⟩) (G.W * G.H) (G.W * G.H))) w.heap.size (w.heap.size + 1) G.m0.m1.nt k4 0 (G.W * G.H) from hA)
          have R4 := Lib.hid (show Row (((w4.setCell ⟨w.heap.size, 0, none⟩ (.int .i64 (G.W : Nat))).setCell ⟨w.heap.size, 1, none⟩ (.int .i64 (G.H : Nat))).setCell ⟨w.heap.size, 2, none⟩ (.slice (some ⟨k4, 0, none⟩) (G.W * G.H) (G.W * G.H))) k4 (G.W * G.H) (G.m0.m1.nt).f from hR)
          have K4 := Lib.hid (Nat.le_trans A3.out.bel.size hk)
          clear hb hrow hA hR
          skip
          obtain ⟨q0, q1, q2, q3, q4, q5, q6⟩ := A4.out.box.all
          try dsimp only [GD.m0, GD.m1, GD.tn, GD.nt] at q0 q1 q2
          obtain ⟨p0, p1, p2, p3, p4, p5, p6⟩ := A4.out.res.all
          go_wp2
          refine bodyPost_ret (v := .agg #[.int .i64 (G.W : Nat), .int .i64 (G.H : Nat), .slice (some ⟨k4, 0, none⟩) (G.W * G.H) (G.W * G.H)]) (by simp [results, Try.results94, go_sem, p0, p1, p2, GD.m0, GD.m1, GD.tn, GD.nt]) rfl ?_
          exact okg_fin (G := G.m0.m1.nt) R4.out (Nat.le_trans K.out K4.out) A4.out.r0 A4.out.br A4.out.bel _ _ _
      · skip
        obtain ⟨q0, q1, q2, q3, q4, q5, q6⟩ := A3.out.box.all
        try dsimp only [GD.m0, GD.m1, GD.tn, GD.nt] at q0 q1 q2
        go_wp2_with fail
        clear q0 q1 q2 q3 q4 q5 q6
        refine (show Calls Try.prog _ _ _ (OkGrid _ G.H G.W (G.m0.m1.tn).f) from p_tn G.m0.m1 A3.out.ok _ _ _ _ A3.out.holds).mono ?_
        rintro e w4 ⟨k4, rfl, hk, hrow, hb⟩
        obtain ⟨x4_0, x4_1, x4_2, x4_3, x4_4, x4_5, x4_6⟩ := (A3.out.next hb).box.all
        try dsimp only [GD.m0, GD.m1, GD.tn, GD.nt] at x4_0 x4_1 x4_2
        obtain ⟨hA, hR⟩ := A3.out.put hb (G' := G.m0.m1.tn) (d' := (G.H * G.W)) hk hrow A3.out.ok.tn
        have A4 := Lib.hid (show AS w (((w4.setCell ⟨w.heap.size, 0, none⟩ (.int .i64 (G.H : Nat))).setCell ⟨w.heap.size, 1, none⟩ (.int .i64 (G.W : Nat))).setCell ⟨w.heap.size, 2, none⟩ (.slice (some ⟨k4, 0, none⟩) (G.H * G.W) (G.H * G.W))) w.heap.size (w.heap.size + 1) G.m0.m1.tn k4 0 (G.H * G.W) from hA)
        have R4 := Lib.hid (show Row (((w4.setCell ⟨w.heap.size, 0, none⟩ (.int .i64 (G.H : Nat))).setCell ⟨w.heap.size, 1, none⟩ (.int .i64 (G.W : Nat))).setCell ⟨w.heap.size, 2, none⟩ (.slice (some ⟨k4, 0, none⟩) (G.H * G.W) (G.H * G.W))) k4 (G.H * G.W) (G.m0.m1.tn).f from hR)
        have K4 := Lib.hid (Nat.le_trans A3.out.bel.size hk)
        clear hb hrow hA hR
        skip
        cases b8
        · skip
          obtain ⟨q0, q1, q2, q3, q4, q5, q6⟩ := A4.out.box.all
          try dsimp only [GD.m0, GD.m1, GD.tn, GD.nt] at q0 q1 q2
          obtain ⟨p0, p1, p2, p3, p4, p5, p6⟩ := A4.out.res.all
          go_wp2
          refine bodyPost_ret (v := .agg #[.int .i64 (G.H : Nat), .int .i64 (G.W : Nat), .slice (some ⟨k4, 0, none⟩) (G.H * G.W) (G.H * G.W)]) (by simp [results, Try.results94, go_sem, p0, p1, p2, GD.m0, GD.m1, GD.tn, GD.nt]) rfl ?_
          exact okg_fin (G := G.m0.m1.tn) R4.out (Nat.le_trans K.out K4.out) A4.out.r0 A4.out.br A4.out.bel _ _ _
        · skip
          obtain ⟨q0, q1, q2, q3, q4, q5, q6⟩ := A4.out.box.all
          try dsimp only [GD.m0, GD.m1, GD.tn, GD.nt] at q0 q1 q2
          go_wp2_with fail
          clear q0 q1 q2 q3 q4 q5 q6
          refine (show Calls Try.prog _ _ _ (OkGrid _ G.H G.W (G.m0.m1.tn.nt).f) from p_nt G.m0.m1.tn A4.out.ok _ _ _ _ A4.out.holds).mono ?_
          rintro e w5 ⟨k5, rfl, hk, hrow, hb⟩
          obtain ⟨x5_0, x5_1, x5_2, x5_3, x5_4, x5_5, x5_6⟩ := (A4.out.next hb).box.all
          try dsimp only [GD.m0, GD.m1, GD.tn, GD.nt] at x5_0 x5_1 x5_2
          obtain ⟨hA, hR⟩ := A4.out.put hb (G' := G.m0.m1.tn.nt) (d' := (G.H * G.W)) hk hrow A4.out.ok.nt
          have A5 := Lib.hid (show AS w (((w5.setCell ⟨w.heap.size, 0, none⟩ (.int .i64 (G.H : Nat))).setCell ⟨w.heap.size, 1, none⟩ (.int .i64 (G.W : Nat))).setCell ⟨w.heap.size, 2, none⟩ (.slice (some ⟨k5, 0, none⟩) (G.H * G.W) (G.H * G.W))) w.heap.size (w.heap.size + 1) G.m0.m1.tn.nt k5 0 (G.H * G.W) from hA)
          have R5 := Lib.hid (show Row (((w5.setCell ⟨w.heap.size, 0, none⟩ (.int .i64 (G.H : Nat))).setCell ⟨w.heap.size, 1, none⟩ (.int .i64 (G.W : Nat))).setCell ⟨w.heap.size, 2, none⟩ (.slice (some ⟨k5, 0, none⟩) (G.H * G.W) (G.H * G.W))) k5 (G.H * G.W) (G.m0.m1.tn.nt).f from hR)
          have K5 := Lib.hid (Nat.le_trans A4.out.bel.size hk)
          clear hb hrow hA hR
          skip
          obtain ⟨q0, q1, q2, q3, q4, q5, q6⟩ := A5.out.box.all
          try dsimp only [GD.m0, GD.m1, GD.tn, GD.nt] at q0 q1 q2
          obtain ⟨p0, p1, p2, p3, p4, p5, p6⟩ := A5.out.res.all
          go_wp2
          refine bodyPost_ret (v := .agg #[.int .i64 (G.H : Nat), .int .i64 (G.W : Nat), .slice (some ⟨k5, 0, none⟩) (G.H * G.W) (G.H * G.W)]) (by simp [results, Try.results94, go_sem, p0, p1, p2, GD.m0, GD.m1, GD.tn, GD.nt]) rfl ?_
          exact okg_fin (G := G.m0.m1.tn.nt) R5.out (Nat.le_trans K.out K5.out) A5.out.r0 A5.out.br A5.out.bel _ _ _
end Go.Proofs.Ytjbofdgdcnfmoaa

/- The reference's Applied. -/
namespace Go.Proofs.Ytjbofdgdcnfmoaa
open Go.RowKit
set_option maxRecDepth 100000
set_option linter.unusedVariables false
set_option linter.unusedSimpArgs false

set_option maxHeartbeats 6400000 in
theorem applied_any (G : GD) (ok : G.Ok) (b o d : Nat) (v : Int) (b1 b2 b4 b8 : Bool) (h1 : (bits BinOp.and IntKind.i64 v 1 != 0) = b1) (h2 : (bits BinOp.and IntKind.i64 v 2 != 0) = b2) (h4 : (bits BinOp.and IntKind.i64 v 4 != 0) = b4) (h8 : (bits BinOp.and IntKind.i64 v 8 != 0) = b8)
    (w : World) (hr : Holds w w.heap.size (some ⟨b, o, none⟩) (G.W * G.H) G.f) :
    Calls Try.prog 104 #[.agg #[.int .i64 (G.W : Nat), .int .i64 (G.H : Nat), .slice (some ⟨b, o, none⟩) (G.W * G.H) d], .int .i64 v] w (OkG w (G.apb b1 b2 b4 b8)) := by
  have A0 := Lib.hid (as_new w G b o d ok hr)
  have K := Lib.hid (Nat.le_refl w.heap.size)
  have hnn : G.W * G.H ≤ 4096 := Nat.mul_le_mul ok.w1 ok.h1
  have hn0 : 0 < G.W * G.H := Nat.mul_pos ok.w0 ok.h0
  have OK := Lib.hid ok
  clear hr ok
  go_enter Try.func104, Try.ntmps104
  cases b1
  · skip
    cases b2
    · skip
      cases b4
      · skip
        cases b8
        · skip
          obtain ⟨q0, q1, q2, q3, q4, q5, q6⟩ := A0.out.box.all
          try dsimp only [GD.m0, GD.m1, GD.tn, GD.nt] at q0 q1 q2
          obtain ⟨p0, p1, p2, p3, p4, p5, p6⟩ := A0.out.res.all
          go_wp2_with fail
          clear q0 q1 q2 q3 q4 q5 q6 p0 p1 p2 p3 p4 p5 p6
          refine (r_tw G A0.out.ok _ _ _ _ A0.out.holds).mono ?_
          rintro e w1 ⟨k1, e1, rfl, hk, hrow, hb⟩
          have A1 := Lib.hid (A0.out.next hb)
          have K1 := Lib.hid (Nat.le_trans A0.out.bel.size hk)
          have R1 := Lib.hid hrow
          have hne := A0.out.res.lt
          clear hb hrow
          obtain ⟨p0, p1, p2, p3, p4, p5, p6⟩ := A1.out.res.all
          go_wp2
          refine bodyPost_ret (v := .agg #[.int .i64 (G.W : Nat), .int .i64 (G.H : Nat), .slice (some ⟨k1, 0, none⟩) (G.W * G.H) e1]) (by simp [results, Try.results104, go_sem, p0, p1, p2, GD.m0, GD.m1, GD.tn, GD.nt]) rfl ?_
          exact okg_fin (G := G) R1.out K1.out A1.out.r0 (by omega) A1.out.bel _ _ _
        · skip
          obtain ⟨q0, q1, q2, q3, q4, q5, q6⟩ := A0.out.box.all
          try dsimp only [GD.m0, GD.m1, GD.tn, GD.nt] at q0 q1 q2
          go_wp2_with fail
          clear q0 q1 q2 q3 q4 q5 q6
          refine (r_nt G A0.out.ok _ _ _ _ A0.out.holds).mono ?_
          rintro e w1 ⟨k1, e1, rfl, hk, hrow, hb⟩
          obtain ⟨x1_0, x1_1, x1_2, x1_3, x1_4, x1_5, x1_6⟩ := (A0.out.next hb).box.all
          try dsimp only [GD.m0, GD.m1, GD.tn, GD.nt] at x1_0 x1_1 x1_2
          obtain ⟨hA, hR⟩ := A0.out.put hb (G' := G.nt) (d' := e1) hk hrow A0.out.ok.nt
          have A1 := Lib.hid (show AS w (((w1.setCell ⟨w.heap.size, 0, none⟩ (.int .i64 (G.W : Nat))).setCell ⟨w.heap.size, 1, none⟩ (.int .i64 (G.H : Nat))).setCell ⟨w.heap.size, 2, none⟩ (.slice (some ⟨k1, 0, none⟩) (G.W * G.H) e1)) w.heap.size (w.heap.size + 1) G.nt k1 0 e1 from hA)
          have R1 := Lib.hid (show Row (((w1.setCell ⟨w.heap.size, 0, none⟩ (.int .i64 (G.W : Nat))).setCell ⟨w.heap.size, 1, none⟩ (.int .i64 (G.H : Nat))).setCell ⟨w.heap.size, 2, none⟩ (.slice (some ⟨k1, 0, none⟩) (G.W * G.H) e1)) k1 (G.W * G.H) (G.nt).f from hR)
          have K1 := Lib.hid (Nat.le_trans A0.out.bel.size hk)
          clear hb hrow hA hR
          skip
          obtain ⟨q0, q1, q2, q3, q4, q5, q6⟩ := A1.out.box.all
          try dsimp only [GD.m0, GD.m1, GD.tn, GD.nt] at q0 q1 q2
          obtain ⟨p0, p1, p2, p3, p4, p5, p6⟩ := A1.out.res.all
          go_wp2_with fail
          clear q0 q1 q2 q3 q4 q5 q6 p0 p1 p2 p3 p4 p5 p6
          refine (r_tw G.nt A1.out.ok _ _ _ _ A1.out.holds).mono ?_
          rintro e w2 ⟨k2, e2, rfl, hk, hrow, hb⟩
          have A2 := Lib.hid (A1.out.next hb)
          have K2 := Lib.hid (Nat.le_trans A1.out.bel.size hk)
          have R2 := Lib.hid hrow
          have hne := A1.out.res.lt
          clear hb hrow
          obtain ⟨p0, p1, p2, p3, p4, p5, p6⟩ := A2.out.res.all
          go_wp2
          refine bodyPost_ret (v := .agg #[.int .i64 (G.W : Nat), .int .i64 (G.H : Nat), .slice (some ⟨k2, 0, none⟩) (G.W * G.H) e2]) (by simp [results, Try.results104, go_sem, p0, p1, p2, GD.m0, GD.m1, GD.tn, GD.nt]) rfl ?_
          exact okg_fin (G := G.nt) R2.out K2.out A2.out.r0 (by omega) A2.out.bel _ _ _
      · skip
        obtain ⟨q0, q1, q2, q3, q4, q5, q6⟩ := A0.out.box.all
        try dsimp only [GD.m0, GD.m1, GD.tn, GD.nt] at q0 q1 q2
        go_wp2_with fail
        clear q0 q1 q2 q3 q4 q5 q6
        refine (r_tn G A0.out.ok _ _ _ _ A0.out.holds).mono ?_
        rintro e w1 ⟨k1, rfl, hk, hrow, hb⟩
        obtain ⟨x1_0, x1_1, x1_2, x1_3, x1_4, x1_5, x1_6⟩ := (A0.out.next hb).box.all
        try dsimp only [GD.m0, GD.m1, GD.tn, GD.nt] at x1_0 x1_1 x1_2
        obtain ⟨hA, hR⟩ := A0.out.put hb (G' := G.tn) (d' := (G.H * G.W)) hk hrow A0.out.ok.tn
        have A1 := Lib.hid (show AS w (((w1.setCell ⟨w.heap.size, 0, none⟩ (.int .i64 (G.H : Nat))).setCell ⟨w.heap.size, 1, none⟩ (.int .i64 (G.W : Nat))).setCell ⟨w.heap.size, 2, none⟩ (.slice (some ⟨k1, 0, none⟩) (G.H * G.W) (G.H * G.W))) w.heap.size (w.heap.size + 1) G.tn k1 0 (G.H * G.W) from hA)
        have R1 := Lib.hid (show Row (((w1.setCell ⟨w.heap.size, 0, none⟩ (.int .i64 (G.H : Nat))).setCell ⟨w.heap.size, 1, none⟩ (.int .i64 (G.W : Nat))).setCell ⟨w.heap.size, 2, none⟩ (.slice (some ⟨k1, 0, none⟩) (G.H * G.W) (G.H * G.W))) k1 (G.H * G.W) (G.tn).f from hR)
        have K1 := Lib.hid (Nat.le_trans A0.out.bel.size hk)
        clear hb hrow hA hR
        skip
        cases b8
        · skip
          obtain ⟨q0, q1, q2, q3, q4, q5, q6⟩ := A1.out.box.all
          try dsimp only [GD.m0, GD.m1, GD.tn, GD.nt] at q0 q1 q2
          obtain ⟨p0, p1, p2, p3, p4, p5, p6⟩ := A1.out.res.all
          go_wp2_with fail
          clear q0 q1 q2 q3 q4 q5 q6 p0 p1 p2 p3 p4 p5 p6
          refine (r_tw G.tn A1.out.ok _ _ _ _ A1.out.holds).mono ?_
          rintro e w2 ⟨k2, e2, rfl, hk, hrow, hb⟩
          have A2 := Lib.hid (A1.out.next hb)
          have K2 := Lib.hid (Nat.le_trans A1.out.bel.size hk)
          have R2 := Lib.hid hrow
          have hne := A1.out.res.lt
          clear hb hrow
          obtain ⟨p0, p1, p2, p3, p4, p5, p6⟩ := A2.out.res.all
          go_wp2
          refine bodyPost_ret (v := .agg #[.int .i64 (G.H : Nat), .int .i64 (G.W : Nat), .slice (some ⟨k2, 0, none⟩) (G.H * G.W) e2]) (by simp [results, Try.results104, go_sem, p0, p1, p2, GD.m0, GD.m1, GD.tn, GD.nt]) rfl ?_
          exact okg_fin (G := G.tn) R2.out K2.out A2.out.r0 (by omega) A2.out.bel _ _ _
        · skip
          obtain ⟨q0, q1, q2, q3, q4, q5, q6⟩ := A1.out.box.all
          try dsimp only [GD.m0, GD.m1, GD.tn, GD.nt] at q0 q1 q2
          go_wp2_with fail
          clear q0 q1 q2 q3 q4 q5 q6
          refine (r_nt G.tn A1.out.ok _ _ _ _ A1.out.holds).mono ?_
          rintro e w2 ⟨k2, e2, rfl, hk, hrow, hb⟩
          obtain ⟨x2_0, x2_1, x2_2, x2_3, x2_4, x2_5, x2_6⟩ := (A1.out.next hb).box.all
          try dsimp only [GD.m0, GD.m1, GD.tn, GD.nt] at x2_0 x2_1 x2_2
          obtain ⟨hA, hR⟩ := A1.out.put hb (G' := G.tn.nt) (d' := e2) hk hrow A1.out.ok.nt
          have A2 := Lib.hid (show AS w (((w2.setCell ⟨w.heap.size, 0, none⟩ (.int .i64 (G.H : Nat))).setCell ⟨w.heap.size, 1, none⟩ (.int .i64 (G.W : Nat))).setCell ⟨w.heap.size, 2, none⟩ (.slice (some ⟨k2, 0, none⟩) (G.H * G.W) e2)) w.heap.size (w.heap.size + 1) G.tn.nt k2 0 e2 from hA)
          have R2 := Lib.hid (show Row (((w2.setCell ⟨w.heap.size, 0, none⟩ (.int .i64 (G.H : Nat))).setCell ⟨w.heap.size, 1, none⟩ (.int .i64 (G.W : Nat))).setCell ⟨w.heap.size, 2, none⟩ (.slice (some ⟨k2, 0, none⟩) (G.H * G.W) e2)) k2 (G.H * G.W) (G.tn.nt).f from hR)
          have K2 := Lib.hid (Nat.le_trans A1.out.bel.size hk)
          clear hb hrow hA hR
          skip
          obtain ⟨q0, q1, q2, q3, q4, q5, q6⟩ := A2.out.box.all
          try dsimp only [GD.m0, GD.m1, GD.tn, GD.nt] at q0 q1 q2
          obtain ⟨p0, p1, p2, p3, p4, p5, p6⟩ := A2.out.res.all
          go_wp2_with fail
          clear q0 q1 q2 q3 q4 q5 q6 p0 p1 p2 p3 p4 p5 p6
          refine (r_tw G.tn.nt A2.out.ok _ _ _ _ A2.out.holds).mono ?_
          rintro e w3 ⟨k3, e3, rfl, hk, hrow, hb⟩
          have A3 := Lib.hid (A2.out.next hb)
          have K3 := Lib.hid (Nat.le_trans A2.out.bel.size hk)
          have R3 := Lib.hid hrow
          have hne := A2.out.res.lt
          clear hb hrow
          obtain ⟨p0, p1, p2, p3, p4, p5, p6⟩ := A3.out.res.all
          go_wp2
          refine bodyPost_ret (v := .agg #[.int .i64 (G.H : Nat), .int .i64 (G.W : Nat), .slice (some ⟨k3, 0, none⟩) (G.H * G.W) e3]) (by simp [results, Try.results104, go_sem, p0, p1, p2, GD.m0, GD.m1, GD.tn, GD.nt]) rfl ?_
          exact okg_fin (G := G.tn.nt) R3.out K3.out A3.out.r0 (by omega) A3.out.bel _ _ _
    · skip
      obtain ⟨q0, q1, q2, q3, q4, q5, q6⟩ := A0.out.box.all
      try dsimp only [GD.m0, GD.m1, GD.tn, GD.nt] at q0 q1 q2
      go_wp2_with fail
      clear q0 q1 q2 q3 q4 q5 q6
      refine (r_m1 G A0.out.ok _ _ _ _ A0.out.holds).mono ?_
      rintro e w1 ⟨k1, rfl, hk, hrow, hb⟩
      obtain ⟨x1_0, x1_1, x1_2, x1_3, x1_4, x1_5, x1_6⟩ := (A0.out.next hb).box.all
      try dsimp only [GD.m0, GD.m1, GD.tn, GD.nt] at x1_0 x1_1 x1_2
      obtain ⟨hA, hR⟩ := A0.out.put hb (G' := G.m1) (d' := (G.W * G.H)) hk hrow A0.out.ok.m1
      have A1 := Lib.hid (show AS w (((w1.setCell ⟨w.heap.size, 0, none⟩ (.int .i64 (G.W : Nat))).setCell ⟨w.heap.size, 1, none⟩ (.int .i64 (G.H : Nat))).setCell ⟨w.heap.size, 2, none⟩ (.slice (some ⟨k1, 0, none⟩) (G.W * G.H) (G.W * G.H))) w.heap.size (w.heap.size + 1) G.m1 k1 0 (G.W * G.H) from hA)
      have R1 := Lib.hid (show Row (((w1.setCell ⟨w.heap.size, 0, none⟩ (.int .i64 (G.W : Nat))).setCell ⟨w.heap.size, 1, none⟩ (.int .i64 (G.H : Nat))).setCell ⟨w.heap.size, 2, none⟩ (.slice (some ⟨k1, 0, none⟩) (G.W * G.H) (G.W * G.H))) k1 (G.W * G.H) (G.m1).f from hR)
      have K1 := Lib.hid (Nat.le_trans A0.out.bel.size hk)
      clear hb hrow hA hR
      skip
      cases b4
      · skip
        cases b8
        · skip
          obtain ⟨q0, q1, q2, q3, q4, q5, q6⟩ := A1.out.box.all
          try dsimp only [GD.m0, GD.m1, GD.tn, GD.nt] at q0 q1 q2
          obtain ⟨p0, p1, p2, p3, p4, p5, p6⟩ := A1.out.res.all
          go_wp2_with fail
          clear q0 q1 q2 q3 q4 q5 q6 p0 p1 p2 p3 p4 p5 p6
          refine (r_tw G.m1 A1.out.ok _ _ _ _ A1.out.holds).mono ?_
          rintro e w2 ⟨k2, e2, rfl, hk, hrow, hb⟩
          have A2 := Lib.hid (A1.out.next hb)
          have K2 := Lib.hid (Nat.le_trans A1.out.bel.size hk)
          have R2 := Lib.hid hrow
          have hne := A1.out.res.lt
          clear hb hrow
          obtain ⟨p0, p1, p2, p3, p4, p5, p6⟩ := A2.out.res.all
          go_wp2
          refine bodyPost_ret (v := .agg #[.int .i64 (G.W : Nat), .int .i64 (G.H : Nat), .slice (some ⟨k2, 0, none⟩) (G.W * G.H) e2]) (by simp [results, Try.results104, go_sem, p0, p1, p2, GD.m0, GD.m1, GD.tn, GD.nt]) rfl ?_
          exact okg_fin (G := G.m1) R2.out K2.out A2.out.r0 (by omega) A2.out.bel _ _ _
        · skip
          obtain ⟨q0, q1, q2, q3, q4, q5, q6⟩ := A1.out.box.all
          try dsimp only [GD.m0, GD.m1, GD.tn, GD.nt] at q0 q1 q2
          go_wp2_with fail
          clear q0 q1 q2 q3 q4 q5 q6
          refine (r_nt G.m1 A1.out.ok _ _ _ _ A1.out.holds).mono ?_
          rintro e w2 ⟨k2, e2, rfl, hk, hrow, hb⟩
          obtain ⟨x2_0, x2_1, x2_2, x2_3, x2_4, x2_5, x2_6⟩ := (A1.out.next hb).box.all
          try dsimp only [GD.m0, GD.m1, GD.tn, GD.nt] at x2_0 x2_1 x2_2
          obtain ⟨hA, hR⟩ := A1.out.put hb (G' := G.m1.nt) (d' := e2) hk hrow A1.out.ok.nt
          have A2 := Lib.hid (show AS w (((w2.setCell ⟨w.heap.size, 0, none⟩ (.int .i64 (G.W : Nat))).setCell ⟨w.heap.size, 1, none⟩ (.int .i64 (G.H : Nat))).setCell ⟨w.heap.size, 2, none⟩ (.slice (some ⟨k2, 0, none⟩) (G.W * G.H) e2)) w.heap.size (w.heap.size + 1) G.m1.nt k2 0 e2 from hA)
          have R2 := Lib.hid (show Row (((w2.setCell ⟨w.heap.size, 0, none⟩ (.int .i64 (G.W : Nat))).setCell ⟨w.heap.size, 1, none⟩ (.int .i64 (G.H : Nat))).setCell ⟨w.heap.size, 2, none⟩ (.slice (some ⟨k2, 0, none⟩) (G.W * G.H) e2)) k2 (G.W * G.H) (G.m1.nt).f from hR)
          have K2 := Lib.hid (Nat.le_trans A1.out.bel.size hk)
          clear hb hrow hA hR
          skip
          obtain ⟨q0, q1, q2, q3, q4, q5, q6⟩ := A2.out.box.all
          try dsimp only [GD.m0, GD.m1, GD.tn, GD.nt] at q0 q1 q2
          obtain ⟨p0, p1, p2, p3, p4, p5, p6⟩ := A2.out.res.all
          go_wp2_with fail
          clear q0 q1 q2 q3 q4 q5 q6 p0 p1 p2 p3 p4 p5 p6
          refine (r_tw G.m1.nt A2.out.ok _ _ _ _ A2.out.holds).mono ?_
          rintro e w3 ⟨k3, e3, rfl, hk, hrow, hb⟩
          have A3 := Lib.hid (A2.out.next hb)
          have K3 := Lib.hid (Nat.le_trans A2.out.bel.size hk)
          have R3 := Lib.hid hrow
          have hne := A2.out.res.lt
          clear hb hrow
          obtain ⟨p0, p1, p2, p3, p4, p5, p6⟩ := A3.out.res.all
          go_wp2
          refine bodyPost_ret (v := .agg #[.int .i64 (G.W : Nat), .int .i64 (G.H : Nat), .slice (some ⟨k3, 0, none⟩) (G.W * G.H) e3]) (by simp [results, Try.results104, go_sem, p0, p1, p2, GD.m0, GD.m1, GD.tn, GD.nt]) rfl ?_
          exact okg_fin (G := G.m1.nt) R3.out K3.out A3.out.r0 (by omega) A3.out.bel _ _ _
      · skip
        obtain ⟨q0, q1, q2, q3, q4, q5, q6⟩ := A1.out.box.all
        try dsimp only [GD.m0, GD.m1, GD.tn, GD.nt] at q0 q1 q2
        go_wp2_with fail
        clear q0 q1 q2 q3 q4 q5 q6
        refine (r_tn G.m1 A1.out.ok _ _ _ _ A1.out.holds).mono ?_
        rintro e w2 ⟨k2, rfl, hk, hrow, hb⟩
        obtain ⟨x2_0, x2_1, x2_2, x2_3, x2_4, x2_5, x2_6⟩ := (A1.out.next hb).box.all
        try dsimp only [GD.m0, GD.m1, GD.tn, GD.nt] at x2_0 x2_1 x2_2
        obtain ⟨hA, hR⟩ := A1.out.put hb (G' := G.m1.tn) (d' := (G.H * G.W)) hk hrow A1.out.ok.tn
        have A2 := Lib.hid (show AS w (((w2.setCell ⟨w.heap.size, 0, none⟩ (.int .i64 (G.H : Nat))).setCell ⟨w.heap.size, 1, none⟩ (.int .i64 (G.W : Nat))).setCell ⟨w.heap.size, 2, none⟩ (.slice (some ⟨k2, 0, none⟩) (G.H * G.W) (G.H * G.W))) w.heap.size (w.heap.size + 1) G.m1.tn k2 0 (G.H * G.W) from hA)
        have R2 := Lib.hid (show Row (((w2.setCell ⟨w.heap.size, 0, none⟩ (.int .i64 (G.H : Nat))).setCell ⟨w.heap.size, 1, none⟩ (.int .i64 (G.W : Nat))).setCell ⟨w.heap.size, 2, none⟩ (.slice (some ⟨k2, 0, none⟩) (G.H * G.W) (G.H * G.W))) k2 (G.H * G.W) (G.m1.tn).f from hR)
        have K2 := Lib.hid (Nat.le_trans A1.out.bel.size hk)
        clear hb hrow hA hR
        skip
        cases b8
        · skip
          obtain ⟨q0, q1, q2, q3, q4, q5, q6⟩ := A2.out.box.all
          try dsimp only [GD.m0, GD.m1, GD.tn, GD.nt] at q0 q1 q2
          obtain ⟨p0, p1, p2, p3, p4, p5, p6⟩ := A2.out.res.all
          go_wp2_with fail
          clear q0 q1 q2 q3 q4 q5 q6 p0 p1 p2 p3 p4 p5 p6
          refine (r_tw G.m1.tn A2.out.ok _ _ _ _ A2.out.holds).mono ?_
          rintro e w3 ⟨k3, e3, rfl, hk, hrow, hb⟩
          have A3 := Lib.hid (A2.out.next hb)
          have K3 := Lib.hid (Nat.le_trans A2.out.bel.size hk)
          have R3 := Lib.hid hrow
          have hne := A2.out.res.lt
          clear hb hrow
          obtain ⟨p0, p1, p2, p3, p4, p5, p6⟩ := A3.out.res.all
          go_wp2
          refine bodyPost_ret (v := .agg #[.int .i64 (G.H : Nat), .int .i64 (G.W : Nat), .slice (some ⟨k3, 0, none⟩) (G.H * G.W) e3]) (by simp [results, Try.results104, go_sem, p0, p1, p2, GD.m0, GD.m1, GD.tn, GD.nt]) rfl ?_
          exact okg_fin (G := G.m1.tn) R3.out K3.out A3.out.r0 (by omega) A3.out.bel _ _ _
        · skip
          obtain ⟨q0, q1, q2, q3, q4, q5, q6⟩ := A2.out.box.all
          try dsimp only [GD.m0, GD.m1, GD.tn, GD.nt] at q0 q1 q2
          go_wp2_with fail
          clear q0 q1 q2 q3 q4 q5 q6
          refine (r_nt G.m1.tn A2.out.ok _ _ _ _ A2.out.holds).mono ?_
          rintro e w3 ⟨k3, e3, rfl, hk, hrow, hb⟩
          obtain ⟨x3_0, x3_1, x3_2, x3_3, x3_4, x3_5, x3_6⟩ := (A2.out.next hb).box.all
          try dsimp only [GD.m0, GD.m1, GD.tn, GD.nt] at x3_0 x3_1 x3_2
          obtain ⟨hA, hR⟩ := A2.out.put hb (G' := G.m1.tn.nt) (d' := e3) hk hrow A2.out.ok.nt
          have A3 := Lib.hid (show AS w (((w3.setCell ⟨w.heap.size, 0, none⟩ (.int .i64 (G.H : Nat))).setCell ⟨w.heap.size, 1, none⟩ (.int .i64 (G.W : Nat))).setCell ⟨w.heap.size, 2, none⟩ (.slice (some ⟨k3, 0, none⟩) (G.H * G.W) e3)) w.heap.size (w.heap.size + 1) G.m1.tn.nt k3 0 e3 from hA)
          have R3 := Lib.hid (show Row (((w3.setCell ⟨w.heap.size, 0, none⟩ (.int .i64 (G.H : Nat))).setCell ⟨w.heap.size, 1, none⟩ (.int .i64 (G.W : Nat))).setCell ⟨w.heap.size, 2, none⟩ (.slice (some ⟨k3, 0, none⟩) (G.H * G.W) e3)) k3 (G.H * G.W) (G.m1.tn.nt).f from hR)
          have K3 := Lib.hid (Nat.le_trans A2.out.bel.size hk)
          clear hb hrow hA hR
          skip
          obtain ⟨q0, q1, q2, q3, q4, q5, q6⟩ := A3.out.box.all
          try dsimp only [GD.m0, GD.m1, GD.tn, GD.nt] at q0 q1 q2
          obtain ⟨p0, p1, p2, p3, p4, p5, p6⟩ := A3.out.res.all
          go_wp2_with fail
          clear q0 q1 q2 q3 q4 q5 q6 p0 p1 p2 p3 p4 p5 p6
          refine (r_tw G.m1.tn.nt A3.out.ok _ _ _ _ A3.out.holds).mono ?_
          rintro e w4 ⟨k4, e4, rfl, hk, hrow, hb⟩
          have A4 := Lib.hid (A3.out.next hb)
          have K4 := Lib.hid (Nat.le_trans A3.out.bel.size hk)
          have R4 := Lib.hid hrow
          have hne := A3.out.res.lt
          clear hb hrow
          obtain ⟨p0, p1, p2, p3, p4, p5, p6⟩ := A4.out.res.all
          go_wp2
          refine bodyPost_ret (v := .agg #[.int .i64 (G.H : Nat), .int .i64 (G.W : Nat), .slice (some ⟨k4, 0, none⟩) (G.H * G.W) e4]) (by simp [results, Try.results104, go_sem, p0, p1, p2, GD.m0, GD.m1, GD.tn, GD.nt]) rfl ?_
          exact okg_fin (G := G.m1.tn.nt) R4.out K4.out A4.out.r0 (by omega) A4.out.bel _ _ _
  · skip
    obtain ⟨q0, q1, q2, q3, q4, q5, q6⟩ := A0.out.box.all
    try dsimp only [GD.m0, GD.m1, GD.tn, GD.nt] at q0 q1 q2
    go_wp2_with fail
    clear q0 q1 q2 q3 q4 q5 q6
    refine (r_m0 G A0.out.ok _ _ _ _ A0.out.holds).mono ?_
    rintro e w1 ⟨k1, rfl, hk, hrow, hb⟩
    obtain ⟨x1_0, x1_1, x1_2, x1_3, x1_4, x1_5, x1_6⟩ := (A0.out.next hb).box.all
    try dsimp only [GD.m0, GD.m1, GD.tn, GD.nt] at x1_0 x1_1 x1_2
    obtain ⟨hA, hR⟩ := A0.out.put hb (G' := G.m0) (d' := (G.W * G.H)) hk hrow A0.out.ok.m0
    have A1 := Lib.hid (show AS w (((w1.setCell ⟨w.heap.size, 0, none⟩ (.int .i64 (G.W : Nat))).setCell ⟨w.heap.size, 1, none⟩ (.int .i64 (G.H : Nat))).setCell ⟨w.heap.size, 2, none⟩ (.slice (some ⟨k1, 0, none⟩) (G.W * G.H) (G.W * G.H))) w.heap.size (w.heap.size + 1) G.m0 k1 0 (G.W * G.H) from hA)
    have R1 := Lib.hid (show Row (((w1.setCell ⟨w.heap.size, 0, none⟩ (.int .i64 (G.W : Nat))).setCell ⟨w.heap.size, 1, none⟩ (.int .i64 (G.H : Nat))).setCell ⟨w.heap.size, 2, none⟩ (.slice (some ⟨k1, 0, none⟩) (G.W * G.H) (G.W * G.H))) k1 (G.W * G.H) (G.m0).f from hR)
    have K1 := Lib.hid (Nat.le_trans A0.out.bel.size hk)
    clear hb hrow hA hR
    skip
    cases b2
    · skip
      cases b4
      · skip
        cases b8
        · skip
          obtain ⟨q0, q1, q2, q3, q4, q5, q6⟩ := A1.out.box.all
          try dsimp only [GD.m0, GD.m1, GD.tn, GD.nt] at q0 q1 q2
          obtain ⟨p0, p1, p2, p3, p4, p5, p6⟩ := A1.out.res.all
          go_wp2_with fail
          clear q0 q1 q2 q3 q4 q5 q6 p0 p1 p2 p3 p4 p5 p6
          refine (r_tw G.m0 A1.out.ok _ _ _ _ A1.out.holds).mono ?_
          rintro e w2 ⟨k2, e2, rfl, hk, hrow, hb⟩
          have A2 := Lib.hid (A1.out.next hb)
          have K2 := Lib.hid (Nat.le_trans A1.out.bel.size hk)
          have R2 := Lib.hid hrow
          have hne := A1.out.res.lt
          clear hb hrow
          obtain ⟨p0, p1, p2, p3, p4, p5, p6⟩ := A2.out.res.all
          go_wp2
          refine bodyPost_ret (v := .agg #[.int .i64 (G.W : Nat), .int .i64 (G.H : Nat), .slice (some ⟨k2, 0, none⟩) (G.W * G.H) e2]) (by simp [results, Try.results104, go_sem, p0, p1, p2, GD.m0, GD.m1, GD.tn, GD.nt]) rfl ?_
          exact okg_fin (G := G.m0) R2.out K2.out A2.out.r0 (by omega) A2.out.bel _ _ _
        · skip
          obtain ⟨q0, q1, q2, q3, q4, q5, q6⟩ := A1.out.box.all
          try dsimp only [GD.m0, GD.m1, GD.tn, GD.nt] at q0 q1 q2
          go_wp2_with fail
          clear q0 q1 q2 q3 q4 q5 q6
          refine (r_nt G.m0 A1.out.ok _ _ _ _ A1.out.holds).mono ?_
          rintro e w2 ⟨k2, e2, rfl, hk, hrow, hb⟩
          obtain ⟨x2_0, x2_1, x2_2, x2_3, x2_4, x2_5, x2_6⟩ := (A1.out.next hb).box.all
          try dsimp only [GD.m0, GD.m1, GD.tn, GD.nt] at x2_0 x2_1 x2_2
          obtain ⟨hA, hR⟩ := A1.out.put hb (G' := G.m0.nt) (d' := e2) hk hrow A1.out.ok.nt
          have A2 := Lib.hid (show AS w (((w2.setCell ⟨w.heap.size, 0, none⟩ (.int .i64 (G.W : Nat))).setCell ⟨w.heap.size, 1, none⟩ (.int .i64 (G.H : Nat))).setCell ⟨w.heap.size, 2, none⟩ (.slice (some ⟨k2, 0, none⟩) (G.W * G.H) e2)) w.heap.size (w.heap.size + 1) G.m0.nt k2 0 e2 from hA)
          have R2 := Lib.hid (show Row (((w2.setCell ⟨w.heap.size, 0, none⟩ (.int .i64 (G.W : Nat))).setCell ⟨w.heap.size, 1, none⟩ (.int .i64 (G.H : Nat))).setCell ⟨w.heap.size, 2, none⟩ (.slice (some ⟨k2, 0, none⟩) (G.W * G.H) e2)) k2 (G.W * G.H) (G.m0.nt).f from hR)
          have K2 := Lib.hid (Nat.le_trans A1.out.bel.size hk)
          clear hb hrow hA hR
          skip
          obtain ⟨q0, q1, q2, q3, q4, q5, q6⟩ := A2.out.box.all
          try dsimp only [GD.m0, GD.m1, GD.tn, GD.nt] at q0 q1 q2
          obtain ⟨p0, p1, p2, p3, p4, p5, p6⟩ := A2.out.res.all
          go_wp2_with fail
          clear q0 q1 q2 q3 q4 q5 q6 p0 p1 p2 p3 p4 p5 p6
          refine (r_tw G.m0.nt A2.out.ok _ _ _ _ A2.out.holds).mono ?_
          rintro e w3 ⟨k3, e3, rfl, hk, hrow, hb⟩
          have A3 := Lib.hid (A2.out.next hb)
          have K3 := Lib.hid (Nat.le_trans A2.out.bel.size hk)
          have R3 := Lib.hid hrow
          have hne := A2.out.res.lt
          clear hb hrow
          obtain ⟨p0, p1, p2, p3, p4, p5, p6⟩ := A3.out.res.all
          go_wp2
          refine bodyPost_ret (v := .agg #[.int .i64 (G.W : Nat), .int .i64 (G.H : Nat), .slice (some ⟨k3, 0, none⟩) (G.W * G.H) e3]) (by simp [results, Try.results104, go_sem, p0, p1, p2, GD.m0, GD.m1, GD.tn, GD.nt]) rfl ?_
          exact okg_fin (G := G.m0.nt) R3.out K3.out A3.out.r0 (by omega) A3.out.bel _ _ _
      · skip
        obtain ⟨q0, q1, q2, q3, q4, q5, q6⟩ := A1.out.box.all
        try dsimp only [GD.m0, GD.m1, GD.tn, GD.nt] at q0 q1 q2
        go_wp2_with fail
        clear q0 q1 q2 q3 q4 q5 q6
        refine (r_tn G.m0 A1.out.ok _ _ _ _ A1.out.holds).mono ?_
        rintro e w2 ⟨k2, rfl, hk, hrow, hb⟩
        obtain ⟨x2_0, x2_1, x2_2, x2_3, x2_4, x2_5, x2_6⟩ := (A1.out.next hb).box.all
        try dsimp only [GD.m0, GD.m1, GD.tn, GD.nt] at x2_0 x2_1 x2_2
        obtain ⟨hA, hR⟩ := A1.out.put hb (G' := G.m0.tn) (d' := (G.H * G.W)) hk hrow A1.out.ok.tn
        have A2 := Lib.hid (show AS w (((w2.setCell ⟨w.heap.size, 0, none⟩ (.int .i64 (G.H : Nat))).setCell ⟨w.heap.size, 1, none⟩ (.int .i64 (G.W : Nat))).setCell ⟨w.heap.size, 2, none⟩ (.slice (some ⟨k2, 0, none⟩) (G.H * G.W) (G.H * G.W))) w.heap.size (w.heap.size + 1) G.m0.tn k2 0 (G.H * G.W) from hA)
        have R2 := Lib.hid (show Row (((w2.setCell ⟨w.heap.size, 0, none⟩ (.int .i64 (G.H : Nat))).setCell ⟨w.heap.size, 1, none⟩ (.int .i64 (G.W : Nat))).setCell ⟨w.heap.size, 2, none⟩ (.slice (some ⟨k2, 0, none⟩) (G.H * G.W) (G.H * G.W))) k2 (G.H * G.W) (G.m0.tn).f from hR)
        have K2 := Lib.hid (Nat.le_trans A1.out.bel.size hk)
        clear hb hrow hA hR
        skip
        cases b8
        · skip
          obtain ⟨q0, q1, q2, q3, q4, q5, q6⟩ := A2.out.box.all
          try dsimp only [GD.m0, GD.m1, GD.tn, GD.nt] at q0 q1 q2
          obtain ⟨p0, p1, p2, p3, p4, p5, p6⟩ := A2.out.res.all
          go_wp2_with fail
          clear q0 q1 q2 q3 q4 q5 q6 p0 p1 p2 p3 p4 p5 p6
          refine (r_tw G.m0.tn A2.out.ok _ _ _ _ A2.out.holds).mono ?_
          rintro e w3 ⟨k3, e3, rfl, hk, hrow, hb⟩
          have A3 := Lib.hid (A2.out.next hb)
          have K3 := Lib.hid (Nat.le_trans A2.out.bel.size hk)
          have R3 := Lib.hid hrow
          have hne := A2.out.res.lt
          clear hb hrow
          obtain ⟨p0, p1, p2, p3, p4, p5, p6⟩ := A3.out.res.all
          go_wp2
          refine bodyPost_ret (v := .agg #[.int .i64 (G.H : Nat), .int .i64 (G.W : Nat), .slice (some ⟨k3, 0, none⟩) (G.H * G.W) e3]) (by simp [results, Try.results104, go_sem, p0, p1, p2, GD.m0, GD.m1, GD.tn, GD.nt]) rfl ?_
          exact okg_fin (G := G.m0.tn) R3.out K3.out A3.out.r0 (by omega) A3.out.bel _ _ _
        · skip
          obtain ⟨q0, q1, q2, q3, q4, q5, q6⟩ := A2.out.box.all
          try dsimp only [GD.m0, GD.m1, GD.tn, GD.nt] at q0 q1 q2
          go_wp2_with fail
          clear q0 q1 q2 q3 q4 q5 q6
          refine (r_nt G.m0.tn A2.out.ok _ _ _ _ A2.out.holds).mono ?_
          rintro e w3 ⟨k3, e3, rfl, hk, hrow, hb⟩
          obtain ⟨x3_0, x3_1, x3_2, x3_3, x3_4, x3_5, x3_6⟩ := (A2.out.next hb).box.all
          try dsimp only [GD.m0, GD.m1, GD.tn, GD.nt] at x3_0 x3_1 x3_2
          obtain ⟨hA, hR⟩ := A2.out.put hb (G' := G.m0.tn.nt) (d' := e3) hk hrow A2.out.ok.nt
          have A3 := Lib.hid (show AS w (((w3.setCell ⟨w.heap.size, 0, none⟩ (.int .i64 (G.H : Nat))).setCell ⟨w.heap.size, 1, none⟩ (.int .i64 (G.W : Nat))).setCell ⟨w.heap.size, 2, none⟩ (.slice (some ⟨k3, 0, none⟩) (G.H * G.W) e3)) w.heap.size (w.heap.size + 1) G.m0.tn.nt k3 0 e3 from hA)
          have R3 := Lib.hid (show Row (((w3.setCell ⟨w.heap.size, 0, none⟩ (.int .i64 (G.H : Nat))).setCell ⟨w.heap.size, 1, none⟩ (.int .i64 (G.W : Nat))).setCell ⟨w.heap.size, 2, none⟩ (.slice (some ⟨k3, 0, none⟩) (G.H * G.W) e3)) k3 (G.H * G.W) (G.m0.tn.nt).f from hR)
          have K3 := Lib.hid (Nat.le_trans A2.out.bel.size hk)
          clear hb hrow hA hR
          skip
          obtain ⟨q0, q1, q2, q3, q4, q5, q6⟩ := A3.out.box.all
          try dsimp only [GD.m0, GD.m1, GD.tn, GD.nt] at q0 q1 q2
          obtain ⟨p0, p1, p2, p3, p4, p5, p6⟩ := A3.out.res.all
          go_wp2_with fail
          clear q0 q1 q2 q3 q4 q5 q6 p0 p1 p2 p3 p4 p5 p6
          refine (r_tw G.m0.tn.nt A3.out.ok _ _ _ _ A3.out.holds).mono ?_
          rintro e w4 ⟨k4, e4, rfl, hk, hrow, hb⟩
          have A4 := Lib.hid (A3.out.next hb)
          have K4 := Lib.hid (Nat.le_trans A3.out.bel.size hk)
          have R4 := Lib.hid hrow
          have hne := A3.out.res.lt
          clear hb hrow
          obtain ⟨p0, p1, p2, p3, p4, p5, p6⟩ := A4.out.res.all
          go_wp2
          refine bodyPost_ret (v := .agg #[.int .i64 (G.H : Nat), .int .i64 (G.W : Nat), .slice (some ⟨k4, 0, none⟩) (G.H * G.W) e4]) (by simp [results, Try.results104, go_sem, p0, p1, p2, GD.m0, GD.m1, GD.tn, GD.nt]) rfl ?_
          exact okg_fin (G := G.m0.tn.nt) R4.out K4.out A4.out.r0 (by omega) A4.out.bel _ _ _
    · skip
      obtain ⟨q0, q1, q2, q3, q4, q5, q6⟩ := A1.out.box.all
      try dsimp only [GD.m0, GD.m1, GD.tn, GD.nt] at q0 q1 q2
      go_wp2_with fail
      clear q0 q1 q2 q3 q4 q5 q6
      refine (r_m1 G.m0 A1.out.ok _ _ _ _ A1.out.holds).mono ?_
      rintro e w2 ⟨k2, rfl, hk, hrow, hb⟩
      obtain ⟨x2_0, x2_1, x2_2, x2_3, x2_4, x2_5, x2_6⟩ := (A1.out.next hb).box.all
      try dsimp only [GD.m0, GD.m1, GD.tn, GD.nt] at x2_0 x2_1 x2_2
      obtain ⟨hA, hR⟩ := A1.out.put hb (G' := G.m0.m1) (d' := (G.W * G.H)) hk hrow A1.out.ok.m1
      have A2 := Lib.hid (show AS w (((w2.setCell ⟨w.heap.size, 0, none⟩ (.int .i64 (G.W : Nat))).setCell ⟨w.heap.size, 1, none⟩ (.int .i64 (G.H : Nat))).setCell ⟨w.heap.size, 2, none⟩ (.slice (some ⟨k2, 0, none⟩) (G.W * G.H) (G.W * G.H))) w.heap.size (w.heap.size + 1) G.m0.m1 k2 0 (G.W * G.H) from hA)
      have R2 := Lib.hid (show Row (((w2.setCell ⟨w.heap.size, 0, none⟩ (.int .i64 (G.W : Nat))).setCell ⟨w.heap.size, 1, none⟩ (.int .i64 (G.H : Nat))).setCell ⟨w.heap.size, 2, none⟩ (.slice (some ⟨k2, 0, none⟩) (G.W * G.H) (G.W * G.H))) k2 (G.W * G.H) (G.m0.m1).f from hR)
      have K2 := Lib.hid (Nat.le_trans A1.out.bel.size hk)
      clear hb hrow hA hR
      skip
      cases b4
      · skip
        cases b8
        · skip
          obtain ⟨q0, q1, q2, q3, q4, q5, q6⟩ := A2.out.box.all
          try dsimp only [GD.m0, GD.m1, GD.tn, GD.nt] at q0 q1 q2
          obtain ⟨p0, p1, p2, p3, p4, p5, p6⟩ := A2.out.res.all
          go_wp2_with fail
          clear q0 q1 q2 q3 q4 q5 q6 p0 p1 p2 p3 p4 p5 p6
          refine (r_tw G.m0.m1 A2.out.ok _ _ _ _ A2.out.holds).mono ?_
          rintro e w3 ⟨k3, e3, rfl, hk, hrow, hb⟩
          have A3 := Lib.hid (A2.out.next hb)
          have K3 := Lib.hid (Nat.le_trans A2.out.bel.size hk)
          have R3 := Lib.hid hrow
          have hne := A2.out.res.lt
          clear hb hrow
          obtain ⟨p0, p1, p2, p3, p4, p5, p6⟩ := A3.out.res.all
          go_wp2
          refine bodyPost_ret (v := .agg #[.int .i64 (G.W : Nat), .int .i64 (G.H : Nat), .slice (some ⟨k3, 0, none⟩) (G.W * G.H) e3]) (by simp [results, Try.results104, go_sem, p0, p1, p2, GD.m0, GD.m1, GD.tn, GD.nt]) rfl ?_
          exact okg_fin (G := G.m0.m1) R3.out K3.out A3.out.r0 (by omega) A3.out.bel _ _ _
        · skip
          obtain ⟨q0, q1, q2, q3, q4, q5, q6⟩ := A2.out.box.all
          try dsimp only [GD.m0, GD.m1, GD.tn, GD.nt] at q0 q1 q2
          go_wp2_with fail
          clear q0 q1 q2 q3 q4 q5 q6
          refine (r_nt G.m0.m1 A2.out.ok _ _ _ _ A2.out.holds).mono ?_
          rintro e w3 ⟨k3, e3, rfl, hk, hrow, hb⟩
          obtain ⟨x3_0, x3_1, x3_2, x3_3, x3_4, x3_5, x3_6⟩ := (A2.out.next hb).box.all
          try dsimp only [GD.m0, GD.m1, GD.tn, GD.nt] at x3_0 x3_1 x3_2
          obtain ⟨hA, hR⟩ := A2.out.put hb (G' := G.m0.m1.nt) (d' := e3) hk hrow A2.out.ok.nt
          have A3 := Lib.hid (show AS w (((w3.setCell ⟨w.heap.size, 0, none⟩ (.int .i64 (G.W : Nat))).setCell ⟨w.heap.size, 1, none⟩ (.int .i64 (G.H : Nat))).setCell ⟨w.heap.size, 2, none⟩ (.slice (some ⟨k3, 0, none⟩) (G.W * G.H) e3)) w.heap.size (w.heap.size + 1) G.m0.m1.nt k3 0 e3 from hA)
          have R3 := Lib.hid (show Row (((w3.setCell ⟨w.heap.size, 0, none⟩ (.int .i64 (G.W : Nat))).setCell ⟨w.heap.size, 1, none⟩ (.int .i64 (G.H : Nat))).setCell ⟨w.heap.size, 2, none⟩ (.slice (some ⟨k3, 0, none⟩) (G.W * G.H) e3)) k3 (G.W * G.H) (G.m0.m1.nt).f from hR)
          have K3 := Lib.hid (Nat.le_trans A2.out.bel.size hk)
          clear hb hrow hA hR
          skip
          obtain ⟨q0, q1, q2, q3, q4, q5, q6⟩ := A3.out.box.all
          try dsimp only [GD.m0, GD.m1, GD.tn, GD.nt] at q0 q1 q2
          obtain ⟨p0, p1, p2, p3, p4, p5, p6⟩ := A3.out.res.all
          go_wp2_with fail
          clear q0 q1 q2 q3 q4 q5 q6 p0 p1 p2 p3 p4 p5 p6
          refine (r_tw G.m0.m1.nt A3.out.ok _ _ _ _ A3.out.holds).mono ?_
          rintro e w4 ⟨k4, e4, rfl, hk, hrow, hb⟩
          have A4 := Lib.hid (A3.out.next hb)
          have K4 := Lib.hid (Nat.le_trans A3.out.bel.size hk)
          have R4 := Lib.hid hrow
          have hne := A3.out.res.lt
          clear hb hrow
          obtain ⟨p0, p1, p2, p3, p4, p5, p6⟩ := A4.out.res.all
          go_wp2
          refine bodyPost_ret (v := .agg #[.int .i64 (G.W : Nat), .int .i64 (G.H : Nat), .slice (some ⟨k4, 0, none⟩) (G.W * G.H) e4]) (by simp [results, Try.results104, go_sem, p0, p1, p2, GD.m0, GD.m1, GD.tn, GD.nt]) rfl ?_
          exact okg_fin (G := G.m0.m1.nt) R4.out K4.out A4.out.r0 (by omega) A4.out.bel _ _ _
      · skip
        obtain ⟨q0, q1, q2, q3, q4, q5, q6⟩ := A2.out.box.all
        try dsimp only [GD.m0, GD.m1, GD.tn, GD.nt] at q0 q1 q2
        go_wp2_with fail
        clear q0 q1 q2 q3 q4 q5 q6
        refine (r_tn G.m0.m1 A2.out.ok _ _ _ _ A2.out.holds).mono ?_
        rintro e w3 ⟨k3, rfl, hk, hrow, hb⟩
        obtain ⟨x3_0, x3_1, x3_2, x3_3, x3_4, x3_5, x3_6⟩ := (A2.out.next hb).box.all
        try dsimp only [GD.m0, GD.m1, GD.tn, GD.nt] at x3_0 x3_1 x3_2
        obtain ⟨hA, hR⟩ := A2.out.put hb (G' := G.m0.m1.tn) (d' := (G.H * G.W)) hk hrow A2.out.ok.tn
        have A3 := Lib.hid (show AS w (((w3.setCell ⟨w.heap.size, 0, none⟩ (.int .i64 (G.H : Nat))).setCell ⟨w.heap.size, 1, none⟩ (.int .i64 (G.W : Nat))).setCell ⟨w.heap.size, 2, none⟩ (.slice (some ⟨k3, 0, none⟩) (G.H * G.W) (G.H * G.W))) w.heap.size (w.heap.size + 1) G.m0.m1.tn k3 0 (G.H * G.W) from hA)
        have R3 := Lib.hid (show Row (((w3.setCell ⟨w.heap.size, 0, none⟩ (.int .i64 (G.H : Nat))).setCell ⟨w.heap.size, 1, none⟩ (.int .i64 (G.W : Nat))).setCell ⟨w.heap.size, 2, none⟩ (.slice (some ⟨k3, 0, none⟩) (G.H * G.W) (G.H * G.W))) k3 (G.H * G.W) (G.m0.m1.tn).f from hR)
        have K3 := Lib.hid (Nat.le_trans A2.out.bel.size hk)
        clear hb hrow hA hR
        skip
        cases b8
        · skip
          obtain ⟨q0, q1, q2, q3, q4, q5, q6⟩ := A3.out.box.all
          try dsimp only [GD.m0, GD.m1, GD.tn, GD.nt] at q0 q1 q2
          obtain ⟨p0, p1, p2, p3, p4, p5, p6⟩ := A3.out.res.all
          go_wp2_with fail
          clear q0 q1 q2 q3 q4 q5 q6 p0 p1 p2 p3 p4 p5 p6
          refine (r_tw G.m0.m1.tn A3.out.ok _ _ _ _ A3.out.holds).mono ?_
          rintro e w4 ⟨k4, e4, rfl, hk, hrow, hb⟩
          have A4 := Lib.hid (A3.out.next hb)
          have K4 := Lib.hid (Nat.le_trans A3.out.bel.size hk)
          have R4 := Lib.hid hrow
          have hne := A3.out.res.lt
          clear hb hrow
          obtain ⟨p0, p1, p2, p3, p4, p5, p6⟩ := A4.out.res.all
          go_wp2
          refine bodyPost_ret (v := .agg #[.int .i64 (G.H : Nat), .int .i64 (G.W : Nat), .slice (some ⟨k4, 0, none⟩) (G.H * G.W) e4]) (by simp [results, Try.results104, go_sem, p0, p1, p2, GD.m0, GD.m1, GD.tn, GD.nt]) rfl ?_
          exact okg_fin (G := G.m0.m1.tn) R4.out K4.out A4.out.r0 (by omega) A4.out.bel _ _ _
        · skip
          obtain ⟨q0, q1, q2, q3, q4, q5, q6⟩ := A3.out.box.all
          try dsimp only [GD.m0, GD.m1, GD.tn, GD.nt] at q0 q1 q2
          go_wp2_with fail
          clear q0 q1 q2 q3 q4 q5 q6
          refine (r_nt G.m0.m1.tn A3.out.ok _ _ _ _ A3.out.holds).mono ?_
          rintro e w4 ⟨k4, e4, rfl, hk, hrow, hb⟩
          obtain ⟨x4_0, x4_1, x4_2, x4_3, x4_4, x4_5, x4_6⟩ := (A3.out.next hb).box.all
          try dsimp only [GD.m0, GD.m1, GD.tn, GD.nt] at x4_0 x4_1 x4_2
          obtain ⟨hA, hR⟩ := A3.out.put hb (G' := G.m0.m1.tn.nt) (d' := e4) hk hrow A3.out.ok.nt
          have A4 := Lib.hid (show AS w (((w4.setCell ⟨w.heap.size, 0, none⟩ (.int .i64 (G.H : Nat))).setCell ⟨w.heap.size, 1, none⟩ (.int .i64 (G.W : Nat))).setCell ⟨w.heap.size, 2, none⟩ (.slice (some ⟨k4, 0, none⟩) (G.H * G.W) e4)) w.heap.size (w.heap.size + 1) G.m0.m1.tn.nt k4 0 e4 from hA)
          have R4 := Lib.hid (show Row (((w4.setCell ⟨w.heap.size, 0, none⟩ (.int .i64 (G.H : Nat))).setCell ⟨w.heap.size, 1, none⟩ (.int .i64 (G.W : Nat))).setCell ⟨w.heap.size, 2, none⟩ (.slice (some ⟨k4, 0, none⟩) (G.H * G.W) e4)) k4 (G.H * G.W) (G.m0.m1.tn.nt).f from hR)
          have K4 := Lib.hid (Nat.le_trans A3.out.bel.size hk)
          clear hb hrow hA hR
          skip
          obtain ⟨q0, q1, q2, q3, q4, q5, q6⟩ := A4.out.box.all
          try dsimp only [GD.m0, GD.m1, GD.tn, GD.nt] at q0 q1 q2
          obtain ⟨p0, p1, p2, p3, p4, p5, p6⟩ := A4.out.res.all
          go_wp2_with fail
          clear q0 q1 q2 q3 q4 q5 q6 p0 p1 p2 p3 p4 p5 p6
          refine (r_tw G.m0.m1.tn.nt A4.out.ok _ _ _ _ A4.out.holds).mono ?_
          rintro e w5 ⟨k5, e5, rfl, hk, hrow, hb⟩
          have A5 := Lib.hid (A4.out.next hb)
          have K5 := Lib.hid (Nat.le_trans A4.out.bel.size hk)
          have R5 := Lib.hid hrow
          have hne := A4.out.res.lt
          clear hb hrow
          obtain ⟨p0, p1, p2, p3, p4, p5, p6⟩ := A5.out.res.all
          go_wp2
          refine bodyPost_ret (v := .agg #[.int .i64 (G.H : Nat), .int .i64 (G.W : Nat), .slice (some ⟨k5, 0, none⟩) (G.H * G.W) e5]) (by simp [results, Try.results104, go_sem, p0, p1, p2, GD.m0, GD.m1, GD.tn, GD.nt]) rfl ?_
          exact okg_fin (G := G.m0.m1.tn.nt) R5.out K5.out A5.out.r0 (by omega) A5.out.bel _ _ _
end Go.Proofs.Ytjbofdgdcnfmoaa

/- Both sides' Apply. -/
namespace Go.Proofs.Ytjbofdgdcnfmoaa
open Go.RowKit
set_option maxRecDepth 100000
set_option linter.unusedVariables false
set_option linter.unusedSimpArgs false

/-- A grid and an error came back. -/
def AOut (w : World) (G : GD) (err : Int) (e : Ending) (w' : World) : Prop := ∃ A d, e = .returned (.tuple #[.agg #[.int .i64 (G.W : Nat), .int .i64 (G.H : Nat), .slice A (G.W * G.H) d], .int .i64 err]) ∧ (0 < G.W * G.H → ∃ k, A = some ⟨k, 0, none⟩ ∧ w.heap.size ≤ k ∧ Row w' k (G.W * G.H) G.f) ∧ Below w.heap.size w w'
def gz : GD := ⟨0, 0, fun _ => false⟩
theorem aout_err {w v : World} {r : Nat} {err : Int} (hr : w.heap.size ≤ r) (hb : Below w.heap.size w v) (a b c : Value) :
    AOut w gz err (.returned (.tuple #[.agg #[.int .i64 0, .int .i64 0, .slice none 0 0], .int .i64 err])) (((v.setCell ⟨r, 0, none⟩ a).setCell ⟨r, 1, none⟩ b).setCell ⟨r, 2, none⟩ c) :=
  ⟨none, 0, rfl, fun h => absurd h (by decide), ((hb.setCell hr _).setCell hr _).setCell hr _⟩
theorem aout_ok {w v : World} {r k d : Nat} {G : GD} (h : Row v k (G.W * G.H) G.f) (hk : w.heap.size ≤ k) (hr : w.heap.size ≤ r) (hne : k ≠ r) (hb : Below w.heap.size w v) (a b c : Value) :
    AOut w G 0 (.returned (.tuple #[.agg #[.int .i64 (G.W : Nat), .int .i64 (G.H : Nat), .slice (some ⟨k, 0, none⟩) (G.W * G.H) d], .int .i64 0])) (((v.setCell ⟨r, 0, none⟩ a).setCell ⟨r, 1, none⟩ b).setCell ⟨r, 2, none⟩ c) :=
  ⟨_, d, rfl, fun _ => ⟨k, rfl, hk, ((h.far (by simp; omega) _).far (by simp; omega) _).far (by simp; omega) _⟩, ((hb.setCell hr _).setCell hr _).setCell hr _⟩
theorem boxes3 (w : World) (W H : Int) (v : Value) :
    Box (((w.alloc (.cells #[.int .i64 W, .int .i64 H, v] 24)).alloc (.cells #[.int .i64 0, .int .i64 0, .slice none 0 0] 24)).alloc (.cells #[.int .i64 W, .int .i64 H, v] 24)) w.heap.size W H v ∧ Box (((w.alloc (.cells #[.int .i64 W, .int .i64 H, v] 24)).alloc (.cells #[.int .i64 0, .int .i64 0, .slice none 0 0] 24)).alloc (.cells #[.int .i64 W, .int .i64 H, v] 24)) (w.heap.size + 1) 0 0 (.slice none 0 0) ∧
    Box (((w.alloc (.cells #[.int .i64 W, .int .i64 H, v] 24)).alloc (.cells #[.int .i64 0, .int .i64 0, .slice none 0 0] 24)).alloc (.cells #[.int .i64 W, .int .i64 H, v] 24)) (w.heap.size + 1 + 1) W H v ∧ Below w.heap.size w (((w.alloc (.cells #[.int .i64 W, .int .i64 H, v] 24)).alloc (.cells #[.int .i64 0, .int .i64 0, .slice none 0 0] 24)).alloc (.cells #[.int .i64 W, .int .i64 H, v] 24)) := by
  obtain ⟨h1, h2, h3⟩ := boxes2 w W H 0 0 v (.slice none 0 0)
  have h4 := Box.new ((w.alloc (.cells #[.int .i64 W, .int .i64 H, v] 24)).alloc (.cells #[.int .i64 0, .int .i64 0, .slice none 0 0] 24)) W H v
  simp only [World.size_alloc] at h4
  exact ⟨h1.alloc _, h2.alloc _, h4, h3.alloc (by simp; omega) _⟩
set_option maxHeartbeats 1600000 in
theorem papply_err (W H : Int) (A : Option Addr) (n c : Nat) (v : Int) (w : World) (hn : n ≤ 4200) (z : Int) (hx : schk W H n = z) (hne : (z != 0) = true) :
    Calls Try.prog 47 #[.agg #[.int .i64 W, .int .i64 H, .slice A n c], .int .i64 v] w (AOut w gz z) := by
  obtain ⟨h1, h2, h3, h4⟩ := boxes3 w W H (.slice A n c)
  have HC := Lib.hid (fun (u : World) (kk : Nat) (hb : Box u kk W H (.slice A n c)) => (show Calls Try.prog 92 #[.slice (some ⟨kk, 0, none⟩) 1 1] u fun e w' => e = .returned (.int .i64 z) ∧ Below u.heap.size u w' by have := check1_any W H A n c kk u hn hb; rw [hx] at this; exact this))
  have X0 := Lib.hid h1
  have Y0 := Lib.hid h2
  have B0 := Lib.hid h3
  have LB0 := Lib.hid h4
  clear h1 h2 h3 h4 hx
  go_enter Try.func47, Try.ntmps47
  obtain ⟨q0, q1, q2, q3, q4, q5, q6⟩ := (boxes2 w W H 0 0 (.slice A n c) (.slice none 0 0)).1.all
  go_wp2_with fail
  clear q0 q1 q2 q3 q4 q5 q6
  refine (HC.out _ _ B0.out).mono ?_
  rintro e w1 ⟨rfl, hb⟩
  have LB1 := Lib.hid (LB0.out.trans (hb.mono LB0.out.size))
  have X1 := Lib.hid (X0.out.below hb X0.out.lt)
  have Y1 := Lib.hid (Y0.out.below hb Y0.out.lt)
  have hsz := hb.size
  simp at hsz
  clear hb
  obtain ⟨p0, p1, p2, p3, p4, p5, p6⟩ := Y1.out.all
  go_wp2
  refine bodyPost_ret (v := .tuple #[.agg #[.int .i64 0, .int .i64 0, .slice none 0 0], .int .i64 z]) (by simp [results, Try.results47, go_sem, p0, p1, p2]) rfl ?_
  exact aout_err (by omega) LB1.out _ _ _
set_option maxHeartbeats 1600000 in
theorem rapply_err (W H : Int) (A : Option Addr) (n c : Nat) (v : Int) (w : World) (hn : n ≤ 4200) (z : Int) (hx : schk W H n = z) (hne : (z != 0) = true) :
    Calls Try.prog 58 #[.agg #[.int .i64 W, .int .i64 H, .slice A n c], .int .i64 v] w (AOut w gz z) := by
  obtain ⟨h1, h2, h4⟩ := boxes2 w W H 0 0 (.slice A n c) (.slice none 0 0)
  have HC := Lib.hid (fun (u : World) => (show Calls Try.prog 103 #[.agg #[.int .i64 W, .int .i64 H, .slice A n c]] u fun e w' => e = .returned (.int .i64 z) ∧ Below u.heap.size u w' by have := start_any W H A n c u hn; rw [hx] at this; exact this))
  have X0 := Lib.hid h1
  have Y0 := Lib.hid h2
  have LB0 := Lib.hid h4
  clear h1 h2 h4 hx
  go_enter Try.func58, Try.ntmps58
  obtain ⟨q0, q1, q2, q3, q4, q5, q6⟩ := X0.out.all
  go_wp2_with fail
  clear q0 q1 q2 q3 q4 q5 q6
  refine (HC.out _).mono ?_
  rintro e w1 ⟨rfl, hb⟩
  have LB1 := Lib.hid (LB0.out.trans (hb.mono LB0.out.size))
  have X1 := Lib.hid (X0.out.below hb X0.out.lt)
  have Y1 := Lib.hid (Y0.out.below hb Y0.out.lt)
  have hsz := hb.size
  simp at hsz
  clear hb
  obtain ⟨q0, q1, q2, q3, q4, q5, q6⟩ := X1.out.all
  go_wp2_with fail
  clear q0 q1 q2 q3 q4 q5 q6
  refine (HC.out _).mono ?_
  rintro e w2 ⟨rfl, hb⟩
  have LB2 := Lib.hid (LB1.out.trans (hb.mono LB1.out.size))
  have Y2 := Lib.hid (Y1.out.below hb Y1.out.lt)
  have hs2 := hb.size
  clear hb
  obtain ⟨p0, p1, p2, p3, p4, p5, p6⟩ := Y2.out.all
  go_wp2
  refine bodyPost_ret (v := .tuple #[.agg #[.int .i64 0, .int .i64 0, .slice none 0 0], .int .i64 z]) (by simp [results, Try.results58, go_sem, p0, p1, p2]) rfl ?_
  exact aout_err (by omega) LB2.out _ _ _
set_option maxHeartbeats 1600000 in
theorem papply_arg (W H : Int) (A : Option Addr) (n c : Nat) (v : Int) (w : World) (hn : n ≤ 4200) (hx : schk W H n = 0) (hv : ¬ (0 ≤ v ∧ v < 16)) :
    Calls Try.prog 47 #[.agg #[.int .i64 W, .int .i64 H, .slice A n c], .int .i64 v] w (AOut w gz 2) := by
  obtain ⟨h1, h2, h3, h4⟩ := boxes3 w W H (.slice A n c)
  have HC := Lib.hid (fun (u : World) (kk : Nat) (hb : Box u kk W H (.slice A n c)) => (show Calls Try.prog 92 #[.slice (some ⟨kk, 0, none⟩) 1 1] u fun e w' => e = .returned (.int .i64 0) ∧ Below u.heap.size u w' by have := check1_any W H A n c kk u hn hb; rw [hx] at this; exact this))
  have X0 := Lib.hid h1
  have Y0 := Lib.hid h2
  have B0 := Lib.hid h3
  have LB0 := Lib.hid h4
  have hd : decide (0 ≤ v ∧ v < 16) = false := by rw [decide_eq_false_iff_not]; exact hv
  have HI := Lib.hid (fun u => (show Calls Try.prog 93 #[.int .i64 v] u fun e w' => e = .returned (.bool false) ∧ w' = u by have := isop_any v u; rw [hd] at this; exact this))
  clear hd hv
  clear h1 h2 h3 h4 hx
  go_enter Try.func47, Try.ntmps47
  obtain ⟨q0, q1, q2, q3, q4, q5, q6⟩ := (boxes2 w W H 0 0 (.slice A n c) (.slice none 0 0)).1.all
  go_wp2_with fail
  clear q0 q1 q2 q3 q4 q5 q6
  refine (HC.out _ _ B0.out).mono ?_
  rintro e w1 ⟨rfl, hb⟩
  have LB1 := Lib.hid (LB0.out.trans (hb.mono LB0.out.size))
  have X1 := Lib.hid (X0.out.below hb X0.out.lt)
  have Y1 := Lib.hid (Y0.out.below hb Y0.out.lt)
  have hsz := hb.size
  simp at hsz
  clear hb
  go_wp2_with fail
  refine (HI.out _).mono ?_
  rintro e w2 ⟨rfl, hww⟩
  subst w2
  obtain ⟨p0, p1, p2, p3, p4, p5, p6⟩ := Y1.out.all
  go_wp2
  refine bodyPost_ret (v := .tuple #[.agg #[.int .i64 0, .int .i64 0, .slice none 0 0], .int .i64 2]) (by simp [results, Try.results47, go_sem, p0, p1, p2]) rfl ?_
  exact aout_err (by omega) LB1.out _ _ _
set_option maxHeartbeats 1600000 in
theorem rapply_arg (W H : Int) (A : Option Addr) (n c : Nat) (v : Int) (w : World) (hn : n ≤ 4200) (hx : schk W H n = 0) (hv : ¬ (0 ≤ v ∧ v < 16)) :
    Calls Try.prog 58 #[.agg #[.int .i64 W, .int .i64 H, .slice A n c], .int .i64 v] w (AOut w gz 2) := by
  obtain ⟨h1, h2, h4⟩ := boxes2 w W H 0 0 (.slice A n c) (.slice none 0 0)
  have HC := Lib.hid (fun (u : World) => (show Calls Try.prog 103 #[.agg #[.int .i64 W, .int .i64 H, .slice A n c]] u fun e w' => e = .returned (.int .i64 0) ∧ Below u.heap.size u w' by have := start_any W H A n c u hn; rw [hx] at this; exact this))
  have X0 := Lib.hid h1
  have Y0 := Lib.hid h2
  have LB0 := Lib.hid h4
  have hd : decide (0 ≤ v ∧ v < 16) = false := by rw [decide_eq_false_iff_not]; exact hv
  have HI := Lib.hid (fun u => (show Calls Try.prog 67 #[.int .i64 v] u fun e w' => e = .returned (.bool false) ∧ w' = u by have := ris_any v u; rw [hd] at this; exact this))
  clear hd hv
  clear h1 h2 h4 hx
  go_enter Try.func58, Try.ntmps58
  obtain ⟨q0, q1, q2, q3, q4, q5, q6⟩ := X0.out.all
  go_wp2_with fail
  clear q0 q1 q2 q3 q4 q5 q6
  refine (HC.out _).mono ?_
  rintro e w1 ⟨rfl, hb⟩
  have LB1 := Lib.hid (LB0.out.trans (hb.mono LB0.out.size))
  have X1 := Lib.hid (X0.out.below hb X0.out.lt)
  have Y1 := Lib.hid (Y0.out.below hb Y0.out.lt)
  have hsz := hb.size
  simp at hsz
  clear hb
  obtain ⟨q0, q1, q2, q3, q4, q5, q6⟩ := X1.out.all
  go_wp2_with fail
  clear q0 q1 q2 q3 q4 q5 q6
  refine (HI.out _).mono ?_
  rintro e w2 ⟨rfl, hww⟩
  subst w2
  obtain ⟨p0, p1, p2, p3, p4, p5, p6⟩ := Y1.out.all
  go_wp2
  refine bodyPost_ret (v := .tuple #[.agg #[.int .i64 0, .int .i64 0, .slice none 0 0], .int .i64 2]) (by simp [results, Try.results58, go_sem, p0, p1, p2]) rfl ?_
  exact aout_err (by omega) LB1.out _ _ _
set_option maxHeartbeats 1600000 in
theorem papply_ok (G : GD) (ok : G.Ok) (b o d : Nat) (v : Int) (b1 b2 b4 b8 : Bool) (g1 : (bits BinOp.and IntKind.i64 v 1 != 0) = b1) (g2 : (bits BinOp.and IntKind.i64 v 2 != 0) = b2) (g4 : (bits BinOp.and IntKind.i64 v 4 != 0) = b4) (g8 : (bits BinOp.and IntKind.i64 v 8 != 0) = b8) (w : World) (hr : Holds w w.heap.size (some ⟨b, o, none⟩) (G.W * G.H) G.f) (hx : schk G.W G.H (G.W * G.H) = 0) (hv : 0 ≤ v ∧ v < 16) :
    Calls Try.prog 47 #[.agg #[.int .i64 (G.W : Nat), .int .i64 (G.H : Nat), .slice (some ⟨b, o, none⟩) (G.W * G.H) d], .int .i64 v] w (AOut w (G.apb b1 b2 b4 b8) 0) := by
  obtain ⟨h1, h2, h3, h4⟩ := boxes3 w (G.W : Nat) (G.H : Nat) (.slice (some ⟨b, o, none⟩) (G.W * G.H) d)
  have HC := Lib.hid (fun (u : World) (kk : Nat) (hb : Box u kk (G.W : Nat) (G.H : Nat) (.slice (some ⟨b, o, none⟩) (G.W * G.H) d)) => (show Calls Try.prog 92 #[.slice (some ⟨kk, 0, none⟩) 1 1] u fun e w' => e = .returned (.int .i64 0) ∧ Below u.heap.size u w' by have := check1_any (G.W : Nat) (G.H : Nat) (some ⟨b, o, none⟩) (G.W * G.H) d kk u (by have := Nat.mul_le_mul ok.w1 ok.h1; omega) hb; rw [hx] at this; exact this))
  have X0 := Lib.hid h1
  have Y0 := Lib.hid h2
  have B0 := Lib.hid h3
  have LB0 := Lib.hid h4
  have hd : decide (0 ≤ v ∧ v < 16) = true := by rw [decide_eq_true_iff]; exact hv
  have HA := Lib.hid (fun (u : World) (h : Below w.heap.size w u) => apply_any G ok b o d v b1 b2 b4 b8 g1 g2 g4 g8 u ((hr.below h).more h.size))
  clear g1 g2 g4 g8 hr ok
  have HI := Lib.hid (fun u => (show Calls Try.prog 93 #[.int .i64 v] u fun e w' => e = .returned (.bool true) ∧ w' = u by have := isop_any v u; rw [hd] at this; exact this))
  clear hd hv
  clear h1 h2 h3 h4 hx
  go_enter Try.func47, Try.ntmps47
  obtain ⟨q0, q1, q2, q3, q4, q5, q6⟩ := (boxes2 w (G.W : Nat) (G.H : Nat) 0 0 (.slice (some ⟨b, o, none⟩) (G.W * G.H) d) (.slice none 0 0)).1.all
  go_wp2_with fail
  clear q0 q1 q2 q3 q4 q5 q6
  refine (HC.out _ _ B0.out).mono ?_
  rintro e w1 ⟨rfl, hb⟩
  have LB1 := Lib.hid (LB0.out.trans (hb.mono LB0.out.size))
  have X1 := Lib.hid (X0.out.below hb X0.out.lt)
  have Y1 := Lib.hid (Y0.out.below hb Y0.out.lt)
  have hsz := hb.size
  simp at hsz
  clear hb
  go_wp2_with fail
  refine (HI.out _).mono ?_
  rintro e w2 ⟨rfl, hww⟩
  subst w2
  obtain ⟨q0, q1, q2, q3, q4, q5, q6⟩ := X1.out.all
  go_wp2_with fail
  clear q0 q1 q2 q3 q4 q5 q6
  refine (HA.out _ LB1.out).mono ?_
  rintro e w3 ⟨k, d', rfl, hk, hrow, hb⟩
  have LB3 := Lib.hid (LB1.out.trans (hb.mono LB1.out.size))
  have Y3 := Lib.hid (Y1.out.below hb Y1.out.lt)
  have R3 := Lib.hid hrow
  clear hb hrow
  generalize G.apb b1 b2 b4 b8 = G2 at *
  obtain ⟨p0, p1, p2, p3, p4, p5, p6⟩ := Y3.out.all
  go_wp2
  refine bodyPost_ret (v := .tuple #[.agg #[.int .i64 (G2.W : Nat), .int .i64 (G2.H : Nat), .slice (some ⟨k, 0, none⟩) (G2.W * G2.H) d'], .int .i64 0]) (by simp [results, Try.results47, go_sem, p0, p1, p2]) rfl ?_
  exact aout_ok R3.out (by omega) (by omega) (by omega) LB3.out _ _ _
set_option maxHeartbeats 1600000 in
theorem rapply_ok (G : GD) (ok : G.Ok) (b o d : Nat) (v : Int) (b1 b2 b4 b8 : Bool) (g1 : (bits BinOp.and IntKind.i64 v 1 != 0) = b1) (g2 : (bits BinOp.and IntKind.i64 v 2 != 0) = b2) (g4 : (bits BinOp.and IntKind.i64 v 4 != 0) = b4) (g8 : (bits BinOp.and IntKind.i64 v 8 != 0) = b8) (w : World) (hr : Holds w w.heap.size (some ⟨b, o, none⟩) (G.W * G.H) G.f) (hx : schk G.W G.H (G.W * G.H) = 0) (hv : 0 ≤ v ∧ v < 16) :
    Calls Try.prog 58 #[.agg #[.int .i64 (G.W : Nat), .int .i64 (G.H : Nat), .slice (some ⟨b, o, none⟩) (G.W * G.H) d], .int .i64 v] w (AOut w (G.apb b1 b2 b4 b8) 0) := by
  obtain ⟨h1, h2, h4⟩ := boxes2 w (G.W : Nat) (G.H : Nat) 0 0 (.slice (some ⟨b, o, none⟩) (G.W * G.H) d) (.slice none 0 0)
  have HC := Lib.hid (fun (u : World) => (show Calls Try.prog 103 #[.agg #[.int .i64 (G.W : Nat), .int .i64 (G.H : Nat), .slice (some ⟨b, o, none⟩) (G.W * G.H) d]] u fun e w' => e = .returned (.int .i64 0) ∧ Below u.heap.size u w' by have := start_any (G.W : Nat) (G.H : Nat) (some ⟨b, o, none⟩) (G.W * G.H) d u (by have := Nat.mul_le_mul ok.w1 ok.h1; omega); rw [hx] at this; exact this))
  have X0 := Lib.hid h1
  have Y0 := Lib.hid h2
  have LB0 := Lib.hid h4
  have hd : decide (0 ≤ v ∧ v < 16) = true := by rw [decide_eq_true_iff]; exact hv
  have HA := Lib.hid (fun (u : World) (h : Below w.heap.size w u) => applied_any G ok b o d v b1 b2 b4 b8 g1 g2 g4 g8 u ((hr.below h).more h.size))
  clear g1 g2 g4 g8 hr ok
  have HI := Lib.hid (fun u => (show Calls Try.prog 67 #[.int .i64 v] u fun e w' => e = .returned (.bool true) ∧ w' = u by have := ris_any v u; rw [hd] at this; exact this))
  clear hd hv
  clear h1 h2 h4 hx
  go_enter Try.func58, Try.ntmps58
  obtain ⟨q0, q1, q2, q3, q4, q5, q6⟩ := X0.out.all
  go_wp2_with fail
  clear q0 q1 q2 q3 q4 q5 q6
  refine (HC.out _).mono ?_
  rintro e w1 ⟨rfl, hb⟩
  have LB1 := Lib.hid (LB0.out.trans (hb.mono LB0.out.size))
  have X1 := Lib.hid (X0.out.below hb X0.out.lt)
  have Y1 := Lib.hid (Y0.out.below hb Y0.out.lt)
  have hsz := hb.size
  simp at hsz
  clear hb
  obtain ⟨q0, q1, q2, q3, q4, q5, q6⟩ := X1.out.all
  go_wp2_with fail
  clear q0 q1 q2 q3 q4 q5 q6
  refine (HI.out _).mono ?_
  rintro e w2 ⟨rfl, hww⟩
  subst w2
  obtain ⟨q0, q1, q2, q3, q4, q5, q6⟩ := X1.out.all
  go_wp2_with fail
  clear q0 q1 q2 q3 q4 q5 q6
  refine (HA.out _ LB1.out).mono ?_
  rintro e w3 ⟨k, d', rfl, hk, hrow, hb⟩
  have LB3 := Lib.hid (LB1.out.trans (hb.mono LB1.out.size))
  have Y3 := Lib.hid (Y1.out.below hb Y1.out.lt)
  have R3 := Lib.hid hrow
  clear hb hrow
  generalize G.apb b1 b2 b4 b8 = G2 at *
  obtain ⟨p0, p1, p2, p3, p4, p5, p6⟩ := Y3.out.all
  go_wp2
  refine bodyPost_ret (v := .tuple #[.agg #[.int .i64 (G2.W : Nat), .int .i64 (G2.H : Nat), .slice (some ⟨k, 0, none⟩) (G2.W * G2.H) d'], .int .i64 0]) (by simp [results, Try.results58, go_sem, p0, p1, p2]) rfl ?_
  exact aout_ok R3.out (by omega) (by omega) (by omega) LB3.out _ _ _
theorem GD.apb_le {G : GD} (ok : G.Ok) (b1 b2 b4 b8 : Bool) : (G.apb b1 b2 b4 b8).W * (G.apb b1 b2 b4 b8).H ≤ 4096 := Nat.mul_le_mul (ok.apb b1 b2 b4 b8).w1 (ok.apb b1 b2 b4 b8).h1
/-- Both Applies hand back the same. -/
theorem ap_two (W H : Int) (A : Option Addr) (n c : Nat) (f : Nat → Bool) (v : Int) (w0 : World) (h0 : Holds w0 w0.heap.size A n f) (hn : n ≤ 4200) : ∃ (G : GD) (z : Int), G.W * G.H ≤ 4200 ∧
    ∀ w, Holds w w.heap.size A n f → Calls Try.prog 47 #[.agg #[.int .i64 W, .int .i64 H, .slice A n c], .int .i64 v] w (AOut w G z) ∧ Calls Try.prog 58 #[.agg #[.int .i64 W, .int .i64 H, .slice A n c], .int .i64 v] w (AOut w G z) := by
  by_cases hx : schk W H n = 0
  · by_cases hv : 0 ≤ v ∧ v < 16
    · obtain ⟨a1, a2, a3⟩ := schk_ok hx
      obtain ⟨b1, b2, b3, b4, b5⟩ := chk_ok a1
      obtain ⟨W', rfl⟩ : ∃ W' : Nat, W = W' := ⟨W.toNat, (Int.toNat_of_nonneg (by omega)).symm⟩
      obtain ⟨H', rfl⟩ : ∃ H' : Nat, H = H' := ⟨H.toNat, (Int.toNat_of_nonneg (by omega)).symm⟩
      obtain rfl : n = W' * H' := by exact_mod_cast b5
      have ok : (⟨W', H', f⟩ : GD).Ok := ⟨by show 1 ≤ W'; omega, by show W' ≤ 64; omega, by show 1 ≤ H'; omega, by show H' ≤ 64; omega⟩
      obtain ⟨b, o, rfl, _, _⟩ := h0 (Nat.mul_pos ok.w0 ok.h0)
      exact ⟨_, 0, Nat.le_trans (GD.apb_le ok _ _ _ _) (by omega), fun w hr => ⟨papply_ok ⟨W', H', f⟩ ok b o c v _ _ _ _ rfl rfl rfl rfl w hr hx hv, rapply_ok ⟨W', H', f⟩ ok b o c v _ _ _ _ rfl rfl rfl rfl w hr hx hv⟩⟩
    · exact ⟨gz, 2, by decide, fun w hr => ⟨papply_arg W H A n c v w hn hx hv, rapply_arg W H A n c v w hn hx hv⟩⟩
  · exact ⟨gz, _, by decide, fun w hr => ⟨papply_err W H A n c v w hn _ rfl (by simpa using hx), rapply_err W H A n c v w hn _ rfl (by simpa using hx)⟩⟩
end Go.Proofs.Ytjbofdgdcnfmoaa
