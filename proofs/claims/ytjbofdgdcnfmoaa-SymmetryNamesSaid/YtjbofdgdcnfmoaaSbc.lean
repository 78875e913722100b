/- The program's apply: its result has room for its cells. -/
import Derived.Test.YtjbofdgdcnfmoaaSb
import Derived.Test.YtjbofdgdcnfmoaaSyf
namespace Go.Proofs.Ytjbofdgdcnfmoaa
open Go.RowKit
set_option maxRecDepth 100000
set_option linter.unusedVariables false
set_option linter.unusedSimpArgs false

/-- A grid came back, in a row of the call's own, with room for its cells. -/
def OkC (w : World) (G : GD) (e : Ending) (w' : World) : Prop := ∃ k d, e = .returned (.agg #[.int .i64 (G.W : Nat), .int .i64 (G.H : Nat), .slice (some ⟨k, 0, none⟩) (G.W * G.H) d]) ∧ G.W * G.H ≤ d ∧ w.heap.size ≤ k ∧ Row w' k (G.W * G.H) G.f ∧ Below w.heap.size w w'
theorem okc_fin {w v : World} {r k d : Nat} {G : GD} (hd : G.W * G.H ≤ d) (h : Row v k (G.W * G.H) G.f) (hk : w.heap.size ≤ k) (hr : w.heap.size ≤ r) (hne : k ≠ r) (hb : Below w.heap.size w v) (a b c : Value) :
    OkC w G (.returned (.agg #[.int .i64 (G.W : Nat), .int .i64 (G.H : Nat), .slice (some ⟨k, 0, none⟩) (G.W * G.H) d])) (((v.setCell ⟨r, 0, none⟩ a).setCell ⟨r, 1, none⟩ b).setCell ⟨r, 2, none⟩ c) :=
  ⟨k, d, rfl, hd, hk, ((h.far (by simp; omega) _).far (by simp; omega) _).far (by simp; omega) _, ((hb.setCell hr _).setCell hr _).setCell hr _⟩
set_option maxHeartbeats 6400000 in
theorem apply_anyc (G : GD) (ok : G.Ok) (b o d : Nat) (v : Int) (b1 b2 b4 b8 : Bool) (h1 : (bits BinOp.and IntKind.i64 v 1 != 0) = b1) (h2 : (bits BinOp.and IntKind.i64 v 2 != 0) = b2) (h4 : (bits BinOp.and IntKind.i64 v 4 != 0) = b4) (h8 : (bits BinOp.and IntKind.i64 v 8 != 0) = b8)
    (w : World) (hr : Holds w w.heap.size (some ⟨b, o, none⟩) (G.W * G.H) G.f) :
    Calls Try.prog 94 #[.agg #[.int .i64 (G.W : Nat), .int .i64 (G.H : Nat), .slice (some ⟨b, o, none⟩) (G.W * G.H) d], .int .i64 v] w (OkC w (G.apb b1 b2 b4 b8)) := by
  have A0 := Lib.hid (as_new w G b o d ok hr)
  have K := Lib.hid (Nat.le_refl w.heap.size)
  have hnn : G.W * G.H ≤ 4096 := Nat.mul_le_mul ok.w1 ok.h1
  have hn0 : 0 < G.W * G.H := Nat.mul_pos ok.w0 ok.h0
  have OK := Lib.hid ok
  clear hr ok
  go_enter Try.func94, Try.ntmps94
  obtain ⟨q0, q1, q2, q3, q4, q5, q6⟩ := A0.out.box.all
  go_wp2_with fail
  clear q0 q1 q2 q3 q4 q5 q6
  refine (clone_any b o (G.W * G.H) d G.f _ hn0 (by omega) A0.out.holds).mono ?_
  rintro e w1 ⟨k1, d1, rfl, hd1, hk, hrow, hb⟩
  obtain ⟨hA, hR⟩ := A0.out.put2 hb (d' := d1) hk hrow
  have A1 := Lib.hid hA
  have R1 := Lib.hid hR
  have K1 := Lib.hid (Nat.le_trans A0.out.bel.size hk)
  obtain ⟨x1_0, x1_1, x1_2, x1_3, x1_4, x1_5, x1_6⟩ := (A0.out.next hb).box.all
  clear hb hrow hA hR
  cases b1
  · skip
    cases b2
    · skip
      cases b4
      · skip
        cases b8
        · skip
          obtain ⟨q0, q1, q2, q3, q4, q5, q6⟩ := A1.out.box.all
          try dsimp only [GD.m0, GD.m1, GD.tn, GD.nt] at q0 q1 q2
          obtain ⟨p0, p1, p2, p3, p4, p5, p6⟩ := A1.out.res.all
          go_wp2
          refine bodyPost_ret (v := .agg #[.int .i64 (G.W : Nat), .int .i64 (G.H : Nat), .slice (some ⟨k1, 0, none⟩) (G.W * G.H) d1]) (by simp [results, Try.results94, go_sem, p0, p1, p2, GD.m0, GD.m1, GD.tn, GD.nt]) rfl ?_
          exact okc_fin (by first | exact hd1 | exact Nat.le_refl _) (G := G) R1.out (Nat.le_trans K.out K1.out) A1.out.r0 A1.out.br A1.out.bel _ _ _
        · skip
          obtain ⟨q0, q1, q2, q3, q4, q5, q6⟩ := A1.out.box.all
          try dsimp only [GD.m0, GD.m1, GD.tn, GD.nt] at q0 q1 q2
          go_wp2_with fail
          clear q0 q1 q2 q3 q4 q5 q6
          refine (show Calls Try.prog _ _ _ (OkGrid _ G.W G.H (G.nt).f) from p_nt G A1.out.ok _ _ _ _ A1.out.holds).mono ?_
          rintro e w2 ⟨k2, rfl, hk, hrow, hb⟩
          obtain ⟨x2_0, x2_1, x2_2, x2_3, x2_4, x2_5, x2_6⟩ := (A1.out.next hb).box.all
          try dsimp only [GD.m0, GD.m1, GD.tn, GD.nt] at x2_0 x2_1 x2_2
          obtain ⟨hA, hR⟩ := A1.out.put hb (G' := G.nt) (d' := (G.W * G.H)) hk hrow A1.out.ok.nt
          have A2 := Lib.hid (show AS w (((w2.setCell ⟨w.heap.size, 0, none⟩ (.int .i64 (G.W : Nat))).setCell ⟨w.heap.size, 1, none⟩ (.int .i64 (G.H : Nat))).setCell ⟨w.heap.size, 2, none⟩ (.slice (some ⟨k2, 0, none⟩) (G.W * G.H) (G.W * G.H))) w.heap.size (w.heap.size + 1) G.nt k2 0 (G.W * G.H) from hA)
          have R2 := Lib.hid (show Row (((w2.setCell ⟨w.heap.size, 0, none⟩ (.int .i64 (G.W : Nat))).setCell ⟨w.heap.size, 1, none⟩ (.int .i64 (G.H : Nat))).setCell ⟨w.heap.size, 2, none⟩ (.slice (some ⟨k2, 0, none⟩) (G.W * G.H) (G.W * G.H))) k2 (G.W * G.H) (G.nt).f from hR)
          have K2 := Lib.hid (Nat.le_trans A1.out.bel.size hk)
          clear hb hrow hA hR
          skip
          obtain ⟨q0, q1, q2, q3, q4, q5, q6⟩ := A2.out.box.all
          try dsimp only [GD.m0, GD.m1, GD.tn, GD.nt] at q0 q1 q2
          obtain ⟨p0, p1, p2, p3, p4, p5, p6⟩ := A2.out.res.all
          go_wp2
          refine bodyPost_ret (v := .agg #[.int .i64 (G.W : Nat), .int .i64 (G.H : Nat), .slice (some ⟨k2, 0, none⟩) (G.W * G.H) (G.W * G.H)]) (by simp [results, Try.results94, go_sem, p0, p1, p2, GD.m0, GD.m1, GD.tn, GD.nt]) rfl ?_
          exact okc_fin (by first | exact hd1 | exact Nat.le_refl _) (G := G.nt) R2.out (Nat.le_trans K.out K2.out) A2.out.r0 A2.out.br A2.out.bel _ _ _
      · skip
        obtain ⟨q0, q1, q2, q3, q4, q5, q6⟩ := A1.out.box.all
        try dsimp only [GD.m0, GD.m1, GD.tn, GD.nt] at q0 q1 q2
        go_wp2_with fail
        clear q0 q1 q2 q3 q4 q5 q6
        refine (show Calls Try.prog _ _ _ (OkGrid _ G.H G.W (G.tn).f) from p_tn G A1.out.ok _ _ _ _ A1.out.holds).mono ?_
        rintro e w2 ⟨k2, rfl, hk, hrow, hb⟩
        obtain ⟨x2_0, x2_1, x2_2, x2_3, x2_4, x2_5, x2_6⟩ := (A1.out.next hb).box.all
        try dsimp only [GD.m0, GD.m1, GD.tn, GD.nt] at x2_0 x2_1 x2_2
        obtain ⟨hA, hR⟩ := A1.out.put hb (G' := G.tn) (d' := (G.H * G.W)) hk hrow A1.out.ok.tn
        have A2 := Lib.hid (show AS w (((w2.setCell ⟨w.heap.size, 0, none⟩ (.int .i64 (G.H : Nat))).setCell ⟨w.heap.size, 1, none⟩ (.int .i64 (G.W : Nat))).setCell ⟨w.heap.size, 2, none⟩ (.slice (some ⟨k2, 0, none⟩) (G.H * G.W) (G.H * G.W))) w.heap.size (w.heap.size + 1) G.tn k2 0 (G.H * G.W) from hA)
        have R2 := Lib.hid (show Row (((w2.setCell ⟨w.heap.size, 0, none⟩ (.int .i64 (G.H : Nat))).setCell ⟨w.heap.size, 1, none⟩ (.int .i64 (G.W : Nat))).setCell ⟨w.heap.size, 2, none⟩ (.slice (some ⟨k2, 0, none⟩) (G.H * G.W) (G.H * G.W))) k2 (G.H * G.W) (G.tn).f from hR)
        have K2 := Lib.hid (Nat.le_trans A1.out.bel.size hk)
        clear hb hrow hA hR
        skip
        cases b8
        · skip
          obtain ⟨q0, q1, q2, q3, q4, q5, q6⟩ := A2.out.box.all
          try dsimp only [GD.m0, GD.m1, GD.tn, GD.nt] at q0 q1 q2
          obtain ⟨p0, p1, p2, p3, p4, p5, p6⟩ := A2.out.res.all
          go_wp2
          refine bodyPost_ret (v := .agg #[.int .i64 (G.H : Nat), .int .i64 (G.W : Nat), .slice (some ⟨k2, 0, none⟩) (G.H * G.W) (G.H * G.W)]) (by simp [results, Try.results94, go_sem, p0, p1, p2, GD.m0, GD.m1, GD.tn, GD.nt]) rfl ?_
          exact okc_fin (by first | exact hd1 | exact Nat.le_refl _) (G := G.tn) R2.out (Nat.le_trans K.out K2.out) A2.out.r0 A2.out.br A2.out.bel _ _ _
        · skip
          obtain ⟨q0, q1, q2, q3, q4, q5, q6⟩ := A2.out.box.all
          try dsimp only [GD.m0, GD.m1, GD.tn, GD.nt] at q0 q1 q2
          go_wp2_with fail
          clear q0 q1 q2 q3 q4 q5 q6
          refine (show Calls Try.prog _ _ _ (OkGrid _ G.H G.W (G.tn.nt).f) from p_nt G.tn A2.out.ok _ _ _ _ A2.out.holds).mono ?_
          rintro e w3 ⟨k3, rfl, hk, hrow, hb⟩
          obtain ⟨x3_0, x3_1, x3_2, x3_3, x3_4, x3_5, x3_6⟩ := (A2.out.next hb).box.all
          try dsimp only [GD.m0, GD.m1, GD.tn, GD.nt] at x3_0 x3_1 x3_2
          obtain ⟨hA, hR⟩ := A2.out.put hb (G' := G.tn.nt) (d' := (G.H * G.W)) hk hrow A2.out.ok.nt
          have A3 := Lib.hid (show AS w (((w3.setCell ⟨w.heap.size, 0, none⟩ (.int .i64 (G.H : Nat))).setCell ⟨w.heap.size, 1, none⟩ (.int .i64 (G.W : Nat))).setCell ⟨w.heap.size, 2, none⟩ (.slice (some ⟨k3, 0, none⟩) (G.H * G.W) (G.H * G.W))) w.heap.size (w.heap.size + 1) G.tn.nt k3 0 (G.H * G.W) from hA)
          have R3 := Lib.hid (show Row (((w3.setCell ⟨w.heap.size, 0, none⟩ (.int .i64 (G.H : Nat))).setCell ⟨w.heap.size, 1, none⟩ (.int .i64 (G.W : Nat))).setCell ⟨w.heap.size, 2, none⟩ (.slice (some ⟨k3, 0, none⟩) (G.H * G.W) (G.H * G.W))) k3 (G.H * G.W) (G.tn.nt).f from hR)
          have K3 := Lib.hid (Nat.le_trans A2.out.bel.size hk)
          clear hb hrow hA hR
          skip
          obtain ⟨q0, q1, q2, q3, q4, q5, q6⟩ := A3.out.box.all
          try dsimp only [GD.m0, GD.m1, GD.tn, GD.nt] at q0 q1 q2
          obtain ⟨p0, p1, p2, p3, p4, p5, p6⟩ := A3.out.res.all
          go_wp2
          refine bodyPost_ret (v := .agg #[.int .i64 (G.H : Nat), .int .i64 (G.W : Nat), .slice (some ⟨k3, 0, none⟩) (G.H * G.W) (G.H * G.W)]) (by simp [results, Try.results94, go_sem, p0, p1, p2, GD.m0, GD.m1, GD.tn, GD.nt]) rfl ?_
          exact okc_fin (by first | exact hd1 | exact Nat.le_refl _) (G := G.tn.nt) R3.out (Nat.le_trans K.out K3.out) A3.out.r0 A3.out.br A3.out.bel _ _ _
    · skip
      obtain ⟨q0, q1, q2, q3, q4, q5, q6⟩ := A1.out.box.all
      try dsimp only [GD.m0, GD.m1, GD.tn, GD.nt] at q0 q1 q2
      go_wp2_with fail
      clear q0 q1 q2 q3 q4 q5 q6
      refine (show Calls Try.prog _ _ _ (OkGrid _ G.W G.H (G.m1).f) from p_m1 G A1.out.ok _ _ _ _ A1.out.holds).mono ?_
      rintro e w2 ⟨k2, rfl, hk, hrow, hb⟩
      obtain ⟨x2_0, x2_1, x2_2, x2_3, x2_4, x2_5, x2_6⟩ := (A1.out.next hb).box.all
      try dsimp only [GD.m0, GD.m1, GD.tn, GD.nt] at x2_0 x2_1 x2_2
      obtain ⟨hA, hR⟩ := A1.out.put hb (G' := G.m1) (d' := (G.W * G.H)) hk hrow A1.out.ok.m1
      have A2 := Lib.hid (show AS w (((w2.setCell ⟨w.heap.size, 0, none⟩ (.int .i64 (G.W : Nat))).setCell ⟨w.heap.size, 1, none⟩ (.int .i64 (G.H : Nat))).setCell ⟨w.heap.size, 2, none⟩ (.slice (some ⟨k2, 0, none⟩) (G.W * G.H) (G.W * G.H))) w.heap.size (w.heap.size + 1) G.m1 k2 0 (G.W * G.H) from hA)
      have R2 := Lib.hid (show Row (((w2.setCell ⟨w.heap.size, 0, none⟩ (.int .i64 (G.W : Nat))).setCell ⟨w.heap.size, 1, none⟩ (.int .i64 (G.H : Nat))).setCell ⟨w.heap.size, 2, none⟩ (.slice (some ⟨k2, 0, none⟩) (G.W * G.H) (G.W * G.H))) k2 (G.W * G.H) (G.m1).f from hR)
      have K2 := Lib.hid (Nat.le_trans A1.out.bel.size hk)
      clear hb hrow hA hR
      skip
      cases b4
      · skip
        cases b8
        · skip
          obtain ⟨q0, q1, q2, q3, q4, q5, q6⟩ := A2.out.box.all
          try dsimp only [GD.m0, GD.m1, GD.tn, GD.nt] at q0 q1 q2
          obtain ⟨p0, p1, p2, p3, p4, p5, p6⟩ := A2.out.res.all
          go_wp2
          refine bodyPost_ret (v := .agg #[.int .i64 (G.W : Nat), .int .i64 (G.H : Nat), .slice (some ⟨k2, 0, none⟩) (G.W * G.H) (G.W * G.H)]) (by simp [results, Try.results94, go_sem, p0, p1, p2, GD.m0, GD.m1, GD.tn, GD.nt]) rfl ?_
          exact okc_fin (by first | exact hd1 | exact Nat.le_refl _) (G := G.m1) R2.out (Nat.le_trans K.out K2.out) A2.out.r0 A2.out.br A2.out.bel _ _ _
        · skip
          obtain ⟨q0, q1, q2, q3, q4, q5, q6⟩ := A2.out.box.all
          try dsimp only [GD.m0, GD.m1, GD.tn, GD.nt] at q0 q1 q2
          go_wp2_with fail
          clear q0 q1 q2 q3 q4 q5 q6
          refine (show Calls Try.prog _ _ _ (OkGrid _ G.W G.H (G.m1.nt).f) from p_nt G.m1 A2.out.ok _ _ _ _ A2.out.holds).mono ?_
          rintro e w3 ⟨k3, rfl, hk, hrow, hb⟩
          obtain ⟨x3_0, x3_1, x3_2, x3_3, x3_4, x3_5, x3_6⟩ := (A2.out.next hb).box.all
          try dsimp only [GD.m0, GD.m1, GD.tn, GD.nt] at x3_0 x3_1 x3_2
          obtain ⟨hA, hR⟩ := A2.out.put hb (G' := G.m1.nt) (d' := (G.W * G.H)) hk hrow A2.out.ok.nt
          have A3 := Lib.hid (show AS w (((w3.setCell ⟨w.heap.size, 0, none⟩ (.int .i64 (G.W : Nat))).setCell ⟨w.heap.size, 1, none⟩ (.int .i64 (G.H : Nat))).setCell ⟨w.heap.size, 2, none⟩ (.slice (some ⟨k3, 0, none⟩) (G.W * G.H) (G.W * G.H))) w.heap.size (w.heap.size + 1) G.m1.nt k3 0 (G.W * G.H) from hA)
          have R3 := Lib.hid (show Row (((w3.setCell ⟨w.heap.size, 0, none⟩ (.int .i64 (G.W : Nat))).setCell ⟨w.heap.size, 1, none⟩ (.int .i64 (G.H : Nat))).setCell ⟨w.heap.size, 2, none⟩ (.slice (some ⟨k3, 0, none⟩) (G.W * G.H) (G.W * G.H))) k3 (G.W * G.H) (G.m1.nt).f from hR)
          have K3 := Lib.hid (Nat.le_trans A2.out.bel.size hk)
          clear hb hrow hA hR
          skip
          obtain ⟨q0, q1, q2, q3, q4, q5, q6⟩ := A3.out.box.all
          try dsimp only [GD.m0, GD.m1, GD.tn, GD.nt] at q0 q1 q2
          obtain ⟨p0, p1, p2, p3, p4, p5, p6⟩ := A3.out.res.all
          go_wp2
          refine bodyPost_ret (v := .agg #[.int .i64 (G.W : Nat), .int .i64 (G.H : Nat), .slice (some ⟨k3, 0, none⟩) (G.W * G.H) (G.W * G.H)]) (by simp [results, Try.results94, go_sem, p0, p1, p2, GD.m0, GD.m1, GD.tn, GD.nt]) rfl ?_
          exact okc_fin (by first | exact hd1 | exact Nat.le_refl _) (G := G.m1.nt) R3.out (Nat.le_trans K.out K3.out) A3.out.r0 A3.out.br A3.out.bel _ _ _
      · skip
        obtain ⟨q0, q1, q2, q3, q4, q5, q6⟩ := A2.out.box.all
        try dsimp only [GD.m0, GD.m1, GD.tn, GD.nt] at q0 q1 q2
        go_wp2_with fail
        clear q0 q1 q2 q3 q4 q5 q6
        refine (show Calls Try.prog _ _ _ (OkGrid _ G.H G.W (G.m1.tn).f) from p_tn G.m1 A2.out.ok _ _ _ _ A2.out.holds).mono ?_
        rintro e w3 ⟨k3, rfl, hk, hrow, hb⟩
        obtain ⟨x3_0, x3_1, x3_2, x3_3, x3_4, x3_5, x3_6⟩ := (A2.out.next hb).box.all
        try dsimp only [GD.m0, GD.m1, GD.tn, GD.nt] at x3_0 x3_1 x3_2
        obtain ⟨hA, hR⟩ := A2.out.put hb (G' := G.m1.tn) (d' := (G.H * G.W)) hk hrow A2.out.ok.tn
        have A3 := Lib.hid (show AS w (((w3.setCell ⟨w.heap.size, 0, none⟩ (.int .i64 (G.H : Nat))).setCell ⟨w.heap.size, 1, none⟩ (.int .i64 (G.W : Nat))).setCell ⟨w.heap.size, 2, none⟩ (.slice (some ⟨k3, 0, none⟩) (G.H * G.W) (G.H * G.W))) w.heap.size (w.heap.size + 1) G.m1.tn k3 0 (G.H * G.W) from hA)
        have R3 := Lib.hid (show Row (((w3.setCell ⟨w.heap.size, 0, none⟩ (.int .i64 (G.H : Nat))).setCell ⟨w.heap.size, 1, none⟩ (.int .i64 (G.W : Nat))).setCell ⟨w.heap.size, 2, none⟩ (.slice (some ⟨k3, 0, none⟩) (G.H * G.W) (G.H * G.W))) k3 (G.H * G.W) (G.m1.tn).f from hR)
        have K3 := Lib.hid (Nat.le_trans A2.out.bel.size hk)
        clear hb hrow hA hR
        skip
        cases b8
        · skip
          obtain ⟨q0, q1, q2, q3, q4, q5, q6⟩ := A3.out.box.all
          try dsimp only [GD.m0, GD.m1, GD.tn, GD.nt] at q0 q1 q2
          obtain ⟨p0, p1, p2, p3, p4, p5, p6⟩ := A3.out.res.all
          go_wp2
          refine bodyPost_ret (v := .agg #[.int .i64 (G.H : Nat), .int .i64 (G.W : Nat), .slice (some ⟨k3, 0, none⟩) (G.H * G.W) (G.H * G.W)]) (by simp [results, Try.results94, go_sem, p0, p1, p2, GD.m0, GD.m1, GD.tn, GD.nt]) rfl ?_
          exact okc_fin (by first | exact hd1 | exact Nat.le_refl _) (G := G.m1.tn) R3.out (Nat.le_trans K.out K3.out) A3.out.r0 A3.out.br A3.out.bel _ _ _
        · skip
          obtain ⟨q0, q1, q2, q3, q4, q5, q6⟩ := A3.out.box.all
          try dsimp only [GD.m0, GD.m1, GD.tn, GD.nt] at q0 q1 q2
          go_wp2_with fail
          clear q0 q1 q2 q3 q4 q5 q6
          refine (show Calls Try.prog _ _ _ (OkGrid _ G.H G.W (G.m1.tn.nt).f) from p_nt G.m1.tn A3.out.ok _ _ _ _ A3.out.holds).mono ?_
          rintro e w4 ⟨k4, rfl, hk, hrow, hb⟩
          obtain ⟨x4_0, x4_1, x4_2, x4_3, x4_4, x4_5, x4_6⟩ := (A3.out.next hb).box.all
          try dsimp only [GD.m0, GD.m1, GD.tn, GD.nt] at x4_0 x4_1 x4_2
          obtain ⟨hA, hR⟩ := A3.out.put hb (G' := G.m1.tn.nt) (d' := (G.H * G.W)) hk hrow A3.out.ok.nt
          have A4 := Lib.hid (show AS w (((w4.setCell ⟨w.heap.size, 0, none⟩ (.int .i64 (G.H : Nat))).setCell ⟨w.heap.size, 1, none⟩ (.int .i64 (G.W : Nat))).setCell ⟨w.heap.size, 2, none⟩ (.slice (some ⟨k4, 0, none⟩) (G.H * G.W) (G.H * G.W))) w.heap.size (w.heap.size + 1) G.m1.tn.nt k4 0 (G.H * G.W) from hA)
          have R4 := Lib.hid (show Row (((w4.setCell ⟨w.heap.size, 0, none⟩ (.int .i64 (G.H : Nat))).setCell ⟨w.heap.size, 1, none⟩ (.int .i64 (G.W : Nat))).setCell ⟨w.heap.size, 2, none⟩ (.slice (some ⟨k4, 0, none⟩) (G.H * G.W) (G.H * G.W))) k4 (G.H * G.W) (G.m1.tn.nt).f from hR)
          have K4 := Lib.hid (Nat.le_trans A3.out.bel.size hk)
          clear hb hrow hA hR
          skip
          obtain ⟨q0, q1, q2, q3, q4, q5, q6⟩ := A4.out.box.all
          try dsimp only [GD.m0, GD.m1, GD.tn, GD.nt] at q0 q1 q2
          obtain ⟨p0, p1, p2, p3, p4, p5, p6⟩ := A4.out.res.all
          go_wp2
          refine bodyPost_ret (v := .agg #[.int .i64 (G.H : Nat), .int .i64 (G.W : Nat), .slice (some ⟨k4, 0, none⟩) (G.H * G.W) (G.H * G.W)]) (by simp [results, Try.results94, go_sem, p0, p1, p2, GD.m0, GD.m1, GD.tn, GD.nt]) rfl ?_
          exact okc_fin (by first | exact hd1 | exact Nat.le_refl _) (G := G.m1.tn.nt) R4.out (Nat.le_trans K.out K4.out) A4.out.r0 A4.out.br A4.out.bel _ _ _
  · skip
    obtain ⟨q0, q1, q2, q3, q4, q5, q6⟩ := A1.out.box.all
    try dsimp only [GD.m0, GD.m1, GD.tn, GD.nt] at q0 q1 q2
    go_wp2_with fail
    clear q0 q1 q2 q3 q4 q5 q6
    refine (show Calls Try.prog _ _ _ (OkGrid _ G.W G.H (G.m0).f) from p_m0 G A1.out.ok _ _ _ _ A1.out.holds).mono ?_
    rintro e w2 ⟨k2, rfl, hk, hrow, hb⟩
    obtain ⟨x2_0, x2_1, x2_2, x2_3, x2_4, x2_5, x2_6⟩ := (A1.out.next hb).box.all
    try dsimp only [GD.m0, GD.m1, GD.tn, GD.nt] at x2_0 x2_1 x2_2
    obtain ⟨hA, hR⟩ := A1.out.put hb (G' := G.m0) (d' := (G.W * G.H)) hk hrow A1.out.ok.m0
    have A2 := Lib.hid (show AS w (((w2.setCell ⟨w.heap.size, 0, none⟩ (.int .i64 (G.W : Nat))).setCell ⟨w.heap.size, 1, none⟩ (.int .i64 (G.H : Nat))).setCell ⟨w.heap.size, 2, none⟩ (.slice (some ⟨k2, 0, none⟩) (G.W * G.H) (G.W * G.H))) w.heap.size (w.heap.size + 1) G.m0 k2 0 (G.W * G.H) from hA)
    have R2 := Lib.hid (show Row (((w2.setCell ⟨w.heap.size, 0, none⟩ (.int .i64 (G.W : Nat))).setCell ⟨w.heap.size, 1, none⟩ (.int .i64 (G.H : Nat))).setCell ⟨w.heap.size, 2, none⟩ (.slice (some ⟨k2, 0, none⟩) (G.W * G.H) (G.W * G.H))) k2 (G.W * G.H) (G.m0).f from hR)
    have K2 := Lib.hid (Nat.le_trans A1.out.bel.size hk)
    clear hb hrow hA hR
    skip
    cases b2
    · skip
      cases b4
      · skip
        cases b8
        · skip
          obtain ⟨q0, q1, q2, q3, q4, q5, q6⟩ := A2.out.box.all
          try dsimp only [GD.m0, GD.m1, GD.tn, GD.nt] at q0 q1 q2
          obtain ⟨p0, p1, p2, p3, p4, p5, p6⟩ := A2.out.res.all
          go_wp2
          refine bodyPost_ret (v := .agg #[.int .i64 (G.W : Nat), .int .i64 (G.H : Nat), .slice (some ⟨k2, 0, none⟩) (G.W * G.H) (G.W * G.H)]) (by simp [results, Try.results94, go_sem, p0, p1, p2, GD.m0, GD.m1, GD.tn, GD.nt]) rfl ?_
          exact okc_fin (by first | exact hd1 | exact Nat.le_refl _) (G := G.m0) R2.out (Nat.le_trans K.out K2.out) A2.out.r0 A2.out.br A2.out.bel _ _ _
        · skip
          obtain ⟨q0, q1, q2, q3, q4, q5, q6⟩ := A2.out.box.all
          try dsimp only [GD.m0, GD.m1, GD.tn, GD.nt] at q0 q1 q2
          go_wp2_with fail
          clear q0 q1 q2 q3 q4 q5 q6
          refine (show Calls Try.prog _ _ _ (OkGrid _ G.W G.H (G.m0.nt).f) from p_nt G.m0 A2.out.ok _ _ _ _ A2.out.holds).mono ?_
          rintro e w3 ⟨k3, rfl, hk, hrow, hb⟩
          obtain ⟨x3_0, x3_1, x3_2, x3_3, x3_4, x3_5, x3_6⟩ := (A2.out.next hb).box.all
          try dsimp only [GD.m0, GD.m1, GD.tn, GD.nt] at x3_0 x3_1 x3_2
          obtain ⟨hA, hR⟩ := A2.out.put hb (G' := G.m0.nt) (d' := (G.W * G.H)) hk hrow A2.out.ok.nt
          have A3 := Lib.hid (show AS w (((w3.setCell ⟨w.heap.size, 0, none⟩ (.int .i64 (G.W : Nat))).setCell ⟨w.heap.size, 1, none⟩ (.int .i64 (G.H : Nat))).setCell ⟨w.heap.size, 2, none⟩ (.slice (some ⟨k3, 0, none⟩) (G.W * G.H) (G.W * G.H))) w.heap.size (w.heap.size + 1) G.m0.nt k3 0 (G.W * G.H) from hA)
          have R3 := Lib.hid (show Row (((w3.setCell ⟨w.heap.size, 0, none⟩ (.int .i64 (G.W : Nat))).setCell ⟨w.heap.size, 1, none⟩ (.int .i64 (G.H : Nat))).setCell ⟨w.heap.size, 2, none⟩ (.slice (some ⟨k3, 0, none⟩) (G.W * G.H) (G.W * G.H))) k3 (G.W * G.H) (G.m0.nt).f from hR)
          have K3 := Lib.hid (Nat.le_trans A2.out.bel.size hk)
          clear hb hrow hA hR
          skip
          obtain ⟨q0, q1, q2, q3, q4, q5, q6⟩ := A3.out.box.all
          try dsimp only [GD.m0, GD.m1, GD.tn, GD.nt] at q0 q1 q2
          obtain ⟨p0, p1, p2, p3, p4, p5, p6⟩ := A3.out.res.all
          go_wp2
          refine bodyPost_ret (v := .agg #[.int .i64 (G.W : Nat), .int .i64 (G.H : Nat), .slice (some ⟨k3, 0, none⟩) (G.W * G.H) (G.W * G.H)]) (by simp [results, Try.results94, go_sem, p0, p1, p2, GD.m0, GD.m1, GD.tn, GD.nt]) rfl ?_
          exact okc_fin (by first | exact hd1 | exact Nat.le_refl _) (G := G.m0.nt) R3.out (Nat.le_trans K.out K3.out) A3.out.r0 A3.out.br A3.out.bel _ _ _
      · skip
        obtain ⟨q0, q1, q2, q3, q4, q5, q6⟩ := A2.out.box.all
        try dsimp only [GD.m0, GD.m1, GD.tn, GD.nt] at q0 q1 q2
        go_wp2_with fail
        clear q0 q1 q2 q3 q4 q5 q6
        refine (show Calls Try.prog _ _ _ (OkGrid _ G.H G.W (G.m0.tn).f) from p_tn G.m0 A2.out.ok _ _ _ _ A2.out.holds).mono ?_
        rintro e w3 ⟨k3, rfl, hk, hrow, hb⟩
        obtain ⟨x3_0, x3_1, x3_2, x3_3, x3_4, x3_5, x3_6⟩ := (A2.out.next hb).box.all
        try dsimp only [GD.m0, GD.m1, GD.tn, GD.nt] at x3_0 x3_1 x3_2
        obtain ⟨hA, hR⟩ := A2.out.put hb (G' := G.m0.tn) (d' := (G.H * G.W)) hk hrow A2.out.ok.tn
        have A3 := Lib.hid (show AS w (((w3.setCell ⟨w.heap.size, 0, none⟩ (.int .i64 (G.H : Nat))).setCell ⟨w.heap.size, 1, none⟩ (.int .i64 (G.W : Nat))).setCell ⟨w.heap.size, 2, none⟩ (.slice (some ⟨k3, 0, none⟩) (G.H * G.W) (G.H * G.W))) w.heap.size (w.heap.size + 1) G.m0.tn k3 0 (G.H * G.W) from hA)
        have R3 := Lib.hid (show Row (((w3.setCell ⟨w.heap.size, 0, none⟩ (.int .i64 (G.H : Nat))).setCell ⟨w.heap.size, 1, none⟩ (.int .i64 (G.W : Nat))).setCell ⟨w.heap.size, 2, none⟩ (.slice (some ⟨k3, 0, none⟩) (G.H * G.W) (G.H * G.W))) k3 (G.H * G.W) (G.m0.tn).f from hR)
        have K3 := Lib.hid (Nat.le_trans A2.out.bel.size hk)
        clear hb hrow hA hR
        skip
        cases b8
        · skip
          obtain ⟨q0, q1, q2, q3, q4, q5, q6⟩ := A3.out.box.all
          try dsimp only [GD.m0, GD.m1, GD.tn, GD.nt] at q0 q1 q2
          obtain ⟨p0, p1, p2, p3, p4, p5, p6⟩ := A3.out.res.all
          go_wp2
          refine bodyPost_ret (v := .agg #[.int .i64 (G.H : Nat), .int .i64 (G.W : Nat), .slice (some ⟨k3, 0, none⟩) (G.H * G.W) (G.H * G.W)]) (by simp [results, Try.results94, go_sem, p0, p1, p2, GD.m0, GD.m1, GD.tn, GD.nt]) rfl ?_
          exact okc_fin (by first | exact hd1 | exact Nat.le_refl _) (G := G.m0.tn) R3.out (Nat.le_trans K.out K3.out) A3.out.r0 A3.out.br A3.out.bel _ _ _
        · skip
          obtain ⟨q0, q1, q2, q3, q4, q5, q6⟩ := A3.out.box.all
          try dsimp only [GD.m0, GD.m1, GD.tn, GD.nt] at q0 q1 q2
          go_wp2_with fail
          clear q0 q1 q2 q3 q4 q5 q6
          refine (show Calls Try.prog _ _ _ (OkGrid _ G.H G.W (G.m0.tn.nt).f) from p_nt G.m0.tn A3.out.ok _ _ _ _ A3.out.holds).mono ?_
          rintro e w4 ⟨k4, rfl, hk, hrow, hb⟩
          obtain ⟨x4_0, x4_1, x4_2, x4_3, x4_4, x4_5, x4_6⟩ := (A3.out.next hb).box.all
          try dsimp only [GD.m0, GD.m1, GD.tn, GD.nt] at x4_0 x4_1 x4_2
          obtain ⟨hA, hR⟩ := A3.out.put hb (G' := G.m0.tn.nt) (d' := (G.H * G.W)) hk hrow A3.out.ok.nt
          have A4 := Lib.hid (show AS w (((w4.setCell ⟨w.heap.size, 0, none⟩ (.int .i64 (G.H : Nat))).setCell ⟨w.heap.size, 1, none⟩ (.int .i64 (G.W : Nat))).setCell ⟨w.heap.size, 2, none⟩ (.slice (some ⟨k4, 0, none⟩) (G.H * G.W) (G.H * G.W))) w.heap.size (w.heap.size + 1) G.m0.tn.nt k4 0 (G.H * G.W) from hA)
          have R4 := Lib.hid (show Row (((w4.setCell ⟨w.heap.size, 0, none⟩ (.int .i64 (G.H : Nat))).setCell ⟨w.heap.size, 1, none⟩ (.int .i64 (G.W : Nat))).setCell ⟨w.heap.size, 2, none⟩ (.slice (some ⟨k4, 0, none⟩) (G.H * G.W) (G.H * G.W))) k4 (G.H * G.W) (G.m0.tn.nt).f from hR)
          have K4 := Lib.hid (Nat.le_trans A3.out.bel.size hk)
          clear hb hrow hA hR
          skip
          obtain ⟨q0, q1, q2, q3, q4, q5, q6⟩ := A4.out.box.all
          try dsimp only [GD.m0, GD.m1, GD.tn, GD.nt] at q0 q1 q2
          obtain ⟨p0, p1, p2, p3, p4, p5, p6⟩ := A4.out.res.all
          go_wp2
          refine bodyPost_ret (v := .agg #[.int .i64 (G.H : Nat), .int .i64 (G.W : Nat), .slice (some ⟨k4, 0, none⟩) (G.H * G.W) (G.H * G.W)]) (by simp [results, Try.results94, go_sem, p0, p1, p2, GD.m0, GD.m1, GD.tn, GD.nt]) rfl ?_
          exact okc_fin (by first | exact hd1 | exact Nat.le_refl _) (G := G.m0.tn.nt) R4.out (Nat.le_trans K.out K4.out) A4.out.r0 A4.out.br A4.out.bel _ _ _
    · skip
      obtain ⟨q0, q1, q2, q3, q4, q5, q6⟩ := A2.out.box.all
      try dsimp only [GD.m0, GD.m1, GD.tn, GD.nt] at q0 q1 q2
      go_wp2_with fail
      clear q0 q1 q2 q3 q4 q5 q6
      refine (show Calls Try.prog _ _ _ (OkGrid _ G.W G.H (G.m0.m1).f) from p_m1 G.m0 A2.out.ok _ _ _ _ A2.out.holds).mono ?_
      rintro e w3 ⟨k3, rfl, hk, hrow, hb⟩
      obtain ⟨x3_0, x3_1, x3_2, x3_3, x3_4, x3_5, x3_6⟩ := (A2.out.next hb).box.all
      try dsimp only [GD.m0, GD.m1, GD.tn, GD.nt] at x3_0 x3_1 x3_2
      obtain ⟨hA, hR⟩ := A2.out.put hb (G' := G.m0.m1) (d' := (G.W * G.H)) hk hrow A2.out.ok.m1
      have A3 := Lib.hid (show AS w (((w3.setCell ⟨w.heap.size, 0, none⟩ (.int .i64 (G.W : Nat))).setCell ⟨w.heap.size, 1, none⟩ (.int .i64 (G.H : Nat))).setCell ⟨w.heap.size, 2, none⟩ (.slice (some ⟨k3, 0, none⟩) (G.W * G.H) (G.W * G.H))) w.heap.size (w.heap.size + 1) G.m0.m1 k3 0 (G.W * G.H) from hA)
      have R3 := Lib.hid (show Row (((w3.setCell ⟨w.heap.size, 0, none⟩ (.int .i64 (G.W : Nat))).setCell ⟨w.heap.size, 1, none⟩ (.int .i64 (G.H : Nat))).setCell ⟨w.heap.size, 2, none⟩ (.slice (some ⟨k3, 0, none⟩) (G.W * G.H) (G.W * G.H))) k3 (G.W * G.H) (G.m0.m1).f from hR)
      have K3 := Lib.hid (Nat.le_trans A2.out.bel.size hk)
      clear hb hrow hA hR
      skip
      cases b4
      · skip
        cases b8
        · skip
          obtain ⟨q0, q1, q2, q3, q4, q5, q6⟩ := A3.out.box.all
          try dsimp only [GD.m0, GD.m1, GD.tn, GD.nt] at q0 q1 q2
          obtain ⟨p0, p1, p2, p3, p4, p5, p6⟩ := A3.out.res.all
          go_wp2
          refine bodyPost_ret (v := .agg #[.int .i64 (G.W : Nat), .int .i64 (G.H : Nat), .slice (some ⟨k3, 0, none⟩) (G.W * G.H) (G.W * G.H)]) (by simp [results, Try.results94, go_sem, p0, p1, p2, GD.m0, GD.m1, GD.tn, GD.nt]) rfl ?_
          exact okc_fin (by first | exact hd1 | exact Nat.le_refl _) (G := G.m0.m1) R3.out (Nat.le_trans K.out K3.out) A3.out.r0 A3.out.br A3.out.bel _ _ _
        · skip
          obtain ⟨q0, q1, q2, q3, q4, q5, q6⟩ := A3.out.box.all
          try dsimp only [GD.m0, GD.m1, GD.tn, GD.nt] at q0 q1 q2
          go_wp2_with fail
          clear q0 q1 q2 q3 q4 q5 q6
          refine (show Calls Try.prog _ _ _ (OkGrid _ G.W G.H (G.m0.m1.nt).f) from p_nt G.m0.m1 A3.out.ok _ _ _ _ A3.out.holds).mono ?_
          rintro e w4 ⟨k4, rfl, hk, hrow, hb⟩
          obtain ⟨x4_0, x4_1, x4_2, x4_3, x4_4, x4_5, x4_6⟩ := (A3.out.next hb).box.all
          try dsimp only [GD.m0, GD.m1, GD.tn, GD.nt] at x4_0 x4_1 x4_2
          obtain ⟨hA, hR⟩ := A3.out.put hb (G' := G.m0.m1.nt) (d' := (G.W * G.H)) hk hrow A3.out.ok.nt
          have A4 := Lib.hid (show AS w (((w4.setCell ⟨w.heap.size, 0, none⟩ (.int .i64 (G.W : Nat))).setCell ⟨w.heap.size, 1, none⟩ (.int .i64 (G.H : Nat))).setCell ⟨w.heap.size, 2, none⟩ (.slice (some ⟨k4, 0, none⟩) (G.W * G.H) (G.W * G.H))) w.heap.size (w.heap.size + 1) G.m0.m1.nt k4 0 (G.W * G.H) from hA)
          have R4 := Lib.hid (show Row (((w4.setCell ⟨w.heap.size, 0, none⟩ (.int .i64 (G.W : Nat))).setCell ⟨w.heap.size, 1, none⟩ (.int .i64 (G.H : Nat))).setCell ⟨w.heap.size, 2, none⟩ (.slice (some ⟨k4, 0, none⟩) (G.W * G.H) (G.W * G.H))) k4 (G.W * G.H) (G.m0.m1.nt).f from hR)
          have K4 := Lib.hid (Nat.le_trans A3.out.bel.size hk)
          clear hb hrow hA hR
          skip
          obtain ⟨q0, q1, q2, q3, q4, q5, q6⟩ := A4.out.box.all
          try dsimp only [GD.m0, GD.m1, GD.tn, GD.nt] at q0 q1 q2
          obtain ⟨p0, p1, p2, p3, p4, p5, p6⟩ := A4.out.res.all
          go_wp2
          refine bodyPost_ret (v := .agg #[.int .i64 (G.W : Nat), .int .i64 (G.H : Nat), .slice (some ⟨k4, 0, none⟩) (G.W * G.H) (G.W * G.H)]) (by simp [results, Try.results94, go_sem, p0, p1, p2, GD.m0, GD.m1, GD.tn, GD.nt]) rfl ?_
          exact okc_fin (by first | exact hd1 | exact Nat.le_refl _) (G := G.m0.m1.nt) R4.out (Nat.le_trans K.out K4.out) A4.out.r0 A4.out.br A4.out.bel _ _ _
      · skip
        obtain ⟨q0, q1, q2, q3, q4, q5, q6⟩ := A3.out.box.all
        try dsimp only [GD.m0, GD.m1, GD.tn, GD.nt] at q0 q1 q2
        go_wp2_with fail
        clear q0 q1 q2 q3 q4 q5 q6
        refine (show Calls Try.prog _ _ _ (OkGrid _ G.H G.W (G.m0.m1.tn).f) from p_tn G.m0.m1 A3.out.ok _ _ _ _ A3.out.holds).mono ?_
        rintro e w4 ⟨k4, rfl, hk, hrow, hb⟩
        obtain ⟨x4_0, x4_1, x4_2, x4_3, x4_4, x4_5, x4_6⟩ := (A3.out.next hb).box.all
        try dsimp only [GD.m0, GD.m1, GD.tn, GD.nt] at x4_0 x4_1 x4_2
        obtain ⟨hA, hR⟩ := A3.out.put hb (G' := G.m0.m1.tn) (d' := (G.H * G.W)) hk hrow A3.out.ok.tn
        have A4 := Lib.hid (show AS w (((w4.setCell ⟨w.heap.size, 0, none⟩ (.int .i64 (G.H : Nat))).setCell ⟨w.heap.size, 1, none⟩ (.int .i64 (G.W : Nat))).setCell ⟨w.heap.size, 2, none⟩ (.slice (some ⟨k4, 0, none⟩) (G.H * G.W) (G.H * G.W))) w.heap.size (w.heap.size + 1) G.m0.m1.tn k4 0 (G.H * G.W) from hA)
        have R4 := Lib.hid (show Row (((w4.setCell ⟨w.heap.size, 0, none⟩ (.int .i64 (G.H : Nat))).setCell ⟨w.heap.size, 1, none⟩ (.int .i64 (G.W : Nat))).setCell ⟨w.heap.size, 2, none⟩ (.slice (some ⟨k4, 0, none⟩) (G.H * G.W) (G.H * G.W))) k4 (G.H * G.W) (G.m0.m1.tn).f from hR)
        have K4 := Lib.hid (Nat.le_trans A3.out.bel.size hk)
        clear hb hrow hA hR
        skip
        cases b8
        · skip
          obtain ⟨q0, q1, q2, q3, q4, q5, q6⟩ := A4.out.box.all
          try dsimp only [GD.m0, GD.m1, GD.tn, GD.nt] at q0 q1 q2
          obtain ⟨p0, p1, p2, p3, p4, p5, p6⟩ := A4.out.res.all
          go_wp2
          refine bodyPost_ret (v := .agg #[.int .i64 (G.H : Nat), .int .i64 (G.W : Nat), .slice (some ⟨k4, 0, none⟩) (G.H * G.W) (G.H * G.W)]) (by simp [results, Try.results94, go_sem, p0, p1, p2, GD.m0, GD.m1, GD.tn, GD.nt]) rfl ?_
          exact okc_fin (by first | exact hd1 | exact Nat.le_refl _) (G := G.m0.m1.tn) R4.out (Nat.le_trans K.out K4.out) A4.out.r0 A4.out.br A4.out.bel _ _ _
        · skip
          obtain ⟨q0, q1, q2, q3, q4, q5, q6⟩ := A4.out.box.all
          try dsimp only [GD.m0, GD.m1, GD.tn, GD.nt] at q0 q1 q2
          go_wp2_with fail
          clear q0 q1 q2 q3 q4 q5 q6
          refine (show Calls Try.prog _ _ _ (OkGrid _ G.H G.W (G.m0.m1.tn.nt).f) from p_nt G.m0.m1.tn A4.out.ok _ _ _ _ A4.out.holds).mono ?_
          rintro e w5 ⟨k5, rfl, hk, hrow, hb⟩
          obtain ⟨x5_0, x5_1, x5_2, x5_3, x5_4, x5_5, x5_6⟩ := (A4.out.next hb).box.all
          try dsimp only [GD.m0, GD.m1, GD.tn, GD.nt] at x5_0 x5_1 x5_2
          obtain ⟨hA, hR⟩ := A4.out.put hb (G' := G.m0.m1.tn.nt) (d' := (G.H * G.W)) hk hrow A4.out.ok.nt
          have A5 := Lib.hid (show AS w (((w5.setCell ⟨w.heap.size, 0, none⟩ (.int .i64 (G.H : Nat))).setCell ⟨w.heap.size, 1, none⟩ (.int .i64 (G.W : Nat))).setCell ⟨w.heap.size, 2, none⟩ (.slice (some ⟨k5, 0, none⟩) (G.H * G.W) (G.H * G.W))) w.heap.size (w.heap.size + 1) G.m0.m1.tn.nt k5 0 (G.H * G.W) from hA)
          have R5 := Lib.hid (show Row (((w5.setCell ⟨w.heap.size, 0, none⟩ (.int .i64 (G.H : Nat))).setCell ⟨w.heap.size, 1, none⟩ (.int .i64 (G.W : Nat))).setCell ⟨w.heap.size, 2, none⟩ (.slice (some ⟨k5, 0, none⟩) (G.H * G.W) (G.H * G.W))) k5 (G.H * G.W) (G.m0.m1.tn.nt).f from hR)
          have K5 := Lib.hid (Nat.le_trans A4.out.bel.size hk)
          clear hb hrow hA hR
          skip
          obtain ⟨q0, q1, q2, q3, q4, q5, q6⟩ := A5.out.box.all
          try dsimp only [GD.m0, GD.m1, GD.tn, GD.nt] at q0 q1 q2
          obtain ⟨p0, p1, p2, p3, p4, p5, p6⟩ := A5.out.res.all
          go_wp2
          refine bodyPost_ret (v := .agg #[.int .i64 (G.H : Nat), .int .i64 (G.W : Nat), .slice (some ⟨k5, 0, none⟩) (G.H * G.W) (G.H * G.W)]) (by simp [results, Try.results94, go_sem, p0, p1, p2, GD.m0, GD.m1, GD.tn, GD.nt]) rfl ?_
          exact okc_fin (by first | exact hd1 | exact Nat.le_refl _) (G := G.m0.m1.tn.nt) R5.out (Nat.le_trans K.out K5.out) A5.out.r0 A5.out.br A5.out.bel _ _ _
theorem papd (g : GD) (ok : g.Ok) (b o d m : Nat) (hm : m < 16) (w : World) (hr : Holds w w.heap.size (some ⟨b, o, none⟩) (g.W * g.H) g.f) :
    Calls Try.prog 94 #[.agg #[.int .i64 (g.W : Nat), .int .i64 (g.H : Nat), .slice (some ⟨b, o, none⟩) (g.W * g.H) d], .int .i64 (m : Nat)] w (OkC w (g.ap m)) :=
  apply_anyc g ok b o d m _ _ _ _ (bit1 m hm) (bit2 m hm) (bit4 m hm) (bit8 m hm) w hr
end Go.Proofs.Ytjbofdgdcnfmoaa
