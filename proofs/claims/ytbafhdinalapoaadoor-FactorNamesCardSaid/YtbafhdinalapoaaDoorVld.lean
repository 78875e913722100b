/- Whether a draft is valid and not great: by the law's own function. -/
import Derived.Test.YtbafhdinalapoaaDoorDb
namespace Go.Proofs.YtbafhdinalapoaaDoor
open Go.RowKit
set_option linter.unusedVariables false
set_option linter.unusedSimpArgs false
set_option maxRecDepth 100000

set_option maxHeartbeats 800000 in
theorem valid_great (D : Dr) (w : World) (hg : ∀ v, Calls Tryd.prog 51 #[.agg #[.int .i64 D.S, .int .i64 D.T, .slice D.A D.n D.c, .slice D.B D.m D.d, .int .i64 D.W, .int .i64 D.H, .slice D.C D.k D.e]] v fun e w' => e = .returned (.bool true) ∧ Below v.heap.size v w') :
    Calls Tryd.prog 29 #[.agg #[.int .i64 D.S, .int .i64 D.T, .slice D.A D.n D.c, .slice D.B D.m D.d, .int .i64 D.W, .int .i64 D.H, .slice D.C D.k D.e]] w fun e w' => e = .returned (.bool false) ∧ Below w.heap.size w w' := by
  have HG := Lib.hid hg
  have L0 := Lib.hid ((Below.refl w.heap.size w).alloc (Nat.le_refl _) (.cells #[.int .i64 D.S, .int .i64 D.T, .slice D.A D.n D.c, .slice D.B D.m D.d, .int .i64 D.W, .int .i64 D.H, .slice D.C D.k D.e] 27))
  clear hg
  go_enter Tryd.func29, Tryd.ntmps29
  go_wp2_with fail
  refine (HG.out _).mono ?_
  rintro e w2 ⟨rfl, hb⟩
  have L1 := Lib.hid (L0.out.trans (hb.mono (Nat.le_trans L0.out.size (Nat.le_refl _))))
  clear hb L0
  go_wp2
  refine bodyPost_ret (v := .bool false) (by simp [results, Tryd.results29, go_sem]) rfl ⟨rfl, L1.out⟩

set_option maxHeartbeats 800000 in
theorem valid_small (D : Dr) (w : World) (hs : D.Small) (hd : D.In w w.heap.size) (u : Bool) (hu : (D.ck == 0) = u) :
    Calls Tryd.prog 29 #[.agg #[.int .i64 D.S, .int .i64 D.T, .slice D.A D.n D.c, .slice D.B D.m D.d, .int .i64 D.W, .int .i64 D.H, .slice D.C D.k D.e]] w fun e w' => e = .returned (.bool u) ∧ Below w.heap.size w w' := by
  obtain ⟨hx, hz⟩ := dps1 w D hd
  have HS := Lib.hid hs
  have HX := Lib.hid hx
  have L0 := Lib.hid hz
  clear hs hd hx hz
  go_enter Tryd.func29, Tryd.ntmps29
  go_wp2_with fail
  refine (dgreat_no D _ HS.out).mono ?_
  rintro e w2 ⟨rfl, hb⟩
  have HX1 := Lib.hid (HX.out.next hb)
  have L1 := Lib.hid (L0.out.next hb)
  clear hb L0 HX
  obtain ⟨q0, q1, q2, q3, q4, q5, q6, q7⟩ := HX1.out.box.all
  go_wp2_with fail
  refine (rck_any D _ HS.out HX1.out.in_).mono ?_
  rintro e w3 ⟨rfl, hb⟩
  have L2' := Lib.hid (L1.out.next hb)
  clear hb L1 HX1 q0 q1 q2 q3 q4 q5 q6 q7
  generalize D.ck = z at *
  go_wp2
  refine bodyPost_ret (v := .bool u) (by simp [results, Tryd.results29, go_sem]) rfl ⟨rfl, L2'.out.bel⟩

/-- valid reports whether a draft is valid and not great. -/
theorem valid_case (D : Dr) (w : World) (hd : D.In w w.heap.size) :
    (∃ P : PD, P.Ok ∧ D.Is P ∧ D.Small ∧ ∀ v, Below w.heap.size w v → Calls Tryd.prog 29 #[.agg #[.int .i64 D.S, .int .i64 D.T, .slice D.A D.n D.c, .slice D.B D.m D.d, .int .i64 D.W, .int .i64 D.H, .slice D.C D.k D.e]] v fun e w' => e = .returned (.bool true) ∧ Below v.heap.size v w') ∨
    (∀ v, Below w.heap.size w v → Calls Tryd.prog 29 #[.agg #[.int .i64 D.S, .int .i64 D.T, .slice D.A D.n D.c, .slice D.B D.m D.d, .int .i64 D.W, .int .i64 D.H, .slice D.C D.k D.e]] v fun e w' => e = .returned (.bool false) ∧ Below v.heap.size v w') := by
  rcases dgreat_case D with h | h
  · by_cases hc : D.ck = 0
    · obtain ⟨hP, hI⟩ := Dr.valid hc
      exact .inl ⟨_, hP, hI, h, fun v hb => valid_small D v h (hd.next hb) true (by simp [hc])⟩
    · exact .inr fun v hb => valid_small D v h (hd.next hb) false (by simp [hc])
  · exact .inr fun v _ => valid_great D v h
end Go.Proofs.YtbafhdinalapoaaDoor
