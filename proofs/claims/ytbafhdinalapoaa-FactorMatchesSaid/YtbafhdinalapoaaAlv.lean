/- The chapter's examples hold: alive. -/
import Derived.Test.YtbafhdinalapoaaDb
import Derived.Test.YtbafhdinalapoaaTx
namespace Go.Proofs.Ytbafhdinalapoaa
open Go.RowKit
set_option linter.unusedVariables false
set_option linter.unusedSimpArgs false
set_option maxRecDepth 100000

/-- The text of a grid. -/
def tx (W H : Nat) (f : Nat → Bool) : ByteArray := ⟨(rowsT W H f H).toArray⟩
/-- The draft of the chapter's examples. -/
def gv : PD := ⟨2, 2, 3, 2, fun i => if i = 1 then 1 else 0, fun i => if i = 1 then 1 else 0, fun t s => decide (t = s)⟩
theorem gv_ok : gv.Ok := ⟨by decide, by decide, by decide, by decide, by decide, by decide, by decide, by decide, by decide, by decide⟩
theorem t1 : tx 3 2 (fun i => gv.L (gv.G (i / 3)) (gv.F (i % 3))) = ⟨#[46, 120, 46, 10, 120, 46, 120, 10]⟩ := by decide +kernel
theorem t2 : tx 2 2 (fun i => gv.L (gv.G (i / 2)) (i % 2)) = ⟨#[46, 120, 10, 120, 46, 10]⟩ := by decide +kernel
theorem heap_new (w : World) (o : Obj) : (w.alloc o).heap[w.heap.size]? = some o := by
  show (w.heap.push o)[w.heap.size]? = some o
  simp

theorem heap4 (w : World) (o1 o2 o3 o4 : Obj) : ((((w.alloc o1).alloc o2).alloc o3).alloc o4).heap[w.heap.size + 1]? = some o2 ∧ ((((w.alloc o1).alloc o2).alloc o3).alloc o4).heap[w.heap.size + 2]? = some o3 ∧ ((((w.alloc o1).alloc o2).alloc o3).alloc o4).heap[w.heap.size + 3]? = some o4 := by
  refine ⟨?_, ?_, ?_⟩ <;> (show ((((w.heap.push o1).push o2).push o3).push o4)[_]? = _; simp [Array.getElem_push])

set_option maxHeartbeats 1600000 in
theorem given_any (w : World) :
    Calls Try.prog 17 #[] w fun e w' => ∃ a ca b cb c cc, e = .returned (.agg #[.int .i64 2, .int .i64 2, .slice (some ⟨a, 0, none⟩) 3 ca, .slice (some ⟨b, 0, none⟩) 2 cb, .int .i64 2, .int .i64 2, .slice (some ⟨c, 0, none⟩) 4 cc]) ∧ Rows3 w' w.heap.size gv a b c ∧ Below w.heap.size w w' := by
  go_enter Try.func17, Try.ntmps17
  go_wp2
  refine bodyPost_ret (v := .agg #[.int .i64 2, .int .i64 2, .slice (some ⟨w.heap.size + 1, 0, none⟩) 3 3, .slice (some ⟨w.heap.size + 2, 0, none⟩) 2 2, .int .i64 2, .int .i64 2, .slice (some ⟨w.heap.size + 3, 0, none⟩) 4 4]) (by simp [results, Try.results17, go_sem]) rfl
    ⟨w.heap.size + 1, 3, w.heap.size + 2, 2, w.heap.size + 3, 4, rfl, ?_, ?_⟩
  · refine ⟨by omega, by omega, by omega, ⟨#[.int .i64 0, .int .i64 1, .int .i64 0], ?_, by decide, ?_⟩, ⟨#[.int .i64 0, .int .i64 1], ?_, by decide, ?_⟩, ⟨#[.bool true, .bool false, .bool false, .bool true], ?_, by decide, ?_⟩⟩
    · exact (heap4 _ _ _ _ _).1
    · intro i hi
      have : i = 0 ∨ i = 1 ∨ i = 2 := by simp only [gv] at hi; omega
      rcases this with rfl | rfl | rfl <;> rfl
    · exact (heap4 _ _ _ _ _).2.1
    · intro i hi
      have : i = 0 ∨ i = 1 := by simp only [gv] at hi; omega
      rcases this with rfl | rfl <;> rfl
    · exact (heap4 _ _ _ _ _).2.2
    · intro i hi
      have : i = 0 ∨ i = 1 ∨ i = 2 ∨ i = 3 := by simp only [gv] at hi; omega
      rcases this with rfl | rfl | rfl | rfl <;> rfl
  · exact ((((Below.refl w.heap.size w).alloc (Nat.le_refl _) _).alloc (by simp) _).alloc (by simp; omega) _).alloc (by simp; omega) _

set_option maxHeartbeats 800000 in
theorem reads_yes (W H : Nat) (A : Option Addr) (c : Nat) (f : Nat → Bool) (s : ByteArray) (w : World) (hr : Holds w w.heap.size A (W * H) f) (a1 : 1 ≤ W) (a2 : W ≤ 64) (a3 : 1 ≤ H) (a4 : H ≤ 64) (hs : tx W H f = s) :
    Calls Try.prog 20 #[.agg #[.int .i64 W, .int .i64 H, .slice A (W * H) c], .int .i64 0, .string s] w fun e w' => e = .returned (.bool true) ∧ Below w.heap.size w w' := by
  have HT : Hid (∀ w2, Below w.heap.size w w2 → Calls Try.prog 62 #[.agg #[.int .i64 W, .int .i64 H, .slice A (W * H) c]] w2 fun e w' => e = .returned (.tuple #[.string s, .int .i64 0]) ∧ Below w2.heap.size w2 w') := Lib.hid (fun w2 hb => by
    have h := text_ok W H A c f w2 ((hr.below hb).more hb.size) a1 a2 a3 a4
    rw [← hs]
    exact h)
  have L0 := Lib.hid ((Below.refl w.heap.size w).alloc (Nat.le_refl _) (.cells #[.int .i64 W, .int .i64 H, .slice A (W * H) c] 24))
  clear hr hs
  go_enter Try.func20, Try.ntmps20
  go_wp2_with fail
  refine (HT.out _ L0.out).mono ?_
  rintro e w2 ⟨rfl, hb⟩
  have L1 := Lib.hid (L0.out.trans (hb.mono L0.out.size))
  clear hb L0
  go_wp2
  refine bodyPost_ret (v := .bool true) (by simp [results, Try.results20, go_sem]) rfl ⟨rfl, L1.out⟩

theorem weave_gv (a ca b cb c cc : Nat) (w : World) (h : (gv.dr a ca b cb c cc).In w w.heap.size) : Calls Try.prog 14 #[.agg #[.int .i64 2, .int .i64 2, .slice (some ⟨a, 0, none⟩) 3 ca, .slice (some ⟨b, 0, none⟩) 2 cb, .int .i64 2, .int .i64 2, .slice (some ⟨c, 0, none⟩) 4 cc]] w (OkGrid w 3 2 fun i => gv.L (gv.G (i / 3)) (gv.F (i % 3))) := weave_ok (gv.dr_is a ca b cb c cc) gv_ok w h
theorem lift_gv (a ca b cb c cc : Nat) (w : World) (h : (gv.dr a ca b cb c cc).In w w.heap.size) : Calls Try.prog 27 #[.agg #[.int .i64 2, .int .i64 2, .slice (some ⟨a, 0, none⟩) 3 ca, .slice (some ⟨b, 0, none⟩) 2 cb, .int .i64 2, .int .i64 2, .slice (some ⟨c, 0, none⟩) 4 cc]] w (OkGrid w 2 2 fun i => gv.L (gv.G (i / 2)) (i % 2)) := lift_ok (gv.dr_is a ca b cb c cc) gv_ok w h

set_option maxHeartbeats 1600000 in
theorem alive_any (w : World) : Calls Try.prog 23 #[] w fun e w' => e = .returned (.bool true) ∧ Below w.heap.size w w' := by
  have L_0 := Lib.hid ((⟨Below.refl _ _⟩ : Bl w w))
  go_enter Try.func23, Try.ntmps23
  go_wp2_with fail
  refine (given_any _).mono ?_
  rintro e wu1 ⟨a, ca, b, cb, c, cc, rfl, hr, hb⟩
  have L_1 := Lib.hid (L_0.out.next hb)
  clear L_0
  have R_1 := Lib.hid (hr)
  clear hb
  clear hr
  go_wp2_with fail
  refine (weave_gv a ca b cb c cc _ (R_1.out.dr ca cb cc)).mono ?_
  rintro e wu2 ⟨k1, rfl, hk, hr, hb⟩
  clear R_1
  have L_2 := Lib.hid (L_1.out.next hb)
  clear L_1
  have G1_2 := Lib.hid (GP.new (lo := 0) (W := 3) (H := 2) (A := some ⟨k1, 0, none⟩) (n := 3 * 2) (c := 3 * 2) (fun _ => ⟨rfl, Nat.zero_le _, hr⟩))
  clear hb
  clear hk hr
  go_wp2_with fail
  have La_2 := Lib.hid (L_2.out.next ((Below.refl _ _).alloc (Nat.le_refl _) (.cells #[.int .i64 3, .int .i64 2, .slice (some ⟨k1, 0, none⟩) (3 * 2) (3 * 2)] 24)))
  clear L_2
  generalize wu2.alloc (.cells #[.int .i64 3, .int .i64 2, .slice (some ⟨k1, 0, none⟩) (3 * 2) (3 * 2)] 24) = wv2 at *
  refine (given_any _).mono ?_
  rintro e wu3 ⟨a, ca, b, cb, c, cc, rfl, hr, hb⟩
  have L_3 := Lib.hid (La_2.out.next hb)
  clear La_2
  have G1_3 := Lib.hid (G1_2.out.next hb)
  clear G1_2
  have R_3 := Lib.hid (hr)
  clear hb hr
  go_wp2_with fail
  refine (lift_gv a ca b cb c cc _ (R_3.out.dr ca cb cc)).mono ?_
  rintro e wu4 ⟨k2, rfl, hk, hr, hb⟩
  clear R_3
  have L_4 := Lib.hid (L_3.out.next hb)
  have G1_4 := Lib.hid (G1_3.out.next hb)
  clear L_3 G1_3
  have G2_4 := Lib.hid (GP.new (lo := 0) (W := 2) (H := 2) (A := some ⟨k2, 0, none⟩) (n := 2 * 2) (c := 2 * 2) (fun _ => ⟨rfl, Nat.zero_le _, hr⟩))
  clear hb
  have ff := G1_4.out.box.all
  obtain ⟨f0_0, f0_1, f0_2, f0_3, f0_4, f0_5, f0_6⟩ := ff
  clear hk hr
  go_wp2_with fail
  clear f0_0 f0_1 f0_2 f0_3 f0_4 f0_5 f0_6
  have La_4 := Lib.hid (L_4.out.next ((Below.refl _ _).alloc (Nat.le_refl _) (.cells #[.int .i64 2, .int .i64 2, .slice (some ⟨k2, 0, none⟩) (2 * 2) (2 * 2)] 24)))
  clear L_4
  have G1a_4 := Lib.hid (G1_4.out.next ((Below.refl _ _).alloc (Nat.le_refl _) (.cells #[.int .i64 2, .int .i64 2, .slice (some ⟨k2, 0, none⟩) (2 * 2) (2 * 2)] 24)))
  clear G1_4
  generalize wu4.alloc (.cells #[.int .i64 2, .int .i64 2, .slice (some ⟨k2, 0, none⟩) (2 * 2) (2 * 2)] 24) = wv4 at *
  refine (reads_yes 3 2 _ _ _ _ _ G1a_4.out.holds (by decide) (by decide) (by decide) (by decide) t1).mono ?_
  rintro e wu5 ⟨rfl, hb⟩
  have L_5 := Lib.hid (La_4.out.next hb)
  clear La_4
  have G1_5 := Lib.hid (G1a_4.out.next hb)
  clear G1a_4
  have G2_5 := Lib.hid (G2_4.out.next hb)
  clear G2_4
  clear hb
  have ff := G2_5.out.box.all
  obtain ⟨f0_0, f0_1, f0_2, f0_3, f0_4, f0_5, f0_6⟩ := ff
  go_wp2_with fail
  clear f0_0 f0_1 f0_2 f0_3 f0_4 f0_5 f0_6
  refine (reads_yes 2 2 _ _ _ _ _ G2_5.out.holds (by decide) (by decide) (by decide) (by decide) t2).mono ?_
  rintro e wu6 ⟨rfl, hb⟩
  have LL := Lib.hid (L_5.out.next hb)
  clear hb
  go_wp2
  refine bodyPost_ret (v := .bool true) (by simp [results, Try.results23, go_sem]) rfl ⟨rfl, LL.out.bel⟩

set_option maxHeartbeats 800000 in
theorem valid_great (D : Dr) (w : World) (hg : ∀ v, Calls Try.prog 24 #[.agg #[.int .i64 D.S, .int .i64 D.T, .slice D.A D.n D.c, .slice D.B D.m D.d, .int .i64 D.W, .int .i64 D.H, .slice D.C D.k D.e]] v fun e w' => e = .returned (.bool true) ∧ Below v.heap.size v w') :
    Calls Try.prog 37 #[.agg #[.int .i64 D.S, .int .i64 D.T, .slice D.A D.n D.c, .slice D.B D.m D.d, .int .i64 D.W, .int .i64 D.H, .slice D.C D.k D.e]] w fun e w' => e = .returned (.bool false) ∧ Below w.heap.size w w' := by
  have HG := Lib.hid hg
  have L0 := Lib.hid ((Below.refl w.heap.size w).alloc (Nat.le_refl _) (.cells #[.int .i64 D.S, .int .i64 D.T, .slice D.A D.n D.c, .slice D.B D.m D.d, .int .i64 D.W, .int .i64 D.H, .slice D.C D.k D.e] 30))
  clear hg
  go_enter Try.func37, Try.ntmps37
  go_wp2_with fail
  refine (HG.out _).mono ?_
  rintro e w2 ⟨rfl, hb⟩
  have L1 := Lib.hid (L0.out.trans (hb.mono (Nat.le_trans L0.out.size (Nat.le_refl _))))
  clear hb L0
  go_wp2
  refine bodyPost_ret (v := .bool false) (by simp [results, Try.results37, go_sem]) rfl ⟨rfl, L1.out⟩

set_option maxHeartbeats 800000 in
theorem valid_small (D : Dr) (w : World) (hs : D.Small) (hd : D.In w w.heap.size) (u : Bool) (hu : (D.ck == 0) = u) :
    Calls Try.prog 37 #[.agg #[.int .i64 D.S, .int .i64 D.T, .slice D.A D.n D.c, .slice D.B D.m D.d, .int .i64 D.W, .int .i64 D.H, .slice D.C D.k D.e]] w fun e w' => e = .returned (.bool u) ∧ Below w.heap.size w w' := by
  obtain ⟨hx, hz⟩ := dps1 w D hd
  have HS := Lib.hid hs
  have HX := Lib.hid hx
  have L0 := Lib.hid hz
  clear hs hd hx hz
  go_enter Try.func37, Try.ntmps37
  go_wp2_with fail
  refine (dgreat_no D _ HS.out).mono ?_
  rintro e w2 ⟨rfl, hb⟩
  have HX1 := Lib.hid (HX.out.next hb)
  have L1 := Lib.hid (L0.out.next hb)
  clear hb L0 HX
  obtain ⟨q0, q1, q2, q3, q4, q5, q6, q7⟩ := HX1.out.box.all
  go_wp2_with fail
  refine (rck_any D _ HS.out HX1.out.in_).mono ?_
  rintro e w3 ⟨rfl, hb⟩
  have L2' := Lib.hid (L1.out.next hb)
  clear hb L1 HX1 q0 q1 q2 q3 q4 q5 q6 q7
  generalize D.ck = z at *
  go_wp2
  refine bodyPost_ret (v := .bool u) (by simp [results, Try.results37, go_sem]) rfl ⟨rfl, L2'.out.bel⟩

/-- valid reports whether a draft is valid and not great. -/
theorem valid_case (D : Dr) (w : World) (hd : D.In w w.heap.size) :
    (∃ P : PD, P.Ok ∧ D.Is P ∧ D.Small ∧ ∀ v, Below w.heap.size w v → Calls Try.prog 37 #[.agg #[.int .i64 D.S, .int .i64 D.T, .slice D.A D.n D.c, .slice D.B D.m D.d, .int .i64 D.W, .int .i64 D.H, .slice D.C D.k D.e]] v fun e w' => e = .returned (.bool true) ∧ Below v.heap.size v w') ∨
    (∀ v, Below w.heap.size w v → Calls Try.prog 37 #[.agg #[.int .i64 D.S, .int .i64 D.T, .slice D.A D.n D.c, .slice D.B D.m D.d, .int .i64 D.W, .int .i64 D.H, .slice D.C D.k D.e]] v fun e w' => e = .returned (.bool false) ∧ Below v.heap.size v w') := by
  rcases dgreat_case D with h | h
  · by_cases hc : D.ck = 0
    · obtain ⟨hP, hI⟩ := Dr.valid hc
      exact .inl ⟨_, hP, hI, h, fun v hb => valid_small D v h (hd.next hb) true (by simp [hc])⟩
    · exact .inr fun v hb => valid_small D v h (hd.next hb) false (by simp [hc])
  · exact .inr fun v _ => valid_great D v h
end Go.Proofs.Ytbafhdinalapoaa
