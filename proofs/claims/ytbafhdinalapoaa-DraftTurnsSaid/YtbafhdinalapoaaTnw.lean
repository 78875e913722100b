/- The statement DraftTurns. -/
import Derived.Test.YtbafhdinalapoaaRpr
import Derived.Test.YtbafhdinalapoaaMkm
namespace Go.Proofs.Ytbafhdinalapoaa
open Go.RowKit
set_option linter.unusedVariables false
set_option linter.unusedSimpArgs false
set_option maxRecDepth 100000

/-- A list in a row of its own, between lo and hi. -/
structure RX (v : World) (lo hi : Nat) (A : Option Addr) (n : Nat) : Prop where
  row : 0 < n → ∃ k F, A = some ⟨k, 0, none⟩ ∧ lo ≤ k ∧ k < hi ∧ L2.Row v k n F
theorem RX.next {v v' : World} {lo hi : Nat} {A : Option Addr} {n : Nat} (h : RX v lo hi A n) (hb : Below v.heap.size v v') : RX v' lo hi A n :=
  ⟨fun hn => by obtain ⟨k, F, e, h1, h2, h3⟩ := h.row hn; exact ⟨k, F, e, h1, h2, h3.below hb h3.lt⟩⟩
theorem RX.far {v : World} {lo hi : Nat} {A : Option Addr} {n : Nat} (h : RX v lo hi A n) {p : Addr} (hp : p.block < lo ∨ hi ≤ p.block) (u : Value) : RX (v.setCell p u) lo hi A n :=
  ⟨fun hn => by obtain ⟨k, F, e, h1, h2, h3⟩ := h.row hn; exact ⟨k, F, e, h1, h2, h3.far (by omega) u⟩⟩
theorem RX.set_ {v : World} {lo hi k n : Nat} (h : RX v lo hi (some ⟨k, 0, none⟩) n) (i : Nat) (u : Int) : RX (v.setCell ⟨k, i, none⟩ (.int .i64 u)) lo hi (some ⟨k, 0, none⟩) n :=
  ⟨fun hn => by
    obtain ⟨k', F, e, h1, h2, h3⟩ := h.row hn
    injection e with e
    injection e with e
    subst e
    exact ⟨k, _, rfl, h1, h2, h3.set_ i u⟩⟩
/-- A draft and an error came back, the draft's lists in rows of the call's own. -/
def DNew (w : World) (E : Dr) (err : Int) (e : Ending) (w' : World) : Prop :=
  ∃ A c B d C e', e = .returned (.tuple #[.agg #[.int .i64 E.S, .int .i64 E.T, .slice A E.n c, .slice B E.m d, .int .i64 E.W, .int .i64 E.H, .slice C E.k e'], .int .i64 err]) ∧ (E.at_ A c B d C e').In w' w'.heap.size ∧ RX w' w.heap.size w'.heap.size A E.n ∧ RX w' w.heap.size w'.heap.size B E.m ∧ Below w.heap.size w w'
theorem OkDr.new {w w' : World} {Q : PD} {e : Ending} (h : OkDr w Q e w') : DNew w (Q.dr 0 0 0 0 0 0) 0 e w' := by
  obtain ⟨a, ca, b, cb, c, cc, he, hr, hb⟩ := h
  exact ⟨some ⟨a, 0, none⟩, ca, some ⟨b, 0, none⟩, cb, some ⟨c, 0, none⟩, cc, he, hr.dr ca cb cc, ⟨fun _ => ⟨a, _, rfl, hr.ha, hr.lt.1, hr.ra⟩⟩, ⟨fun _ => ⟨b, _, rfl, hr.hb, hr.lt.2.1, hr.rb⟩⟩, hb⟩
theorem ErrDr.new {w w' : World} {err : Int} {e : Ending} (h : ErrDr w err e w') : DNew w Dr.zero err e w' :=
  ⟨none, 0, none, 0, none, 0, h.1, ⟨fun h => absurd h (Nat.lt_irrefl 0), fun h => absurd h (Nat.lt_irrefl 0), fun h => absurd h (Nat.lt_irrefl 0)⟩, ⟨fun h => absurd h (Nat.lt_irrefl 0)⟩, ⟨fun h => absurd h (Nat.lt_irrefl 0)⟩, h.2⟩
structure NPair (w : World) (E : Dr) (err : Int) (k l : Nat) (args : Array Value) : Prop where
  small : E.Small
  a : ∀ v, Below w.heap.size w v → Calls Try.prog k args v (DNew v E err)
  b : ∀ v, Below w.heap.size w v → Calls Try.prog l args v (DOut v E err)
theorem tn_pair (D : Dr) (hs : D.Small) (w : World) (hd : D.In w w.heap.size) : ∃ E err, NPair w E err 18 32 #[.agg #[.int .i64 D.S, .int .i64 D.T, .slice D.A D.n D.c, .slice D.B D.m D.d, .int .i64 D.W, .int .i64 D.H, .slice D.C D.k D.e]] := by
  by_cases hx : D.ck = 0
  · obtain ⟨hP, hI⟩ := Dr.valid hx
    exact ⟨D.pure.turn.dr 0 0 0 0 0 0, 0, hP.turn.small, fun v hb => (dturn_ok hI hP v (hd.next hb)).mono fun _ _ h => h.new, fun v hb => (rturn_ok hI hP v (hd.next hb)).mono fun _ _ h => h.out⟩
  · have hne : (D.ck != 0) = true := by simp [hx]
    exact ⟨Dr.zero, D.ck, Dr.zero_small, fun v hb => (dturn_err rfl hne hs v (hd.next hb)).mono fun _ _ h => h.new, fun v hb => (rturn_err rfl hne hs v (hd.next hb)).mono fun _ _ h => h.out⟩
theorem pr_pair (D : Dr) (hs : D.Small) (w : World) (hd : D.In w w.heap.size) : ∃ E err, NPair w E err 15 33 #[.agg #[.int .i64 D.S, .int .i64 D.T, .slice D.A D.n D.c, .slice D.B D.m D.d, .int .i64 D.W, .int .i64 D.H, .slice D.C D.k D.e]] := by
  by_cases hx : D.ck = 0
  · obtain ⟨hP, hI⟩ := Dr.valid hx
    exact ⟨D.pure.prune.dr 0 0 0 0 0 0, 0, (PD.prune_ok hP).small, fun v hb => (prune_ok hI hP v (hd.next hb)).mono fun _ _ h => h.new, fun v hb => (rprune_ok hI hP v (hd.next hb)).mono fun _ _ h => h.out⟩
  · have hne : (D.ck != 0) = true := by simp [hx]
    exact ⟨Dr.zero, D.ck, Dr.zero_small, fun v hb => (prune_err rfl hne hs v (hd.next hb)).mono fun _ _ h => h.new, fun v hb => (rprune_err rfl hne hs v (hd.next hb)).mono fun _ _ h => h.out⟩
theorem rdsame_tw (D : Dr) (hs : D.Small) (A B C : Option Addr) (c d e : Nat) (w : World) (h1 : D.In w w.heap.size) (h2 : (D.at_ A c B d C e).In w w.heap.size) :
    Calls Try.prog 30 #[.agg #[.int .i64 D.S, .int .i64 D.T, .slice D.A D.n D.c, .slice D.B D.m D.d, .int .i64 D.W, .int .i64 D.H, .slice D.C D.k D.e], .agg #[.int .i64 D.S, .int .i64 D.T, .slice A D.n c, .slice B D.m d, .int .i64 D.W, .int .i64 D.H, .slice C D.k e]] w fun e w' => e = .returned (.bool true) ∧ Below w.heap.size w w' := by
  have h := rdsame_any D (D.at_ A c B d C e) w hs h1 h2
  have e0 : dsm D (D.at_ A c B d C e) = true := by
    unfold dsm lsm gsm
    simp [Dr.at_]
  rw [e0] at h
  exact h

set_option maxHeartbeats 800000 in
theorem turns_great (D : Dr) (w : World) (hd : D.In w w.heap.size) (hg : ∀ v, Calls Try.prog 24 #[.agg #[.int .i64 D.S, .int .i64 D.T, .slice D.A D.n D.c, .slice D.B D.m D.d, .int .i64 D.W, .int .i64 D.H, .slice D.C D.k D.e]] v fun e w' => e = .returned (.bool true) ∧ Below v.heap.size v w') :
    Calls Try.prog 5 #[.agg #[.int .i64 D.S, .int .i64 D.T, .slice D.A D.n D.c, .slice D.B D.m D.d, .int .i64 D.W, .int .i64 D.H, .slice D.C D.k D.e]] w fun e w' => e = .returned (.bool true) ∧ Below w.heap.size w w' := by
  have HG := Lib.hid hg
  have L0 := Lib.hid (show Bl w (w.alloc (.cells #[.int .i64 D.S, .int .i64 D.T, .slice D.A D.n D.c, .slice D.B D.m D.d, .int .i64 D.W, .int .i64 D.H, .slice D.C D.k D.e] 30)) from ⟨(Below.refl _ _).alloc (Nat.le_refl _) _⟩)
  clear hg hd
  go_enter Try.func5, Try.ntmps5
  go_wp2_with fail
  refine (HG.out _).mono ?_
  rintro e w1 ⟨rfl, hb⟩
  have L1 := Lib.hid (L0.out.next hb)
  clear hb L0
  go_wp2
  refine bodyPost_ret (v := .bool true) (by simp [results, Try.results5, go_sem]) rfl ⟨rfl, L1.out.bel⟩

set_option maxHeartbeats 3200000 in
theorem turns_main (D : Dr) (hs : D.Small) (w : World) (hd : D.In w w.heap.size) (E F : Dr) (err er2 : Int) (hE : NPair w E err 18 32 #[.agg #[.int .i64 D.S, .int .i64 D.T, .slice D.A D.n D.c, .slice D.B D.m D.d, .int .i64 D.W, .int .i64 D.H, .slice D.C D.k D.e]]) (hF : NPair w F er2 15 33 #[.agg #[.int .i64 D.S, .int .i64 D.T, .slice D.A D.n D.c, .slice D.B D.m D.d, .int .i64 D.W, .int .i64 D.H, .slice D.C D.k D.e]]) :
    Calls Try.prog 5 #[.agg #[.int .i64 D.S, .int .i64 D.T, .slice D.A D.n D.c, .slice D.B D.m D.d, .int .i64 D.W, .int .i64 D.H, .slice D.C D.k D.e]] w fun e w' => e = .returned (.bool true) ∧ Below w.heap.size w w' := by
  obtain ⟨hx, hz⟩ := dps1 w D hd
  have HSM := Lib.hid hs
  have HE := Lib.hid hE
  have HF := Lib.hid hF
  have z3 : (err != err) = false := by simp
  have z4 : (er2 != er2) = false := by simp
  have P_0 := Lib.hid (hx)
  have L_0 := Lib.hid (hz)
  clear hx hz hd hs hE hF
  go_enter Try.func5, Try.ntmps5
  go_wp2_with fail
  with_reducible refine Calls.mono (dgreat_no D _ HSM.out) ?_
  rintro e wu1 ⟨rfl, hb⟩
  have P_1 := Lib.hid (P_0.out.next hb)
  have L_1 := Lib.hid (L_0.out.next hb)
  clear P_0 L_0
  clear hb
  have ff := P_1.out.box.all
  try dsimp only [PD.dr] at ff
  obtain ⟨f0_0, f0_1, f0_2, f0_3, f0_4, f0_5, f0_6, f0_7⟩ := ff
  go_wp2_with fail
  clear f0_0 f0_1 f0_2 f0_3 f0_4 f0_5 f0_6 f0_7
  with_reducible refine Calls.mono (rtwin_any D HSM.out _ P_1.out.in_) ?_
  rintro e wu2 ⟨A2, c2, B2, d2, C2, e2, rfl, hin, hb⟩
  have P_2 := Lib.hid (P_1.out.next hb)
  have L_2 := Lib.hid (L_1.out.next hb)
  clear P_1 L_1
  have W_2 := Lib.hid (show DP (wu2.alloc (.cells #[.int .i64 D.S, .int .i64 D.T, .slice A2 D.n c2, .slice B2 D.m d2, .int .i64 D.W, .int .i64 D.H, .slice C2 D.k e2] 30)) wu2.heap.size wu2.heap.size (D.at_ A2 c2 B2 d2 C2 e2) from DP.new _ hin)
  clear hb hin
  have ff := (P_2.out.next ((Below.refl _ _).alloc (Nat.le_refl _) (.cells #[.int .i64 D.S, .int .i64 D.T, .slice A2 D.n c2, .slice B2 D.m d2, .int .i64 D.W, .int .i64 D.H, .slice C2 D.k e2] 30))).box.all
  try dsimp only [PD.dr] at ff
  obtain ⟨f0_0, f0_1, f0_2, f0_3, f0_4, f0_5, f0_6, f0_7⟩ := ff
  go_wp2_with fail
  clear f0_0 f0_1 f0_2 f0_3 f0_4 f0_5 f0_6 f0_7
  have Pa_3 := Lib.hid (P_2.out.next ((Below.refl _ _).alloc (Nat.le_refl _) (.cells #[.int .i64 D.S, .int .i64 D.T, .slice A2 D.n c2, .slice B2 D.m d2, .int .i64 D.W, .int .i64 D.H, .slice C2 D.k e2] 30)))
  clear P_2
  have La_3 := Lib.hid (L_2.out.next ((Below.refl _ _).alloc (Nat.le_refl _) (.cells #[.int .i64 D.S, .int .i64 D.T, .slice A2 D.n c2, .slice B2 D.m d2, .int .i64 D.W, .int .i64 D.H, .slice C2 D.k e2] 30)))
  clear L_2
  generalize wu2.alloc (.cells #[.int .i64 D.S, .int .i64 D.T, .slice A2 D.n c2, .slice B2 D.m d2, .int .i64 D.W, .int .i64 D.H, .slice C2 D.k e2] 30) = wv2 at *
  have PB := Pa_3
  have WB := W_2
  have LB := La_3
  have BB := Lib.hid (show Bl wv2 wv2 from ⟨Below.refl _ _⟩)
  with_reducible refine Calls.mono (HE.out.a _ La_3.out.bel) ?_
  rintro e wu3 ⟨A4, c4, B4, d4, C4, e4, rfl, hin, hra, hrb, hb⟩
  have P_3 := Lib.hid (Pa_3.out.next hb)
  have L_3 := Lib.hid (La_3.out.next hb)
  have W_3 := Lib.hid (W_2.out.next hb)
  have B_3 := Lib.hid (BB.out.next hb)
  clear Pa_3 La_3 W_2
  have T4_3 := Lib.hid (show DP (wu3.alloc (.cells #[.int .i64 E.S, .int .i64 E.T, .slice A4 E.n c4, .slice B4 E.m d4, .int .i64 E.W, .int .i64 E.H, .slice C4 E.k e4] 30)) wu3.heap.size wu3.heap.size (E.at_ A4 c4 B4 d4 C4 e4) from DP.new _ hin)
  have R1_3 := Lib.hid (hra.next ((Below.refl _ _).alloc (Nat.le_refl _) (.cells #[.int .i64 E.S, .int .i64 E.T, .slice A4 E.n c4, .slice B4 E.m d4, .int .i64 E.W, .int .i64 E.H, .slice C4 E.k e4] 30)))
  have R1_s := Lib.hid hb.size
  clear hb hin hra hrb
  have ff := (P_3.out.next ((Below.refl _ _).alloc (Nat.le_refl _) (.cells #[.int .i64 E.S, .int .i64 E.T, .slice A4 E.n c4, .slice B4 E.m d4, .int .i64 E.W, .int .i64 E.H, .slice C4 E.k e4] 30))).box.all
  try dsimp only [PD.dr] at ff
  obtain ⟨f0_0, f0_1, f0_2, f0_3, f0_4, f0_5, f0_6, f0_7⟩ := ff
  go_wp2_with fail
  clear f0_0 f0_1 f0_2 f0_3 f0_4 f0_5 f0_6 f0_7
  have Pa_4 := Lib.hid (P_3.out.next ((Below.refl _ _).alloc (Nat.le_refl _) (.cells #[.int .i64 E.S, .int .i64 E.T, .slice A4 E.n c4, .slice B4 E.m d4, .int .i64 E.W, .int .i64 E.H, .slice C4 E.k e4] 30)))
  clear P_3
  have La_4 := Lib.hid (L_3.out.next ((Below.refl _ _).alloc (Nat.le_refl _) (.cells #[.int .i64 E.S, .int .i64 E.T, .slice A4 E.n c4, .slice B4 E.m d4, .int .i64 E.W, .int .i64 E.H, .slice C4 E.k e4] 30)))
  clear L_3
  have Wa_4 := Lib.hid (W_3.out.next ((Below.refl _ _).alloc (Nat.le_refl _) (.cells #[.int .i64 E.S, .int .i64 E.T, .slice A4 E.n c4, .slice B4 E.m d4, .int .i64 E.W, .int .i64 E.H, .slice C4 E.k e4] 30)))
  clear W_3
  have Ba_4 := Lib.hid (B_3.out.next ((Below.refl _ _).alloc (Nat.le_refl _) (.cells #[.int .i64 E.S, .int .i64 E.T, .slice A4 E.n c4, .slice B4 E.m d4, .int .i64 E.W, .int .i64 E.H, .slice C4 E.k e4] 30)))
  clear B_3
  generalize wu3.alloc (.cells #[.int .i64 E.S, .int .i64 E.T, .slice A4 E.n c4, .slice B4 E.m d4, .int .i64 E.W, .int .i64 E.H, .slice C4 E.k e4] 30) = wv3 at *
  with_reducible refine Calls.mono (HE.out.b _ La_4.out.bel) ?_
  rintro e wu4 ⟨A5, c5, B5, d5, C5, e5, rfl, hin, hb⟩
  have P_4 := Lib.hid (Pa_4.out.next hb)
  have L_4 := Lib.hid (La_4.out.next hb)
  have W_4 := Lib.hid (Wa_4.out.next hb)
  have B_4 := Lib.hid (Ba_4.out.next hb)
  have T4_4 := Lib.hid (T4_3.out.next hb)
  have R1_4 := Lib.hid (R1_3.out.next hb)
  clear Pa_4 La_4 Wa_4 Ba_4 T4_3 R1_3
  have T5_4 := Lib.hid (show DP (wu4.alloc (.cells #[.int .i64 E.S, .int .i64 E.T, .slice A5 E.n c5, .slice B5 E.m d5, .int .i64 E.W, .int .i64 E.H, .slice C5 E.k e5] 30)) wu4.heap.size wu4.heap.size (E.at_ A5 c5 B5 d5 C5 e5) from DP.new _ hin)
  clear hb hin
  have ff := (P_4.out.next ((Below.refl _ _).alloc (Nat.le_refl _) (.cells #[.int .i64 E.S, .int .i64 E.T, .slice A5 E.n c5, .slice B5 E.m d5, .int .i64 E.W, .int .i64 E.H, .slice C5 E.k e5] 30))).box.all
  try dsimp only [PD.dr] at ff
  obtain ⟨f0_0, f0_1, f0_2, f0_3, f0_4, f0_5, f0_6, f0_7⟩ := ff
  go_wp2_with fail
  clear f0_0 f0_1 f0_2 f0_3 f0_4 f0_5 f0_6 f0_7
  have Pa_5 := Lib.hid (P_4.out.next ((Below.refl _ _).alloc (Nat.le_refl _) (.cells #[.int .i64 E.S, .int .i64 E.T, .slice A5 E.n c5, .slice B5 E.m d5, .int .i64 E.W, .int .i64 E.H, .slice C5 E.k e5] 30)))
  clear P_4
  have La_5 := Lib.hid (L_4.out.next ((Below.refl _ _).alloc (Nat.le_refl _) (.cells #[.int .i64 E.S, .int .i64 E.T, .slice A5 E.n c5, .slice B5 E.m d5, .int .i64 E.W, .int .i64 E.H, .slice C5 E.k e5] 30)))
  clear L_4
  have Wa_5 := Lib.hid (W_4.out.next ((Below.refl _ _).alloc (Nat.le_refl _) (.cells #[.int .i64 E.S, .int .i64 E.T, .slice A5 E.n c5, .slice B5 E.m d5, .int .i64 E.W, .int .i64 E.H, .slice C5 E.k e5] 30)))
  clear W_4
  have Ba_5 := Lib.hid (B_4.out.next ((Below.refl _ _).alloc (Nat.le_refl _) (.cells #[.int .i64 E.S, .int .i64 E.T, .slice A5 E.n c5, .slice B5 E.m d5, .int .i64 E.W, .int .i64 E.H, .slice C5 E.k e5] 30)))
  clear B_4
  have T4a_5 := Lib.hid (T4_4.out.next ((Below.refl _ _).alloc (Nat.le_refl _) (.cells #[.int .i64 E.S, .int .i64 E.T, .slice A5 E.n c5, .slice B5 E.m d5, .int .i64 E.W, .int .i64 E.H, .slice C5 E.k e5] 30)))
  clear T4_4
  have R1a_5 := Lib.hid (R1_4.out.next ((Below.refl _ _).alloc (Nat.le_refl _) (.cells #[.int .i64 E.S, .int .i64 E.T, .slice A5 E.n c5, .slice B5 E.m d5, .int .i64 E.W, .int .i64 E.H, .slice C5 E.k e5] 30)))
  clear R1_4
  generalize wu4.alloc (.cells #[.int .i64 E.S, .int .i64 E.T, .slice A5 E.n c5, .slice B5 E.m d5, .int .i64 E.W, .int .i64 E.H, .slice C5 E.k e5] 30) = wv4 at *
  have Q2x := Lib.hid (show wu3.heap.size < wv4.heap.size from T4a_5.out.box.lt)
  with_reducible refine Calls.mono (HF.out.a _ La_5.out.bel) ?_
  rintro e wu5 ⟨A6, c6, B6, d6, C6, e6, rfl, hin, hra, hrb, hb⟩
  have P_5 := Lib.hid (Pa_5.out.next hb)
  have L_5 := Lib.hid (La_5.out.next hb)
  have W_5 := Lib.hid (Wa_5.out.next hb)
  have B_5 := Lib.hid (Ba_5.out.next hb)
  have T4_5 := Lib.hid (T4a_5.out.next hb)
  have R1_5 := Lib.hid (R1a_5.out.next hb)
  have T5_5 := Lib.hid (T5_4.out.next hb)
  clear Pa_5 La_5 Wa_5 Ba_5 T4a_5 R1a_5 T5_4
  have T6_5 := Lib.hid (show DP (wu5.alloc (.cells #[.int .i64 F.S, .int .i64 F.T, .slice A6 F.n c6, .slice B6 F.m d6, .int .i64 F.W, .int .i64 F.H, .slice C6 F.k e6] 30)) wu5.heap.size wu5.heap.size (F.at_ A6 c6 B6 d6 C6 e6) from DP.new _ hin)
  have R2_5 := Lib.hid (hrb.next ((Below.refl _ _).alloc (Nat.le_refl _) (.cells #[.int .i64 F.S, .int .i64 F.T, .slice A6 F.n c6, .slice B6 F.m d6, .int .i64 F.W, .int .i64 F.H, .slice C6 F.k e6] 30)))
  have R2_s := Lib.hid hb.size
  clear hb hin hra hrb
  have ff := (P_5.out.next ((Below.refl _ _).alloc (Nat.le_refl _) (.cells #[.int .i64 F.S, .int .i64 F.T, .slice A6 F.n c6, .slice B6 F.m d6, .int .i64 F.W, .int .i64 F.H, .slice C6 F.k e6] 30))).box.all
  try dsimp only [PD.dr] at ff
  obtain ⟨f0_0, f0_1, f0_2, f0_3, f0_4, f0_5, f0_6, f0_7⟩ := ff
  go_wp2_with fail
  clear f0_0 f0_1 f0_2 f0_3 f0_4 f0_5 f0_6 f0_7
  have Pa_6 := Lib.hid (P_5.out.next ((Below.refl _ _).alloc (Nat.le_refl _) (.cells #[.int .i64 F.S, .int .i64 F.T, .slice A6 F.n c6, .slice B6 F.m d6, .int .i64 F.W, .int .i64 F.H, .slice C6 F.k e6] 30)))
  clear P_5
  have La_6 := Lib.hid (L_5.out.next ((Below.refl _ _).alloc (Nat.le_refl _) (.cells #[.int .i64 F.S, .int .i64 F.T, .slice A6 F.n c6, .slice B6 F.m d6, .int .i64 F.W, .int .i64 F.H, .slice C6 F.k e6] 30)))
  clear L_5
  have Wa_6 := Lib.hid (W_5.out.next ((Below.refl _ _).alloc (Nat.le_refl _) (.cells #[.int .i64 F.S, .int .i64 F.T, .slice A6 F.n c6, .slice B6 F.m d6, .int .i64 F.W, .int .i64 F.H, .slice C6 F.k e6] 30)))
  clear W_5
  have Ba_6 := Lib.hid (B_5.out.next ((Below.refl _ _).alloc (Nat.le_refl _) (.cells #[.int .i64 F.S, .int .i64 F.T, .slice A6 F.n c6, .slice B6 F.m d6, .int .i64 F.W, .int .i64 F.H, .slice C6 F.k e6] 30)))
  clear B_5
  have T4a_6 := Lib.hid (T4_5.out.next ((Below.refl _ _).alloc (Nat.le_refl _) (.cells #[.int .i64 F.S, .int .i64 F.T, .slice A6 F.n c6, .slice B6 F.m d6, .int .i64 F.W, .int .i64 F.H, .slice C6 F.k e6] 30)))
  clear T4_5
  have R1a_6 := Lib.hid (R1_5.out.next ((Below.refl _ _).alloc (Nat.le_refl _) (.cells #[.int .i64 F.S, .int .i64 F.T, .slice A6 F.n c6, .slice B6 F.m d6, .int .i64 F.W, .int .i64 F.H, .slice C6 F.k e6] 30)))
  clear R1_5
  have T5a_6 := Lib.hid (T5_5.out.next ((Below.refl _ _).alloc (Nat.le_refl _) (.cells #[.int .i64 F.S, .int .i64 F.T, .slice A6 F.n c6, .slice B6 F.m d6, .int .i64 F.W, .int .i64 F.H, .slice C6 F.k e6] 30)))
  clear T5_5
  generalize wu5.alloc (.cells #[.int .i64 F.S, .int .i64 F.T, .slice A6 F.n c6, .slice B6 F.m d6, .int .i64 F.W, .int .i64 F.H, .slice C6 F.k e6] 30) = wv5 at *
  with_reducible refine Calls.mono (HF.out.b _ La_6.out.bel) ?_
  rintro e wu6 ⟨A7, c7, B7, d7, C7, e7, rfl, hin, hb⟩
  have P_6 := Lib.hid (Pa_6.out.next hb)
  have L_6 := Lib.hid (La_6.out.next hb)
  have W_6 := Lib.hid (Wa_6.out.next hb)
  have B_6 := Lib.hid (Ba_6.out.next hb)
  have T4_6 := Lib.hid (T4a_6.out.next hb)
  have R1_6 := Lib.hid (R1a_6.out.next hb)
  have T5_6 := Lib.hid (T5a_6.out.next hb)
  have T6_6 := Lib.hid (T6_5.out.next hb)
  have R2_6 := Lib.hid (R2_5.out.next hb)
  clear Pa_6 La_6 Wa_6 Ba_6 T4a_6 R1a_6 T5a_6 T6_5 R2_5
  have T7_6 := Lib.hid (show DP (wu6.alloc (.cells #[.int .i64 F.S, .int .i64 F.T, .slice A7 F.n c7, .slice B7 F.m d7, .int .i64 F.W, .int .i64 F.H, .slice C7 F.k e7] 30)) wu6.heap.size wu6.heap.size (F.at_ A7 c7 B7 d7 C7 e7) from DP.new _ hin)
  clear hb hin
  have fu := (T4_6.out.next ((Below.refl _ _).alloc (Nat.le_refl _) (.cells #[.int .i64 F.S, .int .i64 F.T, .slice A7 F.n c7, .slice B7 F.m d7, .int .i64 F.W, .int .i64 F.H, .slice C7 F.k e7] 30))).box.all
  dsimp only [Dr.at_] at fu
  obtain ⟨f0_0, f0_1, f0_2, f0_3, f0_4, f0_5, f0_6, f0_7⟩ := fu
  have fp := (T5_6.out.next ((Below.refl _ _).alloc (Nat.le_refl _) (.cells #[.int .i64 F.S, .int .i64 F.T, .slice A7 F.n c7, .slice B7 F.m d7, .int .i64 F.W, .int .i64 F.H, .slice C7 F.k e7] 30))).box.all
  dsimp only [Dr.at_] at fp
  obtain ⟨f1_0, f1_1, f1_2, f1_3, f1_4, f1_5, f1_6, f1_7⟩ := fp
  go_wp2_with fail
  clear f0_0 f0_1 f0_2 f0_3 f0_4 f0_5 f0_6 f0_7 f1_0 f1_1 f1_2 f1_3 f1_4 f1_5 f1_6 f1_7
  have Pa_7 := Lib.hid (P_6.out.next ((Below.refl _ _).alloc (Nat.le_refl _) (.cells #[.int .i64 F.S, .int .i64 F.T, .slice A7 F.n c7, .slice B7 F.m d7, .int .i64 F.W, .int .i64 F.H, .slice C7 F.k e7] 30)))
  clear P_6
  have La_7 := Lib.hid (L_6.out.next ((Below.refl _ _).alloc (Nat.le_refl _) (.cells #[.int .i64 F.S, .int .i64 F.T, .slice A7 F.n c7, .slice B7 F.m d7, .int .i64 F.W, .int .i64 F.H, .slice C7 F.k e7] 30)))
  clear L_6
  have Wa_7 := Lib.hid (W_6.out.next ((Below.refl _ _).alloc (Nat.le_refl _) (.cells #[.int .i64 F.S, .int .i64 F.T, .slice A7 F.n c7, .slice B7 F.m d7, .int .i64 F.W, .int .i64 F.H, .slice C7 F.k e7] 30)))
  clear W_6
  have Ba_7 := Lib.hid (B_6.out.next ((Below.refl _ _).alloc (Nat.le_refl _) (.cells #[.int .i64 F.S, .int .i64 F.T, .slice A7 F.n c7, .slice B7 F.m d7, .int .i64 F.W, .int .i64 F.H, .slice C7 F.k e7] 30)))
  clear B_6
  have T4a_7 := Lib.hid (T4_6.out.next ((Below.refl _ _).alloc (Nat.le_refl _) (.cells #[.int .i64 F.S, .int .i64 F.T, .slice A7 F.n c7, .slice B7 F.m d7, .int .i64 F.W, .int .i64 F.H, .slice C7 F.k e7] 30)))
  clear T4_6
  have R1a_7 := Lib.hid (R1_6.out.next ((Below.refl _ _).alloc (Nat.le_refl _) (.cells #[.int .i64 F.S, .int .i64 F.T, .slice A7 F.n c7, .slice B7 F.m d7, .int .i64 F.W, .int .i64 F.H, .slice C7 F.k e7] 30)))
  clear R1_6
  have T5a_7 := Lib.hid (T5_6.out.next ((Below.refl _ _).alloc (Nat.le_refl _) (.cells #[.int .i64 F.S, .int .i64 F.T, .slice A7 F.n c7, .slice B7 F.m d7, .int .i64 F.W, .int .i64 F.H, .slice C7 F.k e7] 30)))
  clear T5_6
  have T6a_7 := Lib.hid (T6_6.out.next ((Below.refl _ _).alloc (Nat.le_refl _) (.cells #[.int .i64 F.S, .int .i64 F.T, .slice A7 F.n c7, .slice B7 F.m d7, .int .i64 F.W, .int .i64 F.H, .slice C7 F.k e7] 30)))
  clear T6_6
  have R2a_7 := Lib.hid (R2_6.out.next ((Below.refl _ _).alloc (Nat.le_refl _) (.cells #[.int .i64 F.S, .int .i64 F.T, .slice A7 F.n c7, .slice B7 F.m d7, .int .i64 F.W, .int .i64 F.H, .slice C7 F.k e7] 30)))
  clear R2_6
  generalize wu6.alloc (.cells #[.int .i64 F.S, .int .i64 F.T, .slice A7 F.n c7, .slice B7 F.m d7, .int .i64 F.W, .int .i64 F.H, .slice C7 F.k e7] 30) = wv6 at *
  with_reducible refine Calls.mono (rdsame_at E HE.out.small A4 B4 C4 A5 B5 C5 c4 d4 e4 c5 d5 e5 _ T4a_7.out.in_ T5a_7.out.in_) ?_
  rintro e wu7 ⟨rfl, hb⟩
  have P_7 := Lib.hid (Pa_7.out.next hb)
  have L_7 := Lib.hid (La_7.out.next hb)
  have W_7 := Lib.hid (Wa_7.out.next hb)
  have B_7 := Lib.hid (Ba_7.out.next hb)
  have T4_7 := Lib.hid (T4a_7.out.next hb)
  have R1_7 := Lib.hid (R1a_7.out.next hb)
  have T5_7 := Lib.hid (T5a_7.out.next hb)
  have T6_7 := Lib.hid (T6a_7.out.next hb)
  have R2_7 := Lib.hid (R2a_7.out.next hb)
  have T7_7 := Lib.hid (T7_6.out.next hb)
  clear Pa_7 La_7 Wa_7 Ba_7 T4a_7 R1a_7 T5a_7 T6a_7 R2a_7 T7_6
  clear hb
  have fu := T6_7.out.box.all
  dsimp only [Dr.at_] at fu
  obtain ⟨f0_0, f0_1, f0_2, f0_3, f0_4, f0_5, f0_6, f0_7⟩ := fu
  have fp := T7_7.out.box.all
  dsimp only [Dr.at_] at fp
  obtain ⟨f1_0, f1_1, f1_2, f1_3, f1_4, f1_5, f1_6, f1_7⟩ := fp
  go_wp2_with fail
  clear f0_0 f0_1 f0_2 f0_3 f0_4 f0_5 f0_6 f0_7 f1_0 f1_1 f1_2 f1_3 f1_4 f1_5 f1_6 f1_7
  with_reducible refine Calls.mono (rdsame_at F HF.out.small A6 B6 C6 A7 B7 C7 c6 d6 e6 c7 d7 e7 _ T6_7.out.in_ T7_7.out.in_) ?_
  rintro e wu8 ⟨rfl, hb⟩
  have P_8 := Lib.hid (P_7.out.next hb)
  have L_8 := Lib.hid (L_7.out.next hb)
  have W_8 := Lib.hid (W_7.out.next hb)
  have B_8 := Lib.hid (B_7.out.next hb)
  have T4_8 := Lib.hid (T4_7.out.next hb)
  have R1_8 := Lib.hid (R1_7.out.next hb)
  have T5_8 := Lib.hid (T5_7.out.next hb)
  have T6_8 := Lib.hid (T6_7.out.next hb)
  have R2_8 := Lib.hid (R2_7.out.next hb)
  have T7_8 := Lib.hid (T7_7.out.next hb)
  clear P_7 L_7 W_7 B_7 T4_7 R1_7 T5_7 T6_7 R2_7 T7_7
  clear hb
  have hq0 := Lib.hid (show wv2.heap.size ≤ wv2.heap.size from Nat.le_refl _)
  have hq1 := Lib.hid (show wv2.heap.size ≤ wu3.heap.size from R1_s.out)
  have hq2 := Lib.hid (show wu3.heap.size < wv4.heap.size from Q2x.out)
  have hq3 := Lib.hid (show wv4.heap.size ≤ wu5.heap.size from R2_s.out)
  have T4_L := T4_8
  have T6_L := T6_8
  have R1_L := R1_8
  have R2_L := R2_8
  have B_L := B_8
  go_wp2
  go_loopw [12] (fun i wr => ∃ y : Nat, y ≤ E.n ∧ i = .int .i64 y ∧ Hid (DBox wr wu3.heap.size (E.at_ A4 c4 B4 d4 C4 e4)) ∧ Hid (DBox wr wu5.heap.size (F.at_ A6 c6 B6 d6 C6 e6)) ∧ Hid (RX wr wv2.heap.size wu3.heap.size A4 E.n) ∧ Hid (RX wr wv4.heap.size wu5.heap.size B6 F.m) ∧ Hid (Bl wv2 wr)) (fun i _ => E.n - (intOf i).toNat)
  case atStart => exact ⟨0, Nat.zero_le _, rfl, Lib.hid T4_L.out.box, Lib.hid T6_L.out.box, Lib.hid R1_L.out, Lib.hid R2_L.out, Lib.hid B_L.out⟩
  case round =>
    obtain ⟨y, hy, rfl, hb4, hb6, hr1, hr2, hbb⟩ := hrel
    have b4 := Lib.hid hb4.out
    have b6 := Lib.hid hb6.out
    have r1 := Lib.hid hr1.out
    have r2 := Lib.hid hr2.out
    have bb := Lib.hid hbb.out
    clear hb4 hb6 hr1 hr2 hbb
    have ff := b4.out.all
    dsimp only [Dr.at_] at ff
    obtain ⟨f0, f1, f2, f3, f4, f5, f6, f7⟩ := ff
    by_cases hlt : y < E.n
    · have y1 : decide ((y : Int) < (E.n : Int)) = true := by simp; omega
      obtain ⟨k, G, hA, hk1, hk2, hrow⟩ := r1.out.row (by omega)
      have hb70 : E.n ≤ 70 := HE.out.small.a
      have g0 : (0 : Int) ≤ (y : Int) := by omega
      have g1 : (y : Int) < (E.n : Int) := by omega
      have c0 := hrow.cell hlt
      have c1 := hrow.free y
      have c2 := hrow.lt
      have k1 := Lib.hid hk1
      have k2 := Lib.hid hk2
      have HA := Lib.hid hA
      rw [hA] at f2
      clear hrow hk1 hk2 hA
      go_wp2
      refine ⟨⟨y + 1, by omega, by go_num, Lib.hid (b4.out.far (by have := k1.out; have := k2.out; have := hq1.out; have := hq2.out; have := hq3.out; simp; omega) _), Lib.hid (b6.out.far (by have := k1.out; have := k2.out; have := hq1.out; have := hq2.out; have := hq3.out; simp; omega) _), Lib.hid ?_, Lib.hid ?_, Lib.hid ⟨bb.out.bel.setCell (by have := k1.out; have := hq0.out; have := hq1.out; have := hq2.out; show _ ≤ k; omega) _⟩⟩, by simp [intOf]; omega⟩
      · rw [HA.out]; have h := r1.out; rw [HA.out] at h; exact h.set_ y (-5)
      · exact r2.out.far (.inl (by have := k2.out; have := hq2.out; show k < _; omega)) _
    · have e : y = E.n := by omega
      subst e
      have y1 : decide ((E.n : Int) < (E.n : Int)) = false := by simp
      obtain ⟨wq, rfl⟩ : ∃ wq : World, wq = wr := ⟨_, rfl⟩
      go_wp2
      clear f0 f1 f2 f3 f4 f5 f6 f7
      go_loopw [13] (fun i wr => ∃ y : Nat, y ≤ F.m ∧ i = .int .i64 y ∧ Hid (DBox wr wu3.heap.size (E.at_ A4 c4 B4 d4 C4 e4)) ∧ Hid (DBox wr wu5.heap.size (F.at_ A6 c6 B6 d6 C6 e6)) ∧ Hid (RX wr wv2.heap.size wu3.heap.size A4 E.n) ∧ Hid (RX wr wv4.heap.size wu5.heap.size B6 F.m) ∧ Hid (Bl wv2 wr)) (fun i _ => F.m - (intOf i).toNat)
      case atStart => exact ⟨0, Nat.zero_le _, rfl, b4, b6, r1, r2, bb⟩
      case round =>
        obtain ⟨y, hy, rfl, hb4, hb6, hr1, hr2, hbb⟩ := hrel
        have b4 := Lib.hid hb4.out
        have b6 := Lib.hid hb6.out
        have r1 := Lib.hid hr1.out
        have r2 := Lib.hid hr2.out
        have bb := Lib.hid hbb.out
        clear hb4 hb6 hr1 hr2 hbb
        have ff := b6.out.all
        dsimp only [Dr.at_] at ff
        obtain ⟨f0, f1, f2, f3, f4, f5, f6, f7⟩ := ff
        by_cases hlt : y < F.m
        · have y1 : decide ((y : Int) < (F.m : Int)) = true := by simp; omega
          obtain ⟨k, G, hA, hk1, hk2, hrow⟩ := r2.out.row (by omega)
          have hb70 : F.m ≤ 70 := HF.out.small.b
          have g0 : (0 : Int) ≤ (y : Int) := by omega
          have g1 : (y : Int) < (F.m : Int) := by omega
          have c0 := hrow.cell hlt
          have c1 := hrow.free y
          have c2 := hrow.lt
          have k1 := Lib.hid hk1
          have k2 := Lib.hid hk2
          have HA := Lib.hid hA
          rw [hA] at f3
          clear hrow hk1 hk2 hA
          go_wp2
          refine ⟨⟨y + 1, by omega, by go_num, Lib.hid (b4.out.far (by have := k1.out; have := k2.out; have := hq1.out; have := hq2.out; have := hq3.out; simp; omega) _), Lib.hid (b6.out.far (by have := k1.out; have := k2.out; have := hq1.out; have := hq2.out; have := hq3.out; simp; omega) _), Lib.hid ?_, Lib.hid ?_, Lib.hid ⟨bb.out.bel.setCell (by have := k1.out; have := hq0.out; have := hq1.out; have := hq2.out; show _ ≤ k; omega) _⟩⟩, by simp [intOf]; omega⟩
          · exact r1.out.far (.inr (by have := k1.out; have := hq1.out; have := hq2.out; show _ ≤ k; omega)) _
          · rw [HA.out]; have h := r2.out; rw [HA.out] at h; exact h.set_ y (-5)
        · have e : y = F.m := by omega
          subst e
          have y1 : decide ((F.m : Int) < (F.m : Int)) = false := by simp
          skip
          have P_e := Lib.hid (PB.out.next bb.out.bel)
          have W_e := Lib.hid (WB.out.next bb.out.bel)
          have L_e := Lib.hid (LB.out.next bb.out.bel)
          have fp := P_e.out.box.all
          obtain ⟨f0_0, f0_1, f0_2, f0_3, f0_4, f0_5, f0_6, f0_7⟩ := fp
          have fu := W_e.out.box.all
          dsimp only [Dr.at_] at fu
          obtain ⟨f1_0, f1_1, f1_2, f1_3, f1_4, f1_5, f1_6, f1_7⟩ := fu
          go_wp2_with fail
          clear f0_0 f0_1 f0_2 f0_3 f0_4 f0_5 f0_6 f0_7 f1_0 f1_1 f1_2 f1_3 f1_4 f1_5 f1_6 f1_7 f0 f1 f2 f3 f4 f5 f6 f7
          with_reducible refine Calls.mono (rdsame_tw D HSM.out A2 B2 C2 c2 d2 e2 _ P_e.out.in_ W_e.out.in_) ?_
          rintro e wu9 ⟨rfl, hb⟩
          have P_9 := Lib.hid (P_e.out.next hb)
          have W_9 := Lib.hid (W_e.out.next hb)
          have L_9 := Lib.hid (L_e.out.next hb)
          clear P_e W_e L_e
          clear hb
          go_wp2
          refine bodyPost_ret (v := .bool true) (by simp [results, Try.results5, go_sem]) rfl ⟨rfl, L_9.out.bel⟩

theorem turns_any (D : Dr) (w : World) (hd : D.In w w.heap.size) :
    Calls Try.prog 5 #[.agg #[.int .i64 D.S, .int .i64 D.T, .slice D.A D.n D.c, .slice D.B D.m D.d, .int .i64 D.W, .int .i64 D.H, .slice D.C D.k D.e]] w fun e w' => e = .returned (.bool true) ∧ Below w.heap.size w w' := by
  rcases dgreat_case D with hs | hg
  · obtain ⟨E, err, hE⟩ := tn_pair D hs w hd
    obtain ⟨F, er2, hF⟩ := pr_pair D hs w hd
    exact turns_main D hs w hd E F err er2 hE hF
  · exact turns_great D w hd hg
end Go.Proofs.Ytbafhdinalapoaa
