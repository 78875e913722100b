/- The statement DraftWeaves. -/
import Derived.Test.YtbafhdinalapoaaVr
import Derived.Test.YtbafhdinalapoaaTwn
import Derived.BigRegion
namespace Go.Proofs.Ytbafhdinalapoaa
open Go.RowKit
set_option linter.unusedVariables false
set_option linter.unusedSimpArgs false
set_option maxRecDepth 100000

set_option maxHeartbeats 800000 in
theorem weaves_great1 (D E : Dr) (w : World) (hd : D.In w w.heap.size) (he : E.In w w.heap.size)  (hg : ∀ v, Calls Try.prog 24 #[.agg #[.int .i64 D.S, .int .i64 D.T, .slice D.A D.n D.c, .slice D.B D.m D.d, .int .i64 D.W, .int .i64 D.H, .slice D.C D.k D.e]] v fun e w' => e = .returned (.bool true) ∧ Below v.heap.size v w') :
    Calls Try.prog 4 #[.agg #[.int .i64 D.S, .int .i64 D.T, .slice D.A D.n D.c, .slice D.B D.m D.d, .int .i64 D.W, .int .i64 D.H, .slice D.C D.k D.e], .agg #[.int .i64 E.S, .int .i64 E.T, .slice E.A E.n E.c, .slice E.B E.m E.d, .int .i64 E.W, .int .i64 E.H, .slice E.C E.k E.e]] w fun e w' => e = .returned (.bool true) ∧ Below w.heap.size w w' := by
  obtain ⟨hx, hy, hz⟩ := dps2 w D E hd he
  have HG := Lib.hid hg
  have P_0 := Lib.hid (hx)
  have Q_0 := Lib.hid (hy)
  have L_0 := Lib.hid (hz)
  clear hx hy hz hg hd he
  go_enter Try.func4, Try.ntmps4
  go_wp2_with fail
  refine (HG.out _).mono ?_
  rintro e wu1 ⟨rfl, hb⟩
  have P_1 := Lib.hid (P_0.out.next hb)
  have Q_1 := Lib.hid (Q_0.out.next hb)
  have L_1 := Lib.hid (L_0.out.next hb)
  clear P_0 Q_0 L_0
  clear hb
  go_wp2
  go_ret
  exact ⟨rfl, L_1.out.bel⟩

set_option maxHeartbeats 800000 in
theorem weaves_great2 (D E : Dr) (w : World) (hd : D.In w w.heap.size) (he : E.In w w.heap.size) (h1 : D.Small) (hg : ∀ v, Calls Try.prog 24 #[.agg #[.int .i64 E.S, .int .i64 E.T, .slice E.A E.n E.c, .slice E.B E.m E.d, .int .i64 E.W, .int .i64 E.H, .slice E.C E.k E.e]] v fun e w' => e = .returned (.bool true) ∧ Below v.heap.size v w') :
    Calls Try.prog 4 #[.agg #[.int .i64 D.S, .int .i64 D.T, .slice D.A D.n D.c, .slice D.B D.m D.d, .int .i64 D.W, .int .i64 D.H, .slice D.C D.k D.e], .agg #[.int .i64 E.S, .int .i64 E.T, .slice E.A E.n E.c, .slice E.B E.m E.d, .int .i64 E.W, .int .i64 E.H, .slice E.C E.k E.e]] w fun e w' => e = .returned (.bool true) ∧ Below w.heap.size w w' := by
  obtain ⟨hx, hy, hz⟩ := dps2 w D E hd he
  have HG := Lib.hid hg
  have P_0 := Lib.hid (hx)
  have Q_0 := Lib.hid (hy)
  have L_0 := Lib.hid (hz)
  clear hx hy hz hg hd he
  go_enter Try.func4, Try.ntmps4
  go_wp2_with fail
  refine (dgreat_no D _ h1).mono ?_
  rintro e wu1 ⟨rfl, hb⟩
  have P_1 := Lib.hid (P_0.out.next hb)
  have Q_1 := Lib.hid (Q_0.out.next hb)
  have L_1 := Lib.hid (L_0.out.next hb)
  clear P_0 Q_0 L_0
  clear hb
  have ff := Q_1.out.box.all
  obtain ⟨f0_0, f0_1, f0_2, f0_3, f0_4, f0_5, f0_6, f0_7⟩ := ff
  go_wp2_with fail
  clear f0_0 f0_1 f0_2 f0_3 f0_4 f0_5 f0_6 f0_7
  refine (HG.out _).mono ?_
  rintro e wu2 ⟨rfl, hb⟩
  have P_2 := Lib.hid (P_1.out.next hb)
  have Q_2 := Lib.hid (Q_1.out.next hb)
  have L_2 := Lib.hid (L_1.out.next hb)
  clear P_1 Q_1 L_1
  clear hb
  go_wp2
  go_ret
  exact ⟨rfl, L_2.out.bel⟩

/-- Of what was there, two rows alone may have turned. -/
structure But2 (k l : Nat) (w w' : World) : Prop where
  os : w'.os = w.os
  tape : w'.tape = w.tape
  output : w'.output = w.output
  size : w.heap.size ≤ w'.heap.size
  block : ∀ b, b < w.heap.size → b ≠ k → b ≠ l → w'.heap[b]? = w.heap[b]?
section
variable {w w' w'' : World} {k l g lo b n c : Nat} {W H : Int} {A : Option Addr} {F : Nat → Bool} {D : Dr}
theorem But2.refl (k l : Nat) (w : World) : But2 k l w w := ⟨rfl, rfl, rfl, Nat.le_refl _, fun _ _ _ _ => rfl⟩
theorem But2.sets (h : But2 k l w w') (i j : Nat) (x y : Value) : But2 k l w ((w'.setCell ⟨k, i, none⟩ x).setCell ⟨l, j, none⟩ y) :=
  ⟨h.os, h.tape, h.output, by simpa [World.setCell] using h.size, fun b hb h1 h2 => by rw [Below.heap_setCell _ _ _ _ h2, Below.heap_setCell _ _ _ _ h1]; exact h.block b hb h1 h2⟩
theorem But2.drew (h : But2 k l w w') : But2 k l w w'.drew := ⟨h.os, h.tape, h.output, h.size, h.block⟩
theorem But2.drewN (h : But2 k l w w') (m : Nat) : But2 k l w (w'.drewN m) := ⟨h.os, h.tape, h.output, h.size, h.block⟩
theorem But2.below (h : But2 k l w w') {B : Nat} (hB : B ≤ w.heap.size) (h1 : B ≤ k) (h2 : B ≤ l) : Below B w w' := ⟨h.os, h.tape, h.output, h.size, fun b hb => h.block b (by omega) (by omega) (by omega)⟩
theorem But2.box {v : Value} (h : But2 k l w w') (hx : Box w g W H v) (h1 : g ≠ k) (h2 : g ≠ l) : Box w' g W H v := (h.block g hx.lt h1 h2).trans hx
theorem But2.row (h : But2 k l w w') (hx : Row w g n F) (h1 : g ≠ k) (h2 : g ≠ l) : Row w' g n F := by
  obtain ⟨cs, h3, h4⟩ := hx
  exact ⟨cs, (h.block g (by
    rcases Nat.lt_or_ge g w.heap.size with h | h
    · exact h
    · rw [Array.getElem?_eq_none h] at h3; cases h3) h1 h2).trans h3, h4⟩
end
/-- The first x cells have been cleared. -/
def zf (x : Nat) (F : Nat → Bool) (j : Nat) : Bool := if j < x then false else F j
theorem zf_zero (F : Nat → Bool) : zf 0 F = F := by funext j; simp [zf]
theorem zf_succ (x : Nat) (F : Nat → Bool) : (fun j => if j = x then false else zf x F j) = zf (x + 1) F := by
  funext j
  unfold zf
  by_cases e : j = x
  · subst e; simp
  · rw [if_neg e]
    by_cases h : j < x
    · rw [if_pos h, if_pos (by omega)]
    · rw [if_neg h, if_neg (by omega)]
theorem two_a {wr : World} {K1 K2 l x : Nat} {F : Nat → Bool} (h : Row wr K1 l (zf x F)) (e : K1 ≠ K2) (m : Nat) : Row (((wr.drewN m).setCell ⟨K1, x, none⟩ (.bool false)).setCell ⟨K2, x, none⟩ (.bool false)) K1 l (zf (x + 1) F) := by
  have h := ((h.drewN m).set_ x false).far (p := ⟨K2, x, none⟩) e (.bool false)
  rw [zf_succ] at h
  exact h
theorem two_b {wr : World} {K1 K2 l x : Nat} {F : Nat → Bool} (h : Row wr K2 l (zf x F)) (e : K1 ≠ K2) (m : Nat) : Row (((wr.drewN m).setCell ⟨K1, x, none⟩ (.bool false)).setCell ⟨K2, x, none⟩ (.bool false)) K2 l (zf (x + 1) F) := by
  have h := ((h.drewN m).far (p := ⟨K1, x, none⟩) (Ne.symm e) (.bool false)).set_ x false
  rw [zf_succ] at h
  exact h
theorem out_row {v : World} {A : Option Addr} {n lo : Nat} {F : Nat → Bool} (h : 0 < n → ∃ k, A = some ⟨k, 0, none⟩ ∧ lo ≤ k ∧ Row v k n F) : ∃ k, 0 < n → A = some ⟨k, 0, none⟩ ∧ lo ≤ k ∧ Row v k n F := by
  rcases Nat.eq_zero_or_pos n with h0 | h0
  · exact ⟨0, fun h => absurd h (by omega)⟩
  · obtain ⟨k, hk⟩ := h h0
    exact ⟨k, fun _ => hk⟩
/-- A grid in the variable at b, its cells in the row k. -/
structure GP (v : World) (lo b k : Nat) (W H : Int) (A : Option Addr) (n c : Nat) (F : Nat → Bool) : Prop where
  box : Box v b W H (.slice A n c)
  row : 0 < n → A = some ⟨k, 0, none⟩ ∧ lo ≤ k ∧ k < b ∧ Row v k n F
section
variable {v v' : World} {lo b k : Nat} {W H : Int} {A : Option Addr} {n c : Nat} {F : Nat → Bool}
theorem GP.next (h : GP v lo b k W H A n c F) (hb : Below v.heap.size v v') : GP v' lo b k W H A n c F :=
  ⟨h.box.below hb h.box.lt, fun hn => by
    obtain ⟨e, h1, h2, h3⟩ := h.row hn
    exact ⟨e, h1, h2, h3.below hb h3.lt⟩⟩
theorem GP.new {w1 : World} (hrow : 0 < n → A = some ⟨k, 0, none⟩ ∧ lo ≤ k ∧ Row w1 k n F) : GP (w1.alloc (.cells #[.int .i64 W, .int .i64 H, .slice A n c] 24)) lo w1.heap.size k W H A n c F :=
  ⟨Box.new w1 W H _, fun hn => by
    obtain ⟨e, h1, h3⟩ := hrow hn
    exact ⟨e, h1, h3.lt, h3.alloc _⟩⟩
theorem GP.holds (h : GP v lo b k W H A n c F) : Holds v v.heap.size A n F := fun hn => by
  obtain ⟨rfl, _, _, h3⟩ := h.row hn
  exact h3.holds h3.lt hn
end

theorem rgsm_true (W H : Int) (A D : Option Addr) (n c d : Nat) (f : Nat → Bool) (w : World) (hn : n ≤ 5000) (hr : Holds w w.heap.size A n f) (hs : Holds w w.heap.size D n f) :
    Calls Try.prog 31 #[.agg #[.int .i64 W, .int .i64 H, .slice A n c], .agg #[.int .i64 W, .int .i64 H, .slice D n d]] w fun e w' => e = .returned (.bool true) ∧ Below w.heap.size w w' := by
  have h := rgsm_any W H W H A D n n c d f f w hn hr hs
  have e : gsm W H n f W H n f = true := by unfold gsm; simp
  rw [e] at h
  exact h
theorem rdsame_at (D : Dr) (A : Option Addr) (c : Nat) (B : Option Addr) (d : Nat) (C : Option Addr) (e : Nat) (w : World) (hs : D.Small) (hd : D.In w w.heap.size) (he : (D.at_ A c B d C e).In w w.heap.size) :
    Calls Try.prog 30 #[.agg #[.int .i64 D.S, .int .i64 D.T, .slice D.A D.n D.c, .slice D.B D.m D.d, .int .i64 D.W, .int .i64 D.H, .slice D.C D.k D.e], .agg #[.int .i64 D.S, .int .i64 D.T, .slice A D.n c, .slice B D.m d, .int .i64 D.W, .int .i64 D.H, .slice C D.k e]] w fun e w' => e = .returned (.bool true) ∧ Below w.heap.size w w' := by
  have h := rdsame_any D (D.at_ A c B d C e) w hs hd he
  have e : dsm D (D.at_ A c B d C e) = true := by unfold dsm lsm gsm Dr.at_; simp
  rw [e] at h
  exact h

set_option maxHeartbeats 8000000 in
theorem weaves_main (D E : Dr) (w : World) (hd : D.In w w.heap.size) (he : E.In w w.heap.size) (hs : D.Small) (hs' : E.Small) :
    Calls Try.prog 4 #[.agg #[.int .i64 D.S, .int .i64 D.T, .slice D.A D.n D.c, .slice D.B D.m D.d, .int .i64 D.W, .int .i64 D.H, .slice D.C D.k D.e], .agg #[.int .i64 E.S, .int .i64 E.T, .slice E.A E.n E.c, .slice E.B E.m E.d, .int .i64 E.W, .int .i64 E.H, .slice E.C E.k E.e]] w fun e w' => e = .returned (.bool true) ∧ Below w.heap.size w w' := by
  obtain ⟨hx, hy, hz⟩ := dps2 w D E hd he
  obtain ⟨V1, U1, l1, F1, e1, hl1, hw1, hr1⟩ := weave_pair hs w hd
  obtain ⟨V2, U2, l2, F2, e2, hl2, hw2, hr2⟩ := lift_pair hs w hd
  have HS := Lib.hid hs
  have HS' := Lib.hid hs'
  have W1 := Lib.hid hw1
  have R1 := Lib.hid hr1
  have W2 := Lib.hid hw2
  have R2 := Lib.hid hr2
  have z1 : (e1 == e1) = true := by simp
  have z2 : (e2 == e2) = true := by simp
  have P_0 := Lib.hid (hx)
  have Q_0 := Lib.hid (hy)
  have L_0 := Lib.hid (hz)
  clear hx hy hz hd he hs hs' hw1 hr1 hw2 hr2
  go_enter Try.func4, Try.ntmps4
  go_wp2_with fail
  refine (dgreat_no D _ HS.out).mono ?_
  rintro e wu1 ⟨rfl, hb⟩
  have P_1 := Lib.hid (P_0.out.next hb)
  have Q_1 := Lib.hid (Q_0.out.next hb)
  have L_1 := Lib.hid (L_0.out.next hb)
  clear P_0 Q_0 L_0
  clear hb
  have ff := Q_1.out.box.all
  obtain ⟨f0_0, f0_1, f0_2, f0_3, f0_4, f0_5, f0_6, f0_7⟩ := ff
  go_wp2_with fail
  clear f0_0 f0_1 f0_2 f0_3 f0_4 f0_5 f0_6 f0_7
  refine (dgreat_no E _ HS'.out).mono ?_
  rintro e wu2 ⟨rfl, hb⟩
  have P_2 := Lib.hid (P_1.out.next hb)
  have Q_2 := Lib.hid (Q_1.out.next hb)
  have L_2 := Lib.hid (L_1.out.next hb)
  clear P_1 Q_1 L_1
  clear hb
  have ff := P_2.out.box.all
  obtain ⟨f0_0, f0_1, f0_2, f0_3, f0_4, f0_5, f0_6, f0_7⟩ := ff
  go_wp2_with fail
  clear f0_0 f0_1 f0_2 f0_3 f0_4 f0_5 f0_6 f0_7
  refine (rtwin_any D HS.out _ P_2.out.in_).mono ?_
  rintro e wu3 ⟨Aw, cw, Bw, dw, Cw, ew, rfl, hin, hb⟩
  have P_3 := Lib.hid (P_2.out.next hb)
  have Q_3 := Lib.hid (Q_2.out.next hb)
  have L_3 := Lib.hid (L_2.out.next hb)
  clear P_2 Q_2 L_2
  have S_3 := Lib.hid (show DP (wu3.alloc (.cells #[.int .i64 D.S, .int .i64 D.T, .slice Aw D.n cw, .slice Bw D.m dw, .int .i64 D.W, .int .i64 D.H, .slice Cw D.k ew] 30)) wu3.heap.size wu3.heap.size (D.at_ Aw cw Bw dw Cw ew) from DP.new _ hin)
  clear hb
  have ff := P_3.out.box.all
  obtain ⟨f0_0, f0_1, f0_2, f0_3, f0_4, f0_5, f0_6, f0_7⟩ := ff
  clear hin
  have s0 : w.heap.size + 1 < wu3.heap.size := Q_3.out.box.lt
  go_wp2_with fail
  clear f0_0 f0_1 f0_2 f0_3 f0_4 f0_5 f0_6 f0_7
  have jj : wu3.heap.size < (wu3.alloc (.cells #[.int .i64 D.S, .int .i64 D.T, .slice Aw D.n cw, .slice Bw D.m dw, .int .i64 D.W, .int .i64 D.H, .slice Cw D.k ew] 30)).heap.size := by simp
  have Pa_4 := Lib.hid (P_3.out.next ((Below.refl _ _).alloc (Nat.le_refl _) (.cells #[.int .i64 D.S, .int .i64 D.T, .slice Aw D.n cw, .slice Bw D.m dw, .int .i64 D.W, .int .i64 D.H, .slice Cw D.k ew] 30)))
  clear P_3
  have Qa_4 := Lib.hid (Q_3.out.next ((Below.refl _ _).alloc (Nat.le_refl _) (.cells #[.int .i64 D.S, .int .i64 D.T, .slice Aw D.n cw, .slice Bw D.m dw, .int .i64 D.W, .int .i64 D.H, .slice Cw D.k ew] 30)))
  clear Q_3
  have La_4 := Lib.hid (L_3.out.next ((Below.refl _ _).alloc (Nat.le_refl _) (.cells #[.int .i64 D.S, .int .i64 D.T, .slice Aw D.n cw, .slice Bw D.m dw, .int .i64 D.W, .int .i64 D.H, .slice Cw D.k ew] 30)))
  clear L_3
  generalize wu3.alloc (.cells #[.int .i64 D.S, .int .i64 D.T, .slice Aw D.n cw, .slice Bw D.m dw, .int .i64 D.W, .int .i64 D.H, .slice Cw D.k ew] 30) = wv3 at *
  have o3 : wu3.heap.size < wv3.heap.size := jj
  clear jj
  have mm := Nat.le_refl wv3.heap.size
  refine (W1.out _ La_4.out.bel).mono ?_
  rintro e wu4 ⟨A1, c1, rfl, hrow, hb⟩
  obtain ⟨k1, hrow⟩ := out_row hrow
  have P_4 := Lib.hid (Pa_4.out.next hb)
  have Q_4 := Lib.hid (Qa_4.out.next hb)
  have L_4 := Lib.hid (La_4.out.next hb)
  have S_4 := Lib.hid (S_3.out.next hb)
  clear Pa_4 Qa_4 La_4 S_3
  have G1_4 := Lib.hid (show GP (wu4.alloc (.cells #[.int .i64 V1, .int .i64 U1, .slice A1 l1 c1] 24)) wv3.heap.size wu4.heap.size k1 V1 U1 A1 l1 c1 F1 from GP.new hrow)
  have s1 : wv3.heap.size ≤ wu4.heap.size := hb.size
  clear hb hrow mm
  have ff := P_4.out.box.all
  obtain ⟨f0_0, f0_1, f0_2, f0_3, f0_4, f0_5, f0_6, f0_7⟩ := ff
  go_wp2_with fail
  clear f0_0 f0_1 f0_2 f0_3 f0_4 f0_5 f0_6 f0_7
  have jj : wu4.heap.size < (wu4.alloc (.cells #[.int .i64 V1, .int .i64 U1, .slice A1 l1 c1] 24)).heap.size := by simp
  have Pa_5 := Lib.hid (P_4.out.next ((Below.refl _ _).alloc (Nat.le_refl _) (.cells #[.int .i64 V1, .int .i64 U1, .slice A1 l1 c1] 24)))
  clear P_4
  have Qa_5 := Lib.hid (Q_4.out.next ((Below.refl _ _).alloc (Nat.le_refl _) (.cells #[.int .i64 V1, .int .i64 U1, .slice A1 l1 c1] 24)))
  clear Q_4
  have La_5 := Lib.hid (L_4.out.next ((Below.refl _ _).alloc (Nat.le_refl _) (.cells #[.int .i64 V1, .int .i64 U1, .slice A1 l1 c1] 24)))
  clear L_4
  have Sa_5 := Lib.hid (S_4.out.next ((Below.refl _ _).alloc (Nat.le_refl _) (.cells #[.int .i64 V1, .int .i64 U1, .slice A1 l1 c1] 24)))
  clear S_4
  generalize wu4.alloc (.cells #[.int .i64 V1, .int .i64 U1, .slice A1 l1 c1] 24) = wv4 at *
  have o4 : wu4.heap.size < wv4.heap.size := jj
  clear jj
  have mm := Nat.le_refl wv4.heap.size
  refine (R1.out _ La_5.out.bel).mono ?_
  rintro e wu5 ⟨A2, c2, rfl, hrow, hb⟩
  obtain ⟨k2, hrow⟩ := out_row hrow
  have P_5 := Lib.hid (Pa_5.out.next hb)
  have Q_5 := Lib.hid (Qa_5.out.next hb)
  have L_5 := Lib.hid (La_5.out.next hb)
  have S_5 := Lib.hid (Sa_5.out.next hb)
  have G1_5 := Lib.hid (G1_4.out.next hb)
  clear Pa_5 Qa_5 La_5 Sa_5 G1_4
  have G2_5 := Lib.hid (show GP (wu5.alloc (.cells #[.int .i64 V1, .int .i64 U1, .slice A2 l1 c2] 24)) wv4.heap.size wu5.heap.size k2 V1 U1 A2 l1 c2 F1 from GP.new hrow)
  have s2 : wv4.heap.size ≤ wu5.heap.size := hb.size
  clear hb hrow mm
  have ff := P_5.out.box.all
  obtain ⟨f0_0, f0_1, f0_2, f0_3, f0_4, f0_5, f0_6, f0_7⟩ := ff
  go_wp2_with fail
  clear f0_0 f0_1 f0_2 f0_3 f0_4 f0_5 f0_6 f0_7
  have jj : wu5.heap.size < (wu5.alloc (.cells #[.int .i64 V1, .int .i64 U1, .slice A2 l1 c2] 24)).heap.size := by simp
  have Pa_6 := Lib.hid (P_5.out.next ((Below.refl _ _).alloc (Nat.le_refl _) (.cells #[.int .i64 V1, .int .i64 U1, .slice A2 l1 c2] 24)))
  clear P_5
  have Qa_6 := Lib.hid (Q_5.out.next ((Below.refl _ _).alloc (Nat.le_refl _) (.cells #[.int .i64 V1, .int .i64 U1, .slice A2 l1 c2] 24)))
  clear Q_5
  have La_6 := Lib.hid (L_5.out.next ((Below.refl _ _).alloc (Nat.le_refl _) (.cells #[.int .i64 V1, .int .i64 U1, .slice A2 l1 c2] 24)))
  clear L_5
  have Sa_6 := Lib.hid (S_5.out.next ((Below.refl _ _).alloc (Nat.le_refl _) (.cells #[.int .i64 V1, .int .i64 U1, .slice A2 l1 c2] 24)))
  clear S_5
  have G1a_6 := Lib.hid (G1_5.out.next ((Below.refl _ _).alloc (Nat.le_refl _) (.cells #[.int .i64 V1, .int .i64 U1, .slice A2 l1 c2] 24)))
  clear G1_5
  generalize wu5.alloc (.cells #[.int .i64 V1, .int .i64 U1, .slice A2 l1 c2] 24) = wv5 at *
  have o5 : wu5.heap.size < wv5.heap.size := jj
  clear jj
  have mm := Nat.le_refl wv5.heap.size
  refine (W2.out _ La_6.out.bel).mono ?_
  rintro e wu6 ⟨A3, c3, rfl, hrow, hb⟩
  obtain ⟨k3, hrow⟩ := out_row hrow
  have P_6 := Lib.hid (Pa_6.out.next hb)
  have Q_6 := Lib.hid (Qa_6.out.next hb)
  have L_6 := Lib.hid (La_6.out.next hb)
  have S_6 := Lib.hid (Sa_6.out.next hb)
  have G1_6 := Lib.hid (G1a_6.out.next hb)
  have G2_6 := Lib.hid (G2_5.out.next hb)
  clear Pa_6 Qa_6 La_6 Sa_6 G1a_6 G2_5
  have G3_6 := Lib.hid (show GP (wu6.alloc (.cells #[.int .i64 V2, .int .i64 U2, .slice A3 l2 c3] 24)) wv5.heap.size wu6.heap.size k3 V2 U2 A3 l2 c3 F2 from GP.new hrow)
  have s3 : wv5.heap.size ≤ wu6.heap.size := hb.size
  clear hb hrow mm
  have ff := P_6.out.box.all
  obtain ⟨f0_0, f0_1, f0_2, f0_3, f0_4, f0_5, f0_6, f0_7⟩ := ff
  go_wp2_with fail
  clear f0_0 f0_1 f0_2 f0_3 f0_4 f0_5 f0_6 f0_7
  have jj : wu6.heap.size < (wu6.alloc (.cells #[.int .i64 V2, .int .i64 U2, .slice A3 l2 c3] 24)).heap.size := by simp
  have Pa_7 := Lib.hid (P_6.out.next ((Below.refl _ _).alloc (Nat.le_refl _) (.cells #[.int .i64 V2, .int .i64 U2, .slice A3 l2 c3] 24)))
  clear P_6
  have Qa_7 := Lib.hid (Q_6.out.next ((Below.refl _ _).alloc (Nat.le_refl _) (.cells #[.int .i64 V2, .int .i64 U2, .slice A3 l2 c3] 24)))
  clear Q_6
  have La_7 := Lib.hid (L_6.out.next ((Below.refl _ _).alloc (Nat.le_refl _) (.cells #[.int .i64 V2, .int .i64 U2, .slice A3 l2 c3] 24)))
  clear L_6
  have Sa_7 := Lib.hid (S_6.out.next ((Below.refl _ _).alloc (Nat.le_refl _) (.cells #[.int .i64 V2, .int .i64 U2, .slice A3 l2 c3] 24)))
  clear S_6
  have G1a_7 := Lib.hid (G1_6.out.next ((Below.refl _ _).alloc (Nat.le_refl _) (.cells #[.int .i64 V2, .int .i64 U2, .slice A3 l2 c3] 24)))
  clear G1_6
  have G2a_7 := Lib.hid (G2_6.out.next ((Below.refl _ _).alloc (Nat.le_refl _) (.cells #[.int .i64 V2, .int .i64 U2, .slice A3 l2 c3] 24)))
  clear G2_6
  generalize wu6.alloc (.cells #[.int .i64 V2, .int .i64 U2, .slice A3 l2 c3] 24) = wv6 at *
  have o6 : wu6.heap.size < wv6.heap.size := jj
  clear jj
  have mm := Nat.le_refl wv6.heap.size
  refine (R2.out _ La_7.out.bel).mono ?_
  rintro e wu7 ⟨A4, c4, rfl, hrow, hb⟩
  obtain ⟨k4, hrow⟩ := out_row hrow
  have P_7 := Lib.hid (Pa_7.out.next hb)
  have Q_7 := Lib.hid (Qa_7.out.next hb)
  have L_7 := Lib.hid (La_7.out.next hb)
  have S_7 := Lib.hid (Sa_7.out.next hb)
  have G1_7 := Lib.hid (G1a_7.out.next hb)
  have G2_7 := Lib.hid (G2a_7.out.next hb)
  have G3_7 := Lib.hid (G3_6.out.next hb)
  clear Pa_7 Qa_7 La_7 Sa_7 G1a_7 G2a_7 G3_6
  have G4_7 := Lib.hid (show GP (wu7.alloc (.cells #[.int .i64 V2, .int .i64 U2, .slice A4 l2 c4] 24)) wv6.heap.size wu7.heap.size k4 V2 U2 A4 l2 c4 F2 from GP.new hrow)
  have s4 : wv6.heap.size ≤ wu7.heap.size := hb.size
  clear hb hrow mm
  have ff := P_7.out.box.all
  obtain ⟨f0_0, f0_1, f0_2, f0_3, f0_4, f0_5, f0_6, f0_7⟩ := ff
  go_wp2
  clear f0_0 f0_1 f0_2 f0_3 f0_4 f0_5 f0_6 f0_7
  have jj : wu7.heap.size < (wu7.alloc (.cells #[.int .i64 V2, .int .i64 U2, .slice A4 l2 c4] 24)).heap.size := by simp
  have Pa_7 := Lib.hid (P_7.out.next ((Below.refl _ _).alloc (Nat.le_refl _) (.cells #[.int .i64 V2, .int .i64 U2, .slice A4 l2 c4] 24)))
  clear P_7
  have Qa_7 := Lib.hid (Q_7.out.next ((Below.refl _ _).alloc (Nat.le_refl _) (.cells #[.int .i64 V2, .int .i64 U2, .slice A4 l2 c4] 24)))
  clear Q_7
  have La_7 := Lib.hid (L_7.out.next ((Below.refl _ _).alloc (Nat.le_refl _) (.cells #[.int .i64 V2, .int .i64 U2, .slice A4 l2 c4] 24)))
  clear L_7
  have Sa_7 := Lib.hid (S_7.out.next ((Below.refl _ _).alloc (Nat.le_refl _) (.cells #[.int .i64 V2, .int .i64 U2, .slice A4 l2 c4] 24)))
  clear S_7
  have G1a_7 := Lib.hid (G1_7.out.next ((Below.refl _ _).alloc (Nat.le_refl _) (.cells #[.int .i64 V2, .int .i64 U2, .slice A4 l2 c4] 24)))
  clear G1_7
  have G2a_7 := Lib.hid (G2_7.out.next ((Below.refl _ _).alloc (Nat.le_refl _) (.cells #[.int .i64 V2, .int .i64 U2, .slice A4 l2 c4] 24)))
  clear G2_7
  have G3a_7 := Lib.hid (G3_7.out.next ((Below.refl _ _).alloc (Nat.le_refl _) (.cells #[.int .i64 V2, .int .i64 U2, .slice A4 l2 c4] 24)))
  clear G3_7
  generalize wu7.alloc (.cells #[.int .i64 V2, .int .i64 U2, .slice A4 l2 c4] 24) = wv7 at *
  have o7 : wu7.heap.size < wv7.heap.size := jj
  clear jj
  have P := Pa_7
  clear Pa_7
  have Q := Qa_7
  clear Qa_7
  have L := La_7
  clear La_7
  have S := Sa_7
  clear Sa_7
  have G1 := G1a_7
  clear G1a_7
  have G2 := G2a_7
  clear G2a_7
  have G3 := G3a_7
  clear G3a_7
  have G4 := G4_7
  clear G4_7
  have hr1 := Lib.hid G1.out.row
  have hr2 := Lib.hid G2.out.row
  have hr3 := Lib.hid G3.out.row
  have hr4 := Lib.hid G4.out.row
  have hK : ∃ K1 K2, (wu3.heap.size < K1 ∧ wu3.heap.size < K2 ∧ K1 ≠ wu4.heap.size ∧ K1 ≠ wu5.heap.size ∧ K1 ≠ wu6.heap.size ∧ K1 ≠ wu7.heap.size ∧ K2 ≠ wu4.heap.size ∧ K2 ≠ wu5.heap.size ∧ K2 ≠ wu6.heap.size ∧ K2 ≠ wu7.heap.size) ∧
      (0 < l2 → k3 ≠ K1 ∧ k3 ≠ K2 ∧ k4 ≠ K1 ∧ k4 ≠ K2) ∧ (0 < l1 → K1 = k1 ∧ K2 = k2 ∧ K1 ≠ K2) := by
    rcases Nat.eq_zero_or_pos l1 with h0 | h0
    · refine ⟨wv7.heap.size, wv7.heap.size, ⟨by omega, by omega, by omega, by omega, by omega, by omega, by omega, by omega, by omega, by omega⟩, fun h => ?_, fun h => absurd h (by omega)⟩
      obtain ⟨_, a1, a2, _⟩ := hr3.out h
      obtain ⟨_, b1, b2, _⟩ := hr4.out h
      exact ⟨by omega, by omega, by omega, by omega⟩
    · obtain ⟨_, c1', c2', _⟩ := hr1.out h0
      obtain ⟨_, d1, d2, _⟩ := hr2.out h0
      refine ⟨k1, k2, ⟨by omega, by omega, by omega, by omega, by omega, by omega, by omega, by omega, by omega, by omega⟩, fun h => ?_, fun h => ⟨rfl, rfl, by omega⟩⟩
      obtain ⟨_, a1, a2, _⟩ := hr3.out h
      obtain ⟨_, b1, b2, _⟩ := hr4.out h
      exact ⟨by omega, by omega, by omega, by omega⟩
  obtain ⟨K1, K2, hK, hK3, hK1⟩ := hK
  have HK3 := Lib.hid hK3
  have HK1 := Lib.hid hK1
  have HK := Lib.hid hK
  clear hK3 hK1 hK
  have R0 := Lib.hid (show (0 < l1 → Row wv7 K1 l1 (zf 0 F1) ∧ Row wv7 K2 l1 (zf 0 F1)) from fun h => by
    obtain ⟨e1, e2, _⟩ := HK1.out h
    rw [e1, e2, zf_zero]
    exact ⟨(hr1.out h).2.2.2, (hr2.out h).2.2.2⟩)
  go_loopw [14] (fun i wr => ∃ x : Nat, x ≤ l1 ∧ i = .int .i64 x ∧ Hid (But2 K1 K2 wv7 wr) ∧ Hid (0 < l1 → Row wr K1 l1 (zf x F1) ∧ Row wr K2 l1 (zf x F1))) (fun i _ => l1 - (intOf i).toNat)
  case atStart => exact ⟨0, Nat.zero_le _, rfl, But2.refl _ _ _, R0.out⟩
  case round =>
    obtain ⟨x, hx, rfl, hbt, hrw⟩ := hrel
    have hb1 := (hbt.out.box G1.out.box (fun h => HK.out.2.2.1 h.symm) (fun h => HK.out.2.2.2.2.2.2.1 h.symm)).all
    have hb2 := (hbt.out.box G2.out.box (fun h => HK.out.2.2.2.1 h.symm) (fun h => HK.out.2.2.2.2.2.2.2.1 h.symm)).all
    obtain ⟨q0, q1, q2, q3, q4, q5, q6⟩ := hb1
    obtain ⟨p0, p1, p2, p3, p4, p5, p6⟩ := hb2
    by_cases hlx : x < l1
    · obtain ⟨e1, e2, e3⟩ := HK1.out (by omega)
      obtain ⟨hA1, _⟩ := hr1.out (by omega)
      obtain ⟨hA2, _⟩ := hr2.out (by omega)
      rw [← e1] at hA1
      rw [← e2] at hA2
      obtain ⟨hra, hrb⟩ := hrw.out (by omega)
      have ca := hra.cell hlx
      have cb := hrb.cell hlx
      have fa := hra.free x
      have fb := hrb.free x
      have la := hra.lt
      have lb := hrb.lt
      have ez : zf x F1 x = F1 x := by unfold zf; rw [if_neg (by omega)]
      rw [ez] at ca cb
      have HRA := Lib.hid hra
      have HRB := Lib.hid hrb
      obtain ⟨_, _, n1, n2, _, _, n3, n4, _, _⟩ := HK.out
      have n1' := Ne.symm n1
      have n2' := Ne.symm n2
      have n3' := Ne.symm n3
      have n4' := Ne.symm n4
      have e3' := Ne.symm e3
      clear hra hrb ez e1 e2
      have y1 : (0 : Int) ≤ (x : Int) := by omega
      have y2 : (x : Int) < (l1 : Int) := by omega
      have y3 : decide ((x : Int) < (l1 : Int)) = true := by simp; omega
      subst hA1 hA2
      cases hF : F1 x
      all_goals
        rw [hF] at ca cb
        go_wp2
        go_quiet (fail)
        go_wp2
        go_region
        go_wp2
        refine ⟨⟨x + 1, by omega, by go_num, ?_, fun h => ⟨?_, ?_⟩⟩, by simp [intOf]; omega⟩
        · exact (hbt.out.drewN _).sets _ _ _ _
        · exact two_a HRA.out e3 _
        · exact two_b HRB.out e3 _
    · have e : x = l1 := by omega
      have y3 : decide ((x : Int) < (l1 : Int)) = false := by simp; omega
      have P' := Lib.hid (show DP wr w.heap.size w.heap.size D from ⟨(hbt.out.block _ P.out.box.lt (by have := HK.out; omega) (by have := HK.out; omega)).trans P.out.box, P.out.cells.below (hbt.out.below P.out.le (by have := HK.out; omega) (by have := HK.out; omega)), Nat.le_trans P.out.le hbt.out.size⟩)
      have Q' := Lib.hid (show DP wr (w.heap.size + 1) w.heap.size E from ⟨(hbt.out.block _ Q.out.box.lt (by have := HK.out; omega) (by have := HK.out; omega)).trans Q.out.box, Q.out.cells.below (hbt.out.below Q.out.le (by have := HK.out; omega) (by have := HK.out; omega)), Nat.le_trans Q.out.le hbt.out.size⟩)
      have S' := Lib.hid (show DP wr wu3.heap.size wu3.heap.size (D.at_ Aw cw Bw dw Cw ew) from ⟨(hbt.out.block _ S.out.box.lt (by have := HK.out; omega) (by have := HK.out; omega)).trans S.out.box, S.out.cells.below (hbt.out.below S.out.le (by have := HK.out; omega) (by have := HK.out; omega)), Nat.le_trans S.out.le hbt.out.size⟩)
      have L' := Lib.hid (show Below w.heap.size w wr from L.out.bel.trans (hbt.out.below L.out.size (by have := HK.out; omega) (by have := HK.out; omega)))
      have G1' := Lib.hid (show GP wr wv3.heap.size wu4.heap.size K1 V1 U1 A1 l1 c1 (fun _ => false) from ⟨hbt.out.box G1.out.box (by have := HK.out; omega) (by have := HK.out; omega), fun h => by
        obtain ⟨e1, e2, e3⟩ := HK1.out h
        obtain ⟨a1, a2, a3, _⟩ := hr1.out h
        exact ⟨by rw [e1]; exact a1, by omega, by omega, (hrw.out h).1.congr fun i hi => by unfold zf; rw [if_pos (by omega)]⟩⟩)
      have G2' := Lib.hid (show GP wr wv4.heap.size wu5.heap.size K2 V1 U1 A2 l1 c2 (fun _ => false) from ⟨hbt.out.box G2.out.box (by have := HK.out; omega) (by have := HK.out; omega), fun h => by
        obtain ⟨e1, e2, e3⟩ := HK1.out h
        obtain ⟨a1, a2, a3, _⟩ := hr2.out h
        exact ⟨by rw [e2]; exact a1, by omega, by omega, (hrw.out h).2.congr fun i hi => by unfold zf; rw [if_pos (by omega)]⟩⟩)
      have G3' := Lib.hid (show GP wr wv5.heap.size wu6.heap.size k3 V2 U2 A3 l2 c3 F2 from ⟨hbt.out.box G3.out.box (by have := HK.out; omega) (by have := HK.out; omega), fun h => by
        obtain ⟨a1, a2, a3, a4⟩ := hr3.out h
        have := HK3.out h
        exact ⟨a1, a2, a3, hbt.out.row a4 (by omega) (by omega)⟩⟩)
      have G4' := Lib.hid (show GP wr wv6.heap.size wu7.heap.size k4 V2 U2 A4 l2 c4 F2 from ⟨hbt.out.box G4.out.box (by have := HK.out; omega) (by have := HK.out; omega), fun h => by
        obtain ⟨a1, a2, a3, a4⟩ := hr4.out h
        have := HK3.out h
        exact ⟨a1, a2, a3, hbt.out.row a4 (by omega) (by omega)⟩⟩)
      clear hbt hrw P Q S L G1 G2 G3 G4
      go_wp2
      obtain ⟨I, Wf, i0, h0, hbf, hcl⟩ := family wr
      have HCL := Lib.hid hcl
      have pP := fun n => (P'.out.next (hbf n)).box.all
      have pQ := fun n => (Q'.out.next (hbf n)).box.all
      have pS := fun n => (S'.out.next (hbf n)).box.all
      have pA := fun n => (G1'.out.next (hbf n)).box.all
      have pB := fun n => (G2'.out.next (hbf n)).box.all
      have pC := fun n => (G3'.out.next (hbf n)).box.all
      have pD := fun n => (G4'.out.next (hbf n)).box.all
      have a0 := fun n => (pP n).1
      have a1 := fun n => (pP n).2.1
      have a2 := fun n => (pP n).2.2.1
      have a3 := fun n => (pP n).2.2.2.1
      have a4 := fun n => (pP n).2.2.2.2.1
      have a5 := fun n => (pP n).2.2.2.2.2.1
      have a6 := fun n => (pP n).2.2.2.2.2.2.1
      have b0 := fun n => (pQ n).1
      have b1 := fun n => (pQ n).2.1
      have b2 := fun n => (pQ n).2.2.1
      have b3 := fun n => (pQ n).2.2.2.1
      have b4 := fun n => (pQ n).2.2.2.2.1
      have b5 := fun n => (pQ n).2.2.2.2.2.1
      have b6 := fun n => (pQ n).2.2.2.2.2.2.1
      have d0 := fun n => (pS n).1
      have d1 := fun n => (pS n).2.1
      have d2 := fun n => (pS n).2.2.1
      have d3 := fun n => (pS n).2.2.2.1
      have d4 := fun n => (pS n).2.2.2.2.1
      have d5 := fun n => (pS n).2.2.2.2.2.1
      have d6 := fun n => (pS n).2.2.2.2.2.2.1
      dsimp only [Dr.at_] at d0 d1 d2 d3 d4 d5 d6
      have g10 := fun n => (pA n).1
      have g11 := fun n => (pA n).2.1
      have g12 := fun n => (pA n).2.2.1
      have g20 := fun n => (pB n).1
      have g21 := fun n => (pB n).2.1
      have g22 := fun n => (pB n).2.2.1
      have g30 := fun n => (pC n).1
      have g31 := fun n => (pC n).2.1
      have g32 := fun n => (pC n).2.2.1
      have g40 := fun n => (pD n).1
      have g41 := fun n => (pD n).2.1
      have g42 := fun n => (pD n).2.2.1
      have BF := Lib.hid (fun n => L'.out.trans ((hbf n).mono L'.out.size))
      have C1 := Lib.hid (fun n => (dck_any D (Wf n) HS.out (P'.out.next (hbf n)).in_).mono fun e w2 h => (⟨h.1, HCL.out n _ h.2⟩ : _ ∧ ∃ m, w2 = Wf m))
      have C2 := Lib.hid (fun n => (rck_any D (Wf n) HS.out (P'.out.next (hbf n)).in_).mono fun e w2 h => (⟨h.1, HCL.out n _ h.2⟩ : _ ∧ ∃ m, w2 = Wf m))
      have C3 := Lib.hid (fun n => (dsame_any D E (Wf n) HS.out (P'.out.next (hbf n)).in_ (Q'.out.next (hbf n)).in_).mono fun e w2 h => (⟨h.1, HCL.out n _ h.2⟩ : _ ∧ ∃ m, w2 = Wf m))
      have C4 := Lib.hid (fun n => (rdsame_any D E (Wf n) HS.out (P'.out.next (hbf n)).in_ (Q'.out.next (hbf n)).in_).mono fun e w2 h => (⟨h.1, HCL.out n _ h.2⟩ : _ ∧ ∃ m, w2 = Wf m))
      have C5 := Lib.hid (fun n => (rgsm_true V1 U1 A1 A2 l1 c1 c2 (fun _ => false) (Wf n) (by omega) (G1'.out.next (hbf n)).holds (G2'.out.next (hbf n)).holds).mono fun e w2 h => (⟨h.1, HCL.out n _ h.2⟩ : _ ∧ ∃ m, w2 = Wf m))
      have C6 := Lib.hid (fun n => (rgsm_true V2 U2 A3 A4 l2 c3 c4 F2 (Wf n) (by omega) (G3'.out.next (hbf n)).holds (G4'.out.next (hbf n)).holds).mono fun e w2 h => (⟨h.1, HCL.out n _ h.2⟩ : _ ∧ ∃ m, w2 = Wf m))
      have C7 := Lib.hid (fun n => (rdsame_at D Aw cw Bw dw Cw ew (Wf n) HS.out (P'.out.next (hbf n)).in_ (S'.out.next (hbf n)).in_).mono fun e w2 h => (⟨h.1, HCL.out n _ h.2⟩ : _ ∧ ∃ m, w2 = Wf m))
      have zk : (D.ck == D.ck) = true := by simp
      have zd : (dsm D E == dsm D E) = true := by simp
      generalize D.ck = ck at *
      generalize dsm D E = dd at *
      clear hbf hcl pP pQ pS pA pB pC pD q0 q1 q2 q3 q4 q5 q6 p0 p1 p2 p3 p4 p5 p6
      refine wp_region_fam Wf i0 h0 (by kernel_rfl) (by kernel_rfl) ?_
      clear h0
      have hne : Nonempty I := ⟨i0⟩
      repeat (go_big_quiet_step (first | exact rfl | (go_at_call 21; with_reducible exact C1.out _) | (go_at_call 29; with_reducible exact C2.out _) | (go_at_call 22; with_reducible exact C3.out _) | (go_at_call 30; with_reducible exact C4.out _) | (go_at_call 30; with_reducible exact C7.out _) | (go_at_call 31; with_reducible exact C5.out _) | (go_at_call 31; with_reducible exact C6.out _)))
      refine wpQuiet_nil ?_
      rintro _ ⟨nq, rfl⟩
      go_wp2
      refine bodyPost_ret (v := .bool true) (by simp [results, Try.results4, go_sem]) rfl ⟨rfl, BF.out nq⟩

theorem weaves_any (D E : Dr) (w : World) (hd : D.In w w.heap.size) (he : E.In w w.heap.size) :
    Calls Try.prog 4 #[.agg #[.int .i64 D.S, .int .i64 D.T, .slice D.A D.n D.c, .slice D.B D.m D.d, .int .i64 D.W, .int .i64 D.H, .slice D.C D.k D.e], .agg #[.int .i64 E.S, .int .i64 E.T, .slice E.A E.n E.c, .slice E.B E.m E.d, .int .i64 E.W, .int .i64 E.H, .slice E.C E.k E.e]] w fun e w' => e = .returned (.bool true) ∧ Below w.heap.size w w' := by
  rcases dgreat_case D with h1 | h1
  · rcases dgreat_case E with h2 | h2
    · exact weaves_main D E w hd he h1 h2
    · exact weaves_great2 D E w hd he h1 h2
  · exact weaves_great1 D E w hd he h1
end Go.Proofs.Ytbafhdinalapoaa
