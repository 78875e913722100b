/- The chapter's examples: 'is', 'refused', 'alive'. -/
import Derived.Test.YtcmpoblbjjoaiaaDoorTxt
import Derived.Test.YtcmpoblbjjoaiaaDoorPrs
import Derived.Test.YtcmpoblbjjoaiaaDoorMau
import Derived.Test.YtcmpoblbjjoaiaaDoorPtd
import Derived.Test.YtcmpoblbjjoaiaaDoorPar
namespace Go.Proofs.YtcmpoblbjjoaiaaDoor
open Go.RowKit
set_option linter.unusedVariables false
set_option linter.unusedSimpArgs false
set_option maxRecDepth 100000

/-- A list that stands in the text. -/
def lt (l : List Int) (i : Nat) : Int := l.getD i 0
theorem lit_row (w : World) (l : List Int) {cs : Array Value} (hcs : cs = (l.map (Value.int .i64)).toArray) : Row (w.alloc (.cells cs 3)) w.heap.size l.length (lt l) := by
  subst hcs
  refine ⟨_, heap_alloc_new w _, by simp, fun i hi => ?_⟩
  simp [lt, List.getD, hi]

set_option maxHeartbeats 400000 in
theorem is_yes (A D : Option Addr) (n c d : Nat) (f g : Nat → Int) (w : World) (hn : n ≤ 5000) (hr : Holds w w.heap.size A n f) (hs : Holds w w.heap.size D n g) (h : ∀ i, i < n → f i = g i) :
    Calls Tryd.prog 17 #[.slice A n c, .int .i64 0, .slice D n d] w fun e w' => e = .returned (.bool true) ∧ Below w.heap.size w w' := by
  have HS := Lib.hid (rsame_any A D n c d f g w hn hr hs)
  have HD := Lib.hid (show decide (∀ i, i < n → f i = g i) = true by simpa using h)
  clear h hr hs
  go_enter Tryd.func17, Tryd.ntmps17
  go_wp2_with fail
  refine HS.out.mono ?_
  rintro e w1 ⟨rfl, hb⟩
  rw [HD.out]
  go_wp2
  go_ret
  exact ⟨rfl, hb⟩

set_option maxHeartbeats 400000 in
theorem refused_yes (s : ByteArray) (hz : s.size ≤ 1000000) (w : World) (h : Env w) (hn : ¬ psAll s.data.toList) :
    Calls Tryd.prog 19 #[.string s] w fun e w' => e = .returned (.bool true) ∧ Below w.heap.size w w' := by
  have HP : Hid (Calls Tryd.prog 15 #[.string s] w (LOut w 0 (fun _ => 0) 12)) := Lib.hid ((parse_any s hz w h).mono fun _ _ hp => hp.elim (fun h => absurd h.1 hn) (fun h => h.2))
  clear hn h
  go_enter Tryd.func19, Tryd.ntmps19
  go_wp2_with fail
  refine HP.out.mono ?_
  rintro e w1 ⟨A, c, rfl, -, -, hb⟩
  go_wp2
  go_ret
  exact ⟨rfl, hb⟩

theorem wd_first {c : UInt8} {r : List UInt8} (h : c.toNat < 49) : wd (c :: r) = none := by
  cases hw : wd (c :: r) with
  | none => rfl
  | some v =>
    obtain ⟨_, h2⟩ := wd_spec hw
    obtain ⟨c', r', e, _, _, h3⟩ := dd_cons (v + 1)
    rw [h2] at e
    injection e with e1 _
    have := h3 (by omega)
    rw [← e1] at this
    omega
theorem wd_big {l : List UInt8} {n : Int} (h : Lib.atoiAll l = .ok n) (hn : 400 < n) : wd l = none := by
  cases hw : wd l with
  | none => rfl
  | some v =>
    obtain ⟨h1, h2⟩ := wd_spec hw
    have := dd_atoi (n := v + 1) (by omega)
    rw [h2, h] at this
    injection this
    omega
theorem not_ps {l : List UInt8} (h0 : l ≠ []) (w : List UInt8) (hw : w ∈ words l) (h : wd w = none) : ¬ psAll l := by
  rintro (h1 | ⟨_, h2⟩)
  · exact h0 h1
  · obtain ⟨v, hv⟩ := h2 w hw
    rw [h] at hv
    cases hv
theorem no0 : ¬ psAll [48] := not_ps (by simp) [48] (by decide) (wd_first (by decide))
theorem no1 : ¬ psAll [49, 32, 32, 50] := not_ps (by simp) [] (by decide) wd_nil
theorem no2 : ¬ psAll [48, 49] := not_ps (by simp) [48, 49] (by decide) (wd_first (by decide))
theorem no3 : ¬ psAll [52, 48, 49] := not_ps (by simp) [52, 48, 49] (by decide) (wd_big (n := 401) (by decide) (by decide))

theorem tx019 : tx (lt [0, 1, 9]) 3 = [49, 32, 50, 32, 49, 48] := by
  rw [tx_succ _ (by omega), tx_succ _ (by omega), tx_one]
  have e0 : wo (lt [0, 1, 9] 0) = [49] := by show dd 1 = _; rw [dd_small (by omega)]; rfl
  have e1 : wo (lt [0, 1, 9] 1) = [50] := by show dd 2 = _; rw [dd_small (by omega)]; rfl
  have e2 : wo (lt [0, 1, 9] 2) = [49, 48] := by show dd 10 = _; rw [dd_big (by omega), dd_small (by omega)]; rfl
  rw [e0, e1, e2]
  rfl
theorem cons_ex : Cons (lt [7, 3, 7, 0]) (lt [1, 5, 1, 4]) 4 := by
  intro i j hi hj
  have : (i = 1 ∧ j = 0) ∨ (i = 2 ∧ j = 0) ∨ (i = 2 ∧ j = 1) ∨ (i = 3 ∧ j = 0) ∨ (i = 3 ∧ j = 1) ∨ (i = 3 ∧ j = 2) := by omega
  rcases this with ⟨rfl, rfl⟩ | ⟨rfl, rfl⟩ | ⟨rfl, rfl⟩ | ⟨rfl, rfl⟩ | ⟨rfl, rfl⟩ | ⟨rfl, rfl⟩ <;> decide

/-- Match, at two lists that match. -/
theorem match_yes (A : Option Addr) (n c : Nat) (a : Nat → Int) (D : Option Addr) (d : Nat) (b : Nat → Int) (N : Nat) (w : World) (hr : Holds w w.heap.size A n a) (hs : Holds w w.heap.size D n b) (h0 : 0 < n)
    (hx : lchk n a = 0) (hy : lchk n b = 0) (hN : mxs a n + 1 = (N : Int)) (hc : Cons a b n) : Calls Tryd.prog 14 #[.slice A n c, .slice D n d] w (LOut w N (fun x => mt a b n x) 0) :=
  (match_main A n c a D d b N w hr hs h0 (lchk_le hx) (by unfold bchk; rw [hx]; simpa using hy) hN (lchk_zero hx) (lchk_zero hy)).mono fun _ _ h => h.elim (fun h => h.2) (fun h => absurd hc h.1)

set_option maxHeartbeats 3200000 in
theorem alive_any (w : World) (h : Env w) : Calls Tryd.prog 20 #[] w fun e w' => e = .returned (.bool true) ∧ Below w.heap.size w w' := by
  have HE := Lib.hid h
  have B0 := Lib.hid ((Below.refl w.heap.size w).alloc (Nat.le_refl _) (.cells #[.int .i64 0, .int .i64 1, .int .i64 9] 3))
  have R0 := Lib.hid (lit_row w [0, 1, 9] (cs := #[.int .i64 0, .int .i64 1, .int .i64 9]) rfl)
  have T0 := Lib.hid (text_ok _ 3 3 _ _ (R0.out.holds (by simp)) (by decide) (h.next B0.out))
  rw [tx019] at T0
  clear h
  go_enter Tryd.func20, Tryd.ntmps20
  go_wp2_with fail
  refine T0.out.mono ?_
  rintro e u1 ⟨rfl, hb⟩
  have L1 := Lib.hid (B0.out.trans (hb.mono B0.out.size))
  have E1 := Lib.hid (HE.out.next L1.out)
  clear hb B0 R0 T0
  have B1 := Lib.hid ((Below.refl u1.heap.size u1).alloc (Nat.le_refl _) (.cells #[.int .i64 7, .int .i64 3, .int .i64 7, .int .i64 0] 3))
  have R1 := Lib.hid (lit_row u1 [7, 3, 7, 0] (cs := #[.int .i64 7, .int .i64 3, .int .i64 7, .int .i64 0]) rfl)
  have T1 := Lib.hid (renumber_ok _ 4 4 _ _ (R1.out.holds (by simp)) (by decide))
  go_wp2_with fail
  refine T1.out.mono ?_
  rintro e u2 ⟨A2, c2, rfl, -, hrow, hb⟩
  have V2 := Lib.hid (LV.of hrow)
  have L2 := Lib.hid (L1.out.trans ((B1.out.trans (hb.mono B1.out.size)).mono L1.out.size))
  clear hrow hb B1 R1 T1 E1
  have B2 := Lib.hid (((Below.refl u2.heap.size u2).alloc (Nat.le_refl _) (.cells #[.int .i64 7, .int .i64 3, .int .i64 7, .int .i64 0] 3)).alloc (by simp) (.cells #[.int .i64 1, .int .i64 5, .int .i64 1, .int .i64 4] 3))
  have R2 := Lib.hid ((lit_row u2 [7, 3, 7, 0] (cs := #[.int .i64 7, .int .i64 3, .int .i64 7, .int .i64 0]) rfl).alloc (.cells #[.int .i64 1, .int .i64 5, .int .i64 1, .int .i64 4] 3))
  have R3 := Lib.hid (lit_row (u2.alloc (.cells #[.int .i64 7, .int .i64 3, .int .i64 7, .int .i64 0] 3)) [1, 5, 1, 4] (cs := #[.int .i64 1, .int .i64 5, .int .i64 1, .int .i64 4]) rfl)
  have T2 := Lib.hid (match_yes _ 4 4 _ _ 4 _ 8 _ (R2.out.holds (by rw [World.size_alloc, World.size_alloc]; omega)) (R3.out.holds (by simp)) (by omega) (by decide) (by decide) (by decide) cons_ex)
  go_wp2_with fail
  simp only [World.size_alloc] at T2
  refine T2.out.mono ?_
  rintro e u3 ⟨A3, c3, rfl, -, hrow, hb⟩
  have V3 := Lib.hid (LV.of hrow)
  have V2b := Lib.hid (V2.out.next (B2.out.trans (hb.mono (by simp; omega))))
  have L3 := Lib.hid (L2.out.trans ((B2.out.trans (hb.mono (by simp; omega))).mono L2.out.size))
  clear hrow hb B2 R2 R3 T2 V2 L1 L2
  have T3 := Lib.hid (pointed_ok 3 7 u3 (by decide) (by omega) (by omega) (by omega))
  go_wp2_with fail
  refine T3.out.mono ?_
  rintro e u4 ⟨A4, c4, rfl, -, hrow, hb⟩
  have V4 := Lib.hid (LV.of hrow)
  have V2 := Lib.hid (V2b.out.next hb)
  have V3b := Lib.hid (V3.out.next hb)
  have L4 := Lib.hid (L3.out.trans (hb.mono L3.out.size))
  clear hrow hb T3 V2b V3 L3
  have B := Lib.hid ((Below.refl u4.heap.size u4).alloc (Nat.le_refl _) (.cells #[.int .i64 0, .int .i64 1, .int .i64 0, .int .i64 2] 3))
  have R := Lib.hid (lit_row u4 [0, 1, 0, 2] (cs := #[.int .i64 0, .int .i64 1, .int .i64 0, .int .i64 2]) rfl)
  have T := Lib.hid (is_yes _ _ 4 c2 4 _ _ _ (by omega) (V2.out.next B.out).holds (R.out.holds (by simp)) (by decide))
  go_wp2_with fail
  refine T.out.mono ?_
  rintro e u5 ⟨rfl, hb⟩
  have hb := B.out.trans (hb.mono (by simp))
  have V3b' := Lib.hid (V3b.out.next hb)
  have V4' := Lib.hid (V4.out.next hb)
  have L5 := Lib.hid (L4.out.trans (hb.mono L4.out.size))
  clear hb B R T V2 L4 V3b V4
  have B := Lib.hid ((Below.refl u5.heap.size u5).alloc (Nat.le_refl _) (.cells #[.int .i64 4, .int .i64 (-1), .int .i64 (-1), .int .i64 5, .int .i64 (-1), .int .i64 (-1), .int .i64 (-1), .int .i64 1] 3))
  have R := Lib.hid (lit_row u5 [4, -1, -1, 5, -1, -1, -1, 1] (cs := #[.int .i64 4, .int .i64 (-1), .int .i64 (-1), .int .i64 5, .int .i64 (-1), .int .i64 (-1), .int .i64 (-1), .int .i64 1]) rfl)
  have T := Lib.hid (is_yes _ _ 8 c3 8 _ _ _ (by omega) (V3b'.out.next B.out).holds (R.out.holds (by simp)) (by decide))
  go_wp2_with fail
  refine T.out.mono ?_
  rintro e u6 ⟨rfl, hb⟩
  have hb := B.out.trans (hb.mono (by simp))
  have V4'' := Lib.hid (V4'.out.next hb)
  have L6 := Lib.hid (L5.out.trans (hb.mono L5.out.size))
  clear hb B R T V3b' L5 V4'
  have B := Lib.hid ((Below.refl u6.heap.size u6).alloc (Nat.le_refl _) (.cells #[.int .i64 0, .int .i64 1, .int .i64 2, .int .i64 1, .int .i64 0, .int .i64 1, .int .i64 2] 3))
  have R := Lib.hid (lit_row u6 [0, 1, 2, 1, 0, 1, 2] (cs := #[.int .i64 0, .int .i64 1, .int .i64 2, .int .i64 1, .int .i64 0, .int .i64 1, .int .i64 2]) rfl)
  have T := Lib.hid (is_yes _ _ 7 c4 7 _ _ _ (by omega) (V4''.out.next B.out).holds (R.out.holds (by simp)) (by decide))
  go_wp2_with fail
  refine T.out.mono ?_
  rintro e u7 ⟨rfl, hb⟩
  have hb := B.out.trans (hb.mono (by simp))
  have L7 := Lib.hid (L6.out.trans (hb.mono L6.out.size))
  clear hb B R T V4'' L6 
  have T := Lib.hid (refused_yes ⟨#[48]⟩ (by decide) u7 (HE.out.next L7.out) no0)
  go_wp2_with fail
  refine T.out.mono ?_
  rintro e u8 ⟨rfl, hb⟩
  have L8 := Lib.hid (L7.out.trans (hb.mono L7.out.size))
  clear hb T L7
  have T := Lib.hid (refused_yes ⟨#[49, 32, 32, 50]⟩ (by decide) u8 (HE.out.next L8.out) no1)
  go_wp2_with fail
  refine T.out.mono ?_
  rintro e u9 ⟨rfl, hb⟩
  have L9 := Lib.hid (L8.out.trans (hb.mono L8.out.size))
  clear hb T L8
  have T := Lib.hid (refused_yes ⟨#[48, 49]⟩ (by decide) u9 (HE.out.next L9.out) no2)
  go_wp2_with fail
  refine T.out.mono ?_
  rintro e u10 ⟨rfl, hb⟩
  have L10 := Lib.hid (L9.out.trans (hb.mono L9.out.size))
  clear hb T L9
  have T := Lib.hid (refused_yes ⟨#[52, 48, 49]⟩ (by decide) u10 (HE.out.next L10.out) no3)
  go_wp2_with fail
  refine T.out.mono ?_
  rintro e u11 ⟨rfl, hb⟩
  have L11 := Lib.hid (L10.out.trans (hb.mono L10.out.size))
  clear hb T L10
  go_wp2
  go_ret
  exact ⟨rfl, L11.out⟩
end Go.Proofs.YtcmpoblbjjoaiaaDoor
