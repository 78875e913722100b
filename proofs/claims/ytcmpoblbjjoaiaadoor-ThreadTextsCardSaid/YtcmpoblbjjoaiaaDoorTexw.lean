/- The statement ThreadTexts. -/
import Derived.Test.YtcmpoblbjjoaiaaDoorRps
import Derived.Test.YtcmpoblbjjoaiaaDoorPar
import Derived.Test.YtcmpoblbjjoaiaaDoorUsd
namespace Go.Proofs.YtcmpoblbjjoaiaaDoor
open Go.RowKit
set_option linter.unusedVariables false
set_option linter.unusedSimpArgs false
set_option maxRecDepth 100000

theorem rparse_any (s : ByteArray) (hz : s.size ≤ 1000000) (w : World) : Calls Tryd.prog 25 #[.string s] w (PsOut w s.data.toList) := by
  by_cases h : s.data.toList = []
  · exact rparse_nil s h w
  · exact rparse_some s h hz w
/-- Both Parses hand the same back. -/
theorem parse_two (s : ByteArray) (hz : s.size ≤ 1000000) : ∃ (m : Nat) (F : Nat → Int) (err : Int), m ≤ 400 ∧ (∀ w, Env w → Calls Tryd.prog 15 #[.string s] w (LOut w m F err)) ∧ ∀ w, Calls Tryd.prog 25 #[.string s] w (LOut w m F err) := by
  by_cases h : psAll s.data.toList
  · refine ⟨(psVals s.data.toList).length, fun i => ((psVals s.data.toList).getD i 0 : Nat), 0, ?_, fun w hE => (parse_any s hz w hE).mono ?_, fun w => (rparse_any s hz w).mono ?_⟩
    · rcases h with h | h
      · rw [h, psVals_nil]; simp
      · have h1 := h.1
        unfold psVals
        exact Nat.le_trans (List.length_filterMap_le _ _) h1
    · rintro e w' (⟨_, h1⟩ | ⟨h1, _⟩)
      · exact h1
      · exact absurd h h1
    · rintro e w' (⟨_, h1⟩ | ⟨h1, _⟩)
      · exact h1
      · exact absurd h h1
  · refine ⟨0, fun _ => 0, 12, by omega, fun w hE => (parse_any s hz w hE).mono ?_, fun w => (rparse_any s hz w).mono ?_⟩
    · rintro e w' (⟨h1, _⟩ | ⟨_, h1⟩)
      · exact absurd h1 h
      · exact h1
    · rintro e w' (⟨h1, _⟩ | ⟨_, h1⟩)
      · exact absurd h1 h
      · exact h1
/-- Check, Used and Text, and the reference's. -/
theorem lists_two (A : Option Addr) (n c : Nat) (f : Nat → Int) (hn : n ≤ 420) : ∃ (z : Int) (l : List UInt8) (err : Int), ∀ w, Holds w w.heap.size A n f →
    (Calls Tryd.prog 18 #[.slice A n c] w fun e w' => e = .returned (.int .i64 err) ∧ Below w.heap.size w w') ∧ (Calls Tryd.prog 26 #[.slice A n c] w fun e w' => e = .returned (.int .i64 err) ∧ Below w.heap.size w w') ∧
    Calls Tryd.prog 16 #[.slice A n c] w (IOut w z err) ∧ Calls Tryd.prog 22 #[.slice A n c] w (IOut w z err) ∧ (Env w → Calls Tryd.prog 23 #[.slice A n c] w (TOut w l err)) ∧ Calls Tryd.prog 24 #[.slice A n c] w (TOut w l err) := by
  obtain ⟨err, he⟩ : ∃ err, lchk n f = err := ⟨_, rfl⟩
  by_cases h : err = 0
  · subst h
    exact ⟨(nd f n : Nat), tx f n, 0, fun w hr => ⟨chk_is c hn he w hr, rchk_is c hn he w hr, used_ok A n c f w hr he, rused_ok A n c f w hr he, fun hE => text_ok A n c f w hr he hE, rtext_ok A n c f w hr he⟩⟩
  · have hne : (err != 0) = true := by simpa using h
    exact ⟨0, [], err, fun w hr => ⟨chk_is c hn he w hr, rchk_is c hn he w hr, used_err A n c f w err hn hr he hne, rused_err A n c f w err hn hr he hne, fun _ => text_err A n c f w err hn hr he hne, rtext_err A n c f w err hn hr he hne⟩⟩

set_option maxHeartbeats 1600000 in
theorem texts_any (A : Option Addr) (n c : Nat) (f : Nat → Int) (s : ByteArray) (w : World) (hr : Holds w w.heap.size A n f) (he : Env w) :
    Calls Tryd.prog 4 #[.slice A n c, .string s] w fun e w' => e = .returned (.bool true) ∧ Below w.heap.size w w' := by
  cases hg : decide (60 < n ∧ n ≤ 400 ∨ 420 < n)
  · by_cases hs : 2000 < s.size
    · have y1 : decide ((2000 : Int) < (s.size : Int)) = true := by simp; omega
      have HG := Lib.hid (great_is hg A c w)
      clear hg
      go_enter Tryd.func4, Tryd.ntmps4
      go_wp2_with fail
      refine HG.out.mono ?_
      rintro e w' ⟨rfl, rfl⟩
      go_wp2
      go_ret
      exact ⟨rfl, Below.refl _ _⟩
    · have y1 : decide ((2000 : Int) < (s.size : Int)) = false := by simp; omega
      have HG := Lib.hid (great_is hg A c w)
      have hn := great_no hg
      obtain ⟨m, F, pe, hm, hp1, hp2⟩ := parse_two s (by omega)
      obtain ⟨z, l, err, hl⟩ := lists_two A n c f hn
      have P1 := Lib.hid hp1
      have P2 := Lib.hid hp2
      have HL := Lib.hid (fun w' (hb : Below w.heap.size w w') => hl w' (later hr hb))
      have HE := Lib.hid (fun w' (hb : Below w.heap.size w w') => he.next hb)
      clear hg hp1 hp2 hl hr he hs
      go_enter Tryd.func4, Tryd.ntmps4
      go_wp2_with fail
      refine HG.out.mono ?_
      rintro e w' ⟨rfl, rfl⟩
      have B0 := Lib.hid (Below.refl w.heap.size w)
      go_wp2_with fail
      refine (HL.out w B0.out).2.2.1.mono ?_
      rintro e w1 ⟨rfl, hb⟩
      have B1 := Lib.hid (B0.out.trans (hb.mono B0.out.size))
      clear hb
      go_wp2_with fail
      refine (HL.out w1 B1.out).2.2.2.1.mono ?_
      rintro e w2 ⟨rfl, hb⟩
      have B2 := Lib.hid (B1.out.trans (hb.mono B1.out.size))
      clear hb
      go_wp2_with fail
      refine ((HL.out w2 B2.out).2.2.2.2.1 (HE.out w2 B2.out)).mono ?_
      rintro e w3 ⟨rfl, hb⟩
      have B3 := Lib.hid (B2.out.trans (hb.mono B2.out.size))
      clear hb
      go_wp2_with fail
      refine (HL.out w3 B3.out).2.2.2.2.2.mono ?_
      rintro e w4 ⟨rfl, hb⟩
      have B4 := Lib.hid (B3.out.trans (hb.mono B3.out.size))
      clear hb
      go_wp2_with fail
      refine (P1.out w4 (HE.out w4 B4.out)).mono ?_
      rintro e w5 ⟨A5, c5, rfl, -, hr5, hb⟩
      have B5 := Lib.hid (B4.out.trans (hb.mono B4.out.size))
      have V5 := Lib.hid (LV.of hr5)
      clear hb hr5
      go_wp2_with fail
      refine (P2.out w5).mono ?_
      rintro e w6 ⟨A6, c6, rfl, -, hr6, hb⟩
      have B6 := Lib.hid (B5.out.trans (hb.mono B5.out.size))
      have V5a := Lib.hid (V5.out.next hb)
      have V6 := Lib.hid (LV.of hr6)
      clear hb hr6
      go_wp2_with fail
      refine (HL.out w6 B6.out).1.mono ?_
      rintro e w7 ⟨rfl, hb⟩
      have B7 := Lib.hid (B6.out.trans (hb.mono B6.out.size))
      have V5b := Lib.hid (V5a.out.next hb)
      have V6b := Lib.hid (V6.out.next hb)
      clear hb
      go_wp2_with fail
      refine (HL.out w7 B7.out).2.1.mono ?_
      rintro e w8 ⟨rfl, hb⟩
      have B8 := Lib.hid (B7.out.trans (hb.mono B7.out.size))
      have V5c := Lib.hid (V5b.out.next hb)
      have V6c := Lib.hid (V6b.out.next hb)
      clear hb
      go_wp2_with fail
      refine (rsame_eq A5 A6 m c5 c6 F w8 (by omega) V5c.out.holds V6c.out.holds).mono ?_
      rintro e w9 ⟨rfl, hb⟩
      have B9 := Lib.hid (B8.out.trans (hb.mono B8.out.size))
      clear hb
      go_wp2
      go_ret
      exact ⟨rfl, B9.out⟩
  · have HG := Lib.hid (great_is hg A c w)
    clear hg
    go_enter Tryd.func4, Tryd.ntmps4
    go_wp2_with fail
    refine HG.out.mono ?_
    rintro e w' ⟨rfl, rfl⟩
    go_wp2
    go_ret
    exact ⟨rfl, Below.refl _ _⟩
end Go.Proofs.YtcmpoblbjjoaiaaDoor
