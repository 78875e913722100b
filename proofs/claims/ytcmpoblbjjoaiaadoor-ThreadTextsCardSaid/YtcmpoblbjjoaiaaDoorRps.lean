/- The reference's Parse. -/
import Derived.Test.YtcmpoblbjjoaiaaDoorRpm
import Derived.Test.YtcmpoblbjjoaiaaDoorDec
namespace Go.Proofs.YtcmpoblbjjoaiaaDoor
open Go.RowKit
set_option linter.unusedVariables false
set_option linter.unusedSimpArgs false
set_option maxRecDepth 100000

/-- What the loop keeps. -/
def RPS (L : List UInt8) (w wr : World) (v n d i : Value) : Prop :=
  ∃ (k : Nat) (vs : List Nat), i = .int .i64 k ∧ Own wr w.heap.size v vs.length (fun j => (vs.getD j 0 : Nat)) ∧ Below w.heap.size w wr ∧
    ((∃ P nn p, k ≤ L.length ∧ n = .int .i64 (nn : Nat) ∧ d = .int .i64 (p.length : Nat) ∧ Hid (RSt L k P vs nn p)) ∨ (k = L.length + 1 ∧ n = .int .i64 0 ∧ d = .int .i64 0 ∧ Hid (psOk L ∧ psVals L = vs)))
theorem PsOut_nil (w : World) : PsOut w [] (.returned (.tuple #[.slice none 0 0, .int .i64 0])) w := .inl ⟨.inl rfl, by rw [psVals_nil]; exact LOut.err (Below.refl _ _)⟩
theorem beq0 {n : Nat} (h : n = 0) : ((n : Int) == 0) = true := by subst h; rfl
theorem beq0n {n : Nat} (h : ¬ n = 0) : ((n : Int) == 0) = false := by simp; omega
theorem rparse_nil (s : ByteArray) (hs : s.data.toList = []) (w : World) : Calls Tryd.prog 25 #[.string s] w (PsOut w s.data.toList) := by
  have e : s = ⟨#[]⟩ := by
    have : s.data = #[] := by simpa using hs
    cases s; cases this; rfl
  subst e
  go_enter Tryd.func25, Tryd.ntmps25
  go_wp2
  go_ret2
  exact PsOut_nil w
set_option maxHeartbeats 1600000 in
theorem rparse_some (s : ByteArray) (hs : s.data.toList ≠ []) (hz : s.size ≤ 1000000) (w : World) : Calls Tryd.prog 25 #[.string s] w (PsOut w s.data.toList) := by
  obtain ⟨L, hL⟩ : ∃ L, s.data.toList = L := ⟨_, rfl⟩
  have hlen : L.length = s.size := by rw [← hL]; exact Array.length_toList
  have z1 : s.toList.isEmpty = false := by rw [bytes_toList]; simpa using hs
  rw [hL] at hs ⊢
  have HNE := Lib.hid hs
  have HL := Lib.hid hL
  have HLEN := Lib.hid hlen
  clear hs hL hlen
  go_enter Tryd.func25, Tryd.ntmps25
  go_wp2
  go_loopw [4, 5, 6, 7] (fun v n d i wr => RPS L w wr v n d i) (fun _ _ _ i _ => s.size + 1 - (intOf i).toNat)
  case atStart => exact ⟨0, [], rfl, Own.nil _ _ _, Below.refl _ _, .inl ⟨[], 0, [], Nat.zero_le _, rfl, rfl, Lib.hid (RSt.zero L)⟩⟩
  case round =>
    obtain ⟨k, vs, rfl, hown, hbel, hcase⟩ := hrel
    obtain ⟨A, c', rfl, _, _⟩ := hown.out
    have HO := Lib.hid hown
    have HB := Lib.hid hbel
    have hsz := hbel.size
    clear hown hbel
    rcases hcase with ⟨P, nn, p, hk, rfl, rfl, hst⟩ | ⟨hk, rfl, rfl, hst⟩
    · have hsm := hst.out.small
      have hk' : k ≤ s.size := by rw [← HLEN.out]; exact hk
      by_cases hlt : k < s.size
      · have hkL : k < L.length := by rw [HLEN.out]; exact hlt
        obtain ⟨q, hq⟩ : ∃ q : Nat, s[k].toNat = q := ⟨_, rfl⟩
        have hLk : L[k] = s[k] := by
          have h := HL.out
          subst h
          rfl
        have hqb : q < 256 := by rw [← hq]; exact UInt8.toNat_lt _
        have y0 : decide ((k : Int) ≤ (s.size : Int)) = true := by simp; omega
        have y1 : ((k : Int) == (s.size : Int)) = false := by simp; omega
        by_cases hsp : q = 32
        · have y2 : ((q : Int) == 32) = true := by simp; omega
          have hsp' : L[k] = 32 := by rw [hLk]; exact UInt8.toNat_inj.1 (by rw [hq, hsp]; rfl)
          have hspl := spl_space hkL hsp'
          by_cases hp0 : p.length = 0
          · have d1 : ((p.length : Int) == 0) = true := beq0 hp0
            have HF : Hid (PsOut w L (.returned (.tuple #[.slice none 0 0, .int .i64 12])) wr) := Lib.hid (.inr ⟨hst.out.none_ HNE.out hspl (hsm.2.2.1 hp0), LOut.err HB.out⟩)
            clear hspl hst hp0 hsm
            go_wp2
            go_ret2
            exact HF.out
          · have d1 : ((p.length : Int) == 0) = false := beq0n hp0
            have hn0 : 0 < nn := by have := hsm.2.2; omega
            by_cases h4 : vs.length = 400
            · have d4 : ((vs.length : Int) == 400) = true := by simp; omega
              have HF : Hid (PsOut w L (.returned (.tuple #[.slice none 0 0, .int .i64 12])) wr) := Lib.hid (.inr ⟨hst.out.many HNE.out hspl h4, LOut.err HB.out⟩)
              clear hspl hst hp0 hsm
              go_wp2
              go_ret2
              exact HF.out
            · have d4 : ((vs.length : Int) == 400) = false := by simp; omega
              have hl4 : vs.length < 400 := by have := hst.out.len; omega
              obtain ⟨g1, g2⟩ := getD_snoc vs (nn - 1)
              have HO3 := Lib.hid (HO.out.congr g1)
              have HG2 := Lib.hid (g2.trans (show (((nn - 1 : Nat) : Int)) = (nn : Int) - 1 by omega))
              have z9 : (0 : Int) ≤ (nn : Int) - 1 := by omega
              have hnn : (nn : Int) ≤ 400 := by omega
              have HX := Lib.hid (hst.out.next (ws := []) hspl hn0 hl4)
              clear g1 g2 hspl hst hp0 h4 hsm
              go_wp2_with (at_builtin; refine app1 _ rfl _ _ (by rfl) w.heap.size (by rfl) HO3.out ((nn : Int) - 1) (by rfl) HG2.out (by omega) hsz ?_; intro v' w3 hown3 hb3; have HO4 := Lib.hid hown3; have HB3 := Lib.hid (HB.out.trans hb3); clear hown3 hb3)
              refine ⟨⟨k + 1, vs ++ [nn - 1], by go_num, ?_, HB3.out, ?_⟩, by simp [intOf]; omega⟩
              · have := HO4.out; simpa using this
              · exact .inl ⟨P ++ [p], 0, [], by omega, rfl, rfl, HX⟩
        · have y2 : ((q : Int) == 32) = false := by simp; omega
          have hsp' : L[k] ≠ 32 := by rw [hLk]; intro e; rw [e] at hq; exact hsp hq.symm
          have hqL : L[k].toNat = q := by rw [hLk, hq]
          by_cases hb1 : q < 48
          · have d1 : decide ((q : Int) < 48) = true := by simp; omega
            have HF : Hid (PsOut w L (.returned (.tuple #[.slice none 0 0, .int .i64 12])) wr) := Lib.hid (.inr ⟨hst.out.bad hkL hsp' (by rw [hqL]; omega), LOut.err HB.out⟩)
            clear hst hsm hqL hLk hsp'
            go_wp2
            go_ret2
            exact HF.out
          · have d1 : decide ((q : Int) < 48) = false := by simp; omega
            by_cases hb2 : 57 < q
            · have d2 : decide ((57 : Int) < (q : Int)) = true := by simp; omega
              have HF : Hid (PsOut w L (.returned (.tuple #[.slice none 0 0, .int .i64 12])) wr) := Lib.hid (.inr ⟨hst.out.bad hkL hsp' (by rw [hqL]; omega), LOut.err HB.out⟩)
              clear hst hsm hqL hLk hsp'
              go_wp2
              go_ret2
              exact HF.out
            · have d2 : decide ((57 : Int) < (q : Int)) = false := by simp; omega
              by_cases hz0 : p.length = 0 ∧ q = 48
              · have d3 : ((p.length : Int) == 0) = true := beq0 hz0.1
                have d4 : ((q : Int) == 48) = true := by simp; omega
                have HF : Hid (PsOut w L (.returned (.tuple #[.slice none 0 0, .int .i64 12])) wr) := Lib.hid (.inr ⟨hst.out.lead hkL hsp' (hsm.2.2.1 hz0.1) (by rw [hqL]; exact hz0.2), LOut.err HB.out⟩)
                clear hst hsm hqL hLk hsp' hz0
                go_wp2
                go_ret2
                exact HF.out
              · have hz1 : nn = 0 → L[k].toNat ≠ 48 := by
                  intro e1 e2
                  rw [hqL] at e2
                  exact hz0 ⟨hsm.2.2.2 e1, e2⟩
                have hpick : ((p.length : Int) == 0) = false ∨ (((p.length : Int) == 0) = true ∧ ((q : Int) == 48) = false) := by
                  by_cases e : p.length = 0
                  · right; exact ⟨beq0 e, by simp; omega⟩
                  · left; exact beq0n e
                have hq0 : (0 : Int) ≤ (q : Int) - 48 := by omega
                have hq1 : (q : Int) - 48 ≤ 9 := by omega
                have hnn : (nn : Int) ≤ 400 := by omega
                have hpl : (p.length : Int) ≤ 3 := by omega
                have ee : (10 : Int) * (nn : Int) + ((q : Int) - 48) = ((10 * nn + (q - 48) : Nat) : Int) := by omega
                by_cases hbig : 400 < 10 * nn + (q - 48)
                · have HF : Hid (PsOut w L (.returned (.tuple #[.slice none 0 0, .int .i64 12])) wr) := Lib.hid (.inr ⟨hst.out.big hkL hsp' (by rw [hqL]; omega) (by rw [hqL]; omega) hz1 (by rw [hqL]; exact hbig), LOut.err HB.out⟩)
                  have d5 : decide ((400 : Int) < (10 : Int) * (nn : Int) + ((q : Int) - 48)) = true := by simp; omega
                  clear hst hsm hqL hLk hsp' hz0 hz1 ee
                  rcases hpick with d3 | ⟨d3, d4⟩
                  · go_wp2
                    go_ret2
                    exact HF.out
                  · go_wp2
                    go_ret2
                    exact HF.out
                · have HX := Lib.hid (hst.out.more hkL hsp' (by rw [hqL]; omega) (by rw [hqL]; omega) hz1 (by rw [hqL]; omega))
                  rw [hqL] at HX
                  have d5 : decide ((400 : Int) < (10 : Int) * (nn : Int) + ((q : Int) - 48)) = false := by simp; omega
                  have HEE := Lib.hid ee
                  clear hst hsm hqL hsp' hz0 hz1 ee
                  rcases hpick with d3 | ⟨d3, d4⟩
                  · go_wp2
                    refine ⟨⟨k + 1, vs, by go_num, HO.out, HB.out, .inl ⟨P, _, _, by omega, ?_, ?_, HX⟩⟩, by simp [intOf]; omega⟩
                    · rw [HEE.out]
                    · simp
                  · go_wp2
                    refine ⟨⟨k + 1, vs, by go_num, HO.out, HB.out, .inl ⟨P, _, _, by omega, ?_, ?_, HX⟩⟩, by simp [intOf]; omega⟩
                    · rw [HEE.out]
                    · simp
      · have hks : k = s.size := by omega
        have hkL : k = L.length := by rw [HLEN.out]; exact hks
        have y0 : decide ((k : Int) ≤ (s.size : Int)) = true := by simp; omega
        have y1 : ((k : Int) == (s.size : Int)) = true := by simp; omega
        have HKL := Lib.hid hkL
        have hspl := spl_end hkL
        by_cases hp0 : p.length = 0
        · have d1 : ((p.length : Int) == 0) = true := beq0 hp0
          have HF : Hid (PsOut w L (.returned (.tuple #[.slice none 0 0, .int .i64 12])) wr) := Lib.hid (.inr ⟨hst.out.none_ HNE.out hspl (hsm.2.2.1 hp0), LOut.err HB.out⟩)
          clear hspl hkL hks hst hp0 hsm
          go_wp2
          go_ret2
          exact HF.out
        · have d1 : ((p.length : Int) == 0) = false := beq0n hp0
          have hn0 : 0 < nn := by have := hsm.2.2; omega
          by_cases h4 : vs.length = 400
          · have d4 : ((vs.length : Int) == 400) = true := by simp; omega
            have HF : Hid (PsOut w L (.returned (.tuple #[.slice none 0 0, .int .i64 12])) wr) := Lib.hid (.inr ⟨hst.out.many HNE.out hspl h4, LOut.err HB.out⟩)
            clear hspl hkL hks hst hp0 hsm
            go_wp2
            go_ret2
            exact HF.out
          · have d4 : ((vs.length : Int) == 400) = false := by simp; omega
            have hl4 : vs.length < 400 := by have := hst.out.len; omega
            obtain ⟨g1, g2⟩ := getD_snoc vs (nn - 1)
            have HO3 := Lib.hid (HO.out.congr g1)
            have HG2 := Lib.hid (g2.trans (show (((nn - 1 : Nat) : Int)) = (nn : Int) - 1 by omega))
            have z9 : (0 : Int) ≤ (nn : Int) - 1 := by omega
            have hnn : (nn : Int) ≤ 400 := by omega
            have HX := Lib.hid (hst.out.fin hspl hn0 hl4)
            clear g1 g2 hspl hst hp0 h4 hsm
            go_wp2_with (at_builtin; refine app1 _ rfl _ _ (by rfl) w.heap.size (by rfl) HO3.out ((nn : Int) - 1) (by rfl) HG2.out (by omega) hsz ?_; intro v' w3 hown3 hb3; have HO4 := Lib.hid hown3; have HB3 := Lib.hid (HB.out.trans hb3); clear hown3 hb3)
            refine ⟨⟨k + 1, vs ++ [nn - 1], by go_num, ?_, HB3.out, ?_⟩, by simp [intOf]; omega⟩
            · have := HO4.out; simpa using this
            · exact .inr ⟨by rw [HKL.out], rfl, rfl, HX⟩
    · have HF := Lib.hid (show ∀ v, Own wr w.heap.size v vs.length (fun j => (vs.getD j 0 : Nat)) → PsOut w L (.returned (.tuple #[v, .int .i64 0])) wr from fun v hv => .inl ⟨.inr hst.out.1, by rw [hst.out.2]; exact LOut.own hv HB.out⟩)
      have y0 : decide ((k : Int) ≤ (s.size : Int)) = false := by have := HLEN.out; simp; omega
      have y0' : ¬ k ≤ s.size := by have := HLEN.out; omega
      clear hst hk
      go_wp2
      go_ret2
      exact HF.out _ HO.out
end Go.Proofs.YtcmpoblbjjoaiaaDoor
