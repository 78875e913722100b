/- The program's Parse. -/
import Derived.Test.YtcmpoblbjjoaiaaDoorEnv
import Derived.Test.YtcmpoblbjjoaiaaDoorRun
import Derived.Handy
namespace Go.Proofs.YtcmpoblbjjoaiaaDoor
open Go.RowKit
set_option linter.unusedVariables false
set_option linter.unusedSimpArgs false
set_option maxRecDepth 100000

/-- Parse accepts the text l. -/
def psAll (l : List UInt8) : Prop := l = [] ∨ psOk l
/-- What Parse answers. -/
def PsOut (w : World) (l : List UInt8) (e : Ending) (w' : World) : Prop :=
  (psAll l ∧ LOut w (psVals l).length (fun i => ((psVals l).getD i 0 : Nat)) 0 e w') ∨ (¬ psAll l ∧ LOut w 0 (fun _ => 0) 12 e w')

theorem wd_nil : wd [] = none := by
  cases h : wd [] with
  | none => rfl
  | some v =>
    obtain ⟨_, h2⟩ := wd_spec h
    obtain ⟨c, r, e, _⟩ := dd_cons (v + 1)
    rw [h2] at e
    cases e
theorem psVals_nil : psVals [] = [] := by simp [psVals, words, spl, wd_nil]

theorem cut_env (s : ByteArray) (hs : s.size ≤ 1000000) (w : World) (h : Env w) {a b : List UInt8} {c : Bool} (hc : Lib.cut s.data.toList [32] = (a, b, c)) :
    Calls Tryd.prog 40 #[.string s, .string ⟨#[32]⟩] w fun e w' => e = .returned (.tuple #[.string ⟨a.toArray⟩, .string ⟨b.toArray⟩, .bool c]) ∧ Below w.heap.size w w' := by
  obtain ⟨m, hm⟩ := h.len
  refine (Tryd.strings_Cut s ⟨#[32]⟩ m w (by omega) hm).mono fun e w' ⟨he, n, hw⟩ => ⟨?_, ?_⟩
  · have e1 : (⟨#[32]⟩ : ByteArray).data.toList = [32] := rfl
    rw [he, e1, hc]
  · rw [hw]; exact Go.Proofs.below_drewN' (Below.refl _ _) _

/-- What the loop of Parse keeps. -/
structure PSt (L : List UInt8) (P : List (List UInt8)) (vs : List Nat) (rest : ByteArray) (more : Bool) : Prop where
  maps : P.map wd = vs.map some
  len : vs.length ≤ 400
  wrd : words L = P ++ (if more then words rest.data.toList else [])
  sz : rest.size ≤ 1000000
theorem PSt.plen {L : List UInt8} {P : List (List UInt8)} {vs : List Nat} {rest : ByteArray} {more : Bool} (h : PSt L P vs rest more) : P.length = vs.length := by
  have := congrArg List.length h.maps
  simpa using this
theorem PSt.done {L : List UInt8} {P : List (List UInt8)} {vs : List Nat} {rest : ByteArray} (h : PSt L P vs rest false) : psOk L ∧ psVals L = vs := by
  have hw := h.wrd
  simp only [Bool.false_eq_true, if_false, List.append_nil] at hw
  refine ⟨⟨by rw [hw, h.plen]; exact h.len, fun u hu => mem_all h.maps u (by rw [← hw]; exact hu)⟩, ?_⟩
  unfold psVals
  rw [hw]
  exact filterMap_all h.maps
theorem PSt.bad {L : List UInt8} {P ws : List (List UInt8)} {vs : List Nat} {rest : ByteArray} {a : List UInt8} (h : PSt L P vs rest true) (hne : L ≠ []) (e : words rest.data.toList = a :: ws) (ha : wd a = none) : ¬ psAll L := by
  rintro (h1 | ⟨_, h2⟩)
  · exact hne h1
  · have hw := h.wrd
    rw [if_pos rfl, e] at hw
    obtain ⟨v, hv⟩ := h2 a (by rw [hw]; simp)
    rw [ha] at hv
    cases hv
theorem PSt.many {L : List UInt8} {P ws : List (List UInt8)} {vs : List Nat} {rest : ByteArray} {a : List UInt8} (h : PSt L P vs rest true) (hne : L ≠ []) (e : words rest.data.toList = a :: ws) (ha : vs.length = 400) : ¬ psAll L := by
  rintro (h1 | ⟨h2, _⟩)
  · exact hne h1
  · have hw := h.wrd
    rw [if_pos rfl, e] at hw
    have := congrArg List.length hw
    have hp := h.plen
    simp at this
    omega
theorem PSt.last {L : List UInt8} {P : List (List UInt8)} {vs : List Nat} {rest : ByteArray} {a : List UInt8} {v : Nat} (h : PSt L P vs rest true) (e : words rest.data.toList = [a]) (ha : wd a = some v) (hl : vs.length < 400) : PSt L (P ++ [a]) (vs ++ [v]) ⟨#[]⟩ false := by
  refine ⟨by simp [h.maps, ha], by simp; omega, ?_, by show 0 ≤ _; omega⟩
  have hw := h.wrd
  rw [if_pos rfl, e] at hw
  simp [hw]
theorem PSt.next {L : List UInt8} {P : List (List UInt8)} {vs : List Nat} {rest : ByteArray} {a r : List UInt8} {v : Nat} (h : PSt L P vs rest true) (e : words rest.data.toList = a :: words r) (ha : wd a = some v) (hl : vs.length < 400) (hr : r.length < rest.data.toList.length) : PSt L (P ++ [a]) (vs ++ [v]) ⟨r.toArray⟩ true := by
  have hs := h.sz
  refine ⟨by simp [h.maps, ha], by simp; omega, ?_, ?_⟩
  · have hw := h.wrd
    rw [if_pos rfl, e] at hw
    simp [hw]
  · have e1 : rest.data.toList.length = rest.size := Array.length_toList
    have e2 : (⟨r.toArray⟩ : ByteArray).size = r.length := by show r.toArray.size = _; simp
    omega

def meas (r m : Value) : Nat := match m with
  | .bool true => (match r with | .string s => s.size + 1 | _ => 0)
  | _ => 0
theorem meas_false (r : Value) : meas r (.bool false) = 0 := rfl
theorem meas_true (s : ByteArray) : meas (.string s) (.bool true) = s.size + 1 := rfl

theorem getD_snoc (vs : List Nat) (v : Nat) : (∀ i, i < vs.length → ((vs.getD i 0 : Nat) : Int) = (((vs ++ [v]).getD i 0 : Nat) : Int)) ∧ (((vs ++ [v]).getD vs.length 0 : Nat) : Int) = v := by
  refine ⟨fun i hi => ?_, ?_⟩
  · simp [List.getD, List.getElem?_append_left hi]
  · simp [List.getD]

set_option maxHeartbeats 400000 in
theorem parse_nil (s : ByteArray) (hs : s.data.toList = []) (w : World) : Calls Tryd.prog 15 #[.string s] w (PsOut w s.data.toList) := by
  obtain rfl : s = ⟨#[]⟩ := by
    cases s with
    | mk d =>
      have : d = #[] := by simpa using hs
      rw [this]
  have HP : Hid (∀ w, PsOut w [] (.returned (.tuple #[.slice none 0 0, .int .i64 0])) w) := Lib.hid fun w => .inl ⟨.inl rfl, by rw [psVals_nil]; exact LOut.err (Below.refl _ _)⟩
  go_enter Tryd.func15, Tryd.ntmps15
  go_wp2
  refine wp_loop_rounds 1 ?_
  rw [rounds_succ]
  go_wp2
  go_ret2
  exact HP.out _

set_option maxHeartbeats 3200000 in
theorem parse_some (s : ByteArray) (hs : s.data.toList ≠ []) (hz : s.size ≤ 1000000) (w : World) (h : Env w) : Calls Tryd.prog 15 #[.string s] w (PsOut w s.data.toList) := by
  obtain ⟨L, hL⟩ : ∃ L, s.data.toList = L := ⟨_, rfl⟩
  have z1 : s.toList.isEmpty = false := by rw [bytes_toList]; simpa using hs
  rw [hL] at hs ⊢
  have HE := Lib.hid h
  have HNE := Lib.hid hs
  have HL := Lib.hid hL
  have K0 : Hid (PSt L [] [] s true) := Lib.hid ⟨rfl, by simp, by rw [hL]; simp, hz⟩
  clear h hs hL
  go_enter Tryd.func15, Tryd.ntmps15
  go_wp2
  go_loopw [4, 5, 6] (fun v r m wr => ∃ (P : List (List UInt8)) (vs : List Nat) (rest : ByteArray) (more : Bool), r = .string rest ∧ m = .bool more ∧ Hid (PSt L P vs rest more) ∧ Own wr w.heap.size v vs.length (fun i => (vs.getD i 0 : Nat)) ∧ Below w.heap.size w wr) (fun _ r m _ => meas r m)
  case atStart => exact ⟨[], [], s, true, rfl, by first | rfl | simp [z1], K0, Own.nil _ _ _, Below.refl _ _⟩
  case round =>
    obtain ⟨P, vs, rest, more, rfl, rfl, hst, hown, hbel⟩ := hrel
    cases more
    · have h := hst.out
      obtain ⟨h1, h2⟩ := h.done
      have HF := Lib.hid (show ∀ v, Own wr w.heap.size v vs.length (fun i => (vs.getD i 0 : Nat)) → PsOut w L (.returned (.tuple #[v, .int .i64 0])) wr from fun v hv => .inl ⟨.inr h1, by rw [h2]; exact LOut.own hv hbel⟩)
      have HO := Lib.hid hown
      clear h h1 h2 hst hown hbel K0
      go_wp2
      go_ret2
      exact HF.out _ HO.out
    · have hsz := hbel.size
      have hE := HE.out.next hbel
      obtain ⟨A, c, rfl, _, _⟩ := hown.out
      have hlen := hst.out.len
      have HO := Lib.hid hown
      have HB := Lib.hid hbel
      have HE1 := Lib.hid hE
      clear hown hbel hE K0
      obtain ⟨a, b, cf, hcut, hcase⟩ : ∃ a b cf, Lib.cut rest.data.toList [32] = (a, b, cf) ∧ ((cf = false ∧ b = [] ∧ words rest.data.toList = [a]) ∨ (cf = true ∧ words rest.data.toList = a :: words b ∧ b.length < rest.data.toList.length)) := by
        by_cases hl : (spl rest.data.toList).2 = []
        · obtain ⟨e1, e2⟩ := cut_last hl
          exact ⟨_, _, _, e1, .inl ⟨rfl, rfl, e2⟩⟩
        · obtain ⟨r, e1, e2, e3⟩ := cut_more hl
          exact ⟨_, _, _, e1, .inr ⟨rfl, e2, e3⟩⟩
      have hasz : a.length ≤ 1000000 := by
        have hs := hst.out.sz
        have e1 : rest.data.toList.length = rest.size := Array.length_toList
        have : a.length ≤ rest.data.toList.length := by
          unfold Lib.cut at hcut
          split at hcut
          · injection hcut with h1 _
            rw [← h1]; exact List.length_take_le' _ _
          · injection hcut with h1 _
            rw [← h1]; exact Nat.le_refl _
        omega
      have HC := Lib.hid (cut_env rest hst.out.sz wr HE1.out hcut)
      have HEL := Lib.hid (fun (w' : World) (h : Env w') => element_any (⟨a.toArray⟩ : ByteArray) (by show a.toArray.size ≤ _; simpa using hasz) w' h)
      have HCA := Lib.hid hcase
      clear hcut hcase hasz
      go_wp2_with fail
      refine HC.out.mono ?_
      rintro e w1 ⟨rfl, hb⟩
      have HB1 := Lib.hid (HB.out.trans (hb.mono hsz))
      have HO1 := Lib.hid (HO.out.below hb)
      have HE2 := Lib.hid (HE1.out.next hb)
      clear hb
      go_wp2_with fail
      refine (HEL.out _ HE2.out).mono ?_
      rintro e w2 ⟨hv, hb⟩
      have HB2 := Lib.hid (HB1.out.trans (hb.mono HB1.out.size))
      have HO2 := Lib.hid (HO1.out.below hb)
      have hs2 := HB2.out.size
      clear hb
      rcases hv with ⟨v, hv, rfl⟩ | ⟨hv, rfl⟩
      · have HW := Lib.hid hv
        clear hv
        by_cases h4 : vs.length = 400
        · have d4 : ((vs.length : Int) == 400) = true := by simp; omega
          have HF : Hid (PsOut w L (.returned (.tuple #[.slice none 0 0, .int .i64 12])) w2) := Lib.hid (.inr ⟨by
            rcases HCA.out with ⟨_, _, e⟩ | ⟨_, e, _⟩
            · exact hst.out.many HNE.out e h4
            · exact hst.out.many HNE.out e h4, LOut.err HB2.out⟩)
          clear h4
          go_wp2
          go_ret2
          exact HF.out
        · have d4 : ((vs.length : Int) == 400) = false := by simp; omega
          obtain ⟨g1, g2⟩ := getD_snoc vs v
          have HO3 := Lib.hid (HO2.out.congr g1)
          have HG2 := Lib.hid g2
          have hl4 : vs.length < 400 := by omega
          clear g1 g2
          go_wp2_with (at_builtin; refine app1 _ rfl _ _ (by rfl) w.heap.size (by rfl) HO3.out (v : Int) (by rfl) HG2.out (by omega) hs2 ?_; intro v' w3 hown3 hb3; have HO4 := Lib.hid hown3; have HB3 := Lib.hid (HB2.out.trans hb3); clear hown3 hb3)
          rcases HCA.out with ⟨rfl, rfl, e⟩ | ⟨rfl, e, hlt⟩
          · refine ⟨⟨P ++ [a], vs ++ [v], _, _, rfl, rfl, Lib.hid (hst.out.last e HW.out hl4), ?_, HB3.out⟩, ?_⟩
            · have := HO4.out; simpa using this
            · rw [meas_false, meas_true]; omega
          · refine ⟨⟨P ++ [a], vs ++ [v], _, _, rfl, rfl, Lib.hid (hst.out.next e HW.out hl4 hlt), ?_, HB3.out⟩, ?_⟩
            · have := HO4.out; simpa using this
            · rw [meas_true, meas_true]
              have e1 : rest.data.toList.length = rest.size := Array.length_toList
              have e2 : (⟨b.toArray⟩ : ByteArray).size = b.length := by show b.toArray.size = _; simp
              omega
      · have HF : Hid (PsOut w L (.returned (.tuple #[.slice none 0 0, .int .i64 12])) w2) := Lib.hid (.inr ⟨by
          rcases HCA.out with ⟨_, _, e⟩ | ⟨_, e, _⟩
          · exact hst.out.bad HNE.out e hv
          · exact hst.out.bad HNE.out e hv, LOut.err HB2.out⟩)
        clear hv
        go_wp2
        go_ret2
        exact HF.out

theorem parse_any (s : ByteArray) (hz : s.size ≤ 1000000) (w : World) (h : Env w) : Calls Tryd.prog 15 #[.string s] w (PsOut w s.data.toList) := by
  by_cases hs : s.data.toList = []
  · exact parse_nil s hs w
  · exact parse_some s hs hz w h
end Go.Proofs.YtcmpoblbjjoaiaaDoor
