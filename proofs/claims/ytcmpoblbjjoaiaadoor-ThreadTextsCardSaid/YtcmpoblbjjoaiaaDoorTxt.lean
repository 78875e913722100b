/- The program's Text. -/
import Derived.Test.YtcmpoblbjjoaiaaDoorTxm
import Derived.Test.YtcmpoblbjjoaiaaDoorEnv
import Derived.Test.YtcmpoblbjjoaiaaDoorRen
namespace Go.Proofs.YtcmpoblbjjoaiaaDoor
open Go.RowKit
set_option linter.unusedVariables false
set_option linter.unusedSimpArgs false
set_option maxRecDepth 100000

theorem info9 : (Tryd.prog.info? 9).map (fun i => (i.zero, i.size, i.bytes)) = some (some (.string ⟨#[]⟩), 1, 16) := by kernel_rfl

/-- The block g is a row of n strings of the call's own. -/
def SRow (w : World) (g n : Nat) (F : Nat → ByteArray) : Prop := ∃ (cs : Array Value) (t : TypeId), w.heap[g]? = some (.cells cs t (0, 0)) ∧ cs.size = n ∧ ∀ i, i < n → cs[i]? = some (.string (F i))
section
variable {w w' : World} {g n B : Nat} {F : Nat → ByteArray}
theorem SRow.lt (h : SRow w g n F) : g < w.heap.size := by
  obtain ⟨cs, t, hg, _⟩ := h
  rcases Nat.lt_or_ge g w.heap.size with hlt | hge
  · exact hlt
  · rw [Array.getElem?_eq_none hge] at hg; cases hg
theorem SRow.cell (h : SRow w g n F) {i : Nat} (hi : i < n) : w.cell? ⟨g, i, none⟩ = some (.string (F i)) := by
  obtain ⟨cs, t, hg, _, hc⟩ := h
  simp [World.cell?, hg, hc i hi]
theorem SRow.free (h : SRow w g n F) (i : Nat) : w.frozen? ⟨g, i, none⟩ = false := by
  obtain ⟨cs, t, hg, _⟩ := h
  simp [World.frozen?, hg]
theorem SRow.below (h : SRow w g n F) (hb : Below B w w') (hg : g < B) : SRow w' g n F := by
  obtain ⟨cs, t, h1, h2⟩ := h
  exact ⟨cs, t, (hb.block g hg).trans h1, h2⟩
theorem SRow.set_ (h : SRow w g n F) (i : Nat) (v : ByteArray) : SRow (w.setCell ⟨g, i, none⟩ (.string v)) g n (fun j => if j = i then v else F j) := by
  obtain ⟨cs, t, h1, h2, h3⟩ := h
  refine ⟨cs.setIfInBounds i (.string v), t, by simp [World.setCell, Array.getElem?_modify, h1], by simpa using h2, fun j hj => ?_⟩
  rw [Array.getElem?_setIfInBounds]
  by_cases e : i = j
  · subst e; simp; omega
  · have e' : ¬ j = i := fun h => e h.symm
    simp [e, e', h3 j hj]
theorem SRow.congr {F' : Nat → ByteArray} (h : SRow w g n F) (e : ∀ i, i < n → F i = F' i) : SRow w g n F' := by
  obtain ⟨cs, t, h1, h2, h3⟩ := h
  exact ⟨cs, t, h1, h2, fun i hi => by rw [h3 i hi, e i hi]⟩
theorem SRow.made (w : World) (n : Nat) : SRow (w.alloc (.cells (madeCells #[.string ⟨#[]⟩] n) 9)) w.heap.size n (fun _ => ⟨#[]⟩) := by
  refine ⟨madeCells #[.string ⟨#[]⟩] n, 9, ?_, by simp [size_madeCells], fun i hi => ?_⟩
  · show (w.heap.push _)[w.heap.size]? = _
    rw [Array.getElem?_push, if_pos rfl]
  · simp [madeCells, hi, Nat.mod_one]
end

theorem make_runS (n : Nat) (hN : n ≤ 4096) (w : World) :
    (Instr.makeSlice 64 (.int .i64 n) (.int .i64 n)).run Tryd.prog w = .ok (.slice (some ⟨w.heap.size, 0, none⟩) n n) (w.alloc (.cells (madeCells #[.string ⟨#[]⟩] n) 9)) :=
  run_make_row' (P := Tryd.prog) 64 9 (.string ⟨#[]⟩) 16 Tryd.underlying64 info9 rfl .i64 .i64 n (by omega) (by omega) w

/-- A text and an error came back. -/
def TOut (w : World) (l : List UInt8) (err : Int) (e : Ending) (w' : World) : Prop := e = .returned (.tuple #[.string ⟨l.toArray⟩, .int .i64 err]) ∧ Below w.heap.size w w'

set_option maxHeartbeats 400000 in
theorem text_err (A : Option Addr) (n c : Nat) (f : Nat → Int) (w : World) (err : Int) (hn : n ≤ 420) (hr : Holds w w.heap.size A n f) (hx : lchk n f = err) (hne : (err != 0) = true) :
    Calls Tryd.prog 23 #[.slice A n c] w (TOut w [] err) := by
  have HC := Lib.hid (chk_is c hn hx w hr)
  clear hx hr
  go_enter Tryd.func23, Tryd.ntmps23
  go_wp2_with fail
  refine HC.out.mono ?_
  rintro e w1 ⟨rfl, hb⟩
  have HF := Lib.hid hb
  clear hb
  go_wp2
  go_ret2
  exact ⟨rfl, HF.out⟩

/-- Join's answer over a row of words. -/
theorem join_row (n : Nat) (f : Nat → Int) (g : Nat) (w : World) (hn : n ≤ 400) (hf : ∀ i, i < n → f i < 400) (h : SRow w g n (fun i => ⟨(wo (f i)).toArray⟩)) :
    Calls Tryd.prog 45 #[.slice (some ⟨g, 0, none⟩) n n, .string ⟨#[32]⟩] w fun e w' => e = .returned (.string ⟨(tx f n).toArray⟩) ∧ Below w.heap.size w w' := by
  rcases Nat.eq_zero_or_pos n with h0 | h0
  · subst h0
    refine (Tryd.strings_Join_none _ _ _ w).mono fun e w' ⟨he, hw⟩ => ⟨by rw [he, tx_zero], hw ▸ Below.refl _ _⟩
  · have e1 : ((List.range n).map fun i => (⟨(wo (f i)).toArray⟩ : ByteArray)).map (·.data.toList) = (List.range n).map fun i => wo (f i) := by simp
    have hl := tx_length hf
    have hj := Tryd.strings_Join g 0 n ((List.range n).map fun i => (⟨(wo (f i)).toArray⟩ : ByteArray)) ⟨#[32]⟩ w (fun j x hx => by
      have hj : j < n := by
        have := (List.getElem?_eq_some_iff.1 hx).1
        simpa using this
      rw [List.getElem?_map, List.getElem?_range hj] at hx
      cases hx
      rw [Nat.zero_add]
      exact h.cell hj) h.lt (by simp; omega) (by simp) (by rw [e1]; show (tx f n).length ≤ _; omega)
    rw [e1] at hj
    simp only [List.length_map, List.length_range] at hj
    exact hj

set_option maxHeartbeats 1600000 in
theorem text_ok (A : Option Addr) (n c : Nat) (f : Nat → Int) (w : World) (hr : Holds w w.heap.size A n f) (hx : lchk n f = 0) (he : Env w) : Calls Tryd.prog 23 #[.slice A n c] w (TOut w (tx f n) 0) := by
  have hn := lchk_le hx
  have hv := lchk_zero hx
  have hmk := make_runS n (by omega)
  have HC := Lib.hid (chk_is c (by omega) hx w hr)
  have HR := Lib.hid hr
  have HV := Lib.hid hv
  have HE := Lib.hid he
  clear hx hr hv he
  go_enter Tryd.func23, Tryd.ntmps23
  go_wp2_with fail
  refine HC.out.mono ?_
  rintro e w1 ⟨rfl, hb⟩
  have HB := Lib.hid hb
  have hs1 := hb.size
  have K0 : Hid (SRow (w1.alloc (.cells (madeCells #[.string ⟨#[]⟩] n) 9)) w1.heap.size n (fun i => if i < 0 then ⟨(wo (f i)).toArray⟩ else ⟨#[]⟩)) := Lib.hid ((SRow.made w1 n).congr fun i _ => by simp)
  have B0 := Lib.hid (hb.alloc hs1 (.cells (madeCells #[.string ⟨#[]⟩] n) 9))
  clear hb
  go_wp2
  go_loopw [18] (fun i wr => ∃ k : Nat, k ≤ n ∧ i = .int .i64 k ∧ Hid (SRow wr w1.heap.size n (fun i => if i < k then ⟨(wo (f i)).toArray⟩ else ⟨#[]⟩)) ∧ Below w.heap.size w wr) (fun i _ => n - (intOf i).toNat)
  case atStart => exact ⟨0, Nat.zero_le _, rfl, K0, B0.out⟩
  case round =>
    obtain ⟨k, hk, rfl, hrow, hbel⟩ := hrel
    by_cases hlt : k < n
    · obtain ⟨b, o, rfl, hbl, hc⟩ := (HR.out.below hbel) (by omega)
      have c1 := hc k hlt
      have y1 : (k : Int) < (n : Int) := by omega
      have hvk := HV.out k hlt
      obtain ⟨v, hfv⟩ : ∃ v : Nat, f k = v := ⟨(f k).toNat, by omega⟩
      rw [hfv] at c1
      have HW := Lib.hid (word_any v (by omega) wr (HE.out.next hbel))
      have HWO := Lib.hid (show wo (f k) = dd (v + 1) by unfold wo; rw [hfv]; rfl)
      have HB1 := Lib.hid hbel
      clear hc hbel hfv hvk K0
      go_wp2_with fail
      refine HW.out.mono ?_
      rintro e w2 ⟨rfl, hb2⟩
      have row := hrow.out.below hb2 hrow.out.lt
      have c2 := row.cell hlt
      have f2 := row.free k
      have HR2 := Lib.hid row
      have HB2 := Lib.hid (HB1.out.trans (hb2.mono HB1.out.size))
      obtain ⟨z, hz⟩ : ∃ z, (if k < k then (⟨(wo (f k)).toArray⟩ : ByteArray) else ⟨#[]⟩) = z := ⟨_, rfl⟩
      rw [hz] at c2
      clear hb2 row hz
      go_wp2
      refine ⟨⟨k + 1, by omega, by go_num, Lib.hid ((HR2.out.set_ k ⟨(dd (v + 1)).toArray⟩).congr fun i hi => ?_), HB2.out.setCell (by simp; omega) _⟩, by simp [intOf]; omega⟩
      by_cases e : i = k
      · subst e; simp [HWO.out]
      · rw [if_neg e]
        by_cases e' : i < k
        · rw [if_pos e', if_pos (by omega)]
        · rw [if_neg e', if_neg (by omega)]
    · have e : k = n := by omega
      subst e
      have HJ := Lib.hid (join_row k f w1.heap.size wr hn (fun i hi => (HV.out i hi).2) (hrow.out.congr fun i hi => if_pos hi))
      have HB1 := Lib.hid hbel
      clear hbel hrow K0
      go_wp2_with fail
      refine HJ.out.mono ?_
      rintro e w2 ⟨rfl, hb2⟩
      have HB2 := Lib.hid (HB1.out.trans (hb2.mono HB1.out.size))
      clear hb2
      go_wp2
      go_ret2
      exact ⟨rfl, HB2.out⟩
end Go.Proofs.YtcmpoblbjjoaiaaDoor
