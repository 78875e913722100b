/- Merged: Shelf Ixb Lines Tx Parse. -/
import Derived.Shelf.Strings.Builder1
import Derived.Shelf.Small.Strs
import Derived.Shelf.Strings.BuilderF
import Derived.Shelf.Strings.BuilderK
import Derived.Shelf.Strings.Search1
import Derived.Test.YtgmcbdnfgdmmaaaProg
import Derived.Test.YtgmcbdnfgdmmaaaGa
import Derived.Test.YtgmcbdnfgdmmaaaGb
import Derived.Deep.RegionHeld3

/-
  DERIVED: THE SHELF's CONTRACTS AT THIS DUMP, IN PLAIN WORDS (tools/lay-plain.mjs out of 'TryShelf.lean', which tools/lay-shelf.mjs wrote): THE SAME DECLARATIONS UNDER THE SAME NAMES: 'import', 'namespace', 'open', 'def', 'theorem' AND NOTHING ELSE: no command of the shelf's: FOR A HAND-IN. Each laying: the table of numbers ('.._ren') and one theorem, a field a fact of the dump's own or the kernel's comparison; each contract: ONE APPLICATION.
-/
namespace Go.Proofs
open Go.Shelf
set_option linter.unusedVariables false
set_option linter.unusedSimpArgs false
def Try.lays169_ren : Go.Shelf.Ren := ⟨fun | 169 => 134 | n => n, fun | 70 => 136 | 9 => 9 | 0 => 0 | 72 => 139 | 37 => 137 | 127 => 162 | 3 => 3 | 5 => 5 | n => n, fun | n => n⟩
theorem Try.lays169 : Go.Proofs.Lays.n169 Try.prog Try.lays169_ren := {
  mixed := by kernel_rfl
  f169 := Try.func134.trans (congrArg some (by kernel_rfl))
  t0 := Try.underlying0
  a0 := Try.isAgg0
  z0 := Try.sizeOf0
  v0 := Try.zeroValue0
  t3 := Try.underlying3
  a3 := Try.isAgg3
  z3 := Try.sizeOf3
  v3 := Try.zeroValue3
  t9 := Try.underlying9
  a9 := Try.isAgg9
  z9 := Try.sizeOf9
  v9 := Try.zeroValue9
  t37 := Try.underlying137
  a37 := Try.isAgg137
  z37 := Try.sizeOf137
  v37 := Try.zeroValue137
  t70 := Try.underlying136
  a70 := Try.isAgg136
  z70 := Try.sizeOf136
  v70 := Try.zeroValue136
  t72 := Try.underlying139
  a72 := Try.isAgg139
  z72 := Try.sizeOf139
  v72 := Try.zeroValue139
  t127 := Try.underlying162
  a127 := Try.isAgg162
  z127 := Try.sizeOf162
  v127 := Try.zeroValue162 }
theorem Try.Builder_Extra_169 : Builder.Extra Try.prog Try.lays169_ren := {
  sizeBuilder := by kernel_rfl
  liesBuilder := by kernel_rfl
  t5 := Try.underlying5
  a5 := Try.isAgg5
  z5 := Try.sizeOf5
  v5 := Try.zeroValue5
  infoByte := by kernel_rfl
  cellsByte := by kernel_rfl
  sizeByte := by kernel_rfl
  neB5 := by decide }
open Go.RowKit in
/-- (*strings.Builder).String: "String returns the accumulated string.": OF A BUILDER THAT HOLDS AT LEAST ONE BYTE. ✋ THE MODEL FREEZES THOSE BYTES IN THE BUFFER (unsafe.String): a later write INTO them ends the model's run without an answer; a later append BEHIND them goes on. The statement's order of evaluation is drawn: one draw. (LAID: no walk: one application.) -/
theorem Try.Builder_String (B b : Nat) (l : List UInt8) (w : World) (h : Lib.IsBuilder 139 5 B b (Lib.byteCells l) w) (h0 : l ≠ []) :
    Calls Try.prog 134 #[.pointer (some ⟨b, 0, none⟩)] w fun e w' => e = .returned (.string ⟨l.toArray⟩) ∧ Below B w w' := Any.Builder_String Try.lays169 Try.Builder_Extra_169 B b l w h h0
open Go.RowKit in
/-- (*strings.Builder).String OF A BUILDER THAT HOLDS NO BYTE: the empty string. (Its buffer is nil, or a row of which it has taken nothing yet; where that row has NO capacity the model lays one new block for unsafe.SliceData's 'some address'.) One draw. (LAID: no walk: one application.) -/
theorem Try.Builder_String_empty (B b : Nat) (w : World) (h : Lib.IsBuilder 139 5 B b [] w) (hBw : B ≤ w.heap.size) :
    Calls Try.prog 134 #[.pointer (some ⟨b, 0, none⟩)] w fun e w' => e = .returned (.string ⟨#[]⟩) ∧ Below B w w' := Any.Builder_String_empty Try.lays169 Try.Builder_Extra_169 B b w h hBw
open Go.RowKit in
/-- (*strings.Builder).String: "String returns the accumulated string.": WHATEVER THE BUILDER HOLDS. (LAID: no walk: one application.) -/
theorem Try.Builder_String_any (B b : Nat) (l : List UInt8) (w : World) (h : Lib.IsBuilder 139 5 B b (Lib.byteCells l) w) (hBw : B ≤ w.heap.size) :
    Calls Try.prog 134 #[.pointer (some ⟨b, 0, none⟩)] w fun e w' => e = .returned (.string ⟨l.toArray⟩) ∧ Below B w w' := Any.Builder_String_any Try.lays169 Try.Builder_Extra_169 B b l w h hBw
open Go.RowKit in
open Go.RowKit in
/-- (*strings.Builder).String: "String returns the accumulated string.": OF A BUILDER THAT HOLDS AT LEAST ONE BYTE. ✋ THE MODEL FREEZES THOSE BYTES IN THE BUFFER (unsafe.String): a later write INTO them ends the model's run without an answer; a later append BEHIND them goes on. The statement's order of evaluation is drawn: one draw. THE FORM '_f': IT SAYS BESIDES THAT THE BUILDER IS A BUILDER STILL ('Lib.IsBuilderF', the same bytes): SO IT CAN BE WRITTEN ON: 'b.WriteString(b.String()[:k])'. (LAID: no walk: one application.) -/
theorem Try.Builder_String_f (B b : Nat) (l : List UInt8) (w : World) (h : Lib.IsBuilderF 139 5 B b (Lib.byteCells l) w) (h0 : l ≠ []) :
    Calls Try.prog 134 #[.pointer (some ⟨b, 0, none⟩)] w fun e w' => e = .returned (.string ⟨l.toArray⟩) ∧ (Lib.IsBuilderF 139 5 B b (Lib.byteCells l) w' ∧ Below B w w') := Any.Builder_String_f Try.lays169 Try.Builder_Extra_169 B b l w h h0
open Go.RowKit in
/-- (*strings.Builder).String OF A BUILDER THAT HOLDS NO BYTE: the empty string; THE FORM '_f': a builder still. (LAID: no walk: one application.) -/
theorem Try.Builder_String_empty_f (B b : Nat) (w : World) (h : Lib.IsBuilderF 139 5 B b [] w) (hBw : B ≤ w.heap.size) :
    Calls Try.prog 134 #[.pointer (some ⟨b, 0, none⟩)] w fun e w' => e = .returned (.string ⟨#[]⟩) ∧ (Lib.IsBuilderF 139 5 B b [] w' ∧ Below B w w') := Any.Builder_String_empty_f Try.lays169 Try.Builder_Extra_169 B b w h hBw
open Go.RowKit in
/-- (*strings.Builder).String: "String returns the accumulated string.": WHATEVER THE BUILDER HOLDS; THE FORM '_f': OF A BUILDER THAT MAY HAVE BEEN READ BEFORE; AND IT IS A BUILDER STILL, holding the same bytes: it can be written on. (LAID: no walk: one application.) -/
theorem Try.Builder_String_any_f (B b : Nat) (l : List UInt8) (w : World) (h : Lib.IsBuilderF 139 5 B b (Lib.byteCells l) w) (hBw : B ≤ w.heap.size) :
    Calls Try.prog 134 #[.pointer (some ⟨b, 0, none⟩)] w fun e w' => e = .returned (.string ⟨l.toArray⟩) ∧ (Lib.IsBuilderF 139 5 B b (Lib.byteCells l) w' ∧ Below B w w') := Any.Builder_String_any_f Try.lays169 Try.Builder_Extra_169 B b l w h hBw
open Go.RowKit in
/-- (*strings.Builder).String: "String returns the accumulated string.": OF A BUILDER THAT HOLDS AT LEAST ONE BYTE. ✋ THE MODEL FREEZES THOSE BYTES IN THE BUFFER (unsafe.String): a later write INTO them ends the model's run without an answer; a later append BEHIND them goes on. The statement's order of evaluation is drawn: one draw. THE FORM '_k': OVER 'Lib.IsBuilderF' (a builder that 'String()' may have read), AND WITH THE FRAME THAT REACHES ABOVE THE BUILDER: 'Lib.OthersKept': every block that is not b and is no row of uint8's stands as it stood: the iterator of a range among them. (LAID: no walk: one application.) -/
theorem Try.Builder_String_k (B b : Nat) (l : List UInt8) (w : World) (h : Lib.IsBuilderF 139 5 B b (Lib.byteCells l) w) (h0 : l ≠ []) :
    Calls Try.prog 134 #[.pointer (some ⟨b, 0, none⟩)] w fun e w' => e = .returned (.string ⟨l.toArray⟩) ∧ (Lib.IsBuilderF 139 5 B b (Lib.byteCells l) w' ∧ Below B w w' ∧ Lib.OthersKept 5 (some b) w w') := Any.Builder_String_k Try.lays169 Try.Builder_Extra_169 B b l w h h0
open Go.RowKit in
/-- (*strings.Builder).String OF A BUILDER THAT HOLDS NO BYTE: the empty string; THE FORM '_k': OVER 'Lib.IsBuilderF' (a builder that 'String()' may have read), AND WITH THE FRAME THAT REACHES ABOVE THE BUILDER: 'Lib.OthersKept': every block that is not b and is no row of uint8's stands as it stood: the iterator of a range among them. (LAID: no walk: one application.) -/
theorem Try.Builder_String_empty_k (B b : Nat) (w : World) (h : Lib.IsBuilderF 139 5 B b [] w) (hBw : B ≤ w.heap.size) :
    Calls Try.prog 134 #[.pointer (some ⟨b, 0, none⟩)] w fun e w' => e = .returned (.string ⟨#[]⟩) ∧ (Lib.IsBuilderF 139 5 B b [] w' ∧ Below B w w' ∧ Lib.OthersKept 5 (some b) w w') := Any.Builder_String_empty_k Try.lays169 Try.Builder_Extra_169 B b w h hBw
open Go.RowKit in
/-- (*strings.Builder).String: "String returns the accumulated string.": WHATEVER THE BUILDER HOLDS; THE FORM '_k': OVER 'Lib.IsBuilderF' (a builder that 'String()' may have read), AND WITH THE FRAME THAT REACHES ABOVE THE BUILDER: 'Lib.OthersKept': every block that is not b and is no row of uint8's stands as it stood: the iterator of a range among them. (LAID: no walk: one application.) -/
theorem Try.Builder_String_any_k (B b : Nat) (l : List UInt8) (w : World) (h : Lib.IsBuilderF 139 5 B b (Lib.byteCells l) w) (hBw : B ≤ w.heap.size) :
    Calls Try.prog 134 #[.pointer (some ⟨b, 0, none⟩)] w fun e w' => e = .returned (.string ⟨l.toArray⟩) ∧ (Lib.IsBuilderF 139 5 B b (Lib.byteCells l) w' ∧ Below B w w' ∧ Lib.OthersKept 5 (some b) w w') := Any.Builder_String_any_k Try.lays169 Try.Builder_Extra_169 B b l w h hBw
end Go.Proofs

/- The shelf's IndexByte, laid at this translation. -/
namespace Go.Proofs
open Go.Shelf
def Try.lays137_ren : Go.Shelf.Ren := ⟨fun | 137 => 105 | 217 => 142 | 266 => 160 | n => n, fun | 9 => 9 | 5 => 5 | 3 => 3 | n => n, fun | n => n⟩
theorem Try.lays137 : Go.Proofs.Lays.n137 Try.prog Try.lays137_ren := {
  mixed := by kernel_rfl
  f137 := Try.func105.trans (congrArg some (by kernel_rfl))
  f217 := Try.func142.trans (congrArg some (by kernel_rfl))
  f266 := Try.func160.trans (congrArg some (by kernel_rfl))
  t3 := Try.underlying3
  a3 := Try.isAgg3
  z3 := Try.sizeOf3
  v3 := Try.zeroValue3
  t5 := Try.underlying5
  a5 := Try.isAgg5
  z5 := Try.sizeOf5
  v5 := Try.zeroValue5
  t9 := Try.underlying9
  a9 := Try.isAgg9
  z9 := Try.sizeOf9
  v9 := Try.zeroValue9 }
open Go.RowKit in
theorem Try.strings_IndexByte (s : ByteArray) (c : Int) (w : World) :
    Calls Try.prog 105 #[.string s, .int .u8 c] w fun e w' => e = .returned (.int .i64 (Lib.indexByte s.data.toList c.toNat.toUInt8)) ∧ w' = w := Any.strings_IndexByte Try.lays137 s c w
end Go.Proofs

/- Whether a string has lines of one length: by the program. -/
namespace Go.Proofs.Ytgmcbdnfgdmmaaa
open Go.RowKit
set_option maxRecDepth 100000
set_option linter.unusedVariables false
set_option linter.unusedSimpArgs false

/-- The byte at i is what a text with lines of w characters has there. -/
def okAt (s : ByteArray) (w i : Nat) (h : i < s.size) : Prop := if i % (w + 1) = w then (s[i]'h).toNat = 10 else (s[i]'h).toNat = 120 ∨ (s[i]'h).toNat = 46
def Lines (s : ByteArray) (w : Nat) : Prop := s.size % (w + 1) = 0 ∧ ∀ i (h : i < s.size), okAt s w i h
def Says (p : Prop) (w : World) (e : Ending) (w' : World) : Prop := ∃ b : Bool, e = .returned (.bool b) ∧ (b = true ↔ p) ∧ w' = w
theorem says_no {p : Prop} {w : World} (h : ¬ p) : Says p w (.returned (.bool false)) w := ⟨false, rfl, ⟨(fun h' => by cases h'), (fun h' => absurd h' h)⟩, rfl⟩
theorem says_yes {p : Prop} {w : World} (h : p) : Says p w (.returned (.bool true)) w := ⟨true, rfl, ⟨fun _ => h, fun _ => rfl⟩, rfl⟩

set_option maxHeartbeats 800000 in
theorem lines_any (s : ByteArray) (w : Nat) (W : World) (hs : s.size ≤ 5000) (h0 : 1 ≤ w) (h1 : w ≤ 64) :
    Calls Try.prog 106 #[.string s, .int .i64 w] W (Says (Lines s w) W) := by
  by_cases hm : s.size % (w + 1) = 0
  · have hmi : (s.size : Int) % ((w : Int) + 1) = 0 := by have := congrArg (fun n : Nat => (n : Int)) hm; simpa using this
    have hmb : ((s.size : Int) % ((w : Int) + 1) != 0) = false := by simp [hmi]
    have HM := Lib.hid hm
    clear hm hmi
    go_enter Try.func106, Try.ntmps106
    go_wp2
    go_loop [14] (fun i => ∃ k : Nat, k ≤ s.size ∧ i = .int .i64 k ∧ Hid (∀ i (h : i < s.size), i < k → okAt s w i h)) (fun i => s.size - (intOf i).toNat)
    case atStart => exact ⟨0, Nat.zero_le _, rfl, fun i _ hi => absurd hi (by omega)⟩
    case round =>
      obtain ⟨k, hk, rfl, hall⟩ := hrel
      by_cases hlt : k < s.size
      · by_cases he : k % (w + 1) = w
        · have hei : ((k : Int) % ((w : Int) + 1) == (w : Int)) = true := by
            have := congrArg (fun n : Nat => (n : Int)) he; simpa using this
          have HE := Lib.hid he
          clear he
          go_wp2
          · have h : (((s[k]'hlt).toNat : Int) != 10) = true := by assumption
            go_ret
            refine says_no fun L => ?_
            have g := L.2 k hlt
            unfold okAt at g
            rw [if_pos HE.out] at g
            simp [g] at h
          · have h : (((s[k]'hlt).toNat : Int) != 10) = false := by assumption
            refine ⟨⟨k + 1, by omega, by go_num, fun i hi hi' => ?_⟩, by simp [intOf]; omega⟩
            rcases Nat.lt_succ_iff_lt_or_eq.1 hi' with h' | rfl
            · exact hall.out i hi h'
            · unfold okAt
              rw [if_pos HE.out]
              simp at h; omega
        · have hei : ((k : Int) % ((w : Int) + 1) == (w : Int)) = false := by
            have : ((k % (w + 1) : Nat) : Int) ≠ (w : Int) := fun h => he (by exact_mod_cast h)
            simpa using this
          have HE := Lib.hid he
          clear he
          go_wp2
          · have h : ((s[k]'hlt).toNat : Int) = 120 := by assumption
            refine ⟨⟨k + 1, by omega, by go_num, fun i hi hi' => ?_⟩, by simp [intOf]; omega⟩
            rcases Nat.lt_succ_iff_lt_or_eq.1 hi' with h' | rfl
            · exact hall.out i hi h'
            · unfold okAt
              rw [if_neg HE.out]
              exact .inl (by omega)
          · have h : (((s[k]'hlt).toNat : Int) != 120) = true ∧ (((s[k]'hlt).toNat : Int) != 46) = true := by assumption
            go_ret
            refine says_no fun L => ?_
            have g := L.2 k hlt
            unfold okAt at g
            rw [if_neg HE.out] at g
            rcases g with g | g <;> simp [g] at h
          · have h : (((s[k]'hlt).toNat : Int) != 120) = false ∨ (((s[k]'hlt).toNat : Int) != 46) = false := by assumption
            refine ⟨⟨k + 1, by omega, by go_num, fun i hi hi' => ?_⟩, by simp [intOf]; omega⟩
            rcases Nat.lt_succ_iff_lt_or_eq.1 hi' with h' | rfl
            · exact hall.out i hi h'
            · unfold okAt
              rw [if_neg HE.out]
              rcases h with h | h <;> simp at h <;> omega
      · have e : k = s.size := by omega
        subst e
        go_wp2
        go_ret
        exact says_yes ⟨HM.out, fun i hi => hall.out i hi hi⟩
  · have hmi : ¬ (s.size : Int) % ((w : Int) + 1) = 0 := fun h => hm (by
      have e : ((s.size % (w + 1) : Nat) : Int) = (s.size : Int) % ((w : Int) + 1) := by simp
      omega)
    have hmb : ((s.size : Int) % ((w : Int) + 1) != 0) = true := by simp [hmi]
    have HM := Lib.hid hm
    clear hm hmi
    go_enter Try.func106, Try.ntmps106
    go_wp2
    go_ret
    exact says_no fun L => HM.out L.1
end Go.Proofs.Ytgmcbdnfgdmmaaa

/- The library's Builder at this translation; the program's text of a grid. -/
/- The library's Builder, at this translation: copyCheck and WriteByte. -/
namespace Go.Proofs.Ytgmcbdnfgdmmaaa
open Go.RowKit
set_option maxRecDepth 100000
set_option linter.unusedVariables false
set_option linter.unusedSimpArgs false
set_option maxRecDepth 100000

theorem sizeB : (Try.prog.info? 139).map (·.size) = some 2 := by kernel_rfl
theorem Try.infoB : (Try.prog.info? 5).map (fun i => (i.zero, i.size, i.bytes)) = some (some (.int .u8 0), 1, 1) := by kernel_rfl

set_option maxHeartbeats 400000 in
theorem copy_used (b : Nat) (w : World) (h0 : w.cell? ⟨b, 0, none⟩ = some (.pointer (some ⟨b, 0, none⟩))) :
    Calls Try.prog 156 #[.pointer (some ⟨b, 0, none⟩)] w fun e w' => e = .returned (.tuple #[]) ∧ w' = w := by
  obtain ⟨j, hj, _⟩ := Option.map_eq_some_iff.1 sizeB
  go_enter Try.func156, Try.ntmps156
  go_wp2
  rw [Lib.run_neq_ptr_same w _ Try.underlying136 hj]
  go_wp2
  go_end0
  exact ⟨rfl, rfl⟩

set_option maxHeartbeats 400000 in
theorem copy_fresh (b : Nat) (w : World) (h0 : w.cell? ⟨b, 0, none⟩ = some (.pointer none)) (hsh : w.shape? b = some (139, 2)) (hfz : w.frozen? ⟨b, 0, none⟩ = false) :
    Calls Try.prog 156 #[.pointer (some ⟨b, 0, none⟩)] w fun e w' => e = .returned (.tuple #[]) ∧ w' = w.setCell ⟨b, 0, none⟩ (.pointer (some ⟨b, 0, none⟩)) := by
  obtain ⟨j, hj, hjs⟩ := Option.map_eq_some_iff.1 sizeB
  go_enter Try.func156, Try.ntmps156
  go_wp2
  rw [Lib.run_to_unsafe w ⟨b, 0, none⟩ Try.underlying136 Try.underlying169 hj (by rw [hjs]; decide) hsh (Nat.zero_lt_succ 1)]
  simp only [Result.andThen]
  rw [Oper.upon_value]
  go_wp2
  rw [run_callFunc_extern Try.func163 (by kernel_rfl) (by kernel_rfl) (by kernel_rfl) (e := Extern.AbiNoEscape.same) (by kernel_rfl)]
  rw [Lib.run_noEscape]
  simp only [Result.andThen]
  rw [Oper.upon_value]
  go_wp2
  rw [Lib.run_from_unsafe w ⟨b, 0, none⟩ Try.underlying169 Try.underlying136 hj hsh (by kernel_rfl)]
  simp only [Result.andThen]
  rw [Oper.upon_value]
  go_wp2
  go_end0
  exact ⟨rfl, rfl⟩

theorem copy_any (B b : Nat) (bs : List Value) (w : World) (h : Lib.IsBuilderF 139 5 B b bs w) :
    Calls Try.prog 156 #[.pointer (some ⟨b, 0, none⟩)] w fun e w' => e = .returned (.tuple #[]) ∧ Lib.BuilderAtF 139 5 B b (.pointer (some ⟨b, 0, none⟩)) bs w' ∧ Below B w w' := by
  rcases h with h | h
  · refine (copy_fresh b w h.cell0 h.shape h.frozen0).mono ?_
    rintro e w' ⟨rfl, rfl⟩
    exact ⟨rfl, h.used _, (Below.refl B w).setCell (p := ⟨b, 0, none⟩) h.1 _⟩
  · refine (copy_used b w h.cell0).mono ?_
    rintro e w' ⟨rfl, rfl⟩
    exact ⟨rfl, h, Below.refl B _⟩

set_option maxHeartbeats 800000 in
theorem write_any (B b : Nat) (bs : List Value) (c : Int) (w : World) (h : Lib.IsBuilderF 139 5 B b bs w) (hlen : bs.length + 1 ≤ 140737488355328) (hBw : B ≤ w.heap.size) :
    Calls Try.prog 132 #[.pointer (some ⟨b, 0, none⟩), .int .u8 c] w fun e w' => e = .returned .nilIface ∧ Lib.BuilderAtF 139 5 B b (.pointer (some ⟨b, 0, none⟩)) (bs ++ [.int .u8 c]) w' ∧ Below B w w' := by
  obtain ⟨i0, hi, hz0, hz1, hz2⟩ := info_parts Try.infoB
  go_enter Try.func132, Try.ntmps132
  go_wp2_with fail
  refine (copy_any B b bs _ h).mono ?_
  rintro e w1 ⟨rfl, h1, hb1⟩
  obtain ⟨hB, v, hbk, hown, hne⟩ := h1
  have c0 : w1.cell? ⟨b, 0, none⟩ = some (.pointer (some ⟨b, 0, none⟩)) := by rw [Lib.cell_of_heap hbk]; rfl
  have c1 : w1.cell? ⟨b, 1, none⟩ = some v := by rw [Lib.cell_of_heap hbk]; rfl
  go_wp2_with (at_builtin; refine wpList_append_ownF _ rfl _ _ 137 rfl B 5 i0 (.int .u8 0) 1 1 Try.underlying137 hi hz0 hz1 hz2 rfl (by decide) _ _ _ rfl (hown.alloc _) ⟨w1.heap.size, 0, none⟩ 1 1 [.int .u8 c] rfl rfl ?c1 ?c2 ?c3 ?c4 ?c5 ?_)
  case c1 =>
    intro j u hj
    match j, hj with
    | 0, hj => simp at hj; subst hj; simp [Addr.add]
  case c2 => intro u hu; simp at hu; subst hu; rfl
  case c3 => unfold maxLen; omega
  case c4 => omega
  case c5 => have := hb1.size; simp; omega
  intro v' w2 hown' hgrow _
  have hlt : b < w1.heap.size := by
    rcases Nat.lt_or_ge b w1.heap.size with h' | h'
    · exact h'
    · simp [Array.getElem?_eq_none h'] at hbk
  have hb2 : w2.heap[b]? = some (.cells #[.pointer (some ⟨b, 0, none⟩), v] 139 (0, 0)) := by
    rw [hgrow.block b (by simp; omega) (fun e => hne e.symm), Lib.alloc_old w1 _ b hlt]
    exact hbk
  have d0 : w2.cell? ⟨b, 0, none⟩ = some (.pointer (some ⟨b, 0, none⟩)) := by rw [Lib.cell_of_heap hb2]; rfl
  have d1 : w2.cell? ⟨b, 1, none⟩ = some v := by rw [Lib.cell_of_heap hb2]; rfl
  have f1 : w2.frozen? ⟨b, 1, none⟩ = false := Lib.frozen_of_heap hb2 1
  obtain ⟨g, cap, rfl⟩ : ∃ g cap, v' = .slice (some ⟨g, 0, none⟩) (bs.length + 1) cap := by
    rcases hown'.2 with ⟨_, h0⟩ | ⟨g, cap, cur, fz, hv, _⟩
    · omega
    · exact ⟨g, cap, hv⟩
  go_wp2
  go_ret
  refine ⟨rfl, ?_, ?_⟩
  · exact Lib.BuilderAtF.put (T := 139) (e := 5) hB hb2 (bs' := bs ++ [.int .u8 c]) (by simpa using hown') (by decide)
  · exact ((hb1.alloc (by have := hb1.size; omega) _).grown hgrow (by have := hb1.size; simp; omega) (fun k hk => (hown.lt k hk).1)).setCell (p := ⟨b, 1, none⟩) hB _
end Go.Proofs.Ytgmcbdnfgdmmaaa

/- The program's text of a grid. -/
namespace Go.Proofs.Ytgmcbdnfgdmmaaa
open Go.RowKit
set_option linter.unusedVariables false
set_option linter.unusedSimpArgs false
set_option maxRecDepth 100000

def mk (b : Bool) : UInt8 := if b then 120 else 46
def cellsL (W : Nat) (f : Nat → Bool) (y x : Nat) : List UInt8 := (List.range x).map fun i => mk (f (y * W + i))
def rowL (W : Nat) (f : Nat → Bool) (y : Nat) : List UInt8 := cellsL W f y W ++ [10]
/-- The first k lines of the text: the rows H - 1, H - 2, .. -/
def rowsT (W H : Nat) (f : Nat → Bool) (k : Nat) : List UInt8 := (List.range k).flatMap fun j => rowL W f (H - 1 - j)
theorem cellsL_succ (W : Nat) (f : Nat → Bool) (y x : Nat) : cellsL W f y (x + 1) = cellsL W f y x ++ [mk (f (y * W + x))] := by
  unfold cellsL; rw [List.range_succ, List.map_append]; rfl
theorem cellsL_length (W : Nat) (f : Nat → Bool) (y x : Nat) : (cellsL W f y x).length = x := by simp [cellsL]
theorem rowsT_succ (W H : Nat) (f : Nat → Bool) (k : Nat) : rowsT W H f (k + 1) = rowsT W H f k ++ rowL W f (H - 1 - k) := by
  unfold rowsT; rw [List.range_succ, List.flatMap_append]; simp
theorem rowsT_length (W H : Nat) (f : Nat → Bool) (k : Nat) : (rowsT W H f k).length = k * (W + 1) := by
  induction k with
  | zero => simp [rowsT]
  | succ k ih => rw [rowsT_succ, List.length_append, ih, rowL, List.length_append, cellsL_length, Nat.add_mul]; simp

set_option maxHeartbeats 400000 in
theorem mark_any (b : Bool) (w : World) : Calls Try.prog 133 #[.bool b] w fun e w' => e = .returned (.int .u8 ((mk b).toNat : Int)) ∧ w' = w := by
  cases b <;> (go_enter Try.func133, Try.ntmps133; go_wp2; go_ret; exact ⟨rfl, rfl⟩)

theorem builder_next {T e : TypeId} {B b : Nat} {bs : List Value} {w w' : World} (h : Lib.IsBuilderF T e B b bs w) (hb : Below w.heap.size w w') : Lib.IsBuilderF T e B b bs w' := by
  have key : ∀ {p : Value}, Lib.BuilderAtF T e B b p bs w → Lib.BuilderAtF T e B b p bs w' := by
    rintro p ⟨h1, v, h2, h3, h4⟩
    have hlt : ∀ {i : Nat} {o : Obj}, w.heap[i]? = some o → w'.heap[i]? = some o := fun {i o} hi => by
      have hl : i < w.heap.size := (Array.getElem?_eq_some_iff.1 hi).1
      rw [hb.block i hl, hi]
    refine ⟨h1, v, hlt h2, ?_, h4⟩
    obtain ⟨l, hh⟩ := h3
    refine ⟨l, ?_⟩
    rcases hh with hh | ⟨g, cap, cur, fz, a1, a2, a3, a4⟩
    · exact .inl hh
    · exact .inr ⟨g, cap, cur, fz, a1, a2, hlt a3, a4⟩
  exact h.elim (fun x => .inl (key x)) (fun x => .inr (key x))

set_option maxHeartbeats 400000 in
theorem text_err (W H : Int) (A : Option Addr) (n c : Nat) (w : World) (err : Int) (hn : n ≤ 4200) (hx : chk W H n = err) (hne : (err != 0) = true) :
    Calls Try.prog 95 #[.agg #[.int .i64 W, .int .i64 H, .slice A n c]] w fun e w' => e = .returned (.tuple #[.string ⟨#[]⟩, .int .i64 err]) ∧ Below w.heap.size w w' := by
  have HC := Lib.hid (chk_err (A := A) (c := c) hn hx)
  clear hx
  have hbel := Lib.hid ((Below.refl w.heap.size w).alloc (Nat.le_refl _) (.cells #[.int .i64 W, .int .i64 H, .slice A n c] 24))
  go_enter Try.func95, Try.ntmps95
  go_wp2_with fail
  refine (HC.out _).mono ?_
  rintro e w1 ⟨rfl, hb1⟩
  go_wp2
  go_ret2
  exact ⟨rfl, hbel.out.trans (hb1.mono hbel.out.size)⟩

/-- What the loops of Text keep. -/
structure TR (w wr : World) (W H : Nat) (A : Option Addr) (c : Nat) (f : Nat → Bool) (b : Nat) (l : List UInt8) : Prop where
  g : Box wr w.heap.size W H (.slice A (W * H) c)
  cells : Holds wr w.heap.size A (W * H) f
  bd : Lib.IsBuilderF 139 5 b b (Lib.byteCells l) wr
  bel : Below w.heap.size w wr
  s0 : w.heap.size < b
  s1 : b ≤ wr.heap.size
theorem TR.next {w wr w' : World} {W H : Nat} {A : Option Addr} {c : Nat} {f : Nat → Bool} {b : Nat} {l : List UInt8} (h : TR w wr W H A c f b l) (hb : Below wr.heap.size wr w') : TR w w' W H A c f b l :=
  ⟨h.g.below hb h.g.lt, h.cells.below (hb.mono h.bel.size), builder_next h.bd hb, h.bel.trans (hb.mono h.bel.size), h.s0, Nat.le_trans h.s1 hb.size⟩
theorem TR.wrote {w wr w' : World} {W H : Nat} {A : Option Addr} {c : Nat} {f : Nat → Bool} {b : Nat} {l : List UInt8} (h : TR w wr W H A c f b l) (hb : Below b wr w') {u : UInt8}
    (h1 : Lib.BuilderAtF 139 5 b b (.pointer (some ⟨b, 0, none⟩)) (Lib.byteCells l ++ [.int .u8 (u.toNat : Int)]) w') : TR w w' W H A c f b (l ++ [u]) :=
  ⟨h.g.below hb h.s0, h.cells.below (hb.mono (by have := h.s0; omega)), by rw [Lib.byteCells_append]; exact Or.inr h1, h.bel.trans (hb.mono (by have := h.s0; omega)), h.s0, Nat.le_trans h.s1 hb.size⟩

set_option maxHeartbeats 1600000 in
theorem text_ok (W H : Nat) (A : Option Addr) (c : Nat) (f : Nat → Bool) (w : World) (hr : Holds w w.heap.size A (W * H) f) (hW0 : 1 ≤ W) (hW : W ≤ 64) (hH0 : 1 ≤ H) (hH : H ≤ 64) :
    Calls Try.prog 95 #[.agg #[.int .i64 W, .int .i64 H, .slice A (W * H) c]] w fun e w' => e = .returned (.tuple #[.string ⟨(rowsT W H f H).toArray⟩, .int .i64 0]) ∧ Below w.heap.size w w' := by
  have HR := Lib.hid hr
  clear hr
  have hbx := Lib.hid (Box.new w W H (.slice A (W * H) c))
  have hbel := Lib.hid ((Below.refl w.heap.size w).alloc (Nat.le_refl _) (.cells #[.int .i64 W, .int .i64 H, .slice A (W * H) c] 24))
  go_enter Try.func95, Try.ntmps95
  go_wp2_with fail
  refine (chk_valid A c _ hW0 hW hH0 hH).mono ?_
  rintro e w1 ⟨rfl, hb1⟩
  have hbox := hbx.out.below hb1 (by simp)
  have hbel1 := hbel.out.trans (hb1.mono hbel.out.size)
  have hs1 : w.heap.size < w1.heap.size := by have := hb1.size; simp at this; omega
  have R0 := Lib.hid (⟨hbox.alloc _, HR.out.below (hbel1.alloc hbel1.size _), Lib.IsBuilderF.of (Lib.fresh_isBuilder 139 5 w1), hbel1.alloc hbel1.size _, hs1, by simp⟩ :
    TR w (w1.alloc (.cells #[.pointer none, .slice none 0 0] 139)) W H A c f w1.heap.size [])
  obtain ⟨q0, q1, q2, q3, q4, q5, q6⟩ := hbox.all
  clear hb1 hbox hbel1
  go_wp2
  clear q0 q1 q2 q3 q4 q5
  go_loopw [6] (fun i wr => ∃ k : Nat, k ≤ H ∧ i = .int .i64 ((H : Int) - 1 - (k : Int)) ∧ TR w wr W H A c f w1.heap.size (rowsT W H f k)) (fun i _ => (intOf i + 1).toNat)
  case atStart => exact ⟨0, Nat.zero_le _, by simp, R0.out⟩
  case round =>
    obtain ⟨k, hk, rfl, R⟩ := hrel
    obtain ⟨wo, rfl⟩ : ∃ wo : World, wo = wr := ⟨_, rfl⟩
    by_cases hlt : k < H
    · have q0 := R.g.c0
      have R1 := Lib.hid R
      clear R
      have y0 : 0 ≤ (H : Int) - 1 - (k : Int) := by omega
      have yd : decide ((k : Int) ≤ (H : Int) - 1) = true := by simp; omega
      go_wp2
      clear q0
      go_loopw [22] (fun i wr => ∃ x : Nat, x ≤ W ∧ i = .int .i64 x ∧ TR w wr W H A c f w1.heap.size (rowsT W H f k ++ cellsL W f (H - 1 - k) x)) (fun i _ => W - (intOf i).toNat)
      case atStart => exact ⟨0, Nat.zero_le _, rfl, by simpa [cellsL] using R1.out⟩
      case round =>
        obtain ⟨x, hx, rfl, R⟩ := hrel
        by_cases hlx : x < W
        · have q0 := R.g.c0
          have q1 := R.g.c1
          have q2 := R.g.c2
          have R2 := Lib.hid R
          clear R
          have HA := Lib.hid (cell_nat W H A c x ((H : Int) - 1 - (k : Int)) f wr (R2.out.cells.more R2.out.bel.size) hW hH x (H - 1 - k) rfl (by omega) hlx (by omega))
          have hl : k * (W + 1) ≤ 64 * 65 := Nat.mul_le_mul (by omega) (by omega)
          go_wp2_with fail
          refine HA.out.mono ?_
          rintro e w2 ⟨rfl, hb2⟩
          have R3 := Lib.hid (R2.out.next hb2)
          clear hb2 q0 q1 q2
          go_wp2_with fail
          refine (mark_any _ _).mono ?_
          rintro e w2' ⟨rfl, rfl⟩
          go_wp2_with fail
          refine (write_any w1.heap.size w1.heap.size _ _ _ R3.out.bd (by rw [Lib.byteCells_length, List.length_append, rowsT_length, cellsL_length]; omega) R3.out.s1).mono ?_
          rintro e w3 ⟨rfl, h1, hb3⟩
          have R4 := Lib.hid (R3.out.wrote hb3 h1)
          clear h1 hb3
          go_wp2
          go_roundw
          case rel => (first | exact ⟨x + 1, by omega, by go_num, by rw [cellsL_succ, ← List.append_assoc]; exact R4.out⟩ | ((repeat apply Exists.intro); exact ⟨⟨x + 1, by omega, by go_num, by rw [cellsL_succ, ← List.append_assoc]; exact R4.out⟩, rfl⟩))
          case measure => simp [intOf]; omega
        · have e : x = W := by omega
          subst e
          have hl : k * (x + 1) ≤ 64 * 65 := Nat.mul_le_mul (by omega) (by omega)
          have R2 := Lib.hid R
          clear R
          go_wp2_with fail
          refine (write_any w1.heap.size w1.heap.size _ _ _ R2.out.bd (by rw [Lib.byteCells_length, List.length_append, rowsT_length, cellsL_length]; omega) R2.out.s1).mono ?_
          rintro e w3 ⟨rfl, h1, hb3⟩
          have R4 := Lib.hid (R2.out.wrote (u := 10) hb3 h1)
          clear h1 hb3
          go_wp2
          go_roundw
          case rel => (first | exact ⟨k + 1, by omega, congrArg (Value.int .i64) (by omega), by rw [rowsT_succ, rowL, ← List.append_assoc]; exact R4.out⟩ | ((repeat apply Exists.intro); exact ⟨⟨k + 1, by omega, congrArg (Value.int .i64) (by omega), by rw [rowsT_succ, rowL, ← List.append_assoc]; exact R4.out⟩, rfl⟩))
          case measure => simp [intOf]; omega
    · have e : k = H := by omega
      subst e
      have y0 : (k : Int) - 1 - (k : Int) < 0 := by omega
      have R2 := Lib.hid R
      clear R
      go_wp2_with fail
      refine (Try.Builder_String_any_k w1.heap.size w1.heap.size _ _ R2.out.bd R2.out.s1).mono ?_
      rintro e w3 ⟨rfl, _, hb3, _⟩
      go_wp2
      go_ret2
      exact ⟨rfl, R2.out.bel.trans (hb3.mono (by have := R2.out.s0; omega))⟩
end Go.Proofs.Ytgmcbdnfgdmmaaa

/- The program's Parse. -/
namespace Go.Proofs.Ytgmcbdnfgdmmaaa
open Go.RowKit
set_option maxRecDepth 100000
set_option linter.unusedVariables false
set_option linter.unusedSimpArgs false

def bitS (s : ByteArray) (i : Nat) : Bool := if h : i < s.size then (s[i]'h).toNat == 120 else false
/-- A captured string in a variable of its own. -/
def StrAt (w : World) (g : Nat) (s : ByteArray) : Prop := w.cell? ⟨g, 0, none⟩ = some (.string s) ∧ g < w.heap.size
theorem StrAt.below {w w' : World} {g : Nat} {s : ByteArray} (h : StrAt w g s) (hb : Below w.heap.size w w') : StrAt w' g s :=
  ⟨(hb.cell (p := ⟨g, 0, none⟩) h.2).trans h.1, Nat.lt_of_lt_of_le h.2 hb.size⟩

theorem text_ix {w h x y n : Nat} (hx : x < w) (hy : y < h) (hn : h * (w + 1) = n) : (h - 1 - y) * (w + 1) + x < n := by
  have e : (h - 1 - y) * (w + 1) + (w + 1) ≤ h * (w + 1) := by
    have := Nat.mul_le_mul_right (w + 1) (show h - 1 - y + 1 ≤ h by omega)
    rw [Nat.add_mul, Nat.one_mul] at this
    exact this
  omega

set_option maxHeartbeats 400000 in
theorem parse_clo {W : World} {gs gh gw w h : Nat} {s : ByteArray} (ns : StrAt W gs s) (nh : Num W gh h) (nw : Num W gw w) (w1 : w ≤ 64) (h1 : h ≤ 64) (hn : h * (w + 1) = s.size) :
    Gives 107 #[.pointer (some ⟨gs, 0, none⟩), .pointer (some ⟨gh, 0, none⟩), .pointer (some ⟨gw, 0, none⟩)] W w h (fun x y => bitS s ((h - 1 - y) * (w + 1) + x)) := by
  intro W1 x y hb hx hy
  obtain ⟨q0, q1⟩ := ns.below hb
  obtain ⟨q2, q3⟩ := nh.below hb
  obtain ⟨q4, q5⟩ := nw.below hb
  have hi := text_ix hx hy hn
  have hbd : (h - 1 - y) * (w + 1) ≤ 64 * 65 := Nat.mul_le_mul (by omega) (by omega)
  have e1 : ((h : Int) - 1 - (y : Int)) * ((w : Int) + 1) = (((h - 1 - y) * (w + 1) : Nat) : Int) := by
    have a1 : (h : Int) - 1 - (y : Int) = ((h - 1 - y : Nat) : Int) := by omega
    have a2 : (w : Int) + 1 = ((w + 1 : Nat) : Int) := by omega
    rw [a1, a2, Int.natCast_mul]
  obtain ⟨p, hp⟩ : ∃ p, (h - 1 - y) * (w + 1) = p := ⟨_, rfl⟩
  rw [hp] at e1 hi hbd
  have HP := Lib.hid hp
  clear hp
  have hb0 : bitS s (p + x) = (((s[p + x]'hi).toNat : Int) == 120) := by
    unfold bitS
    rw [dif_pos hi, Bool.eq_iff_iff]
    simp
    omega
  have HB := Lib.hid hb0
  clear hb0 ns nh nw hn
  have hii : (p : Int) + (x : Int) < (s.size : Int) := by omega
  have e2 : ((p : Int) + (x : Int)).toNat = p + x := by omega
  go_enter Try.func107, Try.ntmps107
  go_wp2
  go_ret
  exact ⟨ret_bool (by show _ = bitS s ((h - 1 - y) * (w + 1) + x); rw [HP.out]; exact HB.out.symm), Below.refl _ _⟩

/-- Parse's parameter in its box, the result's box and the first number, behind the first call. -/
theorem parse_start (w : World) (s : ByteArray) (i : Int) :
    StrAt (((w.alloc (.cells #[.string s] 9)).alloc (.cells #[.int .i64 0, .int .i64 0, .slice none 0 0] 24)).alloc (.cells #[.int .i64 i] 3)) w.heap.size s ∧
    Box (((w.alloc (.cells #[.string s] 9)).alloc (.cells #[.int .i64 0, .int .i64 0, .slice none 0 0] 24)).alloc (.cells #[.int .i64 i] 3)) (w.heap.size + 1) 0 0 (.slice none 0 0) ∧
    Num (((w.alloc (.cells #[.string s] 9)).alloc (.cells #[.int .i64 0, .int .i64 0, .slice none 0 0] 24)).alloc (.cells #[.int .i64 i] 3)) (w.heap.size + 2) i ∧
    Below w.heap.size w (((w.alloc (.cells #[.string s] 9)).alloc (.cells #[.int .i64 0, .int .i64 0, .slice none 0 0] 24)).alloc (.cells #[.int .i64 i] 3)) ∧
    (((w.alloc (.cells #[.string s] 9)).alloc (.cells #[.int .i64 0, .int .i64 0, .slice none 0 0] 24)).alloc (.cells #[.int .i64 i] 3)).heap.size = w.heap.size + 3 := by
  have h1 : StrAt (w.alloc (.cells #[.string s] 9)) w.heap.size s := ⟨by simp, by simp⟩
  have h1' := (h1.below ((Below.refl _ _).alloc (Nat.le_refl _) (.cells #[.int .i64 0, .int .i64 0, .slice none 0 0] 24))).below ((Below.refl _ _).alloc (Nat.le_refl _) (.cells #[.int .i64 i] 3))
  have h2 := (Box.new (w.alloc (.cells #[.string s] 9)) 0 0 (.slice none 0 0)).alloc (.cells #[.int .i64 i] 3)
  have h3 := Num.new ((w.alloc (.cells #[.string s] 9)).alloc (.cells #[.int .i64 0, .int .i64 0, .slice none 0 0] 24)) i
  simp only [World.size_alloc] at h2 h3
  exact ⟨h1', h2, h3, (((Below.refl _ _).alloc (Nat.le_refl _) _).alloc (by simp) _).alloc (by simp; omega) _, by simp⟩

theorem lines_yes (s : ByteArray) (w : Nat) (W : World) (hs : s.size ≤ 5000) (h0 : 1 ≤ w) (h1 : w ≤ 64) (hL : Lines s w) :
    Calls Try.prog 106 #[.string s, .int .i64 w] W fun e w' => e = .returned (.bool true) ∧ w' = W :=
  (lines_any s w W hs h0 h1).mono fun e w' ⟨b, he, hb, hw⟩ => ⟨by rw [he, hb.2 hL], hw⟩
theorem lines_no (s : ByteArray) (w : Nat) (W : World) (hs : s.size ≤ 5000) (h0 : 1 ≤ w) (h1 : w ≤ 64) (hL : ¬ Lines s w) :
    Calls Try.prog 106 #[.string s, .int .i64 w] W fun e w' => e = .returned (.bool false) ∧ w' = W :=
  (lines_any s w W hs h0 h1).mono fun e w' ⟨b, he, hb, hw⟩ => ⟨by
    cases b
    · exact he
    · exact absurd (hb.1 rfl) hL, hw⟩

set_option maxHeartbeats 800000 in
theorem parse_ok (s : ByteArray) (w h : Nat) (W : World) (hs : s.size ≤ 5000) (w0 : 1 ≤ w) (w1 : w ≤ 64) (h0 : 1 ≤ h) (h1 : h ≤ 64) (hn : h * (w + 1) = s.size) (hL : Lines s w)
    (hI : ∀ W', Calls Try.prog 105 #[.string s, .int .u8 10] W' fun e w' => e = .returned (.int .i64 (w : Int)) ∧ w' = W') :
    Calls Try.prog 65 #[.string s] W (OkGrid W w h fun i => bitS s ((h - 1 - i / w) * (w + 1) + i % w)) := by
  have hmf := mk_fn
  have HI := Lib.hid hI
  have HL := Lib.hid hL
  have HN := Lib.hid hn
  have S0 := Lib.hid (parse_start W s w)
  have ez : ¬ w + 1 = 0 := by omega
  have eq : (s.size : Int).tdiv ((w : Int) + 1) = (h : Int) := by
    have e1 : (s.size : Int) = (h : Int) * ((w : Int) + 1) := by rw [← hn, Int.natCast_mul]; simp
    rw [e1, Int.mul_tdiv_cancel _ (by omega)]
  have eq' : (s.size : Int) / ((w : Int) + 1) = (h : Int) := by
    have e1 : (s.size : Int) = (h : Int) * ((w : Int) + 1) := by rw [← hn, Int.natCast_mul]; simp
    rw [e1, Int.mul_ediv_cancel _ (by omega)]
  clear hI hL hn
  go_enter Try.func65, Try.ntmps65
  go_wp2_with fail
  refine (HI.out _).mono ?_
  rintro e w2 ⟨rfl, rfl⟩
  have i1 : (1 : Int) ≤ (w : Int) := by omega
  have i2 : (w : Int) ≤ 64 := by omega
  have i3 : (h : Int) ≤ 64 := by omega
  have dz : decide ((64 : Int) < (h : Int)) = false := by simp; omega
  go_wp2_with fail
  have S := S0.out
  generalize ((W.alloc (.cells #[.string s] 9)).alloc (.cells #[.int .i64 0, .int .i64 0, .slice none 0 0] 24)).alloc (.cells #[.int .i64 (w : Int)] 3) = W3 at *
  obtain ⟨a1, a2, a3, a4, a5⟩ := S
  refine (lines_yes s w _ hs w0 w1 HL.out).mono ?_
  rintro e w2 ⟨rfl, rfl⟩
  obtain ⟨q0, q1⟩ := a1
  obtain ⟨q2, q3⟩ := a3
  have HA2 := Lib.hid a2
  have HA4 := Lib.hid a4
  have HA5 := Lib.hid a5
  clear a2 a4 a5
  go_wp2_with fail
  have hb0 := (Below.refl w2.heap.size w2).alloc (Nat.le_refl _) (.cells #[.int .i64 (h : Int)] 3)
  refine (build_any w h w0 w1 h0 h1 107 _ _ _ (parse_clo (StrAt.below ⟨q0, q1⟩ hb0) (Num.new w2 h) (Num.below ⟨q2, q3⟩ hb0) w1 h1 HN.out) (Go.Proofs.enters_of Try.func107 (by kernel_rfl) rfl)).mono ?_
  rintro e w3 ⟨k, rfl, hk, hrow, hb3⟩
  have hbel := hb0.trans (hb3.mono hb0.size)
  have hbox := HA2.out.below hbel HA2.out.lt
  have hsz := HA5.out
  have hsz0 := hb0.size
  have hbelW := HA4.out.trans (hbel.mono HA4.out.size)
  clear hb0 hb3 hbel q0 q1 q2 q3
  obtain ⟨p0, p1, p2, p3, p4, p5, p6⟩ := hbox.all
  clear hbox
  have HZ := Lib.hid hsz
  have hkr : W.heap.size + 1 < k := by omega
  clear hsz
  go_wp2
  refine bodyPost_ret (v := .tuple #[.agg #[.int .i64 w, .int .i64 h, .slice (some ⟨k, 0, none⟩) (w * h) (w * h)], .int .i64 0]) (by simp [results, Try.results65, go_sem, p0, p1, p2]) rfl ?_
  exact fin_ok (by omega) hkr (hrow.congr fun i hi => rfl) hbelW

set_option maxHeartbeats 800000 in
theorem parse_bad2 (s : ByteArray) (w : Nat) (W : World) (hs : s.size ≤ 5000) (w0 : 1 ≤ w) (w1 : w ≤ 64) (hL : ¬ Lines s w)
    (hI : ∀ W', Calls Try.prog 105 #[.string s, .int .u8 10] W' fun e w' => e = .returned (.int .i64 (w : Int)) ∧ w' = W') :
    Calls Try.prog 65 #[.string s] W (ErrGrid W 12) := by
  have HI := Lib.hid hI
  have S0 := Lib.hid (parse_start W s (w : Int))
  clear hI
  have HL := Lib.hid hL
  clear hL
  have i1 : (1 : Int) ≤ (w : Int) := by omega
  have i2 : (w : Int) ≤ 64 := by omega
  go_enter Try.func65, Try.ntmps65
  go_wp2_with fail
  refine (HI.out _).mono ?_
  rintro e w2 ⟨rfl, rfl⟩
  go_wp2_with fail
  have S := S0.out
  clear S0
  generalize ((W.alloc (.cells #[.string s] 9)).alloc (.cells #[.int .i64 0, .int .i64 0, .slice none 0 0] 24)).alloc (.cells #[.int .i64 (w : Int)] 3) = W3 at *
  obtain ⟨a1, a2, a3, a4, a5⟩ := S
  refine (lines_no s w _ hs w0 w1 HL.out).mono ?_
  rintro e w2 ⟨rfl, rfl⟩
  obtain ⟨p0, p1, p2, p3, p4, p5, p6⟩ := a2.all
  have HB := Lib.hid a4
  clear a1 a2 a3 a4 a5
  go_wp2
  refine bodyPost_ret (v := .tuple #[.agg #[.int .i64 0, .int .i64 0, .slice none 0 0], .int .i64 12]) (by simp [results, Try.results65, go_sem, p0, p1, p2]) rfl ?_
  exact fin_err (by omega) HB.out

set_option maxHeartbeats 800000 in
theorem parse_bad3 (s : ByteArray) (w h : Nat) (W : World) (hs : s.size ≤ 5000) (w0 : 1 ≤ w) (w1 : w ≤ 64) (hL : Lines s w) (hn : h * (w + 1) = s.size) (hh : 64 < h)
    (hI : ∀ W', Calls Try.prog 105 #[.string s, .int .u8 10] W' fun e w' => e = .returned (.int .i64 (w : Int)) ∧ w' = W') :
    Calls Try.prog 65 #[.string s] W (ErrGrid W 12) := by
  have HI := Lib.hid hI
  have S0 := Lib.hid (parse_start W s (w : Int))
  clear hI
  have HL := Lib.hid hL
  have i1 : (1 : Int) ≤ (w : Int) := by omega
  have i2 : (w : Int) ≤ 64 := by omega
  have e1 : (s.size : Int) = (h : Int) * ((w : Int) + 1) := by rw [← hn, Int.natCast_mul]; simp
  have ez : ¬ w + 1 = 0 := by omega
  have eq : (s.size : Int).tdiv ((w : Int) + 1) = (h : Int) := by rw [e1, Int.mul_tdiv_cancel _ (by omega)]
  have eq' : (s.size : Int) / ((w : Int) + 1) = (h : Int) := by rw [e1, Int.mul_ediv_cancel _ (by omega)]
  have hh2 : (h : Int) ≤ 5000 := by have := Nat.le_mul_of_pos_right h (show 0 < w + 1 by omega); omega
  have dz : decide ((64 : Int) < (h : Int)) = true := by simp; omega
  have i3 : (64 : Int) < (h : Int) := by omega
  clear hL hn e1
  go_enter Try.func65, Try.ntmps65
  go_wp2_with fail
  refine (HI.out _).mono ?_
  rintro e w2 ⟨rfl, rfl⟩
  go_wp2_with fail
  have S := S0.out
  clear S0
  generalize ((W.alloc (.cells #[.string s] 9)).alloc (.cells #[.int .i64 0, .int .i64 0, .slice none 0 0] 24)).alloc (.cells #[.int .i64 (w : Int)] 3) = W3 at *
  obtain ⟨a1, a2, a3, a4, a5⟩ := S
  refine (lines_yes s w _ hs w0 w1 HL.out).mono ?_
  rintro e w2 ⟨rfl, rfl⟩
  obtain ⟨q0, q1⟩ := a1
  obtain ⟨q2, q3⟩ := a3
  have hb0 := (Below.refl w2.heap.size w2).alloc (Nat.le_refl _) (.cells #[.int .i64 (h : Int)] 3)
  have HB := Lib.hid a4
  obtain ⟨p0, p1, p2, p3, p4, p5, p6⟩ := a2.all
  clear a2 a4 a5 hb0
  go_wp2
  have hx : W.heap.size + 1 < (((w2.setCell ⟨W.heap.size + 1, 0, none⟩ (.int .i64 0)).setCell ⟨W.heap.size + 1, 1, none⟩ (.int .i64 0)).setCell ⟨W.heap.size + 1, 2, none⟩ (.slice none 0 0)).heap.size := by simpa using p6
  have hy := fun i => World.cell?_alloc_lt (((w2.setCell ⟨W.heap.size + 1, 0, none⟩ (.int .i64 0)).setCell ⟨W.heap.size + 1, 1, none⟩ (.int .i64 0)).setCell ⟨W.heap.size + 1, 2, none⟩ (.slice none 0 0)) (.cells #[.int .i64 (h : Int)] 3) ⟨W.heap.size + 1, i, none⟩ hx
  refine bodyPost_ret (v := .tuple #[.agg #[.int .i64 0, .int .i64 0, .slice none 0 0], .int .i64 12]) (by simp [results, Try.results65, go_sem, hy, p0, p1, p2]) rfl ⟨rfl, ?_⟩
  exact ((((HB.out.setCell (by simp) _).setCell (by simp) _).setCell (by simp) _).alloc (by have := HB.out.size; simp; omega) _)

set_option maxHeartbeats 800000 in
theorem parse_bad1 (s : ByteArray) (w : Int) (W : World) (hw : w < 1 ∨ 64 < w)
    (hI : ∀ W', Calls Try.prog 105 #[.string s, .int .u8 10] W' fun e w' => e = .returned (.int .i64 w) ∧ w' = W') :
    Calls Try.prog 65 #[.string s] W (ErrGrid W 12) := by
  have HI := Lib.hid hI
  have S0 := Lib.hid (parse_start W s w)
  clear hI
  have HW := Lib.hid hw
  clear hw
  go_enter Try.func65, Try.ntmps65
  go_wp2_with fail
  refine (HI.out _).mono ?_
  rintro e w2 ⟨rfl, rfl⟩
  have S := S0.out
  clear S0
  obtain ⟨a1, a2, a3, a4, a5⟩ := S
  have HB := Lib.hid a4
  obtain ⟨p0, p1, p2, p3, p4, p5, p6⟩ := a2.all
  clear a1 a2 a3 a4 a5
  rcases HW.out with hw | hw
  · go_wp2
    refine bodyPost_ret (v := .tuple #[.agg #[.int .i64 0, .int .i64 0, .slice none 0 0], .int .i64 12]) (by simp [results, Try.results65, go_sem]) rfl ⟨rfl, ?_⟩
    exact HB.out
  · have hw' : ¬ w < 1 := by omega
    go_wp2
    refine bodyPost_ret (v := .tuple #[.agg #[.int .i64 0, .int .i64 0, .slice none 0 0], .int .i64 12]) (by simp [results, Try.results65, go_sem]) rfl ⟨rfl, ?_⟩
    exact HB.out
end Go.Proofs.Ytgmcbdnfgdmmaaa
