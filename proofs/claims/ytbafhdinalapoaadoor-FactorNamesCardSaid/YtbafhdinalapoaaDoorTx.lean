/- The library's Builder at this translation; the program's text of a grid. -/
import Derived.Test.YtbafhdinalapoaaDoorGa
import Derived.Shelf.Strings.BuilderK
import Derived.Deep.RegionHeld3
import Derived.Test.YtbafhdinalapoaaDoorShelf

/- The library's Builder, at this translation: copyCheck and WriteByte. -/
namespace Go.Proofs.YtbafhdinalapoaaDoor
open Go.RowKit
set_option linter.unusedVariables false
set_option linter.unusedSimpArgs false
set_option maxRecDepth 100000

theorem sizeB : (Tryd.prog.info? 106).map (·.size) = some 2 := by kernel_rfl
theorem Tryd.infoB : (Tryd.prog.info? 5).map (fun i => (i.zero, i.size, i.bytes)) = some (some (.int .u8 0), 1, 1) := by kernel_rfl

set_option maxHeartbeats 400000 in
theorem copy_used (b : Nat) (w : World) (h0 : w.cell? ⟨b, 0, none⟩ = some (.pointer (some ⟨b, 0, none⟩))) :
    Calls Tryd.prog 87 #[.pointer (some ⟨b, 0, none⟩)] w fun e w' => e = .returned (.tuple #[]) ∧ w' = w := by
  obtain ⟨j, hj, _⟩ := Option.map_eq_some_iff.1 sizeB
  go_enter Tryd.func87, Tryd.ntmps87
  go_wp2
  rw [Lib.run_neq_ptr_same w _ Tryd.underlying103 hj]
  go_wp2
  go_end0
  exact ⟨rfl, rfl⟩

set_option maxHeartbeats 400000 in
theorem copy_fresh (b : Nat) (w : World) (h0 : w.cell? ⟨b, 0, none⟩ = some (.pointer none)) (hsh : w.shape? b = some (106, 2)) (hfz : w.frozen? ⟨b, 0, none⟩ = false) :
    Calls Tryd.prog 87 #[.pointer (some ⟨b, 0, none⟩)] w fun e w' => e = .returned (.tuple #[]) ∧ w' = w.setCell ⟨b, 0, none⟩ (.pointer (some ⟨b, 0, none⟩)) := by
  obtain ⟨j, hj, hjs⟩ := Option.map_eq_some_iff.1 sizeB
  go_enter Tryd.func87, Tryd.ntmps87
  go_wp2
  rw [Lib.run_to_unsafe w ⟨b, 0, none⟩ Tryd.underlying103 Tryd.underlying134 hj (by rw [hjs]; decide) hsh (Nat.zero_lt_succ 1)]
  simp only [Result.andThen]
  rw [Oper.upon_value]
  go_wp2
  rw [run_callFunc_extern Tryd.func91 (by kernel_rfl) (by kernel_rfl) (by kernel_rfl) (e := Extern.AbiNoEscape.same) (by kernel_rfl)]
  rw [Lib.run_noEscape]
  simp only [Result.andThen]
  rw [Oper.upon_value]
  go_wp2
  rw [Lib.run_from_unsafe w ⟨b, 0, none⟩ Tryd.underlying134 Tryd.underlying103 hj hsh (by kernel_rfl)]
  simp only [Result.andThen]
  rw [Oper.upon_value]
  go_wp2
  go_end0
  exact ⟨rfl, rfl⟩

theorem copy_any (B b : Nat) (bs : List Value) (w : World) (h : Lib.IsBuilderF 106 5 B b bs w) :
    Calls Tryd.prog 87 #[.pointer (some ⟨b, 0, none⟩)] w fun e w' => e = .returned (.tuple #[]) ∧ Lib.BuilderAtF 106 5 B b (.pointer (some ⟨b, 0, none⟩)) bs w' ∧ Below B w w' := by
  rcases h with h | h
  · refine (copy_fresh b w h.cell0 h.shape h.frozen0).mono ?_
    rintro e w' ⟨rfl, rfl⟩
    exact ⟨rfl, h.used _, (Below.refl B w).setCell (p := ⟨b, 0, none⟩) h.1 _⟩
  · refine (copy_used b w h.cell0).mono ?_
    rintro e w' ⟨rfl, rfl⟩
    exact ⟨rfl, h, Below.refl B _⟩

set_option maxHeartbeats 800000 in
theorem write_any (B b : Nat) (bs : List Value) (c : Int) (w : World) (h : Lib.IsBuilderF 106 5 B b bs w) (hlen : bs.length + 1 ≤ 140737488355328) (hBw : B ≤ w.heap.size) :
    Calls Tryd.prog 75 #[.pointer (some ⟨b, 0, none⟩), .int .u8 c] w fun e w' => e = .returned .nilIface ∧ Lib.BuilderAtF 106 5 B b (.pointer (some ⟨b, 0, none⟩)) (bs ++ [.int .u8 c]) w' ∧ Below B w w' := by
  obtain ⟨i0, hi, hz0, hz1, hz2⟩ := info_parts Tryd.infoB
  go_enter Tryd.func75, Tryd.ntmps75
  go_wp2_with fail
  refine (copy_any B b bs _ h).mono ?_
  rintro e w1 ⟨rfl, h1, hb1⟩
  obtain ⟨hB, v, hbk, hown, hne⟩ := h1
  have c0 : w1.cell? ⟨b, 0, none⟩ = some (.pointer (some ⟨b, 0, none⟩)) := by rw [Lib.cell_of_heap hbk]; rfl
  have c1 : w1.cell? ⟨b, 1, none⟩ = some v := by rw [Lib.cell_of_heap hbk]; rfl
  go_wp2_with (at_builtin; refine wpList_append_ownF _ rfl _ _ 104 rfl B 5 i0 (.int .u8 0) 1 1 Tryd.underlying104 hi hz0 hz1 hz2 rfl (by decide) _ _ _ rfl (hown.alloc _) ⟨w1.heap.size, 0, none⟩ 1 1 [.int .u8 c] rfl rfl ?c1 ?c2 ?c3 ?c4 ?c5 ?_)
  case c1 =>
    intro j u hj
    match j, hj with
    | 0, hj => simp at hj; subst hj; simp [Addr.add]
  case c2 => intro u hu; simp at hu; subst hu; rfl
  case c3 => unfold maxLen; omega
  case c4 => omega
  case c5 => have := hb1.size; simp; omega
  intro v' w2 hown' hgrow _
  have hlt : b < w1.heap.size := by
    rcases Nat.lt_or_ge b w1.heap.size with h' | h'
    · exact h'
    · simp [Array.getElem?_eq_none h'] at hbk
  have hb2 : w2.heap[b]? = some (.cells #[.pointer (some ⟨b, 0, none⟩), v] 106 (0, 0)) := by
    rw [hgrow.block b (by simp; omega) (fun e => hne e.symm), Lib.alloc_old w1 _ b hlt]
    exact hbk
  have d0 : w2.cell? ⟨b, 0, none⟩ = some (.pointer (some ⟨b, 0, none⟩)) := by rw [Lib.cell_of_heap hb2]; rfl
  have d1 : w2.cell? ⟨b, 1, none⟩ = some v := by rw [Lib.cell_of_heap hb2]; rfl
  have f1 : w2.frozen? ⟨b, 1, none⟩ = false := Lib.frozen_of_heap hb2 1
  obtain ⟨g, cap, rfl⟩ : ∃ g cap, v' = .slice (some ⟨g, 0, none⟩) (bs.length + 1) cap := by
    rcases hown'.2 with ⟨_, h0⟩ | ⟨g, cap, cur, fz, hv, _⟩
    · omega
    · exact ⟨g, cap, hv⟩
  go_wp2
  go_ret
  refine ⟨rfl, ?_, ?_⟩
  · exact Lib.BuilderAtF.put (T := 106) (e := 5) hB hb2 (bs' := bs ++ [.int .u8 c]) (by simpa using hown') (by decide)
  · exact ((hb1.alloc (by have := hb1.size; omega) _).grown hgrow (by have := hb1.size; simp; omega) (fun k hk => (hown.lt k hk).1)).setCell (p := ⟨b, 1, none⟩) hB _
end Go.Proofs.YtbafhdinalapoaaDoor

/- The program's text of a grid. -/
namespace Go.Proofs.YtbafhdinalapoaaDoor
open Go.RowKit
set_option linter.unusedVariables false
set_option linter.unusedSimpArgs false
set_option maxRecDepth 100000

def mk (b : Bool) : UInt8 := if b then 120 else 46
def cellsL (W : Nat) (f : Nat → Bool) (y x : Nat) : List UInt8 := (List.range x).map fun i => mk (f (y * W + i))
def rowL (W : Nat) (f : Nat → Bool) (y : Nat) : List UInt8 := cellsL W f y W ++ [10]
/-- The first k lines of the text: the rows H - 1, H - 2, .. -/
def rowsT (W H : Nat) (f : Nat → Bool) (k : Nat) : List UInt8 := (List.range k).flatMap fun j => rowL W f (H - 1 - j)
theorem cellsL_succ (W : Nat) (f : Nat → Bool) (y x : Nat) : cellsL W f y (x + 1) = cellsL W f y x ++ [mk (f (y * W + x))] := by
  unfold cellsL; rw [List.range_succ, List.map_append]; rfl
theorem cellsL_length (W : Nat) (f : Nat → Bool) (y x : Nat) : (cellsL W f y x).length = x := by simp [cellsL]
theorem rowsT_succ (W H : Nat) (f : Nat → Bool) (k : Nat) : rowsT W H f (k + 1) = rowsT W H f k ++ rowL W f (H - 1 - k) := by
  unfold rowsT; rw [List.range_succ, List.flatMap_append]; simp
theorem rowsT_length (W H : Nat) (f : Nat → Bool) (k : Nat) : (rowsT W H f k).length = k * (W + 1) := by
  induction k with
  | zero => simp [rowsT]
  | succ k ih => rw [rowsT_succ, List.length_append, ih, rowL, List.length_append, cellsL_length, Nat.add_mul]; simp

set_option maxHeartbeats 400000 in
theorem mark_any (b : Bool) (w : World) : Calls Tryd.prog 76 #[.bool b] w fun e w' => e = .returned (.int .u8 ((mk b).toNat : Int)) ∧ w' = w := by
  cases b <;> (go_enter Tryd.func76, Tryd.ntmps76; go_wp2; go_ret; exact ⟨rfl, rfl⟩)

theorem builder_next {T e : TypeId} {B b : Nat} {bs : List Value} {w w' : World} (h : Lib.IsBuilderF T e B b bs w) (hb : Below w.heap.size w w') : Lib.IsBuilderF T e B b bs w' := by
  have key : ∀ {p : Value}, Lib.BuilderAtF T e B b p bs w → Lib.BuilderAtF T e B b p bs w' := by
    rintro p ⟨h1, v, h2, h3, h4⟩
    have hlt : ∀ {i : Nat} {o : Obj}, w.heap[i]? = some o → w'.heap[i]? = some o := fun {i o} hi => by
      have hl : i < w.heap.size := (Array.getElem?_eq_some_iff.1 hi).1
      rw [hb.block i hl, hi]
    refine ⟨h1, v, hlt h2, ?_, h4⟩
    obtain ⟨l, hh⟩ := h3
    refine ⟨l, ?_⟩
    rcases hh with hh | ⟨g, cap, cur, fz, a1, a2, a3, a4⟩
    · exact .inl hh
    · exact .inr ⟨g, cap, cur, fz, a1, a2, hlt a3, a4⟩
  exact h.elim (fun x => .inl (key x)) (fun x => .inr (key x))

set_option maxHeartbeats 400000 in
theorem text_err (W H : Int) (A : Option Addr) (n c : Nat) (w : World) (err : Int) (hn : n ≤ 4200) (hx : chk W H n = err) (hne : (err != 0) = true) :
    Calls Tryd.prog 45 #[.agg #[.int .i64 W, .int .i64 H, .slice A n c]] w fun e w' => e = .returned (.tuple #[.string ⟨#[]⟩, .int .i64 err]) ∧ Below w.heap.size w w' := by
  have HC := Lib.hid (chk_err (A := A) (c := c) hn hx)
  clear hx
  have hbel := Lib.hid ((Below.refl w.heap.size w).alloc (Nat.le_refl _) (.cells #[.int .i64 W, .int .i64 H, .slice A n c] 25))
  go_enter Tryd.func45, Tryd.ntmps45
  go_wp2_with fail
  refine (HC.out _).mono ?_
  rintro e w1 ⟨rfl, hb1⟩
  go_wp2
  go_ret2
  exact ⟨rfl, hbel.out.trans (hb1.mono hbel.out.size)⟩

/-- What the loops of Text keep. -/
structure TR (w wr : World) (W H : Nat) (A : Option Addr) (c : Nat) (f : Nat → Bool) (b : Nat) (l : List UInt8) : Prop where
  g : Box wr w.heap.size W H (.slice A (W * H) c)
  cells : Holds wr w.heap.size A (W * H) f
  bd : Lib.IsBuilderF 106 5 b b (Lib.byteCells l) wr
  bel : Below w.heap.size w wr
  s0 : w.heap.size < b
  s1 : b ≤ wr.heap.size
theorem TR.next {w wr w' : World} {W H : Nat} {A : Option Addr} {c : Nat} {f : Nat → Bool} {b : Nat} {l : List UInt8} (h : TR w wr W H A c f b l) (hb : Below wr.heap.size wr w') : TR w w' W H A c f b l :=
  ⟨h.g.below hb h.g.lt, h.cells.below (hb.mono h.bel.size), builder_next h.bd hb, h.bel.trans (hb.mono h.bel.size), h.s0, Nat.le_trans h.s1 hb.size⟩
theorem TR.wrote {w wr w' : World} {W H : Nat} {A : Option Addr} {c : Nat} {f : Nat → Bool} {b : Nat} {l : List UInt8} (h : TR w wr W H A c f b l) (hb : Below b wr w') {u : UInt8}
    (h1 : Lib.BuilderAtF 106 5 b b (.pointer (some ⟨b, 0, none⟩)) (Lib.byteCells l ++ [.int .u8 (u.toNat : Int)]) w') : TR w w' W H A c f b (l ++ [u]) :=
  ⟨h.g.below hb h.s0, h.cells.below (hb.mono (by have := h.s0; omega)), by rw [Lib.byteCells_append]; exact Or.inr h1, h.bel.trans (hb.mono (by have := h.s0; omega)), h.s0, Nat.le_trans h.s1 hb.size⟩

set_option maxHeartbeats 1600000 in
theorem text_ok (W H : Nat) (A : Option Addr) (c : Nat) (f : Nat → Bool) (w : World) (hr : Holds w w.heap.size A (W * H) f) (hW0 : 1 ≤ W) (hW : W ≤ 64) (hH0 : 1 ≤ H) (hH : H ≤ 64) :
    Calls Tryd.prog 45 #[.agg #[.int .i64 W, .int .i64 H, .slice A (W * H) c]] w fun e w' => e = .returned (.tuple #[.string ⟨(rowsT W H f H).toArray⟩, .int .i64 0]) ∧ Below w.heap.size w w' := by
  have HR := Lib.hid hr
  clear hr
  have hbx := Lib.hid (Box.new w W H (.slice A (W * H) c))
  have hbel := Lib.hid ((Below.refl w.heap.size w).alloc (Nat.le_refl _) (.cells #[.int .i64 W, .int .i64 H, .slice A (W * H) c] 25))
  go_enter Tryd.func45, Tryd.ntmps45
  go_wp2_with fail
  refine (chk_valid A c _ hW0 hW hH0 hH).mono ?_
  rintro e w1 ⟨rfl, hb1⟩
  have hbox := hbx.out.below hb1 (by simp)
  have hbel1 := hbel.out.trans (hb1.mono hbel.out.size)
  have hs1 : w.heap.size < w1.heap.size := by have := hb1.size; simp at this; omega
  have R0 := Lib.hid (⟨hbox.alloc _, HR.out.below (hbel1.alloc hbel1.size _), Lib.IsBuilderF.of (Lib.fresh_isBuilder 106 5 w1), hbel1.alloc hbel1.size _, hs1, by simp⟩ :
    TR w (w1.alloc (.cells #[.pointer none, .slice none 0 0] 106)) W H A c f w1.heap.size [])
  obtain ⟨q0, q1, q2, q3, q4, q5, q6⟩ := hbox.all
  clear hb1 hbox hbel1
  go_wp2
  clear q0 q1 q2 q3 q4 q5
  go_loopw [6] (fun i wr => ∃ k : Nat, k ≤ H ∧ i = .int .i64 ((H : Int) - 1 - (k : Int)) ∧ TR w wr W H A c f w1.heap.size (rowsT W H f k)) (fun i _ => (intOf i + 1).toNat)
  case atStart => exact ⟨0, Nat.zero_le _, by simp, R0.out⟩
  case round =>
    obtain ⟨k, hk, rfl, R⟩ := hrel
    obtain ⟨wo, rfl⟩ : ∃ wo : World, wo = wr := ⟨_, rfl⟩
    by_cases hlt : k < H
    · have q0 := R.g.c0
      have R1 := Lib.hid R
      clear R
      have y0 : 0 ≤ (H : Int) - 1 - (k : Int) := by omega
      have yd : decide ((k : Int) ≤ (H : Int) - 1) = true := by simp; omega
      go_wp2
      clear q0
      go_loopw [22] (fun i wr => ∃ x : Nat, x ≤ W ∧ i = .int .i64 x ∧ TR w wr W H A c f w1.heap.size (rowsT W H f k ++ cellsL W f (H - 1 - k) x)) (fun i _ => W - (intOf i).toNat)
      case atStart => exact ⟨0, Nat.zero_le _, rfl, by simpa [cellsL] using R1.out⟩
      case round =>
        obtain ⟨x, hx, rfl, R⟩ := hrel
        by_cases hlx : x < W
        · have q0 := R.g.c0
          have q1 := R.g.c1
          have q2 := R.g.c2
          have R2 := Lib.hid R
          clear R
          have HA := Lib.hid (cell_nat W H A c x ((H : Int) - 1 - (k : Int)) f wr (R2.out.cells.more R2.out.bel.size) hW hH x (H - 1 - k) rfl (by omega) hlx (by omega))
          have hl : k * (W + 1) ≤ 64 * 65 := Nat.mul_le_mul (by omega) (by omega)
          go_wp2_with fail
          refine HA.out.mono ?_
          rintro e w2 ⟨rfl, hb2⟩
          have R3 := Lib.hid (R2.out.next hb2)
          clear hb2 q0 q1 q2
          go_wp2_with fail
          refine (mark_any _ _).mono ?_
          rintro e w2' ⟨rfl, rfl⟩
          go_wp2_with fail
          refine (write_any w1.heap.size w1.heap.size _ _ _ R3.out.bd (by rw [Lib.byteCells_length, List.length_append, rowsT_length, cellsL_length]; omega) R3.out.s1).mono ?_
          rintro e w3 ⟨rfl, h1, hb3⟩
          have R4 := Lib.hid (R3.out.wrote hb3 h1)
          clear h1 hb3
          go_wp2
          go_roundw
          case rel => (first | exact ⟨x + 1, by omega, by go_num, by rw [cellsL_succ, ← List.append_assoc]; exact R4.out⟩ | ((repeat apply Exists.intro); exact ⟨⟨x + 1, by omega, by go_num, by rw [cellsL_succ, ← List.append_assoc]; exact R4.out⟩, rfl⟩))
          case measure => simp [intOf]; omega
        · have e : x = W := by omega
          subst e
          have hl : k * (x + 1) ≤ 64 * 65 := Nat.mul_le_mul (by omega) (by omega)
          have R2 := Lib.hid R
          clear R
          go_wp2_with fail
          refine (write_any w1.heap.size w1.heap.size _ _ _ R2.out.bd (by rw [Lib.byteCells_length, List.length_append, rowsT_length, cellsL_length]; omega) R2.out.s1).mono ?_
          rintro e w3 ⟨rfl, h1, hb3⟩
          have R4 := Lib.hid (R2.out.wrote (u := 10) hb3 h1)
          clear h1 hb3
          go_wp2
          go_roundw
          case rel => (first | exact ⟨k + 1, by omega, congrArg (Value.int .i64) (by omega), by rw [rowsT_succ, rowL, ← List.append_assoc]; exact R4.out⟩ | ((repeat apply Exists.intro); exact ⟨⟨k + 1, by omega, congrArg (Value.int .i64) (by omega), by rw [rowsT_succ, rowL, ← List.append_assoc]; exact R4.out⟩, rfl⟩))
          case measure => simp [intOf]; omega
    · have e : k = H := by omega
      subst e
      have y0 : (k : Int) - 1 - (k : Int) < 0 := by omega
      have R2 := Lib.hid R
      clear R
      go_wp2_with fail
      refine (Tryd.Builder_String_any_k w1.heap.size w1.heap.size _ _ R2.out.bd R2.out.s1).mono ?_
      rintro e w3 ⟨rfl, _, hb3, _⟩
      go_wp2
      go_ret2
      exact ⟨rfl, R2.out.bel.trans (hb3.mono (by have := R2.out.s0; omega))⟩
end Go.Proofs.YtbafhdinalapoaaDoor
