/- Layer 14: Text of both sides. -/
import Derived.Test.YtppepcijpdamhaaCtx
import Derived.Test.YtppepcijpdamhaaRfr
namespace Go.Proofs.Ytppepcijpdamhaa
open Go.RowKit
set_option maxRecDepth 100000
set_option linter.unusedVariables false
set_option linter.unusedSimpArgs false

/-- The letter of a colour. -/
def ltr (v : Int) : UInt8 := UInt8.ofNat (97 + v.toNat)
theorem ltr_nat {v : Int} (h0 : 0 ≤ v) (h1 : v ≤ 15) : ((ltr v).toNat : Int) = 97 + v := by
  unfold ltr
  rw [UInt8.toNat_ofNat']
  omega
def cellsI (W : Nat) (f : Nat → Int) (y x : Nat) : List UInt8 := (List.range x).map fun i => ltr (f (y * W + i))
def rowI (W : Nat) (f : Nat → Int) (y : Nat) : List UInt8 := cellsI W f y W ++ [10]
/-- The first k lines of the text: the rows H - 1, H - 2, .. -/
def rowsI (W H : Nat) (f : Nat → Int) (k : Nat) : List UInt8 := (List.range k).flatMap fun j => rowI W f (H - 1 - j)
theorem cellsI_succ (W : Nat) (f : Nat → Int) (y x : Nat) : cellsI W f y (x + 1) = cellsI W f y x ++ [ltr (f (y * W + x))] := by
  unfold cellsI; rw [List.range_succ, List.map_append]; rfl
theorem cellsI_length (W : Nat) (f : Nat → Int) (y x : Nat) : (cellsI W f y x).length = x := by simp [cellsI]
theorem rowsI_succ (W H : Nat) (f : Nat → Int) (k : Nat) : rowsI W H f (k + 1) = rowsI W H f k ++ rowI W f (H - 1 - k) := by
  unfold rowsI; rw [List.range_succ, List.flatMap_append]; simp
theorem rowsI_length (W H : Nat) (f : Nat → Int) (k : Nat) : (rowsI W H f k).length = k * (W + 1) := by
  induction k with
  | zero => simp [rowsI]
  | succ k ih => rw [rowsI_succ, List.length_append, ih, rowI, List.length_append, cellsI_length, Nat.add_mul]; simp
/-- A string came back, and an error. -/
def RS (w : World) (s : ByteArray) (z : Int) (e : Ending) (w' : World) : Prop := e = .returned (.tuple #[.string s, .int .i64 z]) ∧ Below w.heap.size w w'
/-- What the loops of Text keep. -/
structure TI (w wr : World) (W H : Nat) (A : Option Addr) (c : Nat) (f : Nat → Int) (b : Nat) (l : List UInt8) : Prop where
  g : IBox wr w.heap.size W H (.slice A (W * H) c)
  cells : L2.Holds wr w.heap.size A (W * H) f
  bd : Lib.IsBuilderF 83 5 b b (Lib.byteCells l) wr
  bel : Below w.heap.size w wr
  s0 : w.heap.size < b
  s1 : b ≤ wr.heap.size
theorem TI.next {w wr w' : World} {W H : Nat} {A : Option Addr} {c : Nat} {f : Nat → Int} {b : Nat} {l : List UInt8} (h : TI w wr W H A c f b l) (hb : Below wr.heap.size wr w') : TI w w' W H A c f b l :=
  ⟨h.g.below hb h.g.lt, h.cells.below (hb.mono h.bel.size), builder_next h.bd hb, h.bel.trans (hb.mono h.bel.size), h.s0, Nat.le_trans h.s1 hb.size⟩
theorem TI.wrote {w wr w' : World} {W H : Nat} {A : Option Addr} {c : Nat} {f : Nat → Int} {b : Nat} {l : List UInt8} (h : TI w wr W H A c f b l) (hb : Below b wr w') {u : UInt8}
    (h1 : Lib.BuilderAtF 83 5 b b (.pointer (some ⟨b, 0, none⟩)) (Lib.byteCells l ++ [.int .u8 (u.toNat : Int)]) w') : TI w w' W H A c f b (l ++ [u]) :=
  ⟨h.g.below hb h.s0, h.cells.below (hb.mono (by have := h.s0; omega)), by rw [Lib.byteCells_append]; exact Or.inr h1, h.bel.trans (hb.mono (by have := h.s0; omega)), h.s0, Nat.le_trans h.s1 hb.size⟩
set_option maxHeartbeats 800000 in
theorem ptext_err (W H : Int) (A : Option Addr) (n c : Nat) (f : Nat → Int) (w : World) (hf : L2.Holds w w.heap.size A n f) (hz : ick W H n f ≠ 0) : Calls Try.prog 27 #[.agg #[.int .i64 W, .int .i64 H, .slice A n c]] w (RS w ⟨#[]⟩ (ick W H n f)) := by
  have HK := Lib.hid (fun u (hb : Below w.heap.size w u) => ick_any W H A n c f u ((hf.below hb).more hb.size))
  have y1 : (ick W H n f != 0) = true := by rw [bne_iff_ne]; exact hz
  clear hf hz
  generalize ick W H n f = z at *
  have LB0 := Lib.hid (Below.refl w.heap.size w)
  have X1 := IBox.new w W H (.slice A n c)
  have X1 := Lib.hid X1
  have LB0 := Lib.hid (LB0.out.alloc LB0.out.size (.cells #[.int .i64 W, .int .i64 H, .slice A n c] 29))
  go_enter Try.func27, Try.ntmps27
  go_upto_region 1 with (fail)
  generalize w.alloc (.cells #[.int .i64 W, .int .i64 H, .slice A n c] 29) = w0 at *
  obtain ⟨q0, q1, q2, q3, q4, q5, q6⟩ := X1.out.all
  go_wp2_with fail
  clear q0 q1 q2 q3 q4 q5 q6
  with_reducible refine Calls.mono (HK.out _ LB0.out) ?_
  rintro e w1 ⟨rfl, hb⟩
  have LB1 := Lib.hid (LB0.out.trans (hb.mono LB0.out.size))
  have X1 := Lib.hid (X1.out.below hb X1.out.lt)
  clear hb LB0 
  go_wp2
  go_ret2
  exact ⟨rfl, LB1.out⟩
set_option maxHeartbeats 800000 in
theorem rtext_err (W H : Int) (A : Option Addr) (n c : Nat) (f : Nat → Int) (w : World) (hf : L2.Holds w w.heap.size A n f) (hz : ick W H n f ≠ 0) : Calls Try.prog 28 #[.agg #[.int .i64 W, .int .i64 H, .slice A n c]] w (RS w ⟨#[]⟩ (ick W H n f)) := by
  have HK := Lib.hid (fun u (hb : Below w.heap.size w u) => rick_any W H A n c f u ((hf.below hb).more hb.size))
  have y1 : (ick W H n f != 0) = true := by rw [bne_iff_ne]; exact hz
  clear hf hz
  generalize ick W H n f = z at *
  have LB0 := Lib.hid (Below.refl w.heap.size w)
  have X1 := IBox.new w W H (.slice A n c)
  have X1 := Lib.hid X1
  have LB0 := Lib.hid (LB0.out.alloc LB0.out.size (.cells #[.int .i64 W, .int .i64 H, .slice A n c] 29))
  go_enter Try.func28, Try.ntmps28
  go_upto_region 1 with (fail)
  generalize w.alloc (.cells #[.int .i64 W, .int .i64 H, .slice A n c] 29) = w0 at *
  obtain ⟨q0, q1, q2, q3, q4, q5, q6⟩ := X1.out.all
  go_wp2_with fail
  clear q0 q1 q2 q3 q4 q5 q6
  with_reducible refine Calls.mono (HK.out _ LB0.out) ?_
  rintro e w1 ⟨rfl, hb⟩
  have LB1 := Lib.hid (LB0.out.trans (hb.mono LB0.out.size))
  have X1 := Lib.hid (X1.out.below hb X1.out.lt)
  clear hb LB0 
  obtain ⟨q0, q1, q2, q3, q4, q5, q6⟩ := X1.out.all
  go_wp2_with fail
  clear q0 q1 q2 q3 q4 q5 q6
  with_reducible refine Calls.mono (HK.out _ LB1.out) ?_
  rintro e w2 ⟨rfl, hb⟩
  have LB2 := Lib.hid (LB1.out.trans (hb.mono LB1.out.size))
  have X1 := Lib.hid (X1.out.below hb X1.out.lt)
  clear hb LB1 
  go_wp2
  go_ret2
  exact ⟨rfl, LB2.out⟩
set_option maxHeartbeats 1600000 in
theorem ptext_ok (W H : Nat) (A : Option Addr) (c : Nat) (f : Nat → Int) (w : World) (hr : L2.Holds w w.heap.size A (W * H) f) (hW0 : 1 ≤ W) (hW : W ≤ 64) (hH0 : 1 ≤ H) (hH : H ≤ 64) (hx : fine (W * H) f = true) :
    Calls Try.prog 27 #[.agg #[.int .i64 (W : Nat), .int .i64 (H : Nat), .slice A (W * H) c]] w (RS w ⟨(rowsI W H f H).toArray⟩ 0) := by
  have HR := Lib.hid hr
  have HX := Lib.hid (fine_of hx)
  have HK := Lib.hid (fun u (hb : Below w.heap.size w u) => ick_any (W : Nat) (H : Nat) A (W * H) c f u ((hr.below hb).more hb.size))
  rw [ick_zero hW0 hW hH0 hH hx] at HK
  have y9 : ((0 : Int) != 0) = false := rfl
  have HIX := Lib.hid (fun x y (hx : x < W) (hy : y < H) => ix_bd (W := W) (H := H) hx hy)
  clear hr hx
  have hbx := Lib.hid (IBox.new w W H (.slice A (W * H) c))
  have hbel := Lib.hid ((Below.refl w.heap.size w).alloc (Nat.le_refl _) (.cells #[.int .i64 W, .int .i64 H, .slice A (W * H) c] 29))
  go_enter Try.func27, Try.ntmps27
  go_wp2_with fail
  refine (HK.out _ hbel.out).mono ?_
  rintro e w1 ⟨rfl, hb1⟩
  have hbox := hbx.out.below hb1 (by simp)
  have hbel1 := hbel.out.trans (hb1.mono hbel.out.size)
  have hs1 : w.heap.size < w1.heap.size := by have := hb1.size; simp at this; omega
  have R0 := Lib.hid (⟨hbox.alloc _, HR.out.below (hbel1.alloc hbel1.size _), Lib.IsBuilderF.of (Lib.fresh_isBuilder 83 5 w1), hbel1.alloc hbel1.size _, hs1, by simp⟩ :
    TI w (w1.alloc (.cells #[.pointer none, .slice none 0 0] 83)) W H A c f w1.heap.size [])
  obtain ⟨q0, q1, q2, q3, q4, q5, q6⟩ := hbox.all
  clear hb1 hbox hbel1
  go_wp2
  clear q0 q1 q2 q3 q4 q5
  go_loopw [6] (fun i wr => ∃ k : Nat, k ≤ H ∧ i = .int .i64 ((H : Int) - 1 - (k : Int)) ∧ TI w wr W H A c f w1.heap.size (rowsI W H f k)) (fun i _ => (intOf i + 1).toNat)
  case atStart => exact ⟨0, Nat.zero_le _, by simp, R0.out⟩
  case round =>
    obtain ⟨k, hk, rfl, R⟩ := hrel
    obtain ⟨wo, rfl⟩ : ∃ wo : World, wo = wr := ⟨_, rfl⟩
    by_cases hlt : k < H
    · have q0 := R.g.c0
      have R1 := Lib.hid R
      clear R
      have y0 : 0 ≤ (H : Int) - 1 - (k : Int) := by omega
      have yd : decide ((k : Int) ≤ (H : Int) - 1) = true := by simp; omega
      go_wp2
      clear q0
      go_loopw [22] (fun i wr => ∃ x : Nat, x ≤ W ∧ i = .int .i64 x ∧ TI w wr W H A c f w1.heap.size (rowsI W H f k ++ cellsI W f (H - 1 - k) x)) (fun i _ => W - (intOf i).toNat)
      case atStart => exact ⟨0, Nat.zero_le _, rfl, by simpa [cellsI] using R1.out⟩
      case round =>
        obtain ⟨x, hx, rfl, R⟩ := hrel
        by_cases hlx : x < W
        · have q0 := R.g.c0
          have q1 := R.g.c1
          have q2 := R.g.c2
          have R2 := Lib.hid R
          clear R
          have HA := Lib.hid (icell_nat W H A c x ((H : Int) - 1 - (k : Int)) f wr (R2.out.cells.more R2.out.bel.size) hW hH x (H - 1 - k) rfl (by omega) hlx (by omega))
          have hl : k * (W + 1) ≤ 64 * 65 := Nat.mul_le_mul (by omega) (by omega)
          obtain ⟨v0, v1⟩ := HX.out _ (HIX.out x (H - 1 - k) hlx (by omega))
          have HLT := Lib.hid (ltr_nat v0 v1)
          have HCS := Lib.hid (cellsI_succ W f (H - 1 - k) x)
          obtain ⟨v, hv⟩ : ∃ z, f ((H - 1 - k) * W + x) = z := ⟨_, rfl⟩
          rw [hv] at HA v0 v1 HLT HCS
          clear hv
          have e1 : IntKind.i32.wrap v = v := IntWalk.i32_in _ (by omega)
          have e2 : IntKind.i32.wrap (97 + v) = 97 + v := IntWalk.i32_in _ (by omega)
          go_wp2_with fail
          refine HA.out.mono ?_
          rintro e w2 ⟨rfl, hb2⟩
          have R3 := Lib.hid (R2.out.next hb2)
          clear hb2 q0 q1 q2
          go_wp2_with fail
          refine (wrune_any w1.heap.size w1.heap.size _ (97 + v) (by omega) (by omega) _ R3.out.bd (by rw [Lib.byteCells_length, List.length_append, rowsI_length, cellsI_length]; omega) R3.out.s1).mono ?_
          rintro e w3 ⟨rfl, h1, hb3⟩
          rw [← HLT.out] at h1
          have R4 := Lib.hid (R3.out.wrote hb3 h1)
          clear h1 hb3
          go_wp2
          go_roundw
          case rel => (first | exact ⟨x + 1, by omega, by go_num, by rw [HCS.out, ← List.append_assoc]; exact R4.out⟩ | ((repeat apply Exists.intro); exact ⟨⟨x + 1, by omega, by go_num, by rw [HCS.out, ← List.append_assoc]; exact R4.out⟩, rfl⟩))
          case measure => simp [intOf]; omega
        · have e : x = W := by omega
          subst e
          have hl : k * (x + 1) ≤ 64 * 65 := Nat.mul_le_mul (by omega) (by omega)
          have R2 := Lib.hid R
          clear R
          go_wp2_with fail
          refine (wrune_any w1.heap.size w1.heap.size _ 10 (by omega) (by omega) _ R2.out.bd (by rw [Lib.byteCells_length, List.length_append, rowsI_length, cellsI_length]; omega) R2.out.s1).mono ?_
          rintro e w3 ⟨rfl, h1, hb3⟩
          have R4 := Lib.hid (R2.out.wrote (u := 10) hb3 h1)
          clear h1 hb3
          go_wp2
          go_roundw
          case rel => (first | exact ⟨k + 1, by omega, congrArg (Value.int .i64) (by omega), by rw [rowsI_succ, rowI, ← List.append_assoc]; exact R4.out⟩ | ((repeat apply Exists.intro); exact ⟨⟨k + 1, by omega, congrArg (Value.int .i64) (by omega), by rw [rowsI_succ, rowI, ← List.append_assoc]; exact R4.out⟩, rfl⟩))
          case measure => simp [intOf]; omega
    · have e : k = H := by omega
      subst e
      have y0 : (k : Int) - 1 - (k : Int) < 0 := by omega
      have R2 := Lib.hid R
      clear R
      go_wp2_with fail
      refine (Try.Builder_String_any_k w1.heap.size w1.heap.size _ _ R2.out.bd R2.out.s1).mono ?_
      rintro e w3 ⟨rfl, _, hb3, _⟩
      go_wp2
      go_ret2
      exact ⟨rfl, R2.out.bel.trans (hb3.mono (by have := R2.out.s0; omega))⟩
/-- Bytes of the call's own. -/
def OwY (w : World) (base : Nat) (v : Value) (l : List UInt8) : Prop := w.ownsRow base 5 1 v l.length (Lib.byteCells l)
section
variable {w w' : World} {base : Nat} {v : Value} {l : List UInt8}
theorem OwY.nil (w : World) (base : Nat) : OwY w base (.slice none 0 0) [] := ⟨rfl, .inl ⟨rfl, rfl⟩⟩
theorem OwY.below (h : OwY w base v l) (hb : Below w.heap.size w w') : OwY w' base v l := orow_keep h fun k _ hk => hb.block k (orow_block h hk).2.1
/-- 'append(s, b)'. -/
theorem app1y {ops : Array Oper} {rest : List Oper} {o : Oper} {a : Act} {Q : Exit → Act → World → Prop} (w : World) (hgd : o.guard = none) (s x : Operand)
    (ho : o.op = .call { callee := .builtin .append, args := #[s, x], argTypes := #[81, 81] }) (base : Nat) {v : Value} {l : List UInt8} (hs : a.eval s = v) (hown : OwY w base v l)
    (y : UInt8) (z : Int) (hz : (y.toNat : Int) = z) (hx : a.eval x = .slice (some ⟨w.heap.size, 0, none⟩) 1 1) (hn : l.length ≤ 100000) (hb : base ≤ w.heap.size)
    (h : ∀ v' w', OwY w' base v' (l ++ [y]) → Below base w w' → wpList Try.prog ops Q rest (a.put o.dst v') w') :
    wpList Try.prog ops Q (o :: rest) a (w.alloc (.cells #[.int .u8 z] 5)) := by
  subst hz
  obtain ⟨i0, hi, hz0, hz1, hz2⟩ := info_parts Try.infoB
  refine wpList_append_own_at _ hgd s x 81 ho base 5 i0 (.int .u8 0) 1 1 Try.underlying81 hi hz0 hz1 hz2 rfl (by decide) v l.length _ hs (orow_keep hown fun k _ hk => Below.heap_alloc w _ k (orow_block hown hk).2.1) ⟨w.heap.size, 0, none⟩ 1 1 [.int .u8 (y.toNat : Int)] hx rfl (cell_one_new _ _ _) (by intro u hu; simp at hu; rw [hu]; rfl)
    (by unfold maxLen; omega) (by omega) (by simp; omega) ?_
  intro v' w' ho' hg _ h3
  refine h v' w' ?_ ?_
  · unfold OwY
    rw [Lib.byteCells_append, List.length_append]
    exact ho'
  · refine Below.grown ((Below.refl _ _).alloc hb _) hg (by simp; omega) fun k hk => (orow_block hown hk).1
/-- 'string(b)'. -/
theorem OwY.str (h : OwY w base v l) (hl : 0 < l.length) : (convert 81 9 v).run Try.prog w = .ok (.string ⟨l.toArray⟩) w := by
  have h2 := h
  rcases h2.2 with ⟨e0, e1⟩ | ⟨g, cap, cur, e0, hb, hc, _, _, _, hh⟩
  · omega
  · subst e0
    refine run_convert_bytes_back w 81 9 5 ⟨g, 0, none⟩ cap l Try.underlying81 Try.underlying5 Try.underlying9 fun j hj => ?_
    rw [addr_add, Lib.cell_of_heap hc]
    have h5 : (cur.toList.take (l.length * 1))[j]? = (Lib.byteCells l)[j]? := by rw [hh]
    rw [List.getElem?_take_of_lt (by omega), Array.getElem?_toList] at h5
    rw [h5]
    simp [Lib.byteCells, hj]
end
set_option maxHeartbeats 1600000 in
theorem rtext_ok (W H : Nat) (A : Option Addr) (c : Nat) (f : Nat → Int) (w : World) (hr : L2.Holds w w.heap.size A (W * H) f) (hW0 : 1 ≤ W) (hW : W ≤ 64) (hH0 : 1 ≤ H) (hH : H ≤ 64) (hx : fine (W * H) f = true) :
    Calls Try.prog 28 #[.agg #[.int .i64 (W : Nat), .int .i64 (H : Nat), .slice A (W * H) c]] w (RS w ⟨(rowsI W H f H).toArray⟩ 0) := by
  have HX := Lib.hid (fine_of hx)
  have HK := Lib.hid (fun u (hb : Below w.heap.size w u) => rick_any (W : Nat) (H : Nat) A (W * H) c f u ((hr.below hb).more hb.size))
  rw [ick_zero hW0 hW hH0 hH hx] at HK
  have y9 : ((0 : Int) != 0) = false := rfl
  have HIX := Lib.hid (fun x y (hx : x < W) (hy : y < H) => ix_bd (W := W) (H := H) hx hy)
  have HAT := Lib.hid (fun z (x y : Nat) (yi : Int) (hyi : yi = (y : Int)) (hx : x < W) (hy : y < H) (hb : Below w.heap.size w z) => rat_nat W H A c (x : Nat) yi f z ((hr.below hb).more hb.size) hW hH x y rfl hyi hx hy)
  have HZL := Lib.hid (show 0 < (rowsI W H f H).length by rw [rowsI_length]; exact Nat.mul_pos hH0 (Nat.succ_pos W))
  clear hr hx
  obtain ⟨N, hN⟩ : ∃ z, W * H = z := ⟨_, rfl⟩
  simp only [hN] at HK HIX HX HAT ⊢
  clear hN
  have LB0 := Lib.hid (Below.refl w.heap.size w)
  have X1 := IBox.new w (W : Nat) (H : Nat) (.slice A N c)
  have X1 := Lib.hid X1
  have LB0 := Lib.hid (LB0.out.alloc LB0.out.size (.cells #[.int .i64 (W : Nat), .int .i64 (H : Nat), .slice A N c] 29))
  go_enter Try.func28, Try.ntmps28
  go_upto_region 1 with (fail)
  generalize w.alloc (.cells #[.int .i64 (W : Nat), .int .i64 (H : Nat), .slice A N c] 29) = w0 at *
  obtain ⟨q0, q1, q2, q3, q4, q5, q6⟩ := X1.out.all
  go_wp2_with fail
  clear q0 q1 q2 q3 q4 q5 q6
  with_reducible refine Calls.mono (HK.out _ LB0.out) ?_
  rintro e w1 ⟨rfl, hb⟩
  have LB1 := Lib.hid (LB0.out.trans (hb.mono LB0.out.size))
  have X1 := Lib.hid (X1.out.below hb X1.out.lt)
  clear hb LB0 
  have V0 := Lib.hid (OwY.nil w1 (w.heap.size + 1))
  obtain ⟨q0, q1, q2, q3, q4, q5, q6⟩ := X1.out.all
  go_wp2
  clear q0 q1 q2 q3 q4 q5 q6
  go_loopw [4, 5] (fun bv i wr => ∃ k : Nat, k ≤ H ∧ i = .int .i64 ((H : Int) - 1 - (k : Int)) ∧ Hid (OwY wr (w.heap.size + 1) bv (rowsI W H f k)) ∧ Hid (IBox wr w.heap.size (W : Nat) (H : Nat) (.slice A N c)) ∧ Hid (Below w.heap.size w wr)) (fun _ i _ => (intOf i + 1).toNat)
  case atStart => exact ⟨0, Nat.zero_le _, by simp, V0, X1, LB1⟩
  case round =>
    obtain ⟨k, hk, rfl, HO, HX1, HB⟩ := hrel
    clear V0 X1 LB1
    obtain ⟨q0, q1, q2, q3, q4, q5, q6⟩ := HX1.out.all
    obtain ⟨yi, hyi⟩ : ∃ z : Int, (H : Int) - 1 - (k : Int) = z := ⟨_, rfl⟩
    rw [hyi]
    by_cases hlt : k < H
    · have y0 : 0 ≤ yi := by omega
      have y1 : yi ≤ 64 := by omega
      go_wp2
      clear q0 q1 q2 q3 q4 q5 q6
      go_loopw [4, 6] (fun bv i wr => ∃ x : Nat, x ≤ W ∧ i = .int .i64 x ∧ Hid (OwY wr (w.heap.size + 1) bv (rowsI W H f k ++ cellsI W f (H - 1 - k) x)) ∧ Hid (IBox wr w.heap.size (W : Nat) (H : Nat) (.slice A N c)) ∧ Hid (Below w.heap.size w wr)) (fun _ i _ => W - (intOf i).toNat)
      case atStart => exact ⟨0, Nat.zero_le _, rfl, by simpa [cellsI] using HO, HX1, HB⟩
      case round =>
        obtain ⟨x, hx, rfl, HO2, HX2, HB2⟩ := hrel
        clear HO HX1 HB
        obtain ⟨q0, q1, q2, q3, q4, q5, q6⟩ := HX2.out.all
        have hl : k * (W + 1) ≤ 64 * 65 := Nat.mul_le_mul (by omega) (by omega)
        by_cases hlx : x < W
        · have y3 : (x : Int) < (W : Int) := by omega
          have y4 : (0 : Int) ≤ (x : Int) := by omega
          have HA := Lib.hid (HAT.out wr x (H - 1 - k) yi (by omega) hlx (by omega) HB2.out)
          obtain ⟨v0, v1⟩ := HX.out _ (HIX.out x (H - 1 - k) hlx (by omega))
          have HLT := Lib.hid (ltr_nat v0 v1)
          have HCS := Lib.hid (cellsI_succ W f (H - 1 - k) x)
          have HLL := Lib.hid (show (rowsI W H f k ++ cellsI W f (H - 1 - k) x).length ≤ 100000 by rw [List.length_append, rowsI_length, cellsI_length]; omega)
          obtain ⟨v, hv⟩ : ∃ z, f ((H - 1 - k) * W + x) = z := ⟨_, rfl⟩
          rw [hv] at HA v0 v1 HLT HCS
          clear hv
          have e1 : IntKind.u8.wrap (97 + v) = 97 + v := IntWalk.u8_in _ (by omega)
          have e2 : IntKind.i64.wrap (97 + v) = 97 + v := IntWalk.i64_in _ (by omega)
          go_wp2_with fail
          with_reducible refine Calls.mono HA.out ?_
          rintro e w2 ⟨rfl, hb⟩
          have HO3 := Lib.hid (HO2.out.below hb)
          have HX3 := Lib.hid (HX2.out.below hb HX2.out.lt)
          have HB3 := Lib.hid (HB2.out.trans (hb.mono HB2.out.size))
          have hsz : w.heap.size + 1 ≤ w2.heap.size := HX3.out.lt
          clear hb q0 q1 q2 q3 q4 q5 q6 HA
          go_wp2_with (at_builtin; refine app1y _ rfl _ _ (by rfl) (w.heap.size + 1) (by rfl) HO3.out (ltr v) (97 + v) HLT.out (by rfl) HLL.out hsz ?_; intro v' w5 hown5 hb5; have HO5 := Lib.hid hown5; have HB5 := Lib.hid hb5; clear hown5 hb5)
          have HX6 := Lib.hid (HX3.out.below HB5.out (Nat.lt_succ_self _))
          have HB6 := Lib.hid (HB3.out.trans (HB5.out.mono (Nat.le_succ _)))
          go_roundw
          case rel => exact ⟨x + 1, by omega, by go_num, by rw [HCS.out, ← List.append_assoc]; exact HO5, HX6, HB6⟩
          case measure => simp [intOf]; omega
        · have e : x = W := by omega
          have y3 : ¬ (x : Int) < (W : Int) := by omega
          have HLL := Lib.hid (show (rowsI W H f k ++ cellsI W f (H - 1 - k) x).length ≤ 100000 by rw [List.length_append, rowsI_length, cellsI_length]; omega)
          have hsz : w.heap.size + 1 ≤ wr.heap.size := HX2.out.lt
          have HRS := Lib.hid (show rowsI W H f (k + 1) = rowsI W H f k ++ cellsI W f (H - 1 - k) x ++ [10] by rw [rowsI_succ, rowI, ← List.append_assoc, e])
          have hyn : IntKind.i64.wrap (yi - 1) = yi - 1 := IntWalk.i64_in _ (by omega)
          have HYE := Lib.hid (show yi - 1 = (H : Int) - 1 - ((k + 1 : Nat) : Int) by omega)
          clear e hyi
          go_wp2_with (at_builtin; refine app1y _ rfl _ _ (by rfl) (w.heap.size + 1) (by rfl) HO2.out 10 10 (by rfl) (by rfl) HLL.out hsz ?_; intro v' w5 hown5 hb5; have HO5 := Lib.hid hown5; have HB5 := Lib.hid hb5; clear hown5 hb5)
          have HX6 := Lib.hid (HX2.out.below HB5.out (Nat.lt_succ_self _))
          have HB6 := Lib.hid (HB2.out.trans (HB5.out.mono (Nat.le_succ _)))
          go_roundw
          case rel => exact ⟨k + 1, by omega, by rw [HYE.out], by rw [HRS.out]; exact HO5, HX6, HB6⟩
          case measure => simp [intOf]; omega
    · have e : k = H := by omega
      have y0 : ¬ 0 ≤ yi := by omega
      rw [e] at HO
      have hcv := HO.out.str HZL.out
      clear e hyi
      go_wp2
      go_ret2
      exact ⟨rfl, HB.out⟩
end Go.Proofs.Ytppepcijpdamhaa
