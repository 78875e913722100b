/- Merged: Cel Spe Spr Rsp. -/
import Derived.Test.YtmakjdfkldacaaaPb
import Derived.Test.YtmakjdfkldacaaaGa
import Derived.Test.YtmakjdfkldacaaaGb
import Derived.Laws.MakeOwn

/- Cell by both sides. -/
namespace Go.Proofs.Ytmakjdfkldacaaa
open Go.RowKit
set_option maxRecDepth 100000
set_option linter.unusedVariables false
set_option linter.unusedSimpArgs false

theorem Tri.but {w w' : World} {k g : Nat} {a b c : Int} (hb : But k w w') (h : Tri w g a b c) (hg : g ≠ k) : Tri w' g a b c := (hb.block g h.lt hg).trans h
/-- A double loop of the reference that reads its bounds out of a lattice. -/
structure DT (w wr : World) (W H : Nat) (D : Option Addr) (c : Nat) (f : Nat → Bool) (r o k tb A C : Nat) (B : Int) (F : Nat → Bool) : Prop where
  d : DR w wr W H D c f r o k A C F
  t : Tri wr tb (A : Nat) B (C : Nat)
  n : tb ≠ k
theorem DT.next {w wr w' : World} {W H : Nat} {D : Option Addr} {c : Nat} {f : Nat → Bool} {r o k tb A C : Nat} {B : Int} {F : Nat → Bool} (h : DT w wr W H D c f r o k tb A C B F) (hb : Below wr.heap.size wr w') : DT w w' W H D c f r o k tb A C B F := ⟨h.d.next hb, h.t.below hb h.t.lt, h.n⟩
theorem DT.but {w wr w' : World} {W H : Nat} {D : Option Addr} {c : Nat} {f : Nat → Bool} {r o k tb A C : Nat} {B : Int} {F F' : Nat → Bool} (h : DT w wr W H D c f r o k tb A C B F) (hb : But k wr w') (hr : Row w' k (A * C) F') : DT w w' W H D c f r o k tb A C B F' := ⟨h.d.but hb hr, h.t.but hb h.n, h.n⟩
theorem DT.congr {w wr : World} {W H : Nat} {D : Option Addr} {c : Nat} {f : Nat → Bool} {r o k tb A C : Nat} {B : Int} {F F' : Nat → Bool} (h : DT w wr W H D c f r o k tb A C B F) (e : ∀ i, i < A * C → F i = F' i) : DT w wr W H D c f r o k tb A C B F' := ⟨h.d.congr e, h.t, h.n⟩
end Go.Proofs.Ytmakjdfkldacaaa

/- The errors of Spread by both sides. -/
namespace Go.Proofs.Ytmakjdfkldacaaa
open Go.RowKit
set_option maxRecDepth 100000
set_option linter.unusedVariables false
set_option linter.unusedSimpArgs false

set_option maxHeartbeats 800000 in
theorem psp_err (W H : Int) (A : Option Addr) (n c : Nat) (b u v : Int) (w : World) (hn : n ≤ 4200) (z : Int) (hx : chk W H n = z) (hne : (z != 0) = true) :
    Calls Try.prog 46 #[.agg #[.int .i64 W, .int .i64 H, .slice A n c], .int .i64 b, .int .i64 u, .int .i64 v] w (ErrGrid w z) := by
  have HC := Lib.hid (chk_err (A := A) (c := c) hn hx)
  clear hx
  go_enter Try.func46, Try.ntmps46
  go_wp2_with fail
  refine (HC.out _).mono ?_
  rintro e w1 ⟨rfl, hb1⟩
  obtain ⟨hbox1, hbox2, hbel1, hsz1⟩ := after2 hb1
  clear hb1
  obtain ⟨q0, q1, q2, q3, q4, q5, q6⟩ := hbox1.all
  have hbel2 := hbel1
  obtain ⟨p0, p1, p2, p3, p4, p5, p6⟩ := hbox2.all
  go_wp2
  refine bodyPost_ret (v := .tuple #[.agg #[.int .i64 0, .int .i64 0, .slice none 0 0], .int .i64 z]) (by simp [results, Try.results46, go_sem, p0, p1, p2]) rfl ?_
  exact fin_err (by omega) hbel2
set_option maxHeartbeats 800000 in
theorem psp_b0 (W H : Nat) (D : Option Addr) (c : Nat) (b u v : Int) (w : World) (hW0 : 1 ≤ W) (hW : W ≤ 64) (hH0 : 1 ≤ H) (hH : H ≤ 64) (h0 : b < 0) :
    Calls Try.prog 46 #[.agg #[.int .i64 (W : Nat), .int .i64 (H : Nat), .slice D (W * H) c], .int .i64 b, .int .i64 u, .int .i64 v] w (ErrGrid w 2) := by
  go_enter Try.func46, Try.ntmps46
  go_wp2_with fail
  refine (chk_valid D c _ hW0 hW hH0 hH).mono ?_
  rintro e w1 ⟨rfl, hb1⟩
  obtain ⟨hbox1, hbox2, hbel1, hsz1⟩ := after2 hb1
  clear hb1
  obtain ⟨q0, q1, q2, q3, q4, q5, q6⟩ := hbox1.all
  obtain ⟨p0, p1, p2, p3, p4, p5, p6⟩ := hbox2.all
  go_wp2
  refine bodyPost_ret (v := .tuple #[.agg #[.int .i64 0, .int .i64 0, .slice none 0 0], .int .i64 2]) (by simp [results, Try.results46, go_sem, p0, p1, p2]) rfl ?_
  exact fin_err (by omega) hbel1
set_option maxHeartbeats 800000 in
theorem psp_b1 (W H : Nat) (D : Option Addr) (c : Nat) (b u v : Int) (w : World) (hW0 : 1 ≤ W) (hW : W ≤ 64) (hH0 : 1 ≤ H) (hH : H ≤ 64) (h0 : 0 ≤ b) (h1 : (W : Int) ≤ b) :
    Calls Try.prog 46 #[.agg #[.int .i64 (W : Nat), .int .i64 (H : Nat), .slice D (W * H) c], .int .i64 b, .int .i64 u, .int .i64 v] w (ErrGrid w 2) := by
  go_enter Try.func46, Try.ntmps46
  go_wp2_with fail
  refine (chk_valid D c _ hW0 hW hH0 hH).mono ?_
  rintro e w1 ⟨rfl, hb1⟩
  obtain ⟨hbox1, hbox2, hbel1, hsz1⟩ := after2 hb1
  clear hb1
  obtain ⟨q0, q1, q2, q3, q4, q5, q6⟩ := hbox1.all
  obtain ⟨p0, p1, p2, p3, p4, p5, p6⟩ := hbox2.all
  go_wp2
  refine bodyPost_ret (v := .tuple #[.agg #[.int .i64 0, .int .i64 0, .slice none 0 0], .int .i64 2]) (by simp [results, Try.results46, go_sem, p0, p1, p2]) rfl ?_
  exact fin_err (by omega) hbel1
set_option maxHeartbeats 800000 in
theorem psp_u0 (W H : Nat) (D : Option Addr) (c : Nat) (b u v : Int) (w : World) (hW0 : 1 ≤ W) (hW : W ≤ 64) (hH0 : 1 ≤ H) (hH : H ≤ 64) (h0 : 0 ≤ b) (h1 : b < (W : Int)) (h2 : u < 1) :
    Calls Try.prog 46 #[.agg #[.int .i64 (W : Nat), .int .i64 (H : Nat), .slice D (W * H) c], .int .i64 b, .int .i64 u, .int .i64 v] w (ErrGrid w 2) := by
  go_enter Try.func46, Try.ntmps46
  go_wp2_with fail
  refine (chk_valid D c _ hW0 hW hH0 hH).mono ?_
  rintro e w1 ⟨rfl, hb1⟩
  obtain ⟨hbox1, hbox2, hbel1, hsz1⟩ := after2 hb1
  clear hb1
  obtain ⟨q0, q1, q2, q3, q4, q5, q6⟩ := hbox1.all
  obtain ⟨p0, p1, p2, p3, p4, p5, p6⟩ := hbox2.all
  go_wp2
  refine bodyPost_ret (v := .tuple #[.agg #[.int .i64 0, .int .i64 0, .slice none 0 0], .int .i64 2]) (by simp [results, Try.results46, go_sem, p0, p1, p2]) rfl ?_
  exact fin_err (by omega) hbel1
set_option maxHeartbeats 800000 in
theorem psp_v0 (W H : Nat) (D : Option Addr) (c : Nat) (b u v : Int) (w : World) (hW0 : 1 ≤ W) (hW : W ≤ 64) (hH0 : 1 ≤ H) (hH : H ≤ 64) (h0 : 0 ≤ b) (h1 : b < (W : Int)) (h2 : 1 ≤ u) (h3 : v < 1) :
    Calls Try.prog 46 #[.agg #[.int .i64 (W : Nat), .int .i64 (H : Nat), .slice D (W * H) c], .int .i64 b, .int .i64 u, .int .i64 v] w (ErrGrid w 2) := by
  go_enter Try.func46, Try.ntmps46
  go_wp2_with fail
  refine (chk_valid D c _ hW0 hW hH0 hH).mono ?_
  rintro e w1 ⟨rfl, hb1⟩
  obtain ⟨hbox1, hbox2, hbel1, hsz1⟩ := after2 hb1
  clear hb1
  obtain ⟨q0, q1, q2, q3, q4, q5, q6⟩ := hbox1.all
  obtain ⟨p0, p1, p2, p3, p4, p5, p6⟩ := hbox2.all
  go_wp2
  refine bodyPost_ret (v := .tuple #[.agg #[.int .i64 0, .int .i64 0, .slice none 0 0], .int .i64 2]) (by simp [results, Try.results46, go_sem, p0, p1, p2]) rfl ?_
  exact fin_err (by omega) hbel1
set_option maxHeartbeats 800000 in
theorem psp_u1 (W H : Nat) (D : Option Addr) (c : Nat) (b u v : Int) (w : World) (hW0 : 1 ≤ W) (hW : W ≤ 64) (hH0 : 1 ≤ H) (hH : H ≤ 64) (h0 : 0 ≤ b) (h1 : b < (W : Int)) (h2 : 1 ≤ u) (h3 : 1 ≤ v) (h4 : 64 < u) :
    Calls Try.prog 46 #[.agg #[.int .i64 (W : Nat), .int .i64 (H : Nat), .slice D (W * H) c], .int .i64 b, .int .i64 u, .int .i64 v] w (ErrGrid w 4) := by
  go_enter Try.func46, Try.ntmps46
  go_wp2_with fail
  refine (chk_valid D c _ hW0 hW hH0 hH).mono ?_
  rintro e w1 ⟨rfl, hb1⟩
  obtain ⟨hbox1, hbox2, hbel1, hsz1⟩ := after2 hb1
  clear hb1
  obtain ⟨q0, q1, q2, q3, q4, q5, q6⟩ := hbox1.all
  obtain ⟨p0, p1, p2, p3, p4, p5, p6⟩ := hbox2.all
  go_wp2
  refine bodyPost_ret (v := .tuple #[.agg #[.int .i64 0, .int .i64 0, .slice none 0 0], .int .i64 4]) (by simp [results, Try.results46, go_sem, p0, p1, p2]) rfl ?_
  exact fin_err (by omega) hbel1
set_option maxHeartbeats 800000 in
theorem psp_v1 (W H : Nat) (D : Option Addr) (c : Nat) (b u v : Int) (w : World) (hW0 : 1 ≤ W) (hW : W ≤ 64) (hH0 : 1 ≤ H) (hH : H ≤ 64) (h0 : 0 ≤ b) (h1 : b < (W : Int)) (h2 : 1 ≤ u) (h3 : 1 ≤ v) (h4 : u ≤ 64) (h5 : 64 < v) :
    Calls Try.prog 46 #[.agg #[.int .i64 (W : Nat), .int .i64 (H : Nat), .slice D (W * H) c], .int .i64 b, .int .i64 u, .int .i64 v] w (ErrGrid w 4) := by
  go_enter Try.func46, Try.ntmps46
  go_wp2_with fail
  refine (chk_valid D c _ hW0 hW hH0 hH).mono ?_
  rintro e w1 ⟨rfl, hb1⟩
  obtain ⟨hbox1, hbox2, hbel1, hsz1⟩ := after2 hb1
  clear hb1
  obtain ⟨q0, q1, q2, q3, q4, q5, q6⟩ := hbox1.all
  obtain ⟨p0, p1, p2, p3, p4, p5, p6⟩ := hbox2.all
  go_wp2
  refine bodyPost_ret (v := .tuple #[.agg #[.int .i64 0, .int .i64 0, .slice none 0 0], .int .i64 4]) (by simp [results, Try.results46, go_sem, p0, p1, p2]) rfl ?_
  exact fin_err (by omega) hbel1
end Go.Proofs.Ytmakjdfkldacaaa

/- Spread by both sides. -/
namespace Go.Proofs.Ytmakjdfkldacaaa
open Go.RowKit
set_option maxRecDepth 100000
set_option linter.unusedVariables false
set_option linter.unusedSimpArgs false

theorem bnews_succ (n : Nat) (f : Nat → Bool) : news (n + 1) f = news n f ++ [.bool (f n)] := by
  unfold news; rw [List.range_succ, List.map_append]; rfl
/-- A slice of bools of the call's own, that may grow. -/
def BOwn (w : World) (base : Nat) (v : Value) (n : Nat) (f : Nat → Bool) : Prop := w.ownsRow base 4 1 v n (news n f)
theorem BOwn.keep {w w' : World} {base n : Nat} {v : Value} {f : Nat → Bool} (h : BOwn w base v n f) (hb : ∀ k, base ≤ k → k < w.heap.size → w'.heap[k]? = w.heap[k]?) : BOwn w' base v n f := by
  rcases h with ⟨hl, ⟨hv, hn⟩ | ⟨g, cap, cur, hv, hg, hc, r⟩⟩
  · exact ⟨hl, .inl ⟨hv, hn⟩⟩
  · refine ⟨hl, .inr ⟨g, cap, cur, hv, hg, (hb g hg ?_).trans hc, r⟩⟩
    rcases Nat.lt_or_ge g w.heap.size with h | h
    · exact h
    · rw [Array.getElem?_eq_none h] at hc; cases hc
theorem BOwn.alloc {w : World} {base n : Nat} {v : Value} {f : Nat → Bool} (h : BOwn w base v n f) (o : Obj) : BOwn (w.alloc o) base v n f := h.keep fun k _ hk => Below.heap_alloc w o k hk
theorem BOwn.drew {w : World} {base n : Nat} {v : Value} {f : Nat → Bool} (h : BOwn w base v n f) : BOwn w.drew base v n f := h
theorem BOwn.block {w : World} {base n k : Nat} {v : Value} {f : Nat → Bool} (h : BOwn w base v n f) (hk : v.ownBlock = some k) : base ≤ k ∧ k < w.heap.size := World.ownsRow.lt h k hk
theorem BOwn.out {w : World} {base n : Nat} {v : Value} {f : Nat → Bool} (h : BOwn w base v n f) : ∃ A c, v = .slice A n c ∧ (0 < n → ∃ k, A = some ⟨k, 0, none⟩ ∧ base ≤ k ∧ Row w k n f) := by
  rcases h with ⟨hl, ⟨rfl, rfl⟩ | ⟨g, cap, cur, rfl, hg, hc, hcap, h0, hs, ht⟩⟩
  · exact ⟨none, 0, rfl, fun h => absurd h (by omega)⟩
  · exact ⟨_, _, rfl, fun h => ⟨g, rfl, hg, Row.of_own (base := base) (cap := cap) ⟨hl, .inr ⟨g, cap, cur, rfl, hg, hc, hcap, h0, hs, ht⟩⟩ h⟩⟩
/-- append of one cell, as a step of a drawn region. -/
theorem bstep {ops : Array Oper} {o : Oper} {a : Act} {w : World} {K : Act → World → Prop} {Q : Exit → Act → World → Prop} {E : Prop} (hgd : o.guard = none) (s x : Operand)
    (ho : o.op = .call { callee := .builtin .append, args := #[s, x], argTypes := #[22, 22] }) (base : Nat) {v : Value} {n : Nat} {f : Nat → Bool} (hs : a.eval s = v) (hown : BOwn w base v n f)
    (y : Bool) (g : Nat) (hx : a.eval x = .slice (some ⟨g, 0, none⟩) 1 1) (hc : w.cell? ⟨g, 0, none⟩ = some (.bool y)) (hy : f n = y) (hn : n ≤ 100000) (hb : base ≤ w.heap.size)
    (h : ∀ v' w', BOwn w' base v' (n + 1) f → Below base w w' → K (a.put o.dst v') w') : if Region.wanted o (yielded ops a.tmps) = true then Oper.wp Try.prog o a w K Q else E := by
  have hw : Region.wanted o (yielded ops a.tmps) = true := by simp [Region.wanted, hgd]
  rw [if_pos hw]
  obtain ⟨i0, hi, hz0, hz1, hz2⟩ := info_parts Try.info4
  obtain ⟨v', w', hrun, h1, h2, _⟩ := run_append_own (P := Try.prog) w base 22 o.type 4 i0 (.bool false) 1 1 Try.underlying22 hi hz0 hz1 hz2 rfl (by decide) v n _ hown ⟨g, 0, none⟩ 1 1 [.bool y] rfl
    (by intro j u hj; match j, hj with | 0, hj => (simp at hj; subst hj; simpa [Addr.add] using hc)) (by intro u hu; simp at hu; subst hu; rfl) (by unfold maxLen; omega) (by omega) hb
  unfold Oper.wp
  simp [execOp, ho, resolve, invoke, builtin, hs, hx, hrun, Result.andThen]
  refine h v' w' ?_ ?_
  · unfold BOwn
    rw [bnews_succ, hy]
    exact h1
  · exact Below.grown (Below.refl _ _) h2 hb fun k hk => (hown.block hk).1
theorem mk0_run (K M : Nat) (hN : K * M ≤ 4096) (w : World) :
    (Instr.makeSlice 22 (.int .i64 0) (.int .i64 ((K : Int) * (M : Int)))).run Try.prog w = .ok (.slice (some ⟨w.heap.size, 0, none⟩) 0 (K * M)) (w.alloc (.cells (madeCells #[.bool false] (K * M)) 4)) := by
  obtain ⟨i0, hi, hz0, hz1, hz2⟩ := info_parts Try.info4
  have h := run_make (P := Try.prog) w 22 4 i0 (.bool false) Try.underlying22 hi hz0 .i64 .i64 0 ((K * M : Nat) : Int) (Int.le_refl _) (by omega) (by rw [hz2]; omega) (by omega)
  simp only [Int.toNat_zero, Int.toNat_natCast, hz1, Nat.mul_one] at h
  rw [Int.natCast_mul] at h
  exact h
/-- A cell of the plane that a least cell spreads to. -/
def spf (W H : Nat) (f : Nat → Bool) (b x y : Nat) : Bool := f (y % H * W + (((x : Int) - ((b * (y / H) : Nat) : Int)) % (W : Int)).toNat)
/-- A grid came back, in a new row, with no error: the row may have more room. -/
def SpG (w : World) (W H : Nat) (F : Nat → Bool) (e : Ending) (w' : World) : Prop :=
  ∃ k c, e = .returned (.tuple #[.agg #[.int .i64 W, .int .i64 H, .slice (some ⟨k, 0, none⟩) (W * H) c], .int .i64 0]) ∧ w.heap.size ≤ k ∧ Row w' k (W * H) F ∧ Below w.heap.size w w'
theorem OkGrid.g {w w' : World} {W H : Nat} {F : Nat → Bool} {e : Ending} (h : OkGrid w W H F e w') : SpG w W H F e w' := by
  obtain ⟨k, a⟩ := h
  exact ⟨k, _, a⟩
set_option maxHeartbeats 1600000 in
theorem psp_ok (W H : Nat) (bb o c : Nat) (f : Nat → Bool) (b U V : Nat) (w : World) (hlb : bb < w.heap.size) (hcs : ∀ i, i < W * H → w.cell? ⟨bb, o + i, none⟩ = some (.bool (f i))) (hW0 : 1 ≤ W) (hW : W ≤ 64) (hH0 : 1 ≤ H) (hH : H ≤ 64) (hb : b < W) (hU0 : 1 ≤ U) (hU : U ≤ 64) (hV0 : 1 ≤ V) (hV : V ≤ 64) :
    Calls Try.prog 46 #[.agg #[.int .i64 (W : Nat), .int .i64 (H : Nat), .slice (some ⟨bb, o, none⟩) (W * H) c], .int .i64 (b : Nat), .int .i64 (U : Nat), .int .i64 (V : Nat)] w (SpG w U V fun i => spf W H f b (i % U) (i / U)) := by
  have hN : U * V ≤ 4096 := Nat.mul_le_mul hU hV
  have hNi : (U : Int) * (V : Int) ≤ 4096 := by have := Int.ofNat_le.2 hN; simpa using this
  have hNi0 : 0 ≤ (U : Int) * (V : Int) := by have := Int.natCast_nonneg (U * V); simpa using this
  have hWH : W * H ≤ 4096 := Nat.mul_le_mul hW hH
  have hmk := mk0_run U V hN
  have HC := Lib.hid hcs
  have G0 := Lib.hid (((Box.new w W H (.slice (some ⟨bb, o, none⟩) (W * H) c)).alloc (.cells #[.int .i64 0, .int .i64 0, .slice none 0 0] 24)))
  clear hcs
  go_enter Try.func46, Try.ntmps46
  go_wp2_with fail
  refine (chk_valid (some ⟨bb, o, none⟩) c _ hW0 hW hH0 hH).mono ?_
  rintro e v0 ⟨rfl, hb1⟩
  obtain ⟨hbox1, hbox2, hbel1, hsz1⟩ := after2 hb1
  clear hb1 G0
  have G0 := Lib.hid hbox1
  have R0 := Lib.hid hbox2
  have L0 := Lib.hid hbel1
  have O0 := Lib.hid (show BOwn (v0.alloc (.cells (madeCells #[.bool false] (U * V)) 4)) (w.heap.size + 2) (.slice (some ⟨v0.heap.size, 0, none⟩) 0 (U * V)) 0 (fun i => spf W H f b (i % U) (i / U)) from World.ownsRow_made v0 _ _ (by omega) (by unfold maxLen; omega) (by rw [size_madeCells, Nat.mul_one]))
  have B0 := Lib.hid (show Below (w.heap.size + 2) v0 (v0.alloc (.cells (madeCells #[.bool false] (U * V)) 4)) from (Below.refl _ _).alloc (by omega) _)
  obtain ⟨q0, q1, q2, q3, q4, q5, q6⟩ := hbox1.all
  clear hbox1 hbox2 hbel1
  go_wp2
  clear q0 q1 q2 q3 q4 q5 q6
  go_loopw [11, 50] (fun s i wr => ∃ y : Nat, y ≤ V ∧ i = .int .i64 y ∧ Hid (BOwn wr (w.heap.size + 2) s (y * U) (fun i => spf W H f b (i % U) (i / U))) ∧ Hid (Below (w.heap.size + 2) v0 wr)) (fun _ i _ => V - (intOf i).toNat)
  case atStart => exact ⟨0, Nat.zero_le _, rfl, by rw [Nat.zero_mul]; exact O0, B0⟩
  case round =>
    obtain ⟨y, hy, rfl, hO, hB⟩ := hrel
    by_cases hlt2 : y < V
    · have hs1 := hB.out.size
      obtain ⟨q0, q1, q2, q3, q4, q5, q6⟩ := (G0.out.below hB.out (by omega)).all
      have m1 : y % H < H := Nat.mod_lt _ hH0
      have e1 : (y : Int).tmod (H : Int) = ((y % H : Nat) : Int) := by rw [Int.tmod_eq_emod_of_nonneg (by omega)]; omega
      have e2 : ¬ (H : Int) = 0 := by omega
      have m2 : y % H * W ≤ 4096 := Nat.le_trans (Nat.mul_le_mul (show y % H ≤ 64 by omega) hW) (by decide)
      have e3 : ((y % H : Nat) : Int) * (W : Int) = ((y % H * W : Nat) : Int) := by rw [Int.natCast_mul]
      have m3 : y % H * W + W ≤ W * H := by rw [← Nat.succ_mul, Nat.mul_comm W H]; exact Nat.mul_le_mul_right W m1
      obtain ⟨r, hr0⟩ : ∃ r, y % H * W = r := ⟨_, rfl⟩
      rw [hr0] at m2 m3 e3
      have HR0 := Lib.hid hr0
      clear hr0
      generalize y % H = ym at m1 e1 e3
      have e4 : IntKind.i64.wrap ((ym : Int) * (W : Int)) = (r : Int) := by rw [e3]; exact IntWalk.i64_in _ (by omega)
      go_wp2
      go_quiet (fail)
      have hO1 : Hid (BOwn (wr.drewN nq) (w.heap.size + 2) _ (y * U) (fun i => spf W H f b (i % U) (i / U))) := hO
      have hB1 : Hid (Below (w.heap.size + 2) v0 (wr.drewN nq)) := Lib.hid (Go.Proofs.below_drewN' hB.out nq)
      generalize wr.drewN nq = wa at hO1 hB1 ⊢
      clear q0 q1 q2 q3 q4 q5 q6 e1 e2 e3 e4 hs1 hO hB
      go_wp2
      go_loopw [11, 61] (fun s i wr => ∃ x : Nat, x ≤ U ∧ i = .int .i64 x ∧ Hid (BOwn wr (w.heap.size + 2) s (y * U + x) (fun i => spf W H f b (i % U) (i / U))) ∧ Hid (Below (w.heap.size + 2) v0 wr)) (fun _ i _ => U - (intOf i).toNat)
      case atStart => exact ⟨0, Nat.zero_le _, rfl, hO1, hB1⟩
      case round =>
        obtain ⟨x, hx, rfl, hO2, hB2⟩ := hrel
        obtain ⟨A', c', rfl, _⟩ := hO2.out.out
        by_cases hltx : x < U
        · have hs1 := hB2.out.size
          have e1 : (y : Int).tdiv (H : Int) = ((y / H : Nat) : Int) := by rw [Int.tdiv_eq_ediv_of_nonneg (by omega), Int.natCast_ediv]
          have e2 : ¬ (H : Int) = 0 := by omega
          have m4 : y / H ≤ y := Nat.div_le_self _ _
          have m5 : b * (y / H) ≤ 4096 := Nat.mul_le_mul (show b ≤ 64 by omega) (show y / H ≤ 64 by omega)
          have e3 : (b : Int) * ((y / H : Nat) : Int) = ((b * (y / H) : Nat) : Int) := by rw [Int.natCast_mul]
          have HT := Lib.hid (show spf W H f b ((y * U + x) % U) ((y * U + x) / U) = f (y % H * W + (((x : Int) - ((b * (y / H) : Nat) : Int)) % (W : Int)).toNat) by
            unfold spf
            rw [show (y * U + x) % U = x by rw [Nat.mul_comm, Nat.mul_add_mod, Nat.mod_eq_of_lt hltx], show (y * U + x) / U = y by rw [Nat.mul_comm, Nat.mul_add_div (by omega), Nat.div_eq_of_lt hltx, Nat.add_zero]])
          rw [HR0.out] at HT
          generalize b * (y / H) = P at *
          generalize y / H = Q at *
          have e5 : IntKind.i64.wrap ((b : Int) * (Q : Int)) = (P : Int) := by rw [e3]; exact IntWalk.i64_in _ (by omega)
          have e8 : IntKind.i64.wrap (Q : Int) = (Q : Int) := IntWalk.i64_in _ (by omega)
          have e9 : IntKind.i64.wrap (P : Int) = (P : Int) := IntWalk.i64_in _ (by omega)
          have e6 : IntKind.i64.wrap ((x : Int) - (P : Int)) = (x : Int) - (P : Int) := IntWalk.i64_in _ (by omega)
          have HV := fun u => modulo6_any ((x : Int) - (P : Int)) W u (by omega) (by omega) (by omega) (by omega)
          have n1 := Int.emod_nonneg ((x : Int) - (P : Int)) (show (W : Int) ≠ 0 by omega)
          have n2 := Int.emod_lt_of_pos ((x : Int) - (P : Int)) (show 0 < (W : Int) by omega)
          obtain ⟨m, hm⟩ := Int.eq_ofNat_of_zero_le n1
          rw [hm] at HV HT n2
          rw [Int.toNat_natCast] at HT
          have HV := Lib.hid HV
          clear hm n1
          have hcc : wr.cell? ⟨bb, o + (r + m), none⟩ = some (.bool (f (r + m))) := ((L0.out.trans (hB2.out.mono (by omega))).cell (p := ⟨bb, o + (r + m), none⟩) hlb).trans (HC.out _ (by omega))
          rw [show r + m = ((r : Int) + (m : Int)).toNat by omega] at hcc HT
          generalize f ((r : Int) + (m : Int)).toNat = bv at *
          have hrm : r + m < W * H := by omega
          have hct : y * U + x ≤ 100000 := by
            have := Nat.mul_le_mul (show y ≤ 64 by omega) hU
            omega
          have HCT := Lib.hid (show y * U + (x + 1) = (y * U + x) + 1 by omega)
          have e7 : IntKind.i64.wrap ((r : Int) + (m : Int)) = (r : Int) + (m : Int) := IntWalk.i64_in _ (by omega)
          have b3 : (r : Int) + (m : Int) < (W : Int) * (H : Int) := by rw [← Int.natCast_mul]; omega
          have e10 : ¬ H = 0 := by omega
          have b4 : 0 ≤ (r : Int) + (m : Int) := by omega
          have HB := Lib.hid ((G0.out.below hB2.out (by omega)))
          have HK := Lib.hid (fun w' (h : Below (w.heap.size + 2) wr w') => (show w'.cell? ⟨w.heap.size, 0, none⟩ = some (.int .i64 (W : Nat)) ∧ w'.cell? ⟨w.heap.size, 1, none⟩ = some (.int .i64 (H : Nat)) ∧ w'.cell? ⟨w.heap.size, 2, none⟩ = some (.slice (some ⟨bb, o, none⟩) (W * H) c) ∧ w'.cell? ⟨bb, o + ((r : Int) + (m : Int)).toNat, none⟩ = some (.bool bv) from ⟨(HB.out.below h (by omega)).c0, (HB.out.below h (by omega)).c1, (HB.out.below h (by omega)).c2, (h.cell (p := ⟨bb, o + ((r : Int) + (m : Int)).toNat, none⟩) (by show bb < _; omega)).trans hcc⟩))
          obtain ⟨q0, q1, q2, q3, q4, q5, q6⟩ := HB.out.all
          generalize y * U + x = ct at *
          have HO2 := Lib.hid ((hO2.out.drew).alloc (.cells #[.bool bv] 4))
          have HC2 : Hid ((wr.drew.alloc (.cells #[.bool bv] 4)).cell? ⟨wr.heap.size, 0, none⟩ = some (.bool bv)) := Lib.hid (by exact (Boxed.new wr.drew 4 (.bool bv)).cell)
          have HB4 := Lib.hid (((Below.refl (w.heap.size + 2) wr).drew).alloc (by show _ ≤ wr.heap.size; omega) (.cells #[.bool bv] 4))
          have HB3 := Lib.hid ((Below.refl (w.heap.size + 2) wr.drew).alloc (by show _ ≤ wr.heap.size; omega) (.cells #[.bool bv] 4))
          go_wp2
          go_region_held3 (fun w' => w'.cell? ⟨w.heap.size, 0, none⟩ = some (.int .i64 (W : Nat)) ∧ w'.cell? ⟨w.heap.size, 1, none⟩ = some (.int .i64 (H : Nat)) ∧ w'.cell? ⟨w.heap.size, 2, none⟩ = some (.slice (some ⟨bb, o, none⟩) (W * H) c) ∧ w'.cell? ⟨bb, o + ((r : Int) + (m : Int)).toNat, none⟩ = some (.bool bv))
            (first
              | exact HK.out _ (Below.refl _ _).drew
              | exact HK.out _ hb4.out
              | exact HK.out _ HB4.out)
            (first
              | (go_at_call 71; (with_reducible refine (HV.out _).mono ?_); rintro e w2 ⟨rfl, rfl⟩)
              | (refine bstep rfl (.tmp 64) (.tmp 82) rfl (w.heap.size + 2) rfl HO2.out bv wr.heap.size rfl HC2.out HT.out hct (by simp; omega) ?_
                 intro v' w4 hO4 hb4
                 have hO4 := Lib.hid hO4
                 have hb4 := Lib.hid ((Below.refl (w.heap.size + 2) wr).drew.trans (HB3.out.trans hb4))))
          all_goals
            go_wp2
            exact ⟨⟨x + 1, by omega, by go_num, by rw [HCT.out]; exact hO4, Lib.hid (hB2.out.trans hb4.out)⟩, by simp [intOf]; omega⟩
        · have e : x = U := by omega
          subst e
          go_wp2
          exact ⟨⟨y + 1, by omega, by go_num, by rw [Nat.add_mul, Nat.one_mul]; exact hO2, hB2⟩, by simp [intOf]; omega⟩
    · have e : y = V := by omega
      subst e
      obtain ⟨A', c', rfl, hout⟩ := hO.out.out
      obtain ⟨q, rfl, hq, hrow⟩ := hout (Nat.mul_pos hV0 hU0)
      obtain ⟨q0, q1, q2, q3, q4, q5, q6⟩ := (R0.out.below hB.out (by omega)).all
      rw [Nat.mul_comm y U] at hrow ⊢
      go_wp2
      refine bodyPost_ret (v := .tuple #[.agg #[.int .i64 U, .int .i64 y, .slice (some ⟨q, 0, none⟩) (U * y) c'], .int .i64 0]) (by simp [results, Try.results46, go_sem, q0, q1, q2]) rfl ⟨q, c', rfl, by omega, ?_, ?_⟩
      · exact ((hrow.far (by simp; omega) _).far (by simp; omega) _).far (by simp; omega) _
      · exact (((L0.out.trans (hB.out.mono (by omega))).setCell (by simp) _).setCell (by simp) _).setCell (by simp) _
end Go.Proofs.Ytmakjdfkldacaaa

/- Spread by the reference; both sides of it. -/
namespace Go.Proofs.Ytmakjdfkldacaaa
open Go.RowKit
set_option maxRecDepth 100000
set_option linter.unusedVariables false
set_option linter.unusedSimpArgs false

end Go.Proofs.Ytmakjdfkldacaaa
