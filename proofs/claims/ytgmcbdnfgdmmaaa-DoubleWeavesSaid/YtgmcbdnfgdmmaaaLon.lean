/- Only of the program: the cloth of only some threads. -/
import Derived.Test.YtgmcbdnfgdmmaaaLyx
import Derived.Test.YtgmcbdnfgdmmaaaHsx
import Derived.Deep.RegionLawGrows
namespace Go.Proofs.Ytgmcbdnfgdmmaaa
open Go.RowKit
set_option maxRecDepth 100000
set_option linter.unusedVariables false
set_option linter.unusedSimpArgs false

theorem newsb_succ (n : Nat) (f : Nat → Bool) : news (n + 1) f = news n f ++ [.bool (f n)] := by
  unfold news
  rw [List.range_succ, List.map_append]; rfl
/-- Bools of the call's own. -/
def OwB (w : World) (base : Nat) (v : Value) (n : Nat) (f : Nat → Bool) : Prop := w.ownsRow base 4 1 v n (news n f)
section
variable {w w' : World} {base n : Nat} {v : Value} {f : Nat → Bool}
theorem OwB.below (h : OwB w base v n f) (hb : Below w.heap.size w w') : OwB w' base v n f := orow_keep h fun k _ hk => hb.block k (orow_block h hk).2.1
theorem OwB.far (h : OwB w base v n f) {p : Addr} (hp : p.block < base) (u : Value) : OwB (w.setCell p u) base v n f :=
  orow_keep h fun k hk _ => Below.heap_setCell w p u k (by omega)
theorem OwB.alloc (h : OwB w base v n f) (o : Obj) : OwB (w.alloc o) base v n f := orow_keep h fun k _ hk => Below.heap_alloc w o k (orow_block h hk).2.1
theorem OwB.drew (h : OwB w base v n f) : OwB w.drew base v n f := h
theorem OwB.out (h : OwB w base v n f) : ∃ A c, v = .slice A n c ∧ Cp A n c ∧ Holds w w.heap.size A n f := by
  obtain ⟨A, c, e⟩ := orow_shape h
  subst e
  refine ⟨A, c, rfl, orow_cp h, fun hn => ?_⟩
  have h2 := h
  rcases h2.2 with ⟨e0, e1⟩ | ⟨g, cap, cur, e0, _⟩
  · omega
  · cases e0
    exact (Row.of_own h hn).holds (Row.of_own h hn).lt hn
/-- 'append(s, b)' at a step of a region that draws its order. -/
theorem step_appb {ops : Array Oper} {o : Oper} {a : Act} {w : World} {K : Act → World → Prop} {Q : Exit → Act → World → Prop} {E : Prop} (hgd : o.guard = none) (s x : Operand)
    (ho : o.op = .call { callee := .builtin .append, args := #[s, x], argTypes := #[22, 22] }) (base : Nat) {v : Value} {n : Nat} {f : Nat → Bool} (hs : a.eval s = v) (hown : OwB w base v n f)
    (y : Bool) (g : Nat) (hx : a.eval x = .slice (some ⟨g, 0, none⟩) 1 1) (hc : w.cell? ⟨g, 0, none⟩ = some (.bool y)) (hy : f n = y) (hn : n ≤ 100000) (hb : base ≤ w.heap.size)
    (h : ∀ v' w', OwB w' base v' (n + 1) f → Below base w w' → K (a.put o.dst v') w') : if Region.wanted o (yielded ops a.tmps) = true then Oper.wp Try.prog o a w K Q else E := by
  have hw : Region.wanted o (yielded ops a.tmps) = true := by simp [Region.wanted, hgd]
  rw [if_pos hw]
  obtain ⟨i0, hi, hz0, hz1, hz2⟩ := info_parts Try.info4
  obtain ⟨v', w', hrun, h1, h2, _, hat⟩ := run_append_own_at (P := Try.prog) w base 22 o.type 4 i0 (.bool false) 1 1 Try.underlying22 hi hz0 hz1 hz2 rfl (by decide) v n _ hown ⟨g, 0, none⟩ 1 1 [.bool y] rfl
    (by intro j u hj; match j, hj with | 0, hj => (simp at hj; subst hj; simpa [Addr.add] using hc)) (by intro u hu; simp at hu; rw [hu]; rfl) (by unfold maxLen; omega) (by omega) hb
  unfold Oper.wp
  simp [execOp, ho, resolve, invoke, builtin, hs, hx, hrun, Result.andThen]
  refine h v' w' ?_ ?_
  · unfold OwB
    rw [newsb_succ, hy]
    exact h1
  · exact Below.grown (Below.refl _ _) h2 hb fun k hk => (orow_block hown hk).1
end
/-- A grid came back. -/
def OkG (w : World) (W H : Nat) (F : Nat → Bool) (e : Ending) (w' : World) : Prop :=
  ∃ A c, e = .returned (.tuple #[.agg #[.int .i64 W, .int .i64 H, .slice A (W * H) c], .int .i64 0]) ∧ Cp A (W * H) c ∧ Holds w' w'.heap.size A (W * H) F ∧ Below w.heap.size w w'
theorem ponly_err {W H : Int} {A : Option Addr} {N c : Nat} (D : Option Addr) (n d : Nat) (z : Int) (hN : N ≤ 4200) (hz : chk W H N = z) (hne : (z != 0) = true) (w : World) :
    Calls Try.prog 64 #[.agg #[.int .i64 W, .int .i64 H, .slice A N c], .slice D n d] w (ErrGrid w z) := by
  have HK := Lib.hid (fun u => poff_err (A := A) (c := c) D n d z hN hz hne u)
  have LB0 := Lib.hid (show Below w.heap.size w (w.alloc (.cells #[.int .i64 W, .int .i64 H, (.slice A N c)] 24)) from (Below.refl _ _).alloc (Nat.le_refl _) _)
  have LB1 := Lib.hid (LB0.out.alloc LB0.out.size (.cells #[.int .i64 0, .int .i64 0, .slice none 0 0] 24))
  have X1 := Lib.hid (Box.new (w.alloc (.cells #[.int .i64 W, .int .i64 H, (.slice A N c)] 24)) 0 0 (.slice none 0 0))
  have hs1 : (w.alloc (.cells #[.int .i64 W, .int .i64 H, (.slice A N c)] 24)).heap.size = w.heap.size + 1 := by simp
  rw [hs1] at X1
  clear hz hs1 LB0
  go_enter Try.func64, Try.ntmps64
  go_wp2_with fail
  with_reducible refine Calls.mono (HK.out _) ?_
  rintro e w1 ⟨rfl, hb⟩
  have LB2 := Lib.hid (LB1.out.trans (hb.mono LB1.out.size))
  have X2 := Lib.hid (X1.out.below hb X1.out.lt)
  clear hb LB1 X1
  obtain ⟨rb, hrb⟩ : ∃ rb, w.heap.size + 1 = rb := ⟨_, rfl⟩
  have hrw : w.heap.size ≤ rb := by omega
  rw [hrb] at X2 ⊢
  clear hrb
  obtain ⟨q0, q1, q2, q3, q4, q5, q6⟩ := X2.out.all
  go_wp2
  refine bodyPost_ret (v := .tuple #[.agg #[.int .i64 0, .int .i64 0, .slice none 0 0], .int .i64 z]) (by simp [results, Try.results64, go_sem, q0, q1, q2, q3, q4, q5]) rfl ?_
  exact ⟨rfl, ((LB2.out.setCell (p := ⟨rb, 0, none⟩) hrw _).setCell (p := ⟨rb, 1, none⟩) hrw _).setCell (p := ⟨rb, 2, none⟩) hrw _⟩
theorem ponly_no (W H : Nat) (A : Option Addr) (c : Nat) (g : Nat → Bool) (D : Option Addr) (n d : Nat) (f : Nat → Int) (w : World) (hg : Holds w w.heap.size A (W * H) g) (hW0 : 1 ≤ W) (hW : W ≤ 64) (hH0 : 1 ≤ H) (hH : H ≤ 64) (hn : n ≤ 30000) (hr : L2.Holds w w.heap.size D n f) (hs : setB (W + H) n f = false) :
    Calls Try.prog 64 #[.agg #[.int .i64 (W : Nat), .int .i64 (H : Nat), .slice A (W * H) c], .slice D n d] w (ErrGrid w 2) := by
  have HK := Lib.hid (fun u (hb : Below w.heap.size w u) => poff_f W H A c g D n d f u ((hg.below hb).more hb.size) hW0 hW hH0 hH hn ((hr.below hb).more hb.size) hs)
  have LB0 := Lib.hid (show Below w.heap.size w (w.alloc (.cells #[.int .i64 (W : Nat), .int .i64 (H : Nat), (.slice A (W * H) c)] 24)) from (Below.refl _ _).alloc (Nat.le_refl _) _)
  have LB1 := Lib.hid (LB0.out.alloc LB0.out.size (.cells #[.int .i64 0, .int .i64 0, .slice none 0 0] 24))
  have X1 := Lib.hid (Box.new (w.alloc (.cells #[.int .i64 (W : Nat), .int .i64 (H : Nat), (.slice A (W * H) c)] 24)) 0 0 (.slice none 0 0))
  have hs1 : (w.alloc (.cells #[.int .i64 (W : Nat), .int .i64 (H : Nat), (.slice A (W * H) c)] 24)).heap.size = w.heap.size + 1 := by simp
  rw [hs1] at X1
  clear hs1 LB0 hg hr hs
  generalize W * H = M at *
  go_enter Try.func64, Try.ntmps64
  go_wp2_with fail
  with_reducible refine Calls.mono (HK.out _ LB1.out) ?_
  rintro e w1 ⟨rfl, hb⟩
  have LB2 := Lib.hid (LB1.out.trans (hb.mono LB1.out.size))
  have X2 := Lib.hid (X1.out.below hb X1.out.lt)
  clear hb LB1 X1
  obtain ⟨rb, hrb⟩ : ∃ rb, w.heap.size + 1 = rb := ⟨_, rfl⟩
  have hrw : w.heap.size ≤ rb := by omega
  rw [hrb] at X2 ⊢
  clear hrb
  obtain ⟨q0, q1, q2, q3, q4, q5, q6⟩ := X2.out.all
  go_wp2
  refine bodyPost_ret (v := .tuple #[.agg #[.int .i64 0, .int .i64 0, .slice none 0 0], .int .i64 2]) (by simp [results, Try.results64, go_sem, q0, q1, q2, q3, q4, q5]) rfl ?_
  exact ⟨rfl, ((LB2.out.setCell (p := ⟨rb, 0, none⟩) hrw _).setCell (p := ⟨rb, 1, none⟩) hrw _).setCell (p := ⟨rb, 2, none⟩) hrw _⟩
theorem ponly_short (W H : Nat) (A : Option Addr) (c : Nat) (g : Nat → Bool) (l : List Nat) (D : Option Addr) (d : Nat) (w : World) (hg : Holds w w.heap.size A (W * H) g) (hW0 : 1 ≤ W) (hW : W ≤ 64) (hH0 : 1 ≤ H) (hH : H ≤ 64) (hn : l.length ≤ 128) (hl : LL w D l) (hlN : ∀ b, b ∈ l → b < 128) (hs : setB (W + H) l.length (lf l) = true)
    (h0 : (lEn W l).length = 0 ∨ (lPi W l).length = 0) :
    Calls Try.prog 64 #[.agg #[.int .i64 (W : Nat), .int .i64 (H : Nat), .slice A (W * H) c], .slice D l.length d] w (ErrGrid w 22) := by
  have HK := Lib.hid (fun u (hb : Below w.heap.size w u) => poff_t W H A c g D l.length d (lf l) u ((hg.below hb).more hb.size) hW0 hW hH0 hH (by omega) ((hl.below hb)) hs)
  have HLA := Lib.hid (fun u (hb : Below w.heap.size w u) => layer_n W H A (W * H) c l D d u (hl.below hb) hn hlN)
  have X0 := Lib.hid (Box.new w (W : Nat) (H : Nat) (.slice A (W * H) c))
  have LB0 := Lib.hid (show Below w.heap.size w (w.alloc (.cells #[.int .i64 (W : Nat), .int .i64 (H : Nat), (.slice A (W * H) c)] 24)) from (Below.refl _ _).alloc (Nat.le_refl _) _)
  have X1 := Lib.hid (X0.out.alloc (.cells #[.int .i64 0, .int .i64 0, .slice none 0 0] 24))
  have LB1 := Lib.hid (LB0.out.alloc LB0.out.size (.cells #[.int .i64 0, .int .i64 0, .slice none 0 0] 24))
  have R1 := Lib.hid (Box.new (w.alloc (.cells #[.int .i64 (W : Nat), .int .i64 (H : Nat), (.slice A (W * H) c)] 24)) 0 0 (.slice none 0 0))
  have hs1 : (w.alloc (.cells #[.int .i64 (W : Nat), .int .i64 (H : Nat), (.slice A (W * H) c)] 24)).heap.size = w.heap.size + 1 := by simp
  rw [hs1] at R1
  clear hs1 LB0 X0 hl hs
  clear hg
  generalize W * H = M at *
  generalize l.length = n0 at *
  go_enter Try.func64, Try.ntmps64
  go_upto_region 1 with (fail)
  obtain ⟨rb, hrb⟩ : ∃ rb, w.heap.size + 1 = rb := ⟨_, rfl⟩
  have hrw : w.heap.size ≤ rb := by omega
  have hrw2 : w.heap.size ≠ rb := by omega
  rw [hrb] at R1 ⊢
  clear hrb
  generalize (w.alloc (.cells #[.int .i64 (W : Nat), .int .i64 (H : Nat), (.slice A M c)] 24)).alloc (.cells #[.int .i64 0, .int .i64 0, .slice none 0 0] 24) = w1 at *
  obtain ⟨q0, q1, q2, q3, q4, q5, q6⟩ := X1.out.all
  go_wp2_with fail
  clear q0 q1 q2 q3 q4 q5 q6
  with_reducible refine Calls.mono (HK.out _ LB1.out) ?_
  rintro e w2 ⟨rfl, hb⟩
  have LB2 := Lib.hid (LB1.out.trans (hb.mono LB1.out.size))
  have X2 := Lib.hid (X1.out.below hb X1.out.lt)
  have R2 := Lib.hid (R1.out.below hb R1.out.lt)
  clear hb LB1 X1 R1 HK
  obtain ⟨q0, q1, q2, q3, q4, q5, q6⟩ := X2.out.all
  go_wp2_with fail
  clear q0 q1 q2 q3 q4 q5 q6
  with_reducible refine Calls.mono (HLA.out _ LB2.out) ?_
  rintro e w3 ⟨D1, c1, D2, c2, rfl, ⟨hp1, ht1⟩, ⟨hp2, ht2⟩, hb⟩
  have LB3 := Lib.hid (LB2.out.trans (hb.mono LB2.out.size))
  have X3 := Lib.hid (X2.out.below hb X2.out.lt)
  have R3 := Lib.hid (R2.out.below hb R2.out.lt)
  clear hb LB2 X2 R2 HLA
  have R4 := Lib.hid (R3.out.alloc (.cells #[.slice D1 (lEn W l).length c1, .slice D2 (lPi W l).length c2] 79))
  have LB4 := Lib.hid (LB3.out.alloc LB3.out.size (.cells #[.slice D1 (lEn W l).length c1, .slice D2 (lPi W l).length c2] 79))
  obtain ⟨q0, q1, q2, q3, q4, q5, q6⟩ := R4.out.all
  have hfin : ∀ wz, wz = (((w3.alloc (.cells #[.slice D1 (lEn W l).length c1, .slice D2 (lPi W l).length c2] 79)).setCell ⟨rb, 0, none⟩ (.int .i64 0)).setCell ⟨rb, 1, none⟩ (.int .i64 0)).setCell ⟨rb, 2, none⟩ (.slice none 0 0) → ErrGrid w 22 (.returned (.tuple #[.agg #[.int .i64 0, .int .i64 0, .slice none 0 0], .int .i64 22])) wz := fun wz e => by
    subst e
    exact ⟨rfl, ((LB4.out.setCell (p := ⟨rb, 0, none⟩) hrw _).setCell (p := ⟨rb, 1, none⟩) hrw _).setCell (p := ⟨rb, 2, none⟩) hrw _⟩
  have HFIN := Lib.hid hfin
  clear hfin hp1 ht1 hp2 ht2 X3 LB3 R3
  generalize (lEn W l).length = n1 at *
  generalize (lPi W l).length = n2 at *
  by_cases hz : n1 = 0
  · subst hz
    have z1 : (((0 : Nat) : Int) == 0) = true := rfl
    go_wp2
    refine bodyPost_ret (v := .tuple #[.agg #[.int .i64 0, .int .i64 0, .slice none 0 0], .int .i64 22]) (by simp [results, Try.results64, go_sem, q0, q1, q2, q3, q4, q5]) rfl ?_
    exact HFIN.out _ rfl
  · have hz2 : n2 = 0 := by omega
    subst hz2
    have z1 : ((n1 : Int) == 0) = false := by rw [beq_eq_false_iff_ne]; omega
    have z2 : (((0 : Nat) : Int) == 0) = true := rfl
    go_wp2
    refine bodyPost_ret (v := .tuple #[.agg #[.int .i64 0, .int .i64 0, .slice none 0 0], .int .i64 22]) (by simp [results, Try.results64, go_sem, q0, q1, q2, q3, q4, q5]) rfl ?_
    exact HFIN.out _ rfl
theorem Box.put2 {w : World} {g : Nat} {W H : Int} {v : Value} (h : Box w g W H v) (u : Value) : Box (w.setCell ⟨g, 2, none⟩ u) g W H u := by
  unfold Box at h ⊢
  simp [World.setCell, Array.getElem?_modify, h]
/-- The cells of the cloth of only some threads. -/
def onF (W : Nat) (g : Nat → Bool) (l1 l2 : List Nat) (k : Nat) : Bool := g (l2.getD (k / l1.length) 0 * W + l1.getD (k % l1.length) 0)
theorem lEn_lt {W : Nat} {l : List Nat} {i : Nat} (h : i < (lEn W l).length) : (lEn W l).getD i 0 < W := by
  have := mem_getD h
  unfold lEn at this
  rw [List.mem_filter] at this
  exact of_decide_eq_true this.2
theorem lPi_lt {W H : Nat} {l : List Nat} (hN : ∀ b, b ∈ l → b < W + H) {i : Nat} (h : i < (lPi W l).length) : (lPi W l).getD i 0 < H := by
  have := mem_getD h
  unfold lPi at this
  rw [List.mem_map] at this
  obtain ⟨b, hb, e⟩ := this
  rw [List.mem_filter] at hb
  have h1 := hN b hb.1
  have h2 : ¬ b < W := by simpa using hb.2
  unfold lPi
  omega
set_option maxHeartbeats 3200000 in
theorem ponly_n (W H : Nat) (A : Option Addr) (c : Nat) (g : Nat → Bool) (l : List Nat) (D : Option Addr) (d : Nat) (w : World) (hg : Holds w w.heap.size A (W * H) g) (hW0 : 1 ≤ W) (hW : W ≤ 64) (hH0 : 1 ≤ H) (hH : H ≤ 64) (hn : l.length ≤ 128) (hl : LL w D l) (hlN : ∀ b, b ∈ l → b < 128) (hlM : ∀ b, b ∈ l → b < W + H) (hs : setB (W + H) l.length (lf l) = true)
    (h1 : 0 < (lEn W l).length) (h2 : 0 < (lPi W l).length) :
    Calls Try.prog 64 #[.agg #[.int .i64 (W : Nat), .int .i64 (H : Nat), .slice A (W * H) c], .slice D l.length d] w (OkG w (lEn W l).length (lPi W l).length (onF W g (lEn W l) (lPi W l))) := by
  have HK := Lib.hid (fun u (hb : Below w.heap.size w u) => poff_t W H A c g D l.length d (lf l) u ((hg.below hb).more hb.size) hW0 hW hH0 hH (by omega) ((hl.below hb)) hs)
  have HLA := Lib.hid (fun u (hb : Below w.heap.size w u) => layer_n W H A (W * H) c l D d u (hl.below hb) hn hlN)
  have X0 := Lib.hid (Box.new w (W : Nat) (H : Nat) (.slice A (W * H) c))
  have LB0 := Lib.hid (show Below w.heap.size w (w.alloc (.cells #[.int .i64 (W : Nat), .int .i64 (H : Nat), (.slice A (W * H) c)] 24)) from (Below.refl _ _).alloc (Nat.le_refl _) _)
  have X1 := Lib.hid (X0.out.alloc (.cells #[.int .i64 0, .int .i64 0, .slice none 0 0] 24))
  have LB1 := Lib.hid (LB0.out.alloc LB0.out.size (.cells #[.int .i64 0, .int .i64 0, .slice none 0 0] 24))
  have R1 := Lib.hid (Box.new (w.alloc (.cells #[.int .i64 (W : Nat), .int .i64 (H : Nat), (.slice A (W * H) c)] 24)) 0 0 (.slice none 0 0))
  have hs1 : (w.alloc (.cells #[.int .i64 (W : Nat), .int .i64 (H : Nat), (.slice A (W * H) c)] 24)).heap.size = w.heap.size + 1 := by simp
  rw [hs1] at R1
  clear hs1 LB0 X0 hl hs
  have HG := Lib.hid hg
  have HPX := Lib.hid (fun i (h : i < (lEn W l).length) => lEn_lt h)
  have HPY := Lib.hid (fun i (h : i < (lPi W l).length) => lPi_lt hlM h)
  have hM : W * H ≤ 4096 := Nat.mul_le_mul hW hH
  have HIN := Lib.hid (fun x y (hx : x < W) (hy : y < H) => in_grid hx hy)
  have hl1 := lEn_len W l
  have hl2 := lPi_len W l
  clear hg hlM
  generalize W * H = M at *
  generalize l.length = n0 at *
  go_enter Try.func64, Try.ntmps64
  go_upto_region 1 with (fail)
  obtain ⟨rb, hrb⟩ : ∃ rb, w.heap.size + 1 = rb := ⟨_, rfl⟩
  have hrw : w.heap.size ≤ rb := by omega
  have hrw2 : w.heap.size ≠ rb := by omega
  rw [hrb] at R1 ⊢
  clear hrb
  generalize (w.alloc (.cells #[.int .i64 (W : Nat), .int .i64 (H : Nat), (.slice A M c)] 24)).alloc (.cells #[.int .i64 0, .int .i64 0, .slice none 0 0] 24) = w1 at *
  obtain ⟨q0, q1, q2, q3, q4, q5, q6⟩ := X1.out.all
  go_wp2_with fail
  clear q0 q1 q2 q3 q4 q5 q6
  with_reducible refine Calls.mono (HK.out _ LB1.out) ?_
  rintro e w2 ⟨rfl, hb⟩
  have LB2 := Lib.hid (LB1.out.trans (hb.mono LB1.out.size))
  have X2 := Lib.hid (X1.out.below hb X1.out.lt)
  have R2 := Lib.hid (R1.out.below hb R1.out.lt)
  clear hb LB1 X1 R1 HK
  obtain ⟨q0, q1, q2, q3, q4, q5, q6⟩ := X2.out.all
  go_wp2_with fail
  clear q0 q1 q2 q3 q4 q5 q6
  with_reducible refine Calls.mono (HLA.out _ LB2.out) ?_
  rintro e w3 ⟨D1, c1, D2, c2, rfl, ⟨hp1, ht1⟩, ⟨hp2, ht2⟩, hb⟩
  have LB3 := Lib.hid (LB2.out.trans (hb.mono LB2.out.size))
  have X3 := Lib.hid (X2.out.below hb X2.out.lt)
  have R3 := Lib.hid (R2.out.below hb R2.out.lt)
  clear hb LB2 X2 R2 HLA
  have HT1 := Lib.hid ht1
  have HT2 := Lib.hid ht2
  clear ht1 ht2 hp1 hp2
  generalize lEn W l = l1 at *
  generalize lPi W l = l2 at *
  obtain ⟨n1, hn1⟩ : ∃ n1, l1.length = n1 := ⟨_, rfl⟩
  obtain ⟨n2, hn2⟩ : ∃ n2, l2.length = n2 := ⟨_, rfl⟩
  have HN1 := Lib.hid hn1
  have HN2 := Lib.hid hn2
  rw [hn1] at h1 hl1 HPX ⊢
  rw [hn2] at h2 hl2 HPY ⊢
  clear hn1 hn2
  have z1 : ((n1 : Int) == 0) = false := by rw [beq_eq_false_iff_ne]; omega
  have z2 : ((n2 : Int) == 0) = false := by rw [beq_eq_false_iff_ne]; omega
  have hlk : (w3.alloc (.cells #[.slice D1 n1 c1, .slice D2 n2 c2] 79)).heap[w3.heap.size]? = some (.cells #[.slice D1 n1 c1, .slice D2 n2 c2] 79 (0, 0)) := World.alloc_heap_new _ _
  have R4 := Lib.hid (R3.out.alloc (.cells #[.slice D1 n1 c1, .slice D2 n2 c2] 79))
  have X4 := Lib.hid (X3.out.alloc (.cells #[.slice D1 n1 c1, .slice D2 n2 c2] 79))
  have LB4 := Lib.hid (LB3.out.alloc LB3.out.size (.cells #[.slice D1 n1 c1, .slice D2 n2 c2] 79))
  have HT14 := Lib.hid (HT1.out.below ((Below.refl w3.heap.size w3).alloc (Nat.le_refl _) (.cells #[.slice D1 n1 c1, .slice D2 n2 c2] 79)))
  have HT24 := Lib.hid (HT2.out.below ((Below.refl w3.heap.size w3).alloc (Nat.le_refl _) (.cells #[.slice D1 n1 c1, .slice D2 n2 c2] 79)))
  go_upto_region 5 with (fail)
  clear X3 LB3 R3 HT1 HT2
  generalize w3.heap.size = lk at *
  generalize w3.alloc (.cells #[.slice D1 n1 c1, .slice D2 n2 c2] 79) = w4 at *
  have HLK := Lib.hid hlk
  have k0 : w4.cell? ⟨lk, 0, none⟩ = some (.slice D1 n1 c1) := by rw [Lib.cell_of_heap hlk]; rfl
  have k1 : w4.cell? ⟨lk, 1, none⟩ = some (.slice D2 n2 c2) := by rw [Lib.cell_of_heap hlk]; rfl
  clear hlk
  go_upto_region 7 with (fail)
  have O0 := Lib.hid (Box.new w4 (n1 : Nat) (n2 : Nat) (.slice none 0 0))
  have B0 := Lib.hid ((Below.refl w4.heap.size w4).alloc (Nat.le_refl _) (.cells #[.int .i64 (n1 : Nat), .int .i64 (n2 : Nat), .slice none 0 0] 24))
  have V0 : Hid (OwB (w4.alloc (.cells #[.int .i64 (n1 : Nat), .int .i64 (n2 : Nat), .slice none 0 0] 24)) (w4.heap.size + 1) (.slice none 0 0) 0 (onF W g l1 l2)) := Lib.hid ⟨rfl, .inl ⟨rfl, rfl⟩⟩
  have hz0 : w4.heap.size + 1 ≤ (w4.alloc (.cells #[.int .i64 (n1 : Nat), .int .i64 (n2 : Nat), .slice none 0 0] 24)).heap.size := by simp
  have k3 : (w4.alloc (.cells #[.int .i64 (n1 : Nat), .int .i64 (n2 : Nat), .slice none 0 0] 24)).cell? ⟨lk, 1, none⟩ = some (.slice D2 n2 c2) := (B0.out.cell (p := ⟨lk, 1, none⟩) (by exact (Array.getElem?_eq_some_iff.1 HLK.out).1)).trans k1
  go_upto_region 8 with (fail)
  have hlo : lk < w4.heap.size := (Array.getElem?_eq_some_iff.1 HLK.out).1
  have hro : rb < w4.heap.size := R4.out.lt
  have hwo : w.heap.size < w4.heap.size := X4.out.lt
  obtain ⟨ob, hob⟩ : ∃ ob, w4.heap.size = ob := ⟨_, rfl⟩
  have HOB := Lib.hid hob
  rw [hob] at O0 B0 V0 hz0 hlo hro hwo ⊢
  clear hob k0 k1
  generalize w4.alloc (.cells #[.int .i64 (n1 : Nat), .int .i64 (n2 : Nat), .slice none 0 0] 24) = w5 at *
  go_wp2
  clear k3
  go_loopw [48] (fun i wr => ∃ (j : Nat) (v : Value), j ≤ n2 ∧ i = .int .i64 j ∧ Hid (Box wr ob (n1 : Nat) (n2 : Nat) v) ∧ Hid (OwB wr (ob + 1) v (j * n1) (onF W g l1 l2)) ∧ Hid (Below ob w4 wr) ∧ ob + 1 ≤ wr.heap.size) (fun i _ => n2 - (intOf i).toNat)
  case atStart => exact ⟨0, _, Nat.zero_le _, rfl, O0, by rw [Nat.zero_mul]; exact V0, B0, hz0⟩
  case round =>
    obtain ⟨j, v, hj, rfl, HO, HV, HB, hz⟩ := hrel
    clear O0 V0 B0 hz0
    have hBk := Lib.hid (fun (p : Addr) (hp : p.block < ob) => HB.out.cell hp)
    by_cases hlt : j < n2
    · have y1 : (j : Int) < (n2 : Int) := by omega
      have y2 : (0 : Int) ≤ (j : Int) := by omega
      have k0 : wr.cell? ⟨lk, 0, none⟩ = some (.slice D1 n1 c1) := by rw [Lib.cell_of_heap ((HB.out.block lk hlo).trans HLK.out)]; rfl
      obtain ⟨b2, o2, e2, hb2, hc2⟩ := HT24.out.ll (by rw [HN2.out]; omega)
      have a2 := (hBk.out ⟨b2, o2 + j, none⟩ (by rw [← HOB.out]; exact hb2)).trans (hc2 j (by rw [HN2.out]; exact hlt))
      have hyH := HPY.out j hlt
      rw [show lf l2 j = ((l2.getD j 0 : Nat) : Int) from rfl] at a2
      obtain ⟨y, hy⟩ : ∃ y, l2.getD j 0 = y := ⟨_, rfl⟩
      rw [hy] at a2 hyH
      have HYE := Lib.hid hy
      subst e2
      clear hy hb2 hc2
      go_wp2
      clear a2 k0
      go_loopw [55] (fun i wr => ∃ (i' : Nat) (v : Value), i' ≤ n1 ∧ i = .int .i64 i' ∧ Hid (Box wr ob (n1 : Nat) (n2 : Nat) v) ∧ Hid (OwB wr (ob + 1) v (j * n1 + i') (onF W g l1 l2)) ∧ Hid (Below ob w4 wr) ∧ ob + 1 ≤ wr.heap.size) (fun i _ => n1 - (intOf i).toNat)
      case atStart => exact ⟨0, _, Nat.zero_le _, rfl, HO, by rw [Nat.add_zero]; exact HV, HB, hz⟩
      case round =>
        obtain ⟨i, v2, hi, rfl, HO2, HV2, HB2, hz2⟩ := hrel
        clear HO HV HB hz hBk
        by_cases hli : i < n1
        · have y3 : (i : Int) < (n1 : Int) := by omega
          have y4 : (0 : Int) ≤ (i : Int) := by omega
          obtain ⟨b1, o1, e1, hb1, hc1⟩ := HT14.out.ll (by rw [HN1.out]; omega)
          have a1 := (HB2.out.cell (p := ⟨b1, o1 + i, none⟩) (by rw [← HOB.out]; exact hb1)).trans (hc1 i (by rw [HN1.out]; exact hli))
          have hxW := HPX.out i hli
          rw [show lf l1 i = ((l1.getD i 0 : Nat) : Int) from rfl] at a1
          obtain ⟨x, hx⟩ : ∃ x, l1.getD i 0 = x := ⟨_, rfl⟩
          rw [hx] at a1 hxW
          have HXE := Lib.hid hx
          have hpM := HIN.out x y hxW hyH
          have HFP := Lib.hid (show onF W g l1 l2 (j * n1 + i) = g (y * W + x) by
            unfold onF
            rw [HN1.out, (co j hli).1, (co j hli).2, HYE.out, HXE.out])
          have w1e : IntKind.i64.wrap ((y : Int) * (W : Int)) = (y : Int) * (W : Int) := IntWalk.i64_in _ (by
            have h0 : y * W ≤ 64 * 64 := Nat.mul_le_mul (by omega) hW
            have h1 := Int.ofNat_le.2 h0
            rw [Int.natCast_mul] at h1
            have h2 : (0 : Int) ≤ (y : Int) * (W : Int) := by have := Int.natCast_nonneg (y * W); rwa [Int.natCast_mul] at this
            omega)
          obtain ⟨p, hp⟩ : ∃ p, y * W + x = p := ⟨_, rfl⟩
          have w2e : IntKind.i64.wrap ((y : Int) * (W : Int) + (x : Int)) = (p : Int) := by
            rw [← hp, Int.natCast_add, Int.natCast_mul]
            exact IntWalk.i64_in _ (by
              have h1 := Int.ofNat_lt.2 hpM
              rw [Int.natCast_add, Int.natCast_mul] at h1
              have h2 : (0 : Int) ≤ (y : Int) * (W : Int) := by have := Int.natCast_nonneg (y * W); rwa [Int.natCast_mul] at this
              omega)
          rw [hp] at hpM HFP
          have y5 : (p : Int) < (M : Int) := by omega
          have y6 : (0 : Int) ≤ (p : Int) := by omega
          obtain ⟨bg, og, e3, hbg, hcg⟩ := HG.out (by omega)
          have BW2 := Lib.hid (LB4.out.trans (HB2.out.mono (by omega)))
          have a3 := (BW2.out.cell (p := ⟨bg, og + p, none⟩) (by exact hbg)).trans (hcg p hpM)
          obtain ⟨bv, hbv⟩ : ∃ bv, g p = bv := ⟨_, rfl⟩
          rw [hbv] at a3 HFP
          have X6 := Lib.hid (X4.out.below HB2.out (by omega))
          obtain ⟨q0, q1, q2, q3, q4, q5, q6⟩ := X6.out.all
          obtain ⟨r0, r1, r2, r3, r4, r5, r6⟩ := HO2.out.all
          obtain ⟨A2, d2, rfl⟩ := orow_shape HV2.out
          subst e1 e3
          have hnn : j * n1 + i ≤ 128 * 128 := by have := Nat.mul_le_mul (show j ≤ 127 by omega) (show n1 ≤ 128 by omega); omega
          have HO1 := Lib.hid ((HV2.out.alloc (.cells #[.bool bv] 4)).drew)
          have HC1 : Hid (((wr.alloc (.cells #[.bool bv] 4)).drew).cell? ⟨wr.heap.size, 0, none⟩ = some (.bool bv)) := Lib.hid (by simp)
          have hbase2 : ob + 1 ≤ ((wr.alloc (.cells #[.bool bv] 4)).drew).heap.size := by simp; omega
          have HBN0 := Lib.hid (((Below.refl (ob + 1) wr).alloc hz2 (.cells #[.bool bv] 4)).drew)
          have s1 : b1 < wr.heap.size := by have := HB2.out.size; have := HOB.out; omega
          have s2 : bg < wr.heap.size := by have := BW2.out.size; omega
          have s3 : ob < wr.heap.size := by omega
          have s4 : w.heap.size < wr.heap.size := by omega
          clear hb1 hc1 hbg hcg hx hp hbv
          obtain ⟨nn, hnne⟩ : ∃ nn, j * n1 + i = nn := ⟨_, rfl⟩
          have HNN := Lib.hid hnne
          rw [hnne] at HO1 HFP hnn HV2 r2
          clear hnne
          go_wp2
          go_region_law (first
            | (refine step_appb rfl (.tmp 60) (.tmp 71) rfl (ob + 1) rfl HO1.out bv wr.heap.size rfl HC1.out HFP.out (by omega) hbase2 ?_
               intro v' wn hown' hbn'
               obtain ⟨A'', c'', rfl⟩ := orow_shape hown'
               have HON := Lib.hid hown'
               have HBN := Lib.hid (HBN0.out.trans hbn')
               have HXN := Lib.hid (HO2.out.below HBN.out (by omega))
               obtain ⟨g0, g1, g2, g3, g4, g5, g6⟩ := HXN.out.all
               clear hown' hbn'))
          all_goals
            have O6 := Lib.hid (HXN.out.put2 (.slice A'' (nn + 1) c''))
            have V6 := Lib.hid (HON.out.far (p := ⟨ob, 2, none⟩) (by show ob < ob + 1; omega) (.slice A'' (nn + 1) c''))
            have B6 := Lib.hid ((HB2.out.trans (HBN.out.mono (by omega))).setCell (p := ⟨ob, 2, none⟩) (Nat.le_refl _) (.slice A'' (nn + 1) c''))
            have Z6 := Lib.hid (show ob + 1 ≤ (wn.setCell ⟨ob, 2, none⟩ (.slice A'' (nn + 1) c'')).heap.size by have := HBN.out.size; simp; omega)
            clear q0 q1 q2 q3 q4 q5 q6 r0 r1 r2 r3 r4 r5 r6 a1 a3 s1 s2 s3 s4 w1e w2e y5 y6 hbase2 HBN0 HC1 HO1 HXN HON HBN X6
            go_wp2
            go_roundw
            case rel => exact ⟨i + 1, _, by omega, by go_num, O6, by rw [← Nat.add_assoc, HNN.out]; exact V6, B6, Z6.out⟩
            case measure => simp [intOf]; omega
        · have e : i = n1 := by omega
          have y3 : ¬ (i : Int) < (n1 : Int) := by omega
          have HV3 : Hid (OwB wr (ob + 1) v2 ((j + 1) * n1) (onF W g l1 l2)) := Lib.hid (by rw [Nat.add_mul, Nat.one_mul]; have h := HV2.out; rwa [e] at h)
          clear e HV2
          go_wp2
          go_roundw
          case rel => exact ⟨j + 1, _, by omega, by go_num, HO2, HV3, HB2, hz2⟩
          case measure => simp [intOf]; omega
    · have e : j = n2 := by omega
      have y1 : ¬ (j : Int) < (n2 : Int) := by omega
      have R6 := Lib.hid (R4.out.below HB.out (by omega))
      have L6 := Lib.hid (((LB4.out.trans (HB.out.mono (by omega))).setCell (p := ⟨rb, 0, none⟩) hrw (.int .i64 (n1 : Nat))).setCell (p := ⟨rb, 1, none⟩) hrw (.int .i64 (n2 : Nat)))
      obtain ⟨A2, d2, rfl⟩ := orow_shape HV.out
      have hcomm : j * n1 = n1 * n2 := by rw [e, Nat.mul_comm]
      rw [hcomm] at HV HO
      have L7 := Lib.hid (L6.out.setCell (p := ⟨rb, 2, none⟩) hrw (.slice A2 (n1 * n2) d2))
      have V7 := Lib.hid ((((HV.out.far (p := ⟨rb, 0, none⟩) (by show rb < ob + 1; omega) (.int .i64 (n1 : Nat))).far (p := ⟨rb, 1, none⟩) (by show rb < ob + 1; omega) (.int .i64 (n2 : Nat))).far (p := ⟨rb, 2, none⟩) (by show rb < ob + 1; omega) (.slice A2 (n1 * n2) d2)).out)
      obtain ⟨r0, r1, r2, r3, r4, r5, r6⟩ := HO.out.all
      obtain ⟨q0, q1, q2, q3, q4, q5, q6⟩ := R6.out.all
      have hFN := HN1.out
      clear e L6 HV hcomm
      obtain ⟨nn, hnne⟩ : ∃ nn, n1 * n2 = nn := ⟨_, rfl⟩
      have HNN := Lib.hid hnne
      rw [hnne] at r2 V7 L7
      clear hnne
      go_wp2
      refine bodyPost_ret (v := .tuple #[.agg #[.int .i64 (n1 : Nat), .int .i64 (n2 : Nat), .slice A2 nn d2], .int .i64 0]) (by simp [results, Try.results64, go_sem, q0, q1, q2, q3, q4, q5, r0, r1, r2]) rfl ?_
      obtain ⟨A3, c3, e3, hcp3, hh3⟩ := V7.out
      cases e3
      exact ⟨A2, d2, by simp only [HN1.out, HN2.out, HNN.out], by simp only [HN1.out, HN2.out, HNN.out]; exact hcp3, by simp only [HN1.out, HN2.out, HNN.out]; exact hh3, L7.out⟩
end Go.Proofs.Ytgmcbdnfgdmmaaa
