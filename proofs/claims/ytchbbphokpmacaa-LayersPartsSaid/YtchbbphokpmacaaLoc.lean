/- The reference of Only. -/
import Derived.Test.YtchbbphokpmacaaLob
import Derived.Deep.RegionHeld3
import Derived.Deep.DeepCutAuto
namespace Go.Proofs.Ytchbbphokpmacaa
open Go.RowKit
set_option maxRecDepth 100000
set_option linter.unusedVariables false
set_option linter.unusedSimpArgs false

theorem But.trans {k : Nat} {w w' w'' : World} (h1 : But k w w') (h2 : But k w' w'') : But k w w'' :=
  ⟨h2.os.trans h1.os, h2.tape.trans h1.tape, h2.output.trans h1.output, Nat.le_trans h1.size h2.size, fun b hb hne => (h2.block b (Nat.lt_of_lt_of_le hb h1.size) hne).trans (h1.block b hb hne)⟩
theorem But.of {k : Nat} {w w' : World} (hb : Below w.heap.size w w') : But k w w' := ⟨hb.os, hb.tape, hb.output, hb.size, fun b h _ => hb.block b h⟩
theorem But.cell {k : Nat} {w w' : World} {b o : Nat} (hb : But k w w') (h1 : b < w.heap.size) (h2 : b ≠ k) : w'.cell? ⟨b, o, none⟩ = w.cell? ⟨b, o, none⟩ := World.cell?_of_block (w := w) (hb.block b h1 h2)
set_option maxHeartbeats 1600000 in
theorem ronly_err {W H : Int} {A : Option Addr} {N c : Nat} (D : Option Addr) (n d : Nat) (z : Int) (hN : N ≤ 4200) (hz : chk W H N = z) (hne : (z != 0) = true) (w : World) :
    Calls Try.prog 61 #[.agg #[.int .i64 W, .int .i64 H, .slice A N c], .slice D n d] w (ErrGrid w z) := by
  have HK := Lib.hid (fun u => rchk_err (A := A) (c := c) hN hz u)
  have X0 := Lib.hid (Box.new w W H (.slice A N c))
  have LB0 := Lib.hid (show Below w.heap.size w (w.alloc (.cells #[.int .i64 W, .int .i64 H, (.slice A N c)] 24)) from (Below.refl _ _).alloc (Nat.le_refl _) _)
  have X1 := Lib.hid (X0.out.alloc (.cells #[.int .i64 0, .int .i64 0, .slice none 0 0] 24))
  have LB1 := Lib.hid (LB0.out.alloc LB0.out.size (.cells #[.int .i64 0, .int .i64 0, .slice none 0 0] 24))
  have R1 := Lib.hid (Box.new (w.alloc (.cells #[.int .i64 W, .int .i64 H, (.slice A N c)] 24)) 0 0 (.slice none 0 0))
  have hs1 : (w.alloc (.cells #[.int .i64 W, .int .i64 H, (.slice A N c)] 24)).heap.size = w.heap.size + 1 := by simp
  rw [hs1] at R1
  clear hs1 LB0 X0
  clear hz
  go_enter Try.func61, Try.ntmps61
  go_upto_region 1 with (fail)
  obtain ⟨rb, hrb⟩ : ∃ rb, w.heap.size + 1 = rb := ⟨_, rfl⟩
  have hrw : w.heap.size ≤ rb := by omega
  have hrw2 : w.heap.size < rb := by omega
  rw [hrb] at R1 ⊢
  clear hrb
  generalize (w.alloc (.cells #[.int .i64 W, .int .i64 H, (.slice A N c)] 24)).alloc (.cells #[.int .i64 0, .int .i64 0, .slice none 0 0] 24) = w1 at *
  obtain ⟨q0, q1, q2, q3, q4, q5, q6⟩ := X1.out.all
  go_wp2_with fail
  clear q0 q1 q2 q3 q4 q5 q6
  with_reducible refine Calls.mono (HK.out _) ?_
  rintro e w2 ⟨rfl, hb⟩
  have LB2 := Lib.hid (LB1.out.trans (hb.mono LB1.out.size))
  have X2 := Lib.hid (X1.out.below hb X1.out.lt)
  have R2 := Lib.hid (R1.out.below hb R1.out.lt)
  clear hb LB1 X1 R1 
  obtain ⟨q0, q1, q2, q3, q4, q5, q6⟩ := X2.out.all
  go_wp2_with fail
  clear q0 q1 q2 q3 q4 q5 q6
  with_reducible refine Calls.mono (HK.out _) ?_
  rintro e w3 ⟨rfl, hb⟩
  have LB3 := Lib.hid (LB2.out.trans (hb.mono LB2.out.size))
  have X3 := Lib.hid (X2.out.below hb X2.out.lt)
  have R3 := Lib.hid (R2.out.below hb R2.out.lt)
  clear hb LB2 X2 R2 
  obtain ⟨q0, q1, q2, q3, q4, q5, q6⟩ := R3.out.all
  go_wp2
  refine bodyPost_ret (v := .tuple #[.agg #[.int .i64 0, .int .i64 0, .slice none 0 0], .int .i64 z]) (by simp [results, Try.results61, go_sem, q0, q1, q2, q3, q4, q5]) rfl ?_
  exact ⟨rfl, ((LB3.out.setCell (p := ⟨rb, 0, none⟩) hrw _).setCell (p := ⟨rb, 1, none⟩) hrw _).setCell (p := ⟨rb, 2, none⟩) hrw _⟩
set_option maxHeartbeats 1600000 in
theorem ronly_no (W H : Nat) (A : Option Addr) (c : Nat) (D : Option Addr) (n d : Nat) (f : Nat → Int) (w : World) (hW0 : 1 ≤ W) (hW : W ≤ 64) (hH0 : 1 ≤ H) (hH : H ≤ 64) (hn : n ≤ 30000) (hr : L2.Holds w w.heap.size D n f) (hs : setB (W + H) n f = false) :
    Calls Try.prog 61 #[.agg #[.int .i64 (W : Nat), .int .i64 (H : Nat), .slice A (W * H) c], .slice D n d] w (ErrGrid w 2) := by
  have HK := Lib.hid (fun u => rchk_valid A c u hW0 hW hH0 hH)
  have HS := Lib.hid (fun u (hb : Below w.heap.size w u) => (show Calls Try.prog 65 #[.agg #[.int .i64 (W : Nat), .int .i64 (H : Nat), .slice A (W * H) c], .slice D n d] u fun e w' => e = .returned (.bool false) ∧ Below u.heap.size u w' from by rw [← hs]; exact rset_any W H A (W * H) c D n d f u hW hH hn ((hr.below hb).more hb.size)))
  have X0 := Lib.hid (Box.new w (W : Nat) (H : Nat) (.slice A (W * H) c))
  have LB0 := Lib.hid (show Below w.heap.size w (w.alloc (.cells #[.int .i64 (W : Nat), .int .i64 (H : Nat), (.slice A (W * H) c)] 24)) from (Below.refl _ _).alloc (Nat.le_refl _) _)
  have X1 := Lib.hid (X0.out.alloc (.cells #[.int .i64 0, .int .i64 0, .slice none 0 0] 24))
  have LB1 := Lib.hid (LB0.out.alloc LB0.out.size (.cells #[.int .i64 0, .int .i64 0, .slice none 0 0] 24))
  have R1 := Lib.hid (Box.new (w.alloc (.cells #[.int .i64 (W : Nat), .int .i64 (H : Nat), (.slice A (W * H) c)] 24)) 0 0 (.slice none 0 0))
  have hs1 : (w.alloc (.cells #[.int .i64 (W : Nat), .int .i64 (H : Nat), (.slice A (W * H) c)] 24)).heap.size = w.heap.size + 1 := by simp
  rw [hs1] at R1
  clear hs1 LB0 X0
  clear hr hs
  generalize W * H = M at *
  go_enter Try.func61, Try.ntmps61
  go_upto_region 1 with (fail)
  obtain ⟨rb, hrb⟩ : ∃ rb, w.heap.size + 1 = rb := ⟨_, rfl⟩
  have hrw : w.heap.size ≤ rb := by omega
  have hrw2 : w.heap.size < rb := by omega
  rw [hrb] at R1 ⊢
  clear hrb
  generalize (w.alloc (.cells #[.int .i64 (W : Nat), .int .i64 (H : Nat), (.slice A M c)] 24)).alloc (.cells #[.int .i64 0, .int .i64 0, .slice none 0 0] 24) = w1 at *
  obtain ⟨q0, q1, q2, q3, q4, q5, q6⟩ := X1.out.all
  go_wp2_with fail
  clear q0 q1 q2 q3 q4 q5 q6
  with_reducible refine Calls.mono (HK.out _) ?_
  rintro e w2 ⟨rfl, hb⟩
  have LB2 := Lib.hid (LB1.out.trans (hb.mono LB1.out.size))
  have X2 := Lib.hid (X1.out.below hb X1.out.lt)
  have R2 := Lib.hid (R1.out.below hb R1.out.lt)
  clear hb LB1 X1 R1 
  obtain ⟨q0, q1, q2, q3, q4, q5, q6⟩ := X2.out.all
  go_wp2_with fail
  clear q0 q1 q2 q3 q4 q5 q6
  with_reducible refine Calls.mono (HS.out _ LB2.out) ?_
  rintro e w3 ⟨rfl, hb⟩
  have LB3 := Lib.hid (LB2.out.trans (hb.mono LB2.out.size))
  have X3 := Lib.hid (X2.out.below hb X2.out.lt)
  have R3 := Lib.hid (R2.out.below hb R2.out.lt)
  clear hb LB2 X2 R2 
  obtain ⟨q0, q1, q2, q3, q4, q5, q6⟩ := R3.out.all
  go_wp2
  refine bodyPost_ret (v := .tuple #[.agg #[.int .i64 0, .int .i64 0, .slice none 0 0], .int .i64 2]) (by simp [results, Try.results61, go_sem, q0, q1, q2, q3, q4, q5]) rfl ?_
  exact ⟨rfl, ((LB3.out.setCell (p := ⟨rb, 0, none⟩) hrw _).setCell (p := ⟨rb, 1, none⟩) hrw _).setCell (p := ⟨rb, 2, none⟩) hrw _⟩
set_option maxHeartbeats 1600000 in
theorem ronly_short (W H : Nat) (A : Option Addr) (c : Nat) (g : Nat → Bool) (l : List Nat) (D : Option Addr) (d : Nat) (w : World) (hg : Holds w w.heap.size A (W * H) g) (hW0 : 1 ≤ W) (hW : W ≤ 64) (hH0 : 1 ≤ H) (hH : H ≤ 64) (hn : l.length ≤ 128) (hl : LL w D l) (hlN : ∀ b, b ∈ l → b < 128) (hs : setB (W + H) l.length (lf l) = true)
    (h0 : (lEn W l).length = 0 ∨ (lPi W l).length = 0) :
    Calls Try.prog 61 #[.agg #[.int .i64 (W : Nat), .int .i64 (H : Nat), .slice A (W * H) c], .slice D l.length d] w (ErrGrid w 22) := by
  have HK := Lib.hid (fun u => rchk_valid A c u hW0 hW hH0 hH)
  have HS := Lib.hid (fun u (hb : Below w.heap.size w u) => (show Calls Try.prog 65 #[.agg #[.int .i64 (W : Nat), .int .i64 (H : Nat), .slice A (W * H) c], .slice D l.length d] u fun e w' => e = .returned (.bool true) ∧ Below u.heap.size u w' from by rw [← hs]; exact rset_any W H A (W * H) c D l.length d (lf l) u hW hH (by omega) (hl.below hb)))
  have HD := Lib.hid (fun u (hb : Below w.heap.size w u) => div_n W H A (W * H) c l D d u (hl.below hb) hn hlN)
  have X0 := Lib.hid (Box.new w (W : Nat) (H : Nat) (.slice A (W * H) c))
  have LB0 := Lib.hid (show Below w.heap.size w (w.alloc (.cells #[.int .i64 (W : Nat), .int .i64 (H : Nat), (.slice A (W * H) c)] 24)) from (Below.refl _ _).alloc (Nat.le_refl _) _)
  have X1 := Lib.hid (X0.out.alloc (.cells #[.int .i64 0, .int .i64 0, .slice none 0 0] 24))
  have LB1 := Lib.hid (LB0.out.alloc LB0.out.size (.cells #[.int .i64 0, .int .i64 0, .slice none 0 0] 24))
  have R1 := Lib.hid (Box.new (w.alloc (.cells #[.int .i64 (W : Nat), .int .i64 (H : Nat), (.slice A (W * H) c)] 24)) 0 0 (.slice none 0 0))
  have hs1 : (w.alloc (.cells #[.int .i64 (W : Nat), .int .i64 (H : Nat), (.slice A (W * H) c)] 24)).heap.size = w.heap.size + 1 := by simp
  rw [hs1] at R1
  clear hs1 LB0 X0
  clear hl hs hg
  generalize W * H = M at *
  generalize l.length = n0 at *
  go_enter Try.func61, Try.ntmps61
  go_upto_region 1 with (fail)
  obtain ⟨rb, hrb⟩ : ∃ rb, w.heap.size + 1 = rb := ⟨_, rfl⟩
  have hrw : w.heap.size ≤ rb := by omega
  have hrw2 : w.heap.size < rb := by omega
  rw [hrb] at R1 ⊢
  clear hrb
  generalize (w.alloc (.cells #[.int .i64 (W : Nat), .int .i64 (H : Nat), (.slice A M c)] 24)).alloc (.cells #[.int .i64 0, .int .i64 0, .slice none 0 0] 24) = w1 at *
  obtain ⟨q0, q1, q2, q3, q4, q5, q6⟩ := X1.out.all
  go_wp2_with fail
  clear q0 q1 q2 q3 q4 q5 q6
  with_reducible refine Calls.mono (HK.out _) ?_
  rintro e w2 ⟨rfl, hb⟩
  have LB2 := Lib.hid (LB1.out.trans (hb.mono LB1.out.size))
  have X2 := Lib.hid (X1.out.below hb X1.out.lt)
  have R2 := Lib.hid (R1.out.below hb R1.out.lt)
  clear hb LB1 X1 R1 
  obtain ⟨q0, q1, q2, q3, q4, q5, q6⟩ := X2.out.all
  go_wp2_with fail
  clear q0 q1 q2 q3 q4 q5 q6
  with_reducible refine Calls.mono (HS.out _ LB2.out) ?_
  rintro e w3 ⟨rfl, hb⟩
  have LB3 := Lib.hid (LB2.out.trans (hb.mono LB2.out.size))
  have X3 := Lib.hid (X2.out.below hb X2.out.lt)
  have R3 := Lib.hid (R2.out.below hb R2.out.lt)
  clear hb LB2 X2 R2 
  obtain ⟨q0, q1, q2, q3, q4, q5, q6⟩ := X3.out.all
  go_wp2_with fail
  clear q0 q1 q2 q3 q4 q5 q6
  with_reducible refine Calls.mono (HD.out _ LB3.out) ?_
  rintro e w4 ⟨D1, c1, D2, c2, rfl, ⟨hp1, ht1⟩, ⟨hp2, ht2⟩, hb⟩
  have LB4 := Lib.hid (LB3.out.trans (hb.mono LB3.out.size))
  have X4 := Lib.hid (X3.out.below hb X3.out.lt)
  have R4 := Lib.hid (R3.out.below hb R3.out.lt)
  clear hb LB3 X3 R3 
  have hlk : (w4.alloc (.cells #[.slice D1 (lEn W l).length c1, .slice D2 (lPi W l).length c2] 92)).heap[w4.heap.size]? = some (.cells #[.slice D1 (lEn W l).length c1, .slice D2 (lPi W l).length c2] 92 (0, 0)) := World.alloc_heap_new _ _
  have R5 := Lib.hid (R4.out.alloc (.cells #[.slice D1 (lEn W l).length c1, .slice D2 (lPi W l).length c2] 92))
  have LB5 := Lib.hid (LB4.out.alloc LB4.out.size (.cells #[.slice D1 (lEn W l).length c1, .slice D2 (lPi W l).length c2] 92))
  clear hp1 ht1 hp2 ht2 X4 LB4 R4 HK HS HD
  generalize (lEn W l).length = n1 at *
  generalize (lPi W l).length = n2 at *
  go_upto_region 6 with (fail)
  generalize w4.heap.size = lk at *
  generalize w4.alloc (.cells #[.slice D1 n1 c1, .slice D2 n2 c2] 92) = w5 at *
  have k0 : w5.cell? ⟨lk, 0, none⟩ = some (.slice D1 n1 c1) := by rw [Lib.cell_of_heap hlk]; rfl
  have k1 : w5.cell? ⟨lk, 1, none⟩ = some (.slice D2 n2 c2) := by rw [Lib.cell_of_heap hlk]; rfl
  clear hlk
  by_cases hz : n1 = 0
  · subst hz
    have z1 : (((0 : Nat) : Int) == 0) = true := rfl
    obtain ⟨q0, q1, q2, q3, q4, q5, q6⟩ := R5.out.all
    go_wp2
    refine bodyPost_ret (v := .tuple #[.agg #[.int .i64 0, .int .i64 0, .slice none 0 0], .int .i64 22]) (by simp [results, Try.results61, go_sem, q0, q1, q2, q3, q4, q5]) rfl ?_
    exact ⟨rfl, ((LB5.out.setCell (p := ⟨rb, 0, none⟩) hrw _).setCell (p := ⟨rb, 1, none⟩) hrw _).setCell (p := ⟨rb, 2, none⟩) hrw _⟩
  · have hz2 : n2 = 0 := by omega
    subst hz2
    have z1 : ((n1 : Int) == 0) = false := by rw [beq_eq_false_iff_ne]; omega
    have z2 : (((0 : Nat) : Int) == 0) = true := rfl
    obtain ⟨q0, q1, q2, q3, q4, q5, q6⟩ := R5.out.all
    go_wp2
    refine bodyPost_ret (v := .tuple #[.agg #[.int .i64 0, .int .i64 0, .slice none 0 0], .int .i64 22]) (by simp [results, Try.results61, go_sem, q0, q1, q2, q3, q4, q5]) rfl ?_
    exact ⟨rfl, ((LB5.out.setCell (p := ⟨rb, 0, none⟩) hrw _).setCell (p := ⟨rb, 1, none⟩) hrw _).setCell (p := ⟨rb, 2, none⟩) hrw _⟩
set_option maxHeartbeats 6400000 in
theorem ronly_n (W H : Nat) (A : Option Addr) (c : Nat) (g : Nat → Bool) (l : List Nat) (D : Option Addr) (d : Nat) (w : World) (hg : Holds w w.heap.size A (W * H) g) (hW0 : 1 ≤ W) (hW : W ≤ 64) (hH0 : 1 ≤ H) (hH : H ≤ 64) (hn : l.length ≤ 128) (hl : LL w D l) (hlN : ∀ b, b ∈ l → b < 128) (hlM : ∀ b, b ∈ l → b < W + H) (hs : setB (W + H) l.length (lf l) = true)
    (h1 : 0 < (lEn W l).length) (h2 : 0 < (lPi W l).length) (hn64 : l.length ≤ 64) :
    Calls Try.prog 61 #[.agg #[.int .i64 (W : Nat), .int .i64 (H : Nat), .slice A (W * H) c], .slice D l.length d] w (OkG w (lEn W l).length (lPi W l).length (onF W g (lEn W l) (lPi W l))) := by
  have HK := Lib.hid (fun u => rchk_valid A c u hW0 hW hH0 hH)
  have HS := Lib.hid (fun u (hb : Below w.heap.size w u) => (show Calls Try.prog 65 #[.agg #[.int .i64 (W : Nat), .int .i64 (H : Nat), .slice A (W * H) c], .slice D l.length d] u fun e w' => e = .returned (.bool true) ∧ Below u.heap.size u w' from by rw [← hs]; exact rset_any W H A (W * H) c D l.length d (lf l) u hW hH (by omega) (hl.below hb)))
  have HD := Lib.hid (fun u (hb : Below w.heap.size w u) => div_n W H A (W * H) c l D d u (hl.below hb) hn hlN)
  have HG := Lib.hid hg
  have HPX := Lib.hid (fun i (h : i < (lEn W l).length) => lEn_lt h)
  have HPY := Lib.hid (fun i (h : i < (lPi W l).length) => lPi_lt hlM h)
  have hl1 := lEn_len W l
  have hl2 := lPi_len W l
  have X0 := Lib.hid (Box.new w (W : Nat) (H : Nat) (.slice A (W * H) c))
  have LB0 := Lib.hid (show Below w.heap.size w (w.alloc (.cells #[.int .i64 (W : Nat), .int .i64 (H : Nat), (.slice A (W * H) c)] 24)) from (Below.refl _ _).alloc (Nat.le_refl _) _)
  have X1 := Lib.hid (X0.out.alloc (.cells #[.int .i64 0, .int .i64 0, .slice none 0 0] 24))
  have LB1 := Lib.hid (LB0.out.alloc LB0.out.size (.cells #[.int .i64 0, .int .i64 0, .slice none 0 0] 24))
  have R1 := Lib.hid (Box.new (w.alloc (.cells #[.int .i64 (W : Nat), .int .i64 (H : Nat), (.slice A (W * H) c)] 24)) 0 0 (.slice none 0 0))
  have hs1 : (w.alloc (.cells #[.int .i64 (W : Nat), .int .i64 (H : Nat), (.slice A (W * H) c)] 24)).heap.size = w.heap.size + 1 := by simp
  rw [hs1] at R1
  clear hs1 LB0 X0
  clear hl hs hg hlM hlN
  generalize l.length = n0 at *
  go_enter Try.func61, Try.ntmps61
  go_upto_region 1 with (fail)
  obtain ⟨rb, hrb⟩ : ∃ rb, w.heap.size + 1 = rb := ⟨_, rfl⟩
  have hrw : w.heap.size ≤ rb := by omega
  have hrw2 : w.heap.size < rb := by omega
  rw [hrb] at R1 ⊢
  clear hrb
  generalize (w.alloc (.cells #[.int .i64 (W : Nat), .int .i64 (H : Nat), (.slice A (W * H) c)] 24)).alloc (.cells #[.int .i64 0, .int .i64 0, .slice none 0 0] 24) = w1 at *
  obtain ⟨q0, q1, q2, q3, q4, q5, q6⟩ := X1.out.all
  go_wp2_with fail
  clear q0 q1 q2 q3 q4 q5 q6
  with_reducible refine Calls.mono (HK.out _) ?_
  rintro e w2 ⟨rfl, hb⟩
  have LB2 := Lib.hid (LB1.out.trans (hb.mono LB1.out.size))
  have X2 := Lib.hid (X1.out.below hb X1.out.lt)
  have R2 := Lib.hid (R1.out.below hb R1.out.lt)
  clear hb LB1 X1 R1 
  obtain ⟨q0, q1, q2, q3, q4, q5, q6⟩ := X2.out.all
  go_wp2_with fail
  clear q0 q1 q2 q3 q4 q5 q6
  with_reducible refine Calls.mono (HS.out _ LB2.out) ?_
  rintro e w3 ⟨rfl, hb⟩
  have LB3 := Lib.hid (LB2.out.trans (hb.mono LB2.out.size))
  have X3 := Lib.hid (X2.out.below hb X2.out.lt)
  have R3 := Lib.hid (R2.out.below hb R2.out.lt)
  clear hb LB2 X2 R2 
  obtain ⟨q0, q1, q2, q3, q4, q5, q6⟩ := X3.out.all
  go_wp2_with fail
  clear q0 q1 q2 q3 q4 q5 q6
  with_reducible refine Calls.mono (HD.out _ LB3.out) ?_
  rintro e w4 ⟨D1, c1, D2, c2, rfl, ⟨hp1, ht1⟩, ⟨hp2, ht2⟩, hb⟩
  have LB4 := Lib.hid (LB3.out.trans (hb.mono LB3.out.size))
  have X4 := Lib.hid (X3.out.below hb X3.out.lt)
  have R4 := Lib.hid (R3.out.below hb R3.out.lt)
  clear hb LB3 X3 R3 
  have HT1 := Lib.hid ht1
  have HT2 := Lib.hid ht2
  clear ht1 ht2 hp1 hp2 HK HS HD
  generalize lEn W l = l1 at *
  generalize lPi W l = l2 at *
  obtain ⟨n1, hn1⟩ : ∃ n1, l1.length = n1 := ⟨_, rfl⟩
  obtain ⟨n2, hn2⟩ : ∃ n2, l2.length = n2 := ⟨_, rfl⟩
  have HN1 := Lib.hid hn1
  have HN2 := Lib.hid hn2
  rw [hn1] at h1 hl1 HPX ⊢
  rw [hn2] at h2 hl2 HPY ⊢
  clear hn1 hn2
  have z1 : ((n1 : Int) == 0) = false := by rw [beq_eq_false_iff_ne]; omega
  have z2 : ((n2 : Int) == 0) = false := by rw [beq_eq_false_iff_ne]; omega
  have hlk : (w4.alloc (.cells #[.slice D1 n1 c1, .slice D2 n2 c2] 92)).heap[w4.heap.size]? = some (.cells #[.slice D1 n1 c1, .slice D2 n2 c2] 92 (0, 0)) := World.alloc_heap_new _ _
  have R5 := Lib.hid (R4.out.alloc (.cells #[.slice D1 n1 c1, .slice D2 n2 c2] 92))
  have X5 := Lib.hid (X4.out.alloc (.cells #[.slice D1 n1 c1, .slice D2 n2 c2] 92))
  have LB5 := Lib.hid (LB4.out.alloc LB4.out.size (.cells #[.slice D1 n1 c1, .slice D2 n2 c2] 92))
  have HT15 := Lib.hid (HT1.out.below (bel_alloc w4 (.cells #[.slice D1 n1 c1, .slice D2 n2 c2] 92)))
  have HT25 := Lib.hid (HT2.out.below (bel_alloc w4 (.cells #[.slice D1 n1 c1, .slice D2 n2 c2] 92)))
  go_upto_region 6 with (fail)
  clear X4 LB4 R4 HT1 HT2
  generalize w4.heap.size = lk at *
  generalize w4.alloc (.cells #[.slice D1 n1 c1, .slice D2 n2 c2] 92) = w5 at *
  have hlo : lk < w5.heap.size := (Array.getElem?_eq_some_iff.1 hlk).1
  have k0 : w5.cell? ⟨lk, 0, none⟩ = some (.slice D1 n1 c1) := by rw [Lib.cell_of_heap hlk]; rfl
  have k1 : w5.cell? ⟨lk, 1, none⟩ = some (.slice D2 n2 c2) := by rw [Lib.cell_of_heap hlk]; rfl
  obtain ⟨b1, o1, rfl, hb1, hc1⟩ := HT15.out.ll (by rw [HN1.out]; omega)
  obtain ⟨b2, o2, rfl, hb2, hc2⟩ := HT25.out.ll (by rw [HN2.out]; omega)
  have HC1 := Lib.hid hc1
  have HC2 := Lib.hid hc2
  have hro : rb < w5.heap.size := R5.out.lt
  have hwo : w.heap.size < w5.heap.size := X5.out.lt
  clear hlk hc1 hc2 HT15 HT25
  go_wp2_with fail
  with_reducible refine Calls.mono (zero_int _ _ n1 n2 rfl rfl (by omega) (by omega) _) ?_
  rintro e w6 ⟨k, rfl, hk, hrow, hb⟩
  have R0 := Lib.hid (⟨(X5.out.below hb X5.out.lt).alloc _, (R5.out.below hb R5.out.lt).alloc _, Box.new w6 n1 n2 _, (hrow.alloc _).congr (fun i _ => by rw [cp_zero]),
    (HG.out.below ((LB5.out.trans (hb.mono LB5.out.size)).alloc (Nat.le_trans LB5.out.size hb.size) _)), (LB5.out.trans (hb.mono LB5.out.size)).alloc (Nat.le_trans LB5.out.size hb.size) _, hrw2, by omega, hrow.lt⟩ :
    DR w (w6.alloc (.cells #[.int .i64 n1, .int .i64 n2, .slice (some ⟨k, 0, none⟩) (n1 * n2) (n1 * n2)] 24)) W H A c g rb w6.heap.size k n1 n2 (cp (· % n1) (· / n1) (fun x y => g (l2.getD y 0 * W + l1.getD x 0)) 0 0))
  have BU0 := Lib.hid (But.of (k := k) (hb.trans ((bel_alloc w6 (.cells #[.int .i64 n1, .int .i64 n2, .slice (some ⟨k, 0, none⟩) (n1 * n2) (n1 * n2)] 24)).mono hb.size)))
  clear hb hrow X5 R5 LB5 HG
  have K0 := Lib.hid k0
  have K1 := Lib.hid k1
  clear k0 k1
  go_wp2
  go_loopw [8] (fun i wr => ∃ x : Nat, x ≤ n1 ∧ i = .int .i64 x ∧ DR w wr W H A c g rb w6.heap.size k n1 n2 (cp (· % n1) (· / n1) (fun x y => g (l2.getD y 0 * W + l1.getD x 0)) x 0) ∧ Hid (But k w5 wr)) (fun i _ => n1 - (intOf i).toNat)
  case atStart => exact ⟨0, Nat.zero_le _, rfl, R0.out, BU0⟩
  case round =>
    obtain ⟨x, hx, rfl, R, BU⟩ := hrel
    clear R0 BU0
    obtain ⟨wo, rfl⟩ : ∃ wo : World, wo = wr := ⟨_, rfl⟩
    obtain ⟨q0, q1, q2, q3, q4, q5⟩ := R.six
    by_cases hlx : x < n1
    · have R1 := Lib.hid R
      have yx1 : (x : Int) < (n1 : Int) := by omega
      have yx2 : (0 : Int) ≤ (x : Int) := by omega
      clear R
      go_wp2
      clear q0 q1 q2 q3 q4 q5
      go_loopw [9] (fun i wr => ∃ y : Nat, y ≤ n2 ∧ i = .int .i64 y ∧ DR w wr W H A c g rb w6.heap.size k n1 n2 (cp (· % n1) (· / n1) (fun x y => g (l2.getD y 0 * W + l1.getD x 0)) x y) ∧ Hid (But k w5 wr)) (fun i _ => n2 - (intOf i).toNat)
      case atStart => exact ⟨0, Nat.zero_le _, rfl, R1.out, BU⟩
      case round =>
        obtain ⟨y, hy, rfl, R, BU2⟩ := hrel
        clear R1 BU
        obtain ⟨q0, q1, q2, q3, q4, q5⟩ := R.six
        have R2 := Lib.hid R
        clear R
        by_cases hly : y < n2
        · have yy1 : (y : Int) < (n2 : Int) := by omega
          have yy2 : (0 : Int) ≤ (y : Int) := by omega
          have hXW := HPX.out x hlx
          have hYH := HPY.out y hly
          have e1 := HC1.out x (by rw [HN1.out]; exact hlx)
          have e2 := HC2.out y (by rw [HN2.out]; exact hly)
          rw [show lf l1 x = ((l1.getD x 0 : Nat) : Int) from rfl] at e1
          rw [show lf l2 y = ((l2.getD y 0 : Nat) : Int) from rfl] at e2
          have hS0 := R2.out.s0
          have hS1 := R2.out.s1
          have hS2 := R2.out.s2
          have hlk0 : lk ≠ k := by omega
          have hb1k : b1 ≠ k := by omega
          have hb2k : b2 ≠ k := by omega
          have HCX := Lib.hid (show ∀ u, But k w5 u → u.cell? ⟨lk, 0, none⟩ = some (.slice (some ⟨b1, o1, none⟩) n1 c1) ∧ u.cell? ⟨lk, 1, none⟩ = some (.slice (some ⟨b2, o2, none⟩) n2 c2) ∧ u.cell? ⟨b1, o1 + x, none⟩ = some (.int .i64 (l1.getD x 0 : Nat)) ∧ u.cell? ⟨b2, o2 + y, none⟩ = some (.int .i64 (l2.getD y 0 : Nat)) from fun u hu => ⟨(hu.cell hlo hlk0).trans K0.out, (hu.cell hlo hlk0).trans K1.out, (hu.cell hb1 hb1k).trans e1, (hu.cell hb2 hb2k).trans e2⟩)
          obtain ⟨X, hX⟩ : ∃ X, l1.getD x 0 = X := ⟨_, rfl⟩
          obtain ⟨Y, hY⟩ : ∃ Y, l2.getD y 0 = Y := ⟨_, rfl⟩
          have HXE := Lib.hid hX
          have HYE := Lib.hid hY
          rw [hX] at HCX hXW
          rw [hY] at HCX hYH
          clear hX hY e1 e2
          obtain ⟨p0, p1, p2, p3⟩ := HCX.out wr BU2.out
          have HK := Lib.hid (fun w' (h : Below wr.heap.size wr w') => (⟨(R2.out.next h).six, HCX.out _ (BU2.out.trans (But.of h))⟩ : _ ∧ _))
          have HA := Lib.hid (fun w' (h : Below wr.heap.size wr w') => at_nat W H A c X Y g w' w.heap.size (R2.out.next h).cells (Nat.le_trans R2.out.bel.size h.size) hW hH X Y rfl rfl hXW hYH)
          go_wp2
          go_region_held3 (fun w' => (w'.cell? ⟨w.heap.size, 0, none⟩ = some (.int .i64 W) ∧ w'.cell? ⟨w.heap.size, 1, none⟩ = some (.int .i64 H) ∧ w'.cell? ⟨w.heap.size, 2, none⟩ = some (.slice A (W * H) c) ∧ w'.cell? ⟨w6.heap.size, 0, none⟩ = some (.int .i64 n1) ∧ w'.cell? ⟨w6.heap.size, 1, none⟩ = some (.int .i64 n2) ∧ w'.cell? ⟨w6.heap.size, 2, none⟩ = some (.slice (some ⟨k, 0, none⟩) (n1 * n2) (n1 * n2))) ∧ w'.cell? ⟨lk, 0, none⟩ = some (.slice (some ⟨b1, o1, none⟩) n1 c1) ∧ w'.cell? ⟨lk, 1, none⟩ = some (.slice (some ⟨b2, o2, none⟩) n2 c2) ∧ w'.cell? ⟨b1, o1 + x, none⟩ = some (.int .i64 X) ∧ w'.cell? ⟨b2, o2 + y, none⟩ = some (.int .i64 Y))
            (first
              | exact hS3
              | exact HK.out _ hb2'
              | exact HK.out _ (Below.refl _ _).drew)
            (first
              | (go_at_call 77
                 refine (HA.out _ (Below.refl _ _).drew).mono ?_
                 rintro e w2 ⟨rfl, hb2⟩
                 have hb2' : Below wr.heap.size wr w2 := (Below.refl _ _).drew.trans hb2)
              | (go_at_call 107
                 refine (set_nat n1 n2 k (n1 * n2) x y _ _ _ (R2.out.next hb2').row (by omega) (by omega) x y rfl rfl hlx hly).mono ?_
                 rintro e w3 ⟨rfl, hr3, hb3⟩
                 have hR3 := Lib.hid ((R2.out.next hb2').but hb3 hr3)
                 have hB3 := Lib.hid ((BU2.out.trans (But.of hb2')).trans hb3)
                 have hS3 := (⟨hR3.out.six, HCX.out _ hB3.out⟩ : _ ∧ _)))
          clear q0 q1 q2 q3 q4 q5 p0 p1 p2 p3 HK HA HCX
          go_wp2
          have hR4 := Lib.hid (hR3.out.congr (F' := cp (· % n1) (· / n1) (fun x y => g (l2.getD y 0 * W + l1.getD x 0)) x (y + 1)) (fun i hi => by rw [← HXE.out, ← HYE.out]; exact cp_succ (G := fun x y => g (l2.getD y 0 * W + l1.getD x 0)) (plain_at hlx hi)))
          first
          | exact ⟨⟨y + 1, by omega, by go_num, hR4.out, hB3⟩, by simp [intOf]; omega⟩
          | (go_roundw
             case rel => exact ⟨y + 1, by omega, by go_num, hR4.out, hB3⟩
             case measure => simp [intOf]; omega)
        · have e : y = n2 := by omega
          have yy1 : ¬ (y : Int) < (n2 : Int) := by omega
          go_wp2
          have hR4 := Lib.hid (R2.out.congr (F' := cp (· % n1) (· / n1) (fun x y => g (l2.getD y 0 * W + l1.getD x 0)) (x + 1) 0) (fun i hi => by rw [e]; exact cp_next (div_bd hi)))
          first
          | exact ⟨⟨x + 1, by omega, by go_num, hR4.out, BU2⟩, by simp [intOf]; omega⟩
          | (go_roundw
             case rel => exact ⟨x + 1, by omega, by go_num, hR4.out, BU2⟩
             case measure => simp [intOf]; omega)
    · have e : x = n1 := by omega
      have yx1 : ¬ (x : Int) < (n1 : Int) := by omega
      obtain ⟨p0, p1, p2, p3, p4, p5, p6⟩ := R.res.all
      have R1 := Lib.hid (R.congr (F' := onF W g l1 l2) (fun i hi => by
        rw [e]
        refine (cp_all (ax := (· % n1)) (ay := (· / n1)) (G := fun x y => g (l2.getD y 0 * W + l1.getD x 0)) (m := n1) (j := i) (Nat.mod_lt _ (by omega))).trans ?_
        unfold onF
        rw [HN1.out]))
      have hR0 := R.s0
      have hR1' := R.s1
      clear R e
      go_wp2
      refine bodyPost_ret (v := .tuple #[.agg #[.int .i64 n1, .int .i64 n2, .slice (some ⟨k, 0, none⟩) (n1 * n2) (n1 * n2)], .int .i64 0]) (by simp [results, Try.results61, go_sem, p0, p1, p2]) rfl ⟨some ⟨k, 0, none⟩, n1 * n2, by simp only [HN1.out, HN2.out], ⟨(fun h => by cases h), by simp only [HN1.out, HN2.out]; exact Nat.le_refl _⟩, ?_, ?_⟩
      · have hrow := ((R1.out.row.far (p := ⟨rb, 0, none⟩) (by simp; omega) (.int .i64 n1)).far (p := ⟨rb, 1, none⟩) (by simp; omega) (.int .i64 n2)).far (p := ⟨rb, 2, none⟩) (by simp; omega) (.slice (some ⟨k, 0, none⟩) (n1 * n2) (n1 * n2))
        simp only [HN1.out, HN2.out]
        exact hrow.holds hrow.lt
      · exact ((R1.out.bel.setCell (p := ⟨rb, 0, none⟩) hrw _).setCell (p := ⟨rb, 1, none⟩) hrw _).setCell (p := ⟨rb, 2, none⟩) hrw _
end Go.Proofs.Ytchbbphokpmacaa
