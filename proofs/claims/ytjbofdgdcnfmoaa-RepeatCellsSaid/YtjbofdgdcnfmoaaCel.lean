/- Cell by both sides. -/
import Derived.Test.YtjbofdgdcnfmoaaTwo
import Derived.Test.YtjbofdgdcnfmoaaOpt
import Derived.Test.YtjbofdgdcnfmoaaRpart
namespace Go.Proofs.Ytjbofdgdcnfmoaa
open Go.RowKit
set_option maxRecDepth 100000
set_option linter.unusedVariables false
set_option linter.unusedSimpArgs false

set_option maxHeartbeats 400000 in
theorem pcell_err (W H : Int) (A : Option Addr) (n c : Nat) (w : World) (hn : n ≤ 4200) (z : Int) (hx : chk W H n = z) (hne : (z != 0) = true) :
    Calls Try.prog 34 #[.agg #[.int .i64 W, .int .i64 H, .slice A n c]] w (ErrGrid w z) := by
  have HO := Lib.hid (fun u => pof_err W H A n c u hn z hx hne)
  clear hx
  go_enter Try.func34, Try.ntmps34
  go_wp2_with fail
  refine (HO.out _).mono ?_
  rintro e u ⟨rfl, hb⟩
  obtain ⟨hbox1, hbox2, hbel1, hsz1⟩ := after2 hb
  clear hb
  have hbox3 := hbox2.alloc (.cells #[.int .i64 0, .int .i64 0, .int .i64 0] 27)
  have hbel3 := hbel1.alloc hbel1.size (.cells #[.int .i64 0, .int .i64 0, .int .i64 0] 27)
  obtain ⟨p0, p1, p2, p3, p4, p5, p6⟩ := hbox3.all
  go_wp2
  refine bodyPost_ret (v := .tuple #[.agg #[.int .i64 0, .int .i64 0, .slice none 0 0], .int .i64 z]) (by simp [results, Try.results34, go_sem, p0, p1, p2]) rfl ?_
  exact fin_err (by omega) hbel3
set_option maxHeartbeats 800000 in
theorem pcell_at {W H A B C : Nat} {f : Nat → Bool} (hL : IsL W H f A B C) (D : Option Addr) (c : Nat) (w : World) (hr : Holds w w.heap.size D (W * H) f) (hcp : W * H ≤ c) (hW : W ≤ 64) (hH0 : 1 ≤ H) (hH : H ≤ 64) :
    Calls Try.prog 34 #[.agg #[.int .i64 (W : Nat), .int .i64 (H : Nat), .slice D (W * H) c]] w (OkGrid w A C fun i => pc W H f (i % A) (i / A)) := by
  have hA := hL.aw
  have hC := hL.ch
  have hA0 := hL.a0
  have hC0 := hL.c0
  have hW0 := Nat.le_trans hA0 hA
  have HO := Lib.hid (fun u (h : Below w.heap.size w u) => pof_at hL D c u ((hr.below h).more h.size) hcp hW hH0 hH)
  have hb0 := Lib.hid (((Below.refl w.heap.size w).alloc (Nat.le_refl _) (.cells #[.int .i64 (W : Nat), .int .i64 (H : Nat), .slice D (W * H) c] 24)).alloc (by simp) (.cells #[.int .i64 0, .int .i64 0, .slice none 0 0] 24))
  have HP := Lib.hid (fun u (h : Below w.heap.size w u) => (show Calls Try.prog 41 #[.agg #[.int .i64 (W : Nat), .int .i64 (H : Nat), .slice D (W * H) c], .int .i64 0, .int .i64 0, .int .i64 (A : Nat), .int .i64 (C : Nat)] u (OkGrid u A C fun i => pc W H f (i % A) (i / A)) from
    (part_ok W H D c 0 0 A C u hW0 hW hH0 hH f ((hr.below h).more h.size) hA0 (by omega) hC0 (by omega)).mono fun e w' ⟨k, h1, h2, h3, h4⟩ => ⟨k, h1, h2, h3.congr fun i hi => by
      have h5 := Nat.mod_lt i hA0
      have h6 := div_bd hi
      unfold pc
      rw [Nat.mod_eq_of_lt (show i / A < H by omega), Nat.mod_eq_of_lt (show i % A < W by omega), Nat.zero_add, Nat.zero_add], h4⟩))
  clear hr
  go_enter Try.func34, Try.ntmps34
  go_wp2_with fail
  refine (HO.out _ hb0.out).mono ?_
  rintro e u ⟨rfl, hb⟩
  obtain ⟨hbox1, hbox2, hbel1, hsz1⟩ := after2 hb
  clear hb
  have X3 := Lib.hid (hbox1.alloc (.cells #[.int .i64 (A : Nat), .int .i64 (B : Nat), .int .i64 (C : Nat)] 27))
  have R3 := Lib.hid (hbox2.alloc (.cells #[.int .i64 (A : Nat), .int .i64 (B : Nat), .int .i64 (C : Nat)] 27))
  have L3 := Lib.hid (hbel1.alloc hbel1.size (.cells #[.int .i64 (A : Nat), .int .i64 (B : Nat), .int .i64 (C : Nat)] 27))
  have T := Tri.new u (A : Nat) (B : Nat) (C : Nat)
  obtain ⟨t0, t1, t2, t3, t4, t5⟩ := T.all
  clear hbox2 hbel1
  obtain ⟨q0, q1, q2, q3, q4, q5, q6⟩ := hbox1.all
  obtain ⟨p0, p1, p2, p3, p4, p5, p6⟩ := X3.out.all
  go_wp2_with fail
  clear t0 t1 t2 t3 t4 t5 q0 q1 q2 q3 q4 q5 q6 p0 p1 p2 p3 p4 p5 p6
  refine (HP.out _ L3.out).mono ?_
  rintro e u2 ⟨k, rfl, hk, hrow, hb⟩
  have R4 := Lib.hid (R3.out.below hb R3.out.lt)
  have L4 := Lib.hid (L3.out.trans (hb.mono L3.out.size))
  have hk2 := Nat.lt_of_lt_of_le R3.out.lt hk
  clear hb
  obtain ⟨p0, p1, p2, p3, p4, p5, p6⟩ := R4.out.all
  go_wp2
  refine bodyPost_ret (v := .tuple #[.agg #[.int .i64 (A : Nat), .int .i64 (C : Nat), .slice (some ⟨k, 0, none⟩) (A * C) (A * C)], .int .i64 0]) (by simp [results, Try.results34, go_sem, p0, p1, p2]) rfl ?_
  exact fin_ok (by omega) hk2 hrow L4.out
set_option maxHeartbeats 800000 in
theorem rcell_err (W H : Int) (A : Option Addr) (n c : Nat) (w : World) (hn : n ≤ 4200) (z : Int) (hx : chk W H n = z) (hne : (z != 0) = true) :
    Calls Try.prog 35 #[.agg #[.int .i64 W, .int .i64 H, .slice A n c]] w (ErrGrid w z) := by
  have HC := Lib.hid (rchk_err (A := A) (c := c) hn hx)
  clear hx
  go_enter Try.func35, Try.ntmps35
  go_wp2_with fail
  refine (HC.out _).mono ?_
  rintro e w1 ⟨rfl, hb1⟩
  obtain ⟨hbox1, hbox2, hbel1, hsz1⟩ := after2 hb1
  clear hb1
  obtain ⟨q0, q1, q2, q3, q4, q5, q6⟩ := hbox1.all
  go_wp2_with fail
  refine (HC.out _).mono ?_
  rintro e w2 ⟨rfl, hb2⟩
  have hbox3 := hbox2.below hb2 (by omega)
  have hbel2 := hbel1.trans (hb2.mono hbel1.size)
  clear hb2 q0 q1 q2 q3 q4 q5 q6
  obtain ⟨p0, p1, p2, p3, p4, p5, p6⟩ := hbox3.all
  go_wp2
  refine bodyPost_ret (v := .tuple #[.agg #[.int .i64 0, .int .i64 0, .slice none 0 0], .int .i64 z]) (by simp [results, Try.results35, go_sem, p0, p1, p2]) rfl ?_
  exact fin_err (by omega) hbel2
theorem Tri.but {w w' : World} {k g : Nat} {a b c : Int} (hb : But k w w') (h : Tri w g a b c) (hg : g ≠ k) : Tri w' g a b c := (hb.block g h.lt hg).trans h
/-- A double loop of the reference that reads its bounds out of a lattice. -/
structure DT (w wr : World) (W H : Nat) (D : Option Addr) (c : Nat) (f : Nat → Bool) (r o k tb A C : Nat) (B : Int) (F : Nat → Bool) : Prop where
  d : DR w wr W H D c f r o k A C F
  t : Tri wr tb (A : Nat) B (C : Nat)
  n : tb ≠ k
theorem DT.next {w wr w' : World} {W H : Nat} {D : Option Addr} {c : Nat} {f : Nat → Bool} {r o k tb A C : Nat} {B : Int} {F : Nat → Bool} (h : DT w wr W H D c f r o k tb A C B F) (hb : Below wr.heap.size wr w') : DT w w' W H D c f r o k tb A C B F := ⟨h.d.next hb, h.t.below hb h.t.lt, h.n⟩
theorem DT.but {w wr w' : World} {W H : Nat} {D : Option Addr} {c : Nat} {f : Nat → Bool} {r o k tb A C : Nat} {B : Int} {F F' : Nat → Bool} (h : DT w wr W H D c f r o k tb A C B F) (hb : But k wr w') (hr : Row w' k (A * C) F') : DT w w' W H D c f r o k tb A C B F' := ⟨h.d.but hb hr, h.t.but hb h.n, h.n⟩
theorem DT.congr {w wr : World} {W H : Nat} {D : Option Addr} {c : Nat} {f : Nat → Bool} {r o k tb A C : Nat} {B : Int} {F F' : Nat → Bool} (h : DT w wr W H D c f r o k tb A C B F) (e : ∀ i, i < A * C → F i = F' i) : DT w wr W H D c f r o k tb A C B F' := ⟨h.d.congr e, h.t, h.n⟩
set_option maxHeartbeats 1600000 in
theorem rcell_at {W H A B C : Nat} {f : Nat → Bool} (hL : IsL W H f A B C) (D : Option Addr) (c : Nat) (w : World) (hr : Holds w w.heap.size D (W * H) f) (hW : W ≤ 64) (hH0 : 1 ≤ H) (hH : H ≤ 64) :
    Calls Try.prog 35 #[.agg #[.int .i64 (W : Nat), .int .i64 (H : Nat), .slice D (W * H) c]] w (OkGrid w A C fun i => pc W H f (i % A) (i / A)) := by
  have hA := hL.aw
  have hC := hL.ch
  have hA0 := hL.a0
  have hC0 := hL.c0
  have hW0 := Nat.le_trans hA0 hA
  have HR := Lib.hid hr
  have HO := Lib.hid (fun u (h : Below w.heap.size w u) => rlat_at hL D c u ((hr.below h).more h.size) hW hH0 hH)
  clear hr hL
  go_enter Try.func35, Try.ntmps35
  go_wp2_with fail
  refine (rchk_valid D c _ hW0 hW hH0 hH).mono ?_
  rintro e w1 ⟨rfl, hb1⟩
  obtain ⟨hbox1, hbox2, hbel1, hsz1⟩ := after2 hb1
  clear hb1
  have L1 := Lib.hid hbel1
  have R1 := Lib.hid hbox2
  have X1 := Lib.hid hbox1
  clear hbel1 hbox2
  obtain ⟨q0, q1, q2, q3, q4, q5, q6⟩ := hbox1.all
  go_wp2_with fail
  clear hbox1 q0 q1 q2 q3 q4 q5 q6
  refine (HO.out _ L1.out).mono ?_
  rintro e w2 ⟨rfl, hb⟩
  have hs2 := hb.size
  have L2 := Lib.hid ((L1.out.trans (hb.mono L1.out.size)).alloc (Nat.le_trans L1.out.size hb.size) (.cells #[.int .i64 (A : Nat), .int .i64 (B : Nat), .int .i64 (C : Nat)] 27))
  have R2 := Lib.hid ((R1.out.below hb R1.out.lt).alloc (.cells #[.int .i64 (A : Nat), .int .i64 (B : Nat), .int .i64 (C : Nat)] 27))
  have X2 := Lib.hid ((X1.out.below hb X1.out.lt).alloc (.cells #[.int .i64 (A : Nat), .int .i64 (B : Nat), .int .i64 (C : Nat)] 27))
  have T2 := Lib.hid (Tri.new w2 (A : Nat) (B : Nat) (C : Nat))
  clear L1 R1 X1 hb
  obtain ⟨t0, t1, t2, t3, t4, t5⟩ := T2.out.all
  go_wp2_with fail
  clear t0 t1 t2 t3 t4 t5
  refine (zero_int _ _ A C (rfl) (rfl) (by omega) (by omega) _).mono ?_
  rintro e w3 ⟨k, rfl, hk, hrow, hb⟩
  have hs3 := hb.size
  simp only [World.size_alloc] at hk hs3
  have R0 := Lib.hid (⟨⟨(X2.out.below hb X2.out.lt).alloc _, (R2.out.below hb R2.out.lt).alloc _, Box.new w3 A C _, (hrow.alloc _).congr (fun i _ => by rw [cp_zero]),
    HR.out.below ((L2.out.trans (hb.mono L2.out.size)).alloc (Nat.le_trans L2.out.size hb.size) _), (L2.out.trans (hb.mono L2.out.size)).alloc (Nat.le_trans L2.out.size hb.size) _, by omega, by omega, hrow.lt⟩, Below.heap_alloc _ _ _ (T2.out.below hb T2.out.lt).lt |>.trans (T2.out.below hb T2.out.lt), by omega⟩ :
    DT w (w3.alloc (.cells #[.int .i64 A, .int .i64 C, .slice (some ⟨k, 0, none⟩) (A * C) (A * C)] 24)) W H D c f (w.heap.size + 1) w3.heap.size k w2.heap.size A C B (cp (· % A) (· / A) (fun x y => pc W H f x y) 0 0))
  clear R2 L2 X2 T2 hb hrow
  have R00 := R0.out.d
  obtain ⟨q0, q1, q2, q3, q4, q5⟩ := R00.six
  clear R00
  go_wp2
  clear q0 q1 q2 q3 q4 q5
  go_loopw [6] (fun i wr => ∃ x : Nat, x ≤ A ∧ i = .int .i64 x ∧ Hid (DT w wr W H D c f (w.heap.size + 1) w3.heap.size k w2.heap.size A C B (cp (· % A) (· / A) (fun x y => pc W H f x y) x 0))) (fun i _ => A - (intOf i).toNat)
  case atStart => exact ⟨0, Nat.zero_le _, rfl, R0⟩
  case round =>
    obtain ⟨x, hx, rfl, R1⟩ := hrel
    obtain ⟨wo, rfl⟩ : ∃ wo : World, wo = wr := ⟨_, rfl⟩
    obtain ⟨q0, q1, q2, q3, q4, q5⟩ := R1.out.d.six
    obtain ⟨t0, t1, t2, t3, t4, t5⟩ := R1.out.t.all
    by_cases hlx : x < A
    · go_wp2
      clear q0 q1 q2 q3 q4 q5 t0 t1 t2 t3 t4 t5
      go_loopw [7] (fun i wr => ∃ y : Nat, y ≤ C ∧ i = .int .i64 y ∧ Hid (DT w wr W H D c f (w.heap.size + 1) w3.heap.size k w2.heap.size A C B (cp (· % A) (· / A) (fun x y => pc W H f x y) x y))) (fun i _ => C - (intOf i).toNat)
      case atStart => exact ⟨0, Nat.zero_le _, rfl, R1⟩
      case round =>
        obtain ⟨y, hy, rfl, R2⟩ := hrel
        obtain ⟨q0, q1, q2, q3, q4, q5⟩ := R2.out.d.six
        obtain ⟨t0, t1, t2, t3, t4, t5⟩ := R2.out.t.all
        by_cases hly : y < C
        · have HK := Lib.hid (fun w' (h : Below wr.heap.size wr w') => (R2.out.d.next h).six)
          have HA := Lib.hid (fun w' (h : Below wr.heap.size wr w') => at6_nat W H D c f x y w' ((R2.out.d.next h).cells.more (Nat.le_trans R2.out.d.bel.size h.size)) hW0 hW hH0 hH (by omega) (by omega))
          go_wp2
          go_region_held3 (fun w' => w'.cell? ⟨w.heap.size, 0, none⟩ = some (.int .i64 W) ∧ w'.cell? ⟨w.heap.size, 1, none⟩ = some (.int .i64 H) ∧ w'.cell? ⟨w.heap.size, 2, none⟩ = some (.slice D (W * H) c) ∧ w'.cell? ⟨w3.heap.size, 0, none⟩ = some (.int .i64 A) ∧ w'.cell? ⟨w3.heap.size, 1, none⟩ = some (.int .i64 C) ∧ w'.cell? ⟨w3.heap.size, 2, none⟩ = some (.slice (some ⟨k, 0, none⟩) (A * C) (A * C)))
            (first
              | exact hS3
              | exact HK.out _ hb2'
              | exact HK.out _ (Below.refl _ _).drew)
            (first
              | (go_at_call 81
                 refine (HA.out _ (Below.refl _ _).drew).mono ?_
                 rintro e w3 ⟨rfl, hb2⟩
                 have hb2' : Below wr.heap.size wr w3 := (Below.refl _ _).drew.trans hb2)
              | (go_at_call 80
                 refine (set_nat A C k (A * C) x y _ _ _ (R2.out.d.next hb2').row (by omega) (by omega) x y rfl rfl hlx hly).mono ?_
                 rintro e w4 ⟨rfl, hr3, hb3⟩
                 have hR3 := Lib.hid ((R2.out.next hb2').but hb3 hr3)
                 have hS3 := hR3.out.d.six))
          go_wp2
          exact ⟨⟨y + 1, by omega, by go_num, Lib.hid (hR3.out.congr fun i hi => cp_succ (plain_at hlx hi))⟩, by simp [intOf]; omega⟩
        · have e : y = C := by omega
          subst e
          go_wp2
          exact ⟨⟨x + 1, by omega, by go_num, Lib.hid (R2.out.congr fun i hi => cp_next (div_bd hi))⟩, by simp [intOf]; omega⟩
    · have e : x = A := by omega
      subst e
      obtain ⟨p0, p1, p2, p3, p4, p5, p6⟩ := R1.out.d.res.all
      go_wp2
      refine bodyPost_ret (v := .tuple #[.agg #[.int .i64 x, .int .i64 C, .slice (some ⟨k, 0, none⟩) (x * C) (x * C)], .int .i64 0]) (by simp [results, Try.results35, go_sem, p0, p1, p2]) rfl ?_
      have s1 := R1.out.d.s1
      exact fin_ok (by omega) (by omega) (R1.out.d.row.congr fun i hi => cp_all (Nat.mod_lt _ (by omega))) R1.out.d.bel
end Go.Proofs.Ytjbofdgdcnfmoaa
