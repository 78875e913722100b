/- Offset by the reference. -/
import Derived.Test.YtjbofdgdcnfmoaaRmt
namespace Go.Proofs.Ytjbofdgdcnfmoaa
open Go.RowKit
set_option maxRecDepth 100000
set_option linter.unusedVariables false
set_option linter.unusedSimpArgs false

set_option maxHeartbeats 400000 in
theorem both_any (W H X Y : Int) (A D : Option Addr) (n c m d : Nat) (w : World) (hn : n ≤ 4200) (hm : m ≤ 4200) : Calls Try.prog 83 #[.agg #[.int .i64 W, .int .i64 H, .slice A n c], .agg #[.int .i64 X, .int .i64 Y, .slice D m d]] w fun e w' => e = .returned (.int .i64 (if chk W H n = 0 then chk X Y m else chk W H n)) ∧ Below w.heap.size w w' := by
  have HC := Lib.hid (fun v => rchk_any W H A n c v hn)
  have HD := Lib.hid (fun v => rchk_any X Y D m d v hm)
  have B0 := Lib.hid (show Box ((w.alloc (.cells #[.int .i64 W, .int .i64 H, .slice A n c] 24)).alloc (.cells #[.int .i64 X, .int .i64 Y, .slice D m d] 24)) w.heap.size W H (.slice A n c) from (Box.new _ _ _ _).alloc _)
  have B1 := Lib.hid (show Box ((w.alloc (.cells #[.int .i64 W, .int .i64 H, .slice A n c] 24)).alloc (.cells #[.int .i64 X, .int .i64 Y, .slice D m d] 24)) (w.heap.size + 1) X Y (.slice D m d) from by have h := Box.new (w.alloc (.cells #[.int .i64 W, .int .i64 H, .slice A n c] 24)) X Y (.slice D m d); rwa [World.size_alloc] at h)
  have L0 := Lib.hid (show Below w.heap.size w ((w.alloc (.cells #[.int .i64 W, .int .i64 H, .slice A n c] 24)).alloc (.cells #[.int .i64 X, .int .i64 Y, .slice D m d] 24)) from ((Below.refl _ _).alloc (Nat.le_refl _) _).alloc (by simp) _)
  by_cases hx : chk W H n = 0
  · rw [if_pos hx]
    rw [hx] at HC
    have HX := Lib.hid hx
    obtain ⟨z, hz⟩ : ∃ z, chk X Y m = z := ⟨_, rfl⟩
    rw [hz] at HD ⊢
    clear hx hz
    go_enter Try.func83, Try.ntmps83
    obtain ⟨q0, q1, q2, q3, q4, q5, q6⟩ := B0.out.all
    go_wp2_with fail
    refine (HC.out _).mono ?_
    rintro e w1 ⟨rfl, hb⟩
    have L1 := Lib.hid (L0.out.trans (hb.mono L0.out.size))
    clear q0 q1 q2 q3 q4 q5 q6
    obtain ⟨q0, q1, q2, q3, q4, q5, q6⟩ := (B1.out.below hb B1.out.lt).all
    clear hb
    go_wp2_with fail
    refine (HD.out _).mono ?_
    rintro e w2 ⟨rfl, hb⟩
    have L2 := Lib.hid (L1.out.trans (hb.mono L1.out.size))
    clear hb
    go_wp2
    go_ret
    exact ⟨rfl, L2.out⟩
  · rw [if_neg hx]
    obtain ⟨z, hz⟩ : ∃ z, chk W H n = z := ⟨_, rfl⟩
    rw [hz] at HC hx ⊢
    have hne : (z != 0) = true := by simpa using hx
    clear hx hz
    go_enter Try.func83, Try.ntmps83
    obtain ⟨q0, q1, q2, q3, q4, q5, q6⟩ := B0.out.all
    go_wp2_with fail
    refine (HC.out _).mono ?_
    rintro e w1 ⟨rfl, hb⟩
    have L1 := Lib.hid (L0.out.trans (hb.mono L0.out.size))
    clear q0 q1 q2 q3 q4 q5 q6
    obtain ⟨q0, q1, q2, q3, q4, q5, q6⟩ := (B0.out.below hb B0.out.lt).all
    clear hb
    go_wp2_with fail
    refine (HC.out _).mono ?_
    rintro e w2 ⟨rfl, hb⟩
    have L2 := Lib.hid (L1.out.trans (hb.mono L1.out.size))
    clear hb
    go_wp2
    go_ret
    exact ⟨rfl, L2.out⟩
/-- A point lies in a block. -/
def Pt (w : World) (g : Nat) (a b : Int) : Prop := w.heap[g]? = some (.cells #[.int .i64 a, .int .i64 b] 40 (0, 0))
theorem Pt.lt {w : World} {g : Nat} {a b : Int} (h : Pt w g a b) : g < w.heap.size := (Array.getElem?_eq_some_iff.1 h).1
theorem Pt.below {w w' : World} {g B : Nat} {a b : Int} (h : Pt w g a b) (hb : Below B w w') (hg : g < B) : Pt w' g a b := (hb.block g hg).trans h
theorem Pt.new (w : World) (a b : Int) : Pt (w.alloc (.cells #[.int .i64 a, .int .i64 b] 40)) w.heap.size a b := by
  show (w.heap.push _)[w.heap.size]? = _
  rw [Array.getElem?_push, if_pos rfl]
theorem Pt.all {w : World} {g : Nat} {a b : Int} (h : Pt w g a b) : w.cell? ⟨g, 0, none⟩ = some (.int .i64 a) ∧ w.cell? ⟨g, 1, none⟩ = some (.int .i64 b) ∧ w.frozen? ⟨g, 0, none⟩ = false ∧ w.frozen? ⟨g, 1, none⟩ = false := by
  unfold Pt at h
  refine ⟨?_, ?_, ?_, ?_⟩ <;> simp [World.cell?, World.frozen?, h]
/-- The first offset: by rows, then by columns. -/
structure FO (W H : Nat) (f : Nat → Bool) (X Y : Nat) (g : Nat → Bool) (p q : Nat) : Prop where
  mt : Mt W H f X Y g p q
  ly : ∀ y, y < q → ∀ x : Nat, ¬ Mt W H f X Y g x y
  lx : ∀ x, x < p → ¬ Mt W H f X Y g x q
theorem FO.one {W H : Nat} {f : Nat → Bool} {X Y : Nat} {g : Nat → Bool} {p q p' q' : Nat} (h : FO W H f X Y g p q) (k : FO W H f X Y g p' q') : p = p' ∧ q = q' := by
  have e : q = q' := by
    rcases Nat.lt_trichotomy q q' with i | i | i
    · exact absurd h.mt (k.ly q i p)
    · exact i
    · exact absurd k.mt (h.ly q' i p')
  subst e
  rcases Nat.lt_trichotomy p p' with i | i | i
  · exact absurd h.mt (k.lx p i)
  · exact ⟨i, rfl⟩
  · exact absurd k.mt (h.lx p' i)
/-- What Offset answers. -/
def FOut2 (W H : Nat) (f : Nat → Bool) (X Y : Nat) (g : Nat → Bool) (a b z : Int) : Prop := (∃ p q : Nat, FO W H f X Y g p q ∧ a = p ∧ b = q ∧ z = 0) ∨ ((∀ x y : Nat, ¬ Mt W H f X Y g x y) ∧ a = 0 ∧ b = 0 ∧ z = 6)
theorem FOut2.one {W H : Nat} {f : Nat → Bool} {X Y : Nat} {g : Nat → Bool} {a b z a' b' z' : Int} (h : FOut2 W H f X Y g a b z) (k : FOut2 W H f X Y g a' b' z') : a = a' ∧ b = b' ∧ z = z' := by
  rcases h with ⟨p, q, h, rfl, rfl, rfl⟩ | ⟨h, rfl, rfl, rfl⟩ <;> rcases k with ⟨p', q', k, rfl, rfl, rfl⟩ | ⟨k, rfl, rfl, rfl⟩
  · obtain ⟨rfl, rfl⟩ := h.one k
    exact ⟨rfl, rfl, rfl⟩
  · exact absurd h.mt (k p q)
  · exact absurd k.mt (h p' q')
  · exact ⟨rfl, rfl, rfl⟩
theorem FOut2.ex (W H : Nat) (f : Nat → Bool) (X Y : Nat) (g : Nat → Bool) : ∃ a b z, FOut2 W H f X Y g a b z := by
  by_cases e : ∃ x y : Nat, Mt W H f X Y g x y
  · obtain ⟨x, y, e⟩ := e
    obtain ⟨q, _, ⟨x', h2⟩, h3⟩ := least_ex (p := fun q => ∃ x : Nat, Mt W H f X Y g x (q : Nat)) y ⟨x, e⟩
    obtain ⟨p, _, k2, k3⟩ := least_ex (p := fun p => Mt W H f X Y g (p : Nat) (q : Nat)) x' h2
    exact ⟨p, q, 0, .inl ⟨p, q, ⟨k2, fun y hy x hm => h3 y hy ⟨x, hm⟩, k3⟩, rfl, rfl, rfl⟩⟩
  · exact ⟨0, 0, 6, .inr ⟨fun x y h => e ⟨x, y, h⟩, rfl, rfl, rfl⟩⟩
theorem mt_side {W H : Nat} {f : Nat → Bool} {X Y : Nat} {g : Nat → Bool} (hX0 : 1 ≤ X) (x y : Nat) : Mt W H f X Y g x y ↔ Mt W H f X Y g (x % X : Nat) y := by
  have e : ∀ u v : Int, pz X Y g (u + (x : Nat)) v = pz X Y g (u + (x % X : Nat)) v := fun u v => pz_mod (by rw [Int.natCast_emod]; simp) rfl
  exact ⟨fun h u v => by rw [← e]; exact h u v, fun h u v => by rw [e]; exact h u v⟩
theorem mt_foot {W H : Nat} {f : Nat → Bool} {X Y : Nat} {g : Nat → Bool} (hY0 : 1 ≤ Y) (x y : Nat) : Mt W H f X Y g x y ↔ Mt W H f X Y g x (y % Y : Nat) := by
  have e : ∀ u v : Int, pz X Y g u (v + (y : Nat)) = pz X Y g u (v + (y % Y : Nat)) := fun u v => pz_mod rfl (by rw [Int.natCast_emod]; simp)
  exact ⟨fun h u v => by rw [← e]; exact h u v, fun h u v => by rw [e]; exact h u v⟩
/-- What lies in Offset. -/
structure O3 (w wr : World) (W H : Int) (sa : Value) (X Y : Int) (sb : Value) : Prop where
  g : Box wr w.heap.size W H sa
  k : Box wr (w.heap.size + 1) X Y sb
  p : Pt wr (w.heap.size + 2) 0 0
  bel : Below w.heap.size w wr
theorem O3.next {w wr w' : World} {W H X Y : Int} {sa sb : Value} (h : O3 w wr W H sa X Y sb) (hb : Below wr.heap.size wr w') : O3 w w' W H sa X Y sb := ⟨h.g.below hb h.g.lt, h.k.below hb h.k.lt, h.p.below hb h.p.lt, h.bel.trans (hb.mono h.bel.size)⟩
theorem O3.new (w : World) (W H X Y : Int) (sa sb : Value) : O3 w (((w.alloc (.cells #[.int .i64 W, .int .i64 H, sa] 24)).alloc (.cells #[.int .i64 X, .int .i64 Y, sb] 24)).alloc (.cells #[.int .i64 0, .int .i64 0] 40)) W H sa X Y sb := by
  have e2 := Box.new (w.alloc (.cells #[.int .i64 W, .int .i64 H, sa] 24)) X Y sb
  have e3 := Pt.new ((w.alloc (.cells #[.int .i64 W, .int .i64 H, sa] 24)).alloc (.cells #[.int .i64 X, .int .i64 Y, sb] 24)) 0 0
  rw [World.size_alloc] at e2 e3
  rw [World.size_alloc] at e3
  exact ⟨((Box.new _ _ _ _).alloc _).alloc _, e2.alloc _, e3, (((Below.refl _ _).alloc (Nat.le_refl _) _).alloc (by simp) _).alloc (by simp; omega) _⟩
theorem o3_fin {w u : World} (h : Below w.heap.size w u) (x y : Value) : Below w.heap.size w ((u.setCell ⟨w.heap.size + 2, 0, none⟩ x).setCell ⟨w.heap.size + 2, 1, none⟩ y) :=
  (h.setCell (Nat.le_add_right _ 2) _).setCell (Nat.le_add_right _ 2) _
set_option maxHeartbeats 800000 in
theorem roff_err (W H X Y : Int) (A D : Option Addr) (n c m d : Nat) (w : World) (hn : n ≤ 4200) (hm : m ≤ 4200) (z : Int) (hz : (if chk W H n = 0 then chk X Y m else chk W H n) = z) (hne : (z != 0) = true) :
    Calls Try.prog 38 #[.agg #[.int .i64 W, .int .i64 H, .slice A n c], .agg #[.int .i64 X, .int .i64 Y, .slice D m d]] w fun e w' => e = .returned (.tuple #[.agg #[.int .i64 0, .int .i64 0], .int .i64 z]) ∧ Below w.heap.size w w' := by
  have HB := fun v => both_any W H X Y A D n c m d v hn hm
  rw [hz] at HB
  have HB := Lib.hid HB
  have S0 := Lib.hid (O3.new w W H X Y (.slice A n c) (.slice D m d))
  clear hz
  go_enter Try.func38, Try.ntmps38
  obtain ⟨q0, q1, q2, q3, q4, q5, q6⟩ := S0.out.g.all
  obtain ⟨p0, p1, p2, p3, p4, p5, p6⟩ := S0.out.k.all
  go_wp2_with fail
  refine (HB.out _).mono ?_
  rintro e w1 ⟨rfl, hb⟩
  have S1 := Lib.hid (S0.out.next hb)
  clear hb q0 q1 q2 q3 q4 q5 q6 p0 p1 p2 p3 p4 p5 p6
  obtain ⟨q0, q1, q2, q3, q4, q5, q6⟩ := S1.out.g.all
  obtain ⟨p0, p1, p2, p3, p4, p5, p6⟩ := S1.out.k.all
  go_wp2_with fail
  refine (HB.out _).mono ?_
  rintro e w2 ⟨rfl, hb⟩
  have S2 := Lib.hid (S1.out.next hb)
  clear hb q0 q1 q2 q3 q4 q5 q6 p0 p1 p2 p3 p4 p5 p6
  obtain ⟨r0, r1, r2, r3⟩ := S2.out.p.all
  go_wp2
  refine bodyPost_ret (v := .tuple #[.agg #[.int .i64 0, .int .i64 0], .int .i64 z]) (by simp [results, Try.results38, go_sem, r0, r1]) rfl ⟨rfl, o3_fin S2.out.bel _ _⟩
set_option maxHeartbeats 1600000 in
theorem roff_ok (W H : Nat) (A : Option Addr) (c : Nat) (f : Nat → Bool) (X Y : Nat) (D : Option Addr) (d : Nat) (g : Nat → Bool) (w : World) (hr : Holds w w.heap.size A (W * H) f) (hs : Holds w w.heap.size D (X * Y) g)
    (hW0 : 1 ≤ W) (hW : W ≤ 64) (hH0 : 1 ≤ H) (hH : H ≤ 64) (hX0 : 1 ≤ X) (hX : X ≤ 64) (hY0 : 1 ≤ Y) (hY : Y ≤ 64) :
    Calls Try.prog 38 #[.agg #[.int .i64 (W : Nat), .int .i64 (H : Nat), .slice A (W * H) c], .agg #[.int .i64 (X : Nat), .int .i64 (Y : Nat), .slice D (X * Y) d]] w fun e w' => ∃ a b z : Int, e = .returned (.tuple #[.agg #[.int .i64 a, .int .i64 b], .int .i64 z]) ∧ FOut2 W H f X Y g a b z ∧ Below w.heap.size w w' := by
  have hwh : W * H ≤ 4096 := Nat.mul_le_mul hW hH
  have hxy : X * Y ≤ 4096 := Nat.mul_le_mul hX hY
  have HB := fun v => both_any W H X Y A D (W * H) c (X * Y) d v (by omega) (by omega)
  rw [chk_zero hW0 hW hH0 hH, chk_zero hX0 hX hY0 hY, if_pos rfl] at HB
  have HB := Lib.hid HB
  have HM := Lib.hid (fun v (h : Below w.heap.size w v) (a b : Nat) (ha : a ≤ 64) (hb : b ≤ 64) => meets_any W H A c f X Y D d g a b v ((hr.below h).more h.size) ((hs.below h).more h.size) hW0 hW hH0 hH hX0 hX hY0 hY ha hb)
  have S0 := Lib.hid (O3.new w (W : Nat) (H : Nat) (X : Nat) (Y : Nat) (.slice A (W * H) c) (.slice D (X * Y) d))
  clear hr hs
  go_enter Try.func38, Try.ntmps38
  obtain ⟨q0, q1, q2, q3, q4, q5, q6⟩ := S0.out.g.all
  obtain ⟨p0, p1, p2, p3, p4, p5, p6⟩ := S0.out.k.all
  go_wp2_with fail
  refine (HB.out _).mono ?_
  rintro e w1 ⟨rfl, hb⟩
  have S1 := Lib.hid (S0.out.next hb)
  clear hb q0 q1 q2 q3 q4 q5 q6 p0 p1 p2 p3 p4 p5 p6 S0
  go_wp2_with fail
  go_loopw [6] (fun i wr => ∃ y : Nat, y ≤ Y ∧ i = .int .i64 y ∧ Hid (∀ y', y' < y → ∀ x', x' < X → ¬ Mt W H f X Y g (x' : Nat) (y' : Nat)) ∧ Hid (O3 w wr (W : Nat) (H : Nat) (.slice A (W * H) c) (X : Nat) (Y : Nat) (.slice D (X * Y) d))) (fun i _ => Y - (intOf i).toNat)
  case atStart => exact ⟨0, Nat.zero_le _, rfl, fun y hy => absurd hy (by omega), S1⟩
  case round =>
    obtain ⟨y, hy, rfl, hall, S2⟩ := hrel
    obtain ⟨p0, p1, p2, p3, p4, p5, p6⟩ := S2.out.k.all
    by_cases hly : y < Y
    · go_wp2
      clear p0 p1 p2 p3 p4 p5 p6
      go_loopw [7] (fun i wr => ∃ x : Nat, x ≤ X ∧ i = .int .i64 x ∧ Hid (∀ x', x' < x → ¬ Mt W H f X Y g (x' : Nat) (y : Nat)) ∧ Hid (O3 w wr (W : Nat) (H : Nat) (.slice A (W * H) c) (X : Nat) (Y : Nat) (.slice D (X * Y) d))) (fun i _ => X - (intOf i).toNat)
      case atStart => exact ⟨0, Nat.zero_le _, rfl, fun x hx => absurd hx (by omega), S2⟩
      case round =>
        obtain ⟨x, hx, rfl, hal2, S3⟩ := hrel
        obtain ⟨q0, q1, q2, q3, q4, q5, q6⟩ := S3.out.g.all
        obtain ⟨p0, p1, p2, p3, p4, p5, p6⟩ := S3.out.k.all
        by_cases hlx : x < X
        · go_wp2_with fail
          refine (HM.out _ S3.out.bel x y (by omega) (by omega)).mono ?_
          rintro e w3 ⟨t, rfl, ht, hb⟩
          have S4 := Lib.hid (S3.out.next hb)
          have HT := Lib.hid ht
          clear hb ht q0 q1 q2 q3 q4 q5 q6 p0 p1 p2 p3 p4 p5 p6
          cases t
          · go_wp2
            refine ⟨⟨x + 1, by omega, by go_num, fun x' hx' => ?_, S4⟩, by simp [intOf]; omega⟩
            rcases Nat.lt_succ_iff_lt_or_eq.1 hx' with h | rfl
            · exact hal2.out x' h
            · exact fun h => by have := HT.out.2 h; cases this
          · obtain ⟨r0, r1, r2, r3⟩ := S4.out.p.all
            go_wp2
            refine bodyPost_ret (v := .tuple #[.agg #[.int .i64 (x : Nat), .int .i64 (y : Nat)], .int .i64 0]) (by simp [results, Try.results38, go_sem, r0, r1]) rfl ⟨x, y, 0, rfl, .inl ⟨x, y, ⟨HT.out.1 (by first | rfl | trivial), fun y' hy' x' hm => ?_, hal2.out⟩, rfl, rfl, rfl⟩, o3_fin S4.out.bel _ _⟩
            exact hall.out y' hy' (x' % X) (Nat.mod_lt _ hX0) ((mt_side hX0 x' y').1 hm)
        · have e : x = X := by omega
          subst e
          go_wp2
          refine ⟨⟨y + 1, by omega, by go_num, fun y' hy' => ?_, S3⟩, by simp [intOf]; omega⟩
          rcases Nat.lt_succ_iff_lt_or_eq.1 hy' with h | rfl
          · exact hall.out y' h
          · exact hal2.out
    · have e : y = Y := by omega
      subst e
      obtain ⟨r0, r1, r2, r3⟩ := S2.out.p.all
      go_wp2
      refine bodyPost_ret (v := .tuple #[.agg #[.int .i64 0, .int .i64 0], .int .i64 6]) (by simp [results, Try.results38, go_sem, r0, r1]) rfl ⟨0, 0, 6, rfl, .inr ⟨fun x' y' hm => ?_, rfl, rfl, rfl⟩, o3_fin S2.out.bel _ _⟩
      exact hall.out (y' % y) (Nat.mod_lt _ hY0) (x' % X) (Nat.mod_lt _ hX0) ((mt_side hX0 x' _).1 ((mt_foot hY0 x' y').1 hm))
end Go.Proofs.Ytjbofdgdcnfmoaa
