/- Offset by the program; both sides of it. -/
import Derived.Test.YtjbofdgdcnfmoaaOff
namespace Go.Proofs.Ytjbofdgdcnfmoaa
open Go.RowKit
set_option maxRecDepth 100000
set_option linter.unusedVariables false
set_option linter.unusedSimpArgs false

theorem O3.alloc {w wr : World} {W H X Y : Int} {sa sb : Value} (h : O3 w wr W H sa X Y sb) (o : Obj) : O3 w (wr.alloc o) W H sa X Y sb := h.next ((Below.refl _ _).alloc (Nat.le_refl _) o)
set_option maxHeartbeats 400000 in
theorem poff_ea (W H X Y : Int) (A D : Option Addr) (n c m d : Nat) (w : World) (hn : n ≤ 4200) (z : Int) (hx : chk W H n = z) (hne : (z != 0) = true) :
    Calls Try.prog 25 #[.agg #[.int .i64 W, .int .i64 H, .slice A n c], .agg #[.int .i64 X, .int .i64 Y, .slice D m d]] w fun e w' => e = .returned (.tuple #[.agg #[.int .i64 0, .int .i64 0], .int .i64 z]) ∧ Below w.heap.size w w' := by
  have HO := Lib.hid (fun u => pof_err W H A n c u hn z hx hne)
  have S0 := Lib.hid (O3.new w W H X Y (.slice A n c) (.slice D m d))
  clear hx
  go_enter Try.func25, Try.ntmps25
  obtain ⟨q0, q1, q2, q3, q4, q5, q6⟩ := S0.out.g.all
  go_wp2_with fail
  refine (HO.out _).mono ?_
  rintro e u ⟨rfl, hb⟩
  have S1 := Lib.hid ((S0.out.next hb).alloc (.cells #[.int .i64 0, .int .i64 0, .int .i64 0] 27))
  clear hb q0 q1 q2 q3 q4 q5 q6
  obtain ⟨r0, r1, r2, r3⟩ := S1.out.p.all
  go_wp2
  refine bodyPost_ret (v := .tuple #[.agg #[.int .i64 0, .int .i64 0], .int .i64 z]) (by simp [results, Try.results25, go_sem, r0, r1]) rfl ⟨rfl, o3_fin S1.out.bel _ _⟩
set_option maxHeartbeats 400000 in
theorem poff_eb (W H X Y : Int) (A D : Option Addr) (n c m d : Nat) (oa ob od : Int) (w : World) (hm : m ≤ 4200) (z : Int) (hx : chk X Y m = z) (hne : (z != 0) = true)
    (ho : ∀ v, Below w.heap.size w v → Calls Try.prog 19 #[.agg #[.int .i64 W, .int .i64 H, .slice A n c]] v fun e w' => e = .returned (.tuple #[.agg #[.int .i64 oa, .int .i64 ob, .int .i64 od], .int .i64 0]) ∧ Below v.heap.size v w') :
    Calls Try.prog 25 #[.agg #[.int .i64 W, .int .i64 H, .slice A n c], .agg #[.int .i64 X, .int .i64 Y, .slice D m d]] w fun e w' => e = .returned (.tuple #[.agg #[.int .i64 0, .int .i64 0], .int .i64 z]) ∧ Below w.heap.size w w' := by
  have HA := Lib.hid ho
  have HO := Lib.hid (fun u => pof_err X Y D m d u hm z hx hne)
  have S0 := Lib.hid (O3.new w W H X Y (.slice A n c) (.slice D m d))
  clear hx ho
  go_enter Try.func25, Try.ntmps25
  obtain ⟨q0, q1, q2, q3, q4, q5, q6⟩ := S0.out.g.all
  go_wp2_with fail
  refine (HA.out _ S0.out.bel).mono ?_
  rintro e u ⟨rfl, hb⟩
  have S1 := Lib.hid ((S0.out.next hb).alloc (.cells #[.int .i64 oa, .int .i64 ob, .int .i64 od] 27))
  clear q0 q1 q2 q3 q4 q5 q6
  obtain ⟨q0, q1, q2, q3, q4, q5, q6⟩ := (S0.out.next hb).k.all
  obtain ⟨p0, p1, p2, p3, p4, p5, p6⟩ := S1.out.k.all
  clear hb
  go_wp2_with fail
  clear q0 q1 q2 q3 q4 q5 q6 p0 p1 p2 p3 p4 p5 p6
  refine (HO.out _).mono ?_
  rintro e u2 ⟨rfl, hb⟩
  have S2 := Lib.hid ((S1.out.next hb).alloc (.cells #[.int .i64 0, .int .i64 0, .int .i64 0] 27))
  clear hb
  obtain ⟨r0, r1, r2, r3⟩ := S2.out.p.all
  go_wp2
  refine bodyPost_ret (v := .tuple #[.agg #[.int .i64 0, .int .i64 0], .int .i64 z]) (by simp [results, Try.results25, go_sem, r0, r1]) rfl ⟨rfl, o3_fin S2.out.bel _ _⟩
set_option maxHeartbeats 800000 in
theorem poff_ne (W H X Y : Int) (A D : Option Addr) (n c m d : Nat) (oa ob od pa pb pd : Int) (w : World) (hne : ¬ (oa = pa ∧ ob = pb ∧ od = pd))
    (ho : ∀ v, Below w.heap.size w v → Calls Try.prog 19 #[.agg #[.int .i64 W, .int .i64 H, .slice A n c]] v fun e w' => e = .returned (.tuple #[.agg #[.int .i64 oa, .int .i64 ob, .int .i64 od], .int .i64 0]) ∧ Below v.heap.size v w')
    (hp : ∀ v, Below w.heap.size w v → Calls Try.prog 19 #[.agg #[.int .i64 X, .int .i64 Y, .slice D m d]] v fun e w' => e = .returned (.tuple #[.agg #[.int .i64 pa, .int .i64 pb, .int .i64 pd], .int .i64 0]) ∧ Below v.heap.size v w') :
    Calls Try.prog 25 #[.agg #[.int .i64 W, .int .i64 H, .slice A n c], .agg #[.int .i64 X, .int .i64 Y, .slice D m d]] w fun e w' => e = .returned (.tuple #[.agg #[.int .i64 0, .int .i64 0], .int .i64 6]) ∧ Below w.heap.size w w' := by
  have HA := Lib.hid ho
  have HO := Lib.hid hp
  have S0 := Lib.hid (O3.new w W H X Y (.slice A n c) (.slice D m d))
  clear hp ho
  go_enter Try.func25, Try.ntmps25
  obtain ⟨q0, q1, q2, q3, q4, q5, q6⟩ := S0.out.g.all
  go_wp2_with fail
  refine (HA.out _ S0.out.bel).mono ?_
  rintro e u ⟨rfl, hb⟩
  have S1 := Lib.hid ((S0.out.next hb).alloc (.cells #[.int .i64 oa, .int .i64 ob, .int .i64 od] 27))
  have T1 := Lib.hid (Tri.new u oa ob od)
  clear q0 q1 q2 q3 q4 q5 q6
  obtain ⟨q0, q1, q2, q3, q4, q5, q6⟩ := (S0.out.next hb).k.all
  obtain ⟨p0, p1, p2, p3, p4, p5, p6⟩ := S1.out.k.all
  clear hb
  go_wp2_with fail
  clear q0 q1 q2 q3 q4 q5 q6 p0 p1 p2 p3 p4 p5 p6
  refine (HO.out _ S1.out.bel).mono ?_
  rintro e u2 ⟨rfl, hb⟩
  have S2 := Lib.hid ((S1.out.next hb).alloc (.cells #[.int .i64 pa, .int .i64 pb, .int .i64 pd] 27))
  have T2 := Lib.hid (Tri.new u2 pa pb pd)
  have U2 := Lib.hid ((T1.out.below hb T1.out.lt).below ((Below.refl u2.heap.size u2).alloc (Nat.le_refl _) (.cells #[.int .i64 pa, .int .i64 pb, .int .i64 pd] 27)) (T1.out.below hb T1.out.lt).lt)
  clear S1 T1
  obtain ⟨r0, r1, r2, r3⟩ := S2.out.p.all
  obtain ⟨t0, t1, t2, t3, t4, t5⟩ := T2.out.all
  obtain ⟨x0, x1, x2, x3, x4, x5⟩ := U2.out.all
  clear hb
  go_wp2
  all_goals
    refine bodyPost_ret (v := .tuple #[.agg #[.int .i64 0, .int .i64 0], .int .i64 6]) (by simp [results, Try.results25, go_sem, r0, r1]) rfl ⟨rfl, o3_fin S2.out.bel _ _⟩
theorem deq {p q : Prop} [Decidable p] {t : Bool} (h : p ↔ q) (k : t = true ↔ q) : decide p = t := by
  cases t
  · rw [decide_eq_false_iff_not]; exact fun e => by have := k.2 (h.1 e); cases this
  · rw [decide_eq_true_iff]; exact h.2 (k.1 rfl)
set_option maxHeartbeats 1600000 in
theorem poff_at {W H X Y P Q R : Nat} {f g : Nat → Bool} (hL : IsL W H f P Q R) (kL : IsL X Y g P Q R) (ba oa c bb ob d : Nat) (w : World) (la : ba < w.heap.size) (lb : bb < w.heap.size) (hca : ∀ i, i < W * H → w.cell? ⟨ba, oa + i, none⟩ = some (.bool (f i))) (hcb : ∀ i, i < X * Y → w.cell? ⟨bb, ob + i, none⟩ = some (.bool (g i)))
    (pa : W * H ≤ c) (pb : X * Y ≤ d) (hW : W ≤ 64) (hH0 : 1 ≤ H) (hH : H ≤ 64) (hX : X ≤ 64) (hY0 : 1 ≤ Y) (hY : Y ≤ 64) :
    Calls Try.prog 25 #[.agg #[.int .i64 (W : Nat), .int .i64 (H : Nat), .slice (some ⟨ba, oa, none⟩) (W * H) c], .agg #[.int .i64 (X : Nat), .int .i64 (Y : Nat), .slice (some ⟨bb, ob, none⟩) (X * Y) d]] w fun e w' => ∃ a b z : Int, e = .returned (.tuple #[.agg #[.int .i64 a, .int .i64 b], .int .i64 z]) ∧ FOut2 W H f X Y g a b z ∧ Below w.heap.size w w' := by
  have hW0 := Nat.le_trans hL.a0 hL.aw
  have hX0 := Nat.le_trans kL.a0 kL.aw
  have hPW := hL.aw
  have hPX := kL.aw
  have hP0 := hL.a0
  have hR0 := hL.c0
  have hRH := hL.ch
  have hRY := kL.ch
  have HCA := fun v (h : Below w.heap.size w v) => (show ∀ i, i < W * H → v.cell? ⟨ba, oa + i, none⟩ = some (.bool (f i)) from fun i hi => (h.cell (p := ⟨ba, oa + i, none⟩) la).trans (hca i hi))
  have HCB := fun v (h : Below w.heap.size w v) => (show ∀ i, i < X * Y → v.cell? ⟨bb, ob + i, none⟩ = some (.bool (g i)) from fun i hi => (h.cell (p := ⟨bb, ob + i, none⟩) lb).trans (hcb i hi))
  have HA := Lib.hid (fun v (h : Below w.heap.size w v) => pof_at hL (some ⟨ba, oa, none⟩) c v (fun _ => ⟨ba, oa, rfl, Nat.lt_of_lt_of_le la h.size, HCA v h⟩) pa hW hH0 hH)
  have HB := Lib.hid (fun v (h : Below w.heap.size w v) => pof_at kL (some ⟨bb, ob, none⟩) d v (fun _ => ⟨bb, ob, rfl, Nat.lt_of_lt_of_le lb h.size, HCB v h⟩) pb hX hY0 hY)
  have HF := Lib.hid (fun v (h : Below w.heap.size w v) => fits_any v W H ba oa c f X Y bb ob d g P R hW0 hW hH0 hH hX0 hX hY0 hY pa pb (Nat.lt_of_lt_of_le la h.size) (Nat.lt_of_lt_of_le lb h.size) (HCA v h) (HCB v h))
  have HI := Lib.hid (mt_iff hL kL hH0 hY0)
  have HMR := Lib.hid (fun (x y : Nat) (h : Mt W H f X Y g x y) => h.red kL hY0)
  have HRC := Lib.hid (show ∀ x y : Nat, y < R → Mt W H f X Y g x y → ∃ p : Nat, p < P ∧ Mt W H f X Y g p y from fun x y hy hm => by
    obtain ⟨p, q, h1, h2, h3, h4, h5⟩ := hm.red kL hY0
    have e : q = y := by rw [Int.emod_eq_of_lt (by omega) (by omega)] at h4; omega
    subst e
    exact ⟨p, h1, h3⟩)
  have HLX := Lib.hid (show ∀ q p : Nat, q < R → (∀ x, x < p → x < P → ¬ Mt W H f X Y g (x : Nat) (q : Nat)) → p ≤ P → ∀ x, x < p → ¬ Mt W H f X Y g (x : Nat) (q : Nat) from fun q p _ h1 h2 x hx => h1 x hx (by omega))
  have S0 := Lib.hid (O3.new w (W : Nat) (H : Nat) (X : Nat) (Y : Nat) (.slice (some ⟨ba, oa, none⟩) (W * H) c) (.slice (some ⟨bb, ob, none⟩) (X * Y) d))
  clear HCA HCB hca hcb hL kL
  go_enter Try.func25, Try.ntmps25
  obtain ⟨q0, q1, q2, q3, q4, q5, q6⟩ := S0.out.g.all
  go_wp2_with fail
  refine (HA.out _ S0.out.bel).mono ?_
  rintro e u ⟨rfl, hb⟩
  have S1 := Lib.hid ((S0.out.next hb).alloc (.cells #[.int .i64 (P : Nat), .int .i64 (Q : Nat), .int .i64 (R : Nat)] 27))
  have T1 := Lib.hid (Tri.new u (P : Nat) (Q : Nat) (R : Nat))
  clear q0 q1 q2 q3 q4 q5 q6
  obtain ⟨q0, q1, q2, q3, q4, q5, q6⟩ := (S0.out.next hb).k.all
  obtain ⟨p0, p1, p2, p3, p4, p5, p6⟩ := S1.out.k.all
  clear hb
  go_wp2_with fail
  clear q0 q1 q2 q3 q4 q5 q6 p0 p1 p2 p3 p4 p5 p6
  refine (HB.out _ S1.out.bel).mono ?_
  rintro e u2 ⟨rfl, hb⟩
  have S2 := Lib.hid ((S1.out.next hb).alloc (.cells #[.int .i64 (P : Nat), .int .i64 (Q : Nat), .int .i64 (R : Nat)] 27))
  have T2 := Lib.hid (Tri.new u2 (P : Nat) (Q : Nat) (R : Nat))
  have U2 := Lib.hid ((T1.out.below hb T1.out.lt).below ((Below.refl u2.heap.size u2).alloc (Nat.le_refl _) (.cells #[.int .i64 (P : Nat), .int .i64 (Q : Nat), .int .i64 (R : Nat)] 27)) (T1.out.below hb T1.out.lt).lt)
  clear S1 T1 hb
  generalize hu3 : u2.alloc (.cells #[.int .i64 (P : Nat), .int .i64 (Q : Nat), .int .i64 (R : Nat)] 27) = u3 at *
  obtain ⟨t0, t1, t2, t3, t4, t5⟩ := T2.out.all
  obtain ⟨x0, x1, x2, x3, x4, x5⟩ := U2.out.all
  obtain ⟨q0, q1, q2, q3, q4, q5, q6⟩ := S2.out.g.all
  obtain ⟨p0, p1, p2, p3, p4, p5, p6⟩ := S2.out.k.all
  go_wp2_with fail
  clear t0 t1 t2 t3 t4 t5 x0 x1 x2 x3 x4 x5 q0 q1 q2 q3 q4 q5 q6 p0 p1 p2 p3 p4 p5 p6 T2 hu3
  refine (HF.out _ S2.out.bel).mono ?_
  rintro e v ⟨ph, pf, pw, pt, PA, PB, rfl, hFT, ea, eb, hb⟩
  have S3 := Lib.hid (S2.out.next hb)
  have T3 := Lib.hid (U2.out.below hb U2.out.lt)
  have HQ := Lib.hid (fun (vr : World) (h : Below v.heap.size v vr) (x y : Nat) (hx : x ≤ 64) (hy : y ≤ 64) (t : Bool) (ht : t = true ↔ Mt W H f X Y g x y) => (show Calls Try.prog 114 #[.int .i64 (x : Nat), .int .i64 (y : Nat), .pointer (some ⟨ph, 0, none⟩), .pointer (some ⟨pf, 0, none⟩), .pointer (some ⟨pw, 0, none⟩), .pointer (some ⟨pt, 0, none⟩)] vr fun e w' => e = .returned (.bool t) ∧ Below v.heap.size v w' by
    have h1 := fits1_any (hFT.next h) (by omega) hP0 (by rw [ea.1]; exact hPW) (by rw [eb.1]; exact hPX) x y (by omega) (by omega)
    have h2 := deq (t := t) (p := ∀ y', y' < R → ∀ i, i < P → PA.c i y' = PB.c (x + i) (y' + y)) (by
      unfold PV.c
      rw [ea.1, ea.2.1, ea.2.2, eb.1, eb.2.1, eb.2.2]
      exact HI.out x y) ht
    rw [h2] at h1
    exact h1.mono fun e w' ⟨i, m, j⟩ => ⟨i, by subst j; exact Go.Proofs.below_drewN' h m⟩))
  clear hFT ea eb hb S2 U2 HF HA HB HI
  obtain ⟨t0, t1, t2, t3, t4, t5⟩ := T3.out.all
  go_wp2_with fail
  clear t0 t1 t2 t3 t4 t5
  go_loopw [43] (fun i wr => ∃ y : Nat, y ≤ R ∧ i = .int .i64 y ∧ Hid (∀ y', y' < y → ∀ x', x' < P → ¬ Mt W H f X Y g (x' : Nat) (y' : Nat)) ∧ Hid (Below v.heap.size v wr)) (fun i _ => R - (intOf i).toNat)
  case atStart => exact ⟨0, Nat.zero_le _, rfl, fun y hy => absurd hy (by omega), Lib.hid (Below.refl _ _)⟩
  case round =>
    obtain ⟨y, hy, rfl, hall, B2⟩ := hrel
    by_cases hly : y < R
    · obtain ⟨t0, t1, t2, t3, t4, t5⟩ := (T3.out.below B2.out T3.out.lt).all
      go_wp2
      clear t0 t1 t2 t3 t4 t5
      go_loopw [48] (fun i wr => ∃ x : Nat, x ≤ P ∧ i = .int .i64 x ∧ Hid (∀ x', x' < x → ¬ Mt W H f X Y g (x' : Nat) (y : Nat)) ∧ Hid (Below v.heap.size v wr)) (fun i _ => P - (intOf i).toNat)
      case atStart => exact ⟨0, Nat.zero_le _, rfl, fun x hx => absurd hx (by omega), B2⟩
      case round =>
        obtain ⟨x, hx, rfl, hal2, B3⟩ := hrel
        by_cases hlx : x < P
        · obtain ⟨t, ht⟩ : ∃ t : Bool, t = true ↔ Mt W H f X Y g (x : Nat) (y : Nat) := by
            by_cases h : Mt W H f X Y g (x : Nat) (y : Nat)
            · exact ⟨true, ⟨fun _ => h, fun _ => rfl⟩⟩
            · exact ⟨false, ⟨fun e => (by cases e), fun e => absurd e h⟩⟩
          have HT := Lib.hid ht
          clear ht
          have HQ1 := Lib.hid (HQ.out _ B3.out x y (by omega) (by omega) t HT.out)
          cases t
          · go_wp2_with (go_at_call 114; with_reducible refine HQ1.out.mono ?_; rintro e w3 ⟨rfl, h3⟩)
            refine ⟨⟨x + 1, by omega, by go_num, fun x' hx' => ?_, h3⟩, by simp [intOf]; omega⟩
            rcases Nat.lt_succ_iff_lt_or_eq.1 hx' with h | rfl
            · exact hal2.out x' h
            · exact fun h => by have := HT.out.2 h; cases this
          · go_wp2_with (go_at_call 114; with_reducible refine HQ1.out.mono ?_; rintro e w3 ⟨rfl, h3⟩; obtain ⟨r0, r1, r2, r3⟩ := (S3.out.next h3).p.all)
            refine bodyPost_ret (v := .tuple #[.agg #[.int .i64 (x : Nat), .int .i64 (y : Nat)], .int .i64 0]) (by simp [results, Try.results25, go_sem, r0, r1]) rfl ⟨x, y, 0, rfl, .inl ⟨x, y, ⟨HT.out.1 (by first | rfl | trivial), fun y' hy' x' hm => ?_, hal2.out⟩, rfl, rfl, rfl⟩, o3_fin (S3.out.next h3).bel _ _⟩
            obtain ⟨p, h1, h2⟩ := HRC.out x' y' (by omega) hm
            exact hall.out y' hy' p h1 h2
        · have e : x = P := by omega
          subst e
          go_wp2
          refine ⟨⟨y + 1, by omega, by go_num, fun y' hy' => ?_, B3⟩, by simp [intOf]; omega⟩
          rcases Nat.lt_succ_iff_lt_or_eq.1 hy' with h | rfl
          · exact hall.out y' h
          · exact hal2.out
    · have e : y = R := by omega
      subst e
      obtain ⟨r0, r1, r2, r3⟩ := (S3.out.next B2.out).p.all
      go_wp2
      refine bodyPost_ret (v := .tuple #[.agg #[.int .i64 0, .int .i64 0], .int .i64 6]) (by simp [results, Try.results25, go_sem, r0, r1]) rfl ⟨0, 0, 6, rfl, .inr ⟨fun x' y' hm => ?_, rfl, rfl, rfl⟩, o3_fin (S3.out.next B2.out).bel _ _⟩
      obtain ⟨p, q, h1, h2, h3, _⟩ := HMR.out x' y' hm
      exact hall.out q h2 p h1 h3
/-- Offset of both sides. -/
theorem off_two (W H X Y : Int) (A D : Option Addr) (n c m d : Nat) (f g : Nat → Bool) (w : World) (hr : Holds w w.heap.size A n f) (hs : Holds w w.heap.size D m g) (hn : n ≤ 4200) (hm : m ≤ 4200) (hc : n ≤ c) (hd : m ≤ d) : ∃ a b z : Int, ∀ v, Below w.heap.size w v →
    (Calls Try.prog 25 #[.agg #[.int .i64 W, .int .i64 H, .slice A n c], .agg #[.int .i64 X, .int .i64 Y, .slice D m d]] v fun e w' => e = .returned (.tuple #[.agg #[.int .i64 a, .int .i64 b], .int .i64 z]) ∧ Below v.heap.size v w') ∧
    (Calls Try.prog 38 #[.agg #[.int .i64 W, .int .i64 H, .slice A n c], .agg #[.int .i64 X, .int .i64 Y, .slice D m d]] v fun e w' => e = .returned (.tuple #[.agg #[.int .i64 a, .int .i64 b], .int .i64 z]) ∧ Below v.heap.size v w') := by
  by_cases hx : chk W H n = 0
  · obtain ⟨W', H', rfl, rfl, h1, h2, h3, h4, rfl⟩ := chk_nat hx
    obtain ⟨A1, B1, C1, hL⟩ := IsL.ex W' H' f h1 h3
    have HO := fun v (hv : Below w.heap.size w v) => pof_at hL A c v ((hr.below hv).more hv.size) hc h2 h3 h4
    by_cases hy : chk X Y m = 0
    · obtain ⟨X', Y', rfl, rfl, k1, k2, k3, k4, rfl⟩ := chk_nat hy
      obtain ⟨A2, B2, C2, kL⟩ := IsL.ex X' Y' g k1 k3
      obtain ⟨a, b, z, hF⟩ := FOut2.ex W' H' f X' Y' g
      refine ⟨a, b, z, fun v hv => ⟨?_, ?_⟩⟩
      · by_cases e : A1 = A2 ∧ B1 = B2 ∧ C1 = C2
        · obtain ⟨rfl, rfl, rfl⟩ := e
          obtain ⟨ba, oa, rfl, i1, i2⟩ := ((hr.below hv).more hv.size).some_ (mul_ge h1 h3)
          obtain ⟨bb, ob, rfl, j1, j2⟩ := ((hs.below hv).more hv.size).some_ (mul_ge k1 k3)
          refine (poff_at hL kL ba oa c bb ob d v i1 j1 i2 j2 hc hd h2 h3 h4 k2 k3 k4).mono ?_
          rintro e w' ⟨a', b', z', rfl, hF', hb⟩
          obtain ⟨rfl, rfl, rfl⟩ := hF.one hF'
          exact ⟨rfl, hb⟩
        · have hF6 : a = 0 ∧ b = 0 ∧ z = 6 := by
            rcases hF with ⟨p, q, h, _⟩ | ⟨_, h⟩
            · exact absurd (hL.same kL (h.mt.rep h1 h3 k1 k3)) e
            · exact h
          obtain ⟨rfl, rfl, rfl⟩ := hF6
          exact poff_ne W' H' X' Y' A D _ c _ d A1 B1 C1 A2 B2 C2 v (by omega) (fun u hu => HO u (hv.trans (hu.mono hv.size))) (fun u hu => pof_at kL D d u ((hs.below (hv.trans (hu.mono hv.size))).more (Nat.le_trans hv.size hu.size)) hd k2 k3 k4)
      · refine (roff_ok W' H' A c f X' Y' D d g v ((hr.below hv).more hv.size) ((hs.below hv).more hv.size) h1 h2 h3 h4 k1 k2 k3 k4).mono ?_
        rintro e w' ⟨a', b', z', rfl, hF', hb⟩
        obtain ⟨rfl, rfl, rfl⟩ := hF.one hF'
        exact ⟨rfl, hb⟩
    · exact ⟨0, 0, chk X Y m, fun v hv => ⟨poff_eb W' H' X Y A D _ c m d A1 B1 C1 v hm _ rfl (by simpa using hy) (fun u hu => HO u (hv.trans (hu.mono hv.size))), roff_err W' H' X Y A D _ c m d v hn hm _ (by rw [if_pos hx]) (by simpa using hy)⟩⟩
  · exact ⟨0, 0, chk W H n, fun v hv => ⟨poff_ea W H X Y A D n c m d v hn _ rfl (by simpa using hx), roff_err W H X Y A D n c m d v hn hm _ (by rw [if_neg hx]) (by simpa using hx)⟩⟩
end Go.Proofs.Ytjbofdgdcnfmoaa
