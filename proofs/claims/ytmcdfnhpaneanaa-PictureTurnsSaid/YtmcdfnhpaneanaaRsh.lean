/- Layer 14 of the reference: shown. -/
import Derived.Test.YtmcdfnhpaneanaaCsm
import Derived.Test.YtmcdfnhpaneanaaCeq
import Derived.BigRegion
import Derived.StillTailTactics
import Derived.Deep.DeepCutAuto
namespace Go.Proofs.Ytmcdfnhpaneanaa
open Go.RowKit
set_option maxRecDepth 100000
set_option linter.unusedVariables false
set_option linter.unusedSimpArgs false

theorem But.ibox {k g : Nat} {w w' : World} {W H : Int} {v : Value} (hb : But k w w') (h : IBox w g W H v) (hg : g ≠ k) : IBox w' g W H v := (hb.block g h.lt hg).trans h
theorem But.iholds {k B n : Nat} {w w' : World} {A : Option Addr} {f : Nat → Int} (hb : But k w w') (h : L2.Holds w B A n f) (hB : B ≤ k) (hw : B ≤ w.heap.size) : L2.Holds w' B A n f := fun h0 => by
  obtain ⟨b, o, e, hlt, hc⟩ := h h0
  exact ⟨b, o, e, hlt, fun i hi => (World.cell?_of_block (w := w) (w' := w') (a := ⟨b, o + i, none⟩) (hb.block b (by omega) (by omega))).trans (hc i hi)⟩
theorem But.setI {k i : Nat} {w w' : World} {v : Value} (h : But k w w') : But k w (w'.setCell ⟨k, i, none⟩ v) :=
  ⟨h.os, h.tape, h.output, by simpa using h.size, fun b hb hne => (Below.heap_setCell _ _ _ b hne).trans (h.block b hb hne)⟩
theorem But.drw {k : Nat} {w w' : World} (h : But k w w') : But k w w'.drew := ⟨h.os, h.tape, h.output, h.size, h.block⟩
theorem But.trans {k : Nat} {w w' w'' : World} (h1 : But k w w') (h2 : But k w' w'') : But k w w'' :=
  ⟨h2.os.trans h1.os, h2.tape.trans h1.tape, h2.output.trans h1.output, Nat.le_trans h1.size h2.size, fun b hb hne => (h2.block b (Nat.lt_of_lt_of_le hb h1.size) hne).trans (h1.block b hb hne)⟩
set_option maxHeartbeats 6400000 in
theorem irow_ne_box {w : World} {k g n : Nat} {f : Nat → Int} {X Y : Int} {v : Value} (h : L2.Row w k n f) (hx : Box w g X Y v) : k ≠ g := by
  rintro rfl
  obtain ⟨cs, h1, _⟩ := h
  unfold Box at hx
  rw [h1] at hx
  cases hx
/-- What a double loop over ints has written behind x columns and y cells. -/
def cpI (ax ay : Nat → Nat) (G : Nat → Nat → Int) (x y : Nat) : Nat → Int := fun i => if ax i < x ∨ ax i = x ∧ ay i < y then G (ax i) (ay i) else 0
theorem cpI_zero (ax ay : Nat → Nat) (G : Nat → Nat → Int) : cpI ax ay G 0 0 = fun _ => 0 := by funext i; unfold cpI; rw [if_neg (by omega)]
theorem cpI_succ {ax ay : Nat → Nat} {G : Nat → Nat → Int} {x y t j : Nat} (h : j = t ↔ ax j = x ∧ ay j = y) : (if j = t then G x y else cpI ax ay G x y j) = cpI ax ay G x (y + 1) j := by
  unfold cpI
  by_cases e : j = t
  · obtain ⟨e1, e2⟩ := h.1 e
    rw [if_pos e, if_pos (by omega), e1, e2]
  · have h2 : ¬ (ax j = x ∧ ay j = y) := fun q => e (h.2 q)
    rw [if_neg e]
    by_cases e3 : ax j < x ∨ ax j = x ∧ ay j < y
    · rw [if_pos e3, if_pos (by omega)]
    · rw [if_neg e3, if_neg (by omega)]
theorem cpI_next {ax ay : Nat → Nat} {G : Nat → Nat → Int} {x m j : Nat} (h : ay j < m) : cpI ax ay G x m j = cpI ax ay G (x + 1) 0 j := by
  unfold cpI
  by_cases e : ax j < x ∨ ax j = x ∧ ay j < m
  · rw [if_pos e, if_pos (by omega)]
  · rw [if_neg e, if_neg (by omega)]
theorem cpI_all {ax ay : Nat → Nat} {G : Nat → Nat → Int} {m j : Nat} (h : ax j < m) : cpI ax ay G m 0 j = G (ax j) (ay j) := by
  unfold cpI
  rw [if_pos (.inl h)]
theorem wofI {B : Nat} {w v : World} (h : Below B w v) : ∃ v' : World, v' = v := ⟨v, rfl⟩
theorem But.of {k : Nat} {w w' : World} (hb : Below w.heap.size w w') : But k w w' := ⟨hb.os, hb.tape, hb.output, hb.size, fun b h _ => hb.block b h⟩
theorem irow_ne_ibox {w : World} {k g n : Nat} {f : Nat → Int} {X Y : Int} {v : Value} (h : L2.Row w k n f) (hx : IBox w g X Y v) : k ≠ g := by
  rintro rfl
  obtain ⟨cs, h1, _⟩ := h
  unfold IBox at hx
  rw [h1] at hx
  cases hx
theorem fin_v {w w2 : World} {X Y : Int} {N r k c : Nat} {a b d : Value} {F : Nat → Int} (hr : w.heap.size ≤ r) (hk : k ≠ r) (hkw : w.heap.size ≤ k) (hrow : L2.Row w2 k N F) (hb : Below w.heap.size w w2) :
    RV w X Y N F (.returned (.agg #[.int .i64 X, .int .i64 Y, .slice (some ⟨k, 0, none⟩) N c])) (((w2.setCell ⟨r, 0, none⟩ a).setCell ⟨r, 1, none⟩ b).setCell ⟨r, 2, none⟩ d) :=
  ⟨k, c, rfl, hkw, ((hrow.far (p := ⟨r, 0, none⟩) hk a).far (p := ⟨r, 1, none⟩) hk b).far (p := ⟨r, 2, none⟩) hk d, bel_r3 hr hb⟩
theorem irow_drw {w : World} {k n : Nat} {f : Nat → Int} (h : L2.Row w k n f) : L2.Row w.drew k n f := h
theorem mk_one (w : World) (N : Nat) (W H : Int) : IBox ((w.alloc (.cells (madeCells #[.int .i64 0] N) 3)).alloc (.cells #[.int .i64 W, .int .i64 H, .slice (some ⟨w.heap.size, 0, none⟩) N N] 24)) (w.heap.size + 1) W H (.slice (some ⟨w.heap.size, 0, none⟩) N N) ∧
    L2.Row ((w.alloc (.cells (madeCells #[.int .i64 0] N) 3)).alloc (.cells #[.int .i64 W, .int .i64 H, .slice (some ⟨w.heap.size, 0, none⟩) N N] 24)) w.heap.size N (fun _ => 0) ∧
    Below w.heap.size w ((w.alloc (.cells (madeCells #[.int .i64 0] N) 3)).alloc (.cells #[.int .i64 W, .int .i64 H, .slice (some ⟨w.heap.size, 0, none⟩) N N] 24)) := by
  refine ⟨?_, (rmade w N).alloc _, ((Below.refl _ _).alloc (Nat.le_refl _) _).alloc (by simp) _⟩
  have h := IBox.new (w.alloc (.cells (madeCells #[.int .i64 0] N) 3)) W H (.slice (some ⟨w.heap.size, 0, none⟩) N N)
  rwa [World.size_alloc] at h
theorem mk_two (w : World) (N : Nat) (W H : Int) : IBox ((w.alloc (.cells #[.int .i64 W, .int .i64 H, .slice (some ⟨w.heap.size + 1, 0, none⟩) N N] 24)).alloc (.cells (madeCells #[.int .i64 0] N) 3)) w.heap.size W H (.slice (some ⟨w.heap.size + 1, 0, none⟩) N N) ∧
    L2.Row ((w.alloc (.cells #[.int .i64 W, .int .i64 H, .slice (some ⟨w.heap.size + 1, 0, none⟩) N N] 24)).alloc (.cells (madeCells #[.int .i64 0] N) 3)) (w.heap.size + 1) N (fun _ => 0) ∧
    Below w.heap.size w ((w.alloc (.cells #[.int .i64 W, .int .i64 H, .slice (some ⟨w.heap.size + 1, 0, none⟩) N N] 24)).alloc (.cells (madeCells #[.int .i64 0] N) 3)) := by
  refine ⟨(IBox.new w W H _).alloc _, ?_, ((Below.refl _ _).alloc (Nat.le_refl _) _).alloc (by simp) _⟩
  have h := rmade (w.alloc (.cells #[.int .i64 W, .int .i64 H, .slice (some ⟨w.heap.size + 1, 0, none⟩) N N] 24)) N
  rwa [World.size_alloc] at h
set_option maxHeartbeats 3200000 in
theorem rshown_any (W H : Nat) (A B C : Option Addr) (c d e : Nat) (f : Nat → Bool) (a b : Nat → Int) (below : Bool) (w : World) (hf : Holds w w.heap.size A (W * H) f) (ha : L2.Holds w w.heap.size B W a) (hb1 : L2.Holds w w.heap.size C H b) (W0 : 1 ≤ W) (W1 : W ≤ 64) (H0 : 1 ≤ H) (H1 : H ≤ 64) :
    Calls Try.prog 72 #[.agg #[.int .i64 (W : Nat), .int .i64 (H : Nat), .slice A (W * H) c], .slice B W d, .slice C H e, .bool below] w (RV w (W : Nat) (H : Nat) (W * H) (shF W (fun i => f i != below) a b)) := by
  have hN : W * H ≤ 4096 := Nat.mul_le_mul W1 H1
  have e1 : IntKind.i64.wrap ((W : Int) * (H : Int)) = ((W * H : Nat) : Int) := by
    rw [← Int.natCast_mul]; exact IntWalk.i64_in _ (by omega)
  have hmk := mki_run (W * H) hN
  have HAT := Lib.hid (fun z x y (hx : x < W) (hy : y < H) (hr : Holds z w.heap.size A (W * H) f) (hz : w.heap.size ≤ z.heap.size) => at_nat W H A c (x : Nat) (y : Nat) f z w.heap.size hr hz W1 H1 x y rfl rfl hx hy)
  have HIX := Lib.hid (fun x y (hx : x < W) (hy : y < H) => ix_bd (W := W) (H := H) hx hy)
  have HPA := Lib.hid (fun x y j (hx : x < W) (hj : j < W * H) => plain_at (W := W) (H := H) (x := x) (y := y) (j := j) hx hj)
  have HDB := Lib.hid (fun j (hj : j < W * H) => div_bd (W := W) (H := H) hj)
  obtain ⟨G, hG⟩ : ∃ G : Nat → Nat → Int, G = fun x y => if (f (y * W + x) != below) = true then a x else b y := ⟨_, rfl⟩
  have HG := Lib.hid (fun x y => show G x y = if (f (y * W + x) != below) = true then a x else b y by rw [hG])
  have HEND := Lib.hid (fun i (hi : i < W * H) => show G (i % W) (i / W) = shF W (fun i => f i != below) a b i by rw [hG]; show (if (f (i / W * W + i % W) != below) = true then _ else _) = _; rw [nat_div_mod]; rfl)
  obtain ⟨F, hF⟩ : ∃ F, shF W (fun i => f i != below) a b = F := ⟨_, rfl⟩
  rw [hF] at HEND ⊢
  have HF := Lib.hid hf
  have HA := Lib.hid ha
  have HB := Lib.hid hb1
  clear hf ha hb1 hG hF
  obtain ⟨N, hNe⟩ : ∃ N, W * H = N := ⟨_, rfl⟩
  rw [hNe] at hN e1 hmk HF ⊢
  simp only [hNe] at HAT HIX HPA HDB HEND
  clear hNe
  have LB0 := Lib.hid (Below.refl w.heap.size w)
  have X1 := Box.new w (W : Nat) (H : Nat) (.slice A N c)
  have X1 := Lib.hid X1
  have LB0 := Lib.hid (LB0.out.alloc LB0.out.size (.cells #[.int .i64 (W : Nat), .int .i64 (H : Nat), .slice A N c] 27))
  have X1 := Lib.hid (X1.out.alloc (.cells #[.int .i64 0, .int .i64 0, .slice none 0 0] 24))
  have R0 := IBox.new (w.alloc (.cells #[.int .i64 (W : Nat), .int .i64 (H : Nat), .slice A N c] 27)) 0 0 (.slice none 0 0)
  rw [show ((w.alloc (.cells #[.int .i64 (W : Nat), .int .i64 (H : Nat), .slice A N c] 27))).heap.size = w.heap.size + 1 by simp] at R0
  have R0 := Lib.hid R0
  have LB0 := Lib.hid (LB0.out.alloc LB0.out.size (.cells #[.int .i64 0, .int .i64 0, .slice none 0 0] 24))
  go_enter Try.func72, Try.ntmps72
  go_upto_region 1 with (fail)
  generalize (w.alloc (.cells #[.int .i64 (W : Nat), .int .i64 (H : Nat), .slice A N c] 27)).alloc (.cells #[.int .i64 0, .int .i64 0, .slice none 0 0] 24) = w0 at *
  go_cut [9] (fun s wx => ∃ g k, s = .pointer (some ⟨g, 0, none⟩) ∧ Hid (IBox wx g (W : Nat) (H : Nat) (.slice (some ⟨k, 0, none⟩) N N)) ∧ Hid (L2.Row wx k N (fun _ => 0)) ∧ Hid (w0.heap.size ≤ k) ∧ Hid (Below w0.heap.size w0 wx))
  case first =>
    obtain ⟨q0, q1, q2, q3, q4, q5, q6⟩ := X1.out.all
    go_region
    all_goals
      have H1 := mk_one w0 N ((W : Nat) : Int) ((H : Nat) : Int)
      have H2 := mk_two w0 N ((W : Nat) : Int) ((H : Nat) : Int)
      go_wp2
      go_meet
      first
        | exact ⟨w0.heap.size + 1, w0.heap.size, rfl, Lib.hid H1.1.drew, Lib.hid (irow_drw H1.2.1), Lib.hid (Nat.le_refl _), Lib.hid H1.2.2.drew⟩
        | exact ⟨w0.heap.size, w0.heap.size + 1, rfl, Lib.hid H2.1.drew, Lib.hid (irow_drw H2.2.1), Lib.hid (Nat.le_succ _), Lib.hid H2.2.2.drew⟩
  case rest =>
    obtain ⟨ob, kb, rfl, XO, RK, hkI, HB1⟩ := hcut
    have X1 := Lib.hid (X1.out.below HB1.out X1.out.lt)
    have R0 := Lib.hid (R0.out.below HB1.out R0.out.lt)
    have LB1 := Lib.hid (LB0.out.trans (HB1.out.mono LB0.out.size))
    have hkw : w.heap.size ≤ kb := Nat.le_trans LB0.out.size hkI.out
    have HB4 := Lib.hid (HB.out.below LB1.out)
    have HA4 := Lib.hid (HA.out.below LB1.out)
    have HF4 := Lib.hid (HF.out.below LB1.out)
    clear HB1 LB0 hkI HB HA HF
    go_upto_region 2 with (fail)
    obtain ⟨w4, hw4⟩ := wofI LB1.out
    subst hw4
    have n1 : w.heap.size ≠ kb := fun h => irow_ne_box RK.out X1.out h.symm
    have n4 : ob ≠ kb := fun h => irow_ne_ibox RK.out XO.out h.symm
    have n5 : w.heap.size + 1 ≠ kb := fun h => irow_ne_ibox RK.out R0.out h.symm
    have hw4 := LB1.out.size
    have HK := Lib.hid (fun (z : World) (h : But kb w4 z) => (show z.cell? ⟨ob, 2, none⟩ = some (.slice (some ⟨kb, 0, none⟩) N N) ∧ z.cell? ⟨w.heap.size, 0, none⟩ = some (.int .i64 (W : Nat)) ∧ z.cell? ⟨w.heap.size, 1, none⟩ = some (.int .i64 (H : Nat)) ∧ z.cell? ⟨w.heap.size, 2, none⟩ = some (.slice A N c) ∧ z.frozen? ⟨ob, 2, none⟩ = false ∧ z.frozen? ⟨w.heap.size, 0, none⟩ = false ∧ z.frozen? ⟨w.heap.size, 1, none⟩ = false ∧ z.frozen? ⟨w.heap.size, 2, none⟩ = false
      from ⟨(h.ibox XO.out n4).c2, (h.box X1.out n1).c0, (h.box X1.out n1).c1, (h.box X1.out n1).c2, (h.ibox XO.out n4).free 2, (h.box X1.out n1).free 0, (h.box X1.out n1).free 1, (h.box X1.out n1).free 2⟩))
    obtain ⟨s0, s1, s2, s3, s4, s5, s6, s7⟩ := HK.out _ (But.of (Below.refl _ _))
    go_wp2
    clear s0 s1 s2 s3 s4 s5 s6 s7
    go_loopw [10] (fun i wr => ∃ x : Nat, x ≤ W ∧ i = .int .i64 x ∧ Hid (L2.Row wr kb N (cpI (fun i => i % W) (fun i => i / W) G x 0)) ∧ Hid (But kb w4 wr)) (fun i _ => W - (intOf i).toNat)
    case atStart => exact ⟨0, Nat.zero_le _, rfl, Lib.hid (by rw [cpI_zero]; exact RK.out), Lib.hid (But.of (Below.refl _ _))⟩
    case round =>
      obtain ⟨x, hx, rfl, HR, HU⟩ := hrel
      obtain ⟨s0, s1, s2, s3, s4, s5, s6, s7⟩ := HK.out _ HU.out
      by_cases hlt : x < W
      · have y1 : (x : Int) < (W : Int) := by omega
        have y2 : (0 : Int) ≤ (x : Int) := by omega
        go_wp2
        clear s0 s1 s2 s3 s4 s5 s6 s7
        go_loopw [11] (fun i wr => ∃ y : Nat, y ≤ H ∧ i = .int .i64 y ∧ Hid (L2.Row wr kb N (cpI (fun i => i % W) (fun i => i / W) G x y)) ∧ Hid (But kb w4 wr)) (fun i _ => H - (intOf i).toNat)
        case atStart => exact ⟨0, Nat.zero_le _, rfl, HR, HU⟩
        case round =>
          obtain ⟨y, hy, rfl, HR2, HU2⟩ := hrel
          clear HR HU
          obtain ⟨s0, s1, s2, s3, s4, s5, s6, s7⟩ := HK.out _ HU2.out
          by_cases hly : y < H
          · have y3 : (y : Int) < (H : Int) := by omega
            have y4 : (0 : Int) ≤ (y : Int) := by omega
            have hix := HIX.out x y hlt hly
            have HGx := Lib.hid (HG.out x y)
            have HSU := Lib.hid (fun j (hj : j < N) => cpI_succ (ax := fun i => i % W) (ay := fun i => i / W) (G := G) (x := x) (y := y) (t := y * W + x) (j := j) (HPA.out x y j hlt hj))
            have HATx := Lib.hid (fun z (hr : Holds z w.heap.size A N f) (hz : w.heap.size ≤ z.heap.size) => HAT.out z x y hlt hly hr hz)
            have b1 : y * W ≤ 4096 := by omega
            have e2 : IntKind.i64.wrap ((y : Int) * (W : Int)) = ((y * W : Nat) : Int) := by
              rw [← Int.natCast_mul]; exact IntWalk.i64_in _ (by omega)
            obtain ⟨m, hm⟩ : ∃ z, y * W + x = z := ⟨_, rfl⟩
            simp only [hm] at HGx HSU HATx hix
            obtain ⟨ym, hym⟩ : ∃ z, y * W = z := ⟨_, rfl⟩
            rw [hym] at e2 hm b1
            have e3 : IntKind.i64.wrap ((ym : Int) + (x : Int)) = (m : Int) := by rw [IntWalk.i64_in _ (by omega)]; omega
            have y5 : (m : Int) < (N : Int) := by omega
            have y6 : (0 : Int) ≤ (m : Int) := by omega
            clear hm hym b1
            obtain ⟨bb, ob2, eb, lb, cb⟩ := (HU2.out.iholds HB4.out hkw hw4) (by omega)
            have c0 := cb y hly
            clear cb
            subst eb
            obtain ⟨bv, hbv⟩ : ∃ z, b y = z := ⟨_, rfl⟩
            rw [hbv] at c0 HGx
            clear hbv
            have r0 := HR2.out.free m
            have r1 := HR2.out.cell hix
            obtain ⟨ov, hov⟩ : ∃ z, cpI (fun i => i % W) (fun i => i / W) G x y m = z := ⟨_, rfl⟩
            rw [hov] at r1
            clear hov
            have hkl := HR2.out.lt
            go_upto_region 8 with (fail)
            go_region
            have D1 := Lib.hid (HU2.out.setI (i := m) (v := .int .i64 bv)).drw
            have R1 := Lib.hid (irow_drw (HR2.out.set_ m bv))
            clear s0 s1 s2 s3 s4 s5 s6 s7 r0 r1 c0
            obtain ⟨w5, hw5⟩ : ∃ z, (wr.setCell ⟨kb, m, none⟩ (.int .i64 bv)).drew = z := ⟨_, rfl⟩
            rw [hw5] at D1 R1 ⊢
            clear hw5
            obtain ⟨s0, s1, s2, s3, s4, s5, s6, s7⟩ := HK.out _ D1.out
            go_wp2_with fail
            clear s0 s1 s2 s3 s4 s5 s6 s7
            with_reducible refine Calls.mono (HATx.out _ (D1.out.holds HF4.out hkw hw4) (Nat.le_trans hw4 D1.out.size)) ?_
            rintro e w6 ⟨rfl, hb⟩
            have D2 := Lib.hid (D1.out.trans (But.of hb))
            have R2 := Lib.hid (R1.out.below hb R1.out.lt)
            clear hb D1 R1
            obtain ⟨s0, s1, s2, s3, s4, s5, s6, s7⟩ := HK.out _ D2.out
            cases hfx : (f m != below)
            · rw [hfx] at HGx
              have R3 := Lib.hid (R2.out.congr (f' := cpI (fun i => i % W) (fun i => i / W) G x (y + 1)) (fun j hj => by rw [← HSU.out j hj, HGx.out]; rfl))
              obtain ⟨fv, hfv⟩ : ∃ z, f m = z := ⟨_, rfl⟩
              rw [hfv] at hfx ⊢
              cases fv <;> cases below <;> first | (cases hfx; done) | skip
              all_goals
                clear hfx hfv
                go_wp2
                go_roundw
                case rel => exact ⟨y + 1, by omega, by go_num, R3, D2⟩
                case measure => simp [intOf]; omega
            · rw [hfx] at HGx
              obtain ⟨ba, oa, ea, la, ca⟩ := (D2.out.iholds HA4.out hkw hw4) (by omega)
              have c0 := ca x hlt
              clear ca
              subst ea
              obtain ⟨av, hav⟩ : ∃ z, a x = z := ⟨_, rfl⟩
              rw [hav] at c0 HGx
              clear hav
              have r0 := R2.out.free m
              have r1 := R2.out.cell hix
              rw [if_pos rfl] at r1
              have D3 := Lib.hid (D2.out.setI (i := m) (v := .int .i64 av)).drw
              have R3 := Lib.hid ((irow_drw (R2.out.set_ m av)).congr (f' := cpI (fun i => i % W) (fun i => i / W) G x (y + 1)) (fun j hj => by
                rw [← HSU.out j hj, HGx.out]
                by_cases e : j = m
                · simp [e]
                · simp [e]))
              obtain ⟨fv, hfv⟩ : ∃ z, f m = z := ⟨_, rfl⟩
              rw [hfv] at hfx ⊢
              cases fv <;> cases below <;> first | (cases hfx; done) | skip
              all_goals
                clear hfx hfv
                go_upto_region 10 with (fail)
                go_region
                clear s0 s1 s2 s3 s4 s5 s6 s7 r0 r1 c0
                go_wp2
                go_roundw
                case rel => exact ⟨y + 1, by omega, by go_num, R3, D3⟩
                case measure => simp [intOf]; omega
          · have e : y = H := by omega
            have y3 : ¬ (y : Int) < (H : Int) := by omega
            have R3 := Lib.hid (HR2.out.congr (f' := cpI (fun i => i % W) (fun i => i / W) G (x + 1) 0) (fun j hj => by rw [e]; exact cpI_next (HDB.out j hj)))
            clear e
            go_wp2
            go_roundw
            case rel => exact ⟨x + 1, by omega, by go_num, R3, HU2⟩
            case measure => simp [intOf]; omega
      · have e : x = W := by omega
        have y1 : ¬ (x : Int) < (W : Int) := by omega
        have R3 := Lib.hid (HR.out.congr (f' := F) (fun j hj => by rw [e]; exact (cpI_all (ax := fun i => i % W) (ay := fun i => i / W) (G := G) (m := W) (j := j) (Nat.mod_lt _ W0)).trans (HEND.out j hj)))
        have XOr := Lib.hid (HU.out.ibox XO.out n4)
        have R0r := Lib.hid (HU.out.ibox R0.out n5)
        have LBr := Lib.hid (HU.out.below LB1.out hkw)
        clear e HR HU
        obtain ⟨t0, t1, t2, t3, t4, t5, t6⟩ := XOr.out.all
        obtain ⟨v0, v1, v2, v3, v4, v5, v6⟩ := R0r.out.all
        obtain ⟨rb, hrb⟩ : ∃ z, w.heap.size + 1 = z := ⟨_, rfl⟩
        have hrw : w.heap.size ≤ rb := by omega
        rw [hrb] at v0 v1 v2 v3 v4 v5 v6 n5 ⊢
        clear hrb
        go_wp2
        refine bodyPost_ret (v := .agg #[.int .i64 (W : Nat), .int .i64 (H : Nat), .slice (some ⟨kb, 0, none⟩) N N]) (by simp [results, Try.results72, go_sem, v0, v1, v2, v3, v4, v5]) rfl ?_
        exact fin_v hrw n5.symm hkw R3.out LBr.out
  
end Go.Proofs.Ytmcdfnhpaneanaa
