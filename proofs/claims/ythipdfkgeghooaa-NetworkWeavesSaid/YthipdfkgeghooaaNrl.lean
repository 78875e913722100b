/- The reference's Line. -/
import Derived.Test.YthipdfkgeghooaaNln
import Derived.Test.YthipdfkgeghooaaNrr
namespace Go.Proofs.Ythipdfkgeghooaa
open Go.RowKit
set_option maxRecDepth 100000
set_option linter.unusedVariables false
set_option linter.unusedSimpArgs false

set_option maxHeartbeats 3200000 in
theorem rln_bad (A : Option Addr) (n c : Nat) (X Y : Nat → Int) (w : World) (hn : n ≤ 100000) (h : PH w w.heap.size A n X Y) (hz : ptB n X Y = false) :
    Calls Try.prog 24 #[.slice A n c] w fun e w' => e = .returned (.tuple #[.slice none 0 0, .int .i64 8]) ∧ Below w.heap.size w w' := by
  have HG := Lib.hid h
  have HZ := Lib.hid hz
  clear h hz
  by_cases h0 : n = 0
  · subst h0
    go_enter Try.func24, Try.ntmps24
    go_wp2
    refine bodyPost_ret (v := .tuple #[.slice none 0 0, .int .i64 8]) (by simp [results, Try.results24, go_sem]) rfl ?_
    exact ⟨rfl, Below.refl _ _⟩
  obtain ⟨b, o, rfl, hl, hc⟩ := HG.out (by omega)
  have z0 : ((n : Int) == 0) = false := by simp; omega
  have c0 : w.cell? ⟨b, o, none⟩ = some (.int .i64 (X 0)) := by have := (hc 0 (by omega)).1; rwa [Nat.zero_mul, Nat.add_zero] at this
  have HN := Lib.hid h0
  have y0 : (0 : Int) < (n : Int) := by omega
  have HCC := Lib.hid hc
  clear HG h0 hc
  by_cases hx0 : X 0 = 0
  · have HX0 := Lib.hid hx0
    rw [hx0] at c0
    clear hx0
    go_enter Try.func24, Try.ntmps24
    go_wp2
    go_loopw [4] (fun i wr => ∃ j : Nat, j ≤ n ∧ i = .int .i64 j ∧ Hid (∀ i, i < j → ptG X Y i) ∧ Hid (Below w.heap.size w wr)) (fun i _ => n - (intOf i).toNat)
    case atStart => exact ⟨0, Nat.zero_le _, rfl, Lib.hid (fun j h => by omega), Lib.hid (Below.refl _ _)⟩
    case round =>
      obtain ⟨j, hj, rfl, HA, HL⟩ := hrel
      by_cases hlt : j < n
      · have y1 : (j : Int) < (n : Int) := by omega
        have y2 : (0 : Int) ≤ (j : Int) := by omega
        have a0 := (HL.out.cell (p := ⟨b, o + j * 2, none⟩) hl).trans (HCC.out j hlt).1
        have a1 := (HL.out.cell (p := ⟨b, o + j * 2 + 1, none⟩) hl).trans (HCC.out j hlt).2
        have HS := Lib.hid (fun (hz : ptG X Y j) i (hi : i < j + 1) => if e : i = j then (show ptG X Y i by rw [e]; exact hz) else HA.out i (by omega))
        have b2 : 0 < j → wr.cell? ⟨b, o + (j - 1) * 2, none⟩ = some (.int .i64 (X (j - 1))) := fun hj0 => (HL.out.cell (p := ⟨b, o + (j - 1) * 2, none⟩) hl).trans (HCC.out (j - 1) (by omega)).1
        clear HA
        unfold ptG at HS
        generalize X j = x at *
        generalize Y j = y at *
        generalize X (j - 1) = xp at *
        have HB2 := Lib.hid b2
        clear b2
        by_cases g1 : 64 ≤ x
        · have v1 : decide (64 ≤ x) = true := decide_eq_true g1
          go_wp2
          go_quiet (fail)
          go_wp2
          refine bodyPost_ret (v := .tuple #[.slice none 0 0, .int .i64 8]) (by simp [results, Try.results24, go_sem]) rfl ?_
          exact ⟨rfl, Go.Proofs.below_drewN' HL.out _⟩
        · have v1 : decide (64 ≤ x) = false := decide_eq_false g1
          by_cases g2 : y < 0
          · have v2 : decide (y < 0) = true := decide_eq_true g2
            go_wp2
            go_quiet (fail)
            go_wp2
            refine bodyPost_ret (v := .tuple #[.slice none 0 0, .int .i64 8]) (by simp [results, Try.results24, go_sem]) rfl ?_
            exact ⟨rfl, Go.Proofs.below_drewN' HL.out _⟩
          · have v2 : decide (y < 0) = false := decide_eq_false g2
            by_cases g3 : 1000 < y
            · have v3 : decide (1000 < y) = true := decide_eq_true g3
              go_wp2
              go_quiet (fail)
              go_wp2
              refine bodyPost_ret (v := .tuple #[.slice none 0 0, .int .i64 8]) (by simp [results, Try.results24, go_sem]) rfl ?_
              exact ⟨rfl, Go.Proofs.below_drewN' HL.out _⟩
            · have v3 : decide (1000 < y) = false := decide_eq_false g3
              by_cases g4 : 0 < j
              · have v4 : decide ((0 : Int) < (j : Int)) = true := by simp; exact g4
                have b2 := HB2.out g4
                have w1 : IntKind.i64.wrap ((j : Int) - 1) = ((j - 1 : Nat) : Int) := by rw [IntWalk.i64_in _ (by omega)]; omega
                have w2 : ((j - 1 : Nat) : Int) < (n : Int) := by omega
                have w3 : (0 : Int) ≤ ((j - 1 : Nat) : Int) := by omega
                have HS := Lib.hid (fun hz : xp < x => HS.out ⟨by omega, by omega, by omega, fun _ => hz⟩)
                generalize hj1 : j - 1 = j1 at *
                by_cases g5 : x ≤ xp
                · have v5 : decide (x ≤ xp) = true := decide_eq_true g5
                  clear hj1
                  go_wp2
                  go_quiet (fail)
                  go_wp2
                  refine bodyPost_ret (v := .tuple #[.slice none 0 0, .int .i64 8]) (by simp [results, Try.results24, go_sem]) rfl ?_
                  exact ⟨rfl, Go.Proofs.below_drewN' HL.out _⟩
                · have v5 : decide (x ≤ xp) = false := decide_eq_false g5
                  clear hj1
                  go_wp2
                  go_quiet (fail)
                  go_wp2
                  go_roundw
                  case rel => exact ⟨j + 1, by omega, by go_num, Lib.hid (HS.out (by omega)), Lib.hid (Go.Proofs.below_drewN' HL.out _)⟩
                  case measure => simp [intOf]; omega
              · have v4 : decide ((0 : Int) < (j : Int)) = false := by simp; omega
                go_wp2
                go_quiet (fail)
                go_wp2
                go_roundw
                case rel => exact ⟨j + 1, by omega, by go_num, Lib.hid (HS.out (by omega)), Lib.hid (Go.Proofs.below_drewN' HL.out _)⟩
                case measure => simp [intOf]; omega
      · obtain rfl : j = n := by omega
        have hq : ptB j X Y = true := decide_eq_true ⟨by have := HN.out; omega, HX0.out, fun i hi => HA.out i hi⟩
        rw [HZ.out] at hq
        cases hq
  · have zx : (X 0 != 0) = true := by simp [hx0]
    generalize X 0 = xz at *
    clear hx0
    go_enter Try.func24, Try.ntmps24
    go_wp2
    refine bodyPost_ret (v := .tuple #[.slice none 0 0, .int .i64 8]) (by simp [results, Try.results24, go_sem]) rfl ?_
    exact ⟨rfl, Below.refl _ _⟩
theorem own_one (w : World) {base : Nat} (hb : base ≤ w.heap.size) (y : Int) (f : Nat → Int) (hy : f 0 = y) : L2.Own (w.alloc (.cells #[.int .i64 y] 3)) base (.slice (some ⟨w.heap.size, 0, none⟩) 1 1) 1 f :=
  ⟨by simp [L2.news], .inr ⟨w.heap.size, 1, #[.int .i64 y], rfl, hb, World.alloc_heap_new w _, Nat.le_refl _, by unfold maxLen; omega, rfl, by simp [L2.news, hy]⟩⟩
theorem hgt_wh {x0 y0 x1 y1 x y W d1 d0 : Nat} (h : x0 < x1) (hW : x1 - x0 = W) (h1 : x1 - x = d1) (h0 : x - x0 = d0) : 2 * ((y : Int) + 1) * (W : Int) ≤ 2 * ((y0 * d1 + y1 * d0 : Nat) : Int) + (W : Int) ↔ y < hgt x0 y0 x1 y1 x := by
  have := hgt_iff (y0 := y0) (y1 := y1) (x := x) (y := y + 1) h
  rw [hW, h1, h0] at this
  rw [show (2 * ((y : Int) + 1) * (W : Int)) = ((2 * (y + 1) * W : Nat) : Int) by simp, show (2 * ((y0 * d1 + y1 * d0 : Nat) : Int) + (W : Int)) = ((2 * (y0 * d1 + y1 * d0) + W : Nat) : Int) by simp]
  rw [Int.ofNat_le]
  exact ⟨fun q => this.2 q, fun q => this.1 q⟩
set_option maxHeartbeats 6400000 in
theorem rln_ok (A : Option Addr) (n c : Nat) (X Y : Nat → Nat) (w : World) (hp : PtOk n X Y) (hn : n ≤ 100) (h : PH w w.heap.size A n (fun i => ((X i : Nat) : Int)) (fun i => ((Y i : Nat) : Int))) :
    Calls Try.prog 24 #[.slice A n c] w fun e w' => ∃ A' c', e = .returned (.tuple #[.slice A' (X (n - 1) + 1) c', .int .i64 0]) ∧ L2.Holds w' w'.heap.size A' (X (n - 1) + 1) (lnf n X Y) ∧ Below w.heap.size w w' := by
  have hn0 := hp.n0
  obtain ⟨b, o, rfl, hl, hc⟩ := h (by omega)
  have z0 : ((n : Int) == 0) = false := by simp; omega
  have c0 : w.cell? ⟨b, o, none⟩ = some (.int .i64 0) := by have := (hc 0 (by omega)).1; rw [Nat.zero_mul, Nat.add_zero] at this; rw [this]; simp [hp.x0]
  have c1 : w.cell? ⟨b, o + 1, none⟩ = some (.int .i64 ((Y 0 : Nat) : Int)) := by have := (hc 0 (by omega)).2; rwa [Nat.zero_mul, Nat.add_zero] at this
  have HF0 := Lib.hid (show lnf n X Y 0 = ((Y 0 : Nat) : Int) from by have := lnf_pt hp (i := 0) (by omega); rwa [hp.x0] at this)
  have HX0 := Lib.hid hp.x0
  generalize hy00 : Y 0 = yy at *
  have y0 : (0 : Int) < (n : Int) := by omega
  have HCC := Lib.hid hc
  have HP := Lib.hid hp
  clear h hc hy00 hp
  go_enter Try.func24, Try.ntmps24
  go_wp2
  go_loopw [4] (fun i wr => ∃ j : Nat, j ≤ n ∧ i = .int .i64 j ∧ Hid (Below w.heap.size w wr)) (fun i _ => n - (intOf i).toNat)
  case atStart => exact ⟨0, Nat.zero_le _, rfl, Lib.hid (Below.refl _ _)⟩
  case round =>
    obtain ⟨j, hj, rfl, HL⟩ := hrel
    by_cases hlt : j < n
    · have y1 : (j : Int) < (n : Int) := by omega
      have y2 : (0 : Int) ≤ (j : Int) := by omega
      have a0 := (HL.out.cell (p := ⟨b, o + j * 2, none⟩) hl).trans (HCC.out j hlt).1
      have a1 := (HL.out.cell (p := ⟨b, o + j * 2 + 1, none⟩) hl).trans (HCC.out j hlt).2
      have b2 : 0 < j → wr.cell? ⟨b, o + (j - 1) * 2, none⟩ = some (.int .i64 ((X (j - 1) : Nat) : Int)) := fun hj0 => (HL.out.cell (p := ⟨b, o + (j - 1) * 2, none⟩) hl).trans (HCC.out (j - 1) (by omega)).1
      have hx := HP.out.xs j hlt
      have hyy := HP.out.ys j hlt
      have hup : 0 < j → X (j - 1) < X j := fun h0 => by have := HP.out.up (j - 1) (by omega); rwa [show j - 1 + 1 = j by omega] at this
      generalize X j = x at *
      generalize Y j = y at *
      generalize X (j - 1) = xp at *
      have v1 : decide ((64 : Int) ≤ (x : Int)) = false := by simp; omega
      have v2 : decide ((y : Int) < 0) = false := by simp
      have v3 : decide ((1000 : Int) < (y : Int)) = false := by simp; omega
      by_cases g4 : 0 < j
      · have v4 : decide ((0 : Int) < (j : Int)) = true := by simp; exact g4
        have b3 := b2 g4
        have hu := hup g4
        have w1 : IntKind.i64.wrap ((j : Int) - 1) = ((j - 1 : Nat) : Int) := by rw [IntWalk.i64_in _ (by omega)]; omega
        have w2 : ((j - 1 : Nat) : Int) < (n : Int) := by omega
        have w3 : (0 : Int) ≤ ((j - 1 : Nat) : Int) := by omega
        clear b2 hup
        generalize hj1 : j - 1 = j1 at *
        have v5 : decide ((x : Int) ≤ (xp : Int)) = false := by simp; omega
        clear hj1
        go_wp2
        go_quiet (fail)
        go_wp2
        go_roundw
        case rel => exact ⟨j + 1, by omega, by go_num, Lib.hid (Go.Proofs.below_drewN' HL.out _)⟩
        case measure => simp [intOf]; omega
      · have v4 : decide ((0 : Int) < (j : Int)) = false := by simp; omega
        clear b2 hup
        go_wp2
        go_quiet (fail)
        go_wp2
        go_roundw
        case rel => exact ⟨j + 1, by omega, by go_num, Lib.hid (Go.Proofs.below_drewN' HL.out _)⟩
        case measure => simp [intOf]; omega
    · obtain rfl : j = n := by omega
      have y1 : ¬ (j : Int) < (j : Int) := by omega
      have a1 : wr.cell? ⟨b, o + 1, none⟩ = some (.int .i64 (yy : Nat)) := (HL.out.cell (p := ⟨b, o + 1, none⟩) hl).trans c1
      have HO1 := Lib.hid (own_one wr (Nat.le_refl _) ((yy : Nat) : Int) (lnf j X Y) HF0.out)
      have HB1 := Lib.hid (bel_alloc wr (.cells #[.int .i64 (yy : Nat)] 3))
      go_wp2
      generalize wr.alloc (.cells #[.int .i64 (yy : Nat)] 3) = w2 at *
      generalize hbs : wr.heap.size = bs at *
      have HW2 := Lib.hid (HL.out.trans (HB1.out.mono (by have := HL.out.size; omega)))
      have hws : w.heap.size ≤ bs := by have := HL.out.size; omega
      clear HL a1 y1 hbs c0 c1
      go_loopw [5, 6] (fun u i wr => ∃ k : Nat, k + 1 ≤ j ∧ i = .int .i64 ((k : Int) + 1) ∧ Hid (L2.Own wr bs u (X k + 1) (lnf j X Y)) ∧ Hid (Below w.heap.size w wr)) (fun _ i _ => j - (intOf i).toNat)
      case atStart => exact ⟨0, by omega, by go_num, Lib.hid (by rw [HX0.out]; exact HO1.out), HW2⟩
      case round =>
        obtain ⟨k, hk, rfl, HO2, HW⟩ := hrel
        clear HO1 HW2 HB1
        by_cases hlt : k + 1 < j
        · have y1 : (k : Int) + 1 < (j : Int) := by omega
          have y2 : (0 : Int) ≤ (k : Int) + 1 := by omega
          have z1 : IntKind.i64.wrap ((k : Int) + 1 - 1) = (k : Int) := by rw [show (k : Int) + 1 - 1 = (k : Int) by omega]; exact IntWalk.i64_in _ (by omega)
          have y3 : (k : Int) < (j : Int) := by omega
          have y4 : (0 : Int) ≤ (k : Int) := by omega
          have z2 : IntKind.i64.wrap ((k : Int) + 1 + 1) = (k : Int) + 1 + 1 := IntWalk.i64_in _ (by omega)
          have a0 := (HW.out.cell (p := ⟨b, o + k * 2, none⟩) hl).trans (HCC.out k (by omega)).1
          have hx1 := HP.out.xs (k + 1) hlt
          have hup := HP.out.up k hlt
          have hq0 := HP.out.ys k (by omega)
          have hq1 := HP.out.ys (k + 1) hlt
          have HAT := Lib.hid (fun x => (lnf_line HP.out).at' k hlt x)
          have HCA := Lib.hid (And.intro (HCC.out k (by omega)) (HCC.out (k + 1) hlt))
          have z3 : IntKind.i64.wrap ((X k : Int) + 1) = (X k : Int) + 1 := IntWalk.i64_in _ (by omega)
          have HXK1 := Lib.hid (show ∀ (q : Prop), (X (k + 1) = X (k + 1) → q) → q from fun q h => h rfl)
          go_wp2
          clear HXK1
          generalize hxk : X k = x0 at *
          generalize hxk1 : X (k + 1) = x1 at *
          generalize Y k = q0 at *
          generalize Y (k + 1) = q1 at *
          have HXK := Lib.hid (And.intro hxk hxk1)
          clear hxk hxk1 a0
          obtain ⟨W, hW⟩ : ∃ z, x1 - x0 = z := ⟨_, rfl⟩
          have g1 : IntKind.i64.wrap ((x1 : Int) - (x0 : Int)) = (W : Int) := by rw [IntWalk.i64_in _ (by omega)]; omega
          have HWW := Lib.hid hW
          have hW64 : 1 ≤ W ∧ W ≤ 64 := by omega
          clear hW
          go_loopw [5, 7] (fun u i wr => ∃ x : Nat, x0 + 1 ≤ x ∧ x ≤ x1 + 1 ∧ i = .int .i64 ((x : Nat) : Int) ∧ Hid (L2.Own wr bs u x (lnf j X Y)) ∧ Hid (Below w.heap.size w wr)) (fun _ i _ => x1 + 1 - (intOf i).toNat)
          case atStart => exact ⟨x0 + 1, Nat.le_refl _, by omega, by go_num, HO2, HW⟩
          case round =>
            obtain ⟨x, hx0, hx1', rfl, HO3, HW3⟩ := hrel
            clear HO2 HW
            have a0 : wr.cell? ⟨b, o + k * 2, none⟩ = some (.int .i64 (x0 : Nat)) := (HW3.out.cell (p := ⟨b, o + k * 2, none⟩) hl).trans HCA.out.1.1
            have a1 : wr.cell? ⟨b, o + k * 2 + 1, none⟩ = some (.int .i64 (q0 : Nat)) := (HW3.out.cell (p := ⟨b, o + k * 2 + 1, none⟩) hl).trans HCA.out.1.2
            have a2 : wr.cell? ⟨b, o + (k + 1) * 2, none⟩ = some (.int .i64 (x1 : Nat)) := (HW3.out.cell (p := ⟨b, o + (k + 1) * 2, none⟩) hl).trans HCA.out.2.1
            have a3 : wr.cell? ⟨b, o + (k + 1) * 2 + 1, none⟩ = some (.int .i64 (q1 : Nat)) := (HW3.out.cell (p := ⟨b, o + (k + 1) * 2 + 1, none⟩) hl).trans HCA.out.2.2
            by_cases hle : x ≤ x1
            · have v4 : (x : Int) ≤ (x1 : Int) := by omega
              obtain ⟨d1, hd1⟩ : ∃ z, x1 - x = z := ⟨_, rfl⟩
              obtain ⟨d0, hd0⟩ : ∃ z, x - x0 = z := ⟨_, rfl⟩
              have g2 : IntKind.i64.wrap ((x1 : Int) - (x : Int)) = (d1 : Int) := by rw [IntWalk.i64_in _ (by omega)]; omega
              have g3 : IntKind.i64.wrap ((x : Int) - (x0 : Int)) = (d0 : Int) := by rw [IntWalk.i64_in _ (by omega)]; omega
              have b1 : q0 * d1 ≤ 1000 * 64 := Nat.mul_le_mul hq0 (by omega)
              have b2 : q1 * d0 ≤ 1000 * 64 := Nat.mul_le_mul hq1 (by omega)
              have g4 : IntKind.i64.wrap ((q0 : Int) * (d1 : Int)) = ((q0 * d1 : Nat) : Int) := by rw [← Int.natCast_mul]; exact IntWalk.i64_in _ (by omega)
              have g5 : IntKind.i64.wrap ((q1 : Int) * (d0 : Int)) = ((q1 * d0 : Nat) : Int) := by rw [← Int.natCast_mul]; exact IntWalk.i64_in _ (by omega)
              have HWH := Lib.hid (fun y => hgt_wh (y0 := q0) (y1 := q1) (y := y) hup HWW.out hd1 hd0)
              have HLF := Lib.hid (HAT.out x (by omega) hle)
              have hb64 : hgt x0 q0 x1 q1 x ≤ 2000000 := by
                unfold hgt
                refine Nat.le_trans (Nat.div_le_self _ _) ?_
                rw [hd1, hd0]
                omega
              obtain ⟨E, hE⟩ : ∃ z, q0 * d1 + q1 * d0 = z := ⟨_, rfl⟩
              rw [hE] at HWH
              have g6 : IntKind.i64.wrap (((q0 * d1 : Nat) : Int) + ((q1 * d0 : Nat) : Int)) = (E : Int) := by rw [IntWalk.i64_in _ (by omega)]; omega
              have hE2 : E ≤ 200000 := by omega
              generalize q0 * d1 = m1 at *
              generalize q1 * d0 = m2 at *
              generalize hgt x0 q0 x1 q1 x = hh at *
              clear hd1 hd0 hE b1 b2
              go_wp2
              go_quiet (fail)
              generalize hwd : World.drewN wr _ = wd
              have HO4 : Hid (L2.Own wd bs u5 x (lnf j X Y)) := Lib.hid (by rw [← hwd]; exact HO3.out)
              have HW4 : Hid (Below w.heap.size w wd) := Lib.hid (by rw [← hwd]; exact Go.Proofs.below_drewN' HW3.out _)
              have a0 : wd.cell? ⟨b, o + k * 2, none⟩ = some (.int .i64 (x0 : Nat)) := by rw [← hwd]; exact a0
              have a1 : wd.cell? ⟨b, o + k * 2 + 1, none⟩ = some (.int .i64 (q0 : Nat)) := by rw [← hwd]; exact a1
              have a2 : wd.cell? ⟨b, o + (k + 1) * 2, none⟩ = some (.int .i64 (x1 : Nat)) := by rw [← hwd]; exact a2
              have a3 : wd.cell? ⟨b, o + (k + 1) * 2 + 1, none⟩ = some (.int .i64 (q1 : Nat)) := by rw [← hwd]; exact a3
              clear HO3 HW3 hwd
              go_wp2
              go_quiet (fail)
              generalize hwd : World.drewN wd _ = we
              have HO5 : Hid (L2.Own we bs u5 x (lnf j X Y)) := Lib.hid (by rw [← hwd]; exact HO4.out)
              have HW5 : Hid (Below w.heap.size w we) := Lib.hid (by rw [← hwd]; exact Go.Proofs.below_drewN' HW4.out _)
              clear HO4 HW4 hwd a0 a1 a2 a3 g2 g3 g4 g5 g6
              have hws2 : bs ≤ we.heap.size := by
                obtain ⟨A', c', e1, e2, e3⟩ := HO5.out.out
                obtain ⟨kk, e4, e5, e6⟩ := e3 (by omega)
                have := e6.lt
                omega
              have z9 : IntKind.i64.wrap ((x : Int) + 1) = (x : Int) + 1 := IntWalk.i64_in _ (by omega)
              have w4 : IntKind.i64.wrap (2 * (E : Int)) = 2 * (E : Int) := IntWalk.i64_in _ (by omega)
              have w5 : IntKind.i64.wrap (2 * (E : Int) + (W : Int)) = 2 * (E : Int) + (W : Int) := IntWalk.i64_in _ (by omega)
              go_wp2
              go_loopw [10] (fun i wq => ∃ y : Nat, y ≤ hh ∧ i = .int .i64 ((y : Nat) : Int) ∧ wq = we) (fun i _ => hh - (intOf i).toNat)
              case atStart => exact ⟨0, Nat.zero_le _, rfl, rfl⟩
              case round =>
                obtain ⟨y, hy, rfl, rfl⟩ := hrel
                have bb1 : (y + 1) * W ≤ 2000001 * 64 := Nat.mul_le_mul (by omega) hW64.2
                have bb2 : 2 * ((y : Int) + 1) * (W : Int) = ((2 * ((y + 1) * W) : Nat) : Int) := by simp [Int.mul_assoc]
                have w1 : IntKind.i64.wrap ((y : Int) + 1) = (y : Int) + 1 := IntWalk.i64_in _ (by omega)
                have w2 : IntKind.i64.wrap (2 * ((y : Int) + 1)) = 2 * ((y : Int) + 1) := IntWalk.i64_in _ (by omega)
                have w3 : IntKind.i64.wrap (2 * ((y : Int) + 1) * (W : Int)) = 2 * ((y : Int) + 1) * (W : Int) := IntWalk.i64_in _ (by omega)
                clear bb1 bb2
                by_cases hlt2 : y < hh
                · have y9 : decide (2 * ((y : Int) + 1) * (W : Int) ≤ 2 * (E : Int) + (W : Int)) = true := decide_eq_true ((HWH.out y).2 hlt2)
                  go_wp2
                  go_roundw
                  case rel => exact ⟨y + 1, by omega, by go_num, trivial⟩
                  case measure => simp [intOf]; omega
                · have y9 : decide (2 * ((y : Int) + 1) * (W : Int) ≤ 2 * (E : Int) + (W : Int)) = false := decide_eq_false fun q => hlt2 ((HWH.out y).1 q)
                  obtain rfl : y = hh := by omega
                  go_wp2_with (at_builtin; refine L2.app1 _ rfl _ _ rfl bs rfl HO5.out _ rfl HLF.out (by omega) hws2 ?_; intro v' wz O5 B5)
                  have HW6 := Lib.hid (HW5.out.trans (B5.mono hws))
                  go_roundw
                  case rel => exact ⟨x + 1, by omega, by omega, by go_num, Lib.hid O5, HW6⟩
                  case measure => simp [intOf]; omega
            · obtain rfl : x = x1 + 1 := by omega
              have v4 : ¬ ((x1 + 1 : Nat) : Int) ≤ (x1 : Int) := by omega
              have v5 : ¬ (x1 : Int) + 1 ≤ (x1 : Int) := by omega
              have hO7 : Hid (L2.Own wr bs u5 (X (k + 1) + 1) (lnf j X Y)) := Lib.hid (by rw [HXK.out.2]; exact HO3.out)
              go_wp2
              go_roundw
              case rel => exact ⟨k + 1, by omega, by go_num, hO7, HW3⟩
              case measure => simp [intOf]; omega
        · obtain rfl : j = k + 1 := by omega
          have y1 : ¬ (k : Int) + 1 < ((k + 1 : Nat) : Int) := by omega
          have y2 : ¬ (k : Int) + 1 < (k : Int) + 1 := by omega
          have hq := HO2.out
          obtain ⟨A', c', rfl, e1, e2⟩ := hq.out
          have HH := Lib.hid (L2.Own.holds hq)
          have HKK := Lib.hid (show k + 1 - 1 = k from Nat.add_sub_cancel _ _)
          clear hq e2
          go_wp2
          refine bodyPost_ret (v := .tuple #[.slice A' (X k + 1) c', .int .i64 0]) (by simp [results, Try.results24, go_sem]) rfl ?_
          first | exact ⟨A', ⟨c', rfl⟩, HH.out, HW.out⟩ | exact ⟨A', c', rfl, HH.out, HW.out⟩ | exact ⟨A', c', by rw [HKK.out], by rw [HKK.out]; exact HH.out, HW.out⟩
end Go.Proofs.Ythipdfkgeghooaa
