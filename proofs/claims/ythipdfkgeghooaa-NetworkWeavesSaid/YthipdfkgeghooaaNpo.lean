/- Points: lists of them; arePoints, height. -/
import Derived.Test.YthipdfkgeghooaaNdr
namespace Go.Proofs.Ythipdfkgeghooaa
open Go.RowKit
set_option maxRecDepth 100000
set_option linter.unusedVariables false
set_option linter.unusedSimpArgs false

/-- A list of points lies. -/
def PH (w : World) (B : Nat) (A : Option Addr) (n : Nat) (X Y : Nat → Int) : Prop :=
  0 < n → ∃ b o, A = some ⟨b, o, none⟩ ∧ b < B ∧ ∀ i, i < n → w.cell? ⟨b, o + i * 2, none⟩ = some (.int .i64 (X i)) ∧ w.cell? ⟨b, o + i * 2 + 1, none⟩ = some (.int .i64 (Y i))
section
variable {w w' : World} {B B' n : Nat} {A : Option Addr} {X Y : Nat → Int}
theorem PH.below (h : PH w B A n X Y) (hb : Below B w w') : PH w' B A n X Y := fun hn => by
  obtain ⟨b, o, e, hlt, hc⟩ := h hn
  exact ⟨b, o, e, hlt, fun i hi => ⟨(hb.cell (p := ⟨b, o + i * 2, none⟩) hlt).trans (hc i hi).1, (hb.cell (p := ⟨b, o + i * 2 + 1, none⟩) hlt).trans (hc i hi).2⟩⟩
theorem PH.more (h : PH w B A n X Y) (hB : B ≤ B') : PH w B' A n X Y := fun hn => by
  obtain ⟨b, o, e, hlt, hc⟩ := h hn
  exact ⟨b, o, e, by omega, hc⟩
theorem PH.next (h : PH w w.heap.size A n X Y) (hb : Below w.heap.size w w') : PH w' w'.heap.size A n X Y := (h.below hb).more hb.size
end
theorem Boxed2.new (w : World) (x y : Int) : (w.alloc (.cells #[.int .i64 x, .int .i64 y] 52)).cell? ⟨w.heap.size, 0, none⟩ = some (.int .i64 x) ∧ (w.alloc (.cells #[.int .i64 x, .int .i64 y] 52)).cell? ⟨w.heap.size, 1, none⟩ = some (.int .i64 y) :=
  ⟨(Lib.cell_of_heap (World.alloc_heap_new w _) 0).trans rfl, (Lib.cell_of_heap (World.alloc_heap_new w _) 1).trans rfl⟩
theorem ptB_no {n : Nat} {X Y : Nat → Int} (h : ¬ (1 ≤ n ∧ X 0 = 0 ∧ ∀ i, i < n → X i < 64 ∧ 0 ≤ Y i ∧ Y i ≤ 1000 ∧ (0 < i → X (i - 1) < X i))) : ptB n X Y = false := decide_eq_false h
/-- A point is as it ought to be. -/
def ptG (X Y : Nat → Int) (i : Nat) : Prop := X i < 64 ∧ 0 ≤ Y i ∧ Y i ≤ 1000 ∧ (0 < i → X (i - 1) < X i)
set_option maxHeartbeats 1600000 in
theorem pts_any (A : Option Addr) (n c : Nat) (X Y : Nat → Int) (w : World) (hn : n ≤ 100000) (h : PH w w.heap.size A n X Y) :
    Calls Try.prog 47 #[.slice A n c] w fun e w' => e = .returned (.bool (ptB n X Y)) ∧ Below w.heap.size w w' := by
  have HG := Lib.hid h
  clear h
  by_cases h0 : n = 0
  · subst h0
    have Hr := Lib.hid (show ptB 0 X Y = false from ptB_no (fun q => by omega))
    go_enter Try.func47, Try.ntmps47
    go_wp2
    go_ret
    exact ⟨by rw [Hr.out]; rfl, Below.refl _ _⟩
  obtain ⟨b, o, rfl, hl, hc⟩ := HG.out (by omega)
  have z0 : ((n : Int) == 0) = false := by simp; omega
  have c0 : w.cell? ⟨b, o, none⟩ = some (.int .i64 (X 0)) := by have := (hc 0 (by omega)).1; rwa [Nat.zero_mul, Nat.add_zero] at this
  have HN := Lib.hid h0
  have y0 : (0 : Int) < (n : Int) := by omega
  have HCC := Lib.hid hc
  clear HG h0 hc
  by_cases hx0 : X 0 = 0
  · have HX0 := Lib.hid hx0
    rw [hx0] at c0
    clear hx0
    go_enter Try.func47, Try.ntmps47
    go_wp2
    go_loopw [17] (fun i wr => ∃ j : Nat, j ≤ n ∧ i = .int .i64 j ∧ Hid (∀ i, i < j → ptG X Y i) ∧ Hid (Below w.heap.size w wr)) (fun i _ => n - (intOf i).toNat)
    case atStart => exact ⟨0, Nat.zero_le _, rfl, Lib.hid (fun j h => by omega), Lib.hid (Below.refl _ _)⟩
    case round =>
      obtain ⟨j, hj, rfl, HA, HL⟩ := hrel
      by_cases hlt : j < n
      · have y1 : (j : Int) < (n : Int) := by omega
        have y2 : (0 : Int) ≤ (j : Int) := by omega
        have a0 := (HL.out.cell (p := ⟨b, o + j * 2, none⟩) hl).trans (HCC.out j hlt).1
        have a1 := (HL.out.cell (p := ⟨b, o + j * 2 + 1, none⟩) hl).trans (HCC.out j hlt).2
        have HF := Lib.hid (fun (hz : ¬ ptG X Y j) => (show ptB n X Y = false from ptB_no fun q => hz (q.2.2 j hlt)))
        have HS := Lib.hid (fun (hz : ptG X Y j) i (hi : i < j + 1) => if e : i = j then (show ptG X Y i by rw [e]; exact hz) else HA.out i (by omega))
        have HBA := Lib.hid (HL.out.trans ((bel_alloc wr (.cells #[.int .i64 (X j), .int .i64 (Y j)] 52)).mono HL.out.size))
        have ff := Boxed2.new wr (X j) (Y j)
        have b2 : 0 < j → (wr.alloc (.cells #[.int .i64 (X j), .int .i64 (Y j)] 52)).cell? ⟨b, o + (j - 1) * 2, none⟩ = some (.int .i64 (X (j - 1))) := fun hj0 => (HBA.out.cell (p := ⟨b, o + (j - 1) * 2, none⟩) hl).trans (HCC.out (j - 1) (by omega)).1
        clear HA
        unfold ptG at HF HS
        generalize X j = x at *
        generalize Y j = y at *
        generalize X (j - 1) = xp at *
        have HB2 := Lib.hid b2
        clear b2
        go_upto_region 6 with (fail)
        have HFF := Lib.hid ff
        clear ff a0 a1
        generalize wr.alloc (.cells #[.int .i64 x, .int .i64 y] 52) = w0 at *
        obtain ⟨f0, f1⟩ := HFF.out
        by_cases g1 : 64 ≤ x
        · have v1 : decide (64 ≤ x) = true := decide_eq_true g1
          go_quiet (fail)
          go_wp2
          go_ret
          exact ⟨by rw [HF.out (by omega)]; rfl, Go.Proofs.below_drewN' HBA.out _⟩
        · have v1 : decide (64 ≤ x) = false := decide_eq_false g1
          by_cases g2 : y < 0
          · have v2 : decide (y < 0) = true := decide_eq_true g2
            go_quiet (fail)
            go_wp2
            go_ret
            exact ⟨by rw [HF.out (by omega)]; rfl, Go.Proofs.below_drewN' HBA.out _⟩
          · have v2 : decide (y < 0) = false := decide_eq_false g2
            by_cases g3 : 1000 < y
            · have v3 : decide (1000 < y) = true := decide_eq_true g3
              go_quiet (fail)
              go_wp2
              go_ret
              exact ⟨by rw [HF.out (by omega)]; rfl, Go.Proofs.below_drewN' HBA.out _⟩
            · have v3 : decide (1000 < y) = false := decide_eq_false g3
              by_cases g4 : 0 < j
              · have v4 : decide ((0 : Int) < (j : Int)) = true := by simp; exact g4
                have b2 := HB2.out g4
                have w1 : IntKind.i64.wrap ((j : Int) - 1) = ((j - 1 : Nat) : Int) := by rw [IntWalk.i64_in _ (by omega)]; omega
                have w2 : ((j - 1 : Nat) : Int) < (n : Int) := by omega
                have w3 : (0 : Int) ≤ ((j - 1 : Nat) : Int) := by omega
                have HF := Lib.hid (fun hz : ¬ xp < x => HF.out (fun q => hz (q.2.2.2 g4)))
                have HS := Lib.hid (fun hz : xp < x => HS.out ⟨by omega, by omega, by omega, fun _ => hz⟩)
                have HJ1 := Lib.hid (show (j - 1) + 1 = j by omega)
                generalize hj1 : j - 1 = j1 at *
                by_cases g5 : x ≤ xp
                · have v5 : decide (x ≤ xp) = true := decide_eq_true g5
                  clear hj1
                  go_quiet (fail)
                  go_wp2
                  go_ret
                  exact ⟨by rw [HF.out (by omega)]; rfl, Go.Proofs.below_drewN' HBA.out _⟩
                · have v5 : decide (x ≤ xp) = false := decide_eq_false g5
                  clear hj1
                  go_quiet (fail)
                  go_wp2
                  go_roundw
                  case rel => exact ⟨j + 1, by omega, by go_num, Lib.hid (HS.out (by omega)), Lib.hid (Go.Proofs.below_drewN' HBA.out _)⟩
                  case measure => simp [intOf]; omega
              · have v4 : decide ((0 : Int) < (j : Int)) = false := by simp; omega
                go_quiet (fail)
                go_wp2
                go_roundw
                case rel => exact ⟨j + 1, by omega, by go_num, Lib.hid (HS.out (by omega)), Lib.hid (Go.Proofs.below_drewN' HBA.out _)⟩
                case measure => simp [intOf]; omega
      · have e : j = n := by omega
        subst e
        have HE := Lib.hid (show ptB j X Y = true from decide_eq_true ⟨by have := HN.out; omega, HX0.out, fun i hi => HA.out i hi⟩)
        go_wp2
        go_ret
        exact ⟨by rw [HE.out]; rfl, HL.out⟩
  · have Hr := Lib.hid (show ptB n X Y = false from ptB_no (fun q => hx0 q.2.1))
    have zx : (X 0 != 0) = true := by simp [hx0]
    generalize X 0 = xz at *
    clear hx0
    go_enter Try.func47, Try.ntmps47
    go_wp2
    go_ret
    exact ⟨by rw [Hr.out]; rfl, Below.refl _ _⟩
theorem hgt_int {x0 y0 x1 y1 x : Nat} (h : x0 < x1) (hx : x0 ≤ x) (hx2 : x ≤ x1) : ((2 * ((y0 : Int) * ((x1 : Int) - x) + (y1 : Int) * ((x : Int) - x0)) + ((x1 : Int) - x0)).tdiv (2 * ((x1 : Int) - x0))) = ((hgt x0 y0 x1 y1 x : Nat) : Int) := by
  obtain ⟨a, rfl⟩ := Nat.exists_eq_add_of_le hx
  obtain ⟨b, rfl⟩ := Nat.exists_eq_add_of_le hx2
  unfold hgt
  have e1 : ((x0 + a + b : Nat) : Int) - ((x0 + a : Nat) : Int) = (b : Int) := by omega
  have e2 : ((x0 + a : Nat) : Int) - (x0 : Int) = (a : Int) := by omega
  have e3 : ((x0 + a + b : Nat) : Int) - (x0 : Int) = ((a + b : Nat) : Int) := by omega
  rw [e1, e2, e3, show x0 + a + b - (x0 + a) = b by omega, show x0 + a - x0 = a by omega, show x0 + a + b - x0 = a + b by omega]
  have e4 : 2 * ((y0 : Int) * (b : Int) + (y1 : Int) * (a : Int)) + ((a + b : Nat) : Int) = ((2 * (y0 * b + y1 * a) + (a + b) : Nat) : Int) := by simp
  have e5 : 2 * ((a + b : Nat) : Int) = ((2 * (a + b) : Nat) : Int) := by simp
  rw [e4, e5]
  rfl
set_option maxHeartbeats 800000 in
theorem hgt_any (x0 y0 x1 y1 x : Nat) (w : World) (h : x0 < x1) (hx : x0 ≤ x) (hx2 : x ≤ x1) (h64 : x1 ≤ 70) (hy0 : y0 ≤ 1000) (hy1 : y1 ≤ 1000) :
    Calls Try.prog 48 #[.agg #[.int .i64 (x0 : Nat), .int .i64 (y0 : Nat)], .agg #[.int .i64 (x1 : Nat), .int .i64 (y1 : Nat)], .int .i64 (x : Nat)] w fun e w' => e = .returned (.int .i64 ((hgt x0 y0 x1 y1 x : Nat) : Int)) ∧ Below w.heap.size w w' := by
  have HI := Lib.hid (hgt_int (y0 := y0) (y1 := y1) h hx hx2)
  have b1 : (y0 : Int) * ((x1 : Int) - x) ≤ 1000 * 70 := Int.mul_le_mul (by omega) (by omega) (by omega) (by omega)
  have b2 : (y1 : Int) * ((x : Int) - x0) ≤ 1000 * 70 := Int.mul_le_mul (by omega) (by omega) (by omega) (by omega)
  have b3 : 0 ≤ (y0 : Int) * ((x1 : Int) - x) := Int.mul_nonneg (by omega) (by omega)
  have b4 : 0 ≤ (y1 : Int) * ((x : Int) - x0) := Int.mul_nonneg (by omega) (by omega)
  have w1 : IntKind.i64.wrap ((x1 : Int) - x0) = (x1 : Int) - x0 := IntWalk.i64_in _ (by omega)
  have w2 : IntKind.i64.wrap ((x1 : Int) - x) = (x1 : Int) - x := IntWalk.i64_in _ (by omega)
  have w3 : IntKind.i64.wrap ((x : Int) - x0) = (x : Int) - x0 := IntWalk.i64_in _ (by omega)
  have z0 : ¬ (x1 : Int) - x0 = 0 := by omega
  have dpos : 0 < (x1 : Int) - x0 ∧ (x1 : Int) - x0 ≤ 70 := by omega
  have e0 := HI.out
  clear HI
  have w4 : IntKind.i64.wrap ((y0 : Int) * ((x1 : Int) - x)) = (y0 : Int) * ((x1 : Int) - x) := IntWalk.i64_in _ (by omega)
  have w5 : IntKind.i64.wrap ((y1 : Int) * ((x : Int) - x0)) = (y1 : Int) * ((x : Int) - x0) := IntWalk.i64_in _ (by omega)
  have LB := Lib.hid (((bel_alloc w (.cells #[.int .i64 (x0 : Nat), .int .i64 (y0 : Nat)] 52)).alloc (by simp) (.cells #[.int .i64 (x1 : Nat), .int .i64 (y1 : Nat)] 52)))
  have p0 := Boxed2.new w (x0 : Nat) (y0 : Nat)
  have p1 := Boxed2.new (w.alloc (.cells #[.int .i64 (x0 : Nat), .int .i64 (y0 : Nat)] 52)) (x1 : Nat) (y1 : Nat)
  have hba := bel_alloc (w.alloc (.cells #[.int .i64 (x0 : Nat), .int .i64 (y0 : Nat)] 52)) (.cells #[.int .i64 (x1 : Nat), .int .i64 (y1 : Nat)] 52)
  have p2 := (hba.cell (p := ⟨w.heap.size, 0, none⟩) (by simp)).trans p0.1
  have p3 := (hba.cell (p := ⟨w.heap.size, 1, none⟩) (by simp)).trans p0.2
  obtain ⟨p4, p5⟩ := p1
  rw [World.size_alloc] at p4 p5
  clear p0 hba
  go_enter Try.func48, Try.ntmps48
  go_upto_region 1 with (fail)
  generalize (w.alloc (.cells #[.int .i64 (x0 : Nat), .int .i64 (y0 : Nat)] 52)).alloc (.cells #[.int .i64 (x1 : Nat), .int .i64 (y1 : Nat)] 52) = w0 at *
  generalize hA : (y0 : Int) * ((x1 : Int) - x) = a at *
  generalize hB : (y1 : Int) * ((x : Int) - x0) = b at *
  have w6 : IntKind.i64.wrap (a + b) = a + b := IntWalk.i64_in _ (by omega)
  have w7 : IntKind.i64.wrap (2 * (a + b)) = 2 * (a + b) := IntWalk.i64_in _ (by omega)
  generalize hD : (x1 : Int) - x0 = dd at *
  have w8 : IntKind.i64.wrap (2 * (a + b) + dd) = 2 * (a + b) + dd := IntWalk.i64_in _ (by omega)
  have w9 : IntKind.i64.wrap (2 * dd) = 2 * dd := IntWalk.i64_in _ (by omega)
  have z1 : ¬ 2 * dd = 0 := by omega
  generalize hgh : hgt x0 y0 x1 y1 x = hh at *
  have w10 : IntKind.i64.wrap ((hh : Nat) : Int) = (hh : Nat) := by
    rw [← e0]
    refine IntWalk.i64_in _ ⟨?_, ?_⟩
    · have : 0 ≤ (2 * (a + b) + dd).tdiv (2 * dd) := Int.tdiv_nonneg (by omega) (by omega)
      omega
    · have h1 : (2 * (a + b) + dd).tdiv (2 * dd) ≤ 2 * (a + b) + dd := by
        rw [Int.tdiv_eq_ediv_of_nonneg (by omega)]
        exact Int.ediv_le_self _ (by omega)
      omega
  clear b1 b2 b3 b4
  go_wp2
  go_ret
  exact ⟨by rw [hgh]; rfl, LB.out⟩
end Go.Proofs.Ythipdfkgeghooaa
