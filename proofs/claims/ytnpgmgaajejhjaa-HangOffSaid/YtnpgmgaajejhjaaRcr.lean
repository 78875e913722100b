/- The reference of layer 8: crossings, Crossings, Count. -/
import Derived.Test.YtnpgmgaajejhjaaFce
namespace Go.Proofs.Ytnpgmgaajejhjaa
open Go.RowKit
set_option maxRecDepth 100000
set_option linter.unusedVariables false
set_option linter.unusedSimpArgs false

/-- The cell number i of n cells differs from the one before, around. -/
def dif (n : Nat) (s : Nat → Bool) (i : Nat) : Bool := s i != s ((i + n - 1) % n)
/-- How many of the first k cells do so. -/
def cro (n : Nat) (s : Nat → Bool) (k : Nat) : Nat := (List.range k).countP (dif n s)
theorem cro_succ (n : Nat) (s : Nat → Bool) (k : Nat) : cro n s (k + 1) = cro n s k + if dif n s k = true then 1 else 0 := by
  unfold cro
  rw [List.range_succ, List.countP_append, List.countP_singleton]
theorem cro_le (n : Nat) (s : Nat → Bool) (k : Nat) : cro n s k ≤ k := by
  have h := List.countP_le_length (p := dif n s) (l := List.range k)
  rw [List.length_range] at h
  exact h
theorem before_mod {n i : Nat} (hi : i < n) : (((i : Int) - 1) % (n : Int)).toNat = (i + n - 1) % n := by
  rcases Nat.eq_zero_or_pos i with rfl | h
  · have e : ((0 : Nat) : Int) - 1 = ((n - 1 : Nat) : Int) + (n : Int) * (-1) := by omega
    rw [e, Int.add_mul_emod_self_left, ← Int.natCast_emod, Int.toNat_natCast, Nat.zero_add]
  · have e : (i : Int) - 1 = ((i - 1 : Nat) : Int) := by omega
    rw [e, ← Int.natCast_emod, Int.toNat_natCast, show i + n - 1 = (i - 1) + n by omega, Nat.add_mod_right]
theorem now_mod {n i : Nat} (hi : i < n) : ((i : Int) % (n : Int)).toNat = i := by
  rw [← Int.natCast_emod, Int.toNat_natCast, Nat.mod_eq_of_lt hi]
set_option maxHeartbeats 1600000 in
theorem rcro_any (W H : Nat) (A : Option Addr) (c : Nat) (f : Nat → Bool) (warp : Bool) (at_ : Nat) (w : World) (hr : Holds w w.heap.size A (W * H) f) (hW0 : 1 ≤ W) (hW : W ≤ 64) (hH0 : 1 ≤ H) (hH : H ≤ 64) (ha : at_ < nc W H !warp) :
    Calls Try.prog 69 #[.agg #[.int .i64 (W : Nat), .int .i64 (H : Nat), .slice A (W * H) c], .bool warp, .int .i64 (at_ : Nat)] w fun e w' => e = .returned (.int .i64 (cro (nc W H warp) (sd W H f warp at_) (nc W H warp) : Nat)) ∧ Below w.heap.size w w' := by
  have hn : nc W H warp ≤ 64 ∧ 1 ≤ nc W H warp := by cases warp <;> exact ⟨by assumption, by assumption⟩
  have HF := Lib.hid (fun u (h : Below w.heap.size w u) i (hi : i < nc W H warp) => (show Calls Try.prog 34 #[.agg #[.int .i64 (W : Nat), .int .i64 (H : Nat), .slice A (W * H) c], .bool warp, .int .i64 (at_ : Nat), .int .i64 (i : Nat)] u fun e w' => e = .returned (.bool (sd W H f warp at_ i)) ∧ Below u.heap.size u w' from by
    have z := face_any W H A c f warp at_ (i : Nat) u ((hr.below h).more h.size) hW0 hW hH0 hH ha (by omega) (by omega)
    rwa [now_mod hi] at z))
  have HP := Lib.hid (fun u (h : Below w.heap.size w u) i (hi : i < nc W H warp) => (show Calls Try.prog 34 #[.agg #[.int .i64 (W : Nat), .int .i64 (H : Nat), .slice A (W * H) c], .bool warp, .int .i64 (at_ : Nat), .int .i64 ((i : Int) - 1)] u fun e w' => e = .returned (.bool (sd W H f warp at_ ((i + nc W H warp - 1) % nc W H warp))) ∧ Below u.heap.size u w' from by
    have z := face_any W H A c f warp at_ ((i : Int) - 1) u ((hr.below h).more h.size) hW0 hW hH0 hH ha (by omega) (by omega)
    rwa [before_mod hi] at z))
  have HN := Lib.hid (fun u => cells_any W H A (W * H) c warp u)
  have HC := Lib.hid (cro_succ (nc W H warp) (sd W H f warp at_))
  have HL := Lib.hid (cro_le (nc W H warp) (sd W H f warp at_))
  have X0 := Lib.hid (Box.new w (W : Nat) (H : Nat) (.slice A (W * H) c))
  have LB0 := Lib.hid (show Below w.heap.size w (w.alloc (.cells #[.int .i64 (W : Nat), .int .i64 (H : Nat), .slice A (W * H) c] 24)) from (Below.refl _ _).alloc (Nat.le_refl _) _)
  have HD := Lib.hid (show ∀ i, dif (nc W H warp) (sd W H f warp at_) i = (sd W H f warp at_ i != sd W H f warp at_ ((i + nc W H warp - 1) % nc W H warp)) from fun _ => rfl)
  clear hr
  generalize sd W H f warp at_ = s at *
  generalize cro (nc W H warp) s = C at *
  generalize dif (nc W H warp) s = D at *
  generalize nc W H warp = n at *
  obtain ⟨hn1, hn0⟩ := hn
  have HC0 : Hid (C 0 = 0) := Lib.hid (Nat.le_zero.1 (HL.out 0))
  go_enter Try.func69, Try.ntmps69
  go_wp2
  go_loopw [7, 8] (fun q v wr => ∃ i : Nat, i ≤ n ∧ v = .int .i64 i ∧ q = .int .i64 (C i : Nat) ∧ Hid (Box wr w.heap.size (W : Nat) (H : Nat) (.slice A (W * H) c)) ∧ Hid (Below w.heap.size w wr)) (fun _ v _ => n - (intOf v).toNat)
  case atStart => exact ⟨0, by omega, rfl, by rw [HC0.out]; rfl, X0, LB0⟩
  case round =>
    obtain ⟨i, hi, rfl, rfl, HB, HL1⟩ := hrel
    obtain ⟨q0, q1, q2, q3, q4, q5, q6⟩ := HB.out.all
    go_wp2_with fail
    clear q0 q1 q2 q3 q4 q5 q6
    refine (HN.out _).mono ?_
    rintro e w1 ⟨rfl, hb⟩
    have HB1 := Lib.hid (HB.out.below hb HB.out.lt)
    have HL2 := Lib.hid (HL1.out.trans (hb.mono HL1.out.size))
    clear hb HB HL1
    by_cases hli : i < n
    · have y1 : (i : Int) < (n : Int) := by omega
      have y2 : IntKind.i64.wrap ((i : Int) - 1) = (i : Int) - 1 := IntWalk.i64_in _ (by omega)
      have HS : Hid (∀ u, Below w1.heap.size w1 u → u.cell? ⟨w.heap.size, 0, none⟩ = some (.int .i64 (W : Nat)) ∧ u.cell? ⟨w.heap.size, 1, none⟩ = some (.int .i64 (H : Nat)) ∧ u.cell? ⟨w.heap.size, 2, none⟩ = some (.slice A (W * H) c)) :=
        Lib.hid (fun u h => ⟨(HB1.out.below h HB1.out.lt).c0, (HB1.out.below h HB1.out.lt).c1, (HB1.out.below h HB1.out.lt).c2⟩)
      have HF1 := Lib.hid (fun u (h : Below w1.heap.size w1 u) => HF.out u (HL2.out.trans (h.mono HL2.out.size)) i hli)
      have HP1 := Lib.hid (fun u (h : Below w1.heap.size w1 u) => HP.out u (HL2.out.trans (h.mono HL2.out.size)) i hli)
      have HDi := Lib.hid (HD.out i)
      have HCi := Lib.hid (HC.out i)
      have hle := HL.out i
      obtain ⟨b1, hb1⟩ : ∃ b, s i = b := ⟨_, rfl⟩
      obtain ⟨b2, hb2⟩ : ∃ b, s ((i + n - 1) % n) = b := ⟨_, rfl⟩
      simp only [hb1] at HF1 HDi
      simp only [hb2] at HP1 HDi
      clear hb1 hb2
      obtain ⟨q0, q1, q2, q3, q4, q5, q6⟩ := HB1.out.all
      go_wp2
      go_region_held3 (fun w' => w'.cell? ⟨w.heap.size, 0, none⟩ = some (.int .i64 (W : Nat)) ∧ w'.cell? ⟨w.heap.size, 1, none⟩ = some (.int .i64 (H : Nat)) ∧ w'.cell? ⟨w.heap.size, 2, none⟩ = some (.slice A (W * H) c))
        (exact HS.out _ (by (repeat' (first | assumption | exact Below.refl _ _ | refine Below.drew ?_ | refine blA ?_ (Nat.le_refl _) _))))
        (first
          | (go_at_call 34
             with_reducible refine Calls.mono (HF1.out _ (by (repeat' (first | assumption | exact Below.refl _ _ | refine Below.drew ?_)))) ?_
             rintro e u1 ⟨rfl, hb⟩
             have hb7 : Below w1.heap.size w1 u1 := (Below.refl _ _).drew.trans hb)
          | (go_at_call 34
             with_reducible refine Calls.mono (HP1.out _ (by (repeat' (first | assumption | exact Below.refl _ _ | refine Below.drew ?_)))) ?_
             rintro e u2 ⟨rfl, hb⟩
             have hb8 : Below w1.heap.size w1 u2 := hb7.trans (hb.mono hb7.size)))
      all_goals
        have HB9 := Lib.hid (HB1.out.below hb8 HB1.out.lt)
        have HL9 := Lib.hid (HL2.out.trans (hb8.mono HL2.out.size))
        have hD : D i = (b1 != b2) := HDi.out
        have hC := HCi.out
        rw [hD] at hC
        have HCC := Lib.hid hC
        clear hD hC
        cases b1 <;> cases b2
        all_goals
          go_wp2
          exact ⟨⟨i + 1, by omega, by go_num, by rw [HCC.out]; first | rfl | (simp), HB9, HL9⟩, by simp [intOf]; omega⟩
    · have e : i = n := by omega
      subst e
      go_wp2
      go_ret
      exact ⟨rfl, HL2.out⟩
end Go.Proofs.Ytnpgmgaajejhjaa
