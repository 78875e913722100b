/- fits$1. -/
import Derived.Test.YtjbofdgdcnfmoaaPlc
namespace Go.Proofs.Ytjbofdgdcnfmoaa
open Go.RowKit
set_option maxRecDepth 100000
set_option linter.unusedVariables false
set_option linter.unusedSimpArgs false

/-- A plane and where it lies. -/
structure PV where
  (g t W H k d : Nat)
  s : Value
  f : Nat → Bool
structure PV.At (P : PV) (v : World) (lo : Nat) : Prop where
  pl : PL v lo P.g P.t P.W P.H P.k P.d P.s P.f
  w0 : 1 ≤ P.W
  w1 : P.W ≤ 64
  h0 : 1 ≤ P.H
  h1 : P.H ≤ 64
/-- The function value of a plane. -/
def PV.fn (P : PV) : Value := .func (.func 132) #[] #[.pointer (some ⟨P.g, 0, none⟩), .pointer (some ⟨P.t, 0, none⟩)]
def PV.c (P : PV) (x y : Nat) : Bool := pc P.W P.H P.f x y
theorem PV.At.next {P : PV} {v v' : World} {lo : Nat} (h : P.At v lo) (hb : Below v.heap.size v v') : P.At v' lo := ⟨h.pl.next hb, h.w0, h.w1, h.h0, h.h1⟩
theorem PV.At.drewN {P : PV} {v : World} {lo : Nat} (h : P.At v lo) (m : Nat) : P.At (v.drewN m) lo := ⟨⟨h.pl.box, h.pl.var, h.pl.row, h.pl.dd, h.pl.g0, h.pl.t0, h.pl.k0, h.pl.tl⟩, h.w0, h.w1, h.h0, h.h1⟩
/-- What fits has captured. -/
structure FT (v : World) (lo ph pf pw pt h w : Nat) (A B : PV) : Prop where
  ch : v.cell? ⟨ph, 0, none⟩ = some (.int .i64 (h : Nat))
  cf : v.cell? ⟨pf, 0, none⟩ = some A.fn
  cw : v.cell? ⟨pw, 0, none⟩ = some (.int .i64 (w : Nat))
  ct : v.cell? ⟨pt, 0, none⟩ = some B.fn
  pa : A.At v lo
  pb : B.At v lo
  lh : ph < v.heap.size
  lf : pf < v.heap.size
  lw : pw < v.heap.size
  lt : pt < v.heap.size
theorem FT.drewN {v : World} {lo ph pf pw pt h w : Nat} {A B : PV} (F : FT v lo ph pf pw pt h w A B) (m : Nat) : FT (v.drewN m) lo ph pf pw pt h w A B := ⟨F.ch, F.cf, F.cw, F.ct, F.pa.drewN m, F.pb.drewN m, F.lh, F.lf, F.lw, F.lt⟩
theorem FT.next {v v' : World} {lo ph pf pw pt h w : Nat} {A B : PV} (F : FT v lo ph pf pw pt h w A B) (hb : Below v.heap.size v v') : FT v' lo ph pf pw pt h w A B :=
  ⟨(hb.cell (p := ⟨ph, 0, none⟩) F.lh).trans F.ch, (hb.cell (p := ⟨pf, 0, none⟩) F.lf).trans F.cf, (hb.cell (p := ⟨pw, 0, none⟩) F.lw).trans F.cw, (hb.cell (p := ⟨pt, 0, none⟩) F.lt).trans F.ct, F.pa.next hb, F.pb.next hb, Nat.lt_of_lt_of_le F.lh hb.size, Nat.lt_of_lt_of_le F.lf hb.size, Nat.lt_of_lt_of_le F.lw hb.size, Nat.lt_of_lt_of_le F.lt hb.size⟩
set_option maxHeartbeats 1600000 in
theorem fits1_any {v : World} {lo ph pf pw pt h w : Nat} {A B : PV} (F : FT v lo ph pf pw pt h w A B) (hh : h ≤ 64) (hw0 : 1 ≤ w) (hwa : w ≤ A.W) (hwb : w ≤ B.W) (dx dy : Nat) (hx : dx ≤ 900) (hy : dy ≤ 900) :
    Calls Try.prog 114 #[.int .i64 (dx : Nat), .int .i64 (dy : Nat), .pointer (some ⟨ph, 0, none⟩), .pointer (some ⟨pf, 0, none⟩), .pointer (some ⟨pw, 0, none⟩), .pointer (some ⟨pt, 0, none⟩)] v fun e w' =>
      e = .returned (.bool (decide (∀ y, y < h → ∀ i, i < w → A.c i y = B.c (dx + i) (y + dy)))) ∧ ∃ m, w' = v.drewN m := by
  have HF := Lib.hid F
  have HX := Lib.hid (And.intro hwa hwb)
  have q0 := F.ch
  clear F hwa hwb
  go_enter Try.func114, Try.ntmps114
  go_wp2
  go_loopw [11] (fun i wr => ∃ k : Nat, k ≤ h ∧ i = .int .i64 k ∧ Hid (∀ y, y < k → ∀ i, i < w → A.c i y = B.c (dx + i) (y + dy)) ∧ ∃ m, wr = v.drewN m) (fun i _ => h - (intOf i).toNat)
  case atStart => exact ⟨0, Nat.zero_le _, rfl, fun i hi => absurd hi (by omega), 0, by first | rfl | exact (World.drewN_zero _).symm⟩
  case round =>
    obtain ⟨y, hk, rfl, hall, m, rfl⟩ := hrel
    by_cases hlt : y < h
    · have HF1 := HF.out.drewN m
      obtain ⟨w1, hw1⟩ : ∃ w1, v.drewN m = w1 := ⟨_, rfl⟩
      rw [hw1] at HF1 ⊢
      have HW := Lib.hid hw1
      clear hw1
      have c1 := HF1.cf
      have c2 := HF1.cw
      have c3 := HF1.ct
      have z1 : IntKind.i64.wrap ((y : Int) + (dy : Int)) = (y : Int) + (dy : Int) := IntWalk.i64_in _ (by omega)
      unfold PV.fn at c1 c3
      have HA : ∀ q, Calls Try.prog 132 #[.int .i64 0, .int .i64 (y : Nat), .int .i64 (w : Nat), .pointer (some ⟨A.g, 0, none⟩), .pointer (some ⟨A.t, 0, none⟩)] (w1.drewN q) fun e w' => e = .returned (.slice (some ⟨A.k, 2 * A.W * (y % A.H) + 0 % A.W, none⟩) w w) ∧ ∃ m, w' = (w1.drewN q).drewN m :=
        fun q => plane1_any (HF1.pa.drewN q).pl HF1.pa.w0 HF1.pa.w1 HF1.pa.h0 HF1.pa.h1 0 y w (by omega) (by omega) hw0 HX.out.1
      have HB : ∀ q, Calls Try.prog 132 #[.int .i64 (dx : Nat), .int .i64 ((y : Int) + (dy : Int)), .int .i64 (w : Nat), .pointer (some ⟨B.g, 0, none⟩), .pointer (some ⟨B.t, 0, none⟩)] (w1.drewN q) fun e w' => e = .returned (.slice (some ⟨B.k, 2 * B.W * ((y + dy) % B.H) + dx % B.W, none⟩) w w) ∧ ∃ m, w' = (w1.drewN q).drewN m :=
        fun q => by
          have h := plane1_any (HF1.pb.drewN q).pl HF1.pb.w0 HF1.pb.w1 HF1.pb.h0 HF1.pb.h1 dx (y + dy) w (by omega) (by omega) hw0 HX.out.2
          rwa [Int.natCast_add] at h
      have HE : ∀ q, Calls Try.prog 115 #[.slice (some ⟨A.k, 2 * A.W * (y % A.H) + 0 % A.W, none⟩) w w, .slice (some ⟨B.k, 2 * B.W * ((y + dy) % B.H) + dx % B.W, none⟩) w w] (w1.drewN q) fun e w' => e = .returned (.bool (decide (∀ i, i < w → A.c i y = B.c (dx + i) (y + dy)))) ∧ ∃ m, w' = (w1.drewN q).drewN m := by
        intro q
        have k1 := (HF1.pa.drewN q).pl.cells HF1.pa.w0 HF1.pa.h0 0 y w HX.out.1
        have k2 := (HF1.pb.drewN q).pl.cells HF1.pb.w0 HF1.pb.h0 dx (y + dy) w HX.out.2
        simp only [Nat.zero_add] at k1
        exact equal_quiet _ _ _ _ w w w _ _ _ (by have := HX.out.1; have := HF1.pa.w1; omega) k1 k2
      generalize 2 * A.W * (y % A.H) + 0 % A.W = oA at HA HE
      generalize 2 * B.W * ((y + dy) % B.H) + dx % B.W = oB at HB HE
      by_cases e : ∀ i, i < w → A.c i y = B.c (dx + i) (y + dy)
      · have E := Lib.hid e
        rw [decide_eq_true e] at HE
        clear e
        go_wp2
        go_quiet ((first | (go_at_call 132; with_reducible exact Calls.quiet_of (HA _)) | (go_at_call 132; with_reducible exact Calls.quiet_of (HB _)) | (go_at_call 115; with_reducible exact Calls.quiet_of (HE _))))
        go_wp2
        refine ⟨⟨y + 1, by omega, by go_num, fun i hi => ?_, _, by rw [← HW.out, World.drewN_drewN]⟩, by simp [intOf]; omega⟩
        rcases Nat.lt_succ_iff_lt_or_eq.1 hi with h | rfl
        · exact hall.out i h
        · exact E.out
      · have E := Lib.hid e
        rw [decide_eq_false e] at HE
        clear e
        go_wp2
        go_quiet ((first | (go_at_call 132; with_reducible exact Calls.quiet_of (HA _)) | (go_at_call 132; with_reducible exact Calls.quiet_of (HB _)) | (go_at_call 115; with_reducible exact Calls.quiet_of (HE _))))
        go_wp2
        go_ret
        exact ⟨ret_bool (by symm; rw [decide_eq_false_iff_not]; exact fun h => E.out (h y hlt)), _, by rw [← HW.out, World.drewN_drewN]⟩
    · have e : y = h := by omega
      subst e
      go_wp2
      go_ret
      exact ⟨ret_bool (by symm; rw [decide_eq_true_iff]; exact hall.out), m, rfl⟩
end Go.Proofs.Ytjbofdgdcnfmoaa
