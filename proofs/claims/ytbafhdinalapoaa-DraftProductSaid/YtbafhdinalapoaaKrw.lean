/- A row of a grid, cut out of its cells; whether two rows are the same. -/
import Derived.Test.YtbafhdinalapoaaEq
import Derived.Test.YtbafhdinalapoaaDft
import Derived.Test.YtbafhdinalapoaaClo
import Derived.Test.YtbafhdinalapoaaFam
namespace Go.Proofs.Ytbafhdinalapoaa
open Go.RowKit
set_option linter.unusedVariables false
set_option linter.unusedSimpArgs false
set_option maxRecDepth 100000

set_option maxHeartbeats 800000 in
theorem row_any (W H : Nat) (b o c y : Nat) (w : World) (hW0 : 1 ≤ W) (hW : W ≤ 64) (hH : H ≤ 64) (hc : W * H ≤ c) (hy : y < H) :
    Calls Try.prog 90 #[.agg #[.int .i64 W, .int .i64 H, .slice (some ⟨b, o, none⟩) (W * H) c], .int .i64 y] w fun e w' => e = .returned (.slice (some ⟨b, o + y * W, none⟩) W (c - y * W)) ∧ Below w.heap.size w w' := by
  have h1 : y * W + W ≤ W * H := by
    have h := Nat.mul_le_mul_right W (show y + 1 ≤ H by omega)
    rw [Nat.add_mul, Nat.one_mul, Nat.mul_comm H W] at h
    exact h
  have h2 : W * H ≤ 4096 := Nat.mul_le_mul hW hH
  have e1 : (y : Int) * (W : Int) = ((y * W : Nat) : Int) := by simp
  have e2 : ((y : Int) + 1) * (W : Int) = ((y * W + W : Nat) : Int) := by rw [Int.add_mul]; simp
  have m1 : 0 ≤ (y : Int) * (W : Int) := by rw [e1]; omega
  have m2 : (y : Int) * (W : Int) ≤ 4096 := by rw [e1]; omega
  have m3 : 0 ≤ ((y : Int) + 1) * (W : Int) := by rw [e2]; omega
  have m4 : ((y : Int) + 1) * (W : Int) ≤ 4096 := by rw [e2]; omega
  have m5 : (y : Int) * (W : Int) ≤ ((y : Int) + 1) * (W : Int) := by rw [e1, e2]; omega
  have m6 : ((y : Int) + 1) * (W : Int) ≤ (c : Int) := by rw [e2]; omega
  have m7 : (((y : Int) + 1) * (W : Int)).toNat = y * W + W := by rw [e2, Int.toNat_natCast]
  have m8 : ((y : Int) * (W : Int)).toNat = y * W := by rw [e1, Int.toNat_natCast]
  have HM := Lib.hid (And.intro m7 m8)
  have H1 := Lib.hid h1
  have m9 : ¬ c = y * W := by omega
  have HE := Lib.hid (show (y + 1) * W - y * W = W by rw [Nat.add_mul, Nat.one_mul]; omega)
  clear m7 m8 e1 e2 hc h1 h2
  go_enter Try.func90, Try.ntmps90
  go_wp2
  go_ret
  exact ⟨by rw [HE.out]; rfl, (Below.refl _ _).alloc (Nat.le_refl _) _⟩

/-- The rows y and z have the same cells. -/
def rsm (W : Nat) (f : Nat → Bool) (y z : Nat) : Bool := decide (∀ i, i < W → f (y * W + i) = f (z * W + i))
theorem row_holds {w : World} {B b o W H : Nat} {f : Nat → Bool} (h : Holds w B (some ⟨b, o, none⟩) (W * H) f) {y : Nat} (hW : 1 ≤ W) (hy : y < H) : Holds w B (some ⟨b, o + y * W, none⟩) W (fun i => f (y * W + i)) := fun _ => by
  have h0 : 0 < W * H := Nat.mul_pos (by omega) (by omega)
  obtain ⟨b', o', e, hlt, hc⟩ := h h0
  cases e
  refine ⟨b, o + y * W, rfl, hlt, fun i hi => ?_⟩
  rw [Nat.add_assoc]
  exact hc _ (ix_bd hi hy)

set_option maxHeartbeats 1600000 in
theorem kin_clo {W H gb gy b o c y : Nat} {f : Nat → Bool} {w : World} (hb : Box w gb W H (.slice (some ⟨b, o, none⟩) (W * H) c)) (hc : Holds w w.heap.size (some ⟨b, o, none⟩) (W * H) f) (hcap : W * H ≤ c) (hy : Num w gy y) (hyH : y < H)
    (hW0 : 1 ≤ W) (hW : W ≤ 64) (hH : H ≤ 64) (z : Nat) (hz : z < H) (w1 : World) (hbel : Below w.heap.size w w1) :
    Calls Try.prog 88 (#[.int .i64 z] ++ #[.pointer (some ⟨gb, 0, none⟩), .pointer (some ⟨gy, 0, none⟩)]) w1 fun e w' => e = .returned (.bool (rsm W f z y)) ∧ Below w1.heap.size w1 w' := by
  have hb1 := hb.below hbel hb.lt
  have hy1 := hy.below hbel
  have hc1 := (hc.below hbel).more hbel.size
  have X0 := Lib.hid hb1
  have Y0 := Lib.hid hy1
  have C0 := Lib.hid hc1
  have L0 := Lib.hid (show 0 ≤ w1.heap.size ∧ 1 ≤ H from ⟨by omega, by omega⟩)
  clear hb hc hy hb1 hy1 hc1 hbel
  go_enter Try.func88, Try.ntmps88
  go_wp2
  obtain ⟨I, Wf, i0, h0, hbf, hcl⟩ := family w1
  have HCL := Lib.hid hcl
  have p0 := fun n => ((X0.out.below (hbf n) X0.out.lt).all).1
  have p1 := fun n => ((X0.out.below (hbf n) X0.out.lt).all).2.1
  have p2 := fun n => ((X0.out.below (hbf n) X0.out.lt).all).2.2.1
  have q0 := fun n => (Y0.out.below (hbf n)).1
  have BF := Lib.hid hbf
  have C1 := Lib.hid (fun n => (row_any W H b o c z (Wf n) hW0 hW hH hcap hz).mono fun e w2 h => (⟨h.1, HCL.out n _ h.2⟩ : _ ∧ ∃ m, w2 = Wf m))
  have C2 := Lib.hid (fun n => (row_any W H b o c y (Wf n) hW0 hW hH hcap hyH).mono fun e w2 h => (⟨h.1, HCL.out n _ h.2⟩ : _ ∧ ∃ m, w2 = Wf m))
  have C3 := Lib.hid (fun n => (equal_any _ _ W (c - z * W) (c - y * W) _ _ (Wf n) (by omega) (((row_holds C0.out hW0 hz).below (hbf n)).more (hbf n).size) (((row_holds C0.out hW0 hyH).below (hbf n)).more (hbf n).size)).mono fun e w2 h => (⟨h.1, HCL.out n _ h.2⟩ : _ ∧ ∃ m, w2 = Wf m))
  have C3 : Hid (∀ n, Calls Try.prog 89 #[.slice (some ⟨b, o + z * W, none⟩) W (c - z * W), .slice (some ⟨b, o + y * W, none⟩) W (c - y * W)] (Wf n) fun e w2 => e = .returned (.bool (rsm W f z y)) ∧ ∃ m, w2 = Wf m) := C3
  obtain ⟨u, hu⟩ : ∃ u, rsm W f z y = u := ⟨_, rfl⟩
  rw [hu] at C3
  have HU := Lib.hid hu
  clear hu
  clear hbf hcl
  refine wp_region_fam Wf i0 h0 (by kernel_rfl) (by kernel_rfl) ?_
  clear h0
  have hne : Nonempty I := ⟨i0⟩
  repeat (go_big_quiet_step (first | exact rfl | (go_at_call 90; with_reducible exact C1.out _) | (go_at_call 90; with_reducible exact C2.out _) | (go_at_call 89; with_reducible exact C3.out _)))
  refine wpQuiet_nil ?_
  rintro _ ⟨nq, rfl⟩
  go_wp2
  go_ret
  exact ⟨ret_bool HU.out.symm, BF.out nq⟩

/-- The first place below n at which B holds, or n. -/
def fib (B : Nat → Bool) : Nat → Nat
  | 0 => 0
  | n + 1 => if fib B n < n then fib B n else if B n then n else n + 1
theorem fib_le (B : Nat → Bool) (n : Nat) : fib B n ≤ n := by
  induction n with
  | zero => simp [fib]
  | succ n ih => unfold fib; split <;> (try split) <;> omega
/-- What IndexFunc answers. -/
def ixf (B : Nat → Bool) (n : Nat) : Int := if fib B n < n then (fib B n : Nat) else -1

set_option maxHeartbeats 1600000 in
theorem indexfunc_any (A : Option Addr) (n c : Nat) (F : Nat → Nat) (B : Nat → Bool) (g : Nat) (lb : Array Value) (w : World) (hn : n ≤ 5000) (hr : L2.Holds w w.heap.size A n (fun i => (F i : Nat)))
    (hG : ∀ w1 i, Below w.heap.size w w1 → i < n → Calls Try.prog g (#[.int .i64 (F i : Nat)] ++ lb) w1 fun e w' => e = .returned (.bool (B i)) ∧ Below w1.heap.size w1 w')
    (eg : ∀ args w, (callFunc g args).run Try.prog w = .ok (.enter g args) w) :
    Calls Try.prog 87 #[.slice A n c, .func (.func g) #[] lb] w fun e w' => e = .returned (.int .i64 (ixf B n)) ∧ Below w.heap.size w w' := by
  have HR := Lib.hid hr
  have HG := Lib.hid hG
  clear hr hG
  go_enter Try.func87, Try.ntmps87
  go_wp2
  go_loopw [8] (fun i wr => ∃ k : Nat, k ≤ n ∧ i = .int .i64 k ∧ Hid (fib B k = k) ∧ Below w.heap.size w wr) (fun i _ => n - (intOf i).toNat)
  case atStart => exact ⟨0, Nat.zero_le _, rfl, rfl, Below.refl _ _⟩
  case round =>
    obtain ⟨k, hk, rfl, hfk, hbel⟩ := hrel
    by_cases hlt : k < n
    · obtain ⟨b, o, rfl, hbl, hc⟩ := (HR.out.below hbel) (by omega)
      have c1 := hc k hlt
      have HB := Lib.hid hbel
      have hFk := Lib.hid hfk.out
      clear hc hfk hbel
      have y1 : (0 : Int) ≤ (k : Int) := by omega
      have y2 : (k : Int) < (n : Int) := by omega
      cases hBk : B k
      · have hnext : fib B (k + 1) = k + 1 := by
          show (if fib B k < k then fib B k else if B k then k else k + 1) = k + 1
          rw [if_neg (by have := hFk.out; omega), hBk]; rfl
        have HN := Lib.hid hnext
        clear hnext
        go_wp2_with (go_at_fn g; refine (HG.out _ k HB.out hlt).mono ?_; rintro e w1 ⟨rfl, hb1⟩; rw [hBk]; have HB1 := Lib.hid (HB.out.trans (hb1.mono HB.out.size)); clear hb1)
        exact ⟨⟨k + 1, by omega, by go_num, HN.out, HB1.out⟩, by simp [intOf]; omega⟩
      · have hans : ixf B n = (k : Nat) := by
          have key : ∀ m, k < m → fib B m = k := by
            intro m
            induction m with
            | zero => intro h; omega
            | succ m ih =>
              intro h
              show (if fib B m < m then fib B m else if B m then m else m + 1) = k
              rcases Nat.lt_succ_iff_lt_or_eq.1 h with h1 | rfl
              · rw [ih h1, if_pos h1]
              · rw [if_neg (by have := hFk.out; omega), hBk]; rfl
          unfold ixf
          rw [key n hlt, if_pos hlt]
        have HA := Lib.hid hans
        clear hans
        go_wp2_with (go_at_fn g; refine (HG.out _ k HB.out hlt).mono ?_; rintro e w1 ⟨rfl, hb1⟩; rw [hBk]; have HB1 := Lib.hid (HB.out.trans (hb1.mono HB.out.size)); clear hb1)
        go_ret
        exact ⟨by rw [HA.out]; rfl, HB1.out⟩
    · have e : k = n := by omega
      subst e
      have hans : ixf B k = -1 := by unfold ixf; rw [if_neg (by have := hfk.out; omega)]
      have HA := Lib.hid hans
      clear hans
      go_wp2
      go_ret
      exact ⟨by rw [HA.out]; rfl, hbel⟩
end Go.Proofs.Ytbafhdinalapoaa
