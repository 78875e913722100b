/- The draft package's cell and build. -/
import Derived.Test.YtbafhdinalapoaaClo
import Derived.Test.YtbafhdinalapoaaDft
namespace Go.Proofs.Ytbafhdinalapoaa
open Go.RowKit
set_option linter.unusedVariables false
set_option linter.unusedSimpArgs false

set_option maxHeartbeats 400000 in
theorem dcell_any (W H : Int) (A : Option Addr) (n c : Nat) (x y : Int) (f : Nat → Bool) (B : Nat) (w : World) (hr : Holds w B A n f) (hB : B ≤ w.heap.size) (hm : n ≤ 5000)
    (hW0 : 0 ≤ W) (hW : W ≤ 64) (hx0 : 0 ≤ x) (hx : x < 64) (hy0 : 0 ≤ y) (hy : y < 64) (hi : (y * W + x).toNat < n) :
    Calls Try.prog 57 #[.agg #[.int .i64 W, .int .i64 H, .slice A n c], .int .i64 x, .int .i64 y] w fun e w' => e = .returned (.bool (f (y * W + x).toNat)) ∧ Below w.heap.size w w' := by
  obtain ⟨b, o, rfl, hlt, hc⟩ := hr (by omega)
  obtain ⟨h1, h2⟩ := mul_bd hW0 hW hy0 hy
  have hc0 := hc _ hi
  have h3 : y * W + x < (n : Int) := by omega
  clear hc
  have hbw : b < w.heap.size := by omega
  go_enter Try.func57, Try.ntmps57
  go_wp2
  go_ret
  exact ⟨rfl, (Below.refl _ _).alloc (Nat.le_refl _) _⟩

theorem dcell_nat (W H : Nat) (A : Option Addr) (c : Nat) (x y : Int) (f : Nat → Bool) (w : World) (hr : Holds w w.heap.size A (W * H) f)
    (hW : W ≤ 64) (hH : H ≤ 64) (i j : Nat) (hx : x = i) (hy : y = j) (hi : i < W) (hj : j < H) :
    Calls Try.prog 57 #[.agg #[.int .i64 W, .int .i64 H, .slice A (W * H) c], .int .i64 x, .int .i64 y] w fun e w' => e = .returned (.bool (f (j * W + i))) ∧ Below w.heap.size w w' := by
  subst hx hy
  have h1 := ix_bd hi hj
  have h2 : W * H ≤ 4096 := Nat.mul_le_mul hW hH
  have e : ((j : Int) * (W : Int) + (i : Int)).toNat = j * W + i := by
    have : ((j : Int) * (W : Int) + (i : Int)) = ((j * W + i : Nat) : Int) := by simp
    rw [this, Int.toNat_natCast]
  have h := dcell_any W H A (W * H) c i j f w.heap.size w hr (Nat.le_refl _) (by omega) (by omega) (by omega) (by omega) (by omega) (by omega) (by omega) (by rw [e]; exact h1)
  rw [e] at h
  exact h

set_option maxHeartbeats 800000 in
theorem dbuild_any (W H : Nat) (hW0 : 1 ≤ W) (hW : W ≤ 64) (hH0 : 1 ≤ H) (hH : H ≤ 64) (g : Nat) (lb : Array Value) (F : Nat → Nat → Bool) (w : World) (hG : Gives g lb w W H F)
    (eg : ∀ args w, (callFunc g args).run Try.prog w = .ok (.enter g args) w) :
    Calls Try.prog 55 #[.int .i64 W, .int .i64 H, .func (.func g) #[] lb] w fun e w' =>
      ∃ k, e = .returned (.agg #[.int .i64 W, .int .i64 H, .slice (some ⟨k, 0, none⟩) (W * H) (W * H)]) ∧ w.heap.size ≤ k ∧ Row w' k (W * H) (fun i => F (i % W) (i / W)) ∧ Below w.heap.size w w' := by
  have hN : W * H ≤ 4096 := Nat.mul_le_mul hW hH
  have hNi : (W : Int) * (H : Int) ≤ 4096 := by have := Int.ofNat_le.2 hN; simpa using this
  have hNi0 : 0 ≤ (W : Int) * (H : Int) := by have := Int.natCast_nonneg (W * H); simpa using this
  have hmk := make_run W H hN
  have HG := Lib.hid hG
  clear hG
  go_enter Try.func55, Try.ntmps55
  go_wp2
  go_loopw [15] (fun i wr => ∃ k : Nat, k ≤ H ∧ i = .int .i64 k ∧ Row wr (w.heap.size + 1) (W * H) (part W F (k * W)) ∧ Box wr w.heap.size 0 0 (.slice none 0 0) ∧ Below w.heap.size w wr) (fun i _ => H - (intOf i).toNat)
  case atStart =>
    refine ⟨0, Nat.zero_le _, rfl, ?_, (Box.new w 0 0 _).alloc _, (((Below.refl _ _).alloc (Nat.le_refl _) _).alloc (by simp) _)⟩
    rw [Nat.zero_mul, part_zero]
    have h := Row.made (w.alloc (Obj.cells #[Value.int IntKind.i64 0, Value.int IntKind.i64 0, Value.slice none 0 0] 24)) (W * H)
    simpa using h
  case round =>
    obtain ⟨k, hk, rfl, hrow, hbox, hbel⟩ := hrel
    obtain ⟨wo, rfl⟩ : ∃ wo : World, wo = wr := ⟨_, rfl⟩
    by_cases hlt : k < H
    · go_wp2
      go_loopw [19] (fun i wr => ∃ x : Nat, x ≤ W ∧ i = .int .i64 x ∧ Row wr (w.heap.size + 1) (W * H) (part W F (k * W + x)) ∧ Box wr w.heap.size 0 0 (.slice none 0 0) ∧ Below w.heap.size w wr) (fun i _ => W - (intOf i).toNat)
      case atStart => exact ⟨0, Nat.zero_le _, rfl, hrow, hbox, hbel⟩
      case round =>
        obtain ⟨x, hx, rfl, hrow2, hbox2, hbel2⟩ := hrel
        by_cases hltx : x < W
        · have b1 := mul_bd (W := (W : Int)) (y := (k : Int)) (by omega) (by omega) (by omega) (by omega)
          have b2 : k * W + x < W * H := by
            have h := Nat.mul_le_mul_right W (show k + 1 ≤ H by omega)
            rw [Nat.add_mul, Nat.one_mul, Nat.mul_comm H W] at h
            omega
          have b3 : (k : Int) * (W : Int) + (x : Int) < (W : Int) * (H : Int) := by have := Int.ofNat_lt.2 b2; simpa using this
          go_wp2_with (go_at_fn g; refine (HG.out _ x k hbel2 hltx hlt).mono ?_; rintro e w1 ⟨rfl, hb1⟩; have hrow3 := hrow2.below hb1 hrow2.lt; have hcl := hrow3.cell b2; have hfr := hrow3.free (k * W + x))
          go_roundw
          case rel => exact ⟨x + 1, by omega, by go_num, by have h := hrow3.set_ (k * W + x) (F x k); rw [part_succ F x k hltx] at h; exact h, (hbox2.below hb1 hbox2.lt).far (by simp) _, (hbel2.trans (hb1.mono hbel2.size)).setCell (by simp) _⟩
          case measure => simp [intOf]; omega
        · have e : x = W := by omega
          subst e
          go_wp2
          go_roundw
          case rel => exact ⟨k + 1, by omega, by go_num, by rw [Nat.add_mul, Nat.one_mul]; exact hrow2, hbox2, hbel2⟩
          case measure => simp [intOf]; omega
    · have e : k = H := by omega
      subst e
      obtain ⟨q0, q1, q2, q3, q4, q5, q6⟩ := hbox.all
      go_wp2
      refine bodyPost_ret (v := .agg #[.int .i64 W, .int .i64 k, .slice (some ⟨w.heap.size + 1, 0, none⟩) (W * k) (W * k)]) (by simp [results, Try.results55, go_sem, q0, q1, q2]) rfl ⟨_, rfl, by omega, ?_, ?_⟩
      · refine (((hrow.far (by simp) _).far (by simp) _).far (by simp) _).congr fun i hi => ?_
        unfold part
        rw [if_pos (by rw [Nat.mul_comm]; exact hi)]
      · exact ((hbel.setCell (by simp) _).setCell (by simp) _).setCell (by simp) _
end Go.Proofs.Ytbafhdinalapoaa
