/- The program's view of an image (image), and cell. -/
import Derived.Test.YtmcdfnhpaneanaaCck
import Derived.OwnWalk
import Derived.Laws.MakeOwn
namespace Go.Proofs.Ytmcdfnhpaneanaa
open Go.RowKit
set_option maxRecDepth 100000
set_option linter.unusedVariables false
set_option linter.unusedSimpArgs false

theorem mk0i_run (N : Nat) (hN : N ≤ 100000) (w : World) : (Instr.makeSlice 22 (.int .i64 0) (.int .i64 (N : Nat))).run Try.prog w = .ok (.slice (some ⟨w.heap.size, 0, none⟩) 0 N) (w.alloc (.cells (madeCells #[.int .i64 0] N) 3)) := by
  obtain ⟨i0, hi, hz0, hz1, hz2⟩ := info_parts L2.TryI.info3
  have h := run_make (P := Try.prog) w 22 3 i0 (.int .i64 0) Try.underlying22 hi hz0 .i64 .i64 0 (N : Nat) (Int.le_refl _) (by omega) (by rw [hz2]; omega) (by omega)
  simp only [Int.toNat_zero, Int.toNat_natCast, hz1, Nat.mul_one] at h
  exact h
/-- A new row of no ints. -/
theorem L2.Own.made (w : World) (base N : Nat) (hN : N ≤ 100000) (hb : base ≤ w.heap.size) (f : Nat → Int) : L2.Own (w.alloc (.cells (madeCells #[.int .i64 0] N) 3)) base (.slice (some ⟨w.heap.size, 0, none⟩) 0 N) 0 f :=
  ⟨rfl, .inr ⟨w.heap.size, N, madeCells #[.int .i64 0] N, rfl, hb, World.alloc_heap_new _ _, Nat.zero_le _, by unfold maxLen; omega, by rw [size_madeCells, Nat.mul_one], rfl⟩⟩
theorem L2.Own.row {w : World} {base n : Nat} {v : Value} {f : Nat → Int} (h : L2.Own w base v n f) (hn : 0 < n) : ∃ k c, v = .slice (some ⟨k, 0, none⟩) n c ∧ base ≤ k ∧ L2.Row w k n f := by
  obtain ⟨A, c, e, _, hr⟩ := h.out
  obtain ⟨k, rfl, h1, h2⟩ := hr hn
  exact ⟨k, c, e, h1, h2⟩
/-- What is asked of the function value of a view: at each place it answers 'F', and writes nothing that was there. -/
def GivesI (g : Nat) (lb : Array Value) (w0 : World) (W H : Nat) (F : Nat → Nat → Int) : Prop :=
  ∀ (w : World) (x y : Nat), Below w0.heap.size w0 w → x < W → y < H → Calls Try.prog g (#[.int .i64 x, .int .i64 y] ++ lb) w fun e w' => e = .returned (.int .i64 (F x y)) ∧ Below w.heap.size w w'
/-- An image came back, in a row of its own. -/
def RV (w : World) (X Y : Int) (N : Nat) (F : Nat → Int) (e : Ending) (w' : World) : Prop :=
  ∃ k c, e = .returned (.agg #[.int .i64 X, .int .i64 Y, .slice (some ⟨k, 0, none⟩) N c]) ∧ w.heap.size ≤ k ∧ L2.Row w' k N F ∧ Below w.heap.size w w'
set_option maxHeartbeats 1600000 in
theorem vimg_any (W H : Nat) (hW0 : 1 ≤ W) (hW : W ≤ 64) (hH0 : 1 ≤ H) (hH : H ≤ 64) (g : Nat) (lb : Array Value) (F : Nat → Nat → Int) (w : World) (hG : GivesI g lb w W H F)
    (eg : ∀ args w, (callFunc g args).run Try.prog w = .ok (.enter g args) w) :
    Calls Try.prog 69 #[.agg #[.int .i64 (W : Nat), .int .i64 (H : Nat), .func (.func g) #[] lb]] w (RV w (W : Nat) (H : Nat) (W * H) (fun i => F (i % W) (i / W))) := by
  have hN : W * H ≤ 4096 := Nat.mul_le_mul hW hH
  have e1 : IntKind.i64.wrap ((W : Int) * (H : Int)) = ((W * H : Nat) : Int) := by
    rw [← Int.natCast_mul]; exact IntWalk.i64_in _ (by omega)
  have hmk := mk0i_run (W * H) (by omega)
  have HG := Lib.hid hG
  clear hG
  have HN0 := Lib.hid (Nat.mul_pos hW0 hH0)
  obtain ⟨f, hf⟩ : ∃ f : Nat → Int, f = fun i => F (i % W) (i / W) := ⟨_, rfl⟩
  have HFV := Lib.hid (fun x y (hx : x < W) => show f (y * W + x) = F x y by
    rw [hf]; show F ((y * W + x) % W) ((y * W + x) / W) = _
    rw [Nat.mul_comm y, Nat.mul_add_mod, Nat.mod_eq_of_lt hx, Nat.mul_add_div (by omega), Nat.div_eq_of_lt hx, Nat.add_zero])
  have HLT := Lib.hid (fun k x (hk : k < H) (hx : x < W) => ix_bd (W := W) (H := H) hx hk)
  have HCM := Lib.hid (Nat.mul_comm H W)
  rw [← hf]
  clear hf
  obtain ⟨N, hNe⟩ : ∃ N, W * H = N := ⟨_, rfl⟩
  rw [hNe] at hN e1 hmk HN0 HLT HCM ⊢
  clear hNe
  have LB0 := Lib.hid (Below.refl w.heap.size w)
  have XV := VBox.new w (W : Nat) (H : Nat) (.func (.func g) #[] lb)
  have XV := Lib.hid XV
  have LB0 := Lib.hid (LB0.out.alloc LB0.out.size (.cells #[.int .i64 (W : Nat), .int .i64 (H : Nat), .func (.func g) #[] lb] 99))
  have XV := Lib.hid (XV.out.alloc (.cells #[.int .i64 0, .int .i64 0, .slice none 0 0] 24))
  have XR := IBox.new (w.alloc (.cells #[.int .i64 (W : Nat), .int .i64 (H : Nat), .func (.func g) #[] lb] 99)) 0 0 (.slice none 0 0)
  rw [show ((w.alloc (.cells #[.int .i64 (W : Nat), .int .i64 (H : Nat), .func (.func g) #[] lb] 99))).heap.size = w.heap.size + 1 by simp] at XR
  have XR := Lib.hid XR
  have LB0 := Lib.hid (LB0.out.alloc LB0.out.size (.cells #[.int .i64 0, .int .i64 0, .slice none 0 0] 24))
  go_enter Try.func69, Try.ntmps69
  go_upto_region 1 with (fail)
  generalize (w.alloc (.cells #[.int .i64 (W : Nat), .int .i64 (H : Nat), .func (.func g) #[] lb] 99)).alloc (.cells #[.int .i64 0, .int .i64 0, .slice none 0 0] 24) = w0 at *
  rw [show w.heap.size + 1 = w.heap.size + 1 from rfl] at XR
  have HSZ := Lib.hid (show w.heap.size + 2 ≤ w0.heap.size by have := XR.out.lt; omega)
  obtain ⟨p0, p1, p2, p3, p4, p5, p6⟩ := XV.out.all
  go_upto_region 2 with (fail)
  clear p0 p1 p2 p3 p4 p5 p6
  have V0 := Lib.hid (L2.Own.made w0 (w.heap.size + 2) N (by omega) HSZ.out f)
  have XV := Lib.hid (XV.out.alloc (.cells (madeCells #[.int .i64 0] N) 3))
  have XR := Lib.hid (XR.out.alloc (.cells (madeCells #[.int .i64 0] N) 3))
  have LB1 := Lib.hid (LB0.out.alloc LB0.out.size (.cells (madeCells #[.int .i64 0] N) 3))
  clear LB0 HSZ
  generalize w0.alloc (.cells (madeCells #[.int .i64 0] N) 3) = w1 at *
  generalize Value.slice (some ⟨w0.heap.size, 0, none⟩) 0 N = sl at *
  obtain ⟨p0, p1, p2, p3, p4, p5, p6⟩ := XV.out.all
  go_wp2
  clear p0 p1 p2 p3 p4 p5 p6
  go_loopw [3, 14] (fun q i wr => ∃ k : Nat, k ≤ H ∧ i = .int .i64 k ∧ Hid (L2.Own wr (w.heap.size + 2) q (k * W) f) ∧ Hid (VBox wr w.heap.size (W : Nat) (H : Nat) (.func (.func g) #[] lb)) ∧ Hid (IBox wr (w.heap.size + 1) 0 0 (.slice none 0 0)) ∧ Hid (Below w.heap.size w wr)) (fun _ i _ => H - (intOf i).toNat)
  case atStart => exact ⟨0, Nat.zero_le _, rfl, by rw [Nat.zero_mul]; exact V0, XV, XR, LB1⟩
  case round =>
    obtain ⟨k, hk, rfl, HO, HV, HX, HB⟩ := hrel
    clear V0 XV XR LB1
    obtain ⟨p0, p1, p2, p3, p4, p5, p6⟩ := HV.out.all
    by_cases hlt : k < H
    · have y1 : (k : Int) < (H : Int) := by omega
      have y2 : (0 : Int) ≤ (k : Int) := by omega
      go_wp2
      clear p0 p1 p2 p3 p4 p5 p6
      go_loopw [3, 19] (fun q i wr => ∃ x : Nat, x ≤ W ∧ i = .int .i64 x ∧ Hid (L2.Own wr (w.heap.size + 2) q (k * W + x) f) ∧ Hid (VBox wr w.heap.size (W : Nat) (H : Nat) (.func (.func g) #[] lb)) ∧ Hid (IBox wr (w.heap.size + 1) 0 0 (.slice none 0 0)) ∧ Hid (Below w.heap.size w wr)) (fun _ i _ => W - (intOf i).toNat)
      case atStart => exact ⟨0, Nat.zero_le _, rfl, by rw [Nat.add_zero]; exact HO, HV, HX, HB⟩
      case round =>
        obtain ⟨x, hx, rfl, HO2, HV2, HX2, HB2⟩ := hrel
        clear HO HV HX HB
        by_cases hltx : x < W
        · have y3 : (x : Int) < (W : Int) := by omega
          have y4 : (0 : Int) ≤ (x : Int) := by omega
          have HGk := Lib.hid (HG.out wr x k HB2.out hltx hlt)
          have HFk := Lib.hid (HFV.out x k hltx)
          have hlen := HLT.out k x hlt hltx
          have HE := Lib.hid (show k * W + (x + 1) = k * W + x + 1 by omega)
          obtain ⟨m, hm⟩ : ∃ m, k * W + x = m := ⟨_, rfl⟩
          rw [hm] at hlen HO2 HFk HE
          clear hm
          obtain ⟨bv, hbv⟩ : ∃ bv, F x k = bv := ⟨_, rfl⟩
          rw [hbv] at HGk HFk
          clear hbv
          obtain ⟨p0, p1, p2, p3, p4, p5, p6⟩ := HV2.out.all
          go_wp2_with (first | (go_at_fn g; clear p0 p1 p2 p3 p4 p5 p6; (refine HGk.out.mono ?_); rintro e w1 ⟨rfl, hb1⟩; have HB1 := Lib.hid (HB2.out.trans (hb1.mono HB2.out.size)); have HX1 := Lib.hid (HX2.out.below hb1 HX2.out.lt); have HV1 := Lib.hid (HV2.out.below hb1 HV2.out.lt); have HO1 := Lib.hid (HO2.out.below hb1); have hsz : w.heap.size + 2 ≤ w1.heap.size := HX1.out.lt; clear hb1) | (at_builtin; refine L2.app1 _ rfl _ _ (by rfl) (w.heap.size + 2) (by rfl) HO1.out bv (by rfl) HFk.out (by omega) hsz ?_; intro v' w5 hown5 hb5; have HO5 := Lib.hid hown5; have HB5 := Lib.hid hb5; clear hown5 hb5))
          have HB6 := Lib.hid (HB1.out.trans (HB5.out.mono (by omega)))
          have HX6 := Lib.hid (HX1.out.below HB5.out (by omega))
          have HV6 := Lib.hid (HV1.out.below HB5.out (by omega))
          go_roundw
          case rel => exact ⟨x + 1, by omega, by go_num, by rw [HE.out]; exact HO5, HV6, HX6, HB6⟩
          case measure => simp [intOf]; omega
        · have e : x = W := by omega
          have y3 : ¬ (x : Int) < (W : Int) := by omega
          have HO3 := Lib.hid (show L2.Own wr (w.heap.size + 2) u3 ((k + 1) * W) f by rw [Nat.add_mul, Nat.one_mul, ← e]; rw [e] at HO2 ⊢; exact HO2.out)
          clear e HO2
          go_wp2
          go_roundw
          case rel => exact ⟨k + 1, by omega, by go_num, HO3, HV2, HX2, HB2⟩
          case measure => simp [intOf]; omega
    · have e : k = H := by omega
      have y1 : ¬ (k : Int) < (H : Int) := by omega
      rw [e, HCM.out] at HO
      obtain ⟨g1, c1, rfl, hg1, hrow⟩ := HO.out.row HN0.out
      have HR := Lib.hid hrow
      have HLS := Lib.hid (show w.heap.size + 1 ≠ g1 by omega)
      clear e hrow
      obtain ⟨r0, r1, r2, r3, r4, r5, r6⟩ := HX.out.all
      go_wp2
      refine bodyPost_ret (v := .agg #[.int .i64 (W : Nat), .int .i64 (H : Nat), .slice (some ⟨g1, 0, none⟩) N c1]) (by simp [results, Try.results69, go_sem, r0, r1, r2, r3, r4, r5]) rfl ?_
      refine ⟨g1, c1, rfl, by omega, ((HR.out.far (p := ⟨w.heap.size + 1, 0, none⟩) (by exact HLS.out.symm) _).far (p := ⟨w.heap.size + 1, 1, none⟩) (by exact HLS.out.symm) _).far (p := ⟨w.heap.size + 1, 2, none⟩) (by exact HLS.out.symm) _, ?_⟩
      exact ((HB.out.setCell (p := ⟨w.heap.size + 1, 0, none⟩) (Nat.le_succ _) _).setCell (p := ⟨w.heap.size + 1, 1, none⟩) (Nat.le_succ _) _).setCell (p := ⟨w.heap.size + 1, 2, none⟩) (Nat.le_succ _) _
set_option maxHeartbeats 400000 in
theorem icell_any (W H : Int) (A : Option Addr) (n c : Nat) (x y : Int) (f : Nat → Int) (B : Nat) (w : World) (hr : L2.Holds w B A n f) (hB : B ≤ w.heap.size) (hm : n ≤ 5000)
    (hW0 : 0 ≤ W) (hW : W ≤ 64) (hx0 : 0 ≤ x) (hx : x < 64) (hy0 : 0 ≤ y) (hy : y < 64) (hi : (y * W + x).toNat < n) :
    Calls Try.prog 71 #[.agg #[.int .i64 W, .int .i64 H, .slice A n c], .int .i64 x, .int .i64 y] w fun e w' => e = .returned (.int .i64 (f (y * W + x).toNat)) ∧ Below w.heap.size w w' := by
  obtain ⟨b, o, rfl, hlt, hc⟩ := hr (by omega)
  obtain ⟨h1, h2⟩ := mul_bd hW0 hW hy0 hy
  have hc0 := hc _ hi
  have h3 : y * W + x < (n : Int) := by omega
  clear hc
  have hbw : b < w.heap.size := by omega
  go_enter Try.func71, Try.ntmps71
  go_wp2
  go_ret
  exact ⟨rfl, (Below.refl _ _).alloc (Nat.le_refl _) _⟩
theorem icell_nat (W H : Nat) (A : Option Addr) (c : Nat) (x y : Int) (f : Nat → Int) (w : World) (hr : L2.Holds w w.heap.size A (W * H) f)
    (hW : W ≤ 64) (hH : H ≤ 64) (i j : Nat) (hx : x = i) (hy : y = j) (hi : i < W) (hj : j < H) :
    Calls Try.prog 71 #[.agg #[.int .i64 (W : Nat), .int .i64 (H : Nat), .slice A (W * H) c], .int .i64 x, .int .i64 y] w fun e w' => e = .returned (.int .i64 (f (j * W + i))) ∧ Below w.heap.size w w' := by
  subst hx hy
  have h1 := ix_bd hi hj
  have h2 : W * H ≤ 4096 := Nat.mul_le_mul hW hH
  have e : ((j : Int) * (W : Int) + (i : Int)).toNat = j * W + i := by
    have : ((j : Int) * (W : Int) + (i : Int)) = ((j * W + i : Nat) : Int) := by simp
    rw [this, Int.toNat_natCast]
  have h := icell_any W H A (W * H) c i j f w.heap.size w hr (Nat.le_refl _) (by omega) (by omega) (by omega) (by omega) (by omega) (by omega) (by omega) (by rw [e]; exact h1)
  rw [e] at h
  exact h
set_option maxHeartbeats 400000 in
theorem rat_any (W H : Int) (A : Option Addr) (n c : Nat) (x y : Int) (f : Nat → Int) (B : Nat) (w : World) (hr : L2.Holds w B A n f) (hB : B ≤ w.heap.size) (hm : n ≤ 5000)
    (hW0 : 0 ≤ W) (hW : W ≤ 64) (hx0 : 0 ≤ x) (hx : x < 64) (hy0 : 0 ≤ y) (hy : y < 64) (hi : (y * W + x).toNat < n) :
    Calls Try.prog 45 #[.agg #[.int .i64 W, .int .i64 H, .slice A n c], .int .i64 x, .int .i64 y] w fun e w' => e = .returned (.int .i64 (f (y * W + x).toNat)) ∧ Below w.heap.size w w' := by
  obtain ⟨b, o, rfl, hlt, hc⟩ := hr (by omega)
  obtain ⟨h1, h2⟩ := mul_bd hW0 hW hy0 hy
  have hc0 := hc _ hi
  have h3 : y * W + x < (n : Int) := by omega
  clear hc
  have hbw : b < w.heap.size := by omega
  go_enter Try.func45, Try.ntmps45
  go_wp2
  go_ret
  exact ⟨rfl, (Below.refl _ _).alloc (Nat.le_refl _) _⟩
theorem rat_nat (W H : Nat) (A : Option Addr) (c : Nat) (x y : Int) (f : Nat → Int) (w : World) (hr : L2.Holds w w.heap.size A (W * H) f)
    (hW : W ≤ 64) (hH : H ≤ 64) (i j : Nat) (hx : x = i) (hy : y = j) (hi : i < W) (hj : j < H) :
    Calls Try.prog 45 #[.agg #[.int .i64 (W : Nat), .int .i64 (H : Nat), .slice A (W * H) c], .int .i64 x, .int .i64 y] w fun e w' => e = .returned (.int .i64 (f (j * W + i))) ∧ Below w.heap.size w w' := by
  subst hx hy
  have h1 := ix_bd hi hj
  have h2 : W * H ≤ 4096 := Nat.mul_le_mul hW hH
  have e : ((j : Int) * (W : Int) + (i : Int)).toNat = j * W + i := by
    have : ((j : Int) * (W : Int) + (i : Int)) = ((j * W + i : Nat) : Int) := by simp
    rw [this, Int.toNat_natCast]
  have h := rat_any W H A (W * H) c i j f w.heap.size w hr (Nat.le_refl _) (by omega) (by omega) (by omega) (by omega) (by omega) (by omega) (by omega) (by rw [e]; exact h1)
  rw [e] at h
  exact h
end Go.Proofs.Ytmcdfnhpaneanaa
