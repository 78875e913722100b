/- The program's sides of a thread: sidesBy and the function values that it calls. -/
import Derived.Test.YtnpgmgaajejhjaaChg
import Derived.Test.YtnpgmgaajejhjaaVra
import Derived.Lib.Builder
namespace Go.Proofs.Ytnpgmgaajejhjaa
open Go.RowKit
set_option maxRecDepth 100000
set_option linter.unusedVariables false
set_option linter.unusedSimpArgs false

/-- A function value of one number with two captured variables. -/
def SaysN (g : FuncId) (p1 p2 : Value) (w0 : World) (N : Nat) (p : Nat → Bool) : Prop :=
  ∀ (w : World) (i : Nat), Below w0.heap.size w0 w → i < N → Calls Try.prog g #[.int .i64 (i : Nat), p1, p2] w fun e w' => e = .returned (.bool (p i)) ∧ Below w.heap.size w w'
set_option maxHeartbeats 800000 in
theorem sides_any (N : Nat) (hN : N ≤ 64) (g : FuncId) (p1 p2 : Value) (p : Nat → Bool) (w : World) (hG : SaysN g p1 p2 w N p) (eg : ∀ args w, (callFunc g args).run Try.prog w = .ok (.enter g args) w) :
    Calls Try.prog 101 #[.int .i64 (N : Nat), .func (.func g) #[] #[p1, p2]] w fun e w' => ∃ k, e = .returned (.slice (some ⟨k, 0, none⟩) N N) ∧ w.heap.size ≤ k ∧ VR w' k 3 N (fun i => .int .i64 (sv (p i))) ∧ Below w.heap.size w w' := by
  have hmk := mki_run N (by omega)
  have HG := Lib.hid hG
  clear hG
  go_enter Try.func101, Try.ntmps101
  go_wp2
  go_loopw [11] (fun v wr => ∃ i : Nat, i ≤ N ∧ v = .int .i64 (i : Nat) ∧ Hid (VR wr w.heap.size 3 N (fun j => if j < i then .int .i64 (sv (p j)) else .int .i64 0)) ∧ Hid (Below w.heap.size w wr)) (fun v _ => N - (intOf v).toNat)
  case atStart => exact ⟨0, by omega, rfl, Lib.hid ((VR.made w N (.int .i64 0) 3).congr fun j _ => by rw [if_neg (by omega)]), Lib.hid ((Below.refl _ _).alloc (Nat.le_refl _) _)⟩
  case round =>
    obtain ⟨i, hi, rfl, HV, HL⟩ := hrel
    by_cases hli : i < N
    · have y1 : (i : Int) < (N : Int) := by omega
      have HV1 := Lib.hid (HV.out.set_ i (.int .i64 1))
      have HL1 := Lib.hid (HL.out.setCell (p := ⟨w.heap.size, i, none⟩) (Nat.le_refl _) (.int .i64 1))
      have c0 := HV.out.cell hli
      have f0 := HV.out.free i
      clear HV HL
      obtain ⟨b, hb0⟩ : ∃ b, p i = b := ⟨_, rfl⟩
      have HB0 := Lib.hid hb0
      have HGi := Lib.hid (fun u (h : Below w.heap.size w u) => HG.out u i h hli)
      simp only [hb0] at HGi
      clear hb0
      go_wp2_with (go_at_fn g; refine (HGi.out _ HL1.out).mono ?_; rintro e w1 ⟨rfl, hb1⟩; have HV2 := Lib.hid (HV1.out.below hb1 HV1.out.lt); have HL2 := Lib.hid (HL1.out.trans (hb1.mono HL1.out.size)); have c1 := HV2.out.cell hli; have f1 := HV2.out.free i; cases b)
      all_goals
        go_roundw
        case rel =>
          first
          | exact ⟨i + 1, by omega, by go_num, Lib.hid (HV2.out.congr fun j hj => by
              by_cases e : j = i
              · subst e; rw [if_pos rfl, if_pos (by omega), HB0.out]; rfl
              · rw [if_neg e]
                by_cases k : j < i
                · rw [if_pos k, if_pos (by omega)]
                · rw [if_neg k, if_neg (by omega)]), HL2⟩
          | exact ⟨i + 1, by omega, by go_num, Lib.hid ((HV2.out.set_ i (.int .i64 0)).congr fun j hj => by
              by_cases e : j = i
              · subst e; rw [if_pos rfl, if_pos (by omega), HB0.out]; rfl
              · rw [if_neg e, if_neg e]
                by_cases k : j < i
                · rw [if_pos k, if_pos (by omega)]
                · rw [if_neg k, if_neg (by omega)]), Lib.hid (HL2.out.setCell (Nat.le_refl _) _)⟩
        case measure => simp [intOf]; omega
    · have e : i = N := by omega
      subst e
      go_wp2
      go_ret
      exact ⟨_, rfl, Nat.le_refl _, HV.out.congr fun j hj => by rw [if_pos hj], HL.out⟩
end Go.Proofs.Ytnpgmgaajejhjaa
