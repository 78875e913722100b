/- The program's inverse: where each number below n is in a list that has each of them just once. -/
import Derived.Test.YtbafhdinalapoaaDoorIdx
import Derived.Test.YtbafhdinalapoaaDoorRep
namespace Go.Proofs.YtbafhdinalapoaaDoor
open Go.RowKit
set_option linter.unusedVariables false
set_option linter.unusedSimpArgs false
set_option maxRecDepth 100000

open L2 (plc fst fst_end fst_succ_miss fst_succ_hit plc_hit plc_miss fst_mono fst_at fst_no fst_le fst_keep)
/-- A list has each number below n just once. -/
def prm (m : Nat) (f : Nat → Int) (N : Nat) : Bool := decide (m = N ∧ (∀ i, i < N → 0 ≤ f i ∧ f i < N) ∧ ∀ i, i < N → ¬ fst f (f i) i < i)
theorem plc_seen {f : Nat → Int} {x : Int} {k : Nat} : plc f x k = -1 ↔ ¬ fst f x k < k := by
  unfold plc
  by_cases h : fst f x k < k
  · rw [if_pos h]; constructor
    · intro e; omega
    · intro e; exact absurd h e
  · rw [if_neg h]; simp [h]
theorem plc_succ {f : Nat → Int} {k : Nat} (h : ¬ fst f (f k) k < k) (x : Int) : plc f x (k + 1) = if x = f k then (k : Int) else plc f x k := by
  by_cases e : x = f k
  · rw [if_pos e, e]
    exact plc_hit h rfl (by omega)
  · rw [if_neg e]
    by_cases h2 : fst f x k < k
    · unfold plc
      rw [fst_keep h2, if_pos h2, if_pos (by omega)]
    · rw [plc_miss h2, plc_miss (by rw [fst_succ_miss h2 (Ne.symm e)]; omega)]

set_option maxHeartbeats 1600000 in
theorem inverse_len (A : Option Addr) (m c : Nat) (N : Int) (w : World) (hne : ¬ (m : Int) = N) :
    Calls Tryd.prog 39 #[.slice A m c, .int .i64 N] w fun e w' => e = .returned (.tuple #[.slice none 0 0, .bool false]) ∧ Below w.heap.size w w' := by
  have z1 : ((m : Int) == N) = false := by simp [hne]
  go_enter Tryd.func39, Tryd.ntmps39
  go_wp2
  exact bodyPost_ret (v := .tuple #[.slice none 0 0, .bool false]) (by simp [results, Tryd.results39, go_sem]) rfl ⟨rfl, Below.refl _ _⟩

/-- What inverse answers. -/
def InvOut (w : World) (N : Nat) (f : Nat → Int) (e : Ending) (w' : World) : Prop :=
  Below w.heap.size w w' ∧ (prm N f N = true → ∃ b, e = .returned (.tuple #[.slice (some ⟨b, 0, none⟩) N N, .bool true]) ∧ w.heap.size ≤ b ∧ L2.Row w' b N (fun v => plc f v N)) ∧
    (prm N f N = false → e = .returned (.tuple #[.slice none 0 0, .bool false]))
theorem inv_no {w w' : World} {N : Nat} {f : Nat → Int} (h : prm N f N = false) (hb : Below w.heap.size w w') : InvOut w N f (.returned (.tuple #[.slice none 0 0, .bool false])) w' :=
  ⟨hb, fun e => absurd (h.symm.trans e) (by decide), fun _ => rfl⟩
theorem inv_yes {w w' : World} {N b : Nat} {f : Nat → Int} (h : prm N f N = true) (hb : Below w.heap.size w w') (h1 : w.heap.size ≤ b) (h2 : L2.Row w' b N (fun v => plc f v N)) : InvOut w N f (.returned (.tuple #[.slice (some ⟨b, 0, none⟩) N N, .bool true])) w' :=
  ⟨hb, fun _ => ⟨b, rfl, h1, h2⟩, fun e => by rw [h] at e; cases e⟩

set_option maxHeartbeats 3200000 in
theorem inverse_any (A : Option Addr) (N c : Nat) (f : Nat → Int) (w : World) (hr : L2.Holds w w.heap.size A N f) (h0 : 1 ≤ N) (hN : N ≤ 1000) :
    Calls Tryd.prog 39 #[.slice A N c, .int .i64 N] w (InvOut w N f) := by
  have HR := Lib.hid hr
  clear hr
  go_enter Tryd.func39, Tryd.ntmps39
  have C0 : (w.alloc (.cells #[.int .i64 (-1)] 3)).cell? ⟨w.heap.size, 0, none⟩ = some (.int .i64 (-1)) := by simp only [World.cell?, heap_alloc_new]; rfl
  have B0 := Lib.hid ((Below.refl w.heap.size w).alloc (Nat.le_refl _) (.cells #[.int .i64 (-1)] 3))
  have S0 := Lib.hid (show (w.alloc (.cells #[.int .i64 (-1)] 3)).heap.size = w.heap.size + 1 by simp)
  have C1 := Lib.hid C0
  clear C0
  go_wp2_with fail
  generalize w.alloc (.cells #[.int .i64 (-1)] 3) = w0 at *
  refine (L2.repeat_any w.heap.size 1 N (-1) w0 C1.out (by have := S0.out; omega) h0 hN).mono ?_
  rintro e w1 ⟨b, rfl, hb, hrow, hbel⟩
  have R1 := Lib.hid (hrow.congr (f' := fun v => plc f v 0) fun i _ => by rw [plc_miss (by omega)])
  have B1 := Lib.hid (B0.out.trans (hbel.mono B0.out.size))
  have S1 := Lib.hid (show w.heap.size < b by have := S0.out; omega)
  clear hb hrow hbel B0 S0 C1
  go_wp2
  go_loopw [18] (fun i wr => ∃ y : Nat, y ≤ N ∧ i = .int .i64 y ∧ Hid (∀ i, i < y → 0 ≤ f i ∧ f i < N) ∧ Hid (∀ i, i < y → ¬ fst f (f i) i < i) ∧ Hid (L2.Row wr b N (fun v => plc f v y)) ∧ Hid (Below w.heap.size w wr)) (fun i _ => N - (intOf i).toNat)
  case atStart => exact ⟨0, Nat.zero_le _, rfl, Lib.hid fun i hi => absurd hi (by omega), Lib.hid fun i hi => absurd hi (by omega), R1, B1⟩
  case round =>
    obtain ⟨y, hy, rfl, hin, hdi, hrow, hbel⟩ := hrel
    by_cases hlt : y < N
    · obtain ⟨b', o, rfl, hbl, hc⟩ := (HR.out.below hbel.out) (by omega)
      have c1 := hc y hlt
      clear hc
      have y0 : (0 : Int) ≤ (y : Int) := by omega
      have y1 : (y : Int) < (N : Int) := by omega
      by_cases g1 : 0 ≤ f y ∧ f y < N
      · obtain ⟨v, hv⟩ : ∃ v : Nat, f y = v := ⟨(f y).toNat, (Int.toNat_of_nonneg g1.1).symm⟩
        rw [hv] at c1 g1
        have HV := Lib.hid hv
        have g2 := g1.2
        have d1 : decide ((v : Int) < 0) = false := by simp
        have d2 : decide ((N : Int) ≤ (v : Int)) = false := by simp; omega
        have d3 : (0 : Int) ≤ (v : Int) := by omega
        have r0 := hrow.out.cell (i := v) (by omega)
        have r1 := hrow.out.free v
        have r2 := hrow.out.lt
        clear hv g1
        by_cases hs : fst f (f y) y < y
        · have z1 : (plc f (v : Int) y != -1) = true := by
            rw [← HV.out, bne_iff_ne]
            intro h
            exact plc_seen.1 h hs
          have hbad : prm N f N = false := by
            unfold prm
            rw [decide_eq_false_iff_not]
            rintro ⟨_, _, h⟩
            exact h y hlt hs
          have HB := Lib.hid hbad
          obtain ⟨u, hu⟩ : ∃ u, plc f (v : Int) y = u := ⟨_, rfl⟩
          rw [hu] at r0 z1
          clear hbad hs hu
          go_wp2
          exact bodyPost_ret (v := .tuple #[.slice none 0 0, .bool false]) (by simp [results, Tryd.results39, go_sem]) rfl (inv_no HB.out hbel.out)
        · have z1 : (plc f (v : Int) y != -1) = false := by
            rw [← HV.out, plc_seen.2 hs]; rfl
          have HS := Lib.hid hs
          obtain ⟨u, hu⟩ : ∃ u, plc f (v : Int) y = u := ⟨_, rfl⟩
          rw [hu] at r0 z1
          clear hs hu
          go_wp2
          refine ⟨⟨y + 1, by omega, by go_num, Lib.hid fun i hi => ?_, Lib.hid fun i hi => ?_, Lib.hid ?_, Lib.hid (hbel.out.setCell (by have := S1.out; show _ ≤ b; omega) _)⟩, by simp [intOf]; omega⟩
          · rcases Nat.lt_succ_iff_lt_or_eq.1 hi with h | rfl
            · exact hin.out i h
            · rw [HV.out]; omega
          · rcases Nat.lt_succ_iff_lt_or_eq.1 hi with h | rfl
            · exact hdi.out i h
            · exact HS.out
          · refine (hrow.out.set_ v (y : Int)).congr fun j hj => ?_
            rw [plc_succ HS.out, HV.out]
            by_cases e : j = v
            · rw [if_pos e, if_pos (by omega)]
            · rw [if_neg e, if_neg (by omega)]
      · have hbad : prm N f N = false := by
          unfold prm
          rw [decide_eq_false_iff_not]
          rintro ⟨_, h, _⟩
          exact g1 (h y hlt)
        have HB := Lib.hid hbad
        obtain ⟨v, hv⟩ : ∃ v, f y = v := ⟨_, rfl⟩
        rw [hv] at c1 g1
        clear hbad hv
        by_cases g2 : v < 0
        · have d1 : decide (v < 0) = true := by simp [g2]
          go_wp2
          exact bodyPost_ret (v := .tuple #[.slice none 0 0, .bool false]) (by simp [results, Tryd.results39, go_sem]) rfl (inv_no HB.out hbel.out)
        · have d1 : decide (v < 0) = false := by simp [g2]
          have d2 : decide ((N : Int) ≤ v) = true := by simp; omega
          go_wp2
          exact bodyPost_ret (v := .tuple #[.slice none 0 0, .bool false]) (by simp [results, Tryd.results39, go_sem]) rfl (inv_no HB.out hbel.out)
    · have e : y = N := by omega
      subst e
      have hok : prm y f y = true := by
        unfold prm
        rw [decide_eq_true_iff]
        exact ⟨rfl, hin.out, hdi.out⟩
      have HB := Lib.hid hok
      clear hok
      go_wp2
      exact bodyPost_ret (v := .tuple #[.slice (some ⟨b, 0, none⟩) y y, .bool true]) (by simp [results, Tryd.results39, go_sem]) rfl (inv_yes HB.out hbel.out (by have := S1.out; omega) hrow.out)
end Go.Proofs.YtbafhdinalapoaaDoor
