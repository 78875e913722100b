/- reached, threads, split of the program. -/
import Derived.Test.YtgmcbdnfgdmmaaaHpt
namespace Go.Proofs.Ytgmcbdnfgdmmaaa
open Go.RowKit
set_option maxRecDepth 100000
set_option linter.unusedVariables false
set_option linter.unusedSimpArgs false

set_option maxHeartbeats 800000 in
theorem reached_n (R : Nat → Nat → Bool) (N : Nat) (D : Option Addr) (d : Nat) (L : Nat → List Nat) (hL : ∀ i, i < N → L i = ofl (fun a => R a i) N) (tt : Nat) (w : World) (hls : LLs w D N L) (hto : tt < N) (hN : N ≤ 128) :
    Calls Try.prog 120 #[.int .i64 (tt : Nat), .slice D N d] w (LR w (ofl (up R N tt) N)) := by
  have HS := Lib.hid (steps_n R N D d L hL tt w hls hto hN)
  have HBD := Lib.hid (fun x => (far_all (R := R) hto).1 x)
  clear hls hL
  go_enter Try.func120, Try.ntmps120
  go_wp2_with fail
  with_reducible refine Calls.mono HS.out ?_
  rintro e w1 ⟨fr, rfl, hfr, hrow, hb⟩
  have LB1 := Lib.hid hb
  have RW := Lib.hid hrow
  have hs1 := hb.size
  clear hb HS hrow
  go_wp2
  go_loopw [5, 12] (fun q i wr => ∃ k : Nat, k ≤ N ∧ i = .int .i64 k ∧ Hid (L2.Own wr w1.heap.size q (ofl (up R N tt) k).length (lf (ofl (up R N tt) k))) ∧ Hid (Below w1.heap.size w1 wr)) (fun _ i _ => N - (intOf i).toNat)
  case atStart => exact ⟨0, Nat.zero_le _, rfl, Lib.hid (L2.Own.nil _ _ _), Lib.hid (Below.refl _ _)⟩
  case round =>
    obtain ⟨k, hk, rfl, HO, HB⟩ := hrel
    by_cases hlt : k < N
    · have y1 : (k : Int) < (N : Int) := by omega
      have y3 : (0 : Int) ≤ (k : Int) := by omega
      have hlen := ofl_len (up R N tt) k
      have c1 := (RW.out.below HB.out RW.out.lt).cell hlt
      have hsz := HB.out.size
      have hbd := HBD.out k
      obtain ⟨u, hu⟩ : ∃ u, far R N tt k = u := ⟨_, rfl⟩
      rw [hu] at c1 hbd
      have HU := Lib.hid hu
      clear hu
      by_cases h0 : 0 ≤ u
      · have hT : up R N tt k = true := up_iff.2 (by rw [HU.out]; exact h0)
        have E := Lib.hid (ofl_yes hT)
        have HF := Lib.hid (HO.out.congr (fun i hi => lf_app (r := [k]) hi))
        have HY := Lib.hid (lf_last (ofl (up R N tt) k) k)
        have EL := Lib.hid (show (ofl (up R N tt) (k + 1)).length = (ofl (up R N tt) k).length + 1 by rw [E.out, List.length_append]; rfl)
        have z : (u != -1) = true := by simp only [bne_iff_ne, ne_eq]; omega
        clear hT HO
        go_wp2_with (at_builtin; refine L2.app1 _ rfl _ _ (by rfl) w1.heap.size (by rfl) HF.out (k : Int) (by rfl) HY.out (by omega) hsz ?_; intro v' w5 hown5 hb5; have HO5 := Lib.hid hown5; have HB5 := Lib.hid hb5; clear hown5 hb5)
        exact ⟨⟨k + 1, by omega, by go_num, by rw [EL.out, E.out]; exact HO5, Lib.hid (HB.out.trans HB5.out)⟩, by simp [intOf]; omega⟩
      · have hT : up R N tt k = false := by cases h : up R N tt k; · rfl
                                            · exact absurd (by have := up_iff.1 h; rwa [HU.out] at this) h0
        have E := Lib.hid (ofl_no hT)
        have e1 : u = -1 := by omega
        have z : (u != -1) = false := by rw [e1]; rfl
        clear hT e1
        go_wp2
        exact ⟨⟨k + 1, by omega, by go_num, by rw [E.out]; exact HO, HB⟩, by simp [intOf]; omega⟩
    · have e : k = N := by omega
      subst e
      have HF := Lib.hid (lr_end HO.out hs1 (LB1.out.trans (HB.out.mono hs1)))
      go_wp2
      go_ret
      exact HF.out
/-- The numbers of the picks. -/
def pks (W k : Nat) : List Nat := (List.range k).map fun y => W + y
theorem pks_succ (W k : Nat) : pks W (k + 1) = pks W k ++ [W + k] := by unfold pks; rw [List.range_succ, List.map_append]; rfl
theorem pks_len (W k : Nat) : (pks W k).length = k := by unfold pks; simp
/-- The ends and the picks came back. -/
def ThR (W H : Nat) (w : World) (e : Ending) (w' : World) : Prop := ∃ D1 c1 D2 c2, e = .returned (.tuple #[.slice D1 W c1, .slice D2 H c2]) ∧ LL w' D1 (List.range W) ∧ LL w' D2 (pks W H) ∧ Below w.heap.size w w'
set_option maxHeartbeats 1600000 in
theorem threads_any (W H : Nat) (A : Option Addr) (N c : Nat) (w : World) (hW : W ≤ 64) (hH : H ≤ 64) :
    Calls Try.prog 147 #[.agg #[.int .i64 (W : Nat), .int .i64 (H : Nat), .slice A N c]] w (ThR W H w) := by
  have X0 := Lib.hid (Box.new w (W : Nat) (H : Nat) (.slice A (N) c))
  have LB0 := Lib.hid (show Below w.heap.size w (w.alloc (.cells #[.int .i64 (W : Nat), .int .i64 (H : Nat), (.slice A (N) c)] 24)) from (Below.refl _ _).alloc (Nat.le_refl _) _)
  go_enter Try.func147, Try.ntmps147
  go_wp2_with fail
  generalize w.alloc (.cells #[.int .i64 (W : Nat), .int .i64 (H : Nat), .slice A N c] 24) = w0 at *
  obtain ⟨q0, q1, q2, q3, q4, q5, q6⟩ := X0.out.all
  go_wp2
  clear q0 q1 q2 q3 q4 q5 q6
  have hs0 := LB0.out.size
  go_loopw [2, 8] (fun q i wr => ∃ k : Nat, k ≤ W ∧ i = .int .i64 k ∧ Hid (L2.Own wr w0.heap.size q k (lf (List.range k))) ∧ Hid (Below w0.heap.size w0 wr)) (fun _ i _ => W - (intOf i).toNat)
  case atStart => exact ⟨0, Nat.zero_le _, rfl, Lib.hid (L2.Own.nil _ _ _), Lib.hid (Below.refl _ _)⟩
  case round =>
    obtain ⟨k, hk, rfl, HO, HB⟩ := hrel
    by_cases hlt : k < W
    · have y1 : (k : Int) < (W : Int) := by omega
      have hsz := HB.out.size
      have HF := Lib.hid (HO.out.congr (g := lf (List.range (k + 1))) (fun i hi => by rw [List.range_succ]; exact lf_app (by simpa using hi)))
      have HY := Lib.hid (show lf (List.range (k + 1)) k = (k : Int) by rw [List.range_succ]; have := lf_last (List.range k) k; rwa [List.length_range] at this)
      clear HO
      go_wp2_with (at_builtin; refine L2.app1 _ rfl _ _ (by rfl) w0.heap.size (by rfl) HF.out (k : Int) (by rfl) HY.out (by omega) hsz ?_; intro v' w5 hown5 hb5; have HO5 := Lib.hid hown5; have HB5 := Lib.hid hb5; clear hown5 hb5)
      exact ⟨⟨k + 1, by omega, by go_num, HO5, Lib.hid (HB.out.trans HB5.out)⟩, by simp [intOf]; omega⟩
    · have e : k = W := by omega
      have y1 : ¬ (k : Int) < (W : Int) := by omega
      obtain ⟨D1, c1, rfl, _, h2⟩ := HO.out.out
      have HL1 := Lib.hid (show LL wr D1 (List.range W) from by
        have h3 : 0 < (List.range k).length → ∃ kk, D1 = some ⟨kk, 0, none⟩ ∧ w0.heap.size ≤ kk ∧ L2.Row wr kk (List.range k).length (lf (List.range k)) := by rw [List.length_range]; exact h2
        rw [← e]; exact LL.of h3)
      have X1 := Lib.hid (X0.out.below HB.out X0.out.lt)
      have LB1 := Lib.hid (LB0.out.trans (HB.out.mono hs0))
      obtain ⟨q0, q1, q2, q3, q4, q5, q6⟩ := X1.out.all
      clear h2 HO HB
      go_wp2
      clear q0 q1 q2 q3 q4 q5 q6
      obtain ⟨wo, rfl⟩ : ∃ wo : World, wo = wr := ⟨_, rfl⟩
      have hs1 := LB1.out.size
      go_loopw [3, 18] (fun q i wr => ∃ y : Nat, y ≤ H ∧ i = .int .i64 y ∧ Hid (L2.Own wr wo.heap.size q y (lf (pks W y))) ∧ Hid (Below wo.heap.size wo wr)) (fun _ i _ => H - (intOf i).toNat)
      case atStart => exact ⟨0, Nat.zero_le _, rfl, Lib.hid (L2.Own.nil _ _ _), Lib.hid (Below.refl _ _)⟩
      case round =>
        obtain ⟨y, hy, rfl, HO, HB⟩ := hrel
        by_cases hlt2 : y < H
        · have y2 : (y : Int) < (H : Int) := by omega
          have hsz := HB.out.size
          have HF := Lib.hid (HO.out.congr (g := lf (pks W (y + 1))) (fun i hi => by rw [pks_succ]; exact lf_app (by rw [pks_len]; exact hi)))
          have HY := Lib.hid (show lf (pks W (y + 1)) y = (W : Int) + (y : Int) by rw [pks_succ]; have := lf_last (pks W y) (W + y); rw [pks_len] at this; rw [this]; omega)
          have X2 := Lib.hid (X1.out.below HB.out X1.out.lt)
          obtain ⟨q0, q1, q2, q3, q4, q5, q6⟩ := X2.out.all
          clear HO
          go_wp2_with (at_builtin; refine L2.app1 _ rfl _ _ (by rfl) wo.heap.size (by rfl) HF.out ((W : Int) + (y : Int)) (by rfl) HY.out (by omega) hsz ?_; intro v' w5 hown5 hb5; have HO5 := Lib.hid hown5; have HB5 := Lib.hid hb5; clear hown5 hb5)
          exact ⟨⟨y + 1, by omega, by go_num, HO5, Lib.hid (HB.out.trans HB5.out)⟩, by simp [intOf]; omega⟩
        · have e2 : y = H := by omega
          have y2 : ¬ (y : Int) < (H : Int) := by omega
          obtain ⟨D2, c2, rfl, _, h2⟩ := HO.out.out
          have HL2 := Lib.hid (show LL wr D2 (pks W H) from by
            have h3 : 0 < (pks W y).length → ∃ kk, D2 = some ⟨kk, 0, none⟩ ∧ wo.heap.size ≤ kk ∧ L2.Row wr kk (pks W y).length (lf (pks W y)) := by rw [pks_len]; exact h2
            rw [← e2]; exact LL.of h3)
          clear h2 HO
          go_wp2
          go_ret2
          exact ⟨D1, c1, D2, c2, (by rw [← e, ← e2]; rfl), HL1.out.below HB.out, HL2.out, LB1.out.trans (HB.out.mono hs1)⟩
end Go.Proofs.Ytgmcbdnfgdmmaaa
