/- holders of the program: by which threads a thread is held. -/
import Derived.Test.YtgmcbdnfgdmmaaaLab
namespace Go.Proofs.Ytgmcbdnfgdmmaaa
open Go.RowKit
set_option maxRecDepth 100000
set_option linter.unusedVariables false
set_option linter.unusedSimpArgs false

/-- It has been reached. -/
def rch (s : St) (a : Nat) : Bool := decide (0 ≤ s.far a)
set_option maxHeartbeats 3200000 in
theorem holders_n (R : Nat → Nat → Bool) (N : Nat) (D : Option Addr) (d : Nat) (L : Nat → List Nat) (hL : ∀ i, i < N → L i = ofl (fun a => R a i) N) (tt : Nat) (w : World) (hls : LLs w D N L) (hto : tt < N) (hN : N ≤ 128) :
    Calls Try.prog 158 #[.int .i64 (tt : Nat), .slice D N d] w fun e w' => ∃ k, e = .returned (.slice (some ⟨k, 0, none⟩) N N) ∧ w.heap.size ≤ k ∧ Row w' k N (up R N tt) ∧ Below w.heap.size w w' := by
  have HLS := Lib.hid hls
  have HLL := Lib.hid hL
  have HST := Lib.hid (fun k (h : k ≤ (bst R N tt k).q.length) => Bf.st (R := R) hto k h)
  have hmk := mkb_run N (by omega)
  have R0 := Row.made w N
  have LB0 := Lib.hid ((Below.refl w.heap.size w).alloc (Nat.le_refl _) (.cells (madeCells #[.bool false] N) 4))
  have hsz0 : w.heap.size + 1 ≤ (w.alloc (.cells (madeCells #[.bool false] N) 4)).heap.size := by simp
  have hweq : (w.alloc (.cells (madeCells #[.bool false] N) 4)).setCell ⟨w.heap.size, tt, none⟩ (.bool true) = w.alloc (.cells ((madeCells #[.bool false] N).setIfInBounds tt (.bool true)) 4) := World.setCell_alloc_at _ _ _ _ _ rfl
  have HW1 := Lib.hid ((R0.set_ tt true).congr (f' := rch (ini tt)) fun j hj => by
    show (if j = tt then true else false) = decide (0 ≤ (if j = tt then (0 : Int) else -1))
    split <;> rfl)
  have HL1 := Lib.hid (LB0.out.setCell (p := ⟨w.heap.size, tt, none⟩) (Nat.le_refl _) (.bool true))
  have c1 := R0.cell hto
  have c2 := R0.free tt
  have y1 : (tt : Int) < (N : Int) := by omega
  have y3 : (0 : Int) ≤ (tt : Int) := by omega
  have hs3 : w.heap.size + 1 ≤ ((w.alloc (.cells (madeCells #[.bool false] N) 4)).setCell ⟨w.heap.size, tt, none⟩ (.bool true)).heap.size := by simp
  rw [hweq] at HW1 HL1 hs3
  clear hls hL R0 LB0 hsz0 hweq
  go_enter Try.func158, Try.ntmps158
  go_upto_region 3 with (fail)
  clear c1 c2 hmk
  generalize w.alloc (.cells ((madeCells #[.bool false] N).setIfInBounds tt (.bool true)) 4) = w3 at *
  obtain ⟨fr, hfr⟩ : ∃ fr, w.heap.size = fr := ⟨_, rfl⟩
  have hs1 : w.heap.size ≤ fr := by omega
  rw [hfr] at HW1 hs3 HL1 ⊢
  have HO0 := Lib.hid (tl_one w3 hs3 tt)
  have HW2 := Lib.hid (HW1.out.alloc (.cells #[.int .i64 (tt : Nat)] 3))
  have HL2 := Lib.hid (HL1.out.alloc (by omega) (.cells #[.int .i64 (tt : Nat)] 3))
  have hs4 : fr + 1 ≤ (w3.alloc (.cells #[.int .i64 (tt : Nat)] 3)).heap.size := by simp; omega
  clear HW1 HL1 hs3
  go_wp2
  go_loopg [6] N (fun gk q wr => ∃ m : Nat, gk + m = N ∧ Hid (m ≤ (bst R N tt m).q.length) ∧ Hid (Row wr fr N (rch (bst R N tt m))) ∧ Hid (Tl wr (fr + 1) q ((bst R N tt m).q.drop m)) ∧ Hid (Below fr w wr) ∧ fr + 1 ≤ wr.heap.size)
  case atStart => exact ⟨0, rfl, Lib.hid (Nat.zero_le _), HW2, HO0, HL2, hs4⟩
  case round =>
    obtain ⟨m, hgm, HM, HW, HO, HL, hs5⟩ := hrel
    clear HW2 HO0 HL2 hs4
    have HB := Lib.hid (HST.out m HM.out)
    have hlen := HB.out.len
    obtain ⟨s, hs⟩ : ∃ s, bst R N tt m = s := ⟨_, rfl⟩
    have HS := Lib.hid hs
    rw [hs] at HM HW HO HB hlen
    clear hs
    have hdl := drop_len (s := s) (m := m)
    have hmq := HM.out
    by_cases hlm : m < s.q.length
    · have HNX := Lib.hid (show bst R N tt (m + 1) = rndk R (s.at m) s N by rw [← HS.out]; exact bst_go (by rw [HS.out]; exact hlm))
      have HRB := Lib.hid (rndk_at (R := R) (c := s.at m) hlm N)
      have hcN := HB.out.lt m hlm
      have hHD := drop_head hlm
      have hfB0 := (HB.out.fq m hlm).1
      have HVI := Lib.hid (fun M => Vi.sj (c := s.at m) (B := s.far (s.at m)) (s0 := s) (M := M) ⟨fun a => ⟨(HB.out.bd a).1, by
        by_cases hm' : ∃ i, i < s.q.length ∧ s.at i = a
        · obtain ⟨i, hi, e⟩ := hm'
          rw [← e]; exact HB.out.near i hi hlm
        · have h1 := HB.out.neg a fun i hi e => hm' ⟨i, hi, e⟩
          have h2 := (HB.out.fq m hlm).1
          omega⟩, rfl, [], by simp, Nat.le_refl _⟩ (HB.out.fq m hlm).1)
      obtain ⟨cc, hcc⟩ : ∃ cc, s.at m = cc := ⟨_, rfl⟩
      rw [hcc] at HNX HRB hcN hHD HVI hfB0
      clear hcc
      obtain ⟨Bc, hBc⟩ : ∃ x, s.far cc = x := ⟨_, rfl⟩
      rw [hBc] at HVI hfB0
      clear hBc
      obtain ⟨gq, oq, capq, cur, rfl, hgq, hcq, hcapq, hszq, hclq⟩ := HO.out
      have c0 : wr.cell? ⟨gq, oq, none⟩ = some (.int .i64 (cc : Nat)) := by
        have h0 := hclq 0 (by omega)
        rw [Nat.add_zero, hHD] at h0
        rw [Lib.cell_of_heap hcq]
        exact h0
      obtain ⟨Lq, hLq⟩ : ∃ x, (s.q.drop m).length = x := ⟨_, rfl⟩
      rw [hLq] at hdl hcapq ⊢
      have HLq := Lib.hid hLq
      clear hclq hcq hHD hszq
      have HO1 : Hid (Tl wr (fr + 1) (.slice (some ⟨gq, oq, none⟩) Lq capq) ((sj cc s [] 0).q.drop m)) := Lib.hid (by have h := HO.out; rw [hLq] at h; exact h)
      clear hLq HO
      have hLq0 : 0 < Lq := by omega
      have y5 : (0 : Int) < (Lq : Int) := by omega
      have y5' : (Lq : Int) > 0 := by omega
      clear hdl
      obtain ⟨bn, on, rfl, hbn, hcn⟩ := HLS.out (by omega)
      obtain ⟨E, ce, cE0, hcp, hllE⟩ := hcn cc hcN
      have cE := (HL.out.cell (p := ⟨bn, on + cc, none⟩) (by rw [← hfr]; exact hbn)).trans cE0
      clear hcn cE0
      have HLE := Lib.hid hllE
      have HME := Lib.hid (HLL.out cc hcN)
      have HLT := Lib.hid (fun i (h : i < (L cc).length) => (show (L cc).getD i 0 < N by have := HME.out; rw [this] at h ⊢; exact (ofl_get h).1))
      have HEND := Lib.hid (show (L cc).foldl (vis1 cc) s = rndk R cc s N by rw [HME.out]; exact rnd_list R cc N s)
      have hlM : (L cc).length ≤ N := by rw [HME.out]; exact ofl_len _ _
      obtain ⟨M, hM⟩ : ∃ M, L cc = M := ⟨_, rfl⟩
      rw [hM] at cE HLE HLT HEND hlM
      clear hM hllE hcp
      have y6 : (cc : Int) < (N : Int) := by omega
      have y7 : (0 : Int) ≤ (cc : Int) := by omega
      obtain ⟨LM, hLM⟩ : ∃ x, M.length = x := ⟨_, rfl⟩
      rw [hLM] at cE hlM HLT
      have HLMe := Lib.hid hLM
      clear hLM
      go_wp2
      clear cE c0 y5 y5' hLq0
      go_loopw [6, 29] (fun q i wr => ∃ j : Nat, j ≤ LM ∧ i = .int .i64 j ∧ Hid (Row wr fr N (rch (sj cc s M j))) ∧ Hid (Tl wr (fr + 1) q ((sj cc s M j).q.drop m)) ∧ Hid (Below fr w wr) ∧ fr + 1 ≤ wr.heap.size) (fun _ i _ => LM - (intOf i).toNat)
      case atStart => exact ⟨0, Nat.zero_le _, rfl, HW, HO1, HL, hs5⟩
      case round =>
        obtain ⟨j, hj, rfl, HW2, HO2, HL2, hs6⟩ := hrel
        clear HW HO1 HL hs5
        have HVj := Lib.hid (HVI.out M j (by rw [HLMe.out]; exact hj))
        by_cases hlj : j < LM
        · have z1 : (j : Int) < (LM : Int) := by omega
          have z2 : (0 : Int) ≤ (j : Int) := by omega
          have HSJ := Lib.hid (sj_succ (c := cc) (s := s) (M := M) (j := j) (by rw [HLMe.out]; exact hlj))
          obtain ⟨be, oe, rfl, hbe, hce⟩ := (L2.Holds.below HLE.out (by rw [hfr]; exact HL2.out)) (by rw [HLMe.out]; omega)
          have ce1 := hce j (by rw [HLMe.out]; exact hlj)
          clear hce
          have haN := HLT.out j hlj
          have hle : lf M j = ((M.getD j 0 : Nat) : Int) := rfl
          rw [hle] at ce1
          obtain ⟨a, ha⟩ : ∃ a, M.getD j 0 = a := ⟨_, rfl⟩
          rw [ha] at HSJ ce1 haN
          clear ha hle
          have HQ := HVj.out.q
          generalize sj cc s M j = s' at *
          have z3 : (a : Int) < (N : Int) := by omega
          have z4 : (0 : Int) ≤ (a : Int) := by omega
          have d1 := HW2.out.cell haN
          have d3 := HW2.out.free a
          have HFC := Lib.hid HVj.out.fc
          obtain ⟨fa, hfa⟩ : ∃ x, s'.far a = x := ⟨_, rfl⟩
          have d1' : rch s' a = decide (0 ≤ fa) := by unfold rch; rw [hfa]
          have HFA := Lib.hid hfa
          clear hfa
          obtain ⟨r, hr1, hr2⟩ := HQ
          have hq1 : s'.q.length = s.q.length + r.length := by rw [hr1, List.length_append]
          have hdr : (s'.q.drop m).length ≤ 100000 := by rw [List.length_drop]; omega
          have HAP := Lib.hid (fun y => drop_app (q := s'.q) (r := [y]) (m := m) (by omega))
          clear hr1 hr2 hq1
          by_cases hneg : fa < 0
          · rw [d1', decide_eq_false (by omega)] at d1
            clear d1'
            have E1 := Lib.hid (show sj cc s M (j + 1) = ⟨fun x => if x = a then s'.far cc + 1 else s'.far x, s'.q ++ [a]⟩ by rw [HSJ.out]; exact vis1_yes (by rw [HFA.out]; exact hneg))
            have HW4 := Lib.hid ((HW2.out.set_ a true).congr (f' := rch ⟨fun x => if x = a then s'.far cc + 1 else s'.far x, s'.q ++ [a]⟩) fun j _ => by
              show (if j = a then true else rch s' j) = decide (0 ≤ (if j = a then s'.far cc + 1 else s'.far j))
              split
              · exact (decide_eq_true (by rw [HFC.out]; omega)).symm
              · rfl)
            have HL4 := Lib.hid (HL2.out.setCell (p := ⟨fr, a, none⟩) (Nat.le_refl _) (.bool true))
            have HO4 := Lib.hid (HO2.out.far (p := ⟨fr, a, none⟩) (by show fr < fr + 1; omega) (.bool true))
            have hs8 : fr + 1 ≤ (wr.setCell ⟨fr, a, none⟩ (.bool true)).heap.size := by simpa using hs6
            clear HW2 HO2 HL2
            go_upto_region 11 with (fail)
            clear d1 d3 ce1 hneg
            generalize wr.setCell ⟨fr, a, none⟩ (.bool true) = w7 at *
            go_wp2_with (at_builtin; refine tapp1 _ rfl _ _ (by rfl) (fr + 1) (by rfl) HO4.out a (by rfl) hdr hs8 ?_; intro v' w6 hown6 hb6; have HO6 := Lib.hid hown6; have HB6 := Lib.hid hb6; clear hown6 hb6)
            have HW6 := Lib.hid (HW4.out.below HB6.out (by omega))
            have HL6 := Lib.hid (HL4.out.trans (HB6.out.mono (by omega)))
            have hs9 := Nat.le_trans hs8 HB6.out.size
            go_roundw
            case rel => exact ⟨j + 1, by omega, by go_num, by rw [E1.out]; exact HW6, by rw [E1.out, HAP.out]; exact HO6, HL6, hs9⟩
            case measure => simp [intOf]; omega
          · rw [d1', decide_eq_true (by omega)] at d1
            clear d1'
            have E1 := Lib.hid (show sj cc s M (j + 1) = s' by rw [HSJ.out]; exact vis1_no (by rw [HFA.out]; exact hneg))
            go_wp2
            go_roundw
            case rel => exact ⟨j + 1, by omega, by go_num, by rw [E1.out]; exact HW2, by rw [E1.out]; exact HO2, HL2, hs6⟩
            case measure => simp [intOf]; omega
        · have e : j = LM := by omega
          have z1 : ¬ (j : Int) < (LM : Int) := by omega
          have E1 := Lib.hid (show sj cc s M j = bst R N tt (m + 1) by rw [HNX.out, ← HEND.out, e, ← HLMe.out]; exact sj_all _ _ _)
          have hmN : m < N := by omega
          have hgr := HRB.out.2
          have E2 := Lib.hid (show m + 1 ≤ (bst R N tt (m + 1)).q.length by rw [HNX.out]; omega)
          clear e
          rw [E1.out] at HW2 HO2
          obtain ⟨gq, oq, capq, cur, rfl, hgq, hcq, hcapq, hszq, hclq⟩ := HO2.out
          have hdl2 : ((bst R N tt (m + 1)).q.drop m).length = (bst R N tt (m + 1)).q.length - m := List.length_drop
          have hLq0 : 0 < ((bst R N tt (m + 1)).q.drop m).length := by have := E2.out; omega
          have HTL2 := tl_tail HO2.out hLq0
          rw [show ((bst R N tt (m + 1)).q.drop m).drop 1 = (bst R N tt (m + 1)).q.drop (m + 1) by rw [List.drop_drop]] at HTL2
          obtain ⟨Lq, hLq⟩ : ∃ x, ((bst R N tt (m + 1)).q.drop m).length = x := ⟨_, rfl⟩
          rw [hLq] at hcapq HTL2 hLq0 ⊢
          have HTLh := Lib.hid HTL2
          clear HTL2 hLq hclq hcq hszq HO2 hdl2
          by_cases hcap1 : capq = 1
          · have HT3 : Hid (Tl wr (fr + 1) (.slice (some ⟨gq, oq, none⟩) (Lq - 1) (capq - 1)) ((bst R N tt (m + 1)).q.drop (m + 1))) := Lib.hid (by have h := HTLh.out; rw [if_pos hcap1] at h; exact h)
            clear HTLh
            go_wp2
            go_roundg (gk - 1)
            case measure => omega
            case rel => exact ⟨m + 1, by omega, E2, HW2, (by first | exact HT3 | (subst hcap1; exact HT3)), HL2, hs6⟩
          · have HT3 : Hid (Tl wr (fr + 1) (.slice (some ⟨gq, oq + 1, none⟩) (Lq - 1) (capq - 1)) ((bst R N tt (m + 1)).q.drop (m + 1))) := Lib.hid (by have h := HTLh.out; rw [if_neg hcap1] at h; exact h)
            clear HTLh
            go_wp2
            go_roundg (gk - 1)
            case measure => omega
            case rel => exact ⟨m + 1, by omega, E2, HW2, HT3, HL2, hs6⟩
    · have y5 : ¬ (0 : Int) < (((s.q.drop m).length : Nat) : Int) := by omega
      have y5' : ¬ (((s.q.drop m).length : Nat) : Int) > 0 := by omega
      have E := Lib.hid (show far R N tt = s.far by
        unfold far
        have h1 := bst_stop (R := R) (N := N) (tt := tt) (k := m) (by rw [HS.out]; omega) (N - m)
        rw [show m + (N - m) = N by omega] at h1
        rw [h1, HS.out])
      obtain ⟨gq, oq, capq, cur, rfl, _⟩ := HO.out
      obtain ⟨Lq, hLq⟩ : ∃ x, (s.q.drop m).length = x := ⟨_, rfl⟩
      rw [hLq] at y5 y5' ⊢
      clear hLq hdl
      go_wp2
      go_ret
      exact ⟨fr, rfl, Nat.le_refl _, HW.out.congr fun i hi => (show rch s i = up R N tt i by unfold rch up; rw [E.out]), HL.out⟩
end Go.Proofs.Ytgmcbdnfgdmmaaa
