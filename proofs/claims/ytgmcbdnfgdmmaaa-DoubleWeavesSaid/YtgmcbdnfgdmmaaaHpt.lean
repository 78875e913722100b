/- The search of the program: steps, reached. -/
import Derived.Test.YtgmcbdnfgdmmaaaHpq
namespace Go.Proofs.Ytgmcbdnfgdmmaaa
open Go.RowKit
set_option maxRecDepth 100000
set_option linter.unusedVariables false
set_option linter.unusedSimpArgs false

/-- A slice of lists lies in memory. -/
def LLs (w : World) (D : Option Addr) (n : Nat) (L : Nat → List Nat) : Prop :=
  0 < n → ∃ b o, D = some ⟨b, o, none⟩ ∧ b < w.heap.size ∧ ∀ i, i < n → ∃ E c, w.cell? ⟨b, o + i, none⟩ = some (.slice E (L i).length c) ∧ Cp E (L i).length c ∧ LL w E (L i)
theorem LLs.below {w w' : World} {D : Option Addr} {n : Nat} {L : Nat → List Nat} (h : LLs w D n L) (hb : Below w.heap.size w w') : LLs w' D n L := fun hn => by
  obtain ⟨b, o, e, hlt, hc⟩ := h hn
  refine ⟨b, o, e, Nat.lt_of_lt_of_le hlt hb.size, fun i hi => ?_⟩
  obtain ⟨E, c, h1, h2, h3⟩ := hc i hi
  exact ⟨E, c, (hb.cell (p := ⟨b, o + i, none⟩) hlt).trans h1, h2, h3.below hb⟩
/-- A thread is looked at that lies over. -/
def vis1 (c : Nat) (s : St) (a : Nat) : St := if s.far a < 0 then ⟨fun j => if j = a then s.far c + 1 else s.far j, s.q ++ [a]⟩ else s
theorem vis1_yes {c a : Nat} {s : St} (h : s.far a < 0) : vis1 c s a = ⟨fun j => if j = a then s.far c + 1 else s.far j, s.q ++ [a]⟩ := if_pos h
theorem vis1_no {c a : Nat} {s : St} (h : ¬ s.far a < 0) : vis1 c s a = s := if_neg h
theorem vis_eq (R : Nat → Nat → Bool) (c : Nat) (s : St) (a : Nat) : vis R c s a = if R a c = true then vis1 c s a else s := by
  unfold vis vis1
  by_cases h : s.far a < 0
  · rw [decide_eq_true h]
    cases R a c <;> simp [h]
  · rw [decide_eq_false h]
    cases R a c <;> simp [h]
theorem rnd_list (R : Nat → Nat → Bool) (c N : Nat) (s : St) : (ofl (fun a => R a c) N).foldl (vis1 c) s = rndk R c s N := by
  unfold ofl rndk
  rw [List.foldl_filter]
  congr 1
  funext x y
  rw [vis_eq]
def sj (c : Nat) (s : St) (M : List Nat) (j : Nat) : St := (M.take j).foldl (vis1 c) s
theorem sj_zero (c : Nat) (s : St) (M : List Nat) : sj c s M 0 = s := rfl
theorem sj_succ {c : Nat} {s : St} {M : List Nat} {j : Nat} (h : j < M.length) : sj c s M (j + 1) = vis1 c (sj c s M j) (M.getD j 0) := by
  unfold sj
  rw [List.take_succ_eq_append_getElem h, List.foldl_append, List.getD_eq_getElem?_getD, List.getElem?_eq_getElem h]
  rfl
theorem sj_all (c : Nat) (s : St) (M : List Nat) : sj c s M M.length = M.foldl (vis1 c) s := by unfold sj; rw [List.take_length]
/-- What the inner loop keeps. -/
structure Vi (c : Nat) (B : Int) (s0 : St) (j : Nat) (s : St) : Prop where
  bd : ∀ a, -1 ≤ s.far a ∧ s.far a ≤ B + 1
  fc : s.far c = B
  q : ∃ r, s.q = s0.q ++ r ∧ r.length ≤ j
theorem Vi.vis {c a j : Nat} {B : Int} {s0 s : St} (h : Vi c B s0 j s) (hB : 0 ≤ B) : Vi c B s0 (j + 1) (vis1 c s a) := by
  obtain ⟨r, hr1, hr2⟩ := h.q
  by_cases hn : s.far a < 0
  · rw [vis1_yes hn]
    refine ⟨fun x => ?_, ?_, r ++ [a], by show s.q ++ [a] = _; rw [hr1, List.append_assoc], by simp; omega⟩
    · show -1 ≤ (if x = a then s.far c + 1 else s.far x) ∧ (if x = a then s.far c + 1 else s.far x) ≤ B + 1
      by_cases e : x = a
      · rw [if_pos e, h.fc]; omega
      · rw [if_neg e]; exact h.bd x
    · show (if c = a then s.far c + 1 else s.far c) = B
      rw [if_neg (fun e => by rw [← e, h.fc] at hn; omega)]
      exact h.fc
  · rw [vis1_no hn]
    exact ⟨h.bd, h.fc, r, hr1, by omega⟩
theorem Vi.sj {c : Nat} {B : Int} {s0 : St} {M : List Nat} (h : Vi c B s0 0 s0) (hB : 0 ≤ B) : ∀ j, j ≤ M.length → Vi c B s0 j (sj c s0 M j) := by
  intro j
  induction j with
  | zero => intro _; exact h
  | succ j ih => intro hj; rw [sj_succ (by omega)]; exact (ih (by omega)).vis hB
theorem drop_len {s : St} {m : Nat} : (s.q.drop m).length = s.q.length - m := List.length_drop
theorem drop_head {s : St} {m : Nat} (h : m < s.q.length) : lf (s.q.drop m) 0 = (s.at m : Nat) := by
  unfold lf St.at
  rw [List.getD_eq_getElem?_getD, List.getD_eq_getElem?_getD, List.getElem?_drop, Nat.add_zero]
theorem drop_app {q r : List Nat} {m : Nat} (h : m ≤ q.length) : (q ++ r).drop m = q.drop m ++ r := List.drop_append_of_le_length h
theorem tl_tail {w : World} {base g o cap : Nat} {l : List Nat} (h : Tl w base (.slice (some ⟨g, o, none⟩) l.length cap) l) (hl : 0 < l.length) : Tl w base (.slice (some ⟨g, if cap = 1 then o else o + 1, none⟩) (l.length - 1) (cap - 1)) (l.drop 1) := by
  obtain ⟨g', o', cap', cur, e, hg, hc, hcap, hsz, hcl⟩ := h
  obtain ⟨rfl, rfl, rfl⟩ : g = g' ∧ o = o' ∧ cap = cap' := by
    injection e with e1 _ e3
    injection e1 with e1
    injection e1 with e1 e2
    exact ⟨e1, e2, e3⟩
  have hd : (l.drop 1).length = l.length - 1 := List.length_drop
  refine ⟨g, _, cap - 1, cur, by rw [hd], hg, hc, by omega, ?_, fun i hi => ?_⟩
  · split <;> omega
  · rw [hd] at hi
    rw [if_neg (by omega)]
    have := hcl (i + 1) (by omega)
    rw [show o + 1 + i = o + (i + 1) by omega, this]
    unfold lf
    rw [List.getD_eq_getElem?_getD, List.getD_eq_getElem?_getD, List.getElem?_drop, Nat.add_comm 1 i]
set_option maxHeartbeats 3200000 in
theorem steps_n (R : Nat → Nat → Bool) (N : Nat) (D : Option Addr) (d : Nat) (L : Nat → List Nat) (hL : ∀ i, i < N → L i = ofl (fun a => R a i) N) (tt : Nat) (w : World) (hls : LLs w D N L) (hto : tt < N) (hN : N ≤ 128) :
    Calls Try.prog 151 #[.int .i64 (tt : Nat), .slice D N d] w fun e w' => ∃ k, e = .returned (.slice (some ⟨k, 0, none⟩) N N) ∧ w.heap.size ≤ k ∧ L2.Row w' k N (far R N tt) ∧ Below w.heap.size w w' := by
  have HLS := Lib.hid hls
  have HLL := Lib.hid hL
  have HST := Lib.hid (fun k (h : k ≤ (bst R N tt k).q.length) => Bf.st (R := R) hto k h)
  have HRP := Lib.hid (L2.repeat_any w.heap.size 1 N (-1) (w.alloc (.cells #[.int .i64 (-1)] 3)) (by simp) (by simp) (by omega) (by omega))
  have LB0 := Lib.hid ((Below.refl w.heap.size w).alloc (Nat.le_refl _) (.cells #[.int .i64 (-1)] 3))
  clear hls hL
  go_enter Try.func151, Try.ntmps151
  go_wp2_with fail
  with_reducible refine Calls.mono HRP.out ?_
  rintro e w1 ⟨fr, rfl, hfr, hrow, hb⟩
  have LB1 := Lib.hid (LB0.out.trans (hb.mono LB0.out.size))
  have hs1 : w.heap.size ≤ fr := by have := LB0.out.size; omega
  have RW := Lib.hid hrow
  clear hb hrow LB0 HRP hfr
  have y1 : (tt : Int) < (N : Int) := by omega
  have y3 : (0 : Int) ≤ (tt : Int) := by omega
  have c1 := RW.out.cell hto
  have c2 := RW.out.free tt
  have HW1 := Lib.hid ((RW.out.set_ tt 0).congr (f' := (ini tt).far) fun j hj => rfl)
  have HL1 := Lib.hid (LB1.out.setCell (p := ⟨fr, tt, none⟩) (by exact hs1) (.int .i64 0))
  have hs3 : fr + 1 ≤ (w1.setCell ⟨fr, tt, none⟩ (.int .i64 0)).heap.size := by have := RW.out.lt; simp; omega
  go_upto_region 3 with (fail)
  clear c1 c2 RW LB1
  generalize w1.setCell ⟨fr, tt, none⟩ (.int .i64 0) = w3 at *
  have HO0 := Lib.hid (tl_one w3 hs3 tt)
  have HW2 := Lib.hid (HW1.out.alloc (.cells #[.int .i64 (tt : Nat)] 3))
  have HL2 := Lib.hid (HL1.out.alloc HL1.out.size (.cells #[.int .i64 (tt : Nat)] 3))
  have hs4 : fr + 1 ≤ (w3.alloc (.cells #[.int .i64 (tt : Nat)] 3)).heap.size := by simp; omega
  clear HW1 HL1 hs3
  go_wp2
  go_loopg [6] N (fun gk q wr => ∃ m : Nat, gk + m = N ∧ Hid (m ≤ (bst R N tt m).q.length) ∧ Hid (L2.Row wr fr N (bst R N tt m).far) ∧ Hid (Tl wr (fr + 1) q ((bst R N tt m).q.drop m)) ∧ Hid (Below w.heap.size w wr) ∧ fr + 1 ≤ wr.heap.size)
  case atStart => exact ⟨0, rfl, Lib.hid (Nat.zero_le _), HW2, HO0, HL2, hs4⟩
  case round =>
    obtain ⟨m, hgm, HM, HW, HO, HL, hs5⟩ := hrel
    clear HW2 HO0 HL2 hs4
    have HB := Lib.hid (HST.out m HM.out)
    have hlen := HB.out.len
    obtain ⟨s, hs⟩ : ∃ s, bst R N tt m = s := ⟨_, rfl⟩
    have HS := Lib.hid hs
    rw [hs] at HM HW HO HB hlen
    clear hs
    have hdl := drop_len (s := s) (m := m)
    have hmq := HM.out
    by_cases hlm : m < s.q.length
    · have HNX := Lib.hid (show bst R N tt (m + 1) = rndk R (s.at m) s N by rw [← HS.out]; exact bst_go (by rw [HS.out]; exact hlm))
      have HRB := Lib.hid (rndk_at (R := R) (c := s.at m) hlm N)
      have hcN := HB.out.lt m hlm
      have hHD := drop_head hlm
      have HVI := Lib.hid (fun M => Vi.sj (c := s.at m) (B := s.far (s.at m)) (s0 := s) (M := M) ⟨fun a => ⟨(HB.out.bd a).1, by
        by_cases hm' : ∃ i, i < s.q.length ∧ s.at i = a
        · obtain ⟨i, hi, e⟩ := hm'
          rw [← e]; exact HB.out.near i hi hlm
        · have h1 := HB.out.neg a fun i hi e => hm' ⟨i, hi, e⟩
          have h2 := (HB.out.fq m hlm).1
          omega⟩, rfl, [], by simp, Nat.le_refl _⟩ (HB.out.fq m hlm).1)
      have hfB := HB.out.bd (s.at m)
      obtain ⟨cc, hcc⟩ : ∃ cc, s.at m = cc := ⟨_, rfl⟩
      rw [hcc] at HNX HRB hcN hHD HVI hfB
      clear hcc
      obtain ⟨Bc, hBc⟩ : ∃ x, s.far cc = x := ⟨_, rfl⟩
      rw [hBc] at HVI hfB
      clear hBc
      have HDD := Lib.hid (show (s.q.drop m).drop 1 = s.q.drop (m + 1) by rw [List.drop_drop])
      have HTL := HO.out
      obtain ⟨gq, oq, capq, cur, rfl, hgq, hcq, hcapq, hszq, hclq⟩ := HTL
      have HTL2 := tl_tail HO.out (by omega)
      rw [HDD.out] at HTL2
      have c0 : wr.cell? ⟨gq, oq, none⟩ = some (.int .i64 (cc : Nat)) := by
        have h0 := hclq 0 (by omega)
        rw [Nat.add_zero, hHD] at h0
        rw [Lib.cell_of_heap hcq]
        exact h0
      obtain ⟨Lq, hLq⟩ : ∃ x, (s.q.drop m).length = x := ⟨_, rfl⟩
      rw [hLq] at hdl hcapq HTL2 ⊢
      have HLq := Lib.hid hLq
      clear hLq hclq hcq hHD hszq HO
      have hLq0 : 0 < Lq := by omega
      have HDL := Lib.hid hdl
      clear hdl
      have y5 : (0 : Int) < (Lq : Int) := by omega
      have y5' : 0 < Lq := by omega
      obtain ⟨bn, on, rfl, hbn, hcn⟩ := HLS.out (by omega)
      obtain ⟨E, ce, cE0, hcp, hllE⟩ := hcn cc hcN
      have cE := (HL.out.cell (p := ⟨bn, on + cc, none⟩) hbn).trans cE0
      clear hcn cE0
      have HLE := Lib.hid hllE
      have HME := Lib.hid (HLL.out cc hcN)
      have HLT := Lib.hid (fun i (h : i < (L cc).length) => (show (L cc).getD i 0 < N by have := HME.out; rw [this] at h ⊢; exact (ofl_get h).1))
      have HEND := Lib.hid (show (L cc).foldl (vis1 cc) s = rndk R cc s N by rw [HME.out]; exact rnd_list R cc N s)
      have hlM : (L cc).length ≤ N := by rw [HME.out]; exact ofl_len _ _
      obtain ⟨M, hM⟩ : ∃ M, L cc = M := ⟨_, rfl⟩
      rw [hM] at cE HLE HLT HEND hlM
      clear hM hllE hcp
      have y6 : (cc : Int) < (N : Int) := by omega
      have y7 : (0 : Int) ≤ (cc : Int) := by omega
      obtain ⟨LM, hLM⟩ : ∃ x, M.length = x := ⟨_, rfl⟩
      rw [hLM] at cE hlM HLT
      have HLMe := Lib.hid hLM
      clear hLM
      have HTLh := Lib.hid HTL2
      clear HTL2
      by_cases hcap1 : capq = 1
      all_goals
        first
        | (have HT3 : Hid (Tl wr (fr + 1) (.slice (some ⟨gq, oq, none⟩) (Lq - 1) 0) (s.q.drop (m + 1))) := Lib.hid (by have h := HTLh.out; rw [if_pos hcap1, hcap1] at h; exact h)
           clear HTLh
           go_upto_region 8 with (fail)
           generalize Value.slice (some ⟨gq, oq, none⟩) (Lq - 1) 0 = qv at *)
        | (have HT3 : Hid (Tl wr (fr + 1) (.slice (some ⟨gq, oq + 1, none⟩) (Lq - 1) (capq - 1)) (s.q.drop (m + 1))) := Lib.hid (by have h := HTLh.out; rw [if_neg hcap1] at h; exact h)
           clear HTLh
           go_upto_region 8 with (fail)
           generalize Value.slice (some ⟨gq, oq + 1, none⟩) (Lq - 1) (capq - 1) = qv at *)
      all_goals
        clear cE c0 y5 y5' hLq0 hcap1
        go_loopw [6, 32] (fun q i wr => ∃ j : Nat, j ≤ LM ∧ i = .int .i64 j ∧ Hid (L2.Row wr fr N (sj cc s M j).far) ∧ Hid (Tl wr (fr + 1) q ((sj cc s M j).q.drop (m + 1))) ∧ Hid (Below w.heap.size w wr) ∧ fr + 1 ≤ wr.heap.size) (fun _ i _ => LM - (intOf i).toNat)
        case atStart => exact ⟨0, Nat.zero_le _, rfl, HW, HT3, HL, hs5⟩
        case round =>
          obtain ⟨j, hj, rfl, HW2, HO2, HL2, hs6⟩ := hrel
          clear HW HT3 HL hs5
          have HVj := Lib.hid (HVI.out M j (by rw [HLMe.out]; exact hj))
          by_cases hlj : j < LM
          · have z1 : (j : Int) < (LM : Int) := by omega
            have z2 : (0 : Int) ≤ (j : Int) := by omega
            have HSJ := Lib.hid (sj_succ (c := cc) (s := s) (M := M) (j := j) (by rw [HLMe.out]; exact hlj))
            obtain ⟨be, oe, rfl, hbe, hce⟩ := (L2.Holds.below HLE.out HL2.out) (by rw [HLMe.out]; omega)
            have ce1 := hce j (by rw [HLMe.out]; exact hlj)
            clear hce
            have haN := HLT.out j hlj
            have hle : lf M j = ((M.getD j 0 : Nat) : Int) := rfl
            rw [hle] at ce1
            obtain ⟨a, ha⟩ : ∃ a, M.getD j 0 = a := ⟨_, rfl⟩
            rw [ha] at HSJ ce1 haN
            clear ha hle
            have HQ := HVj.out.q
            generalize sj cc s M j = s' at *
            have z3 : (a : Int) < (N : Int) := by omega
            have z4 : (0 : Int) ≤ (a : Int) := by omega
            have d1 := HW2.out.cell haN
            have d2 := HW2.out.cell hcN
            have d3 := HW2.out.free a
            have hba := HVj.out.bd a
            have hfc := HVj.out.fc
            rw [hfc] at d2
            have HFC := Lib.hid hfc
            clear hfc
            obtain ⟨fa, hfa⟩ : ∃ x, s'.far a = x := ⟨_, rfl⟩
            rw [hfa] at d1 hba
            have HFA := Lib.hid hfa
            clear hfa
            obtain ⟨r, hr1, hr2⟩ := HQ
            have hq1 : s'.q.length = s.q.length + r.length := by rw [hr1, List.length_append]
            have hdr : (s'.q.drop (m + 1)).length ≤ 100000 := by rw [List.length_drop]; omega
            have HAP := Lib.hid (fun y => drop_app (q := s'.q) (r := [y]) (m := m + 1) (by omega))
            clear hr1 hr2 hq1
            by_cases hneg : fa < 0
            · have e1 : fa = -1 := by omega
              have E1 := Lib.hid (show sj cc s M (j + 1) = ⟨fun x => if x = a then s'.far cc + 1 else s'.far x, s'.q ++ [a]⟩ by rw [HSJ.out]; exact vis1_yes (by rw [HFA.out]; exact hneg))
              have z5 : (fa == -1) = true := by rw [e1]; rfl
              rw [e1] at d1
              have HW4 := Lib.hid (HW2.out.set_ a (Bc + 1))
              have HL4 := Lib.hid (HL2.out.setCell (p := ⟨fr, a, none⟩) (by exact hs1) (.int .i64 (Bc + 1)))
              have HO4 := Lib.hid (HO2.out.far (p := ⟨fr, a, none⟩) (by show fr < fr + 1; omega) (.int .i64 (Bc + 1)))
              have hs8 : fr + 1 ≤ (wr.setCell ⟨fr, a, none⟩ (.int .i64 (Bc + 1))).heap.size := by simpa using hs6
              clear HW2 HO2 HL2
              go_upto_region 12 with (fail)
              clear d1 d2 d3 ce1 z5 e1 hneg
              generalize wr.setCell ⟨fr, a, none⟩ (.int .i64 (Bc + 1)) = w7 at *
              go_wp2_with (at_builtin; refine tapp1 _ rfl _ _ (by rfl) (fr + 1) (by rfl) HO4.out a (by rfl) hdr hs8 ?_; intro v' w6 hown6 hb6; have HO6 := Lib.hid hown6; have HB6 := Lib.hid hb6; clear hown6 hb6)
              have HW6 := Lib.hid (HW4.out.below HB6.out (by omega))
              have HL6 := Lib.hid (HL4.out.trans (HB6.out.mono (by omega)))
              have hs9 := Nat.le_trans hs8 HB6.out.size
              go_roundw
              case rel => exact ⟨j + 1, by omega, by go_num, by rw [E1.out, HFC.out]; exact HW6, by rw [E1.out, HAP.out]; exact HO6, HL6, hs9⟩
              case measure => simp [intOf]; omega
            · have z5 : (fa == -1) = false := by rw [beq_eq_false_iff_ne]; omega
              have E1 := Lib.hid (show sj cc s M (j + 1) = s' by rw [HSJ.out]; exact vis1_no (by rw [HFA.out]; exact hneg))
              go_wp2
              go_roundw
              case rel => exact ⟨j + 1, by omega, by go_num, by rw [E1.out]; exact HW2, by rw [E1.out]; exact HO2, HL2, hs6⟩
              case measure => simp [intOf]; omega
          · have e : j = LM := by omega
            have z1 : ¬ (j : Int) < (LM : Int) := by omega
            have E1 := Lib.hid (show sj cc s M j = bst R N tt (m + 1) by rw [HNX.out, ← HEND.out, e, ← HLMe.out]; exact sj_all _ _ _)
            have hmN : m < N := by omega
            have hgr := HRB.out.2
            have E2 := Lib.hid (show m + 1 ≤ (bst R N tt (m + 1)).q.length by rw [HNX.out]; omega)
            clear e
            go_wp2
            go_roundg (gk - 1)
            case measure => omega
            case rel => exact ⟨m + 1, by omega, E2, by rw [← E1.out]; exact HW2, by rw [← E1.out]; exact HO2, HL2, hs6⟩
    · have y5 : ¬ (0 : Int) < (((s.q.drop m).length : Nat) : Int) := by omega
      have E := Lib.hid (show far R N tt = s.far by
        unfold far
        have h1 := bst_stop (R := R) (N := N) (tt := tt) (k := m) (by rw [HS.out]; omega) (N - m)
        rw [show m + (N - m) = N by omega] at h1
        rw [h1, HS.out])
      obtain ⟨gq, oq, capq, cur, rfl, _⟩ := HO.out
      obtain ⟨Lq, hLq⟩ : ∃ x, (s.q.drop m).length = x := ⟨_, rfl⟩
      rw [hLq] at y5 ⊢
      clear hLq hdl
      go_wp2
      go_ret
      exact ⟨fr, rfl, hs1, by rw [E.out]; exact HW.out, HL.out⟩
end Go.Proofs.Ytgmcbdnfgdmmaaa
