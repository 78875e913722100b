/- split of the program. -/
import Derived.Test.YtgmcbdnfgdmmaaaHpu
namespace Go.Proofs.Ytgmcbdnfgdmmaaa
open Go.RowKit
set_option maxRecDepth 100000
set_option linter.unusedVariables false
set_option linter.unusedSimpArgs false

/-- A list lies in a row of numbers. -/
def TT (w : World) (D : Option Addr) (l : List Nat) : Prop :=
  0 < l.length → ∃ b o cs, D = some ⟨b, o, none⟩ ∧ w.heap[b]? = some (.cells cs 3 (0, 0)) ∧ ∀ i, i < l.length → cs[o + i]? = some (.int .i64 (lf l i))
theorem TT.ll {w : World} {D : Option Addr} {l : List Nat} (h : TT w D l) : LL w D l := fun hn => by
  obtain ⟨b, o, cs, e, hc, hcl⟩ := h hn
  refine ⟨b, o, e, (Array.getElem?_eq_some_iff.1 hc).1, fun i hi => ?_⟩
  rw [Lib.cell_of_heap hc]
  exact hcl i hi
theorem TT.keep {w w' : World} {D : Option Addr} {l : List Nat} (h : TT w D l) (hb : ∀ (b : Nat) (cs : Array Value), w.heap[b]? = some (Obj.cells cs 3 (0, 0)) → w'.heap[b]? = w.heap[b]?) : TT w' D l := fun hn => by
  obtain ⟨b, o, cs, e, hc, hcl⟩ := h hn
  exact ⟨b, o, cs, e, (hb b cs hc).trans hc, hcl⟩
theorem TT.below {w w' : World} {D : Option Addr} {l : List Nat} (h : TT w D l) (hb : Below w.heap.size w w') : TT w' D l := h.keep fun b cs hc => hb.block b (Array.getElem?_eq_some_iff.1 hc).1
/-- Two lists came back. -/
def SpR (w : World) (l1 l2 : List Nat) (e : Ending) (w' : World) : Prop :=
  ∃ D1 c1 D2 c2, e = .returned (.tuple #[.slice D1 l1.length c1, .slice D2 l2.length c2]) ∧ (Cp D1 l1.length c1 ∧ TT w' D1 l1) ∧ (Cp D2 l2.length c2 ∧ TT w' D2 l2) ∧ Below w.heap.size w w'
theorem fil_step {P : Nat → Bool} {l : List Nat} {k : Nat} (hk : k < l.length) (b : Bool) (h : P (l.getD k 0) = b) : (l.take (k + 1)).filter P = (l.take k).filter P ++ (if b then [l.getD k 0] else []) := by
  rw [List.take_succ_eq_append_getElem hk, List.filter_append]
  congr 1
  rw [List.getD_eq_getElem?_getD, List.getElem?_eq_getElem hk] at *
  simp only [Option.getD_some] at *
  cases b <;> simp [h]
theorem fil_len (P : Nat → Bool) (l : List Nat) : (l.filter P).length + (l.filter fun a => !P a).length = l.length := by
  induction l with
  | nil => rfl
  | cons a l ih =>
    cases h : P a <;> simp [h] <;> omega
theorem sp_end {w w' : World} {l1 l2 : List Nat} {g cap : Nat} {base : Nat} (h : L2.Own w' base (.slice (some ⟨g, 0, none⟩) (l1 ++ l2).length cap) (l1 ++ l2).length (lf (l1 ++ l2))) (hb : Below w.heap.size w w') :
    SpR w l1 l2 (.returned (.tuple #[.slice (some ⟨g, 0, none⟩) l1.length l1.length, .slice (some ⟨g, if l1.length = cap then 0 else l1.length, none⟩) l2.length (cap - l1.length)])) w' := by
  have hcap := own_cap h
  have hl : (l1 ++ l2).length = l1.length + l2.length := List.length_append
  obtain ⟨A', c', e, _, h2⟩ := h.out
  cases e
  refine ⟨_, _, _, _, rfl, ⟨⟨(fun h => by cases h), Nat.le_refl _⟩, fun hn => ?_⟩, ⟨⟨(fun h => by cases h), by omega⟩, fun hn => ?_⟩, hb⟩
  · obtain ⟨k, e, _, cs, hc, hcs, hcl⟩ := h2 (by omega)
    cases e
    exact ⟨g, 0, cs, rfl, hc, fun i hi => by rw [Nat.zero_add, hcl i (by omega), lf_app (r := l2) hi]⟩
  · obtain ⟨k, e, _, cs, hc, hcs, hcl⟩ := h2 (by omega)
    cases e
    refine ⟨g, _, cs, rfl, hc, fun i hi => ?_⟩
    rw [if_neg (by omega), hcl (l1.length + i) (by omega)]
    unfold lf
    rw [List.getD_eq_getElem?_getD, List.getD_eq_getElem?_getD, List.getElem?_append_right (by omega), Nat.add_sub_cancel_left]
set_option maxHeartbeats 1600000 in
theorem split_any (l : List Nat) (D : Option Addr) (d : Nat) (g : FuncId) (lb : Array Value) (P : Nat → Bool) (w : World) (hl : LL w D l) (hn : l.length ≤ 128) (h0 : 0 < l.length) (hG : GivesP g lb w l.length (lf l) (fun i => P (l.getD i 0)))
    (eg : ∀ args w, (callFunc g args).run Try.prog w = .ok (.enter g args) w) :
    Calls Try.prog 149 #[.slice D l.length d, .func (.func g) #[] lb] w (SpR w (l.filter P) (l.filter fun a => !P a)) := by
  have HR := Lib.hid hl
  have HG := Lib.hid hG
  have HS := Lib.hid (fun k (hk : k < l.length) b h => fil_step (P := P) hk b h)
  have HS2 := Lib.hid (fun k (hk : k < l.length) b h => fil_step (P := fun a => !P a) hk b h)
  have HT := Lib.hid (show (l.take l.length).filter P = l.filter P by rw [List.take_length])
  have HT2 := Lib.hid (show (l.take l.length).filter (fun a => !P a) = l.filter fun a => !P a by rw [List.take_length])
  have HLEN := fil_len P l
  have HLE := Lib.hid (fun k => (show ((l.take k).filter P).length ≤ 128 from Nat.le_trans (List.length_filter_le _ _) (by rw [List.length_take]; omega)))
  have HLE2 := Lib.hid (fun k => (show ((l.take k).filter fun a => !P a).length ≤ 128 from Nat.le_trans (List.length_filter_le _ _) (by rw [List.length_take]; omega)))
  clear hl hG
  obtain ⟨n, hnn⟩ : ∃ n, l.length = n := ⟨_, rfl⟩
  rw [hnn] at hn h0 HG HS HS2 HT HT2 HLEN ⊢
  have HNN := Lib.hid hnn
  have HLN := Lib.hid HLEN
  clear hnn HLEN
  go_enter Try.func149, Try.ntmps149
  go_wp2
  go_loopw [6, 14] (fun q i wr => ∃ k : Nat, k ≤ n ∧ i = .int .i64 k ∧ Hid (L2.Own wr w.heap.size q ((l.take k).filter P).length (lf ((l.take k).filter P))) ∧ Hid (Below w.heap.size w wr)) (fun _ i _ => n - (intOf i).toNat)
  case atStart => exact ⟨0, Nat.zero_le _, rfl, Lib.hid (L2.Own.nil _ _ _), Lib.hid (Below.refl _ _)⟩
  case round =>
    obtain ⟨k, hk, rfl, HO, HB⟩ := hrel
    by_cases hlt : k < n
    · obtain ⟨b, o, rfl, hbl, hc⟩ := (LL.below HR.out HB.out) (by rw [HNN.out]; omega)
      have c1 := hc k (by rw [HNN.out]; exact hlt)
      clear hc
      have y1 : (0 : Int) ≤ (k : Int) := by omega
      have y2 : (k : Int) < (n : Int) := by omega
      have HGk := Lib.hid (HG.out wr k HB.out hlt)
      have HSk := Lib.hid (HS.out k hlt)
      have hle : lf l k = ((l.getD k 0 : Nat) : Int) := rfl
      rw [hle] at c1 HGk
      obtain ⟨a, ha⟩ : ∃ a, l.getD k 0 = a := ⟨_, rfl⟩
      simp only [ha] at c1 HGk HSk
      have hlk := HLE.out k
      clear ha hle
      obtain ⟨q, hq⟩ : ∃ q, P a = q := ⟨_, rfl⟩
      rw [hq] at HGk
      have HE := Lib.hid (HSk.out q hq)
      clear hq HSk
      cases q
      · go_wp2_with (go_at_fn g; (with_reducible refine Calls.mono HGk.out ?_); rintro e w1 ⟨rfl, hb1⟩; have HB1 := Lib.hid (HB.out.trans (hb1.mono HB.out.size)); have HO1 := Lib.hid (HO.out.below hb1); clear hb1)
        have E2 := Lib.hid (show (l.take (k + 1)).filter P = (l.take k).filter P by have h := HE.out; simpa using h)
        go_roundw
        case rel => exact ⟨k + 1, by omega, by go_num, by rw [E2.out]; exact HO1, HB1⟩
        case measure => simp [intOf]; omega
      · go_wp2_with (first | (go_at_fn g; (with_reducible refine Calls.mono HGk.out ?_); rintro e w1 ⟨rfl, hb1⟩; have HB1 := Lib.hid (HB.out.trans (hb1.mono HB.out.size)); have HO1 := Lib.hid ((HO.out.below hb1).congr (g := lf ((l.take k).filter P ++ [a])) fun i hi => lf_app hi); have hsz := HB1.out.size; have HY := Lib.hid (lf_last ((l.take k).filter P) a); clear hb1) | (at_builtin; refine L2.app1 _ rfl _ _ (by rfl) w.heap.size (by rfl) HO1.out (a : Int) (by rfl) HY.out (by omega) hsz ?_; intro v' w5 hown5 hb5; have HO5 := Lib.hid hown5; have HB5 := Lib.hid hb5; clear hown5 hb5))
        have E2 := Lib.hid (show (l.take (k + 1)).filter P = (l.take k).filter P ++ [a] from HE.out)
        have E3 := Lib.hid (show ((l.take k).filter P ++ [a]).length = ((l.take k).filter P).length + 1 by simp)
        go_roundw
        case rel => exact ⟨k + 1, by omega, by go_num, by rw [E2.out, E3.out]; exact HO5, Lib.hid (HB1.out.trans HB5.out)⟩
        case measure => simp [intOf]; omega
    · have e : k = n := by omega
      have y2 : ¬ (k : Int) < (n : Int) := by omega
      have HO1 := Lib.hid (show L2.Own wr w.heap.size u6 (l.filter P).length (lf (l.filter P)) by rw [← HT.out, ← e]; exact HO.out)
      have HLN1 := HLE.out n
      rw [HT.out] at HLN1
      clear HO e
      obtain ⟨A', c', rfl, _, _⟩ := HO1.out.out
      obtain ⟨l1, hl1⟩ : ∃ x, l.filter P = x := ⟨_, rfl⟩
      rw [hl1] at HO1 HLN HLN1 ⊢
      have HL1e := Lib.hid hl1
      clear hl1
      obtain ⟨n1, hn1⟩ : ∃ x, l1.length = x := ⟨_, rfl⟩
      have HN1 := Lib.hid hn1
      rw [hn1] at HLN1 ⊢
      clear hn1
      go_wp2
      have HA0 := Lib.hid (show L2.Own wr w.heap.size (.slice A' n1 c') (l1 ++ (l.take 0).filter fun a => !P a).length (lf (l1 ++ (l.take 0).filter fun a => !P a)) by
        rw [List.take_zero, List.filter_nil, List.append_nil, ← HN1.out]; exact HO1.out)
      go_loopw [6, 30] (fun q i wr => ∃ k : Nat, k ≤ n ∧ i = .int .i64 k ∧ Hid (L2.Own wr w.heap.size q (l1 ++ (l.take k).filter fun a => !P a).length (lf (l1 ++ (l.take k).filter fun a => !P a))) ∧ Hid (Below w.heap.size w wr)) (fun _ i _ => n - (intOf i).toNat)
      case atStart => exact ⟨0, Nat.zero_le _, rfl, HA0, HB⟩
      case round =>
        obtain ⟨k2, hk2, rfl, HO, HB2⟩ := hrel
        clear HA0 HO1
        by_cases hlt2 : k2 < n
        · obtain ⟨b, o, rfl, hbl, hc⟩ := (LL.below HR.out HB2.out) (by rw [HNN.out]; omega)
          have c1 := hc k2 (by rw [HNN.out]; exact hlt2)
          clear hc
          have z1 : (0 : Int) ≤ (k2 : Int) := by omega
          have z2 : (k2 : Int) < (n : Int) := by omega
          have HGk := Lib.hid (HG.out wr k2 HB2.out hlt2)
          have HSk := Lib.hid (HS2.out k2 hlt2)
          have hle : lf l k2 = ((l.getD k2 0 : Nat) : Int) := rfl
          rw [hle] at c1 HGk
          obtain ⟨a, ha⟩ : ∃ a, l.getD k2 0 = a := ⟨_, rfl⟩
          simp only [ha] at c1 HGk HSk
          have hlk := HLE2.out k2
          have hln1 := HN1.out
          clear ha hle
          obtain ⟨gl, hgl⟩ : ∃ x, (l.take k2).filter (fun a => !P a) = x := ⟨_, rfl⟩
          rw [hgl] at HSk HO hlk
          clear hgl
          have hlen : (l1 ++ gl).length = n1 + gl.length := by rw [List.length_append, hln1]
          have hlen2 : (l1 ++ gl).length ≤ 100000 := by omega
          clear hln1 hlen
          obtain ⟨q, hq⟩ : ∃ q, P a = q := ⟨_, rfl⟩
          rw [hq] at HGk HSk
          clear hq
          cases q
          · have E2 := Lib.hid (show (l.take (k2 + 1)).filter (fun a => !P a) = gl ++ [a] by have h := HSk.out true rfl; simpa using h)
            go_wp2_with (first | (go_at_fn g; (with_reducible refine Calls.mono HGk.out ?_); rintro e w1 ⟨rfl, hb1⟩; have HB1 := Lib.hid (HB2.out.trans (hb1.mono HB2.out.size)); have HO1 := Lib.hid ((HO.out.below hb1).congr (g := lf (l1 ++ gl ++ [a])) fun i hi => lf_app hi); have hsz := HB1.out.size; have HY := Lib.hid (lf_last (l1 ++ gl) a); clear hb1) | (at_builtin; refine L2.app1 _ rfl _ _ (by rfl) w.heap.size (by rfl) HO1.out (a : Int) (by rfl) HY.out hlen2 hsz ?_; intro v' w5 hown5 hb5; have HO5 := Lib.hid hown5; have HB5 := Lib.hid hb5; clear hown5 hb5))
            have E3 := Lib.hid (show (l1 ++ (gl ++ [a])).length = (l1 ++ gl).length + 1 by simp; omega)
            go_roundw
            case rel => exact ⟨k2 + 1, by omega, by go_num, by rw [E2.out, E3.out, ← List.append_assoc]; exact HO5, Lib.hid (HB1.out.trans HB5.out)⟩
            case measure => simp [intOf]; omega
          · have E2 := Lib.hid (show (l.take (k2 + 1)).filter (fun a => !P a) = gl by have h := HSk.out false rfl; simpa using h)
            go_wp2_with (go_at_fn g; (with_reducible refine Calls.mono HGk.out ?_); rintro e w1 ⟨rfl, hb1⟩; have HB1 := Lib.hid (HB2.out.trans (hb1.mono HB2.out.size)); have HO1 := Lib.hid (HO.out.below hb1); clear hb1)
            go_roundw
            case rel => exact ⟨k2 + 1, by omega, by go_num, by rw [E2.out]; exact HO1, HB1⟩
            case measure => simp [intOf]; omega
        · have e : k2 = n := by omega
          have z2 : ¬ (k2 : Int) < (n : Int) := by omega
          have HO2 := HO.out
          rw [e, HT2.out] at HO2
          clear HO e
          obtain ⟨l2, hl2⟩ : ∃ x, l.filter (fun a => !P a) = x := ⟨_, rfl⟩
          rw [hl2] at HO2 HLN
          have HL2e := Lib.hid hl2
          clear hl2
          have htot : (l1 ++ l2).length = n1 + l2.length := by rw [List.length_append, HN1.out]
          have hnl := HLN.out
          rw [HN1.out] at hnl
          obtain ⟨A2, c2, rfl, _, hrow⟩ := HO2.out
          obtain ⟨gb, rfl, _, _⟩ := hrow (by omega)
          have hcap := own_cap HO2
          have HF := Lib.hid (fun w' (hb : Below wr.heap.size wr w') => sp_end (HO2.below hb) (HB2.out.trans (hb.mono HB2.out.size)))
          rw [HN1.out] at HF
          obtain ⟨n2, hn2⟩ : ∃ x, (l1 ++ l2).length = x := ⟨_, rfl⟩
          rw [hn2] at htot hcap ⊢
          have HN2 := Lib.hid (show n2 - n1 = l2.length by omega)
          have x1 : n1 ≤ n2 := by omega
          have x2 : n1 ≤ c2 := by omega
          have x3 : (0 : Int) ≤ (n1 : Int) := by omega
          have x4 : (n1 : Int) ≤ (n2 : Int) := by omega
          have x5 : (n1 : Int) ≤ (c2 : Int) := by omega
          have x6 : (n2 : Int) ≤ (c2 : Int) := by omega
          clear htot hnl hrow HO2 hn2
          by_cases hnc : n1 = c2
          · have HF2 := Lib.hid (fun w' hb => (by have h := HF.out w' hb; rw [if_pos hnc, ← HN2.out, hnc, show n2 - c2 = 0 by omega, Nat.sub_self] at h; exact h))
            have x7 : c2 - n1 = 0 := by omega
            go_wp2
            go_quiet (fail)
            go_wp2
            go_ret2
            rw [HL1e.out, HL2e.out]
            exact HF2.out _ (below_drewN' (Below.refl _ _) _)
          · have HF2 := Lib.hid (fun w' hb => (by have h := HF.out w' hb; rw [if_neg hnc, ← HN2.out] at h; exact h))
            go_wp2
            go_quiet (fail)
            go_wp2
            go_ret2
            rw [HL1e.out, HL2e.out]
            exact HF2.out _ (below_drewN' (Below.refl _ _) _)
end Go.Proofs.Ytgmcbdnfgdmmaaa
