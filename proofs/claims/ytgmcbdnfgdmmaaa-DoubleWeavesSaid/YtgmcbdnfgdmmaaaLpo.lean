/- partOf and topPart of the program. -/
import Derived.Test.YtgmcbdnfgdmmaaaLah
namespace Go.Proofs.Ytgmcbdnfgdmmaaa
open Go.RowKit
set_option maxRecDepth 100000
set_option linter.unusedVariables false
set_option linter.unusedSimpArgs false

/-- A part came back, or others hold it. -/
def PoR (R : Nat → Nat → Bool) (N : Nat) (l : List Nat) (t : Nat) (w : World) (e : Ending) (w' : World) : Prop :=
  ∃ (b : Bool) (D : Option Addr) (n c : Nat), e = .returned (.tuple #[.slice D n c, .bool b]) ∧ fre R N l t = !b ∧ (b = false → n = (l.filter (cls R N t)).length ∧ Cp D n c ∧ TT w' D (l.filter (cls R N t)) ∧ (0 < n → ∃ k, D = some ⟨k, 0, none⟩ ∧ w.heap.size ≤ k)) ∧ Below w.heap.size w w'
/-- A list came back, in a row of the call's own. -/
def LRF (w : World) (l : List Nat) (e : Ending) (w' : World) : Prop :=
  ∃ D c, e = .returned (.slice D l.length c) ∧ Cp D l.length c ∧ TT w' D l ∧ (0 < l.length → ∃ k, D = some ⟨k, 0, none⟩ ∧ w.heap.size ≤ k) ∧ Below w.heap.size w w'
theorem mem_getD {l : List Nat} {k : Nat} (h : k < l.length) : l.getD k 0 ∈ l := by
  rw [List.getD_eq_getElem?_getD, List.getElem?_eq_getElem h]
  exact List.getElem_mem h
theorem own_cp {w : World} {base n c : Nat} {A : Option Addr} {f : Nat → Int} (h : L2.Own w base (.slice A n c) n f) : Cp A n c := by
  obtain ⟨A', c', e, h1, h2⟩ := h.out
  cases e
  exact ⟨h1, own_cap h⟩
set_option maxHeartbeats 3200000 in
theorem partof_n (R : Nat → Nat → Bool) (N : Nat) (l : List Nat) (D : Option Addr) (d : Nat) (E : Option Addr) (e0 : Nat) (t : Nat) (w : World) (hl : LL w D l) (hlN : ∀ b, b ∈ l → b < N) (ht : t < N) (hN : N ≤ 128) (hn : l.length ≤ 128) (hB : BBs w E N (up R N)) :
    Calls Try.prog 159 #[.int .i64 (t : Nat), .slice D l.length d, .slice E N e0] w (PoR R N l t w) := by
  have HL := Lib.hid hl
  have HLN := Lib.hid (fun k (h : k < l.length) => hlN _ (mem_getD h))
  have HLM := Lib.hid (fun k (h : k < l.length) => mem_getD h)
  have HBB := Lib.hid hB
  have HFI := Lib.hid (fun k b (h : k < l.length) hb => fil_step (P := cls R N t) (l := l) (k := k) h b hb)
  clear hl hlN hB
  obtain ⟨n, hnl⟩ : ∃ n, l.length = n := ⟨_, rfl⟩
  have HNL := Lib.hid hnl
  rw [hnl] at hn HLN HLM HFI ⊢
  clear hnl
  go_enter Try.func159, Try.ntmps159
  go_wp2
  go_loopw [6, 12] (fun q i wr => ∃ k : Nat, k ≤ n ∧ i = .int .i64 k ∧ Hid (∀ i, i < k → (!up R N t (l.getD i 0) || up R N (l.getD i 0) t) = true) ∧ Hid (L2.Own wr w.heap.size q ((l.take k).filter (cls R N t)).length (lf ((l.take k).filter (cls R N t)))) ∧ Hid (Below w.heap.size w wr)) (fun _ i _ => n - (intOf i).toNat)
  case atStart => exact ⟨0, Nat.zero_le _, rfl, Lib.hid (fun i hi => by omega), Lib.hid (L2.Own.nil _ _ _), Lib.hid (Below.refl _ _)⟩
  case round =>
    obtain ⟨k, hk, rfl, HOK, HO, HW⟩ := hrel
    by_cases hlt : k < n
    · have y1 : (k : Int) < (n : Int) := by omega
      have y2 : (0 : Int) ≤ (k : Int) := by omega
      obtain ⟨bl, ol, rfl, hbl, hcl⟩ := (HL.out.below HW.out) (by rw [HNL.out]; omega)
      have c0 := hcl k (by rw [HNL.out]; exact hlt)
      clear hcl
      have hxN := HLN.out k hlt
      have HXM := Lib.hid (HLM.out k hlt)
      have HFk := Lib.hid (fun b hb => HFI.out k b hlt hb)
      have hlx : lf l k = ((l.getD k 0 : Nat) : Int) := rfl
      rw [hlx] at c0
      have HOK1 := Lib.hid (show (!up R N t (l.getD k 0) || up R N (l.getD k 0) t) = true → ∀ i, i < k + 1 → (!up R N t (l.getD i 0) || up R N (l.getD i 0) t) = true from fun h i hi => by
        by_cases e : i = k
        · rw [e]; exact h
        · exact HOK.out i (by omega))
      obtain ⟨x, hx⟩ : ∃ x, l.getD k 0 = x := ⟨_, rfl⟩
      rw [hx] at c0 hxN HXM HOK1 HFk
      have z1 : (x : Int) < (N : Int) := by omega
      have z2 : (0 : Int) ≤ (x : Int) := by omega
      have z3 : (t : Int) < (N : Int) := by omega
      have z4 : (0 : Int) ≤ (t : Int) := by omega
      clear hx hlx
      obtain ⟨be, oe, rfl, hbe, hce⟩ := (HBB.out) (by omega)
      obtain ⟨kt, c1, hrt⟩ := hce t ht
      obtain ⟨kx, c2, hrx⟩ := hce x hxN
      clear hce
      have c3 := (HW.out.cell (p := ⟨kt, x, none⟩) hrt.lt).trans (hrt.cell hxN)
      have c4 := (HW.out.cell (p := ⟨kx, t, none⟩) hrx.lt).trans (hrx.cell ht)
      have c1 := (HW.out.cell (p := ⟨be, oe + t, none⟩) hbe).trans c1
      have c2 := (HW.out.cell (p := ⟨be, oe + x, none⟩) hbe).trans c2
      obtain ⟨u1, hu1⟩ : ∃ b, up R N t x = b := ⟨_, rfl⟩
      obtain ⟨u2, hu2⟩ : ∃ b, up R N x t = b := ⟨_, rfl⟩
      have HC := Lib.hid (show cls R N t x = (u1 && u2) by unfold cls; rw [hu1, hu2])
      have HU1 := Lib.hid hu1
      have HU2 := Lib.hid hu2
      rw [hu1] at c3
      rw [hu2] at c4
      rw [hu1, hu2] at HOK1
      clear hu1 hu2 hrt hrx hbe hbl
      have hlen : ((l.take k).filter (cls R N t)).length ≤ 128 := Nat.le_trans (List.length_filter_le _ _) (by rw [List.length_take]; omega)
      cases u1
      · have EF := Lib.hid (HFk.out false HC.out)
        have HO2 : Hid (L2.Own wr w.heap.size u6 ((l.take (k + 1)).filter (cls R N t)).length (lf ((l.take (k + 1)).filter (cls R N t)))) := Lib.hid (by rw [EF.out]; simpa using HO.out)
        clear HO EF HFk
        go_wp2
        go_roundw
        case rel => exact ⟨k + 1, by omega, by go_num, Lib.hid (HOK1.out rfl), HO2, HW⟩
        case measure => simp [intOf]; omega
      · cases u2
        · go_wp2
          go_ret2
          have hff : fre R N l t = false := by
            cases hf : fre R N l t
            · rfl
            · have := fre_iff.1 hf x HXM.out HU1.out
              rw [HU2.out] at this
              cases this
          exact ⟨true, none, 0, 0, rfl, hff, (fun h => by cases h), HW.out⟩
        · have EF := Lib.hid (HFk.out true HC.out)
          have HO1 := Lib.hid (own_app HO.out x)
          have HY := Lib.hid (lf_last ((l.take k).filter (cls R N t)) x)
          have hbs := HW.out.size
          have HEL := Lib.hid (show ((l.take (k + 1)).filter (cls R N t)).length = ((l.take k).filter (cls R N t)).length + 1 by rw [EF.out]; simp)
          have HEF := Lib.hid (show (l.take (k + 1)).filter (cls R N t) = (l.take k).filter (cls R N t) ++ [x] by rw [EF.out]; simp)
          obtain ⟨n0, hn0⟩ : ∃ y, ((l.take k).filter (cls R N t)).length = y := ⟨_, rfl⟩
          rw [hn0] at HO1 HY hlen HEL
          clear EF HFk HO hn0
          rw [← HEF.out] at HO1 HY
          obtain ⟨f, hf⟩ : ∃ f, lf ((l.take (k + 1)).filter (cls R N t)) = f := ⟨_, rfl⟩
          have HF := Lib.hid hf
          rw [hf] at HO1 HY
          clear hf
          go_wp2_with (at_builtin; refine L2.app1 _ rfl _ _ (by rfl) w.heap.size (by rfl) HO1.out (x : Int) (by rfl) HY.out (by omega) hbs ?_; intro v' w6 hown6 hb6; have HO6 := Lib.hid hown6; have HB6 := Lib.hid hb6; clear hown6 hb6)
          have HW6 := Lib.hid (HW.out.trans HB6.out)
          go_roundw
          case rel => exact ⟨k + 1, by omega, by go_num, Lib.hid (HOK1.out rfl), by rw [HEL.out, HF.out]; exact HO6, HW6⟩
          case measure => simp [intOf]; omega
    · have e : k = n := by omega
      have y1 : ¬ (k : Int) < (n : Int) := by omega
      have ET := Lib.hid (show l.take k = l from List.take_of_length_le (by rw [HNL.out]; omega))
      rw [ET.out] at HO
      have HFR := Lib.hid (show fre R N l t = true from fre_iff.2 fun b hb hu => by
        obtain ⟨i, hi, e2⟩ := List.mem_iff_getElem.1 hb
        have := HOK.out i (by rw [e, ← HNL.out]; exact hi)
        rw [show l.getD i 0 = b by rw [List.getD_eq_getElem?_getD, List.getElem?_eq_getElem hi]; exact e2, hu] at this
        simpa using this)
      obtain ⟨A1, d1, e1, _, hfr⟩ := HO.out.out
      rw [e1] at HO ⊢
      have HFQ := Lib.hid hfr
      clear hfr
      clear e ET HOK
      go_wp2
      go_ret2
      exact ⟨false, A1, _, d1, rfl, HFR.out, fun _ => ⟨rfl, own_cp HO.out, own_tt HO.out, fun h => by obtain ⟨k, h1, h2, _⟩ := HFQ.out h; exact ⟨k, h1, h2⟩⟩, HW.out⟩
set_option maxHeartbeats 1600000 in
theorem toppart_n (R : Nat → Nat → Bool) (N : Nat) (l : List Nat) (D : Option Addr) (d : Nat) (E : Option Addr) (e0 : Nat) (w : World) (hl : LL w D l) (hlN : ∀ b, b ∈ l → b < N) (hne : l ≠ []) (hN : N ≤ 128) (hn : l.length ≤ 128) (hB : BBs w E N (up R N)) :
    Calls Try.prog 139 #[.slice D l.length d, .slice E N e0] w (LRF w (l.filter (cls R N (lhd R N l)))) := by
  have HPO := Lib.hid (fun u t (h : Below w.heap.size w u) (ht : t < N) => partof_n R N l D d E e0 t u (hl.below h) hlN ht hN hn (hB.below h))
  have HEX := Lib.hid (lhd_all (R := R) hlN hne)
  have HL := Lib.hid hl
  have HLN := Lib.hid (fun k (h : k < l.length) => hlN _ (mem_getD h))
  have HAT := Lib.hid (fun k (h : k < l.length) h1 h2 => lhd_at (R := R) (N := N) h h1 h2)
  clear hl hlN hB
  obtain ⟨n, hnl⟩ : ∃ n, l.length = n := ⟨_, rfl⟩
  have HNL := Lib.hid hnl
  rw [hnl] at hn HLN HAT HPO ⊢
  clear hnl hne
  go_enter Try.func139, Try.ntmps139
  go_wp2
  go_loopw [11] (fun i wr => ∃ k : Nat, k ≤ n ∧ i = .int .i64 k ∧ Hid (∀ i, i < k → fre R N l (l.getD i 0) = false) ∧ Hid (Below w.heap.size w wr)) (fun i _ => n - (intOf i).toNat)
  case atStart => exact ⟨0, Nat.zero_le _, rfl, Lib.hid (fun i hi => by omega), Lib.hid (Below.refl _ _)⟩
  case round =>
    obtain ⟨k, hk, rfl, HOK, HW⟩ := hrel
    by_cases hlt : k < n
    · have y1 : (k : Int) < (n : Int) := by omega
      have y2 : (0 : Int) ≤ (k : Int) := by omega
      obtain ⟨bl, ol, rfl, hbl, hcl⟩ := (HL.out.below HW.out) (by rw [HNL.out]; omega)
      have c0 := hcl k (by rw [HNL.out]; exact hlt)
      clear hcl
      have hxN := HLN.out k hlt
      have HATk := Lib.hid (HAT.out k hlt)
      have hlx : lf l k = ((l.getD k 0 : Nat) : Int) := rfl
      rw [hlx] at c0
      have HOK1 := Lib.hid (show fre R N l (l.getD k 0) = false → ∀ i, i < k + 1 → fre R N l (l.getD i 0) = false from fun h i hi => by
        by_cases e : i = k
        · rw [e]; exact h
        · exact HOK.out i (by omega))
      obtain ⟨x, hx⟩ : ∃ x, l.getD k 0 = x := ⟨_, rfl⟩
      rw [hx] at c0 hxN HOK1 HATk
      clear hx hlx hbl
      have HC := Lib.hid (HPO.out wr x HW.out hxN)
      go_wp2_with fail
      with_reducible refine Calls.mono HC.out ?_
      rintro e w2 ⟨b, D1, n1, c1, rfl, hf, hcs, hb⟩
      have HW2 := Lib.hid (HW.out.trans (hb.mono HW.out.size))
      have HF := Lib.hid hf
      have HCS := Lib.hid hcs
      clear hb hf hcs HC
      cases b
      · have HQ := HATk.out HF.out HOK.out
        have HCS2 := HCS.out rfl
        obtain ⟨e1, e2, e3, e4⟩ := HCS2
        have hsz := HW.out.size
        have HE := Lib.hid (show LRF w (l.filter (cls R N (lhd R N l))) (.returned (.slice D1 n1 c1)) w2 from by
          rw [HQ]
          subst e1
          exact ⟨D1, c1, rfl, e2, e3, (fun h => by obtain ⟨k, h1, h2⟩ := e4 h; exact ⟨k, h1, Nat.le_trans hsz h2⟩), HW2.out⟩)
        clear HQ e1 e2 e3 e4 hsz HCS HF HATk HOK
        go_wp2
        go_ret
        exact HE.out
      · have HR := Lib.hid (HOK1.out HF.out)
        go_wp2
        go_roundw
        case rel => exact ⟨k + 1, by omega, by go_num, HR, HW2⟩
        case measure => simp [intOf]; omega
    · exfalso
      obtain ⟨i, hi, e2⟩ := List.mem_iff_getElem.1 HEX.out.1
      have h1 := HOK.out i (by rw [HNL.out] at hi; omega)
      rw [show l.getD i 0 = lhd R N l by rw [List.getD_eq_getElem?_getD, List.getElem?_eq_getElem hi]; exact e2, HEX.out.2] at h1
      cases h1
end Go.Proofs.Ytgmcbdnfgdmmaaa
