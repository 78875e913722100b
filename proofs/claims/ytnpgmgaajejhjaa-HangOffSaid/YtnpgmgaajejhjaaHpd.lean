/- way of the program. -/
import Derived.Test.YtnpgmgaajejhjaaHpc
namespace Go.Proofs.Ytnpgmgaajejhjaa
open Go.RowKit
set_option maxRecDepth 100000
set_option linter.unusedVariables false
set_option linter.unusedSimpArgs false

set_option maxHeartbeats 3200000 in
theorem pway_n (W N : Nat) (g : Nat → Bool) (Db Da : Option Addr) (cb ca : Nat) (a tt : Nat) (w : World) (hb : LLs w Db N (LB W N g)) (ha : LLs w Da N (LA W N g)) (haN : a < N) (hto : tt < N) (hN : N ≤ 128) (hall : ∀ b, b < N → 0 ≤ far (ov W g) N tt b) :
    Calls Try.prog 86 #[.agg #[.slice Db N cb, .slice Da N ca], .int .i64 (a : Nat), .int .i64 (tt : Nat)] w (LR w (wal (ov W g) N tt a (far (ov W g) N tt a).toNat)) := by
  have LB0 := Lib.hid ((Below.refl w.heap.size w).alloc (Nat.le_refl _) (.cells #[.slice Db N cb, .slice Da N ca] 98))
  have TB0 := World.alloc_heap_new w (.cells #[.slice Db N cb, .slice Da N ca] 98)
  have HS := Lib.hid (steps_n (ov W g) N Da ca (LA W N g) (fun _ _ => rfl) tt (w.alloc (.cells #[.slice Db N cb, .slice Da N ca] 98)) (ha.below LB0.out) hto hN)
  have HLB := Lib.hid (hb.below LB0.out)
  have HTB := Lib.hid TB0
  obtain ⟨dd, hdd⟩ : ∃ dd, (far (ov W g) N tt a).toNat = dd := ⟨_, rfl⟩
  have HBD := Lib.hid (fun x => (far_all (R := ov W g) hto).1 x)
  have hdN := HBD.out a
  have hd := hall a haN
  have HWA := Lib.hid (fun k (h : k ≤ dd) => wat_all (R := ov W g) hto haN hd k (by omega))
  have HFN := Lib.hid (fun x (h : 0 < far (ov W g) N tt x) (hx : x < N) => fm_nxt (M := LB W N g x) hto h rfl hall hx)
  have HWE := Lib.hid (by have z := wat_end (R := ov W g) hto haN hd; rwa [hdd] at z)
  have HFT := Lib.hid ((far_all (R := ov W g) hto).2.2.2.2.1)
  have hdd2 : dd ≤ N := by omega
  have HFA := Lib.hid (show far (ov W g) N tt a = (dd : Int) by omega)
  have HNL := Lib.hid (fun x (h : 0 < far (ov W g) N tt x) => (nxt_all (R := ov W g) hto h).1)
  have HALL := Lib.hid hall
  rw [hdd]
  clear ha hb hd hdd hdN TB0 hall
  go_enter Try.func86, Try.ntmps86
  obtain ⟨k0, k1, k2, k3⟩ := al_cells HTB.out
  go_wp2_with fail
  clear k0 k1 k2 k3
  obtain ⟨tb, htb⟩ : ∃ tb, w.heap.size = tb := ⟨_, rfl⟩
  have HTBE := Lib.hid htb
  have HTB := Lib.hid (show (w.alloc (.cells #[.slice Db N cb, .slice Da N ca] 98)).heap[tb]? = some (.cells #[.slice Db N cb, .slice Da N ca] 98 (0, 0)) by rw [← htb]; exact HTB.out)
  rw [htb]
  clear htb
  generalize w.alloc (.cells #[.slice Db N cb, .slice Da N ca] 98) = w0 at *
  with_reducible refine Calls.mono HS.out ?_
  rintro e w1 ⟨fr, rfl, hfr, hrow, hb⟩
  have LB1 := Lib.hid (LB0.out.trans (hb.mono LB0.out.size))
  have HTB1 := Lib.hid ((hb.block tb (Array.getElem?_eq_some_iff.1 HTB.out).1).trans HTB.out)
  have HLB1 := Lib.hid (HLB.out.below hb)
  have RW := Lib.hid hrow
  clear hb hrow HS HTB HLB LB0 hfr
  have hA := (Below.refl w1.heap.size w1).alloc (Nat.le_refl _) (.cells #[.slice (some ⟨fr, 0, none⟩) N N] 51)
  have LB2 := Lib.hid (LB1.out.trans (hA.mono LB1.out.size))
  have HTB2 := Lib.hid ((hA.block tb (Array.getElem?_eq_some_iff.1 HTB1.out).1).trans HTB1.out)
  have HLB2 := Lib.hid (HLB1.out.below hA)
  have RW2 := Lib.hid (RW.out.below hA RW.out.lt)
  have HLF := World.alloc_heap_new w1 (.cells #[.slice (some ⟨fr, 0, none⟩) N N] 51)
  have HLF2 := Lib.hid HLF
  clear hA LB1 HTB1 HLB1 RW HLF
  go_upto_region 3 with (fail)
  obtain ⟨lb, hlb⟩ : ∃ lb, w1.heap.size = lb := ⟨_, rfl⟩
  have HLF3 := Lib.hid (show (w1.alloc (.cells #[.slice (some ⟨fr, 0, none⟩) N N] 51)).heap[lb]? = some (.cells #[.slice (some ⟨fr, 0, none⟩) N N] 51 (0, 0)) by rw [← hlb]; exact HLF2.out)
  rw [hlb]
  clear hlb HLF2
  generalize w1.alloc (.cells #[.slice (some ⟨fr, 0, none⟩) N N] 51) = w4 at *
  have hs1 := LB2.out.size
  go_wp2
  go_loopw [8, 9] (fun q i wr => ∃ k : Nat, k ≤ dd ∧ i = .int .i64 (wat (ov W g) N tt a k : Nat) ∧ Hid (L2.Own wr w4.heap.size q (wal (ov W g) N tt a k).length (lf (wal (ov W g) N tt a k))) ∧ Hid (Below w4.heap.size w4 wr) ∧ Hid (lst0 q = k)) (fun q _ _ => dd - lst0 q)
  case atStart => exact ⟨0, Nat.zero_le _, rfl, Lib.hid (L2.Own.nil _ _ _), Lib.hid (Below.refl _ _), Lib.hid rfl⟩
  case round =>
    obtain ⟨k, hk, rfl, HO, HB, HQ⟩ := hrel
    obtain ⟨hf1, hf2⟩ := HWA.out k hk
    obtain ⟨x, hx⟩ : ∃ x, wat (ov W g) N tt a k = x := ⟨_, rfl⟩
    have HX := Lib.hid hx
    rw [hx] at hf1 hf2 ⊢
    clear hx
    have HF1 := Lib.hid (show far (ov W g) N tt x = (dd : Int) - k by rw [hf1, HFA.out])
    clear hf1
    have hwl := wal_len (ov W g) N tt a k
    by_cases hlt : k < dd
    · have y1 : ((x : Int) != (tt : Int)) = true := by
        simp only [bne_iff_ne, ne_eq]
        intro e
        have e' : x = tt := by omega
        have h1 := HF1.out
        rw [e', HFT.out] at h1
        omega
      have hpos : 0 < far (ov W g) N tt x := by rw [HF1.out]; omega
      obtain ⟨hml, hmn⟩ := HFN.out x hpos hf2
      have hws : wat (ov W g) N tt a (k + 1) = nxt (ov W g) N tt x := by show nxt (ov W g) N tt (wat (ov W g) N tt a k) = _; rw [HX.out]
      have hny := HNL.out x hpos
      rw [← hws] at hmn
      obtain ⟨y, hy⟩ : ∃ y, wat (ov W g) N tt a (k + 1) = y := ⟨_, rfl⟩
      rw [hy] at hmn
      have HWS := Lib.hid hy
      have hyN : y < N := by rw [← hy, hws]; exact hny
      have HMN := Lib.hid hmn
      have HWL := Lib.hid hwl
      clear hy hws hmn hpos hwl hny
      obtain ⟨bn, on, rfl, hbn, hcn⟩ := (HLB2.out.below HB.out) (by omega)
      obtain ⟨E, ce, cE, hcp, hll⟩ := hcn x hf2
      have HLE := Lib.hid (leasti_n lb fr N (far (ov W g) N tt) E ce (LB W N g x) wr (by
        have h := (HB.out.block lb (Array.getElem?_eq_some_iff.1 HLF3.out).1).trans HLF3.out
        rw [Lib.cell_of_heap h]; rfl) (RW2.out.below HB.out RW2.out.lt) hll hcp hml (fun i hi => by
        have h := (ofl_get (A := fun b => ov W g x b) hi).1
        have h2 := HBD.out ((LB W N g x).getD i 0)
        exact ⟨h, HALL.out _ h, by omega⟩) hN (Nat.le_trans (ofl_len _ _) hN))
      rw [HMN.out] at HLE
      have k9 := (HB.out.block tb (Array.getElem?_eq_some_iff.1 HTB2.out).1).trans HTB2.out
      obtain ⟨k0, k1, k2, k3⟩ := al_cells k9
      clear hcn k9 hll hcp hml HMN
      obtain ⟨LE, hLE⟩ : ∃ v, (LB W N g x).length = v := ⟨_, rfl⟩
      rw [hLE] at cE HLE
      clear hLE
      have y2 : (0 : Int) ≤ (x : Int) := by omega
      have y3 : (x : Int) < (N : Int) := by omega
      go_wp2_with fail
      clear k0 k1 k2 k3 cE
      with_reducible refine Calls.mono HLE.out ?_
      rintro e w6 ⟨rfl, rfl⟩
      have E := Lib.hid (wal_succ (ov W g) N tt a k)
      rw [HWS.out] at E
      have HO5 := Lib.hid (HO.out.congr (g := lf (wal (ov W g) N tt a k ++ [y])) fun i hi => lf_app hi)
      have HY := Lib.hid (show lf (wal (ov W g) N tt a k ++ [y]) (wal (ov W g) N tt a k).length = (y : Int) from lf_last _ _)
      rw [HWL.out] at HO5 HY
      have hsz := HB.out.size
      clear HO HLE
      go_wp2_with (at_builtin; refine L2.app1 _ rfl _ _ (by rfl) w4.heap.size (by rfl) HO5.out (y : Int) (by rfl) HY.out (by omega) hsz ?_; intro v' w6 hown6 hb6; have HO6 := Lib.hid hown6; have HB6 := Lib.hid hb6; clear hown6 hb6)
      obtain ⟨A', c', rfl, _, _⟩ := HO6.out.out
      go_roundw
      case rel => exact ⟨k + 1, by omega, by rw [HWS.out], by rw [wal_len, E.out]; exact HO6, Lib.hid (HB.out.trans HB6.out), Lib.hid rfl⟩
      case measure =>
        have hq := HQ.out
        simp [lst0] at hq ⊢
        omega
    · have e : k = dd := by omega
      have ex : x = tt := by rw [← HX.out, e]; exact HWE.out
      have y1 : ((x : Int) != (tt : Int)) = false := by rw [ex]; simp
      have HF := Lib.hid (lr_end HO.out hs1 (LB2.out.trans (HB.out.mono hs1)))
      rw [e] at HF
      clear e ex
      go_wp2
      go_ret
      exact HF.out
end Go.Proofs.Ytnpgmgaajejhjaa
