/- The reference's Decimal and Text. -/
import Derived.Test.YtcmpoblbjjoaiaaDoorRtx
import Derived.Test.YtcmpoblbjjoaiaaDoorTxm
import Derived.Laws.IdiomStrings
namespace Go.Proofs.YtcmpoblbjjoaiaaDoor
open Go.RowKit
set_option linter.unusedVariables false
set_option linter.unusedSimpArgs false
set_option maxRecDepth 100000

theorem dec_conv (d : UInt8) (w : World) (x : Int) (hx : (d.toNat : Int) = x) : (convert 78 9 (.slice (some ⟨w.heap.size, 0, none⟩) 1 1)).run Tryd.prog (w.alloc (.cells #[.int .u8 x] 5)) = .ok (.string ⟨#[d]⟩) (w.alloc (.cells #[.int .u8 x] 5)) := by
  subst hx
  exact run_convert_bytes_back (P := Tryd.prog) (w.alloc (.cells #[.int .u8 (d.toNat : Int)] 5)) 78 9 5 ⟨w.heap.size, 0, none⟩ 1 [d] Tryd.underlying78 Tryd.underlying5 Tryd.underlying9 (fun j hj => by
    have e : j = 0 := by simpa using hj
    subst e
    exact (World.cell?_alloc_mark w #[.int .u8 (d.toNat : Int)] 5 (0, 0) 0).trans rfl)
theorem digit_is (k : Nat) (h : k < 10) : ∃ d : UInt8, d = UInt8.ofNat (48 + k) ∧ (d.toNat : Int) = 48 + (k : Int) := ⟨_, rfl, by rw [toNat_digit h]; simp⟩
set_option maxHeartbeats 1600000 in
theorem decimal_any (n : Nat) (hn : n ≤ 400) (w : World) :
    Calls Tryd.prog 46 #[.int .i64 n] w fun e w' => e = .returned (.string ⟨(dd n).toArray⟩) ∧ Below w.heap.size w w' := by
  go_enter Tryd.func46, Tryd.ntmps46
  go_wp2
  go_loopw [0, 3] (fun i v wr => ∃ (k : Nat) (s : List UInt8), k ≤ n ∧ i = .int .i64 k ∧ v = .string ⟨s.toArray⟩ ∧ Hid (dd n = dd k ++ s) ∧ Below w.heap.size w wr) (fun i _ _ => (intOf i).toNat)
  case atStart => exact ⟨n, [], Nat.le_refl _, rfl, rfl, Lib.hid (by simp), Below.refl _ _⟩
  case round =>
    obtain ⟨k, s, hk, rfl, rfl, hs, hbel⟩ := hrel
    have HB := Lib.hid hbel
    clear hbel
    have hsl : 1 + s.length ≤ 4 := by
      have h1 := dd_len (n := n) (by omega)
      rw [hs.out, List.length_append] at h1
      omega
    have zt : ¬ (10 : Nat) = 0 := by omega
    have z3 : (k : Int).tmod (10 : Int) = ((k % 10 : Nat) : Int) := by rw [Int.tmod_eq_emod_of_nonneg (by omega)]; simp
    have z4 : (k : Int).tdiv (10 : Int) = ((k / 10 : Nat) : Int) := by rw [Int.tdiv_eq_ediv_of_nonneg (by omega)]; simp
    have m1 : k % 10 < 10 := Nat.mod_lt _ (by omega)
    by_cases h9 : 9 < k
    · have y1 : decide ((9 : Int) < (k : Int)) = true := by simp; omega
      have y1n : (9 : Int) < (k : Int) := by omega
      obtain ⟨d, hd1, hd2⟩ := digit_is (k % 10) m1
      have hcv := dec_conv d wr (48 + (k : Int) % 10) (by rw [hd2]; simp)
      have HD := Lib.hid (show dd n = dd (k / 10) ++ (d :: s) by rw [hs.out, dd_big (by omega), hd1]; simp)
      clear hd1 hd2 hs
      go_wp2
      refine ⟨⟨k / 10, d :: s, by omega, by simp, ?_, HD, HB.out.alloc HB.out.size _⟩, by simp [intOf]; omega⟩
      congr 1
    · have y1 : decide ((9 : Int) < (k : Int)) = false := by simp; omega
      obtain ⟨d, hd1, hd2⟩ := digit_is k (by omega)
      have hcv := dec_conv d wr (48 + (k : Int)) hd2
      have HD := Lib.hid (show dd n = d :: s by rw [hs.out, dd_small (by omega), hd1]; simp)
      clear hd1 hd2 hs
      go_wp2
      go_ret
      refine ⟨?_, HB.out.alloc HB.out.size _⟩
      rw [HD.out]
      congr 2

theorem decimal_int (z : Int) (n : Nat) (hz : z = n) (hn : n ≤ 400) (w : World) :
    Calls Tryd.prog 46 #[.int .i64 z] w fun e w' => e = .returned (.string ⟨(dd n).toArray⟩) ∧ Below w.heap.size w w' := by
  subst hz
  exact decimal_any n hn w

set_option maxHeartbeats 1600000 in
theorem rtext_ok (A : Option Addr) (n c : Nat) (f : Nat → Int) (w : World) (hr : Holds w w.heap.size A n f) (hx : lchk n f = 0) : Calls Tryd.prog 24 #[.slice A n c] w (TOut w (tx f n) 0) := by
  have hn := lchk_le hx
  have HV := Lib.hid (lchk_zero hx)
  have HC := Lib.hid (rchk_is c (by omega) hx w hr)
  have HR := Lib.hid hr
  clear hx hr
  go_enter Tryd.func24, Tryd.ntmps24
  go_wp2_with fail
  refine HC.out.mono ?_
  rintro e w1 ⟨rfl, hb⟩
  have HB := Lib.hid hb
  clear hb
  go_wp2
  go_loopw [4, 5] (fun v i wr => ∃ (k : Nat) (T : ByteArray), k ≤ n ∧ i = .int .i64 k ∧ v = .string T ∧ Hid (T.data.toList = tx f k) ∧ Below w.heap.size w wr) (fun _ i _ => n - (intOf i).toNat)
  case atStart => exact ⟨0, _, Nat.zero_le _, rfl, rfl, Lib.hid (by rw [tx_zero]), HB.out⟩
  case round =>
    obtain ⟨k, T, hk, rfl, rfl, hT, hbel⟩ := hrel
    by_cases hlt : k < n
    · obtain ⟨b, o, rfl, hbl, hc⟩ := (HR.out.below hbel) (by omega)
      have c1 := hc k hlt
      have hv := HV.out k hlt
      obtain ⟨v, hfv⟩ : ∃ v : Nat, f k = v := ⟨(f k).toNat, by omega⟩
      rw [hfv] at c1 hv
      have y1 : decide ((k : Int) < (n : Int)) = true := by simp; omega
      have hlen : (tx f k).length ≤ k * 4 := tx_length fun i hi => (HV.out i (by omega)).2
      have hTs : T.size ≤ 1600 := by
        have : T.data.toList.length = T.size := Array.length_toList
        rw [← this, hT.out]; omega
      have HW := Lib.hid (decimal_int ((v : Int) + 1) (v + 1) (by simp) (by omega) wr)
      have HWO := Lib.hid (show wo (f k) = dd (v + 1) by unfold wo; rw [hfv]; rfl)
      have HB1 := Lib.hid hbel
      clear hc hbel hfv hlen
      by_cases h0 : 0 < k
      · have y2 : decide ((0 : Int) < (k : Int)) = true := by simp; omega
        go_wp2_with fail
        refine HW.out.mono ?_
        rintro e w2 ⟨rfl, hb2⟩
        have HB2 := Lib.hid (HB1.out.trans (hb2.mono HB1.out.size))
        obtain ⟨l, hl⟩ : ∃ l, l = dd (v + 1) := ⟨_, rfl⟩
        have hl3 : l.length ≤ 3 := by rw [hl]; exact dd_len (by omega)
        have HL := Lib.hid (show tx f (k + 1) = tx f k ++ [32] ++ l by rw [tx_succ f h0, HWO.out, hl])
        rw [← hl]
        have hsum : T.size + 1 + l.length ≤ 1604 := by omega
        clear hb2 hl hv c1
        go_wp2
        refine ⟨⟨k + 1, _, by omega, by go_num, rfl, Lib.hid ?_, HB2.out⟩, by simp [intOf]; omega⟩
        rw [HL.out, ← hT.out]
        simp
      · have y2 : decide ((0 : Int) < (k : Int)) = false := by simp; omega
        have E0 := Lib.hid (show k = 0 by omega)
        go_wp2_with fail
        refine HW.out.mono ?_
        rintro e w2 ⟨rfl, hb2⟩
        have HB2 := Lib.hid (HB1.out.trans (hb2.mono HB1.out.size))
        obtain ⟨l, hl⟩ : ∃ l, l = dd (v + 1) := ⟨_, rfl⟩
        have hl3 : l.length ≤ 3 := by rw [hl]; exact dd_len (by omega)
        have HL := Lib.hid (show tx f (k + 1) = l by rw [E0.out, tx_one, hl, ← HWO.out, E0.out])
        have HT0 := Lib.hid (show T.data.toList = [] by rw [hT.out, E0.out, tx_zero])
        rw [← hl]
        have hsum : T.size + l.length ≤ 1604 := by omega
        clear hb2 hl hv c1 hT
        go_wp2
        refine ⟨⟨k + 1, _, by omega, by go_num, rfl, Lib.hid ?_, HB2.out⟩, by simp [intOf]; omega⟩
        rw [HL.out]
        simp [HT0.out]
    · have e : k = n := by omega
      subst e
      have y1 : decide ((k : Int) < (k : Int)) = false := by simp
      have HT := Lib.hid (show T = ⟨(tx f k).toArray⟩ from by
        rw [← hT.out])
      have HB1 := Lib.hid hbel
      clear hbel hT
      go_wp2
      go_ret2
      exact ⟨by rw [HT.out]; rfl, HB1.out⟩
end Go.Proofs.YtcmpoblbjjoaiaaDoor
