/- Telescope: the program and the reference. -/
import Derived.Test.YthipdfkgeghooaaNal
namespace Go.Proofs.Ythipdfkgeghooaa
open Go.RowKit
set_option maxRecDepth 100000
set_option linter.unusedVariables false
set_option linter.unusedSimpArgs false

set_option maxHeartbeats 800000 in
theorem tl_l (D : Option Addr) (n d : Nat) (l : Nat → Int) (m : Int) (w : World) (hn : n ≤ 100000) (hl : L2.Holds w w.heap.size D n l) (z : Int) (hz : L2.lchk n l = z) (hz0 : (z != 0) = true) :
    Calls Try.prog 25 #[.slice D n d, .int .i64 m] w fun e w' => e = .returned (.tuple #[.slice none 0 0, .int .i64 z]) ∧ w' = w := by
  have HC := Lib.hid (lc_any D n d l w hn hl)
  rw [hz] at HC
  clear hl hz
  go_enter Try.func25, Try.ntmps25
  go_wp2_with (go_at_call 44; with_reducible refine Calls.mono HC.out ?_; rintro e w1 ⟨rfl, rfl⟩)
  refine bodyPost_ret (v := .tuple #[.slice none 0 0, .int .i64 z]) (by simp [results, Try.results25, go_sem]) rfl ?_
  exact ⟨rfl, rfl⟩
set_option maxHeartbeats 800000 in
theorem tl_arg (D : Option Addr) (n d : Nat) (l : Nat → Int) (m : Int) (w : World) (hn : n ≤ 100000) (hl : L2.Holds w w.heap.size D n l) (hz : L2.lchk n l = 0) (hm : m < 1 ∨ 40 < m) :
    Calls Try.prog 25 #[.slice D n d, .int .i64 m] w fun e w' => e = .returned (.tuple #[.slice none 0 0, .int .i64 2]) ∧ w' = w := by
  have HC := Lib.hid (lc_any D n d l w hn hl)
  rw [hz] at HC
  clear hl hz
  have z0 : ((0 : Int) != 0) = false := rfl
  by_cases h1 : m < 1
  · have v1 : decide (m < 1) = true := decide_eq_true h1
    clear hm
    go_enter Try.func25, Try.ntmps25
    go_wp2_with (go_at_call 44; with_reducible refine Calls.mono HC.out ?_; rintro e w1 ⟨rfl, rfl⟩)
    refine bodyPost_ret (v := .tuple #[.slice none 0 0, .int .i64 2]) (by simp [results, Try.results25, go_sem]) rfl ?_
    exact ⟨rfl, rfl⟩
  · have v1 : decide (m < 1) = false := decide_eq_false h1
    have v2 : decide (40 < m) = true := decide_eq_true (by omega)
    clear hm
    go_enter Try.func25, Try.ntmps25
    go_wp2_with (go_at_call 44; with_reducible refine Calls.mono HC.out ?_; rintro e w1 ⟨rfl, rfl⟩)
    refine bodyPost_ret (v := .tuple #[.slice none 0 0, .int .i64 2]) (by simp [results, Try.results25, go_sem]) rfl ?_
    exact ⟨rfl, rfl⟩
set_option maxHeartbeats 800000 in
theorem rtl_l (D : Option Addr) (n d : Nat) (l : Nat → Int) (m : Int) (w : World) (hn : n ≤ 100000) (hl : L2.Holds w w.heap.size D n l) (z : Int) (hz : L2.lchk n l = z) (hz0 : (z != 0) = true) :
    Calls Try.prog 26 #[.slice D n d, .int .i64 m] w fun e w' => e = .returned (.tuple #[.slice none 0 0, .int .i64 z]) ∧ w' = w := by
  have HC := Lib.hid (rlc_any D n d l w hn hl)
  rw [hz] at HC
  clear hl hz
  go_enter Try.func26, Try.ntmps26
  go_wp2_with (go_at_call 45; with_reducible refine Calls.mono HC.out ?_; rintro e w1 ⟨rfl, rfl⟩)
  refine bodyPost_ret (v := .tuple #[.slice none 0 0, .int .i64 z]) (by simp [results, Try.results26, go_sem]) rfl ?_
  exact ⟨rfl, rfl⟩
set_option maxHeartbeats 800000 in
theorem rtl_arg (D : Option Addr) (n d : Nat) (l : Nat → Int) (m : Int) (w : World) (hn : n ≤ 100000) (hl : L2.Holds w w.heap.size D n l) (hz : L2.lchk n l = 0) (hm : m < 1 ∨ 40 < m) :
    Calls Try.prog 26 #[.slice D n d, .int .i64 m] w fun e w' => e = .returned (.tuple #[.slice none 0 0, .int .i64 2]) ∧ w' = w := by
  have HC := Lib.hid (rlc_any D n d l w hn hl)
  rw [hz] at HC
  clear hl hz
  have z0 : ((0 : Int) != 0) = false := rfl
  by_cases h1 : m < 1
  · have v1 : decide (m < 1) = true := decide_eq_true h1
    clear hm
    go_enter Try.func26, Try.ntmps26
    go_wp2_with (go_at_call 45; with_reducible refine Calls.mono HC.out ?_; rintro e w1 ⟨rfl, rfl⟩)
    refine bodyPost_ret (v := .tuple #[.slice none 0 0, .int .i64 2]) (by simp [results, Try.results26, go_sem]) rfl ?_
    exact ⟨rfl, rfl⟩
  · have v1 : decide (m < 1) = false := decide_eq_false h1
    have v2 : decide (40 < m) = true := decide_eq_true (by omega)
    clear hm
    go_enter Try.func26, Try.ntmps26
    go_wp2_with (go_at_call 45; with_reducible refine Calls.mono HC.out ?_; rintro e w1 ⟨rfl, rfl⟩)
    refine bodyPost_ret (v := .tuple #[.slice none 0 0, .int .i64 2]) (by simp [results, Try.results26, go_sem]) rfl ?_
    exact ⟨rfl, rfl⟩
/-- The telescoped threading. -/
def tlf (l : Nat → Nat) (m : Nat) (i : Nat) : Int := ((l i % m : Nat) : Int)
set_option maxHeartbeats 1600000 in
theorem tl_ok (D : Option Addr) (n d : Nat) (l : Nat → Nat) (m : Nat) (w : World) (hn : n ≤ 400) (hl : L2.Holds w w.heap.size D n (fun i => ((l i : Nat) : Int))) (hz : L2.lchk n (fun i => ((l i : Nat) : Int)) = 0) (hm0 : 1 ≤ m) (hm : m ≤ 40) :
    Calls Try.prog 25 #[.slice D n d, .int .i64 (m : Nat)] w fun e w' => ∃ k, e = .returned (.tuple #[.slice (some ⟨k, 0, none⟩) n n, .int .i64 0]) ∧ L2.Row w' k n (tlf l m) ∧ Below w.heap.size w w' := by
  have HC := Lib.hid (lc_any D n d _ w (by omega) hl)
  rw [hz] at HC
  have HL := Lib.hid hl
  clear hl hz
  have z0 : ((0 : Int) != 0) = false := rfl
  have v1 : decide ((m : Int) < 1) = false := by simp; omega
  have v2 : decide ((40 : Int) < (m : Int)) = false := by simp; omega
  have zm : ¬ m = 0 := by omega
  have hmk := fun u => mki_run n (by omega) u
  have HR0 := Lib.hid ((L2.RowL.made w n).row)
  have HB0 := Lib.hid (bel_alloc w (.cells (madeCells #[.int .i64 0] n) 3))
  go_enter Try.func25, Try.ntmps25
  go_wp2_with (go_at_call 44; with_reducible refine Calls.mono HC.out ?_; rintro e w1 ⟨rfl, rfl⟩)
  generalize w1.alloc (.cells (madeCells #[.int .i64 0] n) 3) = w2 at *
  go_loopw [26] (fun i wr => ∃ j : Nat, j ≤ n ∧ i = .int .i64 (j : Nat) ∧ Hid (L2.Row wr w1.heap.size n (fun i => if i < j then tlf l m i else 0)) ∧ Hid (Below w1.heap.size w1 wr)) (fun i _ => n - (intOf i).toNat)
  case atStart => exact ⟨0, Nat.zero_le _, rfl, Lib.hid (HR0.out.congr fun i _ => by simp), HB0⟩
  case round =>
    obtain ⟨j, hj, rfl, HR, HB⟩ := hrel
    by_cases hlt : j < n
    · have y1 : (j : Int) < (n : Int) := by omega
      have y2 : (0 : Int) ≤ (j : Int) := by omega
      obtain ⟨b, o, rfl, hbl, hc⟩ := HL.out (by omega)
      have a0 : wr.cell? ⟨b, o + j, none⟩ = some (.int .i64 ((l j : Nat) : Int)) := (HB.out.cell (p := ⟨b, o + j, none⟩) hbl).trans (hc j hlt)
      have g1 := HR.out.free j
      have g2 := HR.out.cell hlt
      have HT := Lib.hid (show tlf l m j = ((l j % m : Nat) : Int) from rfl)
      have z3 := tmodn (l j) m
      clear hc
      generalize l j % m = t at *
      generalize l j = lj at *
      have HR2 := Lib.hid ((HR.out.set_ j (t : Nat)).congr (f' := fun i => if i < j + 1 then tlf l m i else 0) (fun i hi => by
        by_cases e : i = j
        · subst e; simp [HT.out]
        · have : i < j + 1 ↔ i < j := by omega
          simp [e, this]))
      have HB2 := Lib.hid (HB.out.setCell (p := ⟨w1.heap.size, j, none⟩) (Nat.le_refl _) (.int .i64 (t : Nat)))
      clear HT
      go_wp2
      go_roundw
      case rel => exact ⟨j + 1, by omega, by go_num, HR2, HB2⟩
      case measure => simp [intOf]; omega
    · obtain rfl : j = n := by omega
      have y1 : ¬ (j : Int) < (j : Int) := by omega
      go_wp2
      refine bodyPost_ret (v := .tuple #[.slice (some ⟨w1.heap.size, 0, none⟩) j j, .int .i64 0]) (by simp [results, Try.results25, go_sem]) rfl ?_
      exact ⟨w1.heap.size, rfl, HR.out.congr fun i hi => by simp [hi], HB.out⟩
/-- The number in a cell. -/
def cellNat (w : World) (a : Addr) : Nat := match w.cell? a with
  | some (.int _ v) => v.toNat
  | _ => 0
theorem cellNat_of {w : World} {a : Addr} {k : IntKind} {v : Int} (h : w.cell? a = some (.int k v)) : cellNat w a = v.toNat := by unfold cellNat; rw [h]
set_option maxHeartbeats 1600000 in
theorem rtl_ok (D : Option Addr) (n d : Nat) (l : Nat → Nat) (m : Nat) (w : World) (hn : n ≤ 400) (hD : D = none → d = 0) (hl : L2.Holds w w.heap.size D n (fun i => ((l i : Nat) : Int))) (hz : L2.lchk n (fun i => ((l i : Nat) : Int)) = 0) (hlb : ∀ i, i < n → l i < 400) (hm0 : 1 ≤ m) (hm : m ≤ 40) :
    Calls Try.prog 26 #[.slice D n d, .int .i64 (m : Nat)] w fun e w' => ∃ A c, e = .returned (.tuple #[.slice A n c, .int .i64 0]) ∧ L2.Holds w' w'.heap.size A n (tlf l m) ∧ Below w.heap.size w w' := by
  have HC := Lib.hid (rlc_any D n d _ w (by omega) hl)
  rw [hz] at HC
  have HO0 := Lib.hid (L2.Own.empty w (Nat.le_refl _) (fun _ => 0))
  have hb0 := bel_alloc w (.cells #[] 3)
  have HL0 := Lib.hid ((hl.below hb0))
  have HB0 := Lib.hid hb0
  have hsz : (w.alloc (.cells #[] 3)).heap.size = w.heap.size + 1 := by simp
  clear hl hz hb0
  have z0 : ((0 : Int) != 0) = false := rfl
  have v1 : decide ((m : Int) < 1) = false := by simp; omega
  have v2 : decide ((40 : Int) < (m : Int)) = false := by simp; omega
  have zm : ¬ m = 0 := by omega
  go_enter Try.func26, Try.ntmps26
  go_wp2_with (first | (go_at_call 45; with_reducible refine Calls.mono HC.out ?_; rintro e w1 ⟨rfl, rfl⟩) | (at_builtin; refine L2.appN _ rfl _ _ rfl w1.heap.size rfl HO0.out rfl hD HL0.out (by omega) (by omega) (by rw [hsz]; omega) ?_; intro v' w5 O5 B5; clear HO0))
  have hob : L2.Own w5 w1.heap.size v' n (fun i => ((l i : Nat) : Int)) := by
    have h := O5
    rw [Nat.zero_add] at h
    exact h.congr fun i hi => by simp [L2.both]
  have HB5 := Lib.hid (HB0.out.trans (B5))
  obtain ⟨A5, c5, rfl, -, hrw⟩ := hob.out
  have HRW := Lib.hid hrw
  have HOB := Lib.hid (L2.Own.holds hob)
  clear hob O5 B5 hrw HL0 HC
  have HLB := Lib.hid hlb
  clear hlb
  go_loopw [7] (fun i wr => ∃ j : Nat, j ≤ n ∧ i = .int .i64 (j : Nat) ∧ Hid (0 < n → ∃ k, A5 = some ⟨k, 0, none⟩ ∧ w1.heap.size ≤ k ∧ L2.Row wr k n (fun i => if i < j then tlf l m i else ((l i : Nat) : Int))) ∧ Hid (Below w1.heap.size w1 wr)) (fun i _ => n - (intOf i).toNat)
  case atStart => exact ⟨0, Nat.zero_le _, rfl, Lib.hid (fun h0 => by obtain ⟨k, h1, h2, h3⟩ := HRW.out h0; exact ⟨k, h1, h2, h3.congr fun i _ => by simp⟩), HB5⟩
  case round =>
    obtain ⟨j, hj, rfl, HR, HB⟩ := hrel
    clear HRW HOB
    by_cases hlt : j < n
    · have y1 : (j : Int) < (n : Int) := by omega
      have y2 : (0 : Int) ≤ (j : Int) := by omega
      obtain ⟨k, rfl, hk, hrow⟩ := HR.out (by omega)
      have HRO := Lib.hid hrow
      clear hrow HR
      go_wp2
      go_loopw [39] (fun _ wq => ∃ v : Nat, v % m = l j % m ∧ v < 400 ∧ Hid (L2.Row wq k n (fun i => if i = j then ((v : Nat) : Int) else if i < j then tlf l m i else ((l i : Nat) : Int))) ∧ Hid (Below w1.heap.size w1 wq)) (fun _ wq => cellNat wq ⟨k, j, none⟩)
      case atStart => exact ⟨l j, rfl, HLB.out j hlt, Lib.hid (HRO.out.congr fun i _ => by by_cases e : i = j <;> simp [e]), HB⟩
      case round =>
        obtain ⟨v, hvm, hv4, HV, HW⟩ := hrel
        obtain ⟨wq, rfl⟩ : ∃ wo : World, wo = wr := ⟨_, rfl⟩
        have c0 : wq.cell? ⟨k, j, none⟩ = some (.int .i64 (v : Nat)) := by have := HV.out.cell hlt; simpa using this
        have c1 := HV.out.free j
        have HM := Lib.hid hvm
        clear hvm
        by_cases hge : m ≤ v
        · have v4 : decide ((m : Int) ≤ (v : Int)) = true := by simp; exact hge
          have z5 : IntKind.i64.wrap ((v : Int) - (m : Int)) = ((v - m : Nat) : Int) := by rw [IntWalk.i64_in _ (by omega)]; omega
          have HV2 := Lib.hid ((HV.out.set_ j ((v - m : Nat) : Int)).congr (f' := fun i => if i = j then ((v - m : Nat) : Int) else if i < j then tlf l m i else ((l i : Nat) : Int)) (fun i _ => by by_cases e : i = j <;> simp [e]))
          have HW2 := Lib.hid (HW.out.setCell (p := ⟨k, j, none⟩) hk (.int .i64 ((v - m : Nat) : Int)))
          have HM2 := Lib.hid (show (v - m) % m = l j % m by rw [← HM.out, Nat.mod_eq_sub_mod hge])
          have hmeas : cellNat wq ⟨k, j, none⟩ = v := by rw [cellNat_of c0]; simp
          have c2 : (wq.setCell ⟨k, j, none⟩ (.int .i64 ((v - m : Nat) : Int))).cell? ⟨k, j, none⟩ = some (.int .i64 ((v - m : Nat) : Int)) := by have := HV2.out.cell hlt; simpa using this
          have hmeas2 : cellNat (wq.setCell ⟨k, j, none⟩ (.int .i64 ((v - m : Nat) : Int))) ⟨k, j, none⟩ = v - m := by rw [cellNat_of c2]; simp
          have HME := Lib.hid (And.intro hmeas hmeas2)
          have hvd : v - m < v := by omega
          clear hmeas hmeas2 c2
          generalize hvv : v - m = vv at *
          have HVV := Lib.hid hvv
          clear hvv
          go_wp2
          go_roundw
          case rel => exact ⟨vv, HM2.out, by omega, HV2, HW2⟩
          case measure => rw [HME.out.1, HME.out.2]; exact hvd
        · have v4 : decide ((m : Int) ≤ (v : Int)) = false := by simp; omega
          have hfin : v = l j % m := by rw [← HM.out, Nat.mod_eq_of_lt (by omega)]
          have HV3 := Lib.hid (HV.out.congr (f' := fun i => if i < j + 1 then tlf l m i else ((l i : Nat) : Int)) (fun i _ => by
            by_cases e : i = j
            · subst e; simp [tlf, hfin]
            · have : i < j + 1 ↔ i < j := by omega
              simp [e, this]))
          clear hfin
          go_wp2
          go_roundw
          case rel => exact ⟨j + 1, by omega, by go_num, Lib.hid (fun _ => ⟨k, rfl, hk, HV3.out⟩), HW⟩
          case measure => simp [intOf]; omega
    · obtain rfl : j = n := by omega
      have y1 : ¬ (j : Int) < (j : Int) := by omega
      have HH := Lib.hid (show L2.Holds wr wr.heap.size A5 j (tlf l m) from fun h0 => by
        obtain ⟨k, rfl, hk, hrow⟩ := HR.out h0
        exact (hrow.congr (f' := tlf l m) fun i hi => by simp [hi]).holds hrow.lt h0)
      go_wp2
      refine bodyPost_ret (v := .tuple #[.slice A5 j c5, .int .i64 0]) (by simp [results, Try.results26, go_sem]) rfl ?_
      first | exact ⟨A5, ⟨c5, rfl⟩, HH.out, HB.out⟩ | exact ⟨A5, c5, rfl, HH.out, HB.out⟩
end Go.Proofs.Ythipdfkgeghooaa
