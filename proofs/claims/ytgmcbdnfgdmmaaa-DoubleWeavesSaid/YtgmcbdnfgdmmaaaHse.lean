/- Sets of threads: Index, Contains, IndexFunc, ContainsFunc; isSet and comesOff of the program, Set, Marks and Off of the reference. -/
import Derived.Test.YtgmcbdnfgdmmaaaHov
import Derived.Test.YtgmcbdnfgdmmaaaIl
import Derived.Test.YtgmcbdnfgdmmaaaTa
import Derived.RangeFuncBox
namespace Go.Proofs.Ytgmcbdnfgdmmaaa
open Go.RowKit
set_option maxRecDepth 100000
set_option linter.unusedVariables false
set_option linter.unusedSimpArgs false

theorem mem_succ {k : Nat} {f : Nat → Int} {a : Nat} : mem (k + 1) f a = (mem k f a || (f k == (a : Int))) := by
  unfold mem
  rw [List.range_succ, List.any_append]
  simp
/-- One of the first n has the property. -/
def anyP (n : Nat) (P : Nat → Bool) : Bool := (List.range n).any P
theorem anyP_succ {k : Nat} {P : Nat → Bool} : anyP (k + 1) P = (anyP k P || P k) := by
  unfold anyP
  rw [List.range_succ, List.any_append]
  simp
theorem anyP_hit {n k : Nat} {P : Nat → Bool} (hk : k < n) (h : P k = true) : anyP n P = true := by
  unfold anyP
  rw [List.any_eq_true]
  exact ⟨k, List.mem_range.2 hk, h⟩
theorem mem_any {n : Nat} {f : Nat → Int} {a : Nat} : mem n f a = anyP n (fun i => f i == (a : Int)) := rfl
/-- An index came back, or -1. -/
def Idx (w : World) (n : Nat) (P : Nat → Bool) (e : Ending) (w' : World) : Prop := ∃ r : Int, e = .returned (.int .i64 r) ∧ decide (0 ≤ r) = anyP n P ∧ Below w.heap.size w w'
theorem idx_hit {w w' : World} {n k : Nat} {P : Nat → Bool} (hk : k < n) (h : P k = true) (hb : Below w.heap.size w w') : Idx w n P (.returned (.int .i64 (k : Nat))) w' :=
  ⟨_, rfl, by rw [anyP_hit hk h, decide_eq_true_iff]; omega, hb⟩
theorem idx_no {w w' : World} {n : Nat} {P : Nat → Bool} (h : anyP n P = false) (hb : Below w.heap.size w w') : Idx w n P (.returned (.int .i64 (-1))) w' := ⟨_, rfl, by rw [h]; rfl, hb⟩
set_option maxHeartbeats 800000 in
theorem index_any (D : Option Addr) (n c : Nat) (f : Nat → Int) (v : Int) (w : World) (hn : n ≤ 30000) (hr : L2.Holds w w.heap.size D n f) :
    Calls Try.prog 154 #[.slice D n c, .int .i64 v] w (Idx w n (fun i => f i == v)) := by
  have HR := Lib.hid hr
  clear hr
  go_enter Try.func154, Try.ntmps154
  go_wp2
  go_loop [8] (fun i => ∃ k : Nat, k ≤ n ∧ i = .int .i64 k ∧ Hid (anyP k (fun i => f i == v) = false)) (fun i => n - (intOf i).toNat)
  case atStart => exact ⟨0, Nat.zero_le _, rfl, Lib.hid rfl⟩
  case round =>
    obtain ⟨k, hk, rfl, hall⟩ := hrel
    by_cases hlt : k < n
    · obtain ⟨b, o, rfl, hbl, hc⟩ := HR.out (by omega)
      have c1 := hc k hlt
      clear hc
      have y1 : (0 : Int) ≤ (k : Int) := by omega
      have y2 : (k : Int) < (n : Int) := by omega
      obtain ⟨u, hu⟩ : ∃ u, f k = u := ⟨_, rfl⟩
      rw [hu] at c1
      have HU := Lib.hid hu
      clear hu
      by_cases e : v = u
      · have E := Lib.hid (idx_hit (w := w) hlt (P := fun i => f i == v) (by show (f k == v) = true; rw [HU.out, e]; exact beq_self_eq_true _) (Below.refl _ _))
        subst e
        have z : (v == v) = true := by simp
        go_wp2
        go_ret
        exact E.out
      · have E := Lib.hid (show anyP (k + 1) (fun i => f i == v) = false by rw [anyP_succ, hall.out, Bool.false_or]; show (f k == v) = false; rw [HU.out, beq_eq_false_iff_ne]; exact fun h => e h.symm)
        have z : (v == u) = false := by rw [beq_eq_false_iff_ne]; exact e
        clear e
        go_wp2
        go_round
        case rel => exact ⟨k + 1, by omega, by go_num, E⟩
        case measure => simp [intOf]; omega
    · have e : k = n := by omega
      subst e
      have E := Lib.hid (idx_no (w := w) hall.out (Below.refl _ _))
      go_wp2
      go_ret
      exact E.out
theorem contains_any (D : Option Addr) (n c : Nat) (f : Nat → Int) (a : Nat) (w : World) (hn : n ≤ 30000) (hr : L2.Holds w w.heap.size D n f) :
    Calls Try.prog 124 #[.slice D n c, .int .i64 (a : Nat)] w fun e w' => e = .returned (.bool (mem n f a)) ∧ Below w.heap.size w w' := by
  have HI := Lib.hid (fun u (h : Below w.heap.size w u) => index_any D n c f (a : Nat) u hn ((hr.below h).more h.size))
  rw [mem_any]
  go_enter Try.func124, Try.ntmps124
  go_wp2_with fail
  with_reducible refine Calls.mono (HI.out _ (Below.refl _ _)) ?_
  rintro e w1 ⟨r, rfl, hd, hb⟩
  have HD := Lib.hid hd
  have HB := Lib.hid hb
  clear hd hb
  go_wp2
  go_ret
  exact ⟨ret_bool HD.out, HB.out⟩
/-- A function value of one number answers P. -/
def GivesP (g : FuncId) (lb : Array Value) (w0 : World) (n : Nat) (f : Nat → Int) (P : Nat → Bool) : Prop :=
  ∀ (w : World) (i : Nat), Below w0.heap.size w0 w → i < n → Calls Try.prog g (#[.int .i64 (f i)] ++ lb) w fun e w' => e = .returned (.bool (P i)) ∧ Below w.heap.size w w'
set_option maxHeartbeats 800000 in
theorem indexf_any (D : Option Addr) (n c : Nat) (f : Nat → Int) (g : FuncId) (lb : Array Value) (P : Nat → Bool) (w : World) (hn : n ≤ 30000) (hr : L2.Holds w w.heap.size D n f) (hG : GivesP g lb w n f P)
    (eg : ∀ args w, (callFunc g args).run Try.prog w = .ok (.enter g args) w) :
    Calls Try.prog 155 #[.slice D n c, .func (.func g) #[] lb] w (Idx w n P) := by
  have HR := Lib.hid hr
  have HG := Lib.hid hG
  clear hr hG
  go_enter Try.func155, Try.ntmps155
  go_wp2
  go_loopw [8] (fun i wr => ∃ k : Nat, k ≤ n ∧ i = .int .i64 k ∧ Hid (anyP k P = false) ∧ Hid (Below w.heap.size w wr)) (fun i _ => n - (intOf i).toNat)
  case atStart => exact ⟨0, Nat.zero_le _, rfl, Lib.hid rfl, Lib.hid (Below.refl _ _)⟩
  case round =>
    obtain ⟨k, hk, rfl, hall, hbel⟩ := hrel
    by_cases hlt : k < n
    · obtain ⟨b, o, rfl, hbl, hc⟩ := (HR.out.below hbel.out) (by omega)
      have c1 := hc k hlt
      clear hc
      have hbs := hbel.out.size
      have y1 : (0 : Int) ≤ (k : Int) := by omega
      have y2 : (k : Int) < (n : Int) := by omega
      have HGk := Lib.hid (HG.out wr k hbel.out hlt)
      obtain ⟨u, hu⟩ : ∃ u, f k = u := ⟨_, rfl⟩
      rw [hu] at c1 HGk
      clear hu
      have HP := Lib.hid (show anyP (k + 1) P = P k by rw [anyP_succ, hall.out, Bool.false_or])
      have HH := Lib.hid (fun (h : P k = true) w' (hb : Below w.heap.size w w') => idx_hit hlt h hb)
      obtain ⟨q, hq⟩ : ∃ q, P k = q := ⟨_, rfl⟩
      rw [hq] at HGk HP HH
      clear hq
      cases q
      · go_wp2_with (go_at_fn g; (with_reducible refine Calls.mono HGk.out ?_); rintro e w1 ⟨rfl, hb1⟩; have HB1 := Lib.hid (hbel.out.trans (hb1.mono hbel.out.size)); clear hb1)
        go_roundw
        case rel => exact ⟨k + 1, by omega, by go_num, HP, HB1⟩
        case measure => simp [intOf]; omega
      · go_wp2_with (go_at_fn g; (with_reducible refine Calls.mono HGk.out ?_); rintro e w1 ⟨rfl, hb1⟩; have HB1 := Lib.hid (hbel.out.trans (hb1.mono hbel.out.size)); clear hb1)
        go_ret
        exact HH.out (by trivial) _ HB1.out
    · have e : k = n := by omega
      subst e
      have E := Lib.hid (idx_no hall.out hbel.out)
      go_wp2
      go_ret
      exact E.out
theorem containsf_any (D : Option Addr) (n c : Nat) (f : Nat → Int) (g : FuncId) (lb : Array Value) (P : Nat → Bool) (w : World) (hn : n ≤ 30000) (hr : L2.Holds w w.heap.size D n f) (hG : GivesP g lb w n f P)
    (eg : ∀ args w, (callFunc g args).run Try.prog w = .ok (.enter g args) w) :
    Calls Try.prog 125 #[.slice D n c, .func (.func g) #[] lb] w fun e w' => e = .returned (.bool (anyP n P)) ∧ Below w.heap.size w w' := by
  have HI := Lib.hid (indexf_any D n c f g lb P w hn hr hG eg)
  go_enter Try.func125, Try.ntmps125
  go_wp2_with fail
  with_reducible refine Calls.mono HI.out ?_
  rintro e w1 ⟨r, rfl, hd, hb⟩
  have HD := Lib.hid hd
  have HB := Lib.hid hb
  clear hd hb
  go_wp2
  go_ret
  exact ⟨ret_bool HD.out, HB.out⟩
/-- The function value of comesOff and of tiesOf: does a lie over it? -/
theorem over_clo {w : World} {gb W H c : Nat} {A : Option Addr} {f : Nat → Bool} (h : Grid w gb W H A c f) {ta a : Nat} (na : Num w ta (a : Nat)) (ha : a < W + H) (b : Nat) (hb : b < W + H) (g : FuncId) (hg : g = 126 ∨ g = 150) :
    Calls Try.prog g (#[.int .i64 (b : Nat)] ++ #[.pointer (some ⟨gb, 0, none⟩), .pointer (some ⟨ta, 0, none⟩)]) w fun e w' => e = .returned (.bool (ov W f a b)) ∧ Below w.heap.size w w' := by
  have HO := Lib.hid (isover_any W H A c f a b w h.cells h.w1 h.h1 ha hb)
  obtain ⟨q0, q1, q2, q3, q4, q5, q6⟩ := h.box.all
  obtain ⟨n0, n1⟩ := na
  clear h
  generalize W * H = N at *
  rcases hg with rfl | rfl
  · go_enter Try.func126, Try.ntmps126
    go_wp2_with fail
    with_reducible refine Calls.mono HO.out ?_
    rintro e w1 ⟨rfl, hb1⟩
    have HB := Lib.hid hb1
    clear hb1 q0 q1 q2 q3 q4 q5 q6 n0
    go_wp2
    go_ret
    exact ⟨rfl, HB.out⟩
  · go_enter Try.func150, Try.ntmps150
    go_wp2_with fail
    with_reducible refine Calls.mono HO.out ?_
    rintro e w1 ⟨rfl, hb1⟩
    have HB := Lib.hid hb1
    clear hb1 q0 q1 q2 q3 q4 q5 q6 n0
    go_wp2
    go_ret
    exact ⟨rfl, HB.out⟩
end Go.Proofs.Ytgmcbdnfgdmmaaa
