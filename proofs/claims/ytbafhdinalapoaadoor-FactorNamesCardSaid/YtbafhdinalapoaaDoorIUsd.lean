/- The program's Used, and how many different elements a list has. -/
import Derived.Test.YtbafhdinalapoaaDoorIRen
namespace Go.Proofs.YtbafhdinalapoaaDoor.L2
open Go.RowKit Go.Maps
set_option linter.unusedVariables false
set_option linter.unusedSimpArgs false
set_option maxRecDepth 100000

/-- A number and an error came back. -/
def IOut (w : World) (z err : Int) (e : Ending) (w' : World) : Prop := e = .returned (.tuple #[.int .i64 z, .int .i64 err]) ∧ Below w.heap.size w w'

set_option maxHeartbeats 400000 in
theorem used_err (A : Option Addr) (n c : Nat) (f : Nat → Int) (w : World) (err : Int) (hn : n ≤ 420) (hr : Holds w w.heap.size A n f) (hx : lchk n f = err) (hne : (err != 0) = true) :
    Calls Tryd.prog 70 #[.slice A n c] w (IOut w 0 err) := by
  have HC := Lib.hid (chk_is c hn hx w hr)
  clear hx hr
  go_enter Tryd.func70, Tryd.ntmps70
  go_wp2_with fail
  refine HC.out.mono ?_
  rintro e w1 ⟨rfl, hb⟩
  have HF := Lib.hid hb
  clear hb
  go_wp2
  go_ret2
  exact ⟨rfl, HF.out⟩

set_option maxHeartbeats 1600000 in
theorem used_ok (A : Option Addr) (n c : Nat) (f : Nat → Int) (w : World) (hr : Holds w w.heap.size A n f) (hx : lchk n f = 0) :
    Calls Tryd.prog 70 #[.slice A n c] w (IOut w (nd f n : Nat) 0) := by
  have hmm := @run_makeMap Tryd.prog
  have hn := lchk_le hx
  have HR := Lib.hid hr
  have HV := Lib.hid (lchk_zero hx)
  have HC := Lib.hid (chk_is c (by omega) hx w hr)
  clear hx hr
  go_enter Tryd.func70, Tryd.ntmps70
  go_wp2_with fail
  refine HC.out.mono ?_
  rintro e w1 ⟨rfl, hb⟩
  have hs1 := hb.size
  have HB := Lib.hid (hb.alloc hs1 (.map #[] 0))
  have N0 := Lib.hid (NumSt.zero w1 f)
  clear hb
  go_wp2
  go_loopw [16] (fun i wr => ∃ k : Nat, k ≤ n ∧ i = .int .i64 k ∧ Hid (NumSt wr w1.heap.size f k) ∧ Below w.heap.size w wr) (fun i _ => n - (intOf i).toNat)
  case atStart => exact ⟨0, Nat.zero_le _, rfl, N0, HB.out⟩
  case round =>
    obtain ⟨k, hk, rfl, hnum, hbel⟩ := hrel
    by_cases hlt : k < n
    · obtain ⟨b, o, rfl, hbl, hc⟩ := (HR.out.below hbel) (by omega)
      have c1 := hc k hlt
      have y1 : (k : Int) < (n : Int) := by omega
      have hv := HV.out k hlt
      obtain ⟨u, hu⟩ : ∃ u, f k = u := ⟨_, rfl⟩
      rw [hu] at c1 hv
      have HN := Lib.hid (number_any w1.heap.size k f u wr (by omega) hnum.out hu hv.1 hv.2)
      have HB1 := Lib.hid hbel
      clear hc hu hv hbel hnum N0
      go_wp2_with fail
      refine HN.out.mono ?_
      rintro e w2 ⟨rfl, hst, hg⟩
      have HB2 := Lib.hid (Below.grown HB1.out hg HB1.out.size (fun j hj => by cases hj; exact hs1))
      have HS := Lib.hid hst
      clear hst hg
      go_wp2
      exact ⟨⟨k + 1, by omega, by go_num, HS, HB2.out⟩, by simp [intOf]; omega⟩
    · have e : k = n := by omega
      subst e
      obtain ⟨D, ho, hM⟩ := hnum.out
      have HO := Lib.hid ho
      have HS := Lib.hid hM.size
      have HF := Lib.hid (show ∀ z : Nat, nd f k = z → IOut w (nd f k : Nat) 0 (.returned (.tuple #[.int .i64 z, .int .i64 0])) wr from fun z hz => ⟨by rw [hz], hbel⟩)
      obtain ⟨z, hz⟩ : ∃ z, nd f k = z := ⟨_, rfl⟩
      have HZ := Lib.hid hz
      rw [hz] at HS
      clear ho hM hnum hbel N0 hz
      go_wp2_with (at_len; refine wpList_len_own _ rfl _ 123 rfl 3 3 Tryd.underlying123 _ w1.heap.size k D rfl HO.out ?_; rw [HS.out])
      go_ret2
      exact HF.out z HZ.out

/-- How many numbers below N have the property. -/
def cntr (p : Nat → Bool) : Nat → Nat
  | 0 => 0
  | N + 1 => cntr p N + if p N then 1 else 0
theorem cntr_le {p q : Nat → Bool} {N : Nat} (h : ∀ v, v < N → p v = true → q v = true) : cntr p N ≤ cntr q N := by
  induction N with
  | zero => exact Nat.le_refl _
  | succ N ih =>
    have := ih fun v hv => h v (by omega)
    have h1 := h N (by omega)
    unfold cntr
    cases hp : p N <;> cases hq : q N <;> simp_all <;> omega
theorem cntr_congr {p q : Nat → Bool} {N : Nat} (h : ∀ v, v < N → p v = q v) : cntr p N = cntr q N :=
  Nat.le_antisymm (cntr_le fun v hv e => by rw [← h v hv]; exact e) (cntr_le fun v hv e => by rw [h v hv]; exact e)
theorem cntr_or {p q r : Nat → Bool} {N : Nat} (h : ∀ v, v < N → p v = true → q v = true ∨ r v = true) : cntr p N ≤ cntr q N + cntr r N := by
  induction N with
  | zero => exact Nat.le_refl _
  | succ N ih =>
    have := ih fun v hv => h v (by omega)
    have h1 := h N (by omega)
    unfold cntr
    cases hp : p N <;> cases hq : q N <;> cases hr : r N <;> simp_all <;> omega
theorem cntr_set {p q : Nat → Bool} {N a : Nat} (ha : a < N) (h1 : p a = false) (h2 : q a = true) (h : ∀ v, v ≠ a → q v = p v) : cntr q N = cntr p N + 1 := by
  induction N with
  | zero => omega
  | succ N ih =>
    unfold cntr
    by_cases e : a = N
    · subst e
      have : cntr q a = cntr p a := cntr_congr fun v hv => h v (by omega)
      rw [this, h1, h2]
      simp
    · rw [ih (by omega), h N (fun e' => e e'.symm)]
      omega
theorem cntr_lt (N m : Nat) (h : m ≤ N) : cntr (fun v => decide (v < m)) N = m := by
  induction N with
  | zero => simp [cntr]; omega
  | succ N ih =>
    unfold cntr
    by_cases e : m ≤ N
    · rw [ih e]
      simp
      omega
    · obtain rfl : m = N + 1 := by omega
      have : cntr (fun v => decide (v < N + 1)) N = cntr (fun v => decide (v < N)) N := cntr_congr fun v hv => by simp [hv]; omega
      rw [this, cntr_self]
      simp
where
  cntr_self {N : Nat} : cntr (fun v => decide (v < N)) N = N := by
    have : ∀ k, k ≤ N → cntr (fun v => decide (v < N)) k = k := by
      intro k hk
      induction k with
      | zero => rfl
      | succ k ih =>
        unfold cntr
        rw [ih (by omega)]
        simp
        omega
    exact this N (Nat.le_refl _)

/-- Is v among the first n elements? -/
def inl (f : Nat → Int) (n v : Nat) : Bool := decide (∃ i, i < n ∧ f i = (v : Int))
theorem nd_count {f : Nat → Int} {n N : Nat} (hf : ∀ i, i < n → 0 ≤ f i ∧ f i < N) : nd f n = cntr (inl f n) N := by
  induction n with
  | zero =>
    have : ∀ N, cntr (inl f 0) N = 0 := by
      intro N
      induction N with
      | zero => rfl
      | succ N ih => unfold cntr; rw [ih]; simp [inl]
    rw [this]; rfl
  | succ n ih =>
    have hn := hf n (by omega)
    obtain ⟨u, hu⟩ : ∃ u : Nat, f n = u := ⟨(f n).toNat, by omega⟩
    have ih := ih fun i hi => hf i (by omega)
    rw [nd]
    by_cases h : fst f (f n) n < n
    · rw [if_pos h, ih]
      refine cntr_congr fun v hv => ?_
      unfold inl
      congr 1
      apply propext
      constructor
      · rintro ⟨i, hi, e⟩; exact ⟨i, by omega, e⟩
      · rintro ⟨i, hi, e⟩
        rcases Nat.lt_or_ge i n with h1 | h1
        · exact ⟨i, h1, e⟩
        · obtain rfl : i = n := by omega
          exact ⟨_, h, (fst_at f (f i) i h).trans e⟩
    · rw [if_neg h, ih]
      symm
      refine cntr_set (a := u) (by omega) ?_ ?_ ?_
      · unfold inl
        rw [decide_eq_false_iff_not]
        rintro ⟨i, hi, e⟩
        have hno := fst_no f (f n) n i (by rw [fst_end h]; exact hi)
        exact hno (by rw [hu]; exact e)
      · exact decide_eq_true ⟨n, by omega, hu⟩
      · intro v hv
        unfold inl
        congr 1
        apply propext
        constructor
        · rintro ⟨i, hi, e⟩
          rcases Nat.lt_or_ge i n with h1 | h1
          · exact ⟨i, h1, e⟩
          · obtain rfl : i = n := by omega
            exact absurd (by omega) hv
        · rintro ⟨i, hi, e⟩; exact ⟨i, by omega, e⟩
end Go.Proofs.YtbafhdinalapoaaDoor.L2
