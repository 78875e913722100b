/- The first places of a list's elements, and the map of the program that numbers them. -/
import Derived.Test.YtcmpoblbjjoaiaaDoorBld
import Derived.Test.YtcmpoblbjjoaiaaDoorOwn
import Derived.Maps.OwnSet
namespace Go.Proofs.YtcmpoblbjjoaiaaDoor
open Go.RowKit Go.Maps
set_option linter.unusedVariables false
set_option linter.unusedSimpArgs false

/-- The first place below n that holds x, or n. -/
def fst (f : Nat → Int) (x : Int) : Nat → Nat
  | 0 => 0
  | n + 1 => if fst f x n < n then fst f x n else if f n = x then n else n + 1
/-- How many different elements the first n are. -/
def nd (f : Nat → Int) : Nat → Nat
  | 0 => 0
  | n + 1 => nd f n + (if fst f (f n) n < n then 0 else 1)
/-- The renumbered list. -/
def ren (f : Nat → Int) (i : Nat) : Int := (nd f (fst f (f i) i) : Nat)

theorem fst_le (f : Nat → Int) (x : Int) (n : Nat) : fst f x n ≤ n := by
  induction n with
  | zero => simp [fst]
  | succ n ih =>
    unfold fst
    split
    · omega
    · split <;> omega
theorem fst_at (f : Nat → Int) (x : Int) (n : Nat) (h : fst f x n < n) : f (fst f x n) = x := by
  induction n with
  | zero => omega
  | succ n ih =>
    unfold fst at h ⊢
    by_cases h1 : fst f x n < n
    · rw [if_pos h1]; exact ih h1
    · rw [if_neg h1] at h ⊢
      by_cases h2 : f n = x
      · rw [if_pos h2]; exact h2
      · rw [if_neg h2] at h; omega
theorem fst_no (f : Nat → Int) (x : Int) (n : Nat) : ∀ j, j < fst f x n → f j ≠ x := by
  induction n with
  | zero => intro j hj; simp [fst] at hj
  | succ n ih =>
    intro j hj
    unfold fst at hj
    have hle := fst_le f x n
    by_cases h1 : fst f x n < n
    · rw [if_pos h1] at hj; exact ih j hj
    · rw [if_neg h1] at hj
      by_cases h2 : f n = x
      · rw [if_pos h2] at hj; exact ih j (by omega)
      · rw [if_neg h2] at hj
        rcases Nat.lt_or_ge j n with h3 | h3
        · exact ih j (by omega)
        · obtain rfl : j = n := by omega
          exact h2
theorem fst_keep {f : Nat → Int} {x : Int} {n : Nat} (h : fst f x n < n) : fst f x (n + 1) = fst f x n := by
  rw [fst, if_pos h]
theorem fst_succ_hit {f : Nat → Int} {x : Int} {n : Nat} (h : ¬ fst f x n < n) (e : f n = x) : fst f x (n + 1) = n := by
  rw [fst, if_neg h, if_pos e]
theorem fst_succ_miss {f : Nat → Int} {x : Int} {n : Nat} (h : ¬ fst f x n < n) (e : ¬ f n = x) : fst f x (n + 1) = n + 1 := by
  rw [fst, if_neg h, if_neg e]
theorem fst_end {f : Nat → Int} {x : Int} {n : Nat} (h : ¬ fst f x n < n) : fst f x n = n := by have := fst_le f x n; omega
theorem nd_le (f : Nat → Int) (n : Nat) : nd f n ≤ n := by
  induction n with
  | zero => simp [nd]
  | succ n ih => unfold nd; split <;> omega

/-- D is the map behind k elements. -/
structure MapIs (D : DataW Unit) (f : Nat → Int) (k : Nat) : Prop where
  tidy : Tidy D
  has : ∀ x, Maps.has D (.int .i64 x) = decide (fst f x k < k)
  val : ∀ x, fst f x k < k → D.atKey (.int .i64 x) (.lit (.int .i64 0)) = .lit (.int .i64 (nd f (fst f x k) : Nat))
  size : Maps.size D = nd f k

theorem isKey (x : Int) : WideAt.IsKeyLit (.int .i64 x) := by simp [WideAt.IsKeyLit]
theorem MapIs.zero (f : Nat → Int) : MapIs (.map []) f 0 :=
  ⟨tidy_empty, fun x => by simp [Maps.has], fun x h => absurd h (by omega), rfl⟩
theorem MapIs.seen {D : DataW Unit} {f : Nat → Int} {k : Nat} (h : MapIs D f k) (hs : fst f (f k) k < k) : MapIs D f (k + 1) := by
  have e : ∀ x, fst f x (k + 1) < k + 1 ↔ fst f x k < k := by
    intro x
    by_cases h1 : fst f x k < k
    · rw [fst_keep h1]; omega
    · have h2 : ¬ f k = x := fun e => h1 (e ▸ hs)
      rw [fst_succ_miss h1 h2]; omega
  refine ⟨h.tidy, fun x => by rw [h.has x]; simp only [e x], fun x hx => ?_, ?_⟩
  · have h1 := (e x).1 hx
    rw [fst_keep h1]
    exact h.val x h1
  · rw [h.size, nd, if_pos hs]; rfl
theorem MapIs.new {D : DataW Unit} {f : Nat → Int} {k : Nat} (h : MapIs D f k) (hs : ¬ fst f (f k) k < k) : MapIs (D.put (.int .i64 (f k)) (.lit (.int .i64 (nd f k : Nat)))) f (k + 1) := by
  have hk := isKey (f k)
  have he := fst_end hs
  refine ⟨h.tidy.put hk _, fun x => ?_, fun x hx => ?_, ?_⟩
  · by_cases e : x = f k
    · subst e
      rw [has_put_same h.tidy.isMap hk, fst_succ_hit hs rfl]
      simp
    · rw [has_put_other (by simpa using e), h.has x]
      by_cases h1 : fst f x k < k
      · rw [fst_keep h1]; simp; omega
      · rw [fst_succ_miss h1 (fun e' => e e'.symm)]; simp; omega
  · by_cases e : x = f k
    · subst e
      rw [atKey_put_same h.tidy.isMap hk, fst_succ_hit hs rfl]
    · rw [atKey_put_other (by simpa using e)]
      by_cases h1 : fst f x k < k
      · rw [fst_keep h1]; exact h.val x h1
      · rw [fst_succ_miss h1 (fun e' => e e'.symm)] at hx; omega
  · rw [size_put h.tidy, h.has, if_neg (by simpa using hs), h.size, nd, if_neg hs]

theorem law3 : Keyed Tryd.prog 3 := int_keyed Tryd.underlying3
theorem zero3 (w : World) : (zeroValue 3).run Tryd.prog w = .ok (.int .i64 0) w := by kernel_rfl

/-- Block B is the map of the numbering, behind k elements of f. -/
def NumSt (w : World) (B : Nat) (f : Nat → Int) (k : Nat) : Prop := ∃ D : DataW Unit, w.ownsMap Tryd.prog 3 (plainElem Tryd.prog 3) B k D ∧ MapIs D f k
theorem NumSt.lt {w : World} {B k : Nat} {f : Nat → Int} (h : NumSt w B f k) : B < w.heap.size := by
  obtain ⟨D, ho, _⟩ := h
  exact ho.lt
theorem NumSt.zero (w : World) (f : Nat → Int) : NumSt (w.alloc (.map #[] 0)) w.heap.size f 0 := ⟨_, World.ownsMap_made _ _ _ _, MapIs.zero f⟩
theorem NumSt.block {w w' : World} {B k : Nat} {f : Nat → Int} (h : NumSt w B f k) (e : w'.heap[B]? = w.heap[B]?) : NumSt w' B f k := by
  obtain ⟨D, ⟨es, clock, hb, r⟩, hM⟩ := h
  exact ⟨D, ⟨es, clock, e.trans hb, r⟩, hM⟩

/-- What a call of the method leaves. -/
def NumOut (w : World) (B : Nat) (f : Nat → Int) (k : Nat) (e : Ending) (w' : World) : Prop :=
  e = .returned (.int .i64 (ren f k)) ∧ NumSt w' B f (k + 1) ∧ w.grownBy w' (some B)

set_option maxHeartbeats 1600000 in
theorem number_any (B k : Nat) (f : Nat → Int) (x : Int) (w : World) (hk : k ≤ 1000) (h : NumSt w B f k) (hx : f k = x) (h0 : 0 ≤ x) (h1 : x < 400) :
    Calls Tryd.prog 42 #[.map (some B), .int .i64 x] w (NumOut w B f k) := by
  obtain ⟨D, hown, hM⟩ := h
  have hkey : keyOf Tryd.prog 3 (.int .i64 x) = some (.int .i64 x) := keyOf_int_mk Tryd.underlying3 (WalkArith.wf_i64 (by omega))
  have hhas := hM.has x
  have hnd := nd_le f k
  by_cases hs : fst f x k < k
  · have hval := hM.val x hs
    have hh : Maps.has D (.int .i64 x) = true := by rw [hhas]; simp [hs]
    have HM := Lib.hid (hM.seen (by rw [hx]; exact hs))
    have HR := Lib.hid (show ren f k = (nd f (fst f x k) : Nat) by unfold ren; rw [hx])
    obtain ⟨c, hc⟩ : ∃ c : Int, (nd f (fst f x k) : Nat) = c := ⟨_, rfl⟩
    rw [hc] at hval
    have HC := Lib.hid hc
    have HO := Lib.hid hown
    have HV := Lib.hid hval
    clear hown hM hhas hval hc hx hs
    unfold NumOut
    go_enter Tryd.func42, Tryd.ntmps42
    go_wp2_with (first
      | (at_lookup; refine wpList_lookup_own_ok_int _ rfl _ _ 62 rfl 3 3 .i64 law3 Tryd.underlying62 Tryd.underlying3 (zero3 _) B k D rfl HO.out _ _ rfl hkey ?_; intro c' hat hwc; rw [hh]; have e := HV.out.symm.trans hat; simp only [DataW.lit.injEq, Lit.int.injEq, true_and] at e; subst e; clear hat hwc))
    go_ret
    exact ⟨by rw [HR.out, HC.out]; rfl, ⟨D, HO.out.mono (Nat.le_succ _), HM.out⟩, World.grownBy.refl _ _⟩
  · have hh : Maps.has D (.int .i64 x) = false := by rw [hhas]; simp [hs]
    have HM := Lib.hid (hM.new (by rw [hx]; exact hs))
    have HR := Lib.hid (show ren f k = (nd f k : Nat) by unfold ren; rw [hx, fst_end hs])
    have hsz := hM.size
    obtain ⟨m, hm⟩ : ∃ m : Nat, nd f k = m := ⟨_, rfl⟩
    rw [hm] at hsz HM HR hnd
    rw [hx] at HM
    have HO := Lib.hid hown
    have HS := Lib.hid hsz
    clear hown hM hhas hsz hm hx hs
    unfold NumOut
    go_enter Tryd.func42, Tryd.ntmps42
    go_wp2_with (first
      | (at_lookup; refine wpList_lookup_own_ok_int _ rfl _ _ 62 rfl 3 3 .i64 law3 Tryd.underlying62 Tryd.underlying3 (zero3 _) B k D rfl HO.out _ _ rfl hkey ?_; intro c' hat hwc; rw [hh]; clear hat hwc)
      | (at_len; refine wpList_len_own _ rfl _ 62 rfl 3 3 Tryd.underlying62 _ B k D rfl HO.out ?_; rw [HS.out])
      | (at_mapUpdate; refine wpList_mapUpdate_own _ rfl _ _ _ 62 rfl 3 3 law3 Tryd.underlying62 _ B k D rfl HO.out (by unfold maxLen; omega) _ _ _ rfl rfl hkey (.lit (.int .i64 (m : Int))) [] (plainElem_int Tryd.underlying3 (WalkArith.wf_i64 (by omega))) ?_; intro w1 hown1 hgrow1; have HO1 := Lib.hid hown1; have HG1 := Lib.hid hgrow1; clear hown1 hgrow1))
    go_ret
    exact ⟨by rw [HR.out]; rfl, ⟨_, HO1.out, HM.out⟩, HG1.out⟩
end Go.Proofs.YtcmpoblbjjoaiaaDoor
