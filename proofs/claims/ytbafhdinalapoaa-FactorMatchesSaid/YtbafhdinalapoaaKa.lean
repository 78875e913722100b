/- The kinds of the rows of a grid, by the program. -/
import Derived.Test.YtbafhdinalapoaaGa
import Derived.Test.YtbafhdinalapoaaDa
import Derived.Test.YtbafhdinalapoaaIa

/- A row of a grid, cut out of its cells; whether two rows are the same. -/
namespace Go.Proofs.Ytbafhdinalapoaa
open Go.RowKit
set_option linter.unusedVariables false
set_option linter.unusedSimpArgs false
set_option maxRecDepth 100000

set_option maxHeartbeats 800000 in
theorem row_any (W H : Nat) (b o c y : Nat) (w : World) (hW0 : 1 ≤ W) (hW : W ≤ 64) (hH : H ≤ 64) (hc : W * H ≤ c) (hy : y < H) :
    Calls Try.prog 90 #[.agg #[.int .i64 W, .int .i64 H, .slice (some ⟨b, o, none⟩) (W * H) c], .int .i64 y] w fun e w' => e = .returned (.slice (some ⟨b, o + y * W, none⟩) W (c - y * W)) ∧ Below w.heap.size w w' := by
  have h1 : y * W + W ≤ W * H := by
    have h := Nat.mul_le_mul_right W (show y + 1 ≤ H by omega)
    rw [Nat.add_mul, Nat.one_mul, Nat.mul_comm H W] at h
    exact h
  have h2 : W * H ≤ 4096 := Nat.mul_le_mul hW hH
  have e1 : (y : Int) * (W : Int) = ((y * W : Nat) : Int) := by simp
  have e2 : ((y : Int) + 1) * (W : Int) = ((y * W + W : Nat) : Int) := by rw [Int.add_mul]; simp
  have m1 : 0 ≤ (y : Int) * (W : Int) := by rw [e1]; omega
  have m2 : (y : Int) * (W : Int) ≤ 4096 := by rw [e1]; omega
  have m3 : 0 ≤ ((y : Int) + 1) * (W : Int) := by rw [e2]; omega
  have m4 : ((y : Int) + 1) * (W : Int) ≤ 4096 := by rw [e2]; omega
  have m5 : (y : Int) * (W : Int) ≤ ((y : Int) + 1) * (W : Int) := by rw [e1, e2]; omega
  have m6 : ((y : Int) + 1) * (W : Int) ≤ (c : Int) := by rw [e2]; omega
  have m7 : (((y : Int) + 1) * (W : Int)).toNat = y * W + W := by rw [e2, Int.toNat_natCast]
  have m8 : ((y : Int) * (W : Int)).toNat = y * W := by rw [e1, Int.toNat_natCast]
  have HM := Lib.hid (And.intro m7 m8)
  have H1 := Lib.hid h1
  have m9 : ¬ c = y * W := by omega
  have HE := Lib.hid (show (y + 1) * W - y * W = W by rw [Nat.add_mul, Nat.one_mul]; omega)
  clear m7 m8 e1 e2 hc h1 h2
  go_enter Try.func90, Try.ntmps90
  go_wp2
  go_ret
  exact ⟨by rw [HE.out]; rfl, (Below.refl _ _).alloc (Nat.le_refl _) _⟩

/-- The rows y and z have the same cells. -/
def rsm (W : Nat) (f : Nat → Bool) (y z : Nat) : Bool := decide (∀ i, i < W → f (y * W + i) = f (z * W + i))
theorem row_holds {w : World} {B b o W H : Nat} {f : Nat → Bool} (h : Holds w B (some ⟨b, o, none⟩) (W * H) f) {y : Nat} (hW : 1 ≤ W) (hy : y < H) : Holds w B (some ⟨b, o + y * W, none⟩) W (fun i => f (y * W + i)) := fun _ => by
  have h0 : 0 < W * H := Nat.mul_pos (by omega) (by omega)
  obtain ⟨b', o', e, hlt, hc⟩ := h h0
  cases e
  refine ⟨b, o + y * W, rfl, hlt, fun i hi => ?_⟩
  rw [Nat.add_assoc]
  exact hc _ (ix_bd hi hy)

set_option maxHeartbeats 1600000 in
theorem kin_clo {W H gb gy b o c y : Nat} {f : Nat → Bool} {w : World} (hb : Box w gb W H (.slice (some ⟨b, o, none⟩) (W * H) c)) (hc : Holds w w.heap.size (some ⟨b, o, none⟩) (W * H) f) (hcap : W * H ≤ c) (hy : Num w gy y) (hyH : y < H)
    (hW0 : 1 ≤ W) (hW : W ≤ 64) (hH : H ≤ 64) (z : Nat) (hz : z < H) (w1 : World) (hbel : Below w.heap.size w w1) :
    Calls Try.prog 88 (#[.int .i64 z] ++ #[.pointer (some ⟨gb, 0, none⟩), .pointer (some ⟨gy, 0, none⟩)]) w1 fun e w' => e = .returned (.bool (rsm W f z y)) ∧ Below w1.heap.size w1 w' := by
  have hb1 := hb.below hbel hb.lt
  have hy1 := hy.below hbel
  have hc1 := (hc.below hbel).more hbel.size
  have X0 := Lib.hid hb1
  have Y0 := Lib.hid hy1
  have C0 := Lib.hid hc1
  have L0 := Lib.hid (show 0 ≤ w1.heap.size ∧ 1 ≤ H from ⟨by omega, by omega⟩)
  clear hb hc hy hb1 hy1 hc1 hbel
  go_enter Try.func88, Try.ntmps88
  go_wp2
  obtain ⟨I, Wf, i0, h0, hbf, hcl⟩ := family w1
  have HCL := Lib.hid hcl
  have p0 := fun n => ((X0.out.below (hbf n) X0.out.lt).all).1
  have p1 := fun n => ((X0.out.below (hbf n) X0.out.lt).all).2.1
  have p2 := fun n => ((X0.out.below (hbf n) X0.out.lt).all).2.2.1
  have q0 := fun n => (Y0.out.below (hbf n)).1
  have BF := Lib.hid hbf
  have C1 := Lib.hid (fun n => (row_any W H b o c z (Wf n) hW0 hW hH hcap hz).mono fun e w2 h => (⟨h.1, HCL.out n _ h.2⟩ : _ ∧ ∃ m, w2 = Wf m))
  have C2 := Lib.hid (fun n => (row_any W H b o c y (Wf n) hW0 hW hH hcap hyH).mono fun e w2 h => (⟨h.1, HCL.out n _ h.2⟩ : _ ∧ ∃ m, w2 = Wf m))
  have C3 := Lib.hid (fun n => (equal_any _ _ W (c - z * W) (c - y * W) _ _ (Wf n) (by omega) (((row_holds C0.out hW0 hz).below (hbf n)).more (hbf n).size) (((row_holds C0.out hW0 hyH).below (hbf n)).more (hbf n).size)).mono fun e w2 h => (⟨h.1, HCL.out n _ h.2⟩ : _ ∧ ∃ m, w2 = Wf m))
  have C3 : Hid (∀ n, Calls Try.prog 89 #[.slice (some ⟨b, o + z * W, none⟩) W (c - z * W), .slice (some ⟨b, o + y * W, none⟩) W (c - y * W)] (Wf n) fun e w2 => e = .returned (.bool (rsm W f z y)) ∧ ∃ m, w2 = Wf m) := C3
  obtain ⟨u, hu⟩ : ∃ u, rsm W f z y = u := ⟨_, rfl⟩
  rw [hu] at C3
  have HU := Lib.hid hu
  clear hu
  clear hbf hcl
  refine wp_region_fam Wf i0 h0 (by kernel_rfl) (by kernel_rfl) ?_
  clear h0
  have hne : Nonempty I := ⟨i0⟩
  repeat (go_big_quiet_step (first | exact rfl | (go_at_call 90; with_reducible exact C1.out _) | (go_at_call 90; with_reducible exact C2.out _) | (go_at_call 89; with_reducible exact C3.out _)))
  refine wpQuiet_nil ?_
  rintro _ ⟨nq, rfl⟩
  go_wp2
  go_ret
  exact ⟨ret_bool HU.out.symm, BF.out nq⟩

/-- The first place below n at which B holds, or n. -/
def fib (B : Nat → Bool) : Nat → Nat
  | 0 => 0
  | n + 1 => if fib B n < n then fib B n else if B n then n else n + 1
theorem fib_le (B : Nat → Bool) (n : Nat) : fib B n ≤ n := by
  induction n with
  | zero => simp [fib]
  | succ n ih => unfold fib; split <;> (try split) <;> omega
/-- What IndexFunc answers. -/
def ixf (B : Nat → Bool) (n : Nat) : Int := if fib B n < n then (fib B n : Nat) else -1

set_option maxHeartbeats 1600000 in
theorem indexfunc_any (A : Option Addr) (n c : Nat) (F : Nat → Nat) (B : Nat → Bool) (g : Nat) (lb : Array Value) (w : World) (hn : n ≤ 5000) (hr : L2.Holds w w.heap.size A n (fun i => (F i : Nat)))
    (hG : ∀ w1 i, Below w.heap.size w w1 → i < n → Calls Try.prog g (#[.int .i64 (F i : Nat)] ++ lb) w1 fun e w' => e = .returned (.bool (B i)) ∧ Below w1.heap.size w1 w')
    (eg : ∀ args w, (callFunc g args).run Try.prog w = .ok (.enter g args) w) :
    Calls Try.prog 87 #[.slice A n c, .func (.func g) #[] lb] w fun e w' => e = .returned (.int .i64 (ixf B n)) ∧ Below w.heap.size w w' := by
  have HR := Lib.hid hr
  have HG := Lib.hid hG
  clear hr hG
  go_enter Try.func87, Try.ntmps87
  go_wp2
  go_loopw [8] (fun i wr => ∃ k : Nat, k ≤ n ∧ i = .int .i64 k ∧ Hid (fib B k = k) ∧ Below w.heap.size w wr) (fun i _ => n - (intOf i).toNat)
  case atStart => exact ⟨0, Nat.zero_le _, rfl, rfl, Below.refl _ _⟩
  case round =>
    obtain ⟨k, hk, rfl, hfk, hbel⟩ := hrel
    by_cases hlt : k < n
    · obtain ⟨b, o, rfl, hbl, hc⟩ := (HR.out.below hbel) (by omega)
      have c1 := hc k hlt
      have HB := Lib.hid hbel
      have hFk := Lib.hid hfk.out
      clear hc hfk hbel
      have y1 : (0 : Int) ≤ (k : Int) := by omega
      have y2 : (k : Int) < (n : Int) := by omega
      cases hBk : B k
      · have hnext : fib B (k + 1) = k + 1 := by
          show (if fib B k < k then fib B k else if B k then k else k + 1) = k + 1
          rw [if_neg (by have := hFk.out; omega), hBk]; rfl
        have HN := Lib.hid hnext
        clear hnext
        go_wp2_with (go_at_fn g; refine (HG.out _ k HB.out hlt).mono ?_; rintro e w1 ⟨rfl, hb1⟩; rw [hBk]; have HB1 := Lib.hid (HB.out.trans (hb1.mono HB.out.size)); clear hb1)
        exact ⟨⟨k + 1, by omega, by go_num, HN.out, HB1.out⟩, by simp [intOf]; omega⟩
      · have hans : ixf B n = (k : Nat) := by
          have key : ∀ m, k < m → fib B m = k := by
            intro m
            induction m with
            | zero => intro h; omega
            | succ m ih =>
              intro h
              show (if fib B m < m then fib B m else if B m then m else m + 1) = k
              rcases Nat.lt_succ_iff_lt_or_eq.1 h with h1 | rfl
              · rw [ih h1, if_pos h1]
              · rw [if_neg (by have := hFk.out; omega), hBk]; rfl
          unfold ixf
          rw [key n hlt, if_pos hlt]
        have HA := Lib.hid hans
        clear hans
        go_wp2_with (go_at_fn g; refine (HG.out _ k HB.out hlt).mono ?_; rintro e w1 ⟨rfl, hb1⟩; rw [hBk]; have HB1 := Lib.hid (HB.out.trans (hb1.mono HB.out.size)); clear hb1)
        go_ret
        exact ⟨by rw [HA.out]; rfl, HB1.out⟩
    · have e : k = n := by omega
      subst e
      have hans : ixf B k = -1 := by unfold ixf; rw [if_neg (by have := hfk.out; omega)]
      have HA := Lib.hid hans
      clear hans
      go_wp2
      go_ret
      exact ⟨by rw [HA.out]; rfl, hbel⟩
end Go.Proofs.Ytbafhdinalapoaa

/- The kinds of the rows of a grid, and their first rows. -/
namespace Go.Proofs.Ytbafhdinalapoaa
open Go.RowKit
set_option linter.unusedVariables false
set_option linter.unusedSimpArgs false
set_option maxRecDepth 100000

open L2 (fst nd ren fst_le fst_at fst_no fst_end nd_le)
/-- A row as a number. -/
def rcode (W : Nat) (f : Nat → Bool) (y : Nat) : Nat → Nat
  | 0 => 0
  | k + 1 => rcode W f y k + if f (y * W + k) then 2 ^ k else 0
theorem rcode_lt (W : Nat) (f : Nat → Bool) (y k : Nat) : rcode W f y k < 2 ^ k := by
  induction k with
  | zero => simp [rcode]
  | succ k ih => unfold rcode; rw [Nat.pow_succ]; split <;> omega
theorem rcode_eq (W : Nat) (f : Nat → Bool) (y z k : Nat) : rcode W f y k = rcode W f z k ↔ ∀ i, i < k → f (y * W + i) = f (z * W + i) := by
  induction k with
  | zero => simp [rcode]
  | succ k ih =>
    have h1 := rcode_lt W f y k
    have h2 := rcode_lt W f z k
    unfold rcode
    constructor
    · intro h
      have hk : f (y * W + k) = f (z * W + k) := by
        cases e1 : f (y * W + k) <;> cases e2 : f (z * W + k) <;> simp only [e1, e2] at h ⊢ <;> simp at h <;> omega
      rw [hk] at h
      have h3 := ih.1 (by omega)
      intro i hi
      rcases Nat.lt_succ_iff_lt_or_eq.1 hi with h4 | rfl
      · exact h3 i h4
      · exact hk
    · intro h
      rw [ih.2 fun i hi => h i (by omega), h k (by omega)]
def rc (W : Nat) (f : Nat → Bool) (y : Nat) : Int := (rcode W f y W : Nat)
theorem rc_eq (W : Nat) (f : Nat → Bool) (y z : Nat) : rc W f y = rc W f z ↔ rsm W f y z = true := by
  unfold rc rsm
  rw [decide_eq_true_iff, ← rcode_eq W f y z W]
  omega
/-- The first place, among the first m, of the kind k. -/
def frn (c : Nat → Int) : Nat → Nat → Nat
  | 0, _ => 0
  | m + 1, k => if ¬ fst c (c m) m < m ∧ nd c m = k then m else frn c m k
theorem nd_succ_new {c : Nat → Int} {m : Nat} (h : ¬ fst c (c m) m < m) : nd c (m + 1) = nd c m + 1 := by
  simp [nd, h]
theorem nd_succ_old {c : Nat → Int} {m : Nat} (h : fst c (c m) m < m) : nd c (m + 1) = nd c m := by
  simp [nd, h]
theorem nd_mono (c : Nat → Int) {a b : Nat} (h : a ≤ b) : nd c a ≤ nd c b := by
  induction b with
  | zero => obtain rfl : a = 0 := by omega
            exact Nat.le_refl _
  | succ b ih =>
    rcases Nat.lt_or_eq_of_le h with h1 | rfl
    · have := ih (by omega)
      by_cases h2 : fst c (c b) b < b
      · rw [nd_succ_old h2]; exact this
      · rw [nd_succ_new h2]; omega
    · exact Nat.le_refl _
theorem frn_spec (c : Nat → Int) (m k : Nat) (hk : k < nd c m) : frn c m k < m ∧ nd c (frn c m k) = k ∧ ¬ fst c (c (frn c m k)) (frn c m k) < frn c m k := by
  induction m with
  | zero => simp [nd] at hk
  | succ m ih =>
    unfold frn
    by_cases h : ¬ fst c (c m) m < m ∧ nd c m = k
    · rw [if_pos h]
      exact ⟨by omega, h.2, h.1⟩
    · rw [if_neg h]
      have hk' : k < nd c m := by
        by_cases h2 : fst c (c m) m < m
        · rw [nd_succ_old h2] at hk; exact hk
        · rw [nd_succ_new h2] at hk
          have : ¬ nd c m = k := fun e => h ⟨h2, e⟩
          omega
      obtain ⟨a, b, d⟩ := ih hk'
      exact ⟨by omega, b, d⟩
theorem frn_keep (c : Nat → Int) {m k : Nat} (hk : k < nd c m) : frn c (m + 1) k = frn c m k := by
  show (if ¬ fst c (c m) m < m ∧ nd c m = k then m else frn c m k) = _
  rw [if_neg]
  rintro ⟨_, e⟩
  omega
theorem frn_new {c : Nat → Int} {m : Nat} (h : ¬ fst c (c m) m < m) : frn c (m + 1) (nd c m) = m := by
  show (if ¬ fst c (c m) m < m ∧ nd c m = nd c m then m else frn c m (nd c m)) = _
  rw [if_pos ⟨h, rfl⟩]
/-- A place that is the first of its kind is the first place of its number. -/
theorem frn_of (c : Nat → Int) (m j : Nat) (hj : j < m) (h : ¬ fst c (c j) j < j) : frn c m (nd c j) = j := by
  induction m with
  | zero => omega
  | succ m ih =>
    rcases Nat.lt_succ_iff_lt_or_eq.1 hj with h1 | rfl
    · have := ih h1
      have h2 : nd c j < nd c m := by
        have := nd_mono c (show j + 1 ≤ m by omega)
        rw [nd_succ_new h] at this
        omega
      rw [frn_keep c h2]; exact this
    · exact frn_new h
theorem fst_first (c : Nat → Int) (y : Nat) (h : fst c (c y) y < y) : c (fst c (c y) y) = c y ∧ ¬ fst c (c (fst c (c y) y)) (fst c (c y) y) < fst c (c y) y := by
  have e := fst_at c (c y) y h
  refine ⟨e, fun h2 => ?_⟩
  have h3 := fst_at c _ _ h2
  rw [e] at h2 h3
  exact fst_no c (c y) y _ h2 h3
/-- The kind of a row is a kind that there is, and its first row is the same. -/
theorem ren_at (c : Nat → Int) (m y : Nat) (hy : y < m) : ∃ k, ren c y = (k : Nat) ∧ k < nd c m ∧ c (frn c m k) = c y := by
  by_cases h : fst c (c y) y < y
  · obtain ⟨e, h2⟩ := fst_first c y h
    refine ⟨nd c (fst c (c y) y), rfl, ?_, ?_⟩
    · have := nd_mono c (show fst c (c y) y + 1 ≤ m by omega)
      rw [nd_succ_new h2] at this
      omega
    · rw [frn_of c m _ (by omega) h2, e]
  · have e := fst_end h
    refine ⟨nd c y, by unfold ren; rw [e], ?_, ?_⟩
    · have := nd_mono c (show y + 1 ≤ m by omega)
      rw [nd_succ_new h] at this
      omega
    · rw [frn_of c m y hy h]
/-- What IndexFunc finds among the first rows. -/
theorem ixf_kind (c : Nat → Int) (y : Nat) (B : Nat → Bool) (hB : ∀ k, k < nd c y → (B k = true ↔ c (frn c y k) = c y)) :
    (fst c (c y) y < y → ixf B (nd c y) = ren c y) ∧ (¬ fst c (c y) y < y → ixf B (nd c y) = -1) := by
  have hfib : ∀ n, (∀ k, k < fib B n → k < n → B k = false) ∧ (fib B n < n → B (fib B n) = true) := by
    intro n
    induction n with
    | zero => exact ⟨fun k _ h => by omega, fun h => by omega⟩
    | succ n ih =>
      have hle := fib_le B n
      have eq : fib B (n + 1) = if fib B n < n then fib B n else if B n then n else n + 1 := rfl
      by_cases h1 : fib B n < n
      · rw [eq, if_pos h1]
        exact ⟨fun k hk _ => ih.1 k hk (by omega), fun _ => ih.2 h1⟩
      · rw [eq, if_neg h1]
        by_cases h2 : B n = true
        · rw [if_pos h2]
          exact ⟨fun k hk _ => ih.1 k (by omega) hk, fun _ => h2⟩
        · rw [if_neg h2]
          refine ⟨fun k hk hk2 => ?_, fun h => by omega⟩
          rcases Nat.lt_succ_iff_lt_or_eq.1 hk2 with h3 | rfl
          · exact ih.1 k (by omega) h3
          · simpa using h2
  obtain ⟨g1, g2⟩ := hfib (nd c y)
  have hle := fib_le B (nd c y)
  constructor
  · intro h
    obtain ⟨e, h2⟩ := fst_first c y h
    have hlt : nd c (fst c (c y) y) < nd c y := by
      have := nd_mono c (show fst c (c y) y + 1 ≤ y by omega)
      rw [nd_succ_new h2] at this
      omega
    have hBk : B (nd c (fst c (c y) y)) = true := (hB _ hlt).2 (by rw [frn_of c y _ h h2, e])
    have hfl : fib B (nd c y) < nd c y := by
      rcases Nat.lt_or_ge (fib B (nd c y)) (nd c y) with h3 | h3
      · exact h3
      · rw [g1 _ (by omega) hlt] at hBk; cases hBk
    have hBf := (hB _ hfl).1 (g2 hfl)
    obtain ⟨s1, s2, s3⟩ := frn_spec c y _ hfl
    have e2 : fst c (c y) y = frn c y (fib B (nd c y)) := by
      rcases Nat.lt_trichotomy (fst c (c y) y) (frn c y (fib B (nd c y))) with h4 | h4 | h4
      · exfalso
        apply s3
        have h5 := fst_no c (c (frn c y (fib B (nd c y)))) (frn c y (fib B (nd c y)))
        rcases Nat.lt_or_ge (fst c (c (frn c y (fib B (nd c y)))) (frn c y (fib B (nd c y)))) (frn c y (fib B (nd c y))) with h6 | h6
        · exact h6
        · exact absurd (e.trans hBf.symm) (h5 _ (by omega))
      · exact h4
      · exact absurd hBf (fst_no c (c y) y _ h4)
    unfold ixf
    rw [if_pos hfl]
    unfold ren
    rw [e2, s2]
  · intro h
    unfold ixf
    rw [if_neg]
    intro hfl
    have hBf := (hB _ hfl).1 (g2 hfl)
    obtain ⟨s1, s2, s3⟩ := frn_spec c y _ hfl
    have h5 := fst_no c (c y) y _ (show frn c y (fib B (nd c y)) < fst c (c y) y by have := fst_end h; omega)
    exact h5 hBf
end Go.Proofs.Ytbafhdinalapoaa

/- The kinds of the rows of a grid, by the program. -/
namespace Go.Proofs.Ytbafhdinalapoaa
open Go.RowKit
set_option linter.unusedVariables false
set_option linter.unusedSimpArgs false
set_option maxRecDepth 100000

open L2 (fst nd ren nd_le)
/-- 'append(s, y)', and what it leaves alone. -/
theorem app1' {ops : Array Oper} {rest : List Oper} {o : Oper} {a : Act} {Q : Exit → Act → World → Prop} (w : World) (hgd : o.guard = none) (s x : Operand)
    (ho : o.op = .call { callee := .builtin .append, args := #[s, x], argTypes := #[28, 28] }) (base : Nat) {v : Value} {n : Nat} {f : Nat → Int} (hs : a.eval s = v) (hown : L2.Own w base v n f)
    (y : Int) (hx : a.eval x = .slice (some ⟨w.heap.size, 0, none⟩) 1 1) (hy : f n = y) (hn : n ≤ 100000) (hb : base ≤ w.heap.size)
    (h : ∀ v' w', L2.Own w' base v' (n + 1) f → Below base w w' → (∀ k, k < w.heap.size → v.ownBlock ≠ some k → w'.heap[k]? = w.heap[k]?) → wpList Try.prog ops Q rest (a.put o.dst v') w') :
    wpList Try.prog ops Q (o :: rest) a (w.alloc (.cells #[.int .i64 y] 3)) := by
  obtain ⟨i0, hi, hz0, hz1, hz2⟩ := info_parts L2.TryI.info3
  refine wpList_append_own _ hgd s x 28 ho base 3 i0 (.int .i64 0) 1 8 Try.underlying28 hi hz0 hz1 hz2 rfl (by decide) v n _ hs (hown.alloc _) ⟨w.heap.size, 0, none⟩ 1 1 [.int .i64 y] hx rfl (cell_one_new _ _ _) (ints_oneCell .i64 [y])
    (by unfold maxLen; omega) (by omega) (by simp; omega) ?_
  intro v' w' ho' hg _
  refine h v' w' ?_ ?_ ?_
  · unfold L2.Own
    rw [L2.news_succ, hy]
    exact ho'
  · refine Below.grown ((Below.refl _ _).alloc hb _) hg (by simp; omega) fun k hk => (hown.block hk).1
  · intro k hk hne
    exact (hg.block k (by simp; omega) (fun e => hne (by first | exact e.symm | exact e))).trans (Below.heap_alloc w _ k hk)
/-- What kinds hands back: the kind of each row, and the first row of each kind. -/
def KOut (w : World) (H : Nat) (c : Nat → Int) (e : Ending) (w' : World) : Prop :=
  ∃ k A' c', e = .returned (.tuple #[.slice (some ⟨k, 0, none⟩) H H, .slice A' (nd c H) c']) ∧ w.heap.size ≤ k ∧ L2.Row w' k H (ren c) ∧ (0 < nd c H → ∃ q, A' = some ⟨q, 0, none⟩ ∧ w.heap.size ≤ q ∧ L2.Row w' q (nd c H) (fun k => (frn c H k : Nat))) ∧ Below w.heap.size w w'

set_option maxHeartbeats 4000000 in
theorem kinds_any (W H b o cap : Nat) (f : Nat → Bool) (B0 : Nat) (w : World) (hr : Holds w B0 (some ⟨b, o, none⟩) (W * H) f) (hB : B0 ≤ w.heap.size) (hcap : W * H ≤ cap) (hW0 : 1 ≤ W) (hW : W ≤ 64) (hH0 : 1 ≤ H) (hH : H ≤ 64) :
    Calls Try.prog 52 #[.agg #[.int .i64 W, .int .i64 H, .slice (some ⟨b, o, none⟩) (W * H) cap]] w (KOut w H (rc W f)) := by
  have hmk := L2.make_run H (by omega)
  have hmf := mk_fn
  have HR := Lib.hid hr
  have HC := Lib.hid hcap
  obtain ⟨c, hc⟩ : ∃ c, rc W f = c := ⟨_, rfl⟩
  have HE := Lib.hid hc
  rw [hc]
  clear hr hc
  have X0 := Lib.hid ((Box.new w W H (.slice (some ⟨b, o, none⟩) (W * H) cap)).alloc (.cells (madeCells #[.int .i64 0] H) 3))
  have K0 := Lib.hid (L2.Row.made (w.alloc (.cells #[.int .i64 W, .int .i64 H, .slice (some ⟨b, o, none⟩) (W * H) cap] 24)) H)
  have L0 := Lib.hid (show Below w.heap.size w ((w.alloc (.cells #[.int .i64 W, .int .i64 H, .slice (some ⟨b, o, none⟩) (W * H) cap] 24)).alloc (.cells (madeCells #[.int .i64 0] H) 3)) from ((Below.refl _ _).alloc (Nat.le_refl _) _).alloc (by simp) _)
  have hs0 : ((w.alloc (.cells #[.int .i64 W, .int .i64 H, .slice (some ⟨b, o, none⟩) (W * H) cap] 24)).alloc (.cells (madeCells #[.int .i64 0] H) 3)).heap.size = w.heap.size + 2 := by simp
  simp only [World.size_alloc] at K0
  go_enter Try.func52, Try.ntmps52
  go_wp2
  generalize (w.alloc (.cells #[.int .i64 W, .int .i64 H, .slice (some ⟨b, o, none⟩) (W * H) cap] 24)).alloc (.cells (madeCells #[.int .i64 0] H) 3) = w0 at *
  go_loopw [3, 11] (fun v i wr => ∃ y : Nat, y ≤ H ∧ i = .int .i64 y ∧ L2.Own wr (w.heap.size + 2) v (nd c y) (fun k => (frn c y k : Nat)) ∧ Hid (L2.Row wr (w.heap.size + 1) H (fun j => if j < y then ren c j else 0)) ∧ Hid (Box wr w.heap.size W H (.slice (some ⟨b, o, none⟩) (W * H) cap)) ∧ Hid (w.heap.size + 2 ≤ wr.heap.size) ∧ Below w.heap.size w wr) (fun _ i _ => H - (intOf i).toNat)
  case atStart => exact ⟨0, Nat.zero_le _, rfl, L2.Own.nil _ _ _, K0.out.congr fun i hi => by rw [if_neg (by omega)], X0.out, by show _ ≤ _; omega, L0.out⟩
  case round =>
    obtain ⟨y, hy, rfl, hown, hrow, hbox, hsz, hbel⟩ := hrel
    by_cases hlt : y < H
    · obtain ⟨A', c', rfl, _, hfr⟩ := hown.out
      have HO := Lib.hid hown
      have HB := Lib.hid hbel
      have HBK := Lib.hid (fun k (hk : (Value.slice A' (nd c y) c').ownBlock = some k) => (hown.block hk).2)
      obtain ⟨q0, q1, q2, q3, q4, q5, q6⟩ := hbox.out.all
      have hnd := nd_le c y
      have y1 : (y : Int) < (H : Int) := by omega
      have y0 : (0 : Int) ≤ (y : Int) := by omega
      -- the world with the round's own variable
      have Y1 := Lib.hid (Num.new wr (y : Int))
      have B1 := Lib.hid (hbox.out.alloc (.cells #[.int .i64 (y : Int)] 3))
      have C1 := Lib.hid ((HR.out.below (hbel.mono hB)).below ((Below.refl _ _).alloc (Nat.le_trans hB hbel.size) (.cells #[.int .i64 (y : Int)] 3)))
      have F1 : Hid (L2.Holds (wr.alloc (.cells #[.int .i64 (y : Int)] 3)) (wr.alloc (.cells #[.int .i64 (y : Int)] 3)).heap.size A' (nd c y) (fun k => (frn c y k : Nat))) := Lib.hid (fun h => by
        obtain ⟨q, rfl, _, hq⟩ := hfr h
        exact (hq.alloc _).holds (hq.alloc _).lt h)
      have R1 := Lib.hid (hrow.out.alloc (.cells #[.int .i64 (y : Int)] 3))
      have O1 := Lib.hid (hown.alloc (.cells #[.int .i64 (y : Int)] 3))
      have L1 := Lib.hid (hbel.alloc hbel.size (.cells #[.int .i64 (y : Int)] 3))
      have S1 := Lib.hid (show w.heap.size + 2 ≤ wr.heap.size ∧ (wr.alloc (.cells #[.int .i64 (y : Int)] 3)).heap.size = wr.heap.size + 1 from ⟨hsz.out, by simp⟩)
      have hix := ixf_kind c y (fun k => rsm W f (frn c y k) y) (fun k hk => by rw [← HE.out, ← rc_eq])
      have IX := Lib.hid hix
      clear hown hbel hrow hbox hfr hix hsz
      go_wp2_with fail
      clear q0 q1 q2 q3 q4 q5 q6
      generalize hw1 : wr.alloc (.cells #[.int .i64 (y : Int)] 3) = v1 at *
      clear hw1
      refine (indexfunc_any A' (nd c y) c' (frn c y) (fun k => rsm W f (frn c y k) y) 88 _ v1 (by omega) F1.out (fun w1 i hb hi =>
        kin_clo (gb := w.heap.size) (gy := wr.heap.size) (y := y) B1.out (C1.out.more (Nat.le_trans hB L1.out.size)) HC.out Y1.out hlt hW0 hW hH (frn c y i) (by have := (frn_spec c y i hi).1; omega) w1 hb) (Go.Proofs.enters_of Try.func88 (by kernel_rfl) rfl)).mono ?_
      rintro e w2 ⟨rfl, hb2⟩
      have Y2 := Lib.hid (Y1.out.below hb2)
      have B2 := Lib.hid (B1.out.below hb2 B1.out.lt)
      have R2 := Lib.hid (R1.out.below hb2 R1.out.lt)
      have O2 := Lib.hid (O1.out.below hb2)
      have L2' := Lib.hid (L1.out.trans (hb2.mono L1.out.size))
      have S2 := Lib.hid (show w.heap.size + 2 ≤ w2.heap.size ∧ w.heap.size + 2 ≤ wr.heap.size from ⟨by have := hb2.size; have := S1.out; omega, S1.out.1⟩)
      clear hb2 Y1 B1 R1 O1 L1 S1 C1 F1
      have n0 := Y2.out.1
      have n1 := Y2.out.2
      have r0 := R2.out.cell hlt
      rw [if_neg (by omega)] at r0
      have r1 := R2.out.free y
      have r2 := R2.out.lt
      by_cases hs : fst c (c y) y < y
      · have h1 := IX.out.1 hs
        obtain ⟨k, hk1, hk2, _⟩ := ren_at c y (fst c (c y) y) hs
        have hren : ren c y = (nd c (fst c (c y) y) : Nat) := rfl
        obtain ⟨p, hp⟩ : ∃ p : Nat, ren c y = (p : Nat) := ⟨_, hren⟩
        rw [hp] at h1
        rw [h1]
        have HPP := Lib.hid hp
        have HND := Lib.hid (show nd c (y + 1) = nd c y from nd_succ_old hs)
        have z1 : decide ((p : Int) < 0) = false := by simp
        clear h1 hk1 hk2 hren hp hs IX
        go_wp2
        refine ⟨⟨y + 1, by omega, by go_num, ?_, ?_, ?_, ?_, ?_⟩, by simp [intOf]; omega⟩
        · rw [HND.out]
          exact (O2.out.far (by simp) _).congr fun i hi => by rw [frn_keep c hi]
        · refine (R2.out.set_ y (p : Int)).congr fun j hj => ?_
          by_cases e : j = y
          · subst e; rw [if_pos rfl, if_pos (by omega), HPP.out]
          · rw [if_neg e]
            by_cases h : j < y
            · rw [if_pos h, if_pos (by omega)]
            · rw [if_neg h, if_neg (by omega)]
        · exact B2.out.far (by simp) _
        · show _ ≤ _
          simpa [World.setCell] using S2.out.1
        · exact L2'.out.setCell (by simp) _
      · have h1 := IX.out.2 hs
        rw [h1]
        have HND := Lib.hid (show nd c (y + 1) = nd c y + 1 from nd_succ_new hs)
        have HRN := Lib.hid (L2.ren_new hs)
        have HFN := Lib.hid (frn_new hs)
        have HKP := Lib.hid (fun i (hi : i < nd c y) => frn_keep c hi)
        obtain ⟨m, hm⟩ : ∃ m, nd c y = m := ⟨_, rfl⟩
        rw [hm] at hnd HND HRN HFN HKP O2 HBK ⊢
        clear h1 hs IX hm
        have O3 := Lib.hid (O2.out.congr (g := fun k => ((frn c (y + 1) k : Nat) : Int)) fun i hi => by rw [HKP.out i hi])
        have HFN' := Lib.hid (show ((frn c (y + 1) m : Nat) : Int) = (y : Int) by rw [HFN.out])
        have hbs : w.heap.size + 2 ≤ w2.heap.size := S2.out.1
        go_wp2_with (at_builtin; refine app1' _ rfl _ _ (by rfl) (w.heap.size + 2) (by rfl) O3.out (y : Int) (by rfl) HFN'.out (by omega) hbs ?_; intro v' w3 hown3 hb3 hkeep; have O4 := Lib.hid hown3; have HB3 := Lib.hid hb3; have hq : (Value.slice A' m c').ownBlock ≠ some wr.heap.size := (fun h => by have h5 := HBK.out _ h; omega); have Y3 := Lib.hid (show w3.cell? ⟨wr.heap.size, 0, none⟩ = some (.int .i64 (y : Int)) from (World.cell?_of_block (w := w2) (hkeep wr.heap.size n1 hq)).trans Y2.out.1); clear hq; clear hown3 hb3 hkeep; have n0' := Y3.out; have R3 := Lib.hid (show L2.Row w3 (w.heap.size + 1) H (fun j => if j < y then ren c j else 0) from R2.out.below HB3.out (by omega)); have r0' := R3.out.cell hlt; rw [if_neg (by omega)] at r0'; have r1' := R3.out.free y; have r2' := R3.out.lt)
        refine ⟨⟨y + 1, by omega, by go_num, ?_, ?_, ?_, ?_, ?_⟩, by simp [intOf]; omega⟩
        · rw [HND.out]
          exact O4.out.far (by simp) _
        · refine (R3.out.set_ y (m : Int)).congr fun j hj => ?_
          by_cases e : j = y
          · subst e; rw [if_pos rfl, if_pos (by omega), HRN.out]
          · rw [if_neg e]
            by_cases h : j < y
            · rw [if_pos h, if_pos (by omega)]
            · rw [if_neg h, if_neg (by omega)]
        · exact (B2.out.below HB3.out (by omega)).far (by simp) _
        · show _ ≤ _
          have := HB3.out.size
          have := S2.out.1
          simp [World.setCell]; omega
        · exact (L2'.out.trans (HB3.out.mono (by omega))).setCell (by simp) _
    · have e : y = H := by omega
      subst e
      obtain ⟨A', c', rfl, _, hfr⟩ := hown.out
      have HF := Lib.hid hfr
      have HB := Lib.hid hbel
      clear hown hfr hbel
      go_wp2
      refine bodyPost_ret (v := .tuple #[.slice (some ⟨w.heap.size + 1, 0, none⟩) y y, .slice A' (nd c y) c']) (by simp [results, Try.results52, go_sem]) rfl ⟨w.heap.size + 1, A', c', rfl, by omega, ?_, ?_, HB.out⟩
      · exact hrow.out.congr fun j hj => by rw [if_pos hj]
      · intro h
        obtain ⟨q, e, h1, h2⟩ := HF.out h
        exact ⟨q, e, by omega, h2⟩
end Go.Proofs.Ytbafhdinalapoaa
