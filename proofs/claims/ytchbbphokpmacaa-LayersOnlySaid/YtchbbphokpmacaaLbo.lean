/- Sets as lists; Only of a set of numbers. -/
import Derived.Test.YtchbbphokpmacaaLba
import Derived.Test.YtchbbphokpmacaaLon
namespace Go.Proofs.Ytchbbphokpmacaa
open Go.RowKit
set_option maxRecDepth 100000
set_option linter.unusedVariables false
set_option linter.unusedSimpArgs false

/-- A set of numbers as a list. -/
def setL (m : Nat) (s : Nat → Int) : List Nat := (List.range m).map fun i => (s i).toNat
theorem setL_len (m : Nat) (s : Nat → Int) : (setL m s).length = m := by unfold setL; simp
theorem setL_at {N m : Nat} {s : Nat → Int} (h : setB N m s = true) {i : Nat} (hi : i < m) : lf (setL m s) i = s i := by
  obtain ⟨a, ha, e⟩ := setB_at h hi
  unfold lf setL
  rw [List.getD_eq_getElem?_getD, List.getElem?_map, List.getElem?_range hi]
  simp [e]
theorem setL_ll {N m : Nat} {s : Nat → Int} {w : World} {E : Option Addr} (h : setB N m s = true) (hs : L2.Holds w w.heap.size E m s) : LL w E (setL m s) := by
  intro h0
  rw [setL_len] at h0
  obtain ⟨b, o, e, h1, h2⟩ := hs h0
  refine ⟨b, o, e, h1, fun i hi => ?_⟩
  rw [setL_len] at hi
  rw [h2 i hi, setL_at h hi]
theorem setL_set {N m : Nat} {s : Nat → Int} (h : setB N m s = true) : setB N (setL m s).length (lf (setL m s)) = true := by
  rw [setL_len]
  have h' := h
  unfold setB at h ⊢
  rw [decide_eq_true_iff] at h ⊢
  intro i hi
  rw [setL_at h' hi]
  refine ⟨(h i hi).1, fun h0 => ?_⟩
  rw [setL_at h' (by omega)]
  exact (h i hi).2 h0
theorem setL_lt {N m : Nat} {s : Nat → Int} (h : setB N m s = true) : ∀ b, b ∈ setL m s → b < N := by
  intro b hb
  unfold setL at hb
  rw [List.mem_map] at hb
  obtain ⟨i, hi, e⟩ := hb
  rw [List.mem_range] at hi
  obtain ⟨a, ha, e2⟩ := setB_at h hi
  rw [e2, Int.toNat_natCast] at e
  omega
theorem lens (W : Nat) (l : List Nat) : (lEn W l).length + (lPi W l).length = l.length := by
  unfold lEn lPi
  rw [List.length_map]
  exact fil_len _ l
theorem onF_not (W : Nat) (g : Nat → Bool) (l1 l2 : List Nat) (k : Nat) : onF W (fun i => !g i) l1 l2 k = !onF W g l1 l2 k := rfl
theorem only_short (W H : Nat) (A : Option Addr) (c : Nat) (g : Nat → Bool) (E : Option Addr) (m d : Nat) (s : Nat → Int) (w : World) (hg : Holds w w.heap.size A (W * H) g) (hW0 : 1 ≤ W) (hW : W ≤ 64) (hH0 : 1 ≤ H) (hH : H ≤ 64) (hr : L2.Holds w w.heap.size E m s) (hs : setB (W + H) m s = true)
    (h0 : (lEn W (setL m s)).length = 0 ∨ (lPi W (setL m s)).length = 0) :
    Calls Try.prog 44 #[.agg #[.int .i64 (W : Nat), .int .i64 (H : Nat), .slice A (W * H) c], .slice E m d] w (ErrGrid w 22) := by
  have hm := setB_len hs
  have h9 := ponly_short W H A c g (setL m s) E d w hg hW0 hW hH0 hH (by rw [setL_len]; omega) (setL_ll hs hr) (fun b hb => by have := setL_lt hs b hb; omega) (setL_set hs) h0
  rwa [setL_len] at h9
theorem only_ok (W H : Nat) (A : Option Addr) (c : Nat) (g : Nat → Bool) (E : Option Addr) (m d : Nat) (s : Nat → Int) (w : World) (hg : Holds w w.heap.size A (W * H) g) (hW0 : 1 ≤ W) (hW : W ≤ 64) (hH0 : 1 ≤ H) (hH : H ≤ 64) (hr : L2.Holds w w.heap.size E m s) (hs : setB (W + H) m s = true)
    (h1 : 0 < (lEn W (setL m s)).length) (h2 : 0 < (lPi W (setL m s)).length) :
    Calls Try.prog 44 #[.agg #[.int .i64 (W : Nat), .int .i64 (H : Nat), .slice A (W * H) c], .slice E m d] w (OkG w (lEn W (setL m s)).length (lPi W (setL m s)).length (onF W g (lEn W (setL m s)) (lPi W (setL m s)))) := by
  have hm := setB_len hs
  have h9 := ponly_n W H A c g (setL m s) E d w hg hW0 hW hH0 hH (by rw [setL_len]; omega) (setL_ll hs hr) (fun b hb => by have := setL_lt hs b hb; omega) (setL_lt hs) (setL_set hs) h1 h2
  rwa [setL_len] at h9
end Go.Proofs.Ytchbbphokpmacaa
