/- PictureChoices: what it leans on. -/
import Derived.Test.YtmcdfnhpaneanaaPex
import Derived.Test.YtmcdfnhpaneanaaPcg
import Derived.Test.YtmcdfnhpaneanaaRfr
namespace Go.Proofs.Ytmcdfnhpaneanaa
open Go.RowKit
set_option maxRecDepth 100000
set_option linter.unusedVariables false
set_option linter.unusedSimpArgs false

set_option maxHeartbeats 800000 in
theorem rth_chk2 (W H : Int) (A B C : Option Addr) (n c m d k e : Nat) (a b : Nat → Int) (w : World) {z : Int} (hz : chk W H n = z) (hne : z ≠ 0) : Calls Try.prog 36 #[.agg #[.int .i64 W, .int .i64 H, .slice A n c], .slice B m d, .slice C k e] w fun e w' => e = .returned (.int .i64 z) ∧ Below w.heap.size w w' := by
  have HK := Lib.hid (fun u => rchk_all W H A n c u)
  rw [hz] at HK
  have y1 : (z != 0) = true := by rw [bne_iff_ne]; exact hne
  clear hz hne
  have LB0 := Lib.hid (Below.refl w.heap.size w)
  have X1 := Box.new w W H (.slice A n c)
  have X1 := Lib.hid X1
  have LB0 := Lib.hid (LB0.out.alloc LB0.out.size (.cells #[.int .i64 W, .int .i64 H, .slice A n c] 27))
  go_enter Try.func36, Try.ntmps36
  go_upto_region 1 with (fail)
  generalize w.alloc (.cells #[.int .i64 W, .int .i64 H, .slice A n c] 27) = w0 at *
  obtain ⟨q0, q1, q2, q3, q4, q5, q6⟩ := X1.out.all
  go_wp2_with fail
  clear q0 q1 q2 q3 q4 q5 q6
  with_reducible refine Calls.mono (HK.out _) ?_
  rintro e w1 ⟨rfl, hb⟩
  have LB1 := Lib.hid (LB0.out.trans (hb.mono LB0.out.size))
  have X1 := Lib.hid (X1.out.below hb X1.out.lt)
  clear hb LB0 
  obtain ⟨q0, q1, q2, q3, q4, q5, q6⟩ := X1.out.all
  go_wp2_with fail
  clear q0 q1 q2 q3 q4 q5 q6
  with_reducible refine Calls.mono (HK.out _) ?_
  rintro e w2 ⟨rfl, hb⟩
  have LB2 := Lib.hid (LB1.out.trans (hb.mono LB1.out.size))
  have X1 := Lib.hid (X1.out.below hb X1.out.lt)
  clear hb LB1 
  obtain ⟨q0, q1, q2, q3, q4, q5, q6⟩ := X1.out.all
  go_wp2
  go_ret
  exact ⟨rfl, LB2.out⟩
theorem rth_all (W H : Int) (A B C : Option Addr) (n c m d k e : Nat) (a b : Nat → Int) (w : World) (ha : L2.Holds w w.heap.size B m a) (hb1 : L2.Holds w w.heap.size C k b) :
    Calls Try.prog 36 #[.agg #[.int .i64 W, .int .i64 H, .slice A n c], .slice B m d, .slice C k e] w fun e w' => e = .returned (.int .i64 (thE W H n m k a b)) ∧ Below w.heap.size w w' := by
  by_cases h1 : chk W H n = 0
  · obtain ⟨a1, a2, a3, a4, a5⟩ := chk_ok h1
    have hn : n ≤ 4200 := by
      have h := (mul_pos_bd a1 a2 a3 a4).2
      omega
    by_cases h2 : (m : Int) = W
    · by_cases h3 : (k : Int) = H
      · exact rth_any W H A B C n c m d k e a b w hn (by omega) (by omega) ha hb1
      · rw [thE_cnt h1 (fun q => h3 q.2)]
        exact rth_cnt2 W H A B C n c m d k e a b w hn h1 h2 h3
    · rw [thE_cnt h1 (fun q => h2 q.1)]
      exact rth_cnt1 W H A B C n c m d k e a b w hn h1 h2
  · rw [thE_chk rfl h1]
    exact rth_chk2 W H A B C n c m d k e a b w rfl h1
set_option maxHeartbeats 800000 in
theorem has_yes (A : Option Addr) (n c : Nat) (f : Nat → Int) (v : Int) (w : World) (hn : n ≤ 64) (hf : L2.Holds w w.heap.size A n f) (hv : ∃ t, t < n ∧ f t = v) : Calls Try.prog 42 #[.slice A n c, .int .i64 v] w fun e w' => e = .returned (.bool true) ∧ Below w.heap.size w w' := by
  have HF := Lib.hid (fun u (hb : Below w.heap.size w u) => hf.below hb)
  have HV := Lib.hid hv
  clear hf hv
  have LB0 := Lib.hid (Below.refl w.heap.size w)
  go_enter Try.func42, Try.ntmps42
  go_wp2
  go_loopw [5] (fun i wr => ∃ j : Nat, j ≤ n ∧ i = .int .i64 (j : Nat) ∧ Hid (∀ i, i < j → f i ≠ v) ∧ Hid (Below w.heap.size w wr)) (fun i _ => n - (intOf i).toNat)
  case atStart => exact ⟨0, Nat.zero_le _, rfl, Lib.hid (fun i h => absurd h (by omega)), LB0⟩
  case round =>
    obtain ⟨j, hj, rfl, HN, HB⟩ := hrel
    by_cases hlt : j < n
    · have y1 : (j : Int) < (n : Int) := by omega
      have y2 : (0 : Int) ≤ (j : Int) := by omega
      obtain ⟨ba, oa, ea, la, ca⟩ := (HF.out _ HB.out) (by omega)
      have c0 := ca j hlt
      clear ca la
      have HS := Lib.hid (fun (h : f j ≠ v) => (show ∀ i, i < j + 1 → f i ≠ v from fun i hi => if e : i = j then by rw [e]; exact h else HN.out i (by omega)))
      obtain ⟨fv, hfv⟩ : ∃ z, f j = z := ⟨_, rfl⟩
      rw [hfv] at c0 HS
      clear hfv
      subst ea
      by_cases h1 : fv = v
      · have y3 : (fv == v) = true := by simp [h1]
        clear h1
        go_wp2
        go_ret
        exact ⟨rfl, HB.out⟩
      · have y3 : (fv == v) = false := by simp [h1]
        have HG := Lib.hid (HS.out h1)
        clear h1
        go_wp2
        go_roundw
        case rel => exact ⟨j + 1, by omega, by go_num, HG, HB⟩
        case measure => simp [intOf]; omega
    · obtain ⟨t, ht, he⟩ := HV.out
      exact absurd he (HN.out t (by omega))
theorem lf_get {l : List Nat} {i : Nat} (h : i < l.length) : lf l i = ((l[i] : Nat) : Int) := by
  unfold lf
  rw [List.getD_eq_getElem?_getD, List.getElem?_eq_getElem h]
  rfl
theorem chl_has {W H t : Nat} {f : Nat → Int} {v : Int} (h : Cho W H f t v) (v0 : 0 ≤ v) (v1 : v ≤ 15) : ∃ i, i < (chl W H f t 16).length ∧ lf (chl W H f t 16) i = v := by
  obtain ⟨n, rfl⟩ := Int.eq_ofNat_of_zero_le v0
  have hm : n ∈ chl W H f t 16 := List.mem_filter.2 ⟨List.mem_range.2 (by omega), cho_yes h⟩
  obtain ⟨i, hi, e⟩ := List.mem_iff_getElem.1 hm
  exact ⟨i, hi, by rw [lf_get hi, e]⟩
theorem chl_at {W H t i : Nat} {f : Nat → Int} (h : i < (chl W H f t 16).length) : Cho W H f t (lf (chl W H f t 16) i) := by
  rw [lf_get h]
  exact cho_iff.1 (List.mem_filter.1 (List.getElem_mem h)).2
theorem chl_lt {W H t i j : Nat} {f : Nat → Int} (hij : i < j) (h : j < (chl W H f t 16).length) : lf (chl W H f t 16) i < lf (chl W H f t 16) j := by
  have hp : List.Pairwise (· < ·) (chl W H f t 16) := List.Pairwise.filter _ List.pairwise_lt_range
  rw [lf_get h, lf_get (Nat.lt_trans hij h)]
  exact Int.ofNat_lt.2 ((List.pairwise_iff_getElem.1 hp) i j (Nat.lt_trans hij h) h hij)
theorem chl_fst {W H : Nat} {f p : Nat → Int} (W0 : 1 ≤ W) (h : Fst W H f p) : lf (chl W H f 0 16) 0 = p 0 := by
  have hc := h.cols 0 (by omega)
  obtain ⟨i, hi, e⟩ := chl_has ⟨p, h.fits, h.cols, rfl⟩ hc.1 hc.2
  have h0 : 0 < (chl W H f 0 16).length := by omega
  obtain ⟨q, hq, hqc, e2⟩ := chl_at (W := W) (H := H) (t := 0) (f := f) h0
  have h1 : p 0 ≤ q 0 := by
    rcases h.lex q hq hqc with h2 | ⟨s, hs, hj, hl⟩
    · rw [h2 0 (by omega)]; exact Int.le_refl _
    · by_cases hs0 : s = 0
      · rw [hs0] at hl; exact Int.le_of_lt hl
      · rw [hj 0 (by omega)]; exact Int.le_refl _
  by_cases hi0 : i = 0
  · rw [hi0] at e; exact e
  · have h3 := chl_lt (W := W) (H := H) (t := 0) (f := f) (i := 0) (j := i) (by omega) hi
    omega
theorem own_fits {W H : Nat} {a b : Nat → Int} {s : Nat → Bool} (hx : fine W a = true) (hy : fine H b = true) : Fits W H (shF W s a b) (fun i => if i < W then a i else b (i - W)) ∧ Cols (W + H) (fun i => if i < W then a i else b (i - W)) := by
  refine ⟨fun x y hx hy => ?_, fun u hu => ?_⟩
  · unfold shF
    rw [(co y hx).1, (co y hx).2]
    show (if s (y * W + x) = true then a x else b y) = (if x < W then a x else b (x - W)) ∨ (if s (y * W + x) = true then a x else b y) = (if W + y < W then a (W + y) else b (W + y - W))
    rw [if_pos hx, if_neg (show ¬ W + y < W by omega), show W + y - W = y by omega]
    cases s (y * W + x) <;> simp
  · show 0 ≤ (if u < W then a u else b (u - W)) ∧ (if u < W then a u else b (u - W)) ≤ 15
    by_cases h : u < W
    · rw [if_pos h]; exact fine_of hx _ h
    · rw [if_neg h]; exact fine_of hy (u - W) (by omega)
theorem front_fine {W H : Nat} {a b : Nat → Int} {s : Nat → Bool} (W0 : 1 ≤ W) (hx : fine W a = true) (hy : fine H b = true) : fine (W * H) (shF W s a b) = true := fine_yes fun i hi => by
  unfold shF
  cases s i
  · exact fine_of hy _ ((Nat.div_lt_iff_lt_mul W0).2 (by rw [Nat.mul_comm]; exact hi))
  · exact fine_of hx _ (Nat.mod_lt _ W0)
end Go.Proofs.Ytmcdfnhpaneanaa
