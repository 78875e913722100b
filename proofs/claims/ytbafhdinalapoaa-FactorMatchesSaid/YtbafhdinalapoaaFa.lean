/- The program's FromLift where it makes a draft; how many kinds the lifts of a draft have. -/
import Derived.Test.YtbafhdinalapoaaKa
import Derived.Test.YtbafhdinalapoaaDb

/- The program's FromLift where it makes a draft. -/
namespace Go.Proofs.Ytbafhdinalapoaa
open Go.RowKit
set_option linter.unusedVariables false
set_option linter.unusedSimpArgs false
set_option maxRecDepth 100000

open L2 (fst nd ren nd_le)
set_option maxHeartbeats 800000 in
theorem fl_clo {w : World} {gb gf W H b o cap K c' : Nat} {f : Nat → Bool} {F : Nat → Nat} {A' : Option Addr} (hb : Box w gb W H (.slice (some ⟨b, o, none⟩) (W * H) cap)) (hc : Holds w w.heap.size (some ⟨b, o, none⟩) (W * H) f)
    (hx : w.cell? ⟨gf, 0, none⟩ = some (.slice A' K c')) (hg : gf < w.heap.size) (hf : L2.Holds w w.heap.size A' K (fun k => (F k : Nat))) (hF : ∀ k, k < K → F k < H) (hW : W ≤ 64) (hH : H ≤ 64) (hK : K ≤ 64) :
    Gives 56 #[.pointer (some ⟨gb, 0, none⟩), .pointer (some ⟨gf, 0, none⟩)] w K W (fun t s => f (F t * W + s)) := by
  intro w1 t s hbel ht hs
  have hb1 := hb.below hbel hb.lt
  obtain ⟨q0, q1, q2, q3, q4, q5, q6⟩ := hb1.all
  have x1 := (hbel.cell (p := ⟨gf, 0, none⟩) hg).trans hx
  have hc1 := Lib.hid ((hc.below hbel).more hbel.size)
  obtain ⟨q, r, rfl, hq, hcell⟩ := (hf.below hbel) (by omega)
  have c1 := hcell t ht
  have hFt := hF t ht
  have HC := Lib.hid (fun w' (hb' : Below w1.heap.size w1 w') => dcell_nat W H (some ⟨b, o, none⟩) cap s (F t) f w' ((hc1.out.below hb').more hb'.size) hW hH s (F t) rfl rfl hs hFt)
  have y1 : (0 : Int) ≤ (t : Int) := by omega
  have y2 : (t : Int) < (K : Int) := by omega
  clear hcell hb hc hf hbel hb1
  obtain ⟨z, hz⟩ : ∃ z, F t = z := ⟨_, rfl⟩
  rw [hz] at *
  go_enter Try.func56, Try.ntmps56
  go_wp2
  go_still_tail 6, (by kernel_rfl)
  change wpList _ _ _ _ _ w1.drew
  go_wp2_with (go_at_call 57; refine (HC.out _ ?_).mono ?_; exact (Below.refl _ _).drew; rintro e w2 ⟨rfl, hb2⟩)
  go_ret
  exact ⟨rfl, (Below.refl _ _).drew.trans hb2⟩

/-- The draft that FromLift makes. -/
def flp (W H n : Nat) (th : Nat → Int) (f : Nat → Bool) : PD := ⟨W, nd (rc W f) H, n, H, fun i => (th i).toNat, fun y => (ren (rc W f) y).toNat, fun t s => f (frn (rc W f) H t * W + s)⟩
theorem nd_pos (c : Nat → Int) (H : Nat) (h : 1 ≤ H) : 1 ≤ nd c H := by
  have h0 : ¬ fst c (c 0) 0 < 0 := by omega
  have := nd_mono c h
  rw [nd_succ_new h0] at this
  omega
theorem flp_ok {W H n : Nat} {th : Nat → Int} {f : Nat → Bool} (hW0 : 1 ≤ W) (hW : W ≤ 40) (hH0 : 1 ≤ H) (hH : H ≤ 64) (hK : nd (rc W f) H ≤ 40) (hn : n ≤ 64) (hw : wi n th W = true) : (flp W H n th f).Ok := by
  unfold wi at hw
  simp only [decide_eq_true_eq] at hw
  refine ⟨hW0, hW, nd_pos _ _ hH0, hK, by show 1 ≤ n; omega, hn, hH0, hH, fun i hi => ?_, fun y hy => ?_⟩
  · have := hw.2 i hi
    show (th i).toNat < W
    omega
  · obtain ⟨k, h1, h2, _⟩ := ren_at (rc W f) H y hy
    show (ren (rc W f) y).toNat < nd (rc W f) H
    rw [h1]
    omega

set_option maxHeartbeats 6400000 in
theorem fromlift_ok (A : Option Addr) (n c : Nat) (th : Nat → Int) (W H b o cap : Nat) (f : Nat → Bool) (w : World) (ht : L2.Holds w w.heap.size A n th) (hr : Holds w w.heap.size (some ⟨b, o, none⟩) (W * H) f) (hcap : W * H ≤ cap)
    (hW0 : 1 ≤ W) (hW : W ≤ 40) (hH0 : 1 ≤ H) (hH : H ≤ 64) (hK : nd (rc W f) H ≤ 40) (hn : n ≤ 64) (hw : wi n th W = true) :
    Calls Try.prog 13 #[.slice A n c, .agg #[.int .i64 W, .int .i64 H, .slice (some ⟨b, o, none⟩) (W * H) cap]] w (OkDr w (flp W H n th f)) := by
  have hmf := mk_fn
  have HT := Lib.hid ht
  have HR := Lib.hid hr
  have HCP := Lib.hid hcap
  have HW := Lib.hid hw
  have hn0 : 0 < n := by unfold wi at hw; simp only [decide_eq_true_eq] at hw; exact hw.1
  have hwi := Lib.hid (show ∀ i, i < n → 0 ≤ th i from fun i hi => by unfold wi at hw; simp only [decide_eq_true_eq] at hw; exact (hw.2 i hi).1)
  obtain ⟨K, hKe⟩ : ∃ K, nd (rc W f) H = K := ⟨_, rfl⟩
  have hK0 := nd_pos (rc W f) H hH0
  rw [hKe] at hK hK0
  have HKE := Lib.hid hKe
  have X0 := Lib.hid ((Box.new w W H (.slice (some ⟨b, o, none⟩) (W * H) cap)).alloc (.cells #[.int .i64 0, .int .i64 0, .slice none 0 0, .slice none 0 0, .int .i64 0, .int .i64 0, .slice none 0 0] 30))
  have Z0 := Lib.hid (DBox.new (w.alloc (.cells #[.int .i64 W, .int .i64 H, .slice (some ⟨b, o, none⟩) (W * H) cap] 24)) Dr.zero)
  have L0 := Lib.hid (show Below w.heap.size w ((w.alloc (.cells #[.int .i64 W, .int .i64 H, .slice (some ⟨b, o, none⟩) (W * H) cap] 24)).alloc (.cells #[.int .i64 0, .int .i64 0, .slice none 0 0, .slice none 0 0, .int .i64 0, .int .i64 0, .slice none 0 0] 30)) from ((Below.refl _ _).alloc (Nat.le_refl _) _).alloc (by simp) _)
  simp only [World.size_alloc] at Z0
  have Z0' : Hid (DBox ((w.alloc (.cells #[.int .i64 W, .int .i64 H, .slice (some ⟨b, o, none⟩) (W * H) cap] 24)).alloc (.cells #[.int .i64 0, .int .i64 0, .slice none 0 0, .slice none 0 0, .int .i64 0, .int .i64 0, .slice none 0 0] 30)) (w.heap.size + 1) Dr.zero) := Z0
  have S0 := Lib.hid (show ((w.alloc (.cells #[.int .i64 W, .int .i64 H, .slice (some ⟨b, o, none⟩) (W * H) cap] 24)).alloc (.cells #[.int .i64 0, .int .i64 0, .slice none 0 0, .slice none 0 0, .int .i64 0, .int .i64 0, .slice none 0 0] 30)).heap.size = w.heap.size + 2 from by simp)
  clear Z0 ht hr hcap hw hKe
  go_enter Try.func13, Try.ntmps13
  go_wp2_with fail
  generalize (w.alloc (.cells #[.int .i64 W, .int .i64 H, .slice (some ⟨b, o, none⟩) (W * H) cap] 24)).alloc (.cells #[.int .i64 0, .int .i64 0, .slice none 0 0, .slice none 0 0, .int .i64 0, .int .i64 0, .slice none 0 0] 30) = w0 at *
  have hN : W * H ≤ 4200 := by have := Nat.mul_le_mul (show W ≤ 64 by omega) hH; omega
  refine (gchk_err hN (chk_zero hW0 (by omega) hH0 hH) w0).mono ?_
  rintro e w1 ⟨rfl, hb⟩
  have X1 := Lib.hid (X0.out.below hb X0.out.lt)
  have Z1 := Lib.hid (Z0'.out.next hb)
  have L1 := Lib.hid (L0.out.trans (hb.mono L0.out.size))
  have S1 := Lib.hid (show w.heap.size + 2 ≤ w1.heap.size from by have := hb.size; have := S0.out; omega)
  clear hb X0 Z0' L0 S0
  obtain ⟨q0, q1, q2, q3, q4, q5, q6⟩ := X1.out.all
  go_wp2_with fail
  clear q0 q1 q2 q3 q4 q5 q6
  refine (kinds_any W H b o cap f w.heap.size w1 (HR.out.below L1.out) L1.out.size HCP.out hW0 (by omega) hH0 hH).mono ?_
  rintro e w2 ⟨kk, A', c', rfl, hkk, hrk, hfr, hb⟩
  rw [HKE.out] at hfr ⊢
  have X2 := Lib.hid ((X1.out.below hb X1.out.lt).alloc (.cells #[.slice A' K c'] 28))
  have Z2 := Lib.hid ((Z1.out.next hb).alloc (.cells #[.slice A' K c'] 28))
  have L2' := Lib.hid ((L1.out.trans (hb.mono L1.out.size)).alloc (Nat.le_trans L1.out.size hb.size) (.cells #[.slice A' K c'] 28))
  have RK := Lib.hid (hrk.alloc (.cells #[.slice A' K c'] 28))
  have FR := Lib.hid (show ∃ q, A' = some ⟨q, 0, none⟩ ∧ w1.heap.size ≤ q ∧ L2.Row (w2.alloc (.cells #[.slice A' K c'] 28)) q K (fun k => (frn (rc W f) H k : Nat)) from by
    obtain ⟨q, e, h1, h2⟩ := hfr (by omega)
    exact ⟨q, e, h1, h2.alloc _⟩)
  have V8 := Lib.hid (show (w2.alloc (.cells #[.slice A' K c'] 28)).heap[w2.heap.size]? = some (.cells #[.slice A' K c'] 28) from by
    show (w2.heap.push _)[w2.heap.size]? = _
    rw [Array.getElem?_push, if_pos rfl])
  have S2 := Lib.hid (show w.heap.size + 2 ≤ w2.heap.size ∧ (w2.alloc (.cells #[.slice A' K c'] 28)).heap.size = w2.heap.size + 1 ∧ w.heap.size + 2 ≤ kk from ⟨by have := hb.size; have := S1.out; omega, by simp, by have := S1.out; omega⟩)
  have S1' := Lib.hid S1.out
  obtain ⟨q0, q1, q2, q3, q4, q5, q6⟩ := (X1.out.below hb X1.out.lt).all
  have d1 : decide (64 < (n : Int)) = false := by simp; omega
  have d2 : decide (40 < (W : Int)) = false := by simp; omega
  have d3 : decide (40 < (K : Int)) = false := by simp; omega
  clear hb hkk hrk hfr X1 Z1 L1 S1
  go_wp2_with fail
  clear q0 q1 q2 q3 q4 q5 q6
  generalize w2.alloc (.cells #[.slice A' K c'] 28) = w3 at *
  have hh := hasn_any A n c th W w.heap.size w3 (by omega) (HT.out.below L2'.out)
  rw [HW.out] at hh
  refine hh.mono ?_
  rintro e w3' ⟨rfl, rfl⟩
  obtain ⟨q0, q1, q2, q3, q4, q5, q6⟩ := X2.out.all
  have v8 : w3.cell? ⟨w2.heap.size, 0, none⟩ = some (.slice A' K c') := by have := V8.out; simp [World.cell?, this]
  have HS : Hid (∀ w', Below (w.heap.size + 1) w3 w' → w'.heap[w2.heap.size]? = w3.heap[w2.heap.size]? → w'.cell? ⟨w.heap.size, 0, none⟩ = some (.int .i64 W) ∧ w'.cell? ⟨w2.heap.size, 0, none⟩ = some (.slice A' K c')) := Lib.hid (fun w' h h' =>
    ⟨(X2.out.below h (by omega)).c0, (World.cell?_of_block (w := w3) h').trans v8⟩)
  have hM : w.heap.size + 1 ≤ w3.heap.size := by have := S2.out; omega
  have h8 : w2.heap.size < w3.heap.size := by have := S2.out; omega
  have h9 : w.heap.size + 1 ≠ w2.heap.size := by have := S2.out; omega
  have HTh := Lib.hid (fun v (h : Below w3.heap.size w3 v) => clone_any A n c th w.heap.size v hn0 (by omega) (HT.out.below (L2'.out.trans (h.mono L2'.out.size))))
  have HBd := Lib.hid (fun v (h : Below w3.heap.size w3 v) => dbuild_any K W (by omega) (by omega) (by omega) (by omega) 56 #[.pointer (some ⟨w.heap.size, 0, none⟩), .pointer (some ⟨w2.heap.size, 0, none⟩)] _ v
    (fl_clo (F := frn (rc W f) H) (X2.out.below h X2.out.lt) (((HR.out.below L2'.out).below (h.mono L2'.out.size)).more (Nat.le_trans L2'.out.size h.size)) ((World.cell?_of_block (w := w3) (h.block _ h8)).trans v8) (Nat.lt_of_lt_of_le h8 h.size)
      (by
        obtain ⟨q, e, h1, h2⟩ := FR.out
        rw [e]
        exact (h2.below h h2.lt).holds (h2.below h h2.lt).lt) (fun k hk => (frn_spec (rc W f) H k (by rw [HKE.out]; exact hk)).1) (by omega) (by omega) (by omega)) (Go.Proofs.enters_of Try.func56 (by kernel_rfl) rfl))
  have hbx : Below w3.heap.size w3 w3.drew := (Below.refl _ _).drew
  have hSu := HS.out _ (hbx.mono hM) (hbx.block w2.heap.size h8)
  clear v8
  go_wp2
  clear q0 q1 q2 q3 q4 q5 q6
  go_region_held3 (fun w' => w'.cell? ⟨w.heap.size, 0, none⟩ = some (.int .i64 W) ∧ w'.cell? ⟨w2.heap.size, 0, none⟩ = some (.slice A' K c'))
    (first
      | with_reducible exact hSu
      | (have hne : w2.heap.size ≠ w.heap.size + 1 := Ne.symm h9
         have hm : Below (w.heap.size + 1) w3 u := hbx.mono hM
         have hk := hbx.block w2.heap.size h8
         exact HS.out _ (set7_keep (r := w.heap.size + 1) (Nat.le_refl _) hm) ((set7_block hne).trans hk)))
    (first
      | (go_at_call 54
         refine (HTh.out _ hbx).mono ?_
         rintro e u ⟨ka, ca, rfl, hka, hra, hbu⟩
         have hka : w3.heap.size ≤ ka := Nat.le_trans hbx.size hka
         have hbx := hbx.trans (hbu.mono hbx.size)
         have hSu := HS.out _ (hbx.mono hM) (hbx.block w2.heap.size h8))
      | (go_at_call 55
         refine (HBd.out _ hbx).mono ?_
         rintro e u ⟨kb, rfl, hkb, hrb, hbu⟩
         have hra := hra.below hbu hra.lt
         have hkb : w3.heap.size ≤ kb := Nat.le_trans hbx.size hkb
         have hbx := hbx.trans (hbu.mono hbx.size)
         have hSu := HS.out _ (hbx.mono hM) (hbx.block w2.heap.size h8)
         obtain ⟨z0, z1, z2, z3, z4, z5, z6⟩ := (Z2.out.next hbx).frees
         have tt := (Z2.out.next hbx).all
         simp only [Dr.zero] at tt
         obtain ⟨t0, t1, t2, t3, t4, t5, t6, t7⟩ := tt))
  all_goals
    have hrows : Rows3 u (w.heap.size + 2) (flp W H n th f) ka kk kb := ⟨by have := S2.out; omega, S2.out.2.2, by have := S2.out; omega, hra.congr fun i hi => (Int.toNat_of_nonneg (hwi.out i hi)).symm, (RK.out.below hbx RK.out.lt).congr fun y hy => by
        obtain ⟨k, h1, _, _⟩ := ren_at (rc W f) H y hy
        show ren (rc W f) y = ((ren (rc W f) y).toNat : Nat)
        rw [h1]; rfl, by
        have e : (flp W H n th f).T = K := HKE.out
        have e2 : (flp W H n th f).S = W := rfl
        rw [e, e2]
        exact hrb⟩
    have HR3 := Lib.hid hrows
    have HB3 := Lib.hid (L2'.out.trans (hbx.mono L2'.out.size))
    clear hrows hra hrb hbx hbu z0 z1 z2 z3 z4 z5 z6 t7 hSu
    go_wp2
    refine bodyPost_ret (v := .tuple #[.agg #[.int .i64 W, .int .i64 K, .slice (some ⟨ka, 0, none⟩) n ca, .slice (some ⟨kk, 0, none⟩) H H, .int .i64 K, .int .i64 W, .slice (some ⟨kb, 0, none⟩) (K * W) (K * W)], .int .i64 0]) (by simp [results, Try.results13, go_sem, t0, t1, t2, t3, t4, t5, t6]) rfl ⟨ka, ca, kk, H, kb, K * W, ?_, ?_, ?_⟩
    · have e : (flp W H n th f).T = K := HKE.out
      rw [e]
      rfl
    · exact (set7_rows (by omega) HR3.out).lower (by omega)
    · exact set7_below (by omega) HB3.out
end Go.Proofs.Ytbafhdinalapoaa

/- How many kinds of rows the lifts of a draft have; what FromLift makes of them. -/
namespace Go.Proofs.Ytbafhdinalapoaa
open Go.RowKit
set_option linter.unusedVariables false
set_option linter.unusedSimpArgs false
set_option maxRecDepth 100000

open L2 (fst nd ren nd_le fst_at fst_no fst_le)
theorem seen_iff (c : Nat → Int) (x : Int) (m : Nat) : fst c x m < m ↔ ∃ j, j < m ∧ c j = x := by
  constructor
  · intro h; exact ⟨_, h, fst_at c x m h⟩
  · rintro ⟨j, hj, e⟩
    rcases Nat.lt_or_ge (fst c x m) m with h | h
    · exact h
    · exact absurd e (fst_no c x m j (by omega))
theorem nd_le_nd (c d : Nat → Int) (m : Nat) (h : ∀ y z, y < m → z < m → d y = d z → c y = c z) : nd c m ≤ nd d m := by
  induction m with
  | zero => simp [nd]
  | succ m ih =>
    have ih := ih fun y z hy hz => h y z (by omega) (by omega)
    by_cases h1 : fst d (d m) m < m
    · obtain ⟨j, hj, e⟩ := (seen_iff d _ m).1 h1
      have h2 : fst c (c m) m < m := (seen_iff c _ m).2 ⟨j, hj, h j m (by omega) (by omega) e⟩
      rw [nd_succ_old h1, nd_succ_old h2]; exact ih
    · rw [nd_succ_new h1]
      by_cases h2 : fst c (c m) m < m
      · rw [nd_succ_old h2]; omega
      · rw [nd_succ_new h2]; omega
/-- How many numbers below T are among the first m. -/
def cnt (d : Nat → Nat) (m : Nat) : Nat → Nat
  | 0 => 0
  | T + 1 => cnt d m T + if decide (∃ j, j < m ∧ d j = T) then 1 else 0
theorem cnt_le (d : Nat → Nat) (m T : Nat) : cnt d m T ≤ T := by
  induction T with
  | zero => simp [cnt]
  | succ T ih => unfold cnt; split <;> omega
theorem cnt_zero (d : Nat → Nat) (T : Nat) : cnt d 0 T = 0 := by
  induction T with
  | zero => rfl
  | succ T ih => unfold cnt; rw [ih]; simp
theorem cnt_old (d : Nat → Nat) (m T : Nat) (h : ∃ j, j < m ∧ d j = d m) : cnt d (m + 1) T = cnt d m T := by
  induction T with
  | zero => rfl
  | succ T ih =>
    unfold cnt
    rw [ih]
    have e : (∃ j, j < m + 1 ∧ d j = T) ↔ ∃ j, j < m ∧ d j = T := by
      constructor
      · rintro ⟨j, hj, e⟩
        rcases Nat.lt_succ_iff_lt_or_eq.1 hj with h1 | rfl
        · exact ⟨j, h1, e⟩
        · obtain ⟨q, hq, e2⟩ := h
          exact ⟨q, hq, e2.trans e⟩
      · rintro ⟨j, hj, e⟩; exact ⟨j, by omega, e⟩
    simp only [e]
theorem cnt_new (d : Nat → Nat) (m T : Nat) (h : ¬ ∃ j, j < m ∧ d j = d m) : cnt d (m + 1) T = cnt d m T + if d m < T then 1 else 0 := by
  induction T with
  | zero => simp [cnt]
  | succ T ih =>
    unfold cnt
    rw [ih]
    by_cases e : d m = T
    · have h1 : (∃ j, j < m + 1 ∧ d j = T) := ⟨m, by omega, e⟩
      have h2 : ¬ ∃ j, j < m ∧ d j = T := fun ⟨j, hj, e2⟩ => h ⟨j, hj, e2.trans e.symm⟩
      simp only [h1, h2, decide_true, decide_false, if_true]
      rw [if_neg (show ¬ d m < T by omega), if_pos (show d m < T + 1 by omega)]
      simp
    · have h3 : (∃ j, j < m + 1 ∧ d j = T) ↔ ∃ j, j < m ∧ d j = T := by
        constructor
        · rintro ⟨j, hj, e2⟩
          rcases Nat.lt_succ_iff_lt_or_eq.1 hj with h1 | rfl
          · exact ⟨j, h1, e2⟩
          · exact absurd e2 e
        · rintro ⟨j, hj, e2⟩; exact ⟨j, by omega, e2⟩
      simp only [h3]
      have h4 : (d m < T + 1) ↔ d m < T := by omega
      simp only [h4]
      omega
theorem nd_cnt (d : Nat → Nat) (m T : Nat) (h : ∀ j, j < m → d j < T) : nd (fun j => (d j : Nat)) m = cnt d m T := by
  induction m with
  | zero => rw [cnt_zero]; rfl
  | succ m ih =>
    have ih := ih fun j hj => h j (by omega)
    have hs := seen_iff (fun j => (d j : Int)) (d m : Nat) m
    by_cases h1 : ∃ j, j < m ∧ d j = d m
    · have h2 : fst (fun j => (d j : Int)) (d m : Nat) m < m := hs.2 (by obtain ⟨j, hj, e⟩ := h1; exact ⟨j, hj, by show ((d j : Nat) : Int) = _; rw [e]⟩)
      rw [cnt_old d m T h1, nd_succ_old (c := fun j => (d j : Int)) h2, ih]
    · have h2 : ¬ fst (fun j => (d j : Int)) (d m : Nat) m < m := fun h => h1 (by obtain ⟨j, hj, e⟩ := hs.1 h; exact ⟨j, hj, by have e : ((d j : Nat) : Int) = ((d m : Nat) : Int) := e; omega⟩)
      rw [cnt_new d m T h1, nd_succ_new (c := fun j => (d j : Int)) h2, ih, if_pos (h m (by omega))]
/-- The lifts of a draft. -/
def PD.lf (P : PD) (i : Nat) : Bool := P.L (P.G (i / P.S)) (i % P.S)
theorem PD.lf_at (P : PD) {y s : Nat} (hs : s < P.S) : P.lf (y * P.S + s) = P.L (P.G y) s := by
  unfold PD.lf
  have h1 : (y * P.S + s) % P.S = s := by rw [Nat.mul_comm, Nat.mul_add_mod, Nat.mod_eq_of_lt hs]
  have h2 : (y * P.S + s) / P.S = y := by rw [Nat.mul_comm, Nat.mul_add_div (by omega), Nat.div_eq_of_lt hs]; omega
  rw [h1, h2]
theorem kinds_le {P : PD} (hP : P.Ok) : nd (rc P.S P.lf) P.m ≤ P.T := by
  refine Nat.le_trans (nd_le_nd _ (fun j => (P.G j : Nat)) P.m fun y z _ _ e => ?_) ?_
  · rw [rc_eq]
    unfold rsm
    rw [decide_eq_true_iff]
    intro i hi
    have e : P.G y = P.G z := by have e : ((P.G y : Nat) : Int) = ((P.G z : Nat) : Int) := e; omega
    rw [P.lf_at hi, P.lf_at hi, e]
  · rw [nd_cnt P.G P.m P.T hP.g]
    exact cnt_le _ _ _
/-- What FromLift makes of the threading and the lifts of a draft. -/
def PD.made (P : PD) (th : Nat → Int) : PD := flp P.S P.m P.n th P.lf
theorem wi_of {P : PD} (hP : P.Ok) {th : Nat → Int} (h : ∀ i, i < P.n → th i = P.F i) : wi P.n th P.S = true := by
  unfold wi
  rw [decide_eq_true_iff]
  have := hP.n0
  exact ⟨by omega, fun i hi => by have := hP.f i hi; rw [h i hi]; omega⟩
theorem made_ok {P : PD} (hP : P.Ok) {th : Nat → Int} (h : ∀ i, i < P.n → th i = P.F i) : (P.made th).Ok :=
  flp_ok hP.s0 hP.s1 hP.m0 hP.m1 (Nat.le_trans (kinds_le hP) hP.t1) hP.n1 (wi_of hP h)
theorem made_row {P : PD} (th : Nat → Int) {y s : Nat} (hy : y < P.m) (hs : s < P.S) : (P.made th).L ((P.made th).G y) s = P.L (P.G y) s := by
  obtain ⟨k, h1, h2, h3⟩ := ren_at (rc P.S P.lf) P.m y hy
  show P.lf (frn (rc P.S P.lf) P.m (ren (rc P.S P.lf) y).toNat * P.S + s) = _
  rw [h1]
  have h4 := (rc_eq _ _ _ _).1 h3
  unfold rsm at h4
  rw [decide_eq_true_iff] at h4
  have h5 := h4 s hs
  rw [Int.toNat_natCast, h5, P.lf_at hs]
theorem made_weave {P : PD} (hP : P.Ok) {th : Nat → Int} (h : ∀ i, i < P.n → th i = P.F i) (i : Nat) (hi : i < P.n * P.m) :
    (P.made th).L ((P.made th).G (i / P.n)) ((P.made th).F (i % P.n)) = P.L (P.G (i / P.n)) (P.F (i % P.n)) := by
  have hn := hP.n0
  have h1 : i % P.n < P.n := Nat.mod_lt _ (by omega)
  have h2 : i / P.n < P.m := Nat.div_lt_of_lt_mul hi
  have e : (P.made th).F (i % P.n) = P.F (i % P.n) := by show (th (i % P.n)).toNat = _; rw [h _ h1]; rfl
  rw [e, made_row th h2 (hP.f _ h1)]
theorem made_lift {P : PD} (hP : P.Ok) (th : Nat → Int) (i : Nat) (hi : i < P.S * P.m) : (P.made th).L ((P.made th).G (i / P.S)) (i % P.S) = P.lf i := by
  have hs := hP.s0
  have h1 : i % P.S < P.S := Nat.mod_lt _ (by omega)
  have h2 : i / P.S < P.m := Nat.div_lt_of_lt_mul hi
  rw [made_row th h2 h1]
  rfl
end Go.Proofs.Ytbafhdinalapoaa
