/- The reference's Satin and Twill. -/
import Derived.Test.YtmakjdfkldacaaaTwl
import Derived.Test.YtmakjdfkldacaaaGb
namespace Go.Proofs.Ytmakjdfkldacaaa
open Go.RowKit
set_option maxRecDepth 100000
set_option linter.unusedVariables false
set_option linter.unusedSimpArgs false

/-- What lies while the reference fills a grid: the result's variable at g0, the grid's at ob, its cells at k, a row at rb. -/
structure SD (w wr : World) (ob k N V rb : Nat) (r : Nat → Bool) (F : Nat → Bool) : Prop where
  res : Box wr w.heap.size 0 0 (.slice none 0 0)
  out : Box wr ob N V (.slice (some ⟨k, 0, none⟩) (N * V) (N * V))
  row : Row wr k (N * V) F
  src : Row wr rb N r
  bel : Below w.heap.size w wr
  r1 : w.heap.size < rb
  r2 : rb < k
  r3 : k < ob
section
variable {w wr w' : World} {ob k N V rb : Nat} {r F F' : Nat → Bool}
theorem SD.next (h : SD w wr ob k N V rb r F) (hb : Below wr.heap.size wr w') : SD w w' ob k N V rb r F :=
  ⟨h.res.below hb h.res.lt, h.out.below hb h.out.lt, h.row.below hb h.row.lt, h.src.below hb h.src.lt, h.bel.trans (hb.mono h.bel.size), h.r1, h.r2, h.r3⟩
theorem SD.but (h : SD w wr ob k N V rb r F) (hb : But k wr w') (hr : Row w' k (N * V) F') : SD w w' ob k N V rb r F' := by
  have h1 := h.r1
  have h2 := h.r2
  have h3 := h.r3
  obtain ⟨cs, c1, c2, c3⟩ := h.src
  exact ⟨hb.box h.res (by omega), hb.box h.out (by omega), hr, ⟨cs, (hb.block rb (Array.getElem?_eq_some_iff.1 c1).1 (by omega)).trans c1, c2, c3⟩, hb.below h.bel (by omega), h1, h2, h3⟩
theorem SD.congr (h : SD w wr ob k N V rb r F) (e : ∀ i, i < N * V → F i = F' i) : SD w wr ob k N V rb r F' := ⟨h.res, h.out, h.row.congr e, h.src, h.bel, h.r1, h.r2, h.r3⟩
theorem SD.six (h : SD w wr ob k N V rb r F) (q : Nat) (hq : q < N) : wr.cell? ⟨ob, 0, none⟩ = some (.int .i64 (N : Nat)) ∧ wr.cell? ⟨ob, 1, none⟩ = some (.int .i64 (V : Nat)) ∧ wr.cell? ⟨ob, 2, none⟩ = some (.slice (some ⟨k, 0, none⟩) (N * V) (N * V)) ∧ wr.cell? ⟨rb, q, none⟩ = some (.bool (r q)) :=
  ⟨h.out.c0, h.out.c1, h.out.c2, h.src.cell hq⟩
end
/-- .. where there is no row besides. -/
structure SD2 (w wr : World) (ob k N V : Nat) (F : Nat → Bool) : Prop where
  res : Box wr w.heap.size 0 0 (.slice none 0 0)
  out : Box wr ob N V (.slice (some ⟨k, 0, none⟩) (N * V) (N * V))
  row : Row wr k (N * V) F
  bel : Below w.heap.size w wr
  r2 : w.heap.size < k
  r3 : k < ob
section
variable {w wr w' : World} {ob k N V : Nat} {F F' : Nat → Bool}
theorem SD2.next (h : SD2 w wr ob k N V F) (hb : Below wr.heap.size wr w') : SD2 w w' ob k N V F :=
  ⟨h.res.below hb h.res.lt, h.out.below hb h.out.lt, h.row.below hb h.row.lt, h.bel.trans (hb.mono h.bel.size), h.r2, h.r3⟩
theorem SD2.but (h : SD2 w wr ob k N V F) (hb : But k wr w') (hr : Row w' k (N * V) F') : SD2 w w' ob k N V F' := by
  have h2 := h.r2
  have h3 := h.r3
  exact ⟨hb.box h.res (by omega), hb.box h.out (by omega), hr, hb.below h.bel (by omega), h2, h3⟩
theorem SD2.congr (h : SD2 w wr ob k N V F) (e : ∀ i, i < N * V → F i = F' i) : SD2 w wr ob k N V F' := ⟨h.res, h.out, h.row.congr e, h.bel, h.r2, h.r3⟩
theorem SD2.six (h : SD2 w wr ob k N V F) : wr.cell? ⟨ob, 0, none⟩ = some (.int .i64 (N : Nat)) ∧ wr.cell? ⟨ob, 1, none⟩ = some (.int .i64 (V : Nat)) ∧ wr.cell? ⟨ob, 2, none⟩ = some (.slice (some ⟨k, 0, none⟩) (N * V) (N * V)) := ⟨h.out.c0, h.out.c1, h.out.c2⟩
end
theorem rst_err {n m : Int} (h : mv n m = false) (w : World) : Calls Try.prog 23 #[.int .i64 n, .int .i64 m] w (ErrGrid w 2) := by
  have R0 := RS.new w
  have HM := Lib.hid (fun u => (show Calls Try.prog 30 #[.int .i64 n, .int .i64 m] u fun e w' => e = .returned (.bool false) ∧ Below u.heap.size u w' by have k := rmv_b n m u; rwa [h] at k))
  have R1 := Lib.hid R0
  clear R0 h
  go_enter Try.func23, Try.ntmps23
  go_wp2_with fail
  refine (HM.out _).mono ?_
  rintro e w1 ⟨rfl, hb⟩
  have R2 := Lib.hid (R1.out.step (hb.mono R1.out.sz))
  obtain ⟨q0, q1, q2, q3, q4, q5, q6⟩ := R2.out.box.all
  clear hb R1
  go_wp2
  refine bodyPost_ret (v := .tuple #[.agg #[.int .i64 0, .int .i64 0, .slice none 0 0], .int .i64 2]) (by simp [results, Try.results23, go_sem, q0, q1, q2]) rfl ?_
  exact ⟨rfl, by first | exact (((R2.out.bel.setCell (Nat.le_refl _) _).setCell (Nat.le_refl _) _).setCell (Nat.le_refl _) _) | exact R2.out.bel⟩
/-- The rows below y of a satin. -/
def stp (n m y i : Nat) : Bool := decide (i / n < y) && stf n m i
theorem stp_zero (n m : Nat) (i : Nat) : stp n m 0 i = false := by unfold stp; simp
theorem stp_all {n m i : Nat} (h : i < n * n) : stp n m n i = stf n m i := by
  unfold stp; rw [decide_eq_true ((Nat.div_lt_iff_lt_mul (by rcases Nat.eq_zero_or_pos n with rfl | h'; simp at h; exact h')).2 h), Bool.true_and]
theorem stp_next {n m y p i : Nat} (hn : 0 < n) (hp : m * y % n = p) : (if i = y * n + p then true else stp n m y i) = stp n m (y + 1) i := by
  have hpn : p < n := by rw [← hp]; exact Nat.mod_lt _ hn
  unfold stp stf
  by_cases e : i = y * n + p
  · subst e
    rw [if_pos rfl, (at_xy hpn).1, (at_xy hpn).2, hp]; simp
  · rw [if_neg e]
    have hi := Nat.mod_add_div i n
    by_cases e2 : i / n = y
    · have e3 : ¬ i % n = m * (i / n) % n := by
        rw [e2, hp]
        intro h
        rw [h, e2, Nat.mul_comm] at hi
        omega
      rw [decide_eq_false e3, Bool.and_false, Bool.and_false]
    · congr 1
      by_cases e3 : i / n < y
      · rw [decide_eq_true e3, decide_eq_true (by omega)]
      · rw [decide_eq_false e3, decide_eq_false (by omega)]
set_option maxHeartbeats 1600000 in
theorem rst_ok {n m : Nat} (h : mv (n : Nat) (m : Nat) = true) (w : World) : Calls Try.prog 23 #[.int .i64 (n : Nat), .int .i64 (m : Nat)] w (OkGrid w n n (stf n m)) := by
  obtain ⟨a, b, ha, hb, h5, h64, h2, hm, hg⟩ := mv_nat h
  obtain rfl : n = a := by omega
  obtain rfl : m = b := by omega
  have HM := Lib.hid (fun u => (show Calls Try.prog 30 #[.int .i64 (n : Nat), .int .i64 (m : Nat)] u fun e w' => e = .returned (.bool true) ∧ Below u.heap.size u w' by have k := rmv_b (n : Nat) (m : Nat) u; rwa [h] at k))
  have R1 := Lib.hid (RS.new w)
  clear h hg ha hb
  go_enter Try.func23, Try.ntmps23
  go_wp2_with fail
  refine (HM.out _).mono ?_
  rintro e w1 ⟨rfl, hb⟩
  have R2 := Lib.hid (R1.out.step (hb.mono R1.out.sz))
  clear hb R1 HM
  go_wp2_with fail
  refine (zero_int _ _ n n rfl rfl h64 h64 _).mono ?_
  rintro e w2 ⟨k, rfl, hk, hrow, hb⟩
  have hs1 := R2.out.sz
  have hs2 := hb.size
  have R3 := Lib.hid (R2.out.step (hb.mono R2.out.sz))
  have hX := Box.new w2 (n : Nat) (n : Nat) (.slice (some ⟨k, 0, none⟩) (n * n) (n * n))
  have hR3 := R3.out.box.alloc (.cells #[.int .i64 (n : Nat), .int .i64 (n : Nat), .slice (some ⟨k, 0, none⟩) (n * n) (n * n)] 24)
  have hB3 : Below w.heap.size w (w2.alloc (.cells #[.int .i64 (n : Nat), .int .i64 (n : Nat), .slice (some ⟨k, 0, none⟩) (n * n) (n * n)] 24)) := R3.out.bel.alloc (Nat.le_trans (by omega) hs2) _
  have hk2 := hrow.lt
  have hrow3 := hrow.alloc (.cells #[.int .i64 (n : Nat), .int .i64 (n : Nat), .slice (some ⟨k, 0, none⟩) (n * n) (n * n)] 24)
  have HI := Lib.hid (show SD2 w (w2.alloc (.cells #[.int .i64 (n : Nat), .int .i64 (n : Nat), .slice (some ⟨k, 0, none⟩) (n * n) (n * n)] 24)) w2.heap.size k n n (stp n m 0) from ⟨hR3, hX, hrow3.congr fun i _ => (stp_zero n m i).symm, hB3, by omega, hk2⟩)
  clear hb hrow hX hR3 hB3 hrow3 R2 R3
  go_wp2
  go_loopw [7] (fun i wr => ∃ y : Nat, y ≤ n ∧ i = .int .i64 y ∧ Hid (SD2 w wr w2.heap.size k n n (stp n m y))) (fun i _ => n - (intOf i).toNat)
  case atStart => exact ⟨0, by omega, rfl, HI⟩
  case round =>
    obtain ⟨y, hy, rfl, HY⟩ := hrel
    by_cases hly : y < n
    · have x1 : (y : Int) < (n : Int) := by omega
      have m1 : m * y ≤ 64 * 64 := Nat.mul_le_mul (by omega) (by omega)
      have e1 : (m : Int) * (y : Int) = ((m * y : Nat) : Int) := by rw [Int.natCast_mul]
      have e2 : IntKind.i64.wrap ((m : Int) * (y : Int)) = ((m * y : Nat) : Int) := by rw [e1]; exact IntWalk.i64_in _ (by omega)
      have e3 : ((m * y : Nat) : Int).tmod (n : Int) = ((m * y % n : Nat) : Int) := by rw [Int.tmod_eq_emod_of_nonneg (by omega), Int.natCast_emod]
      obtain ⟨p, hp⟩ : ∃ p, m * y % n = p := ⟨_, rfl⟩
      have hpn : p < n := by rw [← hp]; exact Nat.mod_lt _ (by omega)
      have HN := Lib.hid (fun i => stp_next (n := n) (m := m) (y := y) (p := p) (i := i) (by omega) hp)
      rw [hp] at e3
      have e6 : IntKind.i64.wrap (p : Int) = (p : Int) := IntWalk.i64_in _ (by omega)
      clear hp
      have e9 : IntKind.i64.wrap ((m * y : Nat) : Int) = ((m * y : Nat) : Int) := IntWalk.i64_in _ (by omega)
      generalize m * y = q at *
      have e4 : ¬ (n : Int) = 0 := by omega
      have e5 : ¬ n = 0 := by omega
      have HK := Lib.hid (fun w' (h : Below wr.heap.size wr w') => (HY.out.next h).six)
      obtain ⟨q0, q1, q2⟩ := HY.out.six
      go_wp2
      go_region_held3 (fun w' => w'.cell? ⟨w2.heap.size, 0, none⟩ = some (.int .i64 (n : Nat)) ∧ w'.cell? ⟨w2.heap.size, 1, none⟩ = some (.int .i64 (n : Nat)) ∧ w'.cell? ⟨w2.heap.size, 2, none⟩ = some (.slice (some ⟨k, 0, none⟩) (n * n) (n * n)))
        (first
          | exact hS3
          | exact HK.out _ (Below.refl _ _).drew)
        (first
          | (go_at_call 61
             refine (set_nat n n k (n * n) (p : Nat) (y : Nat) _ _ _ (HY.out.next (Below.refl _ _).drew).row (by omega) (by omega) p y rfl rfl hpn hly).mono ?_
             rintro e w4 ⟨rfl, hr3, hb3⟩
             have hR3 := Lib.hid ((HY.out.next (Below.refl _ _).drew).but hb3 hr3)
             have hS3 := hR3.out.six))
      all_goals
        go_wp2
        exact ⟨⟨y + 1, by omega, by go_num, Lib.hid (hR3.out.congr fun i _ => HN.out i)⟩, by simp [intOf]; omega⟩
    · have e : y = n := by omega
      subst e
      have x1 : ¬ (y : Int) < (y : Int) := by omega
      obtain ⟨q0, q1, q2⟩ := HY.out.six
      obtain ⟨p0, p1, p2, p3, p4, p5, p6⟩ := HY.out.res.all
      go_wp2
      refine bodyPost_ret (v := .tuple #[.agg #[.int .i64 (y : Nat), .int .i64 (y : Nat), .slice (some ⟨k, 0, none⟩) (y * y) (y * y)], .int .i64 0]) (by simp [results, Try.results23, go_sem, p0, p1, p2]) rfl ?_
      exact fin_ok (Nat.le_refl _) HY.out.r2 (HY.out.row.congr fun i hi => stp_all hi) HY.out.bel
theorem rtw_err (A : Option Addr) (n c : Nat) (f : Nat → Int) (st : Int) (w : World) (hn : n ≤ 5000) (hr : L2.Holds w w.heap.size A n f) (h : vr f n = false) : Calls Try.prog 24 #[.slice A n c, .int .i64 st] w (ErrGrid w 8) := by
  have R0 := RS.new w
  have HV := Lib.hid (fun u (hb : Below w.heap.size w u) => (show Calls Try.prog 37 #[.slice A n c] u fun e w' => e = .returned (.bool false) ∧ w' = u by have k := rvr_any A n c f u hn ((hr.below hb).more hb.size); rwa [h] at k))
  have R1 := Lib.hid R0
  obtain ⟨q0, q1, q2, q3, q4, q5, q6⟩ := R0.box.all
  clear R0 hr
  go_enter Try.func24, Try.ntmps24
  go_wp2_with fail
  refine (HV.out _ R1.out.bel).mono ?_
  rintro e w1 ⟨rfl, hw1⟩
  subst hw1
  go_wp2
  refine bodyPost_ret (v := .tuple #[.agg #[.int .i64 0, .int .i64 0, .slice none 0 0], .int .i64 8]) (by simp [results, Try.results24, go_sem, q0, q1, q2]) rfl ?_
  exact ⟨rfl, by first | exact R1.out.bel | exact (((R1.out.bel.setCell (Nat.le_refl _) _).setCell (Nat.le_refl _) _).setCell (Nat.le_refl _) _)⟩
/-- A cell of a twill by column and row. -/
def twg (N s : Nat) (r : Nat → Bool) (x y : Nat) : Bool := r (((x : Int) - ((s * y : Nat) : Int)) % (N : Int)).toNat
set_option maxHeartbeats 3200000 in
theorem rtw_ok {f : Nat → Int} {n : Nat} (hv : VR f n) (A : Option Addr) (c : Nat) (st : Int) (s : Nat) (hs : st % ((sm f n : Nat) : Int) = s) (h0 : -9223372036854775808 ≤ st) (h1 : st ≤ 9223372036854775807) (w : World) (hr : L2.Holds w w.heap.size A n f) :
    Calls Try.prog 24 #[.slice A n c, .int .i64 st] w (OkGrid w (sm f n) (sm f n / Nat.gcd (sm f n) s) (twf (sm f n) s (rowf f n))) := by
  have hn := hv.nle
  have N2 := hv.sge
  have N64 := hv.le
  have HV := Lib.hid (fun u (hb : Below w.heap.size w u) => (show Calls Try.prog 37 #[.slice A n c] u fun e w' => e = .returned (.bool true) ∧ w' = u by have k := rvr_any A n c f u (by omega) ((hr.below hb).more hb.size); rwa [vr_iff.2 hv] at k))
  have HR := Lib.hid (fun u (hb : Below w.heap.size w u) => rrow_any hv A c u ((hr.below hb).more hb.size))
  have sN : s < sm f n := by have := Int.emod_lt_of_pos st (show 0 < ((sm f n : Nat) : Int) by omega); omega
  have hM := fun u => mod_any st ((sm f n : Nat) : Int) u (by omega) (by omega) h0 h1
  rw [hs] at hM
  have HM := Lib.hid hM
  have HG := Lib.hid (fun u => rgcd_any (sm f n) s u (by omega) (by omega))
  have g0 : 1 ≤ Nat.gcd (sm f n) s := Nat.gcd_pos_of_pos_left _ (by omega)
  have g1 : Nat.gcd (sm f n) s ≤ sm f n := Nat.gcd_le_left _ (by omega)
  have V0 : 1 ≤ sm f n / Nat.gcd (sm f n) s := Nat.div_pos g1 (by omega)
  have V1 : sm f n / Nat.gcd (sm f n) s ≤ sm f n := Nat.div_le_self _ _
  have e1 : ((sm f n : Nat) : Int).tdiv ((Nat.gcd (sm f n) s : Nat) : Int) = ((sm f n / Nat.gcd (sm f n) s : Nat) : Int) := by rw [Int.tdiv_eq_ediv_of_nonneg (by omega), Int.natCast_ediv]
  have R1 := Lib.hid (RS.new w)
  clear hr hs hM hv
  generalize sm f n / Nat.gcd (sm f n) s = V at *
  generalize Nat.gcd (sm f n) s = g at *
  generalize rowf f n = r at *
  generalize sm f n = N at *
  have e2 : ¬ (g : Int) = 0 := by omega
  have e3 : ¬ g = 0 := by omega
  have e4 : IntKind.i64.wrap (V : Int) = (V : Int) := IntWalk.i64_in _ (by omega)
  go_enter Try.func24, Try.ntmps24
  go_wp2_with fail
  refine (HV.out _ R1.out.bel).mono ?_
  rintro e w1 ⟨rfl, hw1⟩
  generalize w.alloc (.cells #[.int .i64 0, .int .i64 0, .slice none 0 0] 24) = w0 at *
  subst hw1
  clear HV
  go_wp2_with fail
  refine (HR.out _ R1.out.bel).mono ?_
  rintro e w2 ⟨rb, d, rfl, hrb, hrow, hb⟩
  have R2 := Lib.hid (R1.out.step (hb.mono R1.out.sz))
  have hr1 : w.heap.size < rb := by have := R1.out.sz; omega
  have W2 := Lib.hid hrow
  clear hb hrow R1 HR
  go_wp2_with fail
  refine (HM.out _).mono ?_
  rintro e w3 ⟨rfl, hw3⟩
  subst hw3
  clear HM
  go_wp2_with fail
  refine (HG.out _).mono ?_
  rintro e w4 ⟨rfl, m4, hw4⟩
  have R4 := Lib.hid (show RS w w4 by rw [hw4]; exact R2.out.step (bdN (Below.refl _ _) m4))
  have W4 := Lib.hid (show Row w4 rb N r by rw [hw4]; exact W2.out.drewN m4)
  have hrb4 : rb < w4.heap.size := W4.out.lt
  clear R2 W2 HG hw4
  go_wp2_with fail
  refine (zero_int _ _ N V rfl rfl N64 (by omega) _).mono ?_
  rintro e w5 ⟨k, rfl, hk, hrow, hb⟩
  have hs2 := hb.size
  have R5 := Lib.hid (R4.out.step (hb.mono R4.out.sz))
  have hX := Box.new w5 (N : Nat) (V : Nat) (.slice (some ⟨k, 0, none⟩) (N * V) (N * V))
  have hR5 := R5.out.box.alloc (.cells #[.int .i64 (N : Nat), .int .i64 (V : Nat), .slice (some ⟨k, 0, none⟩) (N * V) (N * V)] 24)
  have hB5 : Below w.heap.size w (w5.alloc (.cells #[.int .i64 (N : Nat), .int .i64 (V : Nat), .slice (some ⟨k, 0, none⟩) (N * V) (N * V)] 24)) := R5.out.bel.alloc (by have := R5.out.sz; omega) _
  have hk2 := hrow.lt
  have hrow5 := hrow.alloc (.cells #[.int .i64 (N : Nat), .int .i64 (V : Nat), .slice (some ⟨k, 0, none⟩) (N * V) (N * V)] 24)
  have HI := Lib.hid (show SD w (w5.alloc (.cells #[.int .i64 (N : Nat), .int .i64 (V : Nat), .slice (some ⟨k, 0, none⟩) (N * V) (N * V)] 24)) w5.heap.size k N V rb r (part N (twg N s r) (0 * N)) from
    ⟨hR5, hX, hrow5.congr fun i _ => by rw [Nat.zero_mul, part_zero], (W4.out.below hb hrb4).alloc _, hB5, hr1, by omega, hk2⟩)
  clear hb hrow hX hR5 hB5 hrow5 R4 R5 W4
  go_wp2
  go_loopw [10] (fun i wr => ∃ y : Nat, y ≤ V ∧ i = .int .i64 y ∧ Hid (SD w wr w5.heap.size k N V rb r (part N (twg N s r) (y * N)))) (fun i _ => V - (intOf i).toNat)
  case atStart => exact ⟨0, by omega, rfl, HI⟩
  case round =>
    obtain ⟨y, hy, rfl, HY⟩ := hrel
    obtain ⟨q0, q1, q2, q3⟩ := HY.out.six 0 (by omega)
    by_cases hly : y < V
    · have x1 : (y : Int) < (V : Int) := by omega
      have m1 : s * y ≤ 64 * 64 := Nat.mul_le_mul (by omega) (by omega)
      have e5 : (s : Int) * (y : Int) = ((s * y : Nat) : Int) := by rw [Int.natCast_mul]
      have e6 : IntKind.i64.wrap ((s : Int) * (y : Int)) = ((s * y : Nat) : Int) := by rw [e5]; exact IntWalk.i64_in _ (by omega)
      have HG := Lib.hid (fun x => show twg N s r x y = r (((x : Int) - ((s * y : Nat) : Int)) % (N : Int)).toNat from rfl)
      have e9 : IntKind.i64.wrap ((s * y : Nat) : Int) = ((s * y : Nat) : Int) := IntWalk.i64_in _ (by omega)
      generalize s * y = q at *
      go_wp2
      clear q0 q1 q2 q3
      go_loopw [11] (fun i wr => ∃ x : Nat, x ≤ N ∧ i = .int .i64 x ∧ Hid (SD w wr w5.heap.size k N V rb r (part N (twg N s r) (y * N + x)))) (fun i _ => N - (intOf i).toNat)
      case atStart => exact ⟨0, by omega, rfl, HY⟩
      case round =>
        obtain ⟨x, hx, rfl, HX⟩ := hrel
        by_cases hlx : x < N
        · have x2 : (x : Int) < (N : Int) := by omega
          have e7 : IntKind.i64.wrap ((x : Int) - (q : Int)) = (x : Int) - (q : Int) := IntWalk.i64_in _ (by omega)
          have z0 := Int.emod_nonneg ((x : Int) - (q : Int)) (show (N : Int) ≠ 0 by omega)
          have z1 := Int.emod_lt_of_pos ((x : Int) - (q : Int)) (show 0 < (N : Int) by omega)
          have hM := fun u => mod_any ((x : Int) - (q : Int)) (N : Nat) u (by omega) (by omega) (by omega) (by omega)
          have hG := HG.out x
          obtain ⟨z, hz⟩ := Int.eq_ofNat_of_zero_le z0
          rw [hz] at hM z1 hG
          try simp only [Int.ofNat_eq_natCast, Int.toNat_natCast] at hM z1 hG
          have HM := Lib.hid hM
          have z2 : (z : Int) < (N : Int) := z1
          have z3 : (0 : Int) ≤ (z : Int) := by omega
          have hzN : z < N := by omega
          have HP := Lib.hid (show ∀ i, (if i = y * N + x then r z else part N (twg N s r) (y * N + x) i) = part N (twg N s r) (y * N + x + 1) i from fun i => by rw [← hG]; exact congrFun (part_succ (twg N s r) x y hlx) i)
          clear hM hG hz z0 z1
          have HK := Lib.hid (fun w' (h : Below wr.heap.size wr w') => (HX.out.next h).six z hzN)
          obtain ⟨q0, q1, q2, q3⟩ := HX.out.six z hzN
          have HT := Lib.hid (show ∃ b, r z = b from ⟨_, rfl⟩)
          obtain ⟨b, hb⟩ := HT.out
          have HBV := Lib.hid hb
          rw [hb] at q3 HK HP
          clear hb HT
          go_wp2
          go_region_held3 (fun w' => w'.cell? ⟨w5.heap.size, 0, none⟩ = some (.int .i64 (N : Nat)) ∧ w'.cell? ⟨w5.heap.size, 1, none⟩ = some (.int .i64 (V : Nat)) ∧ w'.cell? ⟨w5.heap.size, 2, none⟩ = some (.slice (some ⟨k, 0, none⟩) (N * V) (N * V)) ∧ w'.cell? ⟨rb, z, none⟩ = some (.bool b))
            (first
              | exact hS3
              | exact HK.out _ (Below.refl _ _).drew)
            (first
              | (go_at_call 41; (with_reducible refine (HM.out _).mono ?_); rintro e w6 ⟨rfl, rfl⟩)
              | (go_at_call 61
                 refine (set_nat N V k (N * V) (x : Nat) (y : Nat) b _ _ (HX.out.next (Below.refl _ _).drew).row (by omega) (by omega) x y rfl rfl hlx hly).mono ?_
                 rintro e w4 ⟨rfl, hr3, hb3⟩
                 have hR3 := Lib.hid ((HX.out.next (Below.refl _ _).drew).but hb3 hr3)
                 have hS3 := hR3.out.six z hzN
                 rw [HBV.out] at hS3))
          all_goals
            go_wp2
            exact ⟨⟨x + 1, by omega, by go_num, Lib.hid (hR3.out.congr fun i _ => HP.out i)⟩, by simp [intOf]; omega⟩
        · have e : x = N := by omega
          have x2 : ¬ (x : Int) < (N : Int) := by omega
          have HE := Lib.hid (show y * N + x = (y + 1) * N by rw [e, Nat.add_mul, Nat.one_mul])
          go_wp2
          exact ⟨⟨y + 1, by omega, by go_num, by rw [← HE.out]; exact HX⟩, by simp [intOf]; omega⟩
    · have e : y = V := by omega
      subst e
      have x1 : ¬ (y : Int) < (y : Int) := by omega
      obtain ⟨p0, p1, p2, p3, p4, p5, p6⟩ := HY.out.res.all
      have r1 := HY.out.r1
      have r2 := HY.out.r2
      go_wp2
      refine bodyPost_ret (v := .tuple #[.agg #[.int .i64 (N : Nat), .int .i64 (y : Nat), .slice (some ⟨k, 0, none⟩) (N * y) (N * y)], .int .i64 0]) (by simp [results, Try.results24, go_sem, p0, p1, p2]) rfl ?_
      exact fin_ok (Nat.le_refl _) (by omega) (HY.out.row.congr fun i hi => by unfold part; rw [if_pos (by rw [Nat.mul_comm]; exact hi)]; rfl) HY.out.bel
end Go.Proofs.Ytmakjdfkldacaaa
