/- Grid operations that layer 12 calls: Mirror, Same, Count of the program; Not, Mirror, Set, Zero, Both of the reference. -/
import Derived.Test.YtngjcekjboedjaaGb
import Derived.Deep.RegionHeld3
import Derived.Deep.RegionLawGrows
import Derived.Deep.DeepCutAuto
namespace Go.Proofs.Ytngjcekjboedjaa
open Go.RowKit
set_option maxRecDepth 100000
set_option linter.unusedVariables false
set_option linter.unusedSimpArgs false

set_option maxHeartbeats 400000 in
theorem equal_len (A D : Option Addr) (n m c d : Nat) (w : World) (h : ¬ n = m) :
    Calls Try.prog 132 #[.slice A n c, .slice D m d] w fun e w' => e = .returned (.bool false) ∧ w' = w := by
  have z : ((n : Int) != (m : Int)) = true := by simp; omega
  clear h
  go_enter Try.func132, Try.ntmps132
  go_wp2
  go_ret
  exact ⟨rfl, rfl⟩
set_option maxHeartbeats 1600000 in
theorem equal_any (A D : Option Addr) (n c d : Nat) (f g : Nat → Bool) (w : World) (hn : n ≤ 5000) (hr : Holds w w.heap.size A n f) (hs : Holds w w.heap.size D n g) :
    Calls Try.prog 132 #[.slice A n c, .slice D n d] w fun e w' => e = .returned (.bool (decide (∀ i, i < n → f i = g i))) ∧ Below w.heap.size w w' := by
  have z3 : ((n : Int) != (n : Int)) = false := by simp
  have HR := Lib.hid hr
  have HS := Lib.hid hs
  clear hr hs
  go_enter Try.func132, Try.ntmps132
  go_wp2
  go_loopw [13] (fun i wr => ∃ k : Nat, k ≤ n ∧ i = .int .i64 k ∧ Hid (∀ i, i < k → f i = g i) ∧ Below w.heap.size w wr) (fun i _ => n - (intOf i).toNat)
  case atStart => exact ⟨0, Nat.zero_le _, rfl, fun i hi => absurd hi (by omega), Below.refl _ _⟩
  case round =>
    obtain ⟨k, hk, rfl, hall, hbel⟩ := hrel
    by_cases hlt : k < n
    · obtain ⟨b, o, rfl, hbl, hc⟩ := (HR.out.below hbel) (by omega)
      obtain ⟨b', o', rfl, hbl', hc'⟩ := (HS.out.below hbel) (by omega)
      have c1 := hc k hlt
      have c2 := hc' k hlt
      clear hc hc'
      have hbs := hbel.size
      have B1 := Lib.hid hbel
      clear hbel
      have y1 : (0 : Int) ≤ (k : Int) := by omega
      have y2 : (k : Int) < (n : Int) := by omega
      obtain ⟨u, hu⟩ : ∃ u, f k = u := ⟨_, rfl⟩
      obtain ⟨v, hv⟩ : ∃ v, g k = v := ⟨_, rfl⟩
      rw [hu] at c1
      rw [hv] at c2
      have HU := Lib.hid hu
      have HV := Lib.hid hv
      clear hu hv
      by_cases e : u = v
      · have E : f k = g k := by rw [HU.out, HV.out, e]
        have E := Lib.hid E
        subst e
        cases u
        all_goals
          go_wp2
          go_quiet (fail)
          go_wp2
          refine ⟨⟨k + 1, by omega, by go_num, fun i hi => ?_, Go.Proofs.below_drewN' B1.out _⟩, by simp [intOf]; omega⟩
          rcases Nat.lt_succ_iff_lt_or_eq.1 hi with h | rfl
          · exact hall.out i h
          · exact E.out
      · have E : ¬ f k = g k := by rw [HU.out, HV.out]; exact e
        have E := Lib.hid E
        cases u <;> cases v <;> first | exact absurd rfl e | skip
        all_goals
          clear e
          go_wp2
          go_quiet (fail)
          go_wp2
          go_ret
          exact ⟨ret_bool (by symm; rw [decide_eq_false_iff_not]; exact fun h => E.out (h k hlt)), Go.Proofs.below_drewN' B1.out _⟩
    · have e : k = n := by omega
      subst e
      go_wp2
      go_ret
      exact ⟨ret_bool (by symm; rw [decide_eq_true_iff]; exact hall.out), hbel⟩
set_option maxHeartbeats 400000 in
theorem set_any (W H : Int) (k n c : Nat) (x y : Int) (u : Bool) (F : Nat → Bool) (w : World) (hr : Row w k n F) (hm : n ≤ 5000) (hW0 : 0 ≤ W) (hW : W ≤ 64) (hx0 : 0 ≤ x) (hx : x < 64) (hy0 : 0 ≤ y) (hy : y < 64) (hi : (y * W + x).toNat < n) :
    Calls Try.prog 95 #[.agg #[.int .i64 W, .int .i64 H, .slice (some ⟨k, 0, none⟩) n c], .int .i64 x, .int .i64 y, .bool u] w fun e w' => e = .returned (.tuple #[]) ∧ Row w' k n (fun j => if j = (y * W + x).toNat then u else F j) ∧ But k w w' := by
  obtain ⟨h1, h2⟩ := mul_bd hW0 hW hy0 hy
  have h3 : y * W + x < (n : Int) := by omega
  have hc := hr.cell hi
  have hf := hr.free (y * W + x).toNat
  have hl := hr.lt
  have HR := Lib.hid hr
  clear hr
  go_enter Try.func95, Try.ntmps95
  go_wp2
  go_end0
  refine ⟨rfl, ?_, ?_⟩
  · exact (HR.out.set_ _ _).alloc _
  · refine ⟨rfl, rfl, rfl, by simp [World.setCell], fun b hb hne => ?_⟩
    rw [Below.heap_alloc _ _ _ (by simpa [World.setCell] using hb), Below.heap_setCell _ _ _ _ hne]
theorem set_nat (W H : Nat) (k c : Nat) (x y : Int) (u : Bool) (F : Nat → Bool) (w : World) (hr : Row w k (W * H) F) (hW : W ≤ 64) (hH : H ≤ 64) (i j : Nat) (hx : x = i) (hy : y = j) (hi : i < W) (hj : j < H) :
    Calls Try.prog 95 #[.agg #[.int .i64 W, .int .i64 H, .slice (some ⟨k, 0, none⟩) (W * H) c], .int .i64 x, .int .i64 y, .bool u] w fun e w' => e = .returned (.tuple #[]) ∧ Row w' k (W * H) (fun l => if l = j * W + i then u else F l) ∧ But k w w' := by
  subst hx hy
  have h1 := ix_bd hi hj
  have h2 : W * H ≤ 4096 := Nat.mul_le_mul hW hH
  have e : ((j : Int) * (W : Int) + (i : Int)).toNat = j * W + i := by
    have : ((j : Int) * (W : Int) + (i : Int)) = ((j * W + i : Nat) : Int) := by simp
    rw [this, Int.toNat_natCast]
  have h := set_any W H k (W * H) c i j u F w hr (by omega) (by omega) (by omega) (by omega) (by omega) (by omega) (by omega) (by rw [e]; exact h1)
  rw [e] at h
  exact h
set_option maxHeartbeats 400000 in
theorem zero_int (Wi Hi : Int) (W H : Nat) (eW : Wi = W) (eH : Hi = H) (hW : W ≤ 64) (hH : H ≤ 64) (w : World) :
    Calls Try.prog 64 #[.int .i64 Wi, .int .i64 Hi] w fun e w' => ∃ k, e = .returned (.agg #[.int .i64 W, .int .i64 H, .slice (some ⟨k, 0, none⟩) (W * H) (W * H)]) ∧ w.heap.size ≤ k ∧ Row w' k (W * H) (fun _ => false) ∧ Below w.heap.size w w' := by
  subst eW eH
  have hN : W * H ≤ 4096 := Nat.mul_le_mul hW hH
  have hNi : (W : Int) * (H : Int) ≤ 4096 := by have := Int.ofNat_le.2 hN; simpa using this
  have hNi0 : 0 ≤ (W : Int) * (H : Int) := by have := Int.natCast_nonneg (W * H); simpa using this
  have hmk := make_run W H hN
  go_enter Try.func64, Try.ntmps64
  go_wp2
  refine bodyPost_ret (v := .agg #[.int .i64 W, .int .i64 H, .slice (some ⟨w.heap.size + 1, 0, none⟩) (W * H) (W * H)]) (by simp [results, Try.results64, go_sem]) rfl ⟨_, rfl, by omega, ?_, ?_⟩
  · have h := Row.made (w.alloc (.cells #[.int .i64 W, .int .i64 H, .slice (some ⟨w.heap.size + 1, 0, none⟩) (W * H) (W * H)] 24)) (W * H)
    simpa using h
  · exact ((Below.refl _ _).alloc (Nat.le_refl _) _).alloc (by simp) _
/-- What Same answers: it reads the two grids' sides and cells. -/
theorem same_any (W H X Y : Int) (A D : Option Addr) (n m c d : Nat) (f g : Nat → Bool) (w : World) (hn : n ≤ 5000) (hr : Holds w w.heap.size A n f) (hs : Holds w w.heap.size D m g) :
    Calls Try.prog 98 #[.agg #[.int .i64 W, .int .i64 H, .slice A n c], .agg #[.int .i64 X, .int .i64 Y, .slice D m d]] w fun e w' => e = .returned (.bool (decide (W = X ∧ H = Y ∧ n = m ∧ ∀ i, i < n → f i = g i))) ∧ Below w.heap.size w w' := by
  obtain ⟨hb1, hb2, hb3⟩ := boxes2 w W H X Y (.slice A n c) (.slice D m d)
  have B0 := Lib.hid hb3
  have hr1 := (hr.below hb3).more hb3.size
  have hs1 := (hs.below hb3).more hb3.size
  clear hr hs
  by_cases eW : W = X
  · by_cases eH : H = Y
    · by_cases en : n = m
      · subst eW eH en
        have HE := Lib.hid (equal_any A D n c d f g _ hn hr1 hs1)
        have z1 : (W == W) = true := by simp
        have z2 : (H == H) = true := by simp
        have e : decide (W = W ∧ H = H ∧ n = n ∧ ∀ i, i < n → f i = g i) = decide (∀ i, i < n → f i = g i) := by simp
        rw [e]
        generalize decide (∀ i, i < n → f i = g i) = u at *
        clear hb1 hb2 hb3 hr1 hs1 e
        go_enter Try.func98, Try.ntmps98
        go_wp2_with fail
        refine HE.out.mono ?_
        rintro e w2 ⟨rfl, hb⟩
        have B1 := Lib.hid (B0.out.trans (hb.mono B0.out.size))
        clear hb HE B0
        go_wp2
        go_ret
        exact ⟨rfl, B1.out⟩
      · have HE := Lib.hid (equal_len A D n m c d ((w.alloc (.cells #[.int .i64 W, .int .i64 H, .slice A n c] 24)).alloc (.cells #[.int .i64 X, .int .i64 Y, .slice D m d] 24)) en)
        subst eW eH
        have z1 : (W == W) = true := by simp
        have z2 : (H == H) = true := by simp
        have e : decide (W = W ∧ H = H ∧ n = m ∧ ∀ i, i < n → f i = g i) = false := by simp [en]
        rw [e]
        clear hb1 hb2 hb3 hr1 hs1 e
        go_enter Try.func98, Try.ntmps98
        go_wp2_with fail
        refine HE.out.mono ?_
        rintro e w2 ⟨rfl, rfl⟩
        go_wp2
        go_ret
        exact ⟨rfl, B0.out⟩
    · have z1 : (W == X) = true := by simp [eW]
      have z2 : (H == Y) = false := by simp [eH]
      have e : decide (W = X ∧ H = Y ∧ n = m ∧ ∀ i, i < n → f i = g i) = false := by simp [eH]
      rw [e]
      clear hb1 hb2 hb3 hr1 hs1 e eW eH
      go_enter Try.func98, Try.ntmps98
      go_wp2
      go_ret
      exact ⟨rfl, B0.out⟩
  · have z1 : (W == X) = false := by simp [eW]
    have e : decide (W = X ∧ H = Y ∧ n = m ∧ ∀ i, i < n → f i = g i) = false := by simp [eW]
    rw [e]
    clear hb1 hb2 hb3 hr1 hs1 e eW
    go_enter Try.func98, Try.ntmps98
    go_wp2
    go_ret
    exact ⟨rfl, B0.out⟩
theorem drewN_two (w : World) (m n : Nat) : (w.drewN m).drewN n = w.drewN (m + n) := by
  show World.drewN (World.drewN w m) n = _; unfold World.drewN; rw [← Nat.add_assoc]
set_option maxHeartbeats 400000 in
theorem both_any (W H X Y : Int) (A D : Option Addr) (n c m d : Nat) (w : World) (hn : n ≤ 4200) (hm : m ≤ 4200) : Calls Try.prog 131 #[.agg #[.int .i64 W, .int .i64 H, .slice A n c], .agg #[.int .i64 X, .int .i64 Y, .slice D m d]] w fun e w' => e = .returned (.int .i64 (if chk W H n = 0 then chk X Y m else chk W H n)) ∧ Below w.heap.size w w' := by
  have HC := Lib.hid (fun v => rchk_any W H A n c v hn)
  have HD := Lib.hid (fun v => rchk_any X Y D m d v hm)
  have B0 := Lib.hid (show Box ((w.alloc (.cells #[.int .i64 W, .int .i64 H, .slice A n c] 24)).alloc (.cells #[.int .i64 X, .int .i64 Y, .slice D m d] 24)) w.heap.size W H (.slice A n c) from (Box.new _ _ _ _).alloc _)
  have B1 := Lib.hid (show Box ((w.alloc (.cells #[.int .i64 W, .int .i64 H, .slice A n c] 24)).alloc (.cells #[.int .i64 X, .int .i64 Y, .slice D m d] 24)) (w.heap.size + 1) X Y (.slice D m d) from by have h := Box.new (w.alloc (.cells #[.int .i64 W, .int .i64 H, .slice A n c] 24)) X Y (.slice D m d); rwa [World.size_alloc] at h)
  have L0 := Lib.hid (show Below w.heap.size w ((w.alloc (.cells #[.int .i64 W, .int .i64 H, .slice A n c] 24)).alloc (.cells #[.int .i64 X, .int .i64 Y, .slice D m d] 24)) from ((Below.refl _ _).alloc (Nat.le_refl _) _).alloc (by simp) _)
  by_cases hx : chk W H n = 0
  · rw [if_pos hx]
    rw [hx] at HC
    have HX := Lib.hid hx
    obtain ⟨z, hz⟩ : ∃ z, chk X Y m = z := ⟨_, rfl⟩
    rw [hz] at HD ⊢
    clear hx hz
    go_enter Try.func131, Try.ntmps131
    obtain ⟨q0, q1, q2, q3, q4, q5, q6⟩ := B0.out.all
    go_wp2_with fail
    refine (HC.out _).mono ?_
    rintro e w1 ⟨rfl, hb⟩
    have L1 := Lib.hid (L0.out.trans (hb.mono L0.out.size))
    clear q0 q1 q2 q3 q4 q5 q6
    obtain ⟨q0, q1, q2, q3, q4, q5, q6⟩ := (B1.out.below hb B1.out.lt).all
    clear hb
    go_wp2_with fail
    refine (HD.out _).mono ?_
    rintro e w2 ⟨rfl, hb⟩
    have L2 := Lib.hid (L1.out.trans (hb.mono L1.out.size))
    clear hb
    go_wp2
    go_ret
    exact ⟨rfl, L2.out⟩
  · rw [if_neg hx]
    obtain ⟨z, hz⟩ : ∃ z, chk W H n = z := ⟨_, rfl⟩
    rw [hz] at HC hx ⊢
    have hne : (z != 0) = true := by simpa using hx
    clear hx hz
    go_enter Try.func131, Try.ntmps131
    obtain ⟨q0, q1, q2, q3, q4, q5, q6⟩ := B0.out.all
    go_wp2_with fail
    refine (HC.out _).mono ?_
    rintro e w1 ⟨rfl, hb⟩
    have L1 := Lib.hid (L0.out.trans (hb.mono L0.out.size))
    clear q0 q1 q2 q3 q4 q5 q6
    obtain ⟨q0, q1, q2, q3, q4, q5, q6⟩ := (B0.out.below hb B0.out.lt).all
    clear hb
    go_wp2_with fail
    refine (HC.out _).mono ?_
    rintro e w2 ⟨rfl, hb⟩
    have L2 := Lib.hid (L1.out.trans (hb.mono L1.out.size))
    clear hb
    go_wp2
    go_ret
    exact ⟨rfl, L2.out⟩
/-- How many numbers below n have p. -/
def cnt (p : Nat → Bool) : Nat → Nat
  | 0 => 0
  | n + 1 => cnt p n + if p n = true then 1 else 0
theorem cnt_s (p : Nat → Bool) (n : Nat) : cnt p (n + 1) = cnt p n + if p n = true then 1 else 0 := rfl
theorem cnt_yes {p : Nat → Bool} {n : Nat} (h : p n = true) : cnt p (n + 1) = cnt p n + 1 := by rw [cnt_s, if_pos h]
theorem cnt_no {p : Nat → Bool} {n : Nat} (h : p n = false) : cnt p (n + 1) = cnt p n := by rw [cnt_s, if_neg (by rw [h]; decide)]; rfl
theorem cnt_le (p : Nat → Bool) (n : Nat) : cnt p n ≤ n := by
  induction n with
  | zero => exact Nat.le_refl 0
  | succ n ih => rw [cnt_s]; split <;> omega
theorem cnt_imp {p q : Nat → Bool} {n : Nat} (h : ∀ j, j < n → p j = true → q j = true) : cnt p n ≤ cnt q n := by
  induction n with
  | zero => exact Nat.le_refl 0
  | succ n ih =>
    have := ih fun j hj => h j (by omega)
    rw [cnt_s, cnt_s]
    by_cases e : p n = true
    · rw [if_pos e, if_pos (h n (by omega) e)]; omega
    · rw [if_neg e]; omega
theorem cnt_congr {p q : Nat → Bool} {n : Nat} (h : ∀ j, j < n → p j = q j) : cnt p n = cnt q n :=
  Nat.le_antisymm (cnt_imp fun j hj e => by rw [← h j hj]; exact e) (cnt_imp fun j hj e => by rw [h j hj]; exact e)
theorem cnt_none {p : Nat → Bool} {n : Nat} (h : ∀ j, j < n → p j = false) : cnt p n = 0 := by
  induction n with
  | zero => rfl
  | succ n ih => rw [cnt_no (h n (by omega)), ih fun j hj => h j (by omega)]
end Go.Proofs.Ytngjcekjboedjaa
