/- Grid operations that layer 12 calls: Mirror, Same, Count of the program; Not, Mirror, Set, Zero, Both of the reference. -/
import Derived.Test.YtgmcbdnfgdmmaaaGb
import Derived.Deep.RegionHeld3
import Derived.Deep.RegionLawGrows
import Derived.Deep.DeepCutAuto
namespace Go.Proofs.Ytgmcbdnfgdmmaaa
open Go.RowKit
set_option maxRecDepth 100000
set_option linter.unusedVariables false
set_option linter.unusedSimpArgs false

set_option maxHeartbeats 400000 in
theorem mir0_clo {w : World} {gb W H c : Nat} {A : Option Addr} {f : Nat → Bool} (h : Grid w gb W H A c f) :
    Gives 130 #[.pointer (some ⟨gb, 0, none⟩)] w W H (fun x y => f (y * W + (W - 1 - x))) := by
  intro w1 x y hb hx hy
  have h1 := h.below hb
  obtain ⟨q0, q1, q2, q3, q4, q5, q6⟩ := h1.box.all
  obtain ⟨w0, w1', h0, h1'⟩ : 1 ≤ W ∧ W ≤ 64 ∧ 1 ≤ H ∧ H ≤ 64 := ⟨h.w0, h.w1, h.h0, h.h1⟩
  have HC := Lib.hid (cell_nat W H A c ((W : Int) - 1 - (x : Int)) ((y : Int)) f w1 h1.cells h.w1 h.h1 (W - 1 - x) (y) (by omega) (by omega) (by omega) (by omega))
  go_enter Try.func130, Try.ntmps130
  go_wp2_with (go_at_call 76; refine HC.out.mono ?_; rintro e w2 ⟨rfl, hb2⟩)
  go_ret
  exact ⟨rfl, hb2⟩
set_option maxHeartbeats 400000 in
theorem mir1_clo {w : World} {gb W H c : Nat} {A : Option Addr} {f : Nat → Bool} (h : Grid w gb W H A c f) :
    Gives 131 #[.pointer (some ⟨gb, 0, none⟩)] w W H (fun x y => f ((H - 1 - y) * W + x)) := by
  intro w1 x y hb hx hy
  have h1 := h.below hb
  obtain ⟨q0, q1, q2, q3, q4, q5, q6⟩ := h1.box.all
  obtain ⟨w0, w1', h0, h1'⟩ : 1 ≤ W ∧ W ≤ 64 ∧ 1 ≤ H ∧ H ≤ 64 := ⟨h.w0, h.w1, h.h0, h.h1⟩
  have HC := Lib.hid (cell_nat W H A c ((x : Int)) ((H : Int) - 1 - (y : Int)) f w1 h1.cells h.w1 h.h1 (x) (H - 1 - y) (by omega) (by omega) (by omega) (by omega))
  go_enter Try.func131, Try.ntmps131
  go_wp2_with (go_at_call 76; refine HC.out.mono ?_; rintro e w2 ⟨rfl, hb2⟩)
  go_ret
  exact ⟨rfl, hb2⟩
set_option maxHeartbeats 400000 in
theorem mirror_err (W H : Int) (A : Option Addr) (n c : Nat) (axis : Int) (w : World) (err : Int) (hn : n ≤ 4200) (hx : chk W H n = err) (hne : (err != 0) = true) :
    Calls Try.prog 93 #[.agg #[.int .i64 W, .int .i64 H, .slice A n c], .int .i64 axis] w (ErrGrid w err) := by
  have HC := Lib.hid (chk_err (A := A) (c := c) hn hx)
  clear hx
  go_enter Try.func93, Try.ntmps93
  go_wp2_with fail
  refine (HC.out _).mono ?_
  rintro e w1 ⟨rfl, hb1⟩
  obtain ⟨hbox1, hbox2, hbel1, hsz1⟩ := after2 hb1
  clear hb1
  obtain ⟨p0, p1, p2, p3, p4, p5, p6⟩ := hbox2.all
  go_wp2
  refine bodyPost_ret (v := .tuple #[.agg #[.int .i64 0, .int .i64 0, .slice none 0 0], .int .i64 err]) (by simp [results, Try.results93, go_sem, p0, p1, p2]) rfl ?_
  exact fin_err (by omega) hbel1
set_option maxHeartbeats 400000 in
theorem mirror_ok0 (W H : Nat) (A : Option Addr) (c : Nat) (f : Nat → Bool) (w : World) (hr : Holds w w.heap.size A (W * H) f) (hW0 : 1 ≤ W) (hW : W ≤ 64) (hH0 : 1 ≤ H) (hH : H ≤ 64) :
    Calls Try.prog 93 #[.agg #[.int .i64 W, .int .i64 H, .slice A (W * H) c], .int .i64 0] w (OkGrid w W H fun i => f (i / W * W + (W - 1 - i % W))) := by
  have hmf := mk_fn
  have HR := Lib.hid hr
  clear hr
  go_enter Try.func93, Try.ntmps93
  go_wp2_with fail
  refine (chk_valid A c _ hW0 hW hH0 hH).mono ?_
  rintro e w1 ⟨rfl, hb1⟩
  obtain ⟨hbox1, hbox2, hbel1, hsz1⟩ := after2 hb1
  clear hb1
  obtain ⟨q0, q1, q2, q3, q4, q5, q6⟩ := hbox1.all
  go_wp2_with fail
  refine (build_any W H hW0 hW hH0 hH 130 _ _ _ (mir0_clo ⟨hbox1, (HR.out.below hbel1).more hbel1.size, hW0, hW, hH0, hH⟩) (Go.Proofs.enters_of Try.func130 (by kernel_rfl) rfl)).mono ?_
  rintro e w2 ⟨k, rfl, hk, hrow, hb2⟩
  have hbox3 := hbox2.below hb2 (by omega)
  obtain ⟨p0, p1, p2, p3, p4, p5, p6⟩ := hbox3.all
  go_wp2
  refine bodyPost_ret (v := .tuple #[.agg #[.int .i64 W, .int .i64 H, .slice (some ⟨k, 0, none⟩) (W * H) (W * H)], .int .i64 0]) (by simp [results, Try.results93, go_sem, p0, p1, p2]) rfl ?_
  exact fin_ok (by omega) (by omega) (hrow.congr fun i hi => rfl) (hbel1.trans (hb2.mono hbel1.size))
set_option maxHeartbeats 400000 in
theorem mirror_ok1 (W H : Nat) (A : Option Addr) (c : Nat) (f : Nat → Bool) (w : World) (hr : Holds w w.heap.size A (W * H) f) (hW0 : 1 ≤ W) (hW : W ≤ 64) (hH0 : 1 ≤ H) (hH : H ≤ 64) :
    Calls Try.prog 93 #[.agg #[.int .i64 W, .int .i64 H, .slice A (W * H) c], .int .i64 1] w (OkGrid w W H fun i => f ((H - 1 - i / W) * W + i % W)) := by
  have hmf := mk_fn
  have HR := Lib.hid hr
  clear hr
  go_enter Try.func93, Try.ntmps93
  go_wp2_with fail
  refine (chk_valid A c _ hW0 hW hH0 hH).mono ?_
  rintro e w1 ⟨rfl, hb1⟩
  obtain ⟨hbox1, hbox2, hbel1, hsz1⟩ := after2 hb1
  clear hb1
  obtain ⟨q0, q1, q2, q3, q4, q5, q6⟩ := hbox1.all
  go_wp2_with fail
  refine (build_any W H hW0 hW hH0 hH 131 _ _ _ (mir1_clo ⟨hbox1, (HR.out.below hbel1).more hbel1.size, hW0, hW, hH0, hH⟩) (Go.Proofs.enters_of Try.func131 (by kernel_rfl) rfl)).mono ?_
  rintro e w2 ⟨k, rfl, hk, hrow, hb2⟩
  have hbox3 := hbox2.below hb2 (by omega)
  obtain ⟨p0, p1, p2, p3, p4, p5, p6⟩ := hbox3.all
  go_wp2
  refine bodyPost_ret (v := .tuple #[.agg #[.int .i64 W, .int .i64 H, .slice (some ⟨k, 0, none⟩) (W * H) (W * H)], .int .i64 0]) (by simp [results, Try.results93, go_sem, p0, p1, p2]) rfl ?_
  exact fin_ok (by omega) (by omega) (hrow.congr fun i hi => rfl) (hbel1.trans (hb2.mono hbel1.size))
set_option maxHeartbeats 400000 in
theorem mirror_arg (W H : Nat) (A : Option Addr) (c : Nat) (axis : Int) (w : World) (hW0 : 1 ≤ W) (hW : W ≤ 64) (hH0 : 1 ≤ H) (hH : H ≤ 64) (h0 : ¬ axis = 0) (h1 : ¬ axis = 1) :
    Calls Try.prog 93 #[.agg #[.int .i64 W, .int .i64 H, .slice A (W * H) c], .int .i64 axis] w (ErrGrid w 2) := by
  have z0 : (axis == 0) = false := by simp [h0]
  have z1 : (axis == 1) = false := by simp [h1]
  go_enter Try.func93, Try.ntmps93
  go_wp2_with fail
  refine (chk_valid A c _ hW0 hW hH0 hH).mono ?_
  rintro e w1 ⟨rfl, hb1⟩
  obtain ⟨hbox1, hbox2, hbel1, hsz1⟩ := after2 hb1
  clear hb1
  obtain ⟨p0, p1, p2, p3, p4, p5, p6⟩ := hbox2.all
  go_wp2
  refine bodyPost_ret (v := .tuple #[.agg #[.int .i64 0, .int .i64 0, .slice none 0 0], .int .i64 2]) (by simp [results, Try.results93, go_sem, p0, p1, p2]) rfl ?_
  exact fin_err (by omega) hbel1
set_option maxHeartbeats 400000 in
theorem equal_len (A D : Option Addr) (n m c d : Nat) (w : World) (h : ¬ n = m) :
    Calls Try.prog 128 #[.slice A n c, .slice D m d] w fun e w' => e = .returned (.bool false) ∧ w' = w := by
  have z : ((n : Int) != (m : Int)) = true := by simp; omega
  clear h
  go_enter Try.func128, Try.ntmps128
  go_wp2
  go_ret
  exact ⟨rfl, rfl⟩
set_option maxHeartbeats 1600000 in
theorem equal_any (A D : Option Addr) (n c d : Nat) (f g : Nat → Bool) (w : World) (hn : n ≤ 5000) (hr : Holds w w.heap.size A n f) (hs : Holds w w.heap.size D n g) :
    Calls Try.prog 128 #[.slice A n c, .slice D n d] w fun e w' => e = .returned (.bool (decide (∀ i, i < n → f i = g i))) ∧ Below w.heap.size w w' := by
  have z3 : ((n : Int) != (n : Int)) = false := by simp
  have HR := Lib.hid hr
  have HS := Lib.hid hs
  clear hr hs
  go_enter Try.func128, Try.ntmps128
  go_wp2
  go_loopw [13] (fun i wr => ∃ k : Nat, k ≤ n ∧ i = .int .i64 k ∧ Hid (∀ i, i < k → f i = g i) ∧ Below w.heap.size w wr) (fun i _ => n - (intOf i).toNat)
  case atStart => exact ⟨0, Nat.zero_le _, rfl, fun i hi => absurd hi (by omega), Below.refl _ _⟩
  case round =>
    obtain ⟨k, hk, rfl, hall, hbel⟩ := hrel
    by_cases hlt : k < n
    · obtain ⟨b, o, rfl, hbl, hc⟩ := (HR.out.below hbel) (by omega)
      obtain ⟨b', o', rfl, hbl', hc'⟩ := (HS.out.below hbel) (by omega)
      have c1 := hc k hlt
      have c2 := hc' k hlt
      clear hc hc'
      have hbs := hbel.size
      have B1 := Lib.hid hbel
      clear hbel
      have y1 : (0 : Int) ≤ (k : Int) := by omega
      have y2 : (k : Int) < (n : Int) := by omega
      obtain ⟨u, hu⟩ : ∃ u, f k = u := ⟨_, rfl⟩
      obtain ⟨v, hv⟩ : ∃ v, g k = v := ⟨_, rfl⟩
      rw [hu] at c1
      rw [hv] at c2
      have HU := Lib.hid hu
      have HV := Lib.hid hv
      clear hu hv
      by_cases e : u = v
      · have E : f k = g k := by rw [HU.out, HV.out, e]
        have E := Lib.hid E
        subst e
        cases u
        all_goals
          go_wp2
          go_quiet (fail)
          go_wp2
          refine ⟨⟨k + 1, by omega, by go_num, fun i hi => ?_, Go.Proofs.below_drewN' B1.out _⟩, by simp [intOf]; omega⟩
          rcases Nat.lt_succ_iff_lt_or_eq.1 hi with h | rfl
          · exact hall.out i h
          · exact E.out
      · have E : ¬ f k = g k := by rw [HU.out, HV.out]; exact e
        have E := Lib.hid E
        cases u <;> cases v <;> first | exact absurd rfl e | skip
        all_goals
          clear e
          go_wp2
          go_quiet (fail)
          go_wp2
          go_ret
          exact ⟨ret_bool (by symm; rw [decide_eq_false_iff_not]; exact fun h => E.out (h k hlt)), Go.Proofs.below_drewN' B1.out _⟩
    · have e : k = n := by omega
      subst e
      go_wp2
      go_ret
      exact ⟨ret_bool (by symm; rw [decide_eq_true_iff]; exact hall.out), hbel⟩
set_option maxHeartbeats 800000 in
theorem rnot_err (W H : Int) (A : Option Addr) (n c : Nat) (w : World) (err : Int) (hn : n ≤ 4200) (hx : chk W H n = err) (hne : (err != 0) = true) :
    Calls Try.prog 102 #[.agg #[.int .i64 W, .int .i64 H, .slice A n c]] w (ErrGrid w err) := by
  have HC := Lib.hid (rchk_err (A := A) (c := c) hn hx)
  clear hx
  go_enter Try.func102, Try.ntmps102
  go_wp2_with fail
  refine (HC.out _).mono ?_
  rintro e w1 ⟨rfl, hb1⟩
  obtain ⟨hbox1, hbox2, hbel1, hsz1⟩ := after2 hb1
  clear hb1
  obtain ⟨q0, q1, q2, q3, q4, q5, q6⟩ := hbox1.all
  go_wp2_with fail
  refine (HC.out _).mono ?_
  rintro e w2 ⟨rfl, hb2⟩
  have hbox3 := hbox2.below hb2 (by omega)
  have hbel2 := hbel1.trans (hb2.mono hbel1.size)
  clear hb2
  obtain ⟨p0, p1, p2, p3, p4, p5, p6⟩ := hbox3.all
  go_wp2
  refine bodyPost_ret (v := .tuple #[.agg #[.int .i64 0, .int .i64 0, .slice none 0 0], .int .i64 err]) (by simp [results, Try.results102, go_sem, p0, p1, p2]) rfl ?_
  exact fin_err (by omega) hbel2
set_option maxHeartbeats 1600000 in
theorem rnot_ok (W H : Nat) (A : Option Addr) (c : Nat) (f : Nat → Bool) (w : World) (hr : Holds w w.heap.size A (W * H) f) (hW0 : 1 ≤ W) (hW : W ≤ 64) (hH0 : 1 ≤ H) (hH : H ≤ 64) :
    Calls Try.prog 102 #[.agg #[.int .i64 W, .int .i64 H, .slice A (W * H) c]] w (OkRef w W H fun i => !f i) := by
  have hN : W * H ≤ 4096 := Nat.mul_le_mul hW hH
  have hN0 : 0 < W * H := Nat.mul_pos hW0 hH0
  have HR := Lib.hid hr
  clear hr
  go_enter Try.func102, Try.ntmps102
  go_wp2_with fail
  refine (rchk_valid A c _ hW0 hW hH0 hH).mono ?_
  rintro e w1 ⟨rfl, hb1⟩
  obtain ⟨hbox1, hbox2, hbel1, hsz1⟩ := after2 hb1
  clear hb1
  obtain ⟨q0, q1, q2, q3, q4, q5, q6⟩ := hbox1.all
  go_wp2_with fail
  refine (twin_some W H A (W * H) c f _ (by omega) hN0 ((HR.out.below hbel1).more hbel1.size)).mono ?_
  rintro e w2 ⟨k, d, rfl, hk, hrow, hb2⟩
  have hbox3 := hbox2.below hb2 (by omega)
  have hbel2 := hbel1.trans (hb2.mono hbel1.size)
  have hsz2 := hb2.size
  have hkl := hrow.lt
  clear hb2 q0 q1 q2 q3 q4 q5 q6
  have R0 := Lib.hid (⟨Box.new w2 W H (.slice (some ⟨k, 0, none⟩) (W * H) d), hbox3.alloc _, (hrow.alloc _).congr (fun i _ => by simp), hbel2.alloc hbel2.size _⟩ :
    NotRel w (w2.alloc (.cells #[.int .i64 W, .int .i64 H, .slice (some ⟨k, 0, none⟩) (W * H) d] 24)) W H f (w.heap.size + 1) w2.heap.size k d 0)
  clear hbox1 hbox2 hbox3 hrow
  go_wp2
  go_loopw [5] (fun i wr => ∃ j : Nat, j ≤ W * H ∧ i = .int .i64 j ∧ NotRel w wr W H f (w.heap.size + 1) w2.heap.size k d j) (fun i _ => W * H - (intOf i).toNat)
  case atStart => exact ⟨0, Nat.zero_le _, rfl, R0.out⟩
  case round =>
    obtain ⟨j, hj, rfl, R⟩ := hrel
    obtain ⟨q0, q1, q2, q3, q4, q5, q6⟩ := R.out.all
    by_cases hlt : j < W * H
    · obtain ⟨u, hu⟩ : ∃ u, f j = u := ⟨_, rfl⟩
      have c1 := R.row.cell hlt
      simp only [Nat.lt_irrefl, if_false, hu] at c1
      have c2 := R.row.free j
      have HU := Lib.hid hu
      have HR2 := Lib.hid R
      have hkw := R.row.lt
      clear hu R
      have y1 : (0 : Int) ≤ (j : Int) := by omega
      have y2 : (j : Int) < (W : Int) * (H : Int) := by have := Int.ofNat_lt.2 hlt; simpa using this
      go_wp2
      go_still_tail 10, (by kernel_rfl)
      change wpList _ _ _ _ _ wr.drew
      go_wp2
      refine ⟨⟨j + 1, by omega, by go_num, ⟨HR2.out.out.drew.far (by simp; omega) _, HR2.out.res.drew.far (by simp; omega) _, ((HR2.out.row.drew.set_ j (!u)).congr fun i hi => ?_), HR2.out.bel.drew.setCell (by simp; omega) _⟩⟩, by simp [intOf]; omega⟩
      by_cases e : i = j
      · subst e; simp [HU.out]
      · rw [if_neg e]
        by_cases e' : i < j
        · rw [if_pos e', if_pos (by omega)]
        · rw [if_neg e', if_neg (by omega)]
    · have e : j = W * H := by omega
      subst e
      obtain ⟨p0, p1, p2, p3, p4, p5, p6⟩ := R.res.all
      have HR2 := Lib.hid R
      clear R
      go_wp2
      refine bodyPost_ret (v := .tuple #[.agg #[.int .i64 W, .int .i64 H, .slice (some ⟨k, 0, none⟩) (W * H) d], .int .i64 0]) (by simp [results, Try.results102, go_sem, p0, p1, p2]) rfl ?_
      exact fin_ref (by omega) (by omega) (HR2.out.row.congr fun i hi => by simp [hi]) HR2.out.bel
set_option maxHeartbeats 400000 in
theorem set_any (W H : Int) (k n c : Nat) (x y : Int) (u : Bool) (F : Nat → Bool) (w : World) (hr : Row w k n F) (hm : n ≤ 5000) (hW0 : 0 ≤ W) (hW : W ≤ 64) (hx0 : 0 ≤ x) (hx : x < 64) (hy0 : 0 ≤ y) (hy : y < 64) (hi : (y * W + x).toNat < n) :
    Calls Try.prog 100 #[.agg #[.int .i64 W, .int .i64 H, .slice (some ⟨k, 0, none⟩) n c], .int .i64 x, .int .i64 y, .bool u] w fun e w' => e = .returned (.tuple #[]) ∧ Row w' k n (fun j => if j = (y * W + x).toNat then u else F j) ∧ But k w w' := by
  obtain ⟨h1, h2⟩ := mul_bd hW0 hW hy0 hy
  have h3 : y * W + x < (n : Int) := by omega
  have hc := hr.cell hi
  have hf := hr.free (y * W + x).toNat
  have hl := hr.lt
  have HR := Lib.hid hr
  clear hr
  go_enter Try.func100, Try.ntmps100
  go_wp2
  go_end0
  refine ⟨rfl, ?_, ?_⟩
  · exact (HR.out.set_ _ _).alloc _
  · refine ⟨rfl, rfl, rfl, by simp [World.setCell], fun b hb hne => ?_⟩
    rw [Below.heap_alloc _ _ _ (by simpa [World.setCell] using hb), Below.heap_setCell _ _ _ _ hne]
theorem set_nat (W H : Nat) (k c : Nat) (x y : Int) (u : Bool) (F : Nat → Bool) (w : World) (hr : Row w k (W * H) F) (hW : W ≤ 64) (hH : H ≤ 64) (i j : Nat) (hx : x = i) (hy : y = j) (hi : i < W) (hj : j < H) :
    Calls Try.prog 100 #[.agg #[.int .i64 W, .int .i64 H, .slice (some ⟨k, 0, none⟩) (W * H) c], .int .i64 x, .int .i64 y, .bool u] w fun e w' => e = .returned (.tuple #[]) ∧ Row w' k (W * H) (fun l => if l = j * W + i then u else F l) ∧ But k w w' := by
  subst hx hy
  have h1 := ix_bd hi hj
  have h2 : W * H ≤ 4096 := Nat.mul_le_mul hW hH
  have e : ((j : Int) * (W : Int) + (i : Int)).toNat = j * W + i := by
    have : ((j : Int) * (W : Int) + (i : Int)) = ((j * W + i : Nat) : Int) := by simp
    rw [this, Int.toNat_natCast]
  have h := set_any W H k (W * H) c i j u F w hr (by omega) (by omega) (by omega) (by omega) (by omega) (by omega) (by omega) (by rw [e]; exact h1)
  rw [e] at h
  exact h
set_option maxHeartbeats 400000 in
theorem zero_int (Wi Hi : Int) (W H : Nat) (eW : Wi = W) (eH : Hi = H) (hW : W ≤ 64) (hH : H ≤ 64) (w : World) :
    Calls Try.prog 99 #[.int .i64 Wi, .int .i64 Hi] w fun e w' => ∃ k, e = .returned (.agg #[.int .i64 W, .int .i64 H, .slice (some ⟨k, 0, none⟩) (W * H) (W * H)]) ∧ w.heap.size ≤ k ∧ Row w' k (W * H) (fun _ => false) ∧ Below w.heap.size w w' := by
  subst eW eH
  have hN : W * H ≤ 4096 := Nat.mul_le_mul hW hH
  have hNi : (W : Int) * (H : Int) ≤ 4096 := by have := Int.ofNat_le.2 hN; simpa using this
  have hNi0 : 0 ≤ (W : Int) * (H : Int) := by have := Int.natCast_nonneg (W * H); simpa using this
  have hmk := make_run W H hN
  go_enter Try.func99, Try.ntmps99
  go_wp2
  refine bodyPost_ret (v := .agg #[.int .i64 W, .int .i64 H, .slice (some ⟨w.heap.size + 1, 0, none⟩) (W * H) (W * H)]) (by simp [results, Try.results99, go_sem]) rfl ⟨_, rfl, by omega, ?_, ?_⟩
  · have h := Row.made (w.alloc (.cells #[.int .i64 W, .int .i64 H, .slice (some ⟨w.heap.size + 1, 0, none⟩) (W * H) (W * H)] 24)) (W * H)
    simpa using h
  · exact ((Below.refl _ _).alloc (Nat.le_refl _) _).alloc (by simp) _
set_option maxHeartbeats 800000 in
theorem rmirror_err (W H : Int) (A : Option Addr) (n c : Nat) (axis : Int) (w : World) (err : Int) (hn : n ≤ 4200) (hx : chk W H n = err) (hne : (err != 0) = true) :
    Calls Try.prog 136 #[.agg #[.int .i64 W, .int .i64 H, .slice A n c], .int .i64 axis] w (ErrGrid w err) := by
  have HC := Lib.hid (rchk_err (A := A) (c := c) hn hx)
  clear hx
  go_enter Try.func136, Try.ntmps136
  go_wp2_with fail
  refine (HC.out _).mono ?_
  rintro e w1 ⟨rfl, hb1⟩
  obtain ⟨hbox1, hbox2, hbel1, hsz1⟩ := after2 hb1
  clear hb1
  obtain ⟨q0, q1, q2, q3, q4, q5, q6⟩ := hbox1.all
  go_wp2_with fail
  refine (HC.out _).mono ?_
  rintro e w2 ⟨rfl, hb2⟩
  have hbox3 := hbox2.below hb2 (by omega)
  have hbel2 := hbel1.trans (hb2.mono hbel1.size)
  clear hb2 q0 q1 q2 q3 q4 q5 q6
  obtain ⟨p0, p1, p2, p3, p4, p5, p6⟩ := hbox3.all
  go_wp2
  refine bodyPost_ret (v := .tuple #[.agg #[.int .i64 0, .int .i64 0, .slice none 0 0], .int .i64 err]) (by simp [results, Try.results136, go_sem, p0, p1, p2]) rfl ?_
  exact fin_err (by omega) hbel2
set_option maxHeartbeats 800000 in
theorem rmirror_arg (W H : Nat) (A : Option Addr) (c : Nat) (axis : Int) (w : World) (hW0 : 1 ≤ W) (hW : W ≤ 64) (hH0 : 1 ≤ H) (hH : H ≤ 64) (h0 : ¬ axis = 0) (h1 : ¬ axis = 1) :
    Calls Try.prog 136 #[.agg #[.int .i64 W, .int .i64 H, .slice A (W * H) c], .int .i64 axis] w (ErrGrid w 2) := by
  have z0 : (axis != 0) = true := by simp [h0]
  have z1 : (axis != 1) = true := by simp [h1]
  go_enter Try.func136, Try.ntmps136
  go_wp2_with fail
  refine (rchk_valid A c _ hW0 hW hH0 hH).mono ?_
  rintro e w1 ⟨rfl, hb1⟩
  obtain ⟨hbox1, hbox2, hbel1, hsz1⟩ := after2 hb1
  clear hb1
  obtain ⟨q0, q1, q2, q3, q4, q5, q6⟩ := hbox1.all
  obtain ⟨p0, p1, p2, p3, p4, p5, p6⟩ := hbox2.all
  go_wp2
  refine bodyPost_ret (v := .tuple #[.agg #[.int .i64 0, .int .i64 0, .slice none 0 0], .int .i64 2]) (by simp [results, Try.results136, go_sem, p0, p1, p2]) rfl ?_
  exact fin_err (by omega) hbel1
set_option maxHeartbeats 800000 in
theorem rmirror_ok0 (W H : Nat) (A : Option Addr) (c : Nat) (f : Nat → Bool) (w : World) (hr : Holds w w.heap.size A (W * H) f) (hW0 : 1 ≤ W) (hW : W ≤ 64) (hH0 : 1 ≤ H) (hH : H ≤ 64) :
    Calls Try.prog 136 #[.agg #[.int .i64 W, .int .i64 H, .slice A (W * H) c], .int .i64 0] w (OkGrid w W H fun i => (fun x y => f (y * W + (W - 1 - x))) (i % W) (i / W)) := by
  have HR := Lib.hid hr
  clear hr
  go_enter Try.func136, Try.ntmps136
  go_wp2_with fail
  refine (rchk_valid A c _ hW0 hW hH0 hH).mono ?_
  rintro e w1 ⟨rfl, hb1⟩
  obtain ⟨hbox1, hbox2, hbel1, hsz1⟩ := after2 hb1
  clear hb1
  obtain ⟨q0, q1, q2, q3, q4, q5, q6⟩ := hbox1.all
  go_wp2_with fail
  refine (zero_int _ _ W H (rfl) (rfl) hW hH _).mono ?_
  rintro e w2 ⟨k, rfl, hk, hrow, hb⟩
  have R0 := Lib.hid (⟨(hbox1.below hb (by omega)).alloc _, (hbox2.below hb (by omega)).alloc _, Box.new w2 W H _, (hrow.alloc _).congr (fun i _ => by rw [cp_zero]),
    HR.out.below ((hbel1.trans (hb.mono hbel1.size)).alloc (Nat.le_trans hbel1.size hb.size) _), (hbel1.trans (hb.mono hbel1.size)).alloc (Nat.le_trans hbel1.size hb.size) _, by omega, by omega, hrow.lt⟩ :
    DR w (w2.alloc (.cells #[.int .i64 W, .int .i64 H, .slice (some ⟨k, 0, none⟩) (W * H) (W * H)] 24)) W H A c f (w.heap.size + 1) w2.heap.size k W H (cp (· % W) (· / W) (fun x y => f (y * W + (W - 1 - x))) 0 0))
  clear hbox1 hbox2 hbel1 hb hrow q0 q1 q2 q3 q4 q5 q6
  have R00 := R0.out
  obtain ⟨q0, q1, q2, q3, q4, q5⟩ := R00.six
  clear R00
  go_wp2
  clear q0 q1 q2 q3 q4 q5
  go_loopw [7] (fun i wr => ∃ x : Nat, x ≤ W ∧ i = .int .i64 x ∧ DR w wr W H A c f (w.heap.size + 1) w2.heap.size k W H (cp (· % W) (· / W) (fun x y => f (y * W + (W - 1 - x))) x 0)) (fun i _ => W - (intOf i).toNat)
  case atStart => exact ⟨0, Nat.zero_le _, rfl, R0.out⟩
  case round =>
    obtain ⟨x, hx, rfl, R⟩ := hrel
    obtain ⟨wo, rfl⟩ : ∃ wo : World, wo = wr := ⟨_, rfl⟩
    obtain ⟨q0, q1, q2, q3, q4, q5⟩ := R.six
    by_cases hlx : x < W
    · have R1 := Lib.hid R
      clear R
      go_wp2
      clear q0 q1 q2 q3 q4 q5
      go_loopw [8] (fun i wr => ∃ y : Nat, y ≤ H ∧ i = .int .i64 y ∧ DR w wr W H A c f (w.heap.size + 1) w2.heap.size k W H (cp (· % W) (· / W) (fun x y => f (y * W + (W - 1 - x))) x y)) (fun i _ => H - (intOf i).toNat)
      case atStart => exact ⟨0, Nat.zero_le _, rfl, R1.out⟩
      case round =>
        obtain ⟨y, hy, rfl, R⟩ := hrel
        obtain ⟨q0, q1, q2, q3, q4, q5⟩ := R.six
        have R2 := Lib.hid R
        clear R
        by_cases hly : y < H
        · have HK := Lib.hid (fun w' (h : Below wr.heap.size wr w') => (R2.out.next h).six)
          have HA := Lib.hid (fun w' (h : Below wr.heap.size wr w') => at_nat W H A c ((W : Int) - 1 - (x : Int)) ((y : Int)) f w' w.heap.size (R2.out.next h).cells (Nat.le_trans R2.out.bel.size h.size) hW hH (W - 1 - x) (y) (by omega) (by omega) (by omega) (by omega))
          have e0 : IntKind.i64.wrap ((W : Int) - 1) = (W : Int) - 1 := IntWalk.i64_in _ (by omega)
          have e1 : IntKind.i64.wrap ((W : Int) - 1 - (x : Int)) = (W : Int) - 1 - (x : Int) := IntWalk.i64_in _ (by omega)
          go_wp2
          go_region_held3 (fun w' => w'.cell? ⟨w.heap.size, 0, none⟩ = some (.int .i64 W) ∧ w'.cell? ⟨w.heap.size, 1, none⟩ = some (.int .i64 H) ∧ w'.cell? ⟨w.heap.size, 2, none⟩ = some (.slice A (W * H) c) ∧ w'.cell? ⟨w2.heap.size, 0, none⟩ = some (.int .i64 W) ∧ w'.cell? ⟨w2.heap.size, 1, none⟩ = some (.int .i64 H) ∧ w'.cell? ⟨w2.heap.size, 2, none⟩ = some (.slice (some ⟨k, 0, none⟩) (W * H) (W * H)))
            (first
              | exact hS3
              | exact HK.out _ hb2'
              | exact HK.out _ (Below.refl _ _).drew)
            (first
              | (go_at_call 73
                 refine (HA.out _ (Below.refl _ _).drew).mono ?_
                 rintro e w3 ⟨rfl, hb2⟩
                 have hb2' : Below wr.heap.size wr w3 := (Below.refl _ _).drew.trans hb2)
              | (go_at_call 100
                 refine (set_nat W H k (W * H) x y _ _ _ (R2.out.next hb2').row hW hH x y rfl rfl hlx hly).mono ?_
                 rintro e w4 ⟨rfl, hr3, hb3⟩
                 have hR3 := Lib.hid ((R2.out.next hb2').but hb3 hr3)
                 have hS3 := hR3.out.six))
          clear e0 e1
          go_wp2
          exact ⟨⟨y + 1, by omega, by go_num, hR3.out.congr fun i hi => cp_succ (plain_at hlx hi)⟩, by simp [intOf]; omega⟩
        · have e : y = H := by omega
          subst e
          go_wp2
          exact ⟨⟨x + 1, by omega, by go_num, R2.out.congr fun i hi => cp_next (div_bd hi)⟩, by simp [intOf]; omega⟩
    · have e : x = W := by omega
      subst e
      obtain ⟨p0, p1, p2, p3, p4, p5, p6⟩ := R.res.all
      have R1 := Lib.hid R
      clear R
      go_wp2
      refine bodyPost_ret (v := .tuple #[.agg #[.int .i64 x, .int .i64 H, .slice (some ⟨k, 0, none⟩) (x * H) (x * H)], .int .i64 0]) (by simp [results, Try.results136, go_sem, p0, p1, p2]) rfl ?_
      have s1 := R1.out.s1
      exact fin_ok (by omega) (by omega) (R1.out.row.congr fun i hi => cp_all (Nat.mod_lt _ (by omega))) R1.out.bel
set_option maxHeartbeats 800000 in
theorem rmirror_ok1 (W H : Nat) (A : Option Addr) (c : Nat) (f : Nat → Bool) (w : World) (hr : Holds w w.heap.size A (W * H) f) (hW0 : 1 ≤ W) (hW : W ≤ 64) (hH0 : 1 ≤ H) (hH : H ≤ 64) :
    Calls Try.prog 136 #[.agg #[.int .i64 W, .int .i64 H, .slice A (W * H) c], .int .i64 1] w (OkGrid w W H fun i => (fun x y => f ((H - 1 - y) * W + x)) (i % W) (i / W)) := by
  have HR := Lib.hid hr
  clear hr
  go_enter Try.func136, Try.ntmps136
  go_wp2_with fail
  refine (rchk_valid A c _ hW0 hW hH0 hH).mono ?_
  rintro e w1 ⟨rfl, hb1⟩
  obtain ⟨hbox1, hbox2, hbel1, hsz1⟩ := after2 hb1
  clear hb1
  obtain ⟨q0, q1, q2, q3, q4, q5, q6⟩ := hbox1.all
  go_wp2_with fail
  refine (zero_int _ _ W H (rfl) (rfl) hW hH _).mono ?_
  rintro e w2 ⟨k, rfl, hk, hrow, hb⟩
  have R0 := Lib.hid (⟨(hbox1.below hb (by omega)).alloc _, (hbox2.below hb (by omega)).alloc _, Box.new w2 W H _, (hrow.alloc _).congr (fun i _ => by rw [cp_zero]),
    HR.out.below ((hbel1.trans (hb.mono hbel1.size)).alloc (Nat.le_trans hbel1.size hb.size) _), (hbel1.trans (hb.mono hbel1.size)).alloc (Nat.le_trans hbel1.size hb.size) _, by omega, by omega, hrow.lt⟩ :
    DR w (w2.alloc (.cells #[.int .i64 W, .int .i64 H, .slice (some ⟨k, 0, none⟩) (W * H) (W * H)] 24)) W H A c f (w.heap.size + 1) w2.heap.size k W H (cp (· % W) (· / W) (fun x y => f ((H - 1 - y) * W + x)) 0 0))
  clear hbox1 hbox2 hbel1 hb hrow q0 q1 q2 q3 q4 q5 q6
  have R00 := R0.out
  obtain ⟨q0, q1, q2, q3, q4, q5⟩ := R00.six
  clear R00
  go_wp2
  clear q0 q1 q2 q3 q4 q5
  go_loopw [7] (fun i wr => ∃ x : Nat, x ≤ W ∧ i = .int .i64 x ∧ DR w wr W H A c f (w.heap.size + 1) w2.heap.size k W H (cp (· % W) (· / W) (fun x y => f ((H - 1 - y) * W + x)) x 0)) (fun i _ => W - (intOf i).toNat)
  case atStart => exact ⟨0, Nat.zero_le _, rfl, R0.out⟩
  case round =>
    obtain ⟨x, hx, rfl, R⟩ := hrel
    obtain ⟨wo, rfl⟩ : ∃ wo : World, wo = wr := ⟨_, rfl⟩
    obtain ⟨q0, q1, q2, q3, q4, q5⟩ := R.six
    by_cases hlx : x < W
    · have R1 := Lib.hid R
      clear R
      go_wp2
      clear q0 q1 q2 q3 q4 q5
      go_loopw [8] (fun i wr => ∃ y : Nat, y ≤ H ∧ i = .int .i64 y ∧ DR w wr W H A c f (w.heap.size + 1) w2.heap.size k W H (cp (· % W) (· / W) (fun x y => f ((H - 1 - y) * W + x)) x y)) (fun i _ => H - (intOf i).toNat)
      case atStart => exact ⟨0, Nat.zero_le _, rfl, R1.out⟩
      case round =>
        obtain ⟨y, hy, rfl, R⟩ := hrel
        obtain ⟨q0, q1, q2, q3, q4, q5⟩ := R.six
        have R2 := Lib.hid R
        clear R
        by_cases hly : y < H
        · have HK := Lib.hid (fun w' (h : Below wr.heap.size wr w') => (R2.out.next h).six)
          have HA := Lib.hid (fun w' (h : Below wr.heap.size wr w') => at_nat W H A c ((x : Int)) ((H : Int) - 1 - (y : Int)) f w' w.heap.size (R2.out.next h).cells (Nat.le_trans R2.out.bel.size h.size) hW hH (x) (H - 1 - y) (by omega) (by omega) (by omega) (by omega))
          have e0 : IntKind.i64.wrap ((H : Int) - 1) = (H : Int) - 1 := IntWalk.i64_in _ (by omega)
          have e1 : IntKind.i64.wrap ((H : Int) - 1 - (y : Int)) = (H : Int) - 1 - (y : Int) := IntWalk.i64_in _ (by omega)
          go_wp2
          go_region_held3 (fun w' => w'.cell? ⟨w.heap.size, 0, none⟩ = some (.int .i64 W) ∧ w'.cell? ⟨w.heap.size, 1, none⟩ = some (.int .i64 H) ∧ w'.cell? ⟨w.heap.size, 2, none⟩ = some (.slice A (W * H) c) ∧ w'.cell? ⟨w2.heap.size, 0, none⟩ = some (.int .i64 W) ∧ w'.cell? ⟨w2.heap.size, 1, none⟩ = some (.int .i64 H) ∧ w'.cell? ⟨w2.heap.size, 2, none⟩ = some (.slice (some ⟨k, 0, none⟩) (W * H) (W * H)))
            (first
              | exact hS3
              | exact HK.out _ hb2'
              | exact HK.out _ (Below.refl _ _).drew)
            (first
              | (go_at_call 73
                 refine (HA.out _ (Below.refl _ _).drew).mono ?_
                 rintro e w3 ⟨rfl, hb2⟩
                 have hb2' : Below wr.heap.size wr w3 := (Below.refl _ _).drew.trans hb2)
              | (go_at_call 100
                 refine (set_nat W H k (W * H) x y _ _ _ (R2.out.next hb2').row hW hH x y rfl rfl hlx hly).mono ?_
                 rintro e w4 ⟨rfl, hr3, hb3⟩
                 have hR3 := Lib.hid ((R2.out.next hb2').but hb3 hr3)
                 have hS3 := hR3.out.six))
          clear e0 e1
          go_wp2
          exact ⟨⟨y + 1, by omega, by go_num, hR3.out.congr fun i hi => cp_succ (plain_at hlx hi)⟩, by simp [intOf]; omega⟩
        · have e : y = H := by omega
          subst e
          go_wp2
          exact ⟨⟨x + 1, by omega, by go_num, R2.out.congr fun i hi => cp_next (div_bd hi)⟩, by simp [intOf]; omega⟩
    · have e : x = W := by omega
      subst e
      obtain ⟨p0, p1, p2, p3, p4, p5, p6⟩ := R.res.all
      have R1 := Lib.hid R
      clear R
      go_wp2
      refine bodyPost_ret (v := .tuple #[.agg #[.int .i64 x, .int .i64 H, .slice (some ⟨k, 0, none⟩) (x * H) (x * H)], .int .i64 0]) (by simp [results, Try.results136, go_sem, p0, p1, p2]) rfl ?_
      have s1 := R1.out.s1
      exact fin_ok (by omega) (by omega) (R1.out.row.congr fun i hi => cp_all (Nat.mod_lt _ (by omega))) R1.out.bel
/-- What Same answers: it reads the two grids' sides and cells. -/
theorem same_any (W H X Y : Int) (A D : Option Addr) (n m c d : Nat) (f g : Nat → Bool) (w : World) (hn : n ≤ 5000) (hr : Holds w w.heap.size A n f) (hs : Holds w w.heap.size D m g) :
    Calls Try.prog 89 #[.agg #[.int .i64 W, .int .i64 H, .slice A n c], .agg #[.int .i64 X, .int .i64 Y, .slice D m d]] w fun e w' => e = .returned (.bool (decide (W = X ∧ H = Y ∧ n = m ∧ ∀ i, i < n → f i = g i))) ∧ Below w.heap.size w w' := by
  obtain ⟨hb1, hb2, hb3⟩ := boxes2 w W H X Y (.slice A n c) (.slice D m d)
  have B0 := Lib.hid hb3
  have hr1 := (hr.below hb3).more hb3.size
  have hs1 := (hs.below hb3).more hb3.size
  clear hr hs
  by_cases eW : W = X
  · by_cases eH : H = Y
    · by_cases en : n = m
      · subst eW eH en
        have HE := Lib.hid (equal_any A D n c d f g _ hn hr1 hs1)
        have z1 : (W == W) = true := by simp
        have z2 : (H == H) = true := by simp
        have e : decide (W = W ∧ H = H ∧ n = n ∧ ∀ i, i < n → f i = g i) = decide (∀ i, i < n → f i = g i) := by simp
        rw [e]
        generalize decide (∀ i, i < n → f i = g i) = u at *
        clear hb1 hb2 hb3 hr1 hs1 e
        go_enter Try.func89, Try.ntmps89
        go_wp2_with fail
        refine HE.out.mono ?_
        rintro e w2 ⟨rfl, hb⟩
        have B1 := Lib.hid (B0.out.trans (hb.mono B0.out.size))
        clear hb HE B0
        go_wp2
        go_ret
        exact ⟨rfl, B1.out⟩
      · have HE := Lib.hid (equal_len A D n m c d ((w.alloc (.cells #[.int .i64 W, .int .i64 H, .slice A n c] 24)).alloc (.cells #[.int .i64 X, .int .i64 Y, .slice D m d] 24)) en)
        subst eW eH
        have z1 : (W == W) = true := by simp
        have z2 : (H == H) = true := by simp
        have e : decide (W = W ∧ H = H ∧ n = m ∧ ∀ i, i < n → f i = g i) = false := by simp [en]
        rw [e]
        clear hb1 hb2 hb3 hr1 hs1 e
        go_enter Try.func89, Try.ntmps89
        go_wp2_with fail
        refine HE.out.mono ?_
        rintro e w2 ⟨rfl, rfl⟩
        go_wp2
        go_ret
        exact ⟨rfl, B0.out⟩
    · have z1 : (W == X) = true := by simp [eW]
      have z2 : (H == Y) = false := by simp [eH]
      have e : decide (W = X ∧ H = Y ∧ n = m ∧ ∀ i, i < n → f i = g i) = false := by simp [eH]
      rw [e]
      clear hb1 hb2 hb3 hr1 hs1 e eW eH
      go_enter Try.func89, Try.ntmps89
      go_wp2
      go_ret
      exact ⟨rfl, B0.out⟩
  · have z1 : (W == X) = false := by simp [eW]
    have e : decide (W = X ∧ H = Y ∧ n = m ∧ ∀ i, i < n → f i = g i) = false := by simp [eW]
    rw [e]
    clear hb1 hb2 hb3 hr1 hs1 e eW
    go_enter Try.func89, Try.ntmps89
    go_wp2
    go_ret
    exact ⟨rfl, B0.out⟩
theorem drewN_two (w : World) (m n : Nat) : (w.drewN m).drewN n = w.drewN (m + n) := by
  show World.drewN (World.drewN w m) n = _; unfold World.drewN; rw [← Nat.add_assoc]
set_option maxHeartbeats 400000 in
theorem both_any (W H X Y : Int) (A D : Option Addr) (n c m d : Nat) (w : World) (hn : n ≤ 4200) (hm : m ≤ 4200) : Calls Try.prog 135 #[.agg #[.int .i64 W, .int .i64 H, .slice A n c], .agg #[.int .i64 X, .int .i64 Y, .slice D m d]] w fun e w' => e = .returned (.int .i64 (if chk W H n = 0 then chk X Y m else chk W H n)) ∧ Below w.heap.size w w' := by
  have HC := Lib.hid (fun v => rchk_any W H A n c v hn)
  have HD := Lib.hid (fun v => rchk_any X Y D m d v hm)
  have B0 := Lib.hid (show Box ((w.alloc (.cells #[.int .i64 W, .int .i64 H, .slice A n c] 24)).alloc (.cells #[.int .i64 X, .int .i64 Y, .slice D m d] 24)) w.heap.size W H (.slice A n c) from (Box.new _ _ _ _).alloc _)
  have B1 := Lib.hid (show Box ((w.alloc (.cells #[.int .i64 W, .int .i64 H, .slice A n c] 24)).alloc (.cells #[.int .i64 X, .int .i64 Y, .slice D m d] 24)) (w.heap.size + 1) X Y (.slice D m d) from by have h := Box.new (w.alloc (.cells #[.int .i64 W, .int .i64 H, .slice A n c] 24)) X Y (.slice D m d); rwa [World.size_alloc] at h)
  have L0 := Lib.hid (show Below w.heap.size w ((w.alloc (.cells #[.int .i64 W, .int .i64 H, .slice A n c] 24)).alloc (.cells #[.int .i64 X, .int .i64 Y, .slice D m d] 24)) from ((Below.refl _ _).alloc (Nat.le_refl _) _).alloc (by simp) _)
  by_cases hx : chk W H n = 0
  · rw [if_pos hx]
    rw [hx] at HC
    have HX := Lib.hid hx
    obtain ⟨z, hz⟩ : ∃ z, chk X Y m = z := ⟨_, rfl⟩
    rw [hz] at HD ⊢
    clear hx hz
    go_enter Try.func135, Try.ntmps135
    obtain ⟨q0, q1, q2, q3, q4, q5, q6⟩ := B0.out.all
    go_wp2_with fail
    refine (HC.out _).mono ?_
    rintro e w1 ⟨rfl, hb⟩
    have L1 := Lib.hid (L0.out.trans (hb.mono L0.out.size))
    clear q0 q1 q2 q3 q4 q5 q6
    obtain ⟨q0, q1, q2, q3, q4, q5, q6⟩ := (B1.out.below hb B1.out.lt).all
    clear hb
    go_wp2_with fail
    refine (HD.out _).mono ?_
    rintro e w2 ⟨rfl, hb⟩
    have L2 := Lib.hid (L1.out.trans (hb.mono L1.out.size))
    clear hb
    go_wp2
    go_ret
    exact ⟨rfl, L2.out⟩
  · rw [if_neg hx]
    obtain ⟨z, hz⟩ : ∃ z, chk W H n = z := ⟨_, rfl⟩
    rw [hz] at HC hx ⊢
    have hne : (z != 0) = true := by simpa using hx
    clear hx hz
    go_enter Try.func135, Try.ntmps135
    obtain ⟨q0, q1, q2, q3, q4, q5, q6⟩ := B0.out.all
    go_wp2_with fail
    refine (HC.out _).mono ?_
    rintro e w1 ⟨rfl, hb⟩
    have L1 := Lib.hid (L0.out.trans (hb.mono L0.out.size))
    clear q0 q1 q2 q3 q4 q5 q6
    obtain ⟨q0, q1, q2, q3, q4, q5, q6⟩ := (B0.out.below hb B0.out.lt).all
    clear hb
    go_wp2_with fail
    refine (HC.out _).mono ?_
    rintro e w2 ⟨rfl, hb⟩
    have L2 := Lib.hid (L1.out.trans (hb.mono L1.out.size))
    clear hb
    go_wp2
    go_ret
    exact ⟨rfl, L2.out⟩
/-- How many numbers below n have p. -/
def cnt (p : Nat → Bool) : Nat → Nat
  | 0 => 0
  | n + 1 => cnt p n + if p n = true then 1 else 0
theorem cnt_s (p : Nat → Bool) (n : Nat) : cnt p (n + 1) = cnt p n + if p n = true then 1 else 0 := rfl
theorem cnt_yes {p : Nat → Bool} {n : Nat} (h : p n = true) : cnt p (n + 1) = cnt p n + 1 := by rw [cnt_s, if_pos h]
theorem cnt_no {p : Nat → Bool} {n : Nat} (h : p n = false) : cnt p (n + 1) = cnt p n := by rw [cnt_s, if_neg (by rw [h]; decide)]; rfl
theorem cnt_le (p : Nat → Bool) (n : Nat) : cnt p n ≤ n := by
  induction n with
  | zero => exact Nat.le_refl 0
  | succ n ih => rw [cnt_s]; split <;> omega
theorem cnt_imp {p q : Nat → Bool} {n : Nat} (h : ∀ j, j < n → p j = true → q j = true) : cnt p n ≤ cnt q n := by
  induction n with
  | zero => exact Nat.le_refl 0
  | succ n ih =>
    have := ih fun j hj => h j (by omega)
    rw [cnt_s, cnt_s]
    by_cases e : p n = true
    · rw [if_pos e, if_pos (h n (by omega) e)]; omega
    · rw [if_neg e]; omega
theorem cnt_congr {p q : Nat → Bool} {n : Nat} (h : ∀ j, j < n → p j = q j) : cnt p n = cnt q n :=
  Nat.le_antisymm (cnt_imp fun j hj e => by rw [← h j hj]; exact e) (cnt_imp fun j hj e => by rw [h j hj]; exact e)
theorem cnt_none {p : Nat → Bool} {n : Nat} (h : ∀ j, j < n → p j = false) : cnt p n = 0 := by
  induction n with
  | zero => rfl
  | succ n ih => rw [cnt_no (h n (by omega)), ih fun j hj => h j (by omega)]
set_option maxHeartbeats 400000 in
theorem count_err (W H : Int) (A : Option Addr) (n c : Nat) (w : World) (err : Int) (hn : n ≤ 4200) (hx : chk W H n = err) (hne : (err != 0) = true) :
    Calls Try.prog 60 #[.agg #[.int .i64 W, .int .i64 H, .slice A n c]] w fun e w' => e = .returned (.tuple #[.int .i64 0, .int .i64 err]) ∧ Below w.heap.size w w' := by
  have HC := Lib.hid (chk_err (A := A) (c := c) hn hx)
  clear hx
  have hbel := Lib.hid ((Below.refl w.heap.size w).alloc (Nat.le_refl _) (.cells #[.int .i64 W, .int .i64 H, .slice A n c] 24))
  go_enter Try.func60, Try.ntmps60
  go_wp2_with fail
  refine (HC.out _).mono ?_
  rintro e w1 ⟨rfl, hb1⟩
  go_wp2
  go_ret2
  exact ⟨rfl, hbel.out.trans (hb1.mono hbel.out.size)⟩
set_option maxHeartbeats 800000 in
theorem count_ok (W H : Nat) (A : Option Addr) (c : Nat) (f : Nat → Bool) (w : World) (hr : Holds w w.heap.size A (W * H) f) (hW0 : 1 ≤ W) (hW : W ≤ 64) (hH0 : 1 ≤ H) (hH : H ≤ 64) :
    Calls Try.prog 60 #[.agg #[.int .i64 W, .int .i64 H, .slice A (W * H) c]] w fun e w' => e = .returned (.tuple #[.int .i64 (cnt f (W * H)), .int .i64 0]) ∧ Below w.heap.size w w' := by
  have hN0 : 0 < W * H := Nat.mul_pos hW0 hH0
  have hN : W * H ≤ 4096 := Nat.mul_le_mul hW hH
  obtain ⟨b, o, rfl, hlt, hc⟩ := hr hN0
  have HC := Lib.hid hc
  clear hc
  have hbx := Lib.hid (Box.new w W H (.slice (some ⟨b, o, none⟩) (W * H) c))
  have hbel := Lib.hid ((Below.refl w.heap.size w).alloc (Nat.le_refl _) (.cells #[.int .i64 W, .int .i64 H, .slice (some ⟨b, o, none⟩) (W * H) c] 24))
  go_enter Try.func60, Try.ntmps60
  go_wp2_with fail
  refine (chk_valid (some ⟨b, o, none⟩) c _ hW0 hW hH0 hH).mono ?_
  rintro e w1 ⟨rfl, hb1⟩
  obtain ⟨q0, q1, q2, q3, q4, q5, q6⟩ := (hbx.out.below hb1 (by simp)).all
  have hbel1 := Lib.hid (hbel.out.trans (hb1.mono hbel.out.size))
  clear hb1
  have HC1 := Lib.hid (fun i (hi : i < W * H) => (hbel1.out.cell (p := ⟨b, o + i, none⟩) hlt).trans (HC.out i hi))
  go_wp2
  clear q0 q1 q2 q3 q4 q5
  go_loop [5, 16] (fun t i => ∃ k : Nat, k ≤ W * H ∧ i = .int .i64 k ∧ t = .int .i64 (cnt f k : Int)) (fun _ i => W * H - (intOf i).toNat)
  case atStart => exact ⟨0, Nat.zero_le _, rfl, rfl⟩
  case round =>
    obtain ⟨k, hk, rfl, rfl⟩ := hrel
    have hle := cnt_le f k
    by_cases hlk : k < W * H
    · have c1 := HC1.out k hlk
      obtain ⟨u, hu⟩ : ∃ u, f k = u := ⟨_, rfl⟩
      rw [hu] at c1
      have hs : cnt f (k + 1) = cnt f k + if u then 1 else 0 := by rw [cnt, hu]
      have HS := Lib.hid hs
      clear hu hs
      have y1 : (k : Int) < (W : Int) * (H : Int) := by have := Int.ofNat_lt.2 hlk; simpa using this
      generalize hm : cnt f k = m at *
      have HM := Lib.hid hm
      clear hm
      cases u
      all_goals
        go_wp2
        refine ⟨⟨k + 1, by omega, by go_num, congrArg (Value.int .i64) (by rw [HS.out]; simp)⟩, by simp [intOf]; omega⟩
    · have e : k = W * H := by omega
      subst e
      go_wp2
      go_ret2
      exact ⟨rfl, hbel1.out⟩
end Go.Proofs.Ytgmcbdnfgdmmaaa
