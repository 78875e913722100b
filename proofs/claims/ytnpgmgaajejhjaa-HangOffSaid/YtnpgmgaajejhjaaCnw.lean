/- Errors of the program's Crossings and Count; both sides; what the statement FloatCounts stands on. -/
import Derived.Test.YtnpgmgaajejhjaaPcs
namespace Go.Proofs.Ytnpgmgaajejhjaa
open Go.RowKit Go.Shelf
set_option maxRecDepth 100000
set_option linter.unusedVariables false
set_option linter.unusedSimpArgs false

theorem pcs_err (W H : Int) (A : Option Addr) (n c : Nat) (b : Bool) (a : Int) (w : World) (hn : n ≤ 4200) (z : Int) (hx : chk W H n = z) (hne : (z != 0) = true) :
    Calls Try.prog 22 #[.agg #[.int .i64 W, .int .i64 H, .slice A n c], .bool b, .int .i64 a] w fun e w' => e = .returned (.tuple #[.int .i64 0, .int .i64 z]) ∧ Below w.heap.size w w' := by
  have HK := Lib.hid (fun u => (show Calls Try.prog 64 #[.agg #[.int .i64 W, .int .i64 H, .slice A n c]] u fun e w' => e = .returned (.int .i64 z) ∧ Below u.heap.size u w' from by have h := chk_any W H A n c u (by omega); rwa [hx] at h))
  have X0 := Lib.hid (((Box.new w W H (.slice A n c)).alloc (.cells #[.int .i64 0] 3)).alloc (.cells #[.int .i64 0] 27))
  have hu0 : Below w.heap.size w (((w.alloc (.cells #[.int .i64 W, .int .i64 H, .slice A n c] 24)).alloc (.cells #[.int .i64 0] 3)).alloc (.cells #[.int .i64 0] 27)) := (((Below.refl _ _).alloc (Nat.le_refl _) _).alloc (by simp) _).alloc (by simp; omega) _
  have ha0 : Boxed (((w.alloc (.cells #[.int .i64 W, .int .i64 H, .slice A n c] 24)).alloc (.cells #[.int .i64 0] 3)).alloc (.cells #[.int .i64 0] 27)) (w.heap.size + 1) 3 (.int .i64 0) := by
    have h := (Boxed.new (w.alloc (.cells #[.int .i64 W, .int .i64 H, .slice A n c] 24)) 3 (.int .i64 0)).alloc (.cells #[.int .i64 0] 27)
    rwa [World.size_alloc] at h
  have hb0 : Boxed (((w.alloc (.cells #[.int .i64 W, .int .i64 H, .slice A n c] 24)).alloc (.cells #[.int .i64 0] 3)).alloc (.cells #[.int .i64 0] 27)) (w.heap.size + 2) 27 (.int .i64 0) := by
    have h := Boxed.new ((w.alloc (.cells #[.int .i64 W, .int .i64 H, .slice A n c] 24)).alloc (.cells #[.int .i64 0] 3)) 27 (.int .i64 0)
    rwa [World.size_alloc, World.size_alloc] at h
  clear hx
  go_enter Try.func22, Try.ntmps22
  obtain ⟨q0, q1, q2, q3, q4, q5, q6⟩ := X0.out.all
  go_wp2_with fail
  refine (HK.out _).mono ?_
  rintro e w1 ⟨rfl, hb⟩
  have hu1 := hu0.trans (hb.mono hu0.size)
  have a1 : Boxed w1 (w.heap.size + 1) 3 (.int .i64 0) := (hb.block _ ha0.lt).trans ha0
  have b1 : Boxed w1 (w.heap.size + 2) 27 (.int .i64 0) := (hb.block _ hb0.lt).trans hb0
  have p1 := a1.cell
  have p2 := b1.cell
  have p3 := a1.frozen
  have p4 := b1.frozen
  clear X0 hu0 ha0 hb0 hb q0 q1 q2 q3 q4 q5 q6 HK
  go_wp2
  have hD : w.heap.size + 2 < w1.heap.size := b1.lt
  have e1 := (show Boxed ((w1.setCell ⟨w.heap.size + 1, 0, none⟩ (.int .i64 0)).setCell ⟨w.heap.size + 1 + 1, 0, none⟩ (.int .i64 z)) (w.heap.size + 1) 3 (.int .i64 0) from (a1.set (.int .i64 0)).other (by omega) _).cell
  have e2 := (show Boxed ((w1.setCell ⟨w.heap.size + 1, 0, none⟩ (.int .i64 0)).setCell ⟨w.heap.size + 1 + 1, 0, none⟩ (.int .i64 z)) (w.heap.size + 1 + 1) 27 (.int .i64 z) from (Boxed.other (B' := w.heap.size + 1) b1 (by omega) (.int .i64 0)).set (.int .i64 z)).cell
  have hbP : Below w.heap.size w ((w1.setCell ⟨w.heap.size + 1, 0, none⟩ (.int .i64 0)).setCell ⟨w.heap.size + 1 + 1, 0, none⟩ (.int .i64 z)) := (hu1.setCell (by simp) _).setCell (by simp; omega) _
  exact ⟨rfl, .tuple #[.int .i64 0, .int .i64 z], by simp [results, Try.results22, go_sem, e1, e2], rfl, hbP⟩
theorem pct_err (W H : Int) (A : Option Addr) (n c : Nat) (w : World) (hn : n ≤ 4200) (z : Int) (hx : chk W H n = z) (hne : (z != 0) = true) :
    Calls Try.prog 19 #[.agg #[.int .i64 W, .int .i64 H, .slice A n c]] w fun e w' => e = .returned (.tuple #[.int .i64 0, .int .i64 0, .int .i64 z]) ∧ Below w.heap.size w w' := by
  have HK := Lib.hid (fun u => (show Calls Try.prog 64 #[.agg #[.int .i64 W, .int .i64 H, .slice A n c]] u fun e w' => e = .returned (.int .i64 z) ∧ Below u.heap.size u w' from by have h := chk_any W H A n c u (by omega); rwa [hx] at h))
  have X0 := Lib.hid (((Box.new w W H (.slice A n c)).alloc (.cells #[.int .i64 0] 3)).alloc (.cells #[.int .i64 0] 3))
  have hu0 : Below w.heap.size w (((w.alloc (.cells #[.int .i64 W, .int .i64 H, .slice A n c] 24)).alloc (.cells #[.int .i64 0] 3)).alloc (.cells #[.int .i64 0] 3)) := (((Below.refl _ _).alloc (Nat.le_refl _) _).alloc (by simp) _).alloc (by simp; omega) _
  have ha0 : Boxed (((w.alloc (.cells #[.int .i64 W, .int .i64 H, .slice A n c] 24)).alloc (.cells #[.int .i64 0] 3)).alloc (.cells #[.int .i64 0] 3)) (w.heap.size + 1) 3 (.int .i64 0) := by
    have h := (Boxed.new (w.alloc (.cells #[.int .i64 W, .int .i64 H, .slice A n c] 24)) 3 (.int .i64 0)).alloc (.cells #[.int .i64 0] 3)
    rwa [World.size_alloc] at h
  have hb0 : Boxed (((w.alloc (.cells #[.int .i64 W, .int .i64 H, .slice A n c] 24)).alloc (.cells #[.int .i64 0] 3)).alloc (.cells #[.int .i64 0] 3)) (w.heap.size + 2) 3 (.int .i64 0) := by
    have h := Boxed.new ((w.alloc (.cells #[.int .i64 W, .int .i64 H, .slice A n c] 24)).alloc (.cells #[.int .i64 0] 3)) 3 (.int .i64 0)
    rwa [World.size_alloc, World.size_alloc] at h
  clear hx
  go_enter Try.func19, Try.ntmps19
  obtain ⟨q0, q1, q2, q3, q4, q5, q6⟩ := X0.out.all
  go_wp2_with fail
  refine (HK.out _).mono ?_
  rintro e w1 ⟨rfl, hb⟩
  have hu1 := hu0.trans (hb.mono hu0.size)
  have a1 : Boxed w1 (w.heap.size + 1) 3 (.int .i64 0) := (hb.block _ ha0.lt).trans ha0
  have b1 : Boxed w1 (w.heap.size + 2) 3 (.int .i64 0) := (hb.block _ hb0.lt).trans hb0
  have p1 := a1.cell
  have p2 := b1.cell
  have p3 := a1.frozen
  have p4 := b1.frozen
  clear X0 hu0 ha0 hb0 hb q0 q1 q2 q3 q4 q5 q6 HK
  go_wp2
  have hD : w.heap.size + 2 < w1.heap.size := b1.lt
  have e1 := (show Boxed ((w1.setCell ⟨w.heap.size + 1, 0, none⟩ (.int .i64 0)).setCell ⟨w.heap.size + 1 + 1, 0, none⟩ (.int .i64 0)) (w.heap.size + 1) 3 (.int .i64 0) from (a1.set (.int .i64 0)).other (by omega) _).cell
  have e2 := (show Boxed ((w1.setCell ⟨w.heap.size + 1, 0, none⟩ (.int .i64 0)).setCell ⟨w.heap.size + 1 + 1, 0, none⟩ (.int .i64 0)) (w.heap.size + 1 + 1) 3 (.int .i64 0) from (Boxed.other (B' := w.heap.size + 1) b1 (by omega) (.int .i64 0)).set (.int .i64 0)).cell
  have hbP : Below w.heap.size w ((w1.setCell ⟨w.heap.size + 1, 0, none⟩ (.int .i64 0)).setCell ⟨w.heap.size + 1 + 1, 0, none⟩ (.int .i64 0)) := (hu1.setCell (by simp) _).setCell (by simp; omega) _
  exact ⟨rfl, .tuple #[.int .i64 0, .int .i64 0, .int .i64 z], by simp [results, Try.results19, go_sem, e1, e2], rfl, hbP⟩
theorem nat_of {a : Int} (h : 0 ≤ a) : ∃ k : Nat, a = (k : Nat) := ⟨a.toNat, (Int.toNat_of_nonneg h).symm⟩
/-- Both Crossings of the same grid give the same. -/
theorem pcs_two (W H : Int) (A : Option Addr) (n c : Nat) (f : Nat → Bool) (b : Bool) (a : Int) (w : World) (hn : n ≤ 4200) (hr : Holds w w.heap.size A n f) :
    ∃ r1 r2 : Int, ∀ u, Below w.heap.size w u → (Calls Try.prog 22 #[.agg #[.int .i64 W, .int .i64 H, .slice A n c], .bool b, .int .i64 a] u fun e w' => e = .returned (.tuple #[.int .i64 r1, .int .i64 r2]) ∧ Below u.heap.size u w') ∧
      (Calls Try.prog 29 #[.agg #[.int .i64 W, .int .i64 H, .slice A n c], .bool b, .int .i64 a] u fun e w' => e = .returned (.tuple #[.int .i64 r1, .int .i64 r2]) ∧ Below u.heap.size u w') := by
  by_cases hz : chk W H n = 0
  case neg =>
    have hne : (chk W H n != 0) = true := by simpa using hz
    exact ⟨0, chk W H n, fun u hu => ⟨pcs_err W H A n c b a u hn _ rfl hne, rcs_err W H A n c b a u hn _ rfl hne⟩⟩
  obtain ⟨h1, h2, h3, h4, h5⟩ := chk_ok hz
  obtain ⟨W, rfl⟩ := nat_of (show (0 : Int) ≤ W by omega)
  obtain ⟨H, rfl⟩ := nat_of (show (0 : Int) ≤ H by omega)
  have h6 : n = W * H := by exact_mod_cast h5
  subst h6
  have k1 : 1 ≤ W := by omega
  have k2 : W ≤ 64 := by omega
  have k3 : 1 ≤ H := by omega
  have k4 : H ≤ 64 := by omega
  have k0 : 0 < W * H := Nat.mul_pos k1 k3
  obtain ⟨q, o, rfl, hq, hc⟩ := hr k0
  have hHu : ∀ u, Below w.heap.size w u → Holds u u.heap.size (some ⟨q, o, none⟩) (W * H) f := fun u hu => (hr.below hu).more hu.size
  have hql : ∀ u, Below w.heap.size w u → q < u.heap.size := fun u hu => Nat.lt_of_lt_of_le hq hu.size
  have hcl : ∀ u, Below w.heap.size w u → ∀ i, i < W * H → u.cell? ⟨q, o + i, none⟩ = some (.bool (f i)) := fun u hu i hi => (hu.cell (p := ⟨q, o + i, none⟩) hq).trans (hc i hi)
  have out : ∀ u, Below w.heap.size w u → (∀ i, i < W + H → ((thn W i).1 == b && (((thn W i).2 : Nat) : Int) == a) = false) → Calls Try.prog 22 #[.agg #[.int .i64 (W : Nat), .int .i64 (H : Nat), .slice (some ⟨q, o, none⟩) (W * H) c], .bool b, .int .i64 a] u fun e w' => e = .returned (.tuple #[.int .i64 0, .int .i64 2]) ∧ Below u.heap.size u w' := fun u hu hne =>
    pcs_gen W H q o c f b a (W + H) u k1 k2 k3 k4 (hql u hu) (hcl u hu) hz (Nat.le_refl _) (fun i hi _ => hne i hi) (fun h => absurd h (Nat.lt_irrefl _)) 0 2 (fun h => absurd h (Nat.lt_irrefl _)) (fun _ => ⟨rfl, rfl⟩)
  cases b
  · by_cases g1 : a < 0
    · refine ⟨0, 2, fun u hu => ⟨out u hu fun i hi => ?_, rcs_lo_false W H _ c a u hn hz g1⟩⟩
      unfold thn; split <;> simp <;> omega
    · obtain ⟨k, rfl⟩ := nat_of (show (0 : Int) ≤ a by omega)
      by_cases g2 : (H : Int) ≤ (k : Int)
      · refine ⟨0, 2, fun u hu => ⟨out u hu fun i hi => ?_, rcs_hi_false W H _ c _ u hn hz g2⟩⟩
        unfold thn; split <;> simp <;> omega
      · have hk : k < H := by omega
        have e : thn W (W + k) = (false, k) := by unfold thn; rw [if_neg (by omega)]; congr 1; omega
        refine ⟨(cro (nc W H false) (sd W H f false k) (nc W H false) : Nat), 0, fun u hu => ⟨?_, rcs_ok_false W H _ c f k u (hHu u hu) k1 k2 k3 k4 hn hz hk⟩⟩
        refine pcs_gen W H q o c f false _ (W + k) u k1 k2 k3 k4 (hql u hu) (hcl u hu) hz (by omega) (fun i hi hne => ?_) (fun _ => ?_) _ _ (fun _ => ⟨?_, rfl⟩) (fun h => absurd h (by omega))
        · unfold thn; split <;> simp <;> omega
        · rw [e]; exact ⟨rfl, rfl⟩
        · rw [e]
  · by_cases g1 : a < 0
    · refine ⟨0, 2, fun u hu => ⟨out u hu fun i hi => ?_, rcs_lo_true W H _ c a u hn hz g1⟩⟩
      unfold thn; split <;> simp <;> omega
    · obtain ⟨k, rfl⟩ := nat_of (show (0 : Int) ≤ a by omega)
      by_cases g2 : (W : Int) ≤ (k : Int)
      · refine ⟨0, 2, fun u hu => ⟨out u hu fun i hi => ?_, rcs_hi_true W H _ c _ u hn hz g2⟩⟩
        unfold thn; split <;> simp <;> omega
      · have hk : k < W := by omega
        have e : thn W k = (true, k) := by unfold thn; rw [if_pos hk]
        refine ⟨(cro (nc W H true) (sd W H f true k) (nc W H true) : Nat), 0, fun u hu => ⟨?_, rcs_ok_true W H _ c f k u (hHu u hu) k1 k2 k3 k4 hn hz hk⟩⟩
        refine pcs_gen W H q o c f true _ k u k1 k2 k3 k4 (hql u hu) (hcl u hu) hz (by omega) (fun i hi hne => ?_) (fun _ => ?_) _ _ (fun _ => ⟨?_, rfl⟩) (fun h => absurd h (by omega))
        · unfold thn; split <;> simp <;> omega
        · rw [e]; exact ⟨rfl, rfl⟩
        · rw [e]
/-- Both Count of the same grid give the same. -/
theorem pct_two (W H : Int) (A : Option Addr) (n c : Nat) (f : Nat → Bool) (w : World) (hn : n ≤ 4200) (hr : Holds w w.heap.size A n f) :
    ∃ r1 r2 r3 : Int, ∀ u, Below w.heap.size w u → (Calls Try.prog 19 #[.agg #[.int .i64 W, .int .i64 H, .slice A n c]] u fun e w' => e = .returned (.tuple #[.int .i64 r1, .int .i64 r2, .int .i64 r3]) ∧ Below u.heap.size u w') ∧
      (Calls Try.prog 30 #[.agg #[.int .i64 W, .int .i64 H, .slice A n c]] u fun e w' => e = .returned (.tuple #[.int .i64 r1, .int .i64 r2, .int .i64 r3]) ∧ Below u.heap.size u w') := by
  by_cases hz : chk W H n = 0
  case neg =>
    have hne : (chk W H n != 0) = true := by simpa using hz
    exact ⟨0, 0, chk W H n, fun u hu => ⟨pct_err W H A n c u hn _ rfl hne, rct_err W H A n c u hn _ rfl hne⟩⟩
  obtain ⟨h1, h2, h3, h4, h5⟩ := chk_ok hz
  obtain ⟨W, rfl⟩ := nat_of (show (0 : Int) ≤ W by omega)
  obtain ⟨H, rfl⟩ := nat_of (show (0 : Int) ≤ H by omega)
  have h6 : n = W * H := by exact_mod_cast h5
  subst h6
  have k1 : 1 ≤ W := by omega
  have k2 : W ≤ 64 := by omega
  have k3 : 1 ≤ H := by omega
  have k4 : H ≤ 64 := by omega
  have k0 : 0 < W * H := Nat.mul_pos k1 k3
  obtain ⟨q, o, rfl, hq, hc⟩ := hr k0
  exact ⟨_, _, 0, fun u hu => ⟨pct_ok W H q o c f u k1 k2 k3 k4 (Nat.lt_of_lt_of_le hq hu.size) (fun i hi => (hu.cell (p := ⟨q, o + i, none⟩) hq).trans (hc i hi)) hz, rct_ok W H _ c f u ((hr.below hu).more hu.size) k1 k2 k3 k4 hn hz⟩⟩
/-- A slice that a call has made, or of no elements. -/
structure WR (v : World) (lo : Nat) (D : Option Addr) (n : Nat) (f : Nat → Bool) : Prop where
  h : 0 < n → ∃ k, D = some ⟨k, 0, none⟩ ∧ lo ≤ k ∧ Row v k n f
theorem WR.next {v v' : World} {lo : Nat} {D : Option Addr} {n : Nat} {f : Nat → Bool} (h : WR v lo D n f) (hb : Below v.heap.size v v') : WR v' lo D n f := ⟨fun hn => (h.h hn).imp fun _ ⟨a, b, c⟩ => ⟨a, b, c.below hb c.lt⟩⟩
theorem WR.holds {v : World} {lo : Nat} {D : Option Addr} {n : Nat} {f : Nat → Bool} (h : WR v lo D n f) : Holds v v.heap.size D n f := fun hn => by
  obtain ⟨k, rfl, _, hr⟩ := h.h hn
  exact hr.holds hr.lt hn
theorem twin_wr (W H : Int) (A : Option Addr) (n c : Nat) (f : Nat → Bool) (w : World) (hn : n ≤ 4200) (hr : Holds w w.heap.size A n f) :
    Calls Try.prog 28 #[.agg #[.int .i64 W, .int .i64 H, .slice A n c]] w fun e w' => ∃ D d, e = .returned (.agg #[.int .i64 W, .int .i64 H, .slice D n d]) ∧ WR w' w.heap.size D n f ∧ Below w.heap.size w w' := by
  rcases Nat.eq_zero_or_pos n with rfl | h0
  · exact (twin_none W H A c w).mono fun e w' ⟨k, he, hb⟩ => ⟨_, _, he, ⟨fun h => absurd h (by omega)⟩, hb⟩
  · exact (twin_some W H A n c f w hn h0 hr).mono fun e w' ⟨k, d, he, hk, hrow, hb⟩ => ⟨_, _, he, ⟨fun _ => ⟨k, rfl, hk, hrow⟩⟩, hb⟩
theorem rsame_self (W H : Int) (A D : Option Addr) (n c d : Nat) (f : Nat → Bool) (w : World) (hn : n ≤ 5000) (h1 : Holds w w.heap.size A n f) (h2 : Holds w w.heap.size D n f) :
    Calls Try.prog 31 #[.agg #[.int .i64 W, .int .i64 H, .slice A n c], .agg #[.int .i64 W, .int .i64 H, .slice D n d]] w fun e w' => e = .returned (.bool true) ∧ Below w.heap.size w w' :=
  (rsame_loop W H W H A D n c d f f w hn rfl rfl h1 h2).mono fun e w' ⟨a, b⟩ => ⟨by rw [a]; exact ret_bool (by simp), b⟩
set_option maxHeartbeats 1600000 in
theorem counts_any (W H : Int) (A : Option Addr) (n c : Nat) (f : Nat → Bool) (b : Bool) (a : Int) (w : World) (hr : Holds w w.heap.size A n f) :
    Calls Try.prog 5 #[.agg #[.int .i64 W, .int .i64 H, .slice A n c], .bool b, .int .i64 a] w fun e w' => e = .returned (.bool true) ∧ Below w.heap.size w w' := by
  have X0 := Lib.hid (Box.new w W H (.slice A n c))
  have LB0 := Lib.hid (show Below w.heap.size w (w.alloc (.cells #[.int .i64 W, .int .i64 H, .slice A n c] 24)) from (Below.refl _ _).alloc (Nat.le_refl _) _)
  have HR := Lib.hid (fun v (h : Below w.heap.size w v) => (hr.below h).more h.size)
  by_cases hg : 600 < n
  case pos =>
    have HG := Lib.hid (fun u => great8_any W H A n c u true (by simpa using hg))
    clear hg hr HR
    go_enter Try.func5, Try.ntmps5
    obtain ⟨q0, q1, q2, q3, q4, q5, q6⟩ := X0.out.all
    go_wp2_with fail
    clear q0 q1 q2 q3 q4 q5 q6
    refine (HG.out _).mono ?_
    rintro e w1 ⟨rfl, hb⟩
    have X1 := Lib.hid (X0.out.below hb X0.out.lt)
    have LB1 := Lib.hid (LB0.out.trans (hb.mono LB0.out.size))
    clear hb X0 LB0
    go_wp2
    go_ret
    exact ⟨rfl, LB1.out⟩
  have HG := Lib.hid (fun u => great8_any W H A n c u false (by simpa using hg))
  obtain ⟨r1, r2, h2⟩ := pcs_two W H A n c f b a w (by omega) hr
  obtain ⟨s1, s2, s3, h3⟩ := pct_two W H A n c f w (by omega) hr
  have HC := Lib.hid h2
  have HN := Lib.hid h3
  have hn : n ≤ 600 := by omega
  have e1 : (r1 == r1) = true := by simp
  have e2 : (r2 == r2) = true := by simp
  have e3 : (s1 == s1) = true := by simp
  have e4 : (s2 == s2) = true := by simp
  have e5 : (s3 == s3) = true := by simp
  clear hg h2 h3 hr
  go_enter Try.func5, Try.ntmps5
  obtain ⟨q0, q1, q2, q3, q4, q5, q6⟩ := X0.out.all
  go_wp2_with fail
  clear q0 q1 q2 q3 q4 q5 q6
  refine (HG.out _).mono ?_
  rintro e w1 ⟨rfl, hb⟩
  have X1 := Lib.hid (X0.out.below hb X0.out.lt)
  have LB1 := Lib.hid (LB0.out.trans (hb.mono LB0.out.size))
  clear hb X0 LB0
  obtain ⟨q0, q1, q2, q3, q4, q5, q6⟩ := X1.out.all
  go_wp2_with fail
  clear q0 q1 q2 q3 q4 q5 q6
  refine (twin_wr W H A n c f _ (by omega) (HR.out _ LB1.out)).mono ?_
  rintro e w2 ⟨D, d, rfl, hwr, hb⟩
  have hba := (show Below _ _ (w2.alloc (.cells #[.int .i64 W, .int .i64 H, .slice D n d] 24)) from hb.trans (((Below.refl _ _).alloc (Nat.le_refl _) _).mono hb.size))
  have T2 := Lib.hid (Box.new w2 W H (.slice D n d))
  have Q2 := Lib.hid (hwr.next ((Below.refl _ _).alloc (Nat.le_refl _) (.cells #[.int .i64 W, .int .i64 H, .slice D n d] 24)))
  clear hb hwr
  have X2 := Lib.hid (X1.out.below hba X1.out.lt)
  have LB2 := Lib.hid (LB1.out.trans (hba.mono LB1.out.size))
  clear hba X1 LB1
  obtain ⟨q0, q1, q2, q3, q4, q5, q6⟩ := X2.out.all
  go_wp2_with fail
  clear q0 q1 q2 q3 q4 q5 q6
  refine ((HC.out _ LB2.out).1).mono ?_
  rintro e w3 ⟨rfl, hb⟩
  have X3 := Lib.hid (X2.out.below hb X2.out.lt)
  have LB3 := Lib.hid (LB2.out.trans (hb.mono LB2.out.size))
  have T3 := Lib.hid (T2.out.below hb T2.out.lt)
  have Q3 := Lib.hid (Q2.out.next hb)
  clear hb X2 LB2 T2 Q2
  obtain ⟨q0, q1, q2, q3, q4, q5, q6⟩ := X3.out.all
  go_wp2_with fail
  clear q0 q1 q2 q3 q4 q5 q6
  refine ((HC.out _ LB3.out).2).mono ?_
  rintro e w4 ⟨rfl, hb⟩
  have X4 := Lib.hid (X3.out.below hb X3.out.lt)
  have LB4 := Lib.hid (LB3.out.trans (hb.mono LB3.out.size))
  have T4 := Lib.hid (T3.out.below hb T3.out.lt)
  have Q4 := Lib.hid (Q3.out.next hb)
  clear hb X3 LB3 T3 Q3
  obtain ⟨q0, q1, q2, q3, q4, q5, q6⟩ := X4.out.all
  go_wp2_with fail
  clear q0 q1 q2 q3 q4 q5 q6
  refine ((HN.out _ LB4.out).1).mono ?_
  rintro e w5 ⟨rfl, hb⟩
  have X5 := Lib.hid (X4.out.below hb X4.out.lt)
  have LB5 := Lib.hid (LB4.out.trans (hb.mono LB4.out.size))
  have T5 := Lib.hid (T4.out.below hb T4.out.lt)
  have Q5 := Lib.hid (Q4.out.next hb)
  clear hb X4 LB4 T4 Q4
  obtain ⟨q0, q1, q2, q3, q4, q5, q6⟩ := X5.out.all
  go_wp2_with fail
  clear q0 q1 q2 q3 q4 q5 q6
  refine ((HN.out _ LB5.out).2).mono ?_
  rintro e w6 ⟨rfl, hb⟩
  have X6 := Lib.hid (X5.out.below hb X5.out.lt)
  have LB6 := Lib.hid (LB5.out.trans (hb.mono LB5.out.size))
  have T6 := Lib.hid (T5.out.below hb T5.out.lt)
  have Q6 := Lib.hid (Q5.out.next hb)
  clear hb X5 LB5 T5 Q5
  obtain ⟨q0, q1, q2, q3, q4, q5, q6⟩ := X6.out.all
  obtain ⟨r0, r1, r2, r3, r4, r5, r6⟩ := T6.out.all
  go_wp2_with fail
  clear q0 q1 q2 q3 q4 q5 q6 r0 r1 r2 r3 r4 r5 r6
  refine (rsame_self W H A D n c d f _ (by omega) (HR.out _ LB6.out) Q6.out.holds).mono ?_
  rintro e w7 ⟨rfl, hb⟩
  have X7 := Lib.hid (X6.out.below hb X6.out.lt)
  have LB7 := Lib.hid (LB6.out.trans (hb.mono LB6.out.size))
  have T7 := Lib.hid (T6.out.below hb T6.out.lt)
  have Q7 := Lib.hid (Q6.out.next hb)
  clear hb X6 LB6 T6 Q6
  go_wp2
  go_ret
  exact ⟨rfl, LB7.out⟩
end Go.Proofs.Ytnpgmgaajejhjaa
