/- Runs of both sides, by contracts. -/
import Derived.Test.YtmakjdfkldacaaaCou
import Derived.Test.YtmakjdfkldacaaaVar
import Derived.Test.YtmakjdfkldacaaaGa
import Derived.Test.YtmakjdfkldacaaaStm
namespace Go.Proofs.Ytmakjdfkldacaaa
open Go.RowKit
set_option maxRecDepth 100000
set_option linter.unusedVariables false
set_option linter.unusedSimpArgs false

theorem bdn9 {B : Nat} {a w : World} (h : Below B a w) (k : Nat) : Below B a (w.drewN k) := ⟨h.os, h.tape, h.output, h.size, h.block⟩
theorem own_lit1 (w : World) (base : Nat) (y : Int) (f : Nat → Int) (hb : base ≤ w.heap.size) (hy : f 0 = y) : L2.Own (w.alloc (.cells #[.int .i64 y] 3)) base (.slice (some ⟨w.heap.size, 0, none⟩) 1 1) 1 f := by
  unfold L2.Own
  refine ⟨by rw [L2.news_length], .inr ⟨w.heap.size, 1, #[.int .i64 y], rfl, hb, World.alloc_heap_new _ _, Nat.le_refl _, by unfold maxLen; omega, rfl, ?_⟩⟩
  simp [L2.news, ← hy, List.range_succ]
theorem news_set (n : Nat) (f : Nat → Int) (i : Nat) (y : Int) : (L2.news n f).set i (.int .i64 y) = L2.news n (fun j => if j = i then y else f j) := by
  apply List.ext_getElem?
  intro j
  rw [List.getElem?_set]
  unfold L2.news
  simp only [List.getElem?_map, List.length_map, List.length_range]
  by_cases e : i = j
  · subst e
    by_cases h : i < n
    · simp [h]
    · simp [h]
  · rw [if_neg e]
    have e' : ¬ j = i := fun h => e h.symm
    by_cases h : j < n
    · rw [List.getElem?_range h]; simp [e']
    · simp [h]
theorem own_put {w : World} {base n g c : Nat} {f : Nat → Int} (h : L2.Own w base (.slice (some ⟨g, 0, none⟩) n c) n f) (i : Nat) (y : Int) : L2.Own (w.setCell ⟨g, i, none⟩ (.int .i64 y)) base (.slice (some ⟨g, 0, none⟩) n c) n (fun j => if j = i then y else f j) := by
  rcases h with ⟨hl, ⟨hv, _⟩ | ⟨g', cap, cur, hv, hg, hc, h1, h2, h3, h4⟩⟩
  · cases hv
  · cases hv
    refine ⟨by rw [L2.news_length]; omega, .inr ⟨g, c, cur.setIfInBounds i (.int .i64 y), rfl, hg, by simp [World.setCell, Array.getElem?_modify, hc], h1, h2, by simpa using h3, ?_⟩⟩
    rw [Array.toList_setIfInBounds, List.take_set, h4, news_set]
theorem own_some {w : World} {base n : Nat} {v : Value} {f : Nat → Int} (h : L2.Own w base v n f) (hn : 0 < n) : ∃ g c, v = .slice (some ⟨g, 0, none⟩) n c ∧ base ≤ g ∧ L2.Row w g n f := by
  obtain ⟨A, c, rfl, _, h1⟩ := h.out
  obtain ⟨g, rfl, h2, h3⟩ := h1 hn
  exact ⟨g, c, rfl, h2, h3⟩
theorem rl_upd (g : Nat → Bool) (k j : Nat) {L : Nat} (h : cn g (k + 1) = L + 1) : (if j = L then rlI g k L + 1 else rlI g k j) = rlI g (k + 1) j := by
  unfold rlI
  rw [rl_s, h]
  by_cases e : j = L
  · subst e; simp
  · have e' : ¬ L = j := fun h => e h.symm
    simp [e, e']
/-- What Runs answers for a row that has none. -/
theorem lout_none (w : World) (z : Int) : LOut w 0 (fun _ => 0) z (.returned (.tuple #[.slice none 0 0, .int .i64 z])) w := ⟨none, 0, rfl, fun h => absurd h (by omega), Below.refl _ _⟩
theorem prun_many (A : Option Addr) (n c : Nat) (w : World) (h : 64 < n) : Calls Try.prog 20 #[.slice A n c] w (LOut w 0 (fun _ => 0) 4) := by
  have x1 : (64 : Int) < (n : Int) := by omega
  have HF := Lib.hid (lout_none w 4)
  go_enter Try.func20, Try.ntmps20
  go_wp2
  go_ret2
  exact HF.out
theorem prun_few (A : Option Addr) (n c : Nat) (w : World) (h : n < 2) : Calls Try.prog 20 #[.slice A n c] w (LOut w 0 (fun _ => 0) 8) := by
  have x1 : ¬ (64 : Int) < (n : Int) := by omega
  have x2 : (n : Int) < 2 := by omega
  have HF := Lib.hid (lout_none w 8)
  go_enter Try.func20, Try.ntmps20
  go_wp2
  go_ret2
  exact HF.out
theorem prun_bad (b o n c : Nat) (g : Nat → Bool) (w : World) (h2 : 2 ≤ n) (h64 : n ≤ 64) (hc : ∀ i, i < n → w.cell? ⟨b, o + i, none⟩ = some (.bool (g i))) (hg : ¬ (g 0 = true ∧ g (n - 1) = false)) : Calls Try.prog 20 #[.slice (some ⟨b, o, none⟩) n c] w (LOut w 0 (fun _ => 0) 8) := by
  have x1 : ¬ (64 : Int) < (n : Int) := by omega
  have x2 : ¬ (n : Int) < 2 := by omega
  have x3 : (0 : Int) < (n : Int) := by omega
  have HF := Lib.hid (lout_none w 8)
  have c1 := hc 0 (by omega)
  have c2 := hc (n - 1) (by omega)
  rw [Nat.add_zero] at c1
  have e1 : IntKind.i64.wrap ((n : Int) - 1) = ((n - 1 : Nat) : Int) := by rw [show (n : Int) - 1 = ((n - 1 : Nat) : Int) by omega]; exact IntWalk.i64_in _ (by omega)
  have y1 : ((n - 1 : Nat) : Int) < (n : Int) := by omega
  have y2 : (0 : Int) ≤ ((n - 1 : Nat) : Int) := by omega
  clear hc
  generalize g 0 = u at *
  generalize g (n - 1) = v at *
  generalize n - 1 = m at *
  cases u
  · go_enter Try.func20, Try.ntmps20
    go_wp2
    go_ret2
    exact HF.out
  · cases v
    · exact absurd ⟨rfl, rfl⟩ hg
    · go_enter Try.func20, Try.ntmps20
      go_wp2
      go_ret2
      exact HF.out
theorem rrun_many (A : Option Addr) (n c : Nat) (w : World) (h : 64 < n) : Calls Try.prog 25 #[.slice A n c] w (LOut w 0 (fun _ => 0) 4) := by
  have x1 : (64 : Int) < (n : Int) := by omega
  have HF := Lib.hid (lout_none w 4)
  go_enter Try.func25, Try.ntmps25
  go_wp2
  go_ret2
  exact HF.out
theorem rrun_few (A : Option Addr) (n c : Nat) (w : World) (h : n < 2) : Calls Try.prog 25 #[.slice A n c] w (LOut w 0 (fun _ => 0) 8) := by
  have x1 : ¬ (64 : Int) < (n : Int) := by omega
  have x2 : (n : Int) < 2 := by omega
  have HF := Lib.hid (lout_none w 8)
  go_enter Try.func25, Try.ntmps25
  go_wp2
  go_ret2
  exact HF.out
theorem rrun_bad (b o n c : Nat) (g : Nat → Bool) (w : World) (h2 : 2 ≤ n) (h64 : n ≤ 64) (hc : ∀ i, i < n → w.cell? ⟨b, o + i, none⟩ = some (.bool (g i))) (hg : ¬ (g 0 = true ∧ g (n - 1) = false)) : Calls Try.prog 25 #[.slice (some ⟨b, o, none⟩) n c] w (LOut w 0 (fun _ => 0) 8) := by
  have x1 : ¬ (64 : Int) < (n : Int) := by omega
  have x2 : ¬ (n : Int) < 2 := by omega
  have x3 : (0 : Int) < (n : Int) := by omega
  have HF := Lib.hid (lout_none w 8)
  have c1 := hc 0 (by omega)
  have c2 := hc (n - 1) (by omega)
  rw [Nat.add_zero] at c1
  have e1 : IntKind.i64.wrap ((n : Int) - 1) = ((n - 1 : Nat) : Int) := by rw [show (n : Int) - 1 = ((n - 1 : Nat) : Int) by omega]; exact IntWalk.i64_in _ (by omega)
  have y1 : ((n - 1 : Nat) : Int) < (n : Int) := by omega
  have y2 : (0 : Int) ≤ ((n - 1 : Nat) : Int) := by omega
  clear hc
  generalize g 0 = u at *
  generalize g (n - 1) = v at *
  generalize n - 1 = m at *
  cases u
  · go_enter Try.func25, Try.ntmps25
    go_wp2
    go_ret2
    exact HF.out
  · cases v
    · exact absurd ⟨rfl, rfl⟩ hg
    · go_enter Try.func25, Try.ntmps25
      go_wp2
      go_ret2
      exact HF.out
theorem cn_le64 (g : Nat → Bool) (k : Nat) : cn g k ≤ k := cnt_le _ _
theorem bgn_pos {g : Nat → Bool} {k : Nat} (h : k ≠ 0) : bgn g k = (g k != g (k - 1)) := by unfold bgn; simp [h]
theorem cn_yes {g : Nat → Bool} {k : Nat} (h : bgn g k = true) : cn g (k + 1) = cn g k + 1 := cnt_yes h
theorem cn_no {g : Nat → Bool} {k : Nat} (h : bgn g k = false) : cn g (k + 1) = cn g k := cnt_no h
set_option maxHeartbeats 3200000 in
theorem prun_ok (b o n c : Nat) (g : Nat → Bool) (w : World) (hb : b < w.heap.size) (h2 : 2 ≤ n) (h64 : n ≤ 64) (hc : ∀ i, i < n → w.cell? ⟨b, o + i, none⟩ = some (.bool (g i))) (g0 : g 0 = true) (g1 : g (n - 1) = false) : Calls Try.prog 20 #[.slice (some ⟨b, o, none⟩) n c] w (LOut w (cn g n) (rlI g n) 0) := by
  have x1 : ¬ (64 : Int) < (n : Int) := by omega
  have x2 : ¬ (n : Int) < 2 := by omega
  have x3 : (0 : Int) < (n : Int) := by omega
  have c1 := hc 0 (by omega)
  have c2 := hc (n - 1) (by omega)
  rw [Nat.add_zero, g0] at c1
  rw [g1] at c2
  have e1 : IntKind.i64.wrap ((n : Int) - 1) = ((n - 1 : Nat) : Int) := by rw [show (n : Int) - 1 = ((n - 1 : Nat) : Int) by omega]; exact IntWalk.i64_in _ (by omega)
  have y1 : ((n - 1 : Nat) : Int) < (n : Int) := by omega
  have y2 : (0 : Int) ≤ ((n - 1 : Nat) : Int) := by omega
  have HC := Lib.hid (fun u (h : Below w.heap.size w u) i (hi : i < n) => (h.cell (p := ⟨b, o + i, none⟩) hb).trans (hc i hi))
  have HCN := Lib.hid (fun k => cn_le64 g k)
  clear hc g1 g0
  generalize hnm : n - 1 = nm at *
  go_enter Try.func20, Try.ntmps20
  go_wp2
  go_loopw [4, 30] (fun l i wr => ∃ k : Nat, k ≤ n ∧ i = .int .i64 k ∧ Hid (L2.Own wr w.heap.size l (max 1 (cn g k)) (rlI g k)) ∧ Hid (Below w.heap.size w wr)) (fun _ i _ => n - (intOf i).toNat)
  case atStart => exact ⟨0, by omega, rfl, Lib.hid (own_lit1 w w.heap.size 0 _ (Nat.le_refl _) rfl), Lib.hid ((Below.refl _ _).alloc (Nat.le_refl _) _)⟩
  case round =>
    obtain ⟨k, hk, rfl, HO, HB⟩ := hrel
    by_cases hlk : k < n
    · have z1 : (k : Int) < (n : Int) := by omega
      have hcn := HCN.out (k + 1)
      have hcp := cn_pos g k
      obtain ⟨L, hL⟩ : ∃ L, cn g (k + 1) = L + 1 := ⟨cn g (k + 1) - 1, by omega⟩
      have HU := Lib.hid (fun j => rl_upd g k j hL)
      have a1 := HC.out _ HB.out k hlk
      have l1 : IntKind.i64.wrap (((L + 1 : Nat) : Int) - 1) = (L : Int) := by rw [show ((L + 1 : Nat) : Int) - 1 = (L : Int) by omega]; exact IntWalk.i64_in _ (by omega)
      have hL64 : L ≤ 64 := by omega
      have l0 : IntKind.i64.wrap (L : Int) = (L : Int) := IntWalk.i64_in _ (by omega)
      have l2 : (L : Int) < (L : Int) + 1 := by omega
      have l3 : (0 : Int) ≤ (L : Int) := by omega
      have HL := Lib.hid (show max 1 (cn g (k + 1)) = L + 1 by omega)
      rcases Nat.eq_zero_or_pos k with k00 | k0
      · have hL0 : L = 0 := by have := cn_one g; subst k00; omega
        have hown5 : L2.Own wr w.heap.size u4 (L + 1) (rlI g k) := by have h := HO.out; rwa [show max 1 (cn g k) = L + 1 by subst k00; rw [hL0]; rfl] at h
        obtain ⟨gg, cc, rfl, hg5, hrow5⟩ := own_some hown5 (by omega)
        have z0 : ¬ (0 : Int) < (k : Int) := by omega
        have q1 := hrow5.cell (i := L) (by omega); have q2 := hrow5.free L; have HP := Lib.hid (own_put hown5 L (rlI g k L + 1)); have HB5 := Lib.hid (HB.out); have HG := Lib.hid hg5; have hr64 := rl_le g k L; have e5 : IntKind.i64.wrap (rlI g k L + 1) = rlI g k L + 1 := IntWalk.i64_in _ (by unfold rlI; omega); clear hown5 hrow5 hr64; generalize rlI g k L = z at *
        clear hL k00 hL0
        generalize g k = u at *
        go_wp2
        exact ⟨⟨k + 1, by omega, by go_num, by rw [HL.out]; exact Lib.hid (HP.out.congr fun j hj => HU.out j), Lib.hid (HB5.out.setCell (by first | exact HG.out | (simp; exact HG.out)) _)⟩, by simp [intOf]; omega⟩
      · have z0 : (0 : Int) < (k : Int) := by omega
        have a2 := HC.out _ HB.out (k - 1) (by omega)
        have hbg := bgn_pos (g := g) (show k ≠ 0 by omega)
        have e2 : IntKind.i64.wrap ((k : Int) - 1) = ((k - 1 : Nat) : Int) := by rw [show (k : Int) - 1 = ((k - 1 : Nat) : Int) by omega]; exact IntWalk.i64_in _ (by omega)
        have y3 : ((k - 1 : Nat) : Int) < (n : Int) := by omega
        have y4 : (0 : Int) ≤ ((k - 1 : Nat) : Int) := by omega
        have hcp0 : 1 ≤ cn g k := by have := cn_pos g (k - 1); rwa [show k - 1 + 1 = k by omega] at this
        by_cases hu : g k = g (k - 1)
        · have hbf : bgn g k = false := by rw [hbg]; simp [hu]
          have hcc := cn_no hbf
          have hown5 : L2.Own wr w.heap.size u4 (L + 1) (rlI g k) := by have h := HO.out; rwa [show max 1 (cn g k) = L + 1 by omega] at h
          obtain ⟨gg, cc, rfl, hg5, hrow5⟩ := own_some hown5 (by omega)
          have q1 := hrow5.cell (i := L) (by omega); have q2 := hrow5.free L; have HP := Lib.hid (own_put hown5 L (rlI g k L + 1)); have HB5 := Lib.hid (HB.out); have HG := Lib.hid hg5; have hr64 := rl_le g k L; have e5 : IntKind.i64.wrap (rlI g k L + 1) = rlI g k L + 1 := IntWalk.i64_in _ (by unfold rlI; omega); clear hown5 hrow5 hr64; generalize rlI g k L = z at *
          clear hbf hbg hcc hcp0 hL
          rw [hu] at a1
          generalize g (k - 1) = u at *
          clear hu
          generalize k - 1 = km at *
          cases u
          all_goals
            go_wp2
            exact ⟨⟨k + 1, by omega, by go_num, by rw [HL.out]; exact Lib.hid (HP.out.congr fun j hj => HU.out j), Lib.hid (HB5.out.setCell (by first | exact HG.out | (simp; exact HG.out)) _)⟩, by simp [intOf]; omega⟩
        · have hbt : bgn g k = true := by rw [hbg]; simp [hu]
          have hcc := cn_yes hbt
          have hown0 : L2.Own wr w.heap.size u4 L (rlI g k) := by have h := HO.out; rwa [show max 1 (cn g k) = L by omega] at h
          have HZ := Lib.hid (show rlI g k L = 0 from by unfold rlI; rw [rl_new g k L (by omega)]; rfl)
          have hsz := HB.out.size
          have HO0 := Lib.hid hown0
          clear hbt hbg hcc hcp0 hL hown0
          have hu2 : g k = !g (k - 1) := by cases ha : g k <;> cases hb : g (k - 1) <;> simp_all
          rw [hu2] at a1
          clear hu hu2
          generalize g (k - 1) = u at *
          generalize k - 1 = km at *
          cases u
          all_goals
            go_wp2_with (at_builtin; refine L2.app1 _ rfl _ _ (by rfl) w.heap.size (by rfl) HO0.out 0 (by rfl) HZ.out (by omega) hsz ?_; intro v' w5 hown5 hb5; obtain ⟨gg, cc, rfl, hg5, hrow5⟩ := own_some hown5 (by omega); have q1 := hrow5.cell (i := L) (by omega); have q2 := hrow5.free L; have HP := Lib.hid (own_put hown5 L (rlI g k L + 1)); have HB5 := Lib.hid (HB.out.trans hb5); have HG := Lib.hid hg5; have hr64 := rl_le g k L; have e5 : IntKind.i64.wrap (rlI g k L + 1) = rlI g k L + 1 := IntWalk.i64_in _ (by unfold rlI; omega); clear hown5 hrow5 hr64; generalize rlI g k L = z at *)
            exact ⟨⟨k + 1, by omega, by go_num, by rw [HL.out]; exact Lib.hid (HP.out.congr fun j hj => HU.out j), Lib.hid (HB5.out.setCell (by first | exact HG.out | (simp; exact HG.out)) _)⟩, by simp [intOf]; omega⟩
    · have e : k = n := by omega
      subst e
      have z1 : ¬ (k : Int) < (k : Int) := by omega
      have hcp0 : 1 ≤ cn g k := by have := cn_pos g (k - 1); rwa [show k - 1 + 1 = k by omega] at this
      have HF := Lib.hid (lout_end (by have h := HO.out; rwa [show max 1 (cn g k) = cn g k by omega] at h) HB.out)
      go_wp2
      go_ret2
      exact HF.out
set_option maxHeartbeats 3200000 in
theorem rrun_ok (b o n c : Nat) (g : Nat → Bool) (w : World) (hb : b < w.heap.size) (h2 : 2 ≤ n) (h64 : n ≤ 64) (hc : ∀ i, i < n → w.cell? ⟨b, o + i, none⟩ = some (.bool (g i))) (g0 : g 0 = true) (g1 : g (n - 1) = false) : Calls Try.prog 25 #[.slice (some ⟨b, o, none⟩) n c] w (LOut w (cn g n) (rlI g n) 0) := by
  have x1 : ¬ (64 : Int) < (n : Int) := by omega
  have x2 : ¬ (n : Int) < 2 := by omega
  have x3 : (0 : Int) < (n : Int) := by omega
  have c1 := hc 0 (by omega)
  have c2 := hc (n - 1) (by omega)
  rw [Nat.add_zero, g0] at c1
  rw [g1] at c2
  have e1 : IntKind.i64.wrap ((n : Int) - 1) = ((n - 1 : Nat) : Int) := by rw [show (n : Int) - 1 = ((n - 1 : Nat) : Int) by omega]; exact IntWalk.i64_in _ (by omega)
  have y1 : ((n - 1 : Nat) : Int) < (n : Int) := by omega
  have y2 : (0 : Int) ≤ ((n - 1 : Nat) : Int) := by omega
  have HC := Lib.hid (fun u (h : Below w.heap.size w u) i (hi : i < n) => (h.cell (p := ⟨b, o + i, none⟩) hb).trans (hc i hi))
  have HCN := Lib.hid (fun k => cn_le64 g k)
  clear hc g1 g0
  generalize hnm : n - 1 = nm at *
  go_enter Try.func25, Try.ntmps25
  go_wp2
  go_loopw [4, 5] (fun l i wr => ∃ k : Nat, k ≤ n ∧ i = .int .i64 k ∧ Hid (L2.Own wr w.heap.size l (cn g k) (rlI g k)) ∧ Hid (Below w.heap.size w wr)) (fun _ i _ => n - (intOf i).toNat)
  case atStart => exact ⟨0, by omega, rfl, Lib.hid (L2.Own.nil _ _ _), Lib.hid (Below.refl _ _)⟩
  case round =>
    obtain ⟨k, hk, rfl, HO, HB⟩ := hrel
    by_cases hlk : k < n
    · have z1 : (k : Int) < (n : Int) := by omega
      have hcn := HCN.out (k + 1)
      have hcp := cn_pos g k
      obtain ⟨L, hL⟩ : ∃ L, cn g (k + 1) = L + 1 := ⟨cn g (k + 1) - 1, by omega⟩
      have HU := Lib.hid (fun j => rl_upd g k j hL)
      have HL := Lib.hid hL
      have a1 := HC.out _ HB.out k hlk
      have l1 : IntKind.i64.wrap (((L + 1 : Nat) : Int) - 1) = (L : Int) := by rw [show ((L + 1 : Nat) : Int) - 1 = (L : Int) by omega]; exact IntWalk.i64_in _ (by omega)
      have hL64 : L ≤ 64 := by omega
      have l0 : IntKind.i64.wrap (L : Int) = (L : Int) := IntWalk.i64_in _ (by omega)
      have l2 : (L : Int) < (L : Int) + 1 := by omega
      have l3 : (0 : Int) ≤ (L : Int) := by omega
      rcases Nat.eq_zero_or_pos k with k00 | k0
      · have hL0 : L = 0 := by have := cn_one g; subst k00; omega
        have hown0 : L2.Own wr w.heap.size u4 L (rlI g k) := by have h := HO.out; rwa [show cn g k = L by subst k00; rw [hL0]; rfl] at h
        have HZ := Lib.hid (show rlI g k L = 0 from by unfold rlI; subst k00; rfl)
        have hsz := HB.out.size
        have HO0 := Lib.hid hown0
        have z0 : ((k : Int) == 0) = true := by subst k00; rfl
        clear hown0 hL k00 hL0
        generalize g k = u at *
        go_wp2
        go_quiet (fail)
        have HB := Lib.hid (bdn9 HB.out nq)
        have HO0 := Lib.hid (HO0.out.drewN nq)
        have hsz := HB.out.size
        generalize wr.drewN nq = wq at *
        go_wp2_with (at_builtin; refine L2.app1 _ rfl _ _ (by rfl) w.heap.size (by rfl) HO0.out 0 (by rfl) HZ.out (by omega) hsz ?_; intro v' w5 hown5 hb5; obtain ⟨gg, cc, rfl, hg5, hrow5⟩ := own_some hown5 (by omega); have q1 := hrow5.cell (i := L) (by omega); have q2 := hrow5.free L; have HP := Lib.hid (own_put hown5 L (rlI g k L + 1)); have HB5 := Lib.hid (HB.out.trans hb5); have HG := Lib.hid hg5; have hr64 := rl_le g k L; have e5 : IntKind.i64.wrap (rlI g k L + 1) = rlI g k L + 1 := IntWalk.i64_in _ (by unfold rlI; omega); clear hown5 hrow5 hr64; generalize rlI g k L = z at *)
        exact ⟨⟨k + 1, by omega, by go_num, by rw [HL.out]; exact Lib.hid (HP.out.congr fun j hj => HU.out j), Lib.hid (HB5.out.setCell (by first | exact HG.out | (simp; exact HG.out)) _)⟩, by simp [intOf]; omega⟩
      · have z0 : ((k : Int) == 0) = false := by simp; omega
        have a2 := HC.out _ HB.out (k - 1) (by omega)
        have hbg := bgn_pos (g := g) (show k ≠ 0 by omega)
        have e2 : IntKind.i64.wrap ((k : Int) - 1) = ((k - 1 : Nat) : Int) := by rw [show (k : Int) - 1 = ((k - 1 : Nat) : Int) by omega]; exact IntWalk.i64_in _ (by omega)
        have y3 : ((k - 1 : Nat) : Int) < (n : Int) := by omega
        have y4 : (0 : Int) ≤ ((k - 1 : Nat) : Int) := by omega
        by_cases hu : g k = g (k - 1)
        · have hbf : bgn g k = false := by rw [hbg]; simp [hu]
          have hcc := cn_no hbf
          have hown5 : L2.Own wr w.heap.size u4 (L + 1) (rlI g k) := by have h := HO.out; rwa [show cn g k = L + 1 by omega] at h
          obtain ⟨gg, cc, rfl, hg5, hrow5⟩ := own_some hown5 (by omega)
          have q1 := hrow5.cell (i := L) (by omega); have q2 := hrow5.free L; have HP := Lib.hid (own_put hown5 L (rlI g k L + 1)); have HB5 := Lib.hid (HB.out); have HG := Lib.hid hg5; have hr64 := rl_le g k L; have e5 : IntKind.i64.wrap (rlI g k L + 1) = rlI g k L + 1 := IntWalk.i64_in _ (by unfold rlI; omega); clear hown5 hrow5 hr64; generalize rlI g k L = z at *
          clear hbf hbg hcc hL
          rw [hu] at a1
          generalize g (k - 1) = u at *
          clear hu
          generalize k - 1 = km at *
          cases u
          all_goals
            go_wp2
            go_quiet (fail)
            have HP := Lib.hid (show L2.Own ((wr.drewN nq).setCell ⟨gg, L, none⟩ (.int .i64 (z + 1))) w.heap.size (.slice (some ⟨gg, 0, none⟩) (L + 1) cc) (L + 1) _ from HP.out)
            have HB5 := Lib.hid (bdn9 HB5.out nq)
            have q1 : (wr.drewN nq).cell? ⟨gg, L, none⟩ = some (.int .i64 z) := q1
            have q2 : (wr.drewN nq).frozen? ⟨gg, L, none⟩ = false := q2
            generalize wr.drewN nq = wq at *
            go_wp2
            exact ⟨⟨k + 1, by omega, by go_num, by rw [HL.out]; exact Lib.hid (HP.out.congr fun j hj => HU.out j), Lib.hid (HB5.out.setCell (by first | exact HG.out | (simp; exact HG.out)) _)⟩, by simp [intOf]; omega⟩
        · have hbt : bgn g k = true := by rw [hbg]; simp [hu]
          have hcc := cn_yes hbt
          have hown0 : L2.Own wr w.heap.size u4 L (rlI g k) := by have h := HO.out; rwa [show cn g k = L by omega] at h
          have HZ := Lib.hid (show rlI g k L = 0 from by unfold rlI; rw [rl_new g k L (by omega)]; rfl)
          have HO0 := Lib.hid hown0
          clear hbt hbg hcc hL hown0
          have hu2 : g k = !g (k - 1) := by cases ha : g k <;> cases hb : g (k - 1) <;> simp_all
          rw [hu2] at a1
          clear hu hu2
          generalize g (k - 1) = u at *
          generalize k - 1 = km at *
          cases u
          all_goals
            go_wp2
            go_quiet (fail)
            have HB := Lib.hid (bdn9 HB.out nq)
            have HO0 := Lib.hid (HO0.out.drewN nq)
            have hsz := HB.out.size
            generalize wr.drewN nq = wq at *
            go_wp2_with (at_builtin; refine L2.app1 _ rfl _ _ (by rfl) w.heap.size (by rfl) HO0.out 0 (by rfl) HZ.out (by omega) hsz ?_; intro v' w5 hown5 hb5; obtain ⟨gg, cc, rfl, hg5, hrow5⟩ := own_some hown5 (by omega); have q1 := hrow5.cell (i := L) (by omega); have q2 := hrow5.free L; have HP := Lib.hid (own_put hown5 L (rlI g k L + 1)); have HB5 := Lib.hid (HB.out.trans hb5); have HG := Lib.hid hg5; have hr64 := rl_le g k L; have e5 : IntKind.i64.wrap (rlI g k L + 1) = rlI g k L + 1 := IntWalk.i64_in _ (by unfold rlI; omega); clear hown5 hrow5 hr64; generalize rlI g k L = z at *)
            exact ⟨⟨k + 1, by omega, by go_num, by rw [HL.out]; exact Lib.hid (HP.out.congr fun j hj => HU.out j), Lib.hid (HB5.out.setCell (by first | exact HG.out | (simp; exact HG.out)) _)⟩, by simp [intOf]; omega⟩
    · have e : k = n := by omega
      subst e
      have z1 : ¬ (k : Int) < (k : Int) := by omega
      have HF := Lib.hid (lout_end HO.out HB.out)
      go_wp2
      go_ret2
      exact HF.out
/-- Runs of both sides. -/
theorem run_two (A : Option Addr) (n c : Nat) (g : Nat → Bool) (w : World) (hr : Holds w w.heap.size A n g) (hn : n ≤ 5000) : ∃ (N : Nat) (f : Nat → Int) (z : Int), N ≤ 64 ∧ ∀ v, Below w.heap.size w v → Calls Try.prog 20 #[.slice A n c] v (LOut v N f z) ∧ Calls Try.prog 25 #[.slice A n c] v (LOut v N f z) := by
  by_cases h1 : 64 < n
  · exact ⟨0, _, 4, by omega, fun v _ => ⟨prun_many A n c v h1, rrun_many A n c v h1⟩⟩
  by_cases h2 : n < 2
  · exact ⟨0, _, 8, by omega, fun v _ => ⟨prun_few A n c v h2, rrun_few A n c v h2⟩⟩
  obtain ⟨b, o, rfl, hb, hc⟩ := hr (by omega)
  have hc' : ∀ v, Below w.heap.size w v → ∀ i, i < n → v.cell? ⟨b, o + i, none⟩ = some (.bool (g i)) := fun v hv i hi => (hv.cell (p := ⟨b, o + i, none⟩) hb).trans (hc i hi)
  by_cases h3 : g 0 = true ∧ g (n - 1) = false
  · have := cn_le64 g n
    exact ⟨cn g n, _, 0, by omega, fun v hv => ⟨prun_ok b o n c g v (Nat.lt_of_lt_of_le hb hv.size) (by omega) (by omega) (hc' v hv) h3.1 h3.2, rrun_ok b o n c g v (Nat.lt_of_lt_of_le hb hv.size) (by omega) (by omega) (hc' v hv) h3.1 h3.2⟩⟩
  · exact ⟨0, _, 8, by omega, fun v hv => ⟨prun_bad b o n c g v (by omega) (by omega) (hc' v hv) h3, rrun_bad b o n c g v (by omega) (by omega) (hc' v hv) h3⟩⟩
end Go.Proofs.Ytmakjdfkldacaaa
