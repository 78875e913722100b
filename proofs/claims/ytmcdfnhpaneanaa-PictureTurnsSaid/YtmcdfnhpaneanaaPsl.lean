/- The reference: SameLists of equal lists. -/
import Derived.Test.YtmcdfnhpaneanaaPho
import Derived.BigQuiet
namespace Go.Proofs.Ytmcdfnhpaneanaa
open Go.RowKit
set_option maxRecDepth 100000
set_option linter.unusedVariables false
set_option linter.unusedSimpArgs false

set_option maxHeartbeats 1600000 in
theorem lists_same (A D : Option Addr) (n c d : Nat) (L : Nat → List Nat) (w : World) (hn : n ≤ 64) (hn0 : 1 ≤ n) (h16 : ∀ i, (L i).length ≤ 16) (h1 : LLo w A n L) (h2 : LLo w D n L) : Calls Try.prog 28 #[.slice A n c, .slice D n d] w fun e w' => e = .returned (.bool true) ∧ Below w.heap.size w w' := by
  obtain ⟨b1, rfl, l1, k1⟩ := h1 hn0
  obtain ⟨b2, rfl, l2, k2⟩ := h2 hn0
  have K1 := Lib.hid k1
  have K2 := Lib.hid k2
  have H16 := Lib.hid h16
  have yn : ((n : Int) != (n : Int)) = false := by simp
  clear h1 h2 k1 k2 h16
  go_enter Try.func28, Try.ntmps28
  go_wp2
  go_loopw [5] (fun i wr => ∃ t : Nat, t ≤ n ∧ i = .int .i64 (t : Nat) ∧ Hid (Below w.heap.size w wr)) (fun i _ => n - (intOf i).toNat)
  case atStart => exact ⟨0, Nat.zero_le _, rfl, Lib.hid (Below.refl _ _)⟩
  case round =>
    obtain ⟨i, hi, rfl, HB⟩ := hrel
    obtain ⟨v0, hv0⟩ : ∃ z, z = wr := ⟨_, rfl⟩
    subst hv0
    by_cases hlt : i < n
    · have y1 : (i : Int) < (n : Int) := by omega
      have y2 : (0 : Int) ≤ (i : Int) := by omega
      obtain ⟨A1, c1, x1, g1⟩ := K1.out i hlt
      obtain ⟨A2, c2, x2, g2⟩ := K2.out i hlt
      have h16 := H16.out i
      obtain ⟨l, hl⟩ : ∃ z, L i = z := ⟨_, rfl⟩
      rw [hl] at x1 x2 g1 g2 h16
      clear hl
      have yl : ((l.length : Int) != (l.length : Int)) = false := by simp
      have X := Lib.hid (fun u (h : Below w.heap.size w u) => (show u.cell? ⟨b1, i, none⟩ = some (.slice A1 l.length c1) ∧ u.cell? ⟨b2, i, none⟩ = some (.slice A2 l.length c2) from ⟨(h.cell (p := ⟨b1, i, none⟩) l1).trans x1, (h.cell (p := ⟨b2, i, none⟩) l2).trans x2⟩))
      have G1 := Lib.hid g1
      have G2 := Lib.hid g2
      clear x1 x2 g1 g2
      go_wp2
      have hSw : (fun u : World => u.cell? ⟨b1, i, none⟩ = some (.slice A1 l.length c1) ∧ u.cell? ⟨b2, i, none⟩ = some (.slice A2 l.length c2)) v0.drew := X.out _ HB.out.drew
      refine wp_region_held (S := fun u : World => u.cell? ⟨b1, i, none⟩ = some (.slice A1 l.length c1) ∧ u.cell? ⟨b2, i, none⟩ = some (.slice A2 l.length c2)) (by kernel_rfl) ?_
      try (change wpAnyH _ _ _ _ _ _ _ _ (World.drew _))
      refine wpAnyH_take (i := 0) (v := ?_) rfl (by kernel_rfl) (by kernel_rfl) (by kernel_rfl) (fun _ _ _ h => h) (Or.inl ⟨by kernel_rfl, ?_⟩) hSw ?_
      rotate_left
      · (intro u hu; obtain ⟨h0, h1⟩ := hu; first | (go_simp; done) | (go_simp; with_reducible rfl))
      try simp only [Act.put, List.getElem_toArray, List.getElem_cons_succ, List.getElem_cons_zero, List.setIfInBounds_toArray, List.set_cons_zero, List.set_cons_succ]
      refine wpAnyH_take (i := 1) (v := ?_) rfl (by kernel_rfl) (by kernel_rfl) (by kernel_rfl) (fun _ _ _ h => h) (Or.inl ⟨by kernel_rfl, ?_⟩) hSw ?_
      rotate_left
      · (intro u hu; obtain ⟨h0, h1⟩ := hu; first | (go_simp; done) | (go_simp; with_reducible rfl))
      try simp only [Act.put, List.getElem_toArray, List.getElem_cons_succ, List.getElem_cons_zero, List.setIfInBounds_toArray, List.set_cons_zero, List.set_cons_succ]
      refine wpAnyH_take (i := 2) (v := ?_) rfl (by kernel_rfl) (by kernel_rfl) (by kernel_rfl) (fun _ _ _ h => h) (Or.inl ⟨by kernel_rfl, ?_⟩) hSw ?_
      rotate_left
      · (intro u hu; obtain ⟨h0, h1⟩ := hu; first | (go_simp; done) | (go_simp; with_reducible rfl))
      try simp only [Act.put, List.getElem_toArray, List.getElem_cons_succ, List.getElem_cons_zero, List.setIfInBounds_toArray, List.set_cons_zero, List.set_cons_succ]
      refine wpAnyH_take (i := 3) (v := ?_) rfl (by kernel_rfl) (by kernel_rfl) (by kernel_rfl) (fun _ _ _ h => h) (Or.inl ⟨by kernel_rfl, ?_⟩) hSw ?_
      rotate_left
      · (intro u hu; obtain ⟨h0, h1⟩ := hu; first | (go_simp; done) | (go_simp; with_reducible rfl))
      try simp only [Act.put, List.getElem_toArray, List.getElem_cons_succ, List.getElem_cons_zero, List.setIfInBounds_toArray, List.set_cons_zero, List.set_cons_succ]
      refine wpAnyH_take (i := 4) (v := ?_) rfl (by kernel_rfl) (by kernel_rfl) (by kernel_rfl) (fun _ _ _ h => h) (Or.inl ⟨by kernel_rfl, ?_⟩) hSw ?_
      rotate_left
      · (intro u hu; obtain ⟨h0, h1⟩ := hu; first | (go_simp; done) | (go_simp; with_reducible rfl))
      try simp only [Act.put, List.getElem_toArray, List.getElem_cons_succ, List.getElem_cons_zero, List.setIfInBounds_toArray, List.set_cons_zero, List.set_cons_succ]
      refine wpAnyH_take (i := 5) (v := ?_) rfl (by kernel_rfl) (by kernel_rfl) (by kernel_rfl) (fun _ _ _ h => h) (Or.inl ⟨by kernel_rfl, ?_⟩) hSw ?_
      rotate_left
      · (intro u hu; obtain ⟨h0, h1⟩ := hu; first | (go_simp; done) | (go_simp; with_reducible rfl))
      try simp only [Act.put, List.getElem_toArray, List.getElem_cons_succ, List.getElem_cons_zero, List.setIfInBounds_toArray, List.set_cons_zero, List.set_cons_succ]
      refine wpAnyH_take (i := 6) (v := ?_) rfl (by kernel_rfl) (by kernel_rfl) (by kernel_rfl) (fun _ _ _ h => h) (Or.inl ⟨by kernel_rfl, ?_⟩) hSw ?_
      rotate_left
      · (intro u hu; obtain ⟨h0, h1⟩ := hu; first | (go_simp; done) | (go_simp; with_reducible rfl))
      try simp only [Act.put, List.getElem_toArray, List.getElem_cons_succ, List.getElem_cons_zero, List.setIfInBounds_toArray, List.set_cons_zero, List.set_cons_succ]
      refine wpAnyH_take (i := 7) (v := ?_) rfl (by kernel_rfl) (by kernel_rfl) (by kernel_rfl) (fun _ _ _ h => h) (Or.inl ⟨by kernel_rfl, ?_⟩) hSw ?_
      rotate_left
      · (intro u hu; obtain ⟨h0, h1⟩ := hu; first | (go_simp; done) | (go_simp; with_reducible rfl))
      try simp only [Act.put, List.getElem_toArray, List.getElem_cons_succ, List.getElem_cons_zero, List.setIfInBounds_toArray, List.set_cons_zero, List.set_cons_succ]
      refine wpAnyH_take (i := 8) (v := ?_) rfl (by kernel_rfl) (by kernel_rfl) (by kernel_rfl) (fun _ _ _ h => h) (Or.inl ⟨by kernel_rfl, ?_⟩) hSw ?_
      rotate_left
      · (intro u hu; obtain ⟨h0, h1⟩ := hu; first | (go_simp; done) | (go_simp; with_reducible rfl))
      try simp only [Act.put, List.getElem_toArray, List.getElem_cons_succ, List.getElem_cons_zero, List.setIfInBounds_toArray, List.set_cons_zero, List.set_cons_succ]
      refine wpAnyH_take (i := 9) (v := ?_) rfl (by kernel_rfl) (by kernel_rfl) (by kernel_rfl) (fun _ _ _ h => h) (Or.inl ⟨by kernel_rfl, ?_⟩) hSw ?_
      rotate_left
      · (intro u hu; obtain ⟨h0, h1⟩ := hu; first | (go_simp; done) | (go_simp; with_reducible rfl))
      try simp only [Act.put, List.getElem_toArray, List.getElem_cons_succ, List.getElem_cons_zero, List.setIfInBounds_toArray, List.set_cons_zero, List.set_cons_succ]
      refine wpAnyH_take (i := 10) (v := ?_) rfl (by kernel_rfl) (by kernel_rfl) (by kernel_rfl) (fun _ _ _ h => h) (Or.inl ⟨by kernel_rfl, ?_⟩) hSw ?_
      rotate_left
      · (intro u hu; obtain ⟨h0, h1⟩ := hu; first | (go_simp; done) | (go_simp; with_reducible rfl))
      try simp only [Act.put, List.getElem_toArray, List.getElem_cons_succ, List.getElem_cons_zero, List.setIfInBounds_toArray, List.set_cons_zero, List.set_cons_succ]
      refine wpAnyH_done (by kernel_rfl) ?_ _
      clear hSw
      go_wp2
      go_loopw [6] (fun i w3 => ∃ j : Nat, j ≤ l.length ∧ i = .int .i64 (j : Nat) ∧ Hid (Below w.heap.size w w3)) (fun i _ => l.length - (intOf i).toNat)
      case atStart => exact ⟨0, Nat.zero_le _, rfl, Lib.hid HB.out.drew⟩
      case round =>
        obtain ⟨j, hj, rfl, HD⟩ := hrel
        obtain ⟨x1, x2⟩ := X.out _ HD.out
        by_cases hjl : j < l.length
        · have y5 : (j : Int) < (l.length : Int) := by omega
          have y6 : (0 : Int) ≤ (j : Int) := by omega
          obtain ⟨ba, oa, ea, la, ca⟩ := (G1.out.below HD.out) (by omega)
          obtain ⟨bd, od, ed, ld, cd⟩ := (G2.out.below HD.out) (by omega)
          have k3 := ca j hjl
          have k4 := cd j hjl
          clear ca cd la ld
          obtain ⟨v, hv⟩ : ∃ z, lf l j = z := ⟨_, rfl⟩
          rw [hv] at k3 k4
          clear hv
          have yv : (v != v) = false := by simp
          subst ea ed
          go_wp2
          have hSw : (fun u : World => u.cell? ⟨b1, i, none⟩ = some (.slice (some ⟨ba, oa, none⟩) l.length c1) ∧ u.cell? ⟨b2, i, none⟩ = some (.slice (some ⟨bd, od, none⟩) l.length c2) ∧ u.cell? ⟨ba, oa + j, none⟩ = some (.int .i64 v) ∧ u.cell? ⟨bd, od + j, none⟩ = some (.int .i64 v)) wr.drew := ⟨x1, x2, k3, k4⟩
          clear x1 x2 k3 k4
          refine wp_region_held (S := fun u : World => u.cell? ⟨b1, i, none⟩ = some (.slice (some ⟨ba, oa, none⟩) l.length c1) ∧ u.cell? ⟨b2, i, none⟩ = some (.slice (some ⟨bd, od, none⟩) l.length c2) ∧ u.cell? ⟨ba, oa + j, none⟩ = some (.int .i64 v) ∧ u.cell? ⟨bd, od + j, none⟩ = some (.int .i64 v)) (by kernel_rfl) ?_
          try (change wpAnyH _ _ _ _ _ _ _ _ (World.drew _))
          refine wpAnyH_take (i := 0) (v := ?_) rfl (by kernel_rfl) (by kernel_rfl) (by kernel_rfl) (fun _ _ _ h => h) (Or.inl ⟨by kernel_rfl, ?_⟩) hSw ?_
          rotate_left
          · (intro u hu; obtain ⟨h0, h1, h2, h3⟩ := hu; first | (go_simp; done) | (go_simp; with_reducible rfl))
          try simp only [Act.put, List.getElem_toArray, List.getElem_cons_succ, List.getElem_cons_zero, List.setIfInBounds_toArray, List.set_cons_zero, List.set_cons_succ]
          refine wpAnyH_take (i := 1) (v := ?_) rfl (by kernel_rfl) (by kernel_rfl) (by kernel_rfl) (fun _ _ _ h => h) (Or.inl ⟨by kernel_rfl, ?_⟩) hSw ?_
          rotate_left
          · (intro u hu; obtain ⟨h0, h1, h2, h3⟩ := hu; first | (go_simp; done) | (go_simp; with_reducible rfl))
          try simp only [Act.put, List.getElem_toArray, List.getElem_cons_succ, List.getElem_cons_zero, List.setIfInBounds_toArray, List.set_cons_zero, List.set_cons_succ]
          refine wpAnyH_take (i := 2) (v := ?_) rfl (by kernel_rfl) (by kernel_rfl) (by kernel_rfl) (fun _ _ _ h => h) (Or.inl ⟨by kernel_rfl, ?_⟩) hSw ?_
          rotate_left
          · (intro u hu; obtain ⟨h0, h1, h2, h3⟩ := hu; first | (go_simp; done) | (go_simp; with_reducible rfl))
          try simp only [Act.put, List.getElem_toArray, List.getElem_cons_succ, List.getElem_cons_zero, List.setIfInBounds_toArray, List.set_cons_zero, List.set_cons_succ]
          refine wpAnyH_take (i := 3) (v := ?_) rfl (by kernel_rfl) (by kernel_rfl) (by kernel_rfl) (fun _ _ _ h => h) (Or.inl ⟨by kernel_rfl, ?_⟩) hSw ?_
          rotate_left
          · (intro u hu; obtain ⟨h0, h1, h2, h3⟩ := hu; first | (go_simp; done) | (go_simp; with_reducible rfl))
          try simp only [Act.put, List.getElem_toArray, List.getElem_cons_succ, List.getElem_cons_zero, List.setIfInBounds_toArray, List.set_cons_zero, List.set_cons_succ]
          refine wpAnyH_take (i := 4) (v := ?_) rfl (by kernel_rfl) (by kernel_rfl) (by kernel_rfl) (fun _ _ _ h => h) (Or.inl ⟨by kernel_rfl, ?_⟩) hSw ?_
          rotate_left
          · (intro u hu; obtain ⟨h0, h1, h2, h3⟩ := hu; first | (go_simp; done) | (go_simp; with_reducible rfl))
          try simp only [Act.put, List.getElem_toArray, List.getElem_cons_succ, List.getElem_cons_zero, List.setIfInBounds_toArray, List.set_cons_zero, List.set_cons_succ]
          refine wpAnyH_take (i := 5) (v := ?_) rfl (by kernel_rfl) (by kernel_rfl) (by kernel_rfl) (fun _ _ _ h => h) (Or.inl ⟨by kernel_rfl, ?_⟩) hSw ?_
          rotate_left
          · (intro u hu; obtain ⟨h0, h1, h2, h3⟩ := hu; first | (go_simp; done) | (go_simp; with_reducible rfl))
          try simp only [Act.put, List.getElem_toArray, List.getElem_cons_succ, List.getElem_cons_zero, List.setIfInBounds_toArray, List.set_cons_zero, List.set_cons_succ]
          refine wpAnyH_take (i := 6) (v := ?_) rfl (by kernel_rfl) (by kernel_rfl) (by kernel_rfl) (fun _ _ _ h => h) (Or.inl ⟨by kernel_rfl, ?_⟩) hSw ?_
          rotate_left
          · (intro u hu; obtain ⟨h0, h1, h2, h3⟩ := hu; first | (go_simp; done) | (go_simp; with_reducible rfl))
          try simp only [Act.put, List.getElem_toArray, List.getElem_cons_succ, List.getElem_cons_zero, List.setIfInBounds_toArray, List.set_cons_zero, List.set_cons_succ]
          refine wpAnyH_take (i := 7) (v := ?_) rfl (by kernel_rfl) (by kernel_rfl) (by kernel_rfl) (fun _ _ _ h => h) (Or.inl ⟨by kernel_rfl, ?_⟩) hSw ?_
          rotate_left
          · (intro u hu; obtain ⟨h0, h1, h2, h3⟩ := hu; first | (go_simp; done) | (go_simp; with_reducible rfl))
          try simp only [Act.put, List.getElem_toArray, List.getElem_cons_succ, List.getElem_cons_zero, List.setIfInBounds_toArray, List.set_cons_zero, List.set_cons_succ]
          refine wpAnyH_take (i := 8) (v := ?_) rfl (by kernel_rfl) (by kernel_rfl) (by kernel_rfl) (fun _ _ _ h => h) (Or.inl ⟨by kernel_rfl, ?_⟩) hSw ?_
          rotate_left
          · (intro u hu; obtain ⟨h0, h1, h2, h3⟩ := hu; first | (go_simp; done) | (go_simp; with_reducible rfl))
          try simp only [Act.put, List.getElem_toArray, List.getElem_cons_succ, List.getElem_cons_zero, List.setIfInBounds_toArray, List.set_cons_zero, List.set_cons_succ]
          refine wpAnyH_take (i := 9) (v := ?_) rfl (by kernel_rfl) (by kernel_rfl) (by kernel_rfl) (fun _ _ _ h => h) (Or.inl ⟨by kernel_rfl, ?_⟩) hSw ?_
          rotate_left
          · (intro u hu; obtain ⟨h0, h1, h2, h3⟩ := hu; first | (go_simp; done) | (go_simp; with_reducible rfl))
          try simp only [Act.put, List.getElem_toArray, List.getElem_cons_succ, List.getElem_cons_zero, List.setIfInBounds_toArray, List.set_cons_zero, List.set_cons_succ]
          refine wpAnyH_take (i := 10) (v := ?_) rfl (by kernel_rfl) (by kernel_rfl) (by kernel_rfl) (fun _ _ _ h => h) (Or.inl ⟨by kernel_rfl, ?_⟩) hSw ?_
          rotate_left
          · (intro u hu; obtain ⟨h0, h1, h2, h3⟩ := hu; first | (go_simp; done) | (go_simp; with_reducible rfl))
          try simp only [Act.put, List.getElem_toArray, List.getElem_cons_succ, List.getElem_cons_zero, List.setIfInBounds_toArray, List.set_cons_zero, List.set_cons_succ]
          refine wpAnyH_take (i := 11) (v := ?_) rfl (by kernel_rfl) (by kernel_rfl) (by kernel_rfl) (fun _ _ _ h => h) (Or.inl ⟨by kernel_rfl, ?_⟩) hSw ?_
          rotate_left
          · (intro u hu; obtain ⟨h0, h1, h2, h3⟩ := hu; first | (go_simp; done) | (go_simp; with_reducible rfl))
          try simp only [Act.put, List.getElem_toArray, List.getElem_cons_succ, List.getElem_cons_zero, List.setIfInBounds_toArray, List.set_cons_zero, List.set_cons_succ]
          refine wpAnyH_take (i := 12) (v := ?_) rfl (by kernel_rfl) (by kernel_rfl) (by kernel_rfl) (fun _ _ _ h => h) (Or.inl ⟨by kernel_rfl, ?_⟩) hSw ?_
          rotate_left
          · (intro u hu; obtain ⟨h0, h1, h2, h3⟩ := hu; first | (go_simp; done) | (go_simp; with_reducible rfl))
          try simp only [Act.put, List.getElem_toArray, List.getElem_cons_succ, List.getElem_cons_zero, List.setIfInBounds_toArray, List.set_cons_zero, List.set_cons_succ]
          refine wpAnyH_take (i := 13) (v := ?_) rfl (by kernel_rfl) (by kernel_rfl) (by kernel_rfl) (fun _ _ _ h => h) (Or.inl ⟨by kernel_rfl, ?_⟩) hSw ?_
          rotate_left
          · (intro u hu; obtain ⟨h0, h1, h2, h3⟩ := hu; first | (go_simp; done) | (go_simp; with_reducible rfl))
          try simp only [Act.put, List.getElem_toArray, List.getElem_cons_succ, List.getElem_cons_zero, List.setIfInBounds_toArray, List.set_cons_zero, List.set_cons_succ]
          refine wpAnyH_take (i := 14) (v := ?_) rfl (by kernel_rfl) (by kernel_rfl) (by kernel_rfl) (fun _ _ _ h => h) (Or.inl ⟨by kernel_rfl, ?_⟩) hSw ?_
          rotate_left
          · (intro u hu; obtain ⟨h0, h1, h2, h3⟩ := hu; first | (go_simp; done) | (go_simp; with_reducible rfl))
          try simp only [Act.put, List.getElem_toArray, List.getElem_cons_succ, List.getElem_cons_zero, List.setIfInBounds_toArray, List.set_cons_zero, List.set_cons_succ]
          refine wpAnyH_done (by kernel_rfl) ?_ _
          clear hSw
          go_wp2
          go_roundw
          case rel => exact ⟨j + 1, by omega, by go_num, Lib.hid HD.out.drew⟩
          case measure => simp [intOf]; omega
        · have y5 : ¬ (j : Int) < (l.length : Int) := by omega
          go_wp2
          go_roundw
          case rel => exact ⟨i + 1, by omega, by go_num, HD⟩
          case measure => simp [intOf]; omega
    · have y1 : ¬ (i : Int) < (n : Int) := by omega
      go_wp2
      go_ret
      exact ⟨rfl, HB.out⟩
end Go.Proofs.Ytmcdfnhpaneanaa
