/- across: the threads that a thread crosses, with the colours of the cells there: the iterator's contract. -/
import Derived.Test.YtmcdfnhpaneanaaRhq
import Derived.Test.YtmcdfnhpaneanaaPma
namespace Go.Proofs.Ytmcdfnhpaneanaa
open Go.RowKit Go.Shelf
set_option maxRecDepth 100000
set_option linter.unusedVariables false
set_option linter.unusedSimpArgs false

attribute [local go_sem] Oper.semAt_some
/-- The blocks of which P speaks lie as they lay. -/
def KB (P : Nat → Prop) (W W' : World) : Prop := ∀ b, P b → W'.heap[b]? = W.heap[b]?
theorem KB.refl (P : Nat → Prop) (W : World) : KB P W W := fun _ _ => rfl
theorem KB.t {P : Nat → Prop} {A B C : World} (h : KB P A B) (k : KB P B C) : KB P A C := fun b hb => (k b hb).trans (h b hb)
theorem KB.b {P : Nat → Prop} {w : World} (hn : ∀ b, P b → b < w.heap.size) (W : World) (l : Nat) (o o' : Obj) (hl : w.heap.size ≤ l) (h : W.heap[l]? = some o) (h1 : o.isCells = false) (h2 : o.isWalk = false) : KB P W (W.putObj l o') :=
  fun b hb => (belowK_b (Nat.le_refl w.heap.size) W l o o' hl h h1 h2).block b (hn b hb)
theorem KB.cell {P : Nat → Prop} {W W' : World} (h : KB P W W') (b o : Nat) (h1 : P b) : W'.cell? ⟨b, o, none⟩ = W.cell? ⟨b, o, none⟩ := by
  simp [World.cell?, h b h1]
/-- The first k numbers below H. -/
def fr (H k : Nat) : List (Fin H) := (List.finRange H).take k
theorem fr_len {H k : Nat} (h : k ≤ H) : (fr H k).length = k := by simp [fr]; omega
theorem fr_succ {H k : Nat} (h : k < H) : fr H (k + 1) = fr H k ++ [⟨k, h⟩] := by
  unfold fr
  rw [List.take_add_one]
  simp [h]
theorem fr_all (H : Nat) : fr H H = List.finRange H := by
  unfold fr
  exact List.take_of_length_le (by simp)
/-- What the iterator has captured: how many threads, the first one, the image, the first cell, the step. -/
structure AC (W0 : World) (c8 c5 c2 c7 c6 b off M fi ce st NC cap : Nat) (g : Nat → Int) : Prop where
  h8 : W0.cell? ⟨c8, 0, none⟩ = some (.int .i64 (M : Nat))
  h5 : W0.cell? ⟨c5, 0, none⟩ = some (.int .i64 (fi : Nat))
  h2 : W0.cell? ⟨c2, 2, none⟩ = some (.slice (some ⟨b, off, none⟩) NC cap)
  h7 : W0.cell? ⟨c7, 0, none⟩ = some (.int .i64 (ce : Nat))
  h6 : W0.cell? ⟨c6, 0, none⟩ = some (.int .i64 (st : Nat))
  hg : ∀ i, i < M → W0.cell? ⟨b, off + (ce + i * st), none⟩ = some (.int .i64 (g i))
theorem AC.keep {P : Nat → Prop} {W W' : World} {c8 c5 c2 c7 c6 b off M fi ce st NC cap : Nat} {g : Nat → Int} (h : AC W c8 c5 c2 c7 c6 b off M fi ce st NC cap g) (k : KB P W W') (p8 : P c8) (p5 : P c5) (p2 : P c2) (p7 : P c7) (p6 : P c6) (pb : P b) : AC W' c8 c5 c2 c7 c6 b off M fi ce st NC cap g :=
  ⟨(k.cell _ _ p8).trans h.h8, (k.cell _ _ p5).trans h.h5, (k.cell _ _ p2).trans h.h2, (k.cell _ _ p7).trans h.h7, (k.cell _ _ p6).trans h.h6, fun i hi => (k.cell _ _ pb).trans (h.hg i hi)⟩
set_option maxHeartbeats 1600000 in
theorem acr1_in (F : Fence) (n : Nat) (hf : F.fn 89) (hro : F.round = none) (hn : 1 ≤ n) (P : Nat → Prop) (l c8 c5 c2 c7 c6 b off M fi ce st NC cap : Nat) (g : Nat → Int) (hM : M ≤ 64) (hfi : fi ≤ 64) (hNC : NC ≤ 4096) (hst : st ≤ 64) (hbd : ∀ i, i < M → ce + i * st < NC)
    (p8 : P c8) (p5 : P c5) (p2 : P c2) (p7 : P c7) (p6 : P c6) (pb : P b) (J Jx : List (Fin M) → World → Prop) (W0 : World) (hJ : AbidesFrom W0.heap.size J)
    (hY : ∀ pre x W1, J pre W1 → pre.length < M → YieldAt F (n - 1) Try.prog l #[.int .i64 ((fi : Int) + (x.1 : Int)), .int .i64 (g x.1)] W1 fun e W' =>
      (e = .returned (.bool true) ∧ J (pre ++ [x]) W' ∧ KB P W1 W') ∨ (e = .returned (.bool false) ∧ Jx (pre ++ [x]) W'))
    (hA : AC W0 c8 c5 c2 c7 c6 b off M fi ce st NC cap g) (h0 : J [] W0) :
    CallsIn F n Try.prog 89 #[.func (.yield l) #[] #[], .pointer (some ⟨c8, 0, none⟩), .pointer (some ⟨c5, 0, none⟩), .pointer (some ⟨c2, 0, none⟩), .pointer (some ⟨c7, 0, none⟩), .pointer (some ⟨c6, 0, none⟩)] W0 fun e W' => (∃ v, e = .returned v) ∧
      ((∃ ys, ys = List.finRange M ∧ J ys W') ∨ (∃ pre, (∃ k, k ≤ M ∧ pre = fr M k) ∧ Jx pre W')) := by
  have HA := Lib.hid hA
  have HB := Lib.hid hbd
  have h8 := hA.h8
  clear hA hbd
  refine callsIn_of_wp Try.func89 rfl hf ?_ hro
  simp only [Try.ntmps89, List.size_toArray, List.length_cons, List.length_nil, Nat.reduceAdd, Nat.reduceSub, Array.replicate_succ, Array.replicate_zero, List.push_toArray, List.append_toArray, List.nil_append, List.cons_append]
  gi_wp2
  clear h8
  gi_loopw [9] (fun i wr => ∃ k : Nat, k ≤ M ∧ i = .int .i64 (k : Nat) ∧ J (fr M k) wr ∧ Hid (KB P W0 wr)) (fun i _ => M - (intOf i).toNat)
  case atStart => exact ⟨0, Nat.zero_le _, rfl, by simpa [fr] using h0, Lib.hid (KB.refl _ _)⟩
  case round =>
    obtain ⟨k, hk, rfl, hJs, HK⟩ := hrel
    by_cases hlt : k < M
    · obtain ⟨_, d5, d2, d7, d6, dg⟩ := HA.out.keep HK.out p8 p5 p2 p7 p6 pb
      have dgk := dg k hlt
      have hb := HB.out k hlt
      clear dg
      obtain ⟨p, hp⟩ : ∃ p, k * st = p := ⟨_, rfl⟩
      have hpI : (k : Int) * (st : Int) = (p : Int) := by rw [← hp]; simp
      rw [hp] at dgk hb
      have HP := Lib.hid hp
      clear hp
      have x1 : (k : Int) < (M : Int) := by omega
      have x2 : (0 : Int) ≤ (k : Int) := by omega
      have x4 : IntKind.i64.wrap ((fi : Int) + (k : Int)) = (fi : Int) + (k : Int) := IntWalk.i64_in _ (by omega)
      have x5 : IntKind.i64.wrap ((k : Int) * (st : Int)) = (p : Int) := by rw [hpI]; exact IntWalk.i64_in _ (by omega)
      have x6 : IntKind.i64.wrap ((ce : Int) + (p : Int)) = ((ce + p : Nat) : Int) := by rw [IntWalk.i64_in _ (by omega)]; simp
      have x7 : (0 : Int) ≤ ((ce + p : Nat) : Int) := by omega
      have x8 : ((ce + p : Nat) : Int) < (NC : Int) := by omega
      clear hpI
      obtain ⟨q, hq⟩ : ∃ q, ce + p = q := ⟨_, rfl⟩
      rw [hq] at dgk hb x6 x7 x8
      clear hq
      obtain ⟨gv, hgv⟩ : ∃ v, g k = v := ⟨_, rfl⟩
      rw [hgv] at dgk
      obtain ⟨fn, tmps, assign, body, hy, hR⟩ := hY _ ⟨k, hlt⟩ wr.drew (hJ _ wr wr.drew none hJs ⟨rfl, rfl, rfl, Nat.le_refl _, fun _ _ _ => rfl⟩ (fun r e => by cases e)) (by rw [fr_len hk]; exact hlt)
      dsimp only at hy
      rw [hgv] at hy
      clear hgv
      gi_wp2
      have hSw : (fun u : World => u.cell? ⟨c5, 0, none⟩ = some (.int .i64 (fi : Nat)) ∧ u.cell? ⟨c2, 2, none⟩ = some (.slice (some ⟨b, off, none⟩) NC cap) ∧ u.cell? ⟨c7, 0, none⟩ = some (.int .i64 (ce : Nat)) ∧ u.cell? ⟨c6, 0, none⟩ = some (.int .i64 (st : Nat)) ∧ u.cell? ⟨b, off + q, none⟩ = some (.int .i64 gv)) wr.drew := ⟨d5, d2, d7, d6, dgk⟩
      clear d5 d2 d7 d6 dgk
      refine wpIn_region_any (by kernel_rfl) ?_
      try (change wpAnyIn _ _ _ _ _ _ _ _ _ (World.drew _))
      refine anyD_in (S := fun u : World => u.cell? ⟨c5, 0, none⟩ = some (.int .i64 (fi : Nat)) ∧ u.cell? ⟨c2, 2, none⟩ = some (.slice (some ⟨b, off, none⟩) NC cap) ∧ u.cell? ⟨c7, 0, none⟩ = some (.int .i64 (ce : Nat)) ∧ u.cell? ⟨c6, 0, none⟩ = some (.int .i64 (st : Nat)) ∧ u.cell? ⟨b, off + q, none⟩ = some (.int .i64 gv)) (D := [13, 14]) _ _ _ _ ?_
      refine anyD_take [13, 14] (i := 0) (v := ?_) hro rfl (by kernel_rfl) (by kernel_rfl) (by kernel_rfl) (by kernel_rfl) (by kernel_rfl) (by kernel_rfl) (fun _ _ _ h => h) ⟨Or.inl ⟨by kernel_rfl, ?_⟩, fun _ => rfl⟩ hSw ?_
      rotate_left
      · (intro u hu; obtain ⟨h0, h1, h2, h3, h4⟩ := hu; first | (go_simp; done) | (go_simp; with_reducible rfl))
      try simp only [Act.put, List.setIfInBounds_toArray, List.set_cons_zero, List.set_cons_succ]
      refine anyD_take [3, 13, 14] (i := 1) (v := ?_) hro rfl (by kernel_rfl) (by kernel_rfl) (by kernel_rfl) (by kernel_rfl) (by kernel_rfl) (by kernel_rfl) (fun _ _ _ h => h) ⟨Or.inl ⟨by kernel_rfl, ?_⟩, fun _ => rfl⟩ hSw ?_
      rotate_left
      · (intro u hu; obtain ⟨h0, h1, h2, h3, h4⟩ := hu; first | (go_simp; done) | (go_simp; with_reducible rfl))
      try simp only [Act.put, List.setIfInBounds_toArray, List.set_cons_zero, List.set_cons_succ]
      refine anyD_take [3, 13, 14] (i := 2) (v := ?_) hro rfl (by kernel_rfl) (by kernel_rfl) (by kernel_rfl) (by kernel_rfl) (by kernel_rfl) (by kernel_rfl) (fun _ _ _ h => h) ⟨Or.inl ⟨by kernel_rfl, ?_⟩, fun _ => rfl⟩ hSw ?_
      rotate_left
      · (intro u hu; obtain ⟨h0, h1, h2, h3, h4⟩ := hu; first | (go_simp; done) | (go_simp; with_reducible rfl))
      try simp only [Act.put, List.setIfInBounds_toArray, List.set_cons_zero, List.set_cons_succ]
      refine anyD_take [13, 14] (i := 3) (v := ?_) hro rfl (by kernel_rfl) (by kernel_rfl) (by kernel_rfl) (by kernel_rfl) (by kernel_rfl) (by kernel_rfl) (fun _ _ _ h => h) ⟨Or.inl ⟨by kernel_rfl, ?_⟩, fun _ => rfl⟩ hSw ?_
      rotate_left
      · (intro u hu; obtain ⟨h0, h1, h2, h3, h4⟩ := hu; first | (go_simp; done) | (go_simp; with_reducible rfl))
      try simp only [Act.put, List.setIfInBounds_toArray, List.set_cons_zero, List.set_cons_succ]
      refine anyD_take [5, 11, 12, 13, 14] (i := 4) (v := ?_) hro rfl (by kernel_rfl) (by kernel_rfl) (by kernel_rfl) (by kernel_rfl) (by kernel_rfl) (by kernel_rfl) (fun _ _ _ h => h) ⟨Or.inl ⟨by kernel_rfl, ?_⟩, fun _ => rfl⟩ hSw ?_
      rotate_left
      · (intro u hu; obtain ⟨h0, h1, h2, h3, h4⟩ := hu; first | (go_simp; done) | (go_simp; with_reducible rfl))
      try simp only [Act.put, List.setIfInBounds_toArray, List.set_cons_zero, List.set_cons_succ]
      refine anyD_take [11, 12, 13, 14] (i := 5) (v := ?_) hro rfl (by kernel_rfl) (by kernel_rfl) (by kernel_rfl) (by kernel_rfl) (by kernel_rfl) (by kernel_rfl) (fun _ _ _ h => h) ⟨Or.inl ⟨by kernel_rfl, ?_⟩, fun _ => rfl⟩ hSw ?_
      rotate_left
      · (intro u hu; obtain ⟨h0, h1, h2, h3, h4⟩ := hu; first | (go_simp; done) | (go_simp; with_reducible rfl))
      try simp only [Act.put, List.setIfInBounds_toArray, List.set_cons_zero, List.set_cons_succ]
      refine anyD_take [10, 11, 12, 13, 14] (i := 6) (v := ?_) hro rfl (by kernel_rfl) (by kernel_rfl) (by kernel_rfl) (by kernel_rfl) (by kernel_rfl) (by kernel_rfl) (fun _ _ _ h => h) ⟨Or.inl ⟨by kernel_rfl, ?_⟩, fun _ => rfl⟩ hSw ?_
      rotate_left
      · (intro u hu; obtain ⟨h0, h1, h2, h3, h4⟩ := hu; first | (go_simp; done) | (go_simp; with_reducible rfl))
      try simp only [Act.put, List.setIfInBounds_toArray, List.set_cons_zero, List.set_cons_succ]
      refine anyD_take [9, 10, 11, 12, 13, 14] (i := 7) (v := ?_) hro rfl (by kernel_rfl) (by kernel_rfl) (by kernel_rfl) (by kernel_rfl) (by kernel_rfl) (by kernel_rfl) (fun _ _ _ h => h) ⟨Or.inl ⟨by kernel_rfl, ?_⟩, fun _ => rfl⟩ hSw ?_
      rotate_left
      · (intro u hu; obtain ⟨h0, h1, h2, h3, h4⟩ := hu; first | (go_simp; done) | (go_simp; with_reducible rfl))
      try simp only [Act.put, List.setIfInBounds_toArray, List.set_cons_zero, List.set_cons_succ]
      refine anyD_take [9, 10, 11, 12, 13, 14] (i := 8) (v := ?_) hro rfl (by kernel_rfl) (by kernel_rfl) (by kernel_rfl) (by kernel_rfl) (by kernel_rfl) (by kernel_rfl) (fun _ _ _ h => h) ⟨Or.inl ⟨by kernel_rfl, ?_⟩, fun _ => rfl⟩ hSw ?_
      rotate_left
      · (intro u hu; obtain ⟨h0, h1, h2, h3, h4⟩ := hu; first | (go_simp; done) | (go_simp; with_reducible rfl))
      try simp only [Act.put, List.setIfInBounds_toArray, List.set_cons_zero, List.set_cons_succ]
      refine anyD_take [10, 11, 12, 13, 14] (i := 9) (v := ?_) hro rfl (by kernel_rfl) (by kernel_rfl) (by kernel_rfl) (by kernel_rfl) (by kernel_rfl) (by kernel_rfl) (fun _ _ _ h => h) ⟨Or.inl ⟨by kernel_rfl, ?_⟩, fun _ => rfl⟩ hSw ?_
      rotate_left
      · (intro u hu; obtain ⟨h0, h1, h2, h3, h4⟩ := hu; first | (go_simp; done) | (go_simp; with_reducible rfl))
      try simp only [Act.put, List.setIfInBounds_toArray, List.set_cons_zero, List.set_cons_succ]
      refine anyD_take [11, 12, 13, 14] (i := 10) (v := ?_) hro rfl (by kernel_rfl) (by kernel_rfl) (by kernel_rfl) (by kernel_rfl) (by kernel_rfl) (by kernel_rfl) (fun _ _ _ h => h) ⟨Or.inl ⟨by kernel_rfl, ?_⟩, fun _ => rfl⟩ hSw ?_
      rotate_left
      · (intro u hu; obtain ⟨h0, h1, h2, h3, h4⟩ := hu; first | (go_simp; done) | (go_simp; with_reducible rfl))
      try simp only [Act.put, List.setIfInBounds_toArray, List.set_cons_zero, List.set_cons_succ]
      refine anyD_take [12, 13, 14] (i := 11) (v := ?_) hro rfl (by kernel_rfl) (by kernel_rfl) (by kernel_rfl) (by kernel_rfl) (by kernel_rfl) (by kernel_rfl) (fun _ _ _ h => h) ⟨Or.inl ⟨by kernel_rfl, ?_⟩, fun _ => rfl⟩ hSw ?_
      rotate_left
      · (intro u hu; obtain ⟨h0, h1, h2, h3, h4⟩ := hu; first | (go_simp; done) | (go_simp; with_reducible rfl))
      try simp only [Act.put, List.setIfInBounds_toArray, List.set_cons_zero, List.set_cons_succ]
      refine anyD_take [13, 14] (i := 12) (v := ?_) hro rfl (by kernel_rfl) (by kernel_rfl) (by kernel_rfl) (by kernel_rfl) (by kernel_rfl) (by kernel_rfl) (fun _ _ _ h => h) ⟨Or.inl ⟨by kernel_rfl, ?_⟩, fun _ => rfl⟩ hSw ?_
      rotate_left
      · (intro u hu; obtain ⟨h0, h1, h2, h3, h4⟩ := hu; first | (go_simp; done) | (go_simp; with_reducible rfl))
      try simp only [Act.put, List.setIfInBounds_toArray, List.set_cons_zero, List.set_cons_succ]
      refine anyD_ofb (by kernel_rfl) ?_
      refine wpAnyIn_ready (rs := [13]) (by kernel_rfl) (by simp) ?_
      refine AllReadyIn.cons rfl (fun K hK => ?_) AllReadyIn.nil
      go_simp
      gi_wp2_with (refine hR.mono ?_; rintro e W3 h3; obtain ⟨bv, rfl, h4⟩ : ∃ bv : Bool, e = .returned (.bool bv) ∧ ((bv = true ∧ J (fr M k ++ [⟨k, hlt⟩]) W3 ∧ KB P wr.drew W3) ∨ (bv = false ∧ Jx (fr M k ++ [⟨k, hlt⟩]) W3)) := h3.elim (fun h => ⟨true, h.1, .inl ⟨rfl, h.2.1, h.2.2⟩⟩) (fun h => ⟨false, h.1, .inr ⟨rfl, h.2⟩⟩))
      try (refine hK _ _ ?_; clear hK K)
      refine wpAnyIn_take (i := 14) (v := ?_) hro rfl (by kernel_rfl) (by kernel_rfl) (by kernel_rfl) (fun _ _ _ h => h) ⟨Or.inl ⟨by kernel_rfl, ?_⟩, fun _ => rfl⟩ ?_
      rotate_left
      · (intro u; first | (go_simp; done) | (go_simp; with_reducible rfl))
      refine wpAnyIn_done (by kernel_rfl) ?_ _
      all_goals
        rcases h4 with ⟨rfl, hJn, hKn⟩ | ⟨rfl, hJx3⟩
        · gi_wp2
          go_roundw
          case rel => exact ⟨k + 1, by omega, by go_num, by rw [fr_succ hlt]; exact hJn, Lib.hid (HK.out.t (show KB P wr W3 from hKn))⟩
          case measure => simp [intOf]; omega
        · gi_wp2
          refine bodyPost_ret (results_none rfl _ _ _) rfl ?_
          exact ⟨⟨_, rfl⟩, .inr ⟨_, ⟨k + 1, by omega, (fr_succ hlt).symm⟩, hJx3⟩⟩
    · obtain rfl : k = M := by omega
      gi_wp2
      go_end0
      exact ⟨⟨_, rfl⟩, .inl ⟨_, fr_all k, hJs⟩⟩
theorem acr_stops (F : Fence) (n : Nat) (hf : F.fn 89) (hro : F.round = none) (hn : 1 ≤ n) (P : Nat → Prop) (c8 c5 c2 c7 c6 b off M fi ce st NC cap : Nat) (g : Nat → Int) (hM : M ≤ 64) (hfi : fi ≤ 64) (hNC : NC ≤ 4096) (hst : st ≤ 64) (hbd : ∀ i, i < M → ce + i * st < NC)
    (p8 : P c8) (p5 : P c5) (p2 : P c2) (p7 : P c7) (p6 : P c6) (pb : P b) (w : World) (hn0 : ∀ b, P b → b < w.heap.size) (hA : AC w c8 c5 c2 c7 c6 b off M fi ce st NC cap g) :
    SeqStopsK F n Try.prog 89 #[.pointer (some ⟨c8, 0, none⟩), .pointer (some ⟨c5, 0, none⟩), .pointer (some ⟨c2, 0, none⟩), .pointer (some ⟨c7, 0, none⟩), .pointer (some ⟨c6, 0, none⟩)] (fun x : Fin M => #[Value.int .i64 ((fi : Int) + (x.1 : Int)), Value.int .i64 (g x.1)]) (KB P) (fun ys => ys = List.finRange M) (fun pre => ∃ k, k ≤ M ∧ pre = fr M k) M w :=
  fun l J Jx W0 hW0' hJ _ hY h0 => acr1_in F n hf hro hn P l c8 c5 c2 c7 c6 b off M fi ce st NC cap g hM hfi hNC hst hbd p8 p5 p2 p7 p6 pb J Jx W0 hJ hY (hA.keep (P := P) (fun b hb => hW0'.block b (hn0 b hb)) p8 p5 p2 p7 p6 pb) h0
end Go.Proofs.Ytmcdfnhpaneanaa
