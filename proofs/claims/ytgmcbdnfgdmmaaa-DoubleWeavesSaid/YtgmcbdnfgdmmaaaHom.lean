/- Sets that come off: arithmetic; lists that grow apart. -/
import Derived.Test.YtgmcbdnfgdmmaaaHpz
import Derived.Test.YtgmcbdnfgdmmaaaHpw
namespace Go.Proofs.Ytgmcbdnfgdmmaaa
open Go.RowKit
set_option maxRecDepth 100000
set_option linter.unusedVariables false
set_option linter.unusedSimpArgs false

theorem set_lt {N n : Nat} {f : Nat → Int} (h : setB N n f = true) : ∀ d i, i + d + 1 < n → f i < f (i + d + 1) := by
  unfold setB at h
  rw [decide_eq_true_iff] at h
  intro d
  induction d with
  | zero => intro i hi; have := (h (i + 1) (by omega)).2 (by omega); rwa [Nat.add_sub_cancel] at this
  | succ d ih => intro i hi; have h1 := ih i (by omega); have h2 := (h (i + d + 1 + 1) (by omega)).2 (by omega); rw [Nat.add_sub_cancel] at h2; exact Int.lt_trans h1 h2
theorem set_inj {N n : Nat} {f : Nat → Int} (h : setB N n f = true) {i j : Nat} (hi : i < n) (hj : j < n) (e : f i = f j) : i = j := by
  rcases Nat.lt_trichotomy i j with c | c | c
  · have := set_lt h (j - i - 1) i (by omega); rw [show i + (j - i - 1) + 1 = j by omega] at this; omega
  · exact c
  · have := set_lt h (i - j - 1) j (by omega); rw [show j + (i - j - 1) + 1 = i by omega] at this; omega
/-- Some thread is in the set: its list is not empty. -/
theorem set_in {n a : Nat} {f : Nat → Int} (hm : mem n f a = true) : 0 < n := by
  obtain ⟨i, hi, _⟩ := mem_iff.1 hm
  omega
/-- Some thread is not in the set: its list is short. -/
theorem set_short {N n a : Nat} {f : Nat → Int} (h : setB N n f = true) (ha : a < N) (hm : mem n f a = false) : n < N := by
  have hne : ∀ i, i < n → f i ≠ (a : Int) := fun i hi e => by rw [mem_iff.2 ⟨i, hi, e⟩] at hm; cases hm
  have hr : ∀ i, i < n → 0 ≤ f i ∧ f i < (N : Int) := fun i hi => by
    unfold setB at h
    rw [decide_eq_true_iff] at h
    exact (h i hi).1
  have := pigeon (N - 1) n (fun i => if f i < (a : Int) then (f i).toNat else (f i).toNat - 1) (fun i hi => by
    have h1 := hr i hi
    have h2 := hne i hi
    show (if f i < (a : Int) then (f i).toNat else (f i).toNat - 1) < N - 1
    split <;> omega) (fun i j hi hj e => by
    have h1 := hr i hi
    have h2 := hne i hi
    have h3 := hr j hj
    have h4 := hne j hj
    refine set_inj h hi hj ?_
    have e' : (if f i < (a : Int) then (f i).toNat else (f i).toNat - 1) = (if f j < (a : Int) then (f j).toNat else (f j).toNat - 1) := e
    split at e' <;> split at e' <;> omega)
  omega
/-- A short list leaves some thread out. -/
theorem set_out {N n : Nat} {f : Nat → Int} (hn : n < N) : ∃ a, a < N ∧ mem n f a = false := by
  by_cases h : ∃ a, a < N ∧ mem n f a = false
  · exact h
  exfalso
  have hall : ∀ a, a < N → ∃ i, i < n ∧ f i = (a : Int) := fun a ha => by
    cases hm : mem n f a
    · exact absurd ⟨a, ha, hm⟩ h
    · exact mem_iff.1 hm
  have := pigeon n N (fun a => if h : a < N then (hall a h).choose else 0) (fun a ha => by
    simp only [dif_pos ha]
    exact (hall a ha).choose_spec.1) (fun a b ha hb e => by
    simp only [dif_pos ha, dif_pos hb] at e
    have e1 := (hall a ha).choose_spec.2
    have e2 := (hall b hb).choose_spec.2
    rw [e] at e1
    omega)
  omega
/-- The set P comes off. -/
def offP (R : Nat → Nat → Bool) (N : Nat) (P : Nat → Bool) : Prop := (∃ a, a < N ∧ P a = true) ∧ (∃ a, a < N ∧ P a = false) ∧ ∀ a b, a < N → b < N → P a = false → P b = true → R a b = false
theorem off_P {R : Nat → Nat → Bool} {N n : Nat} {f : Nat → Int} (hs : setB N n f = true) : offB R N n f = true ↔ offP R N (mem n f) := by
  rw [offB_iff]
  constructor
  · rintro ⟨h0, hn, hc⟩
    obtain ⟨a, ha, e⟩ := setB_at hs h0
    refine ⟨⟨a, ha, mem_iff.2 ⟨0, h0, e⟩⟩, set_out hn, fun a b ha hb h1 h2 => ?_⟩
    obtain ⟨i, hi, e⟩ := mem_iff.1 h2
    have := hc a ha h1 i hi
    rwa [e, Int.toNat_natCast] at this
  · rintro ⟨⟨a, ha, h1⟩, ⟨b, hb, h2⟩, hc⟩
    refine ⟨set_in h1, set_short hs hb h2, fun c hcN hm i hi => ?_⟩
    obtain ⟨x, hx, e⟩ := setB_at hs hi
    rw [e, Int.toNat_natCast]
    exact hc c x hcN hx hm (mem_iff.2 ⟨i, hi, e⟩)
theorem mem_of {N a : Nat} {P : Nat → Bool} (ha : a < N) : mem (ofl P N).length (lf (ofl P N)) a = P a := by
  rw [Bool.eq_iff_iff, mem_ofl]
  exact ⟨fun h => h.2, fun h => ⟨ha, h⟩⟩
theorem offP_congr {R : Nat → Nat → Bool} {N : Nat} {P Q : Nat → Bool} (h : ∀ a, a < N → P a = Q a) : offP R N P ↔ offP R N Q := by
  constructor
  · rintro ⟨⟨a, ha, h1⟩, ⟨b, hb, h2⟩, hc⟩
    exact ⟨⟨a, ha, by rw [← h a ha]; exact h1⟩, ⟨b, hb, by rw [← h b hb]; exact h2⟩, fun x y hx hy p q => hc x y hx hy (by rw [h x hx]; exact p) (by rw [h y hy]; exact q)⟩
  · rintro ⟨⟨a, ha, h1⟩, ⟨b, hb, h2⟩, hc⟩
    exact ⟨⟨a, ha, by rw [h a ha]; exact h1⟩, ⟨b, hb, by rw [h b hb]; exact h2⟩, fun x y hx hy p q => hc x y hx hy (by rw [← h x hx]; exact p) (by rw [← h y hy]; exact q)⟩
theorem off_ofl {R : Nat → Nat → Bool} {N : Nat} {P : Nat → Bool} : offB R N (ofl P N).length (lf (ofl P N)) = true ↔ offP R N P := by
  rw [off_P setB_ofl]
  exact offP_congr fun a ha => mem_of ha
theorem off_or {R : Nat → Nat → Bool} {N : Nat} {P Q : Nat → Bool} (h1 : offP R N P) (h2 : offP R N Q) (hl : (ofl (fun a => P a || Q a) N).length < N) : offB R N (ofl (fun a => P a || Q a) N).length (lf (ofl (fun a => P a || Q a) N)) = true := by
  rw [off_ofl]
  obtain ⟨⟨a, ha, p1⟩, _, c1⟩ := h1
  obtain ⟨_, _, c2⟩ := h2
  refine ⟨⟨a, ha, by simp [p1]⟩, ?_, fun x y hx hy p q => ?_⟩
  · obtain ⟨b, hb, e⟩ := set_out (f := lf (ofl (fun a => P a || Q a) N)) hl
    rw [mem_of hb] at e
    exact ⟨b, hb, e⟩
  · rw [Bool.or_eq_false_iff] at p
    rw [Bool.or_eq_true] at q
    rcases q with q | q
    · exact c1 x y hx hy p.1 q
    · exact c2 x y hx hy p.2 q
theorem off_and {R : Nat → Nat → Bool} {N : Nat} {P Q : Nat → Bool} (h1 : offP R N P) (h2 : offP R N Q) (hl : 0 < (ofl (fun a => P a && Q a) N).length) : offB R N (ofl (fun a => P a && Q a) N).length (lf (ofl (fun a => P a && Q a) N)) = true := by
  rw [off_ofl]
  obtain ⟨_, ⟨b, hb, p1⟩, c1⟩ := h1
  obtain ⟨_, _, c2⟩ := h2
  refine ⟨⟨_, (ofl_get hl).1, (ofl_get hl).2⟩, ⟨b, hb, by simp [p1]⟩, fun x y hx hy p q => ?_⟩
  rw [Bool.and_eq_true] at q
  rcases Bool.and_eq_false_iff.1 p with p | p
  · exact c1 x y hx hy p q.1
  · exact c2 x y hx hy p q.2
theorem ov_not (W : Nat) (f : Nat → Bool) (a b : Nat) : ov W (fun i => !f i) a b = ov W f b a := by
  unfold ov
  by_cases h1 : a < W <;> by_cases h2 : b < W <;> simp [h1, h2]
theorem off_com {W N n : Nat} {g : Nat → Bool} {f : Nat → Int} (hs : setB N n f = true) : offB (ov W fun i => !g i) N (ofl (fun a => !mem n f a) N).length (lf (ofl (fun a => !mem n f a) N)) = offB (ov W g) N n f := by
  rw [Bool.eq_iff_iff, off_ofl, off_P hs]
  constructor
  · rintro ⟨⟨a, ha, h1⟩, ⟨b, hb, h2⟩, hc⟩
    refine ⟨⟨b, hb, by simpa using h2⟩, ⟨a, ha, by simpa using h1⟩, fun x y hx hy p q => ?_⟩
    have := hc y x hy hx (by simpa using q) (by simpa using p)
    rwa [ov_not] at this
  · rintro ⟨⟨a, ha, h1⟩, ⟨b, hb, h2⟩, hc⟩
    refine ⟨⟨b, hb, by simpa using h2⟩, ⟨a, ha, by simpa using h1⟩, fun x y hx hy p q => ?_⟩
    rw [ov_not]
    exact hc y x hy hx (by simpa using q) (by simpa using p)
/-- Two values have no row in common. -/
def Apt (x v : Value) : Prop := ∀ k, v.ownBlock = some k → x.ownBlock ≠ some k
theorem Apt.symm {x v : Value} (h : Apt x v) : Apt v x := fun k h1 h2 => h k h2 h1
theorem Apt.nil (v : Value) : Apt (.slice none 0 0) v := fun k _ h => by cases h
/-- 'append(s, y)', and what lies apart stays. -/
theorem app1k {ops : Array Oper} {rest : List Oper} {o : Oper} {a : Act} {Q : Exit → Act → World → Prop} (w : World) (hgd : o.guard = none) (s x : Operand)
    (ho : o.op = .call { callee := .builtin .append, args := #[s, x], argTypes := #[45, 45] }) (base : Nat) {v : Value} {n : Nat} {f : Nat → Int} (hs : a.eval s = v) (hown : L2.Own w base v n f)
    (y : Int) (hx : a.eval x = .slice (some ⟨w.heap.size, 0, none⟩) 1 1) (hy : f n = y) (hn : n ≤ 100000) (hb : base ≤ w.heap.size)
    (h : ∀ v' w', L2.Own w' base v' (n + 1) f → Below base w w' → (∀ z m g, L2.Own w base z m g → Apt z v → L2.Own w' base z m g ∧ Apt z v') → wpList Try.prog ops Q rest (a.put o.dst v') w') :
    wpList Try.prog ops Q (o :: rest) a (w.alloc (.cells #[.int .i64 y] 3)) := by
  obtain ⟨i0, hi, hz0, hz1, hz2⟩ := info_parts L2.TryI.info3
  refine wpList_append_own_at _ hgd s x 45 ho base 3 i0 (.int .i64 0) 1 8 Try.underlying45 hi hz0 hz1 hz2 rfl (by decide) v n _ hs (hown.alloc _) ⟨w.heap.size, 0, none⟩ 1 1 [.int .i64 y] hx rfl (cell_one_new _ _ _) (ints_oneCell .i64 [y])
    (by unfold maxLen; omega) (by omega) (by simp; omega) ?_
  intro v' w' ho' hg _ h3
  refine h v' w' ?_ ?_ fun z m g hz hap => ⟨?_, fun k hk hzk => ?_⟩
  · unfold L2.Own
    rw [L2.news_succ, hy]
    exact ho'
  · refine Below.grown ((Below.refl _ _).alloc hb _) hg (by simp; omega) fun k hk => (hown.block hk).1
  · unfold L2.Own at hz ⊢
    exact orow_keep hz fun k _ hk => (hg.block k (by have := (orow_block hz hk).2.1; simp; omega) fun e => hap k e.symm hk).trans (Below.heap_alloc w _ k (orow_block hz hk).2.1)
  · rcases h3 with e | e
    · exact hap k (by rw [← e]; exact hk) hzk
    · rw [hk] at e
      have := (orow_block hz hzk).2.1
      cases e
      simp at this
      omega
end Go.Proofs.Ytgmcbdnfgdmmaaa
