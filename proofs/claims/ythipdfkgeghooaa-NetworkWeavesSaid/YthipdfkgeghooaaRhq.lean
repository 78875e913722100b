/- A load is taken first, inside a fence: a claim on the world is asked anew behind those operations alone that do not wait for what was taken. -/
import Derived.Test.YthipdfkgeghooaaGe
import Derived.RangeFuncBox
import Derived.RangeFuncLeaves
import Derived.RangeFuncNested
import Derived.Shelf.Abstract
import Derived.Shelf.RegionOpen
import Derived.OwnWalkIn
import Derived.TacticsInMore
import Derived.LoopNIn
import Derived.LoopIn
import Derived.BigRegionIn
import Derived.Sort.CutIn
import Derived.RangeFuncFrom
import Derived.OrdersHeld
namespace Go.Proofs.Ythipdfkgeghooaa
set_option maxRecDepth 100000
set_option linter.unusedVariables false
set_option linter.unusedSimpArgs false

section
variable {F : Fence} {n : Nat} {P : Program} {ops : Array Oper} {Q : Exit → Act → World → Prop} {md : Region.Mode} {S : World → Prop} {D : List Nat}
/-- The operation yields v wherever S holds, and enters nothing. -/
def YieldsD (P : Program) (ops : Array Oper) (S : World → Prop) (o : Oper) (v : Value) (a : Act) : Prop := YieldsIf P ops S o v a ∧ ∀ w, o.about P w a.eval = none
/-- What is left of a region goes in whatever order; behind each that is not in D the claim S holds. -/
def wpAnyD (F : Fence) (n : Nat) (P : Program) (md : Region.Mode) (ops : Array Oper) (Q : Exit → Act → World → Prop) (S : World → Prop) (D : List Nat) : Nat → Array Bool → Act → World → Prop
  | 0, l, a, w => Region.ready md ops l = [] ∧ Q .normal a w
  | k + 1, l, a, w => (Region.ready md ops l = [] → Q .normal a w) ∧
    ∀ i ∈ Region.ready md ops l, wpOpIn F n P ops Q i (fun b u => (i ∈ D ∨ S u) ∧ wpAnyD F n P md ops Q S D k (l.setIfInBounds i true) b u) a w
theorem anyD_in : ∀ (k : Nat) (l : Array Bool) (a : Act) (w : World), wpAnyD F n P md ops Q S D k l a w → wpAnyIn F n P md ops Q k l a w
  | 0, _, _, _, h => h
  | k + 1, _, _, _, h => ⟨h.1, fun i hi => wpOpIn_mono (fun b u h' => anyD_in k _ b u h'.2) (h.2 i hi)⟩
/-- Where all that is left lies in D, nothing is asked. -/
theorem anyD_of : ∀ (k : Nat) (l : Array Bool) (a : Act) (w : World), (∀ j, l.getD j true = false → j ∈ D) → wpAnyIn F n P md ops Q k l a w → wpAnyD F n P md ops Q S D k l a w
  | 0, _, _, _, _, h => h
  | k + 1, l, _, _, hd, h => ⟨h.1, fun i hi => wpOpIn_mono (fun b u h' => ⟨.inl (hd i (mem_ready.1 hi).1), anyD_of k _ b u (fun j hj => hd j (by
      by_cases e : i = j
      · subst e; exact (mem_ready.1 hi).1
      · rwa [getD_set_ne true e] at hj)) h'⟩) (h.2 i hi)⟩
theorem anyD_ofb {k : Nat} {l : Array Bool} {a : Act} {w : World} (hd : ((List.range l.size).all fun j => l.getD j true || D.contains j) = true) (h : wpAnyIn F n P md ops Q k l a w) : wpAnyD F n P md ops Q S D k l a w :=
  anyD_of k l a w (fun j hj => by
    rcases Nat.lt_or_ge j l.size with h1 | h1
    · have := List.all_eq_true.1 hd j (List.mem_range.2 h1)
      rw [hj] at this
      simpa using this
    · simp [Array.getElem?_eq_none h1] at hj) h
/-- What follows an operation may be weakened, and may start from another state, where each of its ends allows it. -/
theorem upon_map {o : Oper} {a b : Act} {next next' : Act → World → Prop} (h1 : ∀ u w, next (b.put o.dst u) w → next' (a.put o.dst u) w)
    (h2 : ∀ d w, next ({ b with defers := d :: b.defers }.put o.dst undef) w → next' ({ a with defers := d :: a.defers }.put o.dst undef) w) (h3 : ∀ c w, Q (.panic c) b w → Q (.panic c) a w) :
    ∀ r, o.uponIn F n P b next Q r → o.uponIn F n P a next' Q r
  | .ok x w, h => by
    cases x <;> first
      | exact h1 _ _ h
      | exact h2 _ _ h
      | exact ⟨h.1, h.2.mono fun e w' he => by cases e <;> first | exact h1 _ _ he | exact h3 _ _ he | exact he⟩
      | exact ⟨h.1, h.2.mono fun _ _ he => h1 _ _ he⟩
      | exact h
  | .halt x w, h => by cases x <;> first | exact h3 _ _ h | exact h
theorem yieldsD_op {i : Nat} {o : Oper} {v : Value} {a : Act} (hro : F.round = none) (hi : ops[i]? = some o) (hy : YieldsD P ops S o v a) {K : Act → World → Prop} {w : World} (hS : S w) (h : K (a.put o.dst v) w) : wpOpIn F n P ops Q i K a w := by
  have hab : ∀ f, o.about P w a.eval = some f → F.fn f := fun f hf => absurd hf (by rw [hy.2 w]; exact fun e => by cases e)
  unfold Go.wpOpIn
  rw [hi]
  rcases hy.1 with ⟨hw, hv⟩ | ⟨hw, rfl⟩
  · show if Region.wanted o (yielded ops a.tmps) = true then _ else _
    rw [if_pos hw]
    refine ⟨hab, ?_⟩
    rw [hro, Oper.semAt_none, hv w hS]
    exact h
  · show if Region.wanted o (yielded ops a.tmps) = true then _ else _
    rw [if_neg (by rw [hw]; exact Bool.false_ne_true)]
    exact ⟨hab, h⟩
/-- An operation j apart from i does not see whether i's value lies already, and i's value stays. -/
theorem opD_put {j : Nat} {oi oj : Oper} {v : Value} (hro : F.round = none) (hj : ops[j]? = some oj) (hap : oi.apart ops oj = true)
    (hsi : ∀ cs b, oi.op ≠ .select cs b) (hsj : ∀ cs b, oj.op ≠ .select cs b) (hQ : ∀ c a w, Q (.panic c) (a.put oi.dst v) w → Q (.panic c) a w) {K : Act → World → Prop} {a : Act} {w : World}
    (hy : YieldsD P ops S oi v a) (h : wpOpIn F n P ops Q j K (a.put oi.dst v) w) : wpOpIn F n P ops Q j (fun b u => YieldsD P ops S oi v b ∧ K (b.put oi.dst v) u) a w := by
  obtain ⟨h1, h2, h3⟩ := Oper.apart_spec hap
  have stay : ∀ (b : Act) u, YieldsD P ops S oi v b → YieldsD P ops S oi v (b.put oj.dst u) := fun b u hb =>
    ⟨hb.1.of_same (execOp_put oi hsi b oj.dst u h3) (wanted_put oi b oj.dst u h3), fun w => by rw [about_put oi w b oj.dst u h3]; exact hb.2 w⟩
  have swap : ∀ (b : Act) u w, YieldsD P ops S oi v b → K ((b.put oi.dst v).put oj.dst u) w → YieldsD P ops S oi v (b.put oj.dst u) ∧ K ((b.put oj.dst u).put oi.dst v) w := fun b u w hb hk =>
    ⟨stay b u hb, by rw [← Act.put_comm b v u h2]; exact hk⟩
  unfold wpOpIn at h ⊢
  rw [hj] at h ⊢
  have ew := wanted_put (ops := ops) oj a oi.dst v h1
  have ea := about_put (P := P) (ops := ops) oj w a oi.dst v h1
  by_cases hw : Region.wanted oj (yielded ops a.tmps) = true
  · have h : oj.wpIn F n P (a.put oi.dst v) w K Q := by simpa only [ew, hw, if_true] using h
    simp only [hw, if_true]
    refine ⟨by rw [← ea]; exact h.1, ?_⟩
    have hr := h.2
    rw [hro, Oper.semAt_none] at hr ⊢
    rw [execOp_put oj hsj a oi.dst v h1] at hr
    refine upon_map (fun u w' hk => swap a u w' hy hk) (fun d w' hk => ?_) (fun c w' hk => hQ c a w' hk) _ hr
    refine swap { a with defers := d :: a.defers } undef w' ⟨hy.1.of_same rfl rfl, hy.2⟩ ?_
    rw [← Act.put_defers]
    exact hk
  · have hf : Region.wanted oj (yielded ops a.tmps) = false := by simpa using hw
    have h := h
    simp only [ew, hf, Bool.false_eq_true, if_false, ea] at h ⊢
    exact ⟨h.1, swap a undef w hy h.2⟩
theorem both_ways {l : Array Bool} {i : Nat} (h : l.getD i true = false) (h' : l.getD i false = true) : False := by
  rcases Nat.lt_or_ge i l.size with k | k
  · simp [k] at h h'; rw [h] at h'; cases h'
  · simp [Array.getElem?_eq_none k] at h'
/-- What is in T waits for i, or for what is in T. -/
def waitsD (md : Region.Mode) (ops : Array Oper) (T : List Nat) (i : Nat) : Bool := T.all fun d => match ops[d]? with
  | none => true
  | some o => o.after.any fun e => Region.binds md e && (e.on == i || T.contains e.on)
/-- So it does not come up before i. -/
theorem not_yet {l : Array Bool} {T : List Nat} {i j : Nat} (hT : waitsD md ops T i = true) (hl : ∀ d, d ∈ T → l.getD d false = false) (hr : i ∈ Region.ready md ops l) (hj : j ∈ Region.ready md ops l) : j ∉ T := fun hjd => by
  obtain ⟨_, oj, hoj, hall⟩ := mem_ready.1 hj
  have h1 := List.all_eq_true.1 hT j hjd
  simp only [hoj] at h1
  rw [Array.any_eq_true] at h1
  obtain ⟨x, hx, h2⟩ := h1
  rw [Bool.and_eq_true, Bool.or_eq_true] at h2
  have h3 := hall _ (Array.getElem_mem hx) h2.1
  rcases h2.2 with h4 | h4
  · rw [beq_iff_eq.1 h4] at h3
    exact both_ways (mem_ready.1 hr).1 h3
  · rw [hl _ (by simpa using h4)] at h3; cases h3
theorem anyD_first {i : Nat} {oi : Oper} {v : Value} (hro : F.round = none) (hi : ops[i]? = some oi) (hsel : ∀ (j : Nat) (o : Oper) cs b, ops[j]? = some o → o.op ≠ .select cs b)
    (hQ : ∀ c a w, Q (.panic c) (a.put oi.dst v) w → Q (.panic c) a w) (T : List Nat) (hW : waitsD md ops T i = true) (hT : ∀ d, d ∈ D → d ∈ T) (k : Nat) :
    ∀ (l : Array Bool) (a : Act) (w : World), (∀ d, d ∈ T → l.getD d false = false) → 
      (∀ j oj, ops[j]? = some oj → j ≠ i → l.getD j true = false → (∀ e ∈ oj.after, Region.binds md e = true → e.on ≠ i) → oi.apart ops oj = true) →
      i ∈ Region.ready md ops l → YieldsD P ops S oi v a → S w → wpAnyD F n P md ops Q S D k (l.setIfInBounds i true) (a.put oi.dst v) w → wpAnyD F n P md ops Q S D (k + 1) l a w := by
  induction k with
  | zero =>
    refine fun l a w hl _ hr hy hS H => ⟨fun e => absurd hr (by rw [e]; simp), fun j hj => ?_⟩
    by_cases e : j = i
    · rw [e]; exact yieldsD_op hro hi hy hS ⟨.inr hS, H⟩
    · exact absurd (ready_mono hj e) (by rw [H.1]; simp)
  | succ k ih =>
    refine fun l a w hl hfr hr hy hS H => ⟨fun e => absurd hr (by rw [e]; simp), fun j hj => ?_⟩
    by_cases e : j = i
    · rw [e]; exact yieldsD_op hro hi hy hS ⟨.inr hS, H⟩
    have hn := not_yet hW hl hr hj
    obtain ⟨hun, oj, hoj, hall⟩ := mem_ready.1 hj
    have ha : oi.apart ops oj = true := hfr j oj hoj e hun fun x hx hb he => both_ways (mem_ready.1 hr).1 (by rw [← he]; exact hall x hx hb)
    refine wpOpIn_mono (fun b u hb => ?_) (opD_put hro hoj ha (fun cs c => hsel i oi cs c hi) (fun cs c => hsel j oj cs c hoj) hQ hy (H.2 j (ready_mono hj e)))
    have hS' : S u := hb.2.1.resolve_left fun h => hn (hT j h)
    refine ⟨.inr hS', ih _ b u (fun d hd => ?_) (fun m om hm hmi hmu hmo => hfr m om hm hmi ?_ hmo) (ready_mono hr (Ne.symm e)) hb.1 hS' (by rw [Array.setIfInBounds_comm _ _ e]; exact hb.2.2)⟩
    · rw [getD_set_ne false (fun e' => hn (by rw [e']; exact hd))]
      exact hl d hd
    · by_cases e' : j = m
      · rw [← e']; exact hun
      · rwa [getD_set_ne true e'] at hmu
/-- Number i is taken first: T waits for it. -/
theorem anyD_take (T : List Nat) {i : Nat} {oi : Oper} {v : Value} {k : Nat} {l : Array Bool} {a : Act} {w : World} (hro : F.round = none) (hi : ops[i]? = some oi)
    (hs : Region.noSelect ops = true) (hf : Region.free md ops l i = true) (hr : (Region.ready md ops l).contains i = true) (hW : waitsD md ops T i = true) (hT : (D.all fun d => T.contains d) = true) (hl : (T.all fun d => !l.getD d false) = true)
    (hQ : ∀ c a w, Q (.panic c) (a.put oi.dst v) w → Q (.panic c) a w) (hy : YieldsD P ops S oi v a) (hS : S w)
    (h : wpAnyD F n P md ops Q S D k (l.setIfInBounds i true) (a.put oi.dst v) w) : wpAnyD F n P md ops Q S D (k + 1) l a w :=
  anyD_first hro hi (Region.noSelect_spec hs) hQ T hW (fun d hd => by have := List.all_eq_true.1 hT d hd; simpa using this) k l a w (fun d hd => by have := List.all_eq_true.1 hl d hd; simpa using this) (Region.free_spec hi hf) (by simpa using hr) hy hS h
end
end Go.Proofs.Ythipdfkgeghooaa
