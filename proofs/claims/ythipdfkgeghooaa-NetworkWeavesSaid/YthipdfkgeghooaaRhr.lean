/- Rhq's laws within a round of a loop: no operation of the region defers. -/
import Derived.Test.YthipdfkgeghooaaRhq
namespace Go.Proofs.Ythipdfkgeghooaa
set_option maxRecDepth 100000
set_option linter.unusedVariables false
set_option linter.unusedSimpArgs false

section
variable {F : Fence} {n : Nat} {P : Program} {ops : Array Oper} {Q : Exit → Act → World → Prop} {md : Region.Mode} {S : World → Prop} {D : List Nat}
def noDefer (ops : Array Oper) : Bool := ops.all fun o => match o.op with
  | .defer _ => false
  | _ => true
theorem noDefer_spec (h : noDefer ops = true) (j : Nat) (o : Oper) (c) (hj : ops[j]? = some o) : o.op ≠ .defer c := fun e => by
  obtain ⟨h1, h2⟩ := Array.getElem?_eq_some_iff.1 hj
  have h3 := Array.all_eq_true.1 h j h1
  rw [h2] at h3
  rw [e] at h3
  cases h3
theorem yieldsD_opR {i : Nat} {o : Oper} {v : Value} {a : Act} (hro : ∀ c, o.op ≠ .defer c) (hi : ops[i]? = some o) (hy : YieldsD P ops S o v a) {K : Act → World → Prop} {w : World} (hS : S w) (h : K (a.put o.dst v) w) : wpOpIn F n P ops Q i K a w := by
  have hab : ∀ f, o.about P w a.eval = some f → F.fn f := fun f hf => absurd hf (by rw [hy.2 w]; exact fun e => by cases e)
  unfold Go.wpOpIn
  rw [hi]
  rcases hy.1 with ⟨hw, hv⟩ | ⟨hw, rfl⟩
  · show if Region.wanted o (yielded ops a.tmps) = true then _ else _
    rw [if_pos hw]
    refine ⟨hab, ?_⟩
    rw [Oper.semAt_eq _ _ _ hro, hv w hS]
    exact h
  · show if Region.wanted o (yielded ops a.tmps) = true then _ else _
    rw [if_neg (by rw [hw]; exact Bool.false_ne_true)]
    exact ⟨hab, h⟩
/-- An operation j apart from i does not see whether i's value lies already, and i's value stays. -/
theorem opD_putR {j : Nat} {oi oj : Oper} {v : Value} (hro : ∀ c, oj.op ≠ .defer c) (hj : ops[j]? = some oj) (hap : oi.apart ops oj = true)
    (hsi : ∀ cs b, oi.op ≠ .select cs b) (hsj : ∀ cs b, oj.op ≠ .select cs b) (hQ : ∀ c a w, Q (.panic c) (a.put oi.dst v) w → Q (.panic c) a w) {K : Act → World → Prop} {a : Act} {w : World}
    (hy : YieldsD P ops S oi v a) (h : wpOpIn F n P ops Q j K (a.put oi.dst v) w) : wpOpIn F n P ops Q j (fun b u => YieldsD P ops S oi v b ∧ K (b.put oi.dst v) u) a w := by
  obtain ⟨h1, h2, h3⟩ := Oper.apart_spec hap
  have stay : ∀ (b : Act) u, YieldsD P ops S oi v b → YieldsD P ops S oi v (b.put oj.dst u) := fun b u hb =>
    ⟨hb.1.of_same (execOp_put oi hsi b oj.dst u h3) (wanted_put oi b oj.dst u h3), fun w => by rw [about_put oi w b oj.dst u h3]; exact hb.2 w⟩
  have swap : ∀ (b : Act) u w, YieldsD P ops S oi v b → K ((b.put oi.dst v).put oj.dst u) w → YieldsD P ops S oi v (b.put oj.dst u) ∧ K ((b.put oj.dst u).put oi.dst v) w := fun b u w hb hk =>
    ⟨stay b u hb, by rw [← Act.put_comm b v u h2]; exact hk⟩
  unfold wpOpIn at h ⊢
  rw [hj] at h ⊢
  have ew := wanted_put (ops := ops) oj a oi.dst v h1
  have ea := about_put (P := P) (ops := ops) oj w a oi.dst v h1
  by_cases hw : Region.wanted oj (yielded ops a.tmps) = true
  · have h : oj.wpIn F n P (a.put oi.dst v) w K Q := by simpa only [ew, hw, if_true] using h
    simp only [hw, if_true]
    refine ⟨by rw [← ea]; exact h.1, ?_⟩
    have hr := h.2
    rw [Oper.semAt_eq _ _ _ hro] at hr
    rw [Oper.semAt_eq _ _ _ hro]
    rw [execOp_put oj hsj a oi.dst v h1] at hr
    refine upon_map (fun u w' hk => swap a u w' hy hk) (fun d w' hk => ?_) (fun c w' hk => hQ c a w' hk) _ hr
    refine swap { a with defers := d :: a.defers } undef w' ⟨hy.1.of_same rfl rfl, hy.2⟩ ?_
    rw [← Act.put_defers]
    exact hk
  · have hf : Region.wanted oj (yielded ops a.tmps) = false := by simpa using hw
    have h := h
    simp only [ew, hf, Bool.false_eq_true, if_false, ea] at h ⊢
    exact ⟨h.1, swap a undef w hy h.2⟩
theorem anyD_firstR {i : Nat} {oi : Oper} {v : Value} (hro : ∀ (j : Nat) (o : Oper) c, ops[j]? = some o → o.op ≠ .defer c) (hi : ops[i]? = some oi) (hsel : ∀ (j : Nat) (o : Oper) cs b, ops[j]? = some o → o.op ≠ .select cs b)
    (hQ : ∀ c a w, Q (.panic c) (a.put oi.dst v) w → Q (.panic c) a w) (T : List Nat) (hW : waitsD md ops T i = true) (hT : ∀ d, d ∈ D → d ∈ T) (k : Nat) :
    ∀ (l : Array Bool) (a : Act) (w : World), (∀ d, d ∈ T → l.getD d false = false) → 
      (∀ j oj, ops[j]? = some oj → j ≠ i → l.getD j true = false → (∀ e ∈ oj.after, Region.binds md e = true → e.on ≠ i) → oi.apart ops oj = true) →
      i ∈ Region.ready md ops l → YieldsD P ops S oi v a → S w → wpAnyD F n P md ops Q S D k (l.setIfInBounds i true) (a.put oi.dst v) w → wpAnyD F n P md ops Q S D (k + 1) l a w := by
  induction k with
  | zero =>
    refine fun l a w hl _ hr hy hS H => ⟨fun e => absurd hr (by rw [e]; simp), fun j hj => ?_⟩
    by_cases e : j = i
    · rw [e]; exact yieldsD_opR (fun c => hro i oi c hi) hi hy hS ⟨.inr hS, H⟩
    · exact absurd (ready_mono hj e) (by rw [H.1]; simp)
  | succ k ih =>
    refine fun l a w hl hfr hr hy hS H => ⟨fun e => absurd hr (by rw [e]; simp), fun j hj => ?_⟩
    by_cases e : j = i
    · rw [e]; exact yieldsD_opR (fun c => hro i oi c hi) hi hy hS ⟨.inr hS, H⟩
    have hn := not_yet hW hl hr hj
    obtain ⟨hun, oj, hoj, hall⟩ := mem_ready.1 hj
    have ha : oi.apart ops oj = true := hfr j oj hoj e hun fun x hx hb he => both_ways (mem_ready.1 hr).1 (by rw [← he]; exact hall x hx hb)
    refine wpOpIn_mono (fun b u hb => ?_) (opD_putR (fun c => hro j oj c hoj) hoj ha (fun cs c => hsel i oi cs c hi) (fun cs c => hsel j oj cs c hoj) hQ hy (H.2 j (ready_mono hj e)))
    have hS' : S u := hb.2.1.resolve_left fun h => hn (hT j h)
    refine ⟨.inr hS', ih _ b u (fun d hd => ?_) (fun m om hm hmi hmu hmo => hfr m om hm hmi ?_ hmo) (ready_mono hr (Ne.symm e)) hb.1 hS' (by rw [Array.setIfInBounds_comm _ _ e]; exact hb.2.2)⟩
    · rw [getD_set_ne false (fun e' => hn (by rw [e']; exact hd))]
      exact hl d hd
    · by_cases e' : j = m
      · rw [← e']; exact hun
      · rwa [getD_set_ne true e'] at hmu
/-- Number i is taken first: T waits for it. -/
theorem anyD_takeR (T : List Nat) {i : Nat} {oi : Oper} {v : Value} {k : Nat} {l : Array Bool} {a : Act} {w : World} (hro : noDefer ops = true) (hi : ops[i]? = some oi)
    (hs : Region.noSelect ops = true) (hf : Region.free md ops l i = true) (hr : (Region.ready md ops l).contains i = true) (hW : waitsD md ops T i = true) (hT : (D.all fun d => T.contains d) = true) (hl : (T.all fun d => !l.getD d false) = true)
    (hQ : ∀ c a w, Q (.panic c) (a.put oi.dst v) w → Q (.panic c) a w) (hy : YieldsD P ops S oi v a) (hS : S w)
    (h : wpAnyD F n P md ops Q S D k (l.setIfInBounds i true) (a.put oi.dst v) w) : wpAnyD F n P md ops Q S D (k + 1) l a w :=
  anyD_firstR (noDefer_spec hro) hi (Region.noSelect_spec hs) hQ T hW (fun d hd => by have := List.all_eq_true.1 hT d hd; simpa using this) k l a w (fun d hd => by have := List.all_eq_true.1 hl d hd; simpa using this) (Region.free_spec hi hf) (by simpa using hr) hy hS h
end
end Go.Proofs.Ythipdfkgeghooaa
