/- A range over a function that makes memory between its rounds: what it hands over is told to the body. -/
import Derived.Test.YtnpgmgaajejhjaaCrp
namespace Go.Proofs.Ytnpgmgaajejhjaa
open Go.RowKit Go.Shelf
set_option maxRecDepth 100000
set_option linter.unusedVariables false
set_option linter.unusedSimpArgs false

attribute [local go_sem] Oper.semAt_some
section
variable {F : Fence} {n : Nat} {P : Program}
/-- A function that is ranged over: at each yield the element's own fact holds of the world. -/
def SeqW {α : Type} (F : Fence) (n : Nat) (P : Program) (g : FuncId) (lb : Array Value) (encs : α → Array Value) (Ok : List α → α → World → Prop) (Kp : World → World → Prop) (S : List α → Prop) (w : World) : Prop :=
  ∀ (l : Nat) (J Jx : List α → World → Prop) (W : World), Below w.heap.size w W → AbidesFrom W.heap.size J →
    (∀ pre x W1, J pre W1 → Ok pre x W1 → YieldAt F (n - 1) P l (encs x) W1 fun e W' => (e = .returned (.bool true) ∧ J (pre ++ [x]) W' ∧ Kp W1 W') ∨ (e = .returned (.bool false) ∧ Jx (pre ++ [x]) W')) →
    J [] W → CallsIn F n P g (#[.func (.yield l) #[] #[]] ++ lb) W fun e W' => (∃ v, e = .returned v) ∧ ((∃ xs, S xs ∧ J xs W') ∨ (∃ pre, Jx pre W'))
theorem fresh_range {α : Type} {g : Operand} {ps : Array Tmp} {assign body : Code} {Q : Exit → Act → World → Prop} {a : Act} {w : World} (hro : F.round = none) (h1 : 1 ≤ n) {gf : Nat} {lb : Array Value}
    (hg : a.eval g = .func (.func gf) #[] lb) (hFg : F.fn gf) (eg : ∀ args w, (callFunc gf args).run P w = .ok (.enter gf args) w) {encs : α → Array Value} {Ok : List α → α → World → Prop} {Kp : World → World → Prop} {S : List α → Prop}
    (hseq : SeqW F (n - 1) P gf lb encs Ok Kp S w) (hps : ∀ x, (encs x).size = ps.size) (hKt : ∀ {A B C : World}, Kp A B → Kp B C → Kp A C)
    (hKb : ∀ (X : World) (l : Nat) (o o' : Obj), w.heap.size ≤ l → X.heap[l]? = some o → o.isCells = false → o.isWalk = false → Kp X (X.putObj l o'))
    (hKa : ∀ (X : World) (o : Obj), w.heap.size ≤ X.heap.size → Kp X (X.alloc o)) (ob : α → Obj) (hOa : ∀ pre x (X : World), Ok pre x X → Ok pre x (X.alloc (ob x)))
    (hOk : ∀ pre x (X : World) (l : Nat) (o o' : Obj), w.heap.size ≤ l → X.heap[l]? = some o → o.isCells = false → Ok pre x X → Ok pre x (X.putObj l o'))
    (I : List α → World → Prop) (Ix : Code → List α → World → Prop) (hI : OwnFrom w.heap.size I) (hIx : ∀ c, OwnFrom w.heap.size (Ix c)) (h0 : I [] w) (a₁ : α → World → Act)
    (hassign : ∀ (l : Nat) (x : α) (X : World) (K : Act → World → Prop), K (a₁ x X) (X.alloc (ob x)) → assign.wpIn (F.inRound l) (n - 1 - 1) P (Exit.then K (fun _ _ _ => False)) { tmps := (ps.zip (encs x)).foldl (fun t (p, v) => t.setIfInBounds p v) a.tmps, defers := [] } X)
    (hbody : ∀ (l : Nat) (pre : List α) (x : α) (X X1 : World), X1.heap[X.heap.size]? = some (ob x) → I pre X1 → Ok pre x X1 → body.wpIn (F.inRound l) (n - 1 - 1) P (ownPostK Kp I Ix (pre ++ [x]) X1) (a₁ x X) X1)
    (hdone : ∀ (D : Nat) (xs : List α) (X : World), w.heap.size ≤ D → S xs → I xs X → X.heap[D]? = some (.deferred (some [])) → Q .normal { a with defers := { target := .collected D, args := #[] } :: a.defers } X)
    (hstop : ∀ (D : Nat) (c : Code) (pre : List α) (X : World), w.heap.size ≤ D → Ix c pre X → X.heap[D]? = some (.deferred (some [])) → c.wpIn F n P Q { a with defers := { target := .collected D, args := #[] } :: a.defers } X) :
    (Code.rangeFunc g ps assign body).wpIn F n P Q a w := by
  refine wpIn_rangeFunc fun fn hfn => ?_
  rw [hro]
  -- the two blocks that the loop lays: D for deferred calls, L for its record
  let D := w.heap.size
  let L := w.heap.size + 1
  let rc : LoopState → Option Code → Obj := fun st pe => .loop { state := st, pending := pe, fn := fn, tmps := a.tmps, params := ps, assign := assign, body := body, defers := w.heap.size }
  let W0 := (w.alloc (.deferred (some []))).alloc (rc .ready none)
  have sL : (w.alloc (.deferred (some []))).heap.size = L := World.size_alloc _ _
  have atL : W0.heap[L]? = some (rc .ready none) := by have h := World.alloc_heap_new (w.alloc (.deferred (some []))) (rc .ready none); rwa [sL] at h
  have atD : W0.heap[D]? = some (.deferred (some [])) := (Below.heap_alloc _ _ D (by rw [sL]; exact Nat.lt_succ_self _)).trans (World.alloc_heap_new w _)
  have bl0 : Below w.heap.size w W0 := ((Below.refl _ w).alloc (Nat.le_refl _) _).alloc (by rw [sL]; exact Nat.le_succ _) _
  have ab : ∀ {β : Type} {M : β → World → Prop}, OwnFrom w.heap.size M → ∀ s X Y row, M s X → X.grownBy Y row → (∀ r, row = some r → W0.heap.size ≤ r ∧ ∃ o : Obj, X.heap[r]? = some o ∧ o.isWalk = true) → M s Y :=
    fun hM s X Y row hs hgr hr => hM s X Y row hs hgr fun r e => by
      obtain ⟨h5, o, h6, h7⟩ := hr r e
      exact ⟨Nat.le_trans bl0.size h5, o, h6, Obj.not_cells_of_walk h7⟩
  have kp : ∀ {X Y : World} {row : Option Nat} {k : Nat} {o : Obj}, X.grownBy Y row → (∀ r, row = some r → W0.heap.size ≤ r ∧ ∃ o : Obj, X.heap[r]? = some o ∧ o.isWalk = true) → X.heap[k]? = some o → o.isWalk = false → Y.heap[k]? = some o :=
    fun hgr hr hk hw => (grownBy_keeps hgr (fun r e => (hr r e).2) hk hw).trans hk
  refine ⟨L, [{ target := .collected D, args := #[] }], W0, { target := .fn (.func gf) lb, args := #[.func (.yield L) #[] #[]] }, W0, gf, #[.func (.yield L) #[] #[]] ++ lb, W0, run_enterLoop_outer _ _ _ _ _, ?_, ?_, ?_, fun _ => h1, ?_⟩
  · simp only [resolve, hg]
    simp [go_sem, L]
  · intro f' hf'
    simp [Target.leads] at hf'
    rw [← hf']; exact hFg
  · simp [invoke, go_sem, eg]
  -- the function runs with this loop's invariant
  have run := hseq L (fun pre X => I pre X ∧ X.heap[L]? = some (rc .ready none) ∧ X.heap[D]? = some (.deferred (some []))) (fun pre X => ∃ c, Ix c pre X ∧ X.heap[L]? = some (rc .done (some c)) ∧ X.heap[D]? = some (.deferred (some []))) W0 bl0
    (fun s X Y row hs hgr hr => ⟨ab hI s X Y row hs.1 hgr hr, kp hgr hr hs.2.1 rfl, kp hgr hr hs.2.2 rfl⟩) ?round ⟨hI.alloc _ (hI.alloc _ h0), atL, atD⟩
  case round =>
    rintro pre x X0 ⟨hi0, hl0, hd0⟩ hok0
    have lt0 : L < X0.heap.size := (Array.getElem?_eq_some_iff.1 hl0).1
    have DL : D ≠ L := Nat.ne_of_lt (Nat.lt_succ_self _)
    have wL : w.heap.size ≤ L := Nat.le_succ _
    have hl : (X0.alloc (ob x)).heap[L]? = some (rc .ready none) := (Below.heap_alloc _ _ L lt0).trans hl0
    have hd : (X0.alloc (ob x)).heap[D]? = some (.deferred (some [])) := (Below.heap_alloc _ _ D (Nat.lt_trans (Nat.lt_succ_self _) lt0)).trans hd0
    have hi : I pre (X0.alloc (ob x)) := hI.alloc _ hi0
    have hok : Ok pre x (X0.alloc (ob x)) := hOa pre x X0 hok0
    have hk0 : Kp X0 (X0.alloc (ob x)) := hKa X0 _ (Nat.le_trans wL (Nat.le_of_lt lt0))
    have hob : (X0.alloc (ob x)).heap[X0.heap.size]? = some (ob x) := World.alloc_heap_new X0 _
    refine ⟨fn, _, assign, body, run_yield (P := P) (args := encs x) hl0 (hps x), roundIn_of_wpIn hfn (hassign L x X0 _ ⟨_, run_beginRound hl rfl, ?_⟩)⟩
    generalize hX : X0.alloc (ob x) = X at *
    have ltL : L < X.heap.size := (Array.getElem?_eq_some_iff.1 hl).1
    have busyL : (X.putObj L (rc .busy none)).heap[L]? = some (rc .busy none) := World.putObj_heap_same ltL
    have busyD : (X.putObj L (rc .busy none)).heap[D]? = some (.deferred (some [])) := (World.putObj_heap_other DL).trans hd
    have hob1 : (X.putObj L (rc .busy none)).heap[X0.heap.size]? = some (ob x) := (World.putObj_heap_other (Nat.ne_of_gt lt0)).trans hob
    refine wpIn_mono (hbody L pre x X0 _ hob1 (hI.putObj _ hi wL hl rfl) (hOk pre x X L _ _ wL hl rfl hok)) fun e a3 Y hp => ?_
    have leave : ∀ (jump : Option Code), KeepsOthers (X.putObj L (rc .busy none)) Y → (Instr.endRound L jump).run P Y = .ok (.bool jump.isNone) (Y.putObj L (rc (if jump.isNone then .ready else .done) jump)) ∧ Y.heap[L]? = some (rc .busy none) ∧
        (Y.putObj L (rc (if jump.isNone then .ready else .done) jump)).heap[L]? = some (rc (if jump.isNone then .ready else .done) jump) ∧ (Y.putObj L (rc (if jump.isNone then .ready else .done) jump)).heap[D]? = some (.deferred (some [])) := fun jump hk => by
      have h5 := hk.same _ _ busyL rfl
      exact ⟨run_endRound (P := P) jump h5, h5, World.putObj_heap_same (Array.getElem?_eq_some_iff.1 h5).1, (World.putObj_heap_other DL).trans (hk.same _ _ busyD rfl)⟩
    cases e with
    | normal =>
      obtain ⟨p1, p2, p3⟩ := hp
      obtain ⟨l1, l2, l3, l4⟩ := leave none p1
      exact ⟨_, _, l1, .inl ⟨rfl, ⟨hI.putObj _ p3 wL l2 rfl, l3, l4⟩, hKt (hKt (hKt hk0 (hKb X L _ _ wL hl rfl rfl)) p2) (hKb Y L _ _ wL l2 rfl rfl)⟩⟩
    | ret =>
      obtain ⟨l1, l2, l3, l4⟩ := leave (some .ret) hp.1
      exact ⟨_, _, l1, .inr ⟨rfl, .ret, (hIx _).putObj _ hp.2 wL l2 rfl, l3, l4⟩⟩
    | exit id =>
      obtain ⟨l1, l2, l3, l4⟩ := leave (some (.exit id)) hp.1
      exact ⟨_, _, l1, .inr ⟨rfl, .exit id, (hIx _).putObj _ hp.2 wL l2 rfl, l3, l4⟩⟩
    | goto t =>
      obtain ⟨l1, l2, l3, l4⟩ := leave (some (.goto t)) hp.1
      exact ⟨_, _, l1, .inr ⟨rfl, .goto t, (hIx _).putObj _ hp.2 wL l2 rfl, l3, l4⟩⟩
    | panic ch => exact hp.elim
    | outgrown => exact hp.elim
  refine run.mono ?_
  rintro e X ⟨⟨v, rfl⟩, ⟨xs, hS, hi, hl, hd⟩ | ⟨pre, c, hi, hl, hd⟩⟩
  · exact ⟨none, _, run_endLoop (P := P) hl (by simp), hdone D xs _ (Nat.le_refl _) hS (hI.putObj _ hi (Nat.le_succ _) hl rfl) ((World.putObj_heap_other (Nat.ne_of_lt (Nat.lt_succ_self _))).trans hd)⟩
  · exact ⟨some c, _, run_endLoop (P := P) hl (by simp), hstop D c pre _ (Nat.le_refl _) ((hIx c).putObj _ hi (Nat.le_succ _) hl rfl) ((World.putObj_heap_other (Nat.ne_of_lt (Nat.lt_succ_self _))).trans hd)⟩
end
end Go.Proofs.Ytnpgmgaajejhjaa
