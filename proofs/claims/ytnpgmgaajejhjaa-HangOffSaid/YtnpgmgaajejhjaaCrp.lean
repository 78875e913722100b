/- The program's crossings of a thread. -/
import Derived.Test.YtnpgmgaajejhjaaChg
namespace Go.Proofs.Ytnpgmgaajejhjaa
open Go.RowKit Go.Shelf
set_option maxRecDepth 100000
set_option linter.unusedVariables false
set_option linter.unusedSimpArgs false

attribute [local go_sem] Oper.semAt_some
theorem chg_stops (F : Fence) (n : Nat) (h68 : F.fn 121) (hro : F.round = none) (hn : 1 ≤ n) (P : Nat → Prop) (B2 b N cap : Nat) (hN0 : 1 ≤ N) (hN : N ≤ 64) (s : Nat → Bool) (hb : P b) (h2 : P B2)
    (w : World) (hn0 : ∀ b, P b → b < w.heap.size) (hB2 : w.cell? ⟨B2, 0, none⟩ = some (.slice (some ⟨b, 0, none⟩) N cap)) (hrow : ∀ i, i < N → w.cell? ⟨b, i, none⟩ = some (.int .i64 (sv (s i)))) :
    SeqStopsK F n Try.prog 121 #[.pointer (some ⟨B2, 0, none⟩)] (fun x : Nat => #[Value.int .i64 (x : Nat)]) (KB P) (fun ys => ys = chs N s N) (fun _ => True) N w :=
  fun l J Jx W0 hW0' hJ _ hY h0 => chg_in F n h68 hro hn P l B2 b N cap hN0 hN s hb h2 J Jx W0 hJ hY ((hW0'.cell (p := ⟨B2, 0, none⟩) (hn0 _ h2)).trans hB2) (fun i hi => (hW0'.cell (p := ⟨b, i, none⟩) (hn0 _ hb)).trans (hrow i hi)) h0
theorem changes_any (A : Option Addr) (n c : Nat) (w : World) :
    Calls Try.prog 104 #[.slice A n c] w fun e w' => e = .returned (.func (.func 121) #[] #[.pointer (some ⟨w.heap.size, 0, none⟩)]) ∧ w' = w.alloc (.cells #[.slice A n c] 51) := by
  have hmf := mk_fn
  go_enter Try.func104, Try.ntmps104
  go_wp2
  go_ret
  exact ⟨rfl, rfl⟩
theorem boxed_own {β : Type} (B : Nat) (t : TypeId) (v : β → Value) : Own (fun (x : β) X => Boxed X B t (v x)) := by
  intro _ X Y row h hg hrow
  exact h.kept hg (fun e => by obtain ⟨o, ho, hc⟩ := hrow B e.symm; rw [show X.heap[B]? = _ from h] at ho; cases ho; cases hc)
/-- What lies while the changes are counted. -/
structure CI (w : World) (s b N cap : Nat) (l : List Nat) (X : World) : Prop where
  n : Boxed X s 3 (.int .i64 (l.length : Nat))
  g : Boxed X (s + 1) 51 (.slice (some ⟨b, 0, none⟩) N cap)
  bel : Below s w X
theorem ci_own (w : World) (s b N cap : Nat) (hs : s ≤ w.heap.size) (B : Nat) (hB : s ≤ B) : OwnFrom B (CI w s b N cap) := by
  have h1 := OwnFrom.and (OwnFrom.and (Own.from (boxed_own (β := List Nat) s 3 (fun l => .int .i64 (l.length : Nat))) B) (Own.from (boxed_own (β := List Nat) (s + 1) 51 (fun _ => .slice (some ⟨b, 0, none⟩) N cap)) B)) (ownFrom_below (β := List Nat) (w₀ := w) hs hB)
  intro l X Y row h hg hr
  obtain ⟨⟨r1, r2⟩, r3⟩ := h1 l X Y row ⟨⟨h.n, h.g⟩, h.bel⟩ hg hr
  exact ⟨r1, r2, r3⟩
theorem ci_step {w X : World} {s b N cap : Nat} {l : List Nat} (x : Nat) (h : CI w s b N cap l X) (hb : b < s) : CI w s b N cap (l ++ [x]) (X.setCell ⟨s, 0, none⟩ (.int .i64 ((l.length : Int) + 1))) ∧ KeepsOthers X (X.setCell ⟨s, 0, none⟩ (.int .i64 ((l.length : Int) + 1))) ∧ KB (fun p => p = b ∨ p = s + 1) X (X.setCell ⟨s, 0, none⟩ (.int .i64 ((l.length : Int) + 1))) := by
  refine ⟨⟨?_, h.g.other (by omega) _, h.bel.setCell (Nat.le_refl _) _⟩, KeepsOthers.setCell _ _ _, fun p hp => Below.heap_setCell X ⟨s, 0, none⟩ _ p ?_⟩
  · rw [List.length_append, show ((l.length + [x].length : Nat) : Int) = (l.length : Int) + 1 by simp]
    exact h.n.set _
  · rcases hp with rfl | rfl <;> simp <;> omega
set_option maxHeartbeats 1600000 in
theorem pcro_any (b N cap : Nat) (s : Nat → Bool) (hN0 : 1 ≤ N) (hN : N ≤ 64) (w : World) (hb : b < w.heap.size) (hrow : ∀ i, i < N → w.cell? ⟨b, i, none⟩ = some (.int .i64 (sv (s i)))) :
    Calls Try.prog 66 #[.slice (some ⟨b, 0, none⟩) N cap] w fun e w' => e = .returned (.int .i64 (cro N s N : Nat)) ∧ Below w.heap.size w w' := by
  have hmf := mk_fn
  refine (callsIn_wide (n := 4)).1 ?_
  refine callsIn_of_wp_marks Try.func66 rfl trivial ?_ rfl
  simp only [Try.ntmps66, List.size_toArray, List.length_cons, List.length_nil, Nat.reduceAdd, Nat.reduceSub, Array.replicate_succ, Array.replicate_zero, List.push_toArray, List.append_toArray, List.nil_append, List.cons_append]
  gi_wp2_with (refine ⟨trivial, ?_⟩; gi_at_call 104; refine (callsIn_wide.2 (changes_any _ _ _ _)).mono ?_; rintro e w' ⟨rfl, rfl⟩)
  generalize hU : World.alloc _ (Obj.cells #[Value.slice _ _ _] 51) = wU
  have hCI : CI w w.heap.size b N cap [] wU := by
    subst hU
    refine ⟨(Boxed.new w 3 (.int .i64 0)).alloc _, ?_, ?_⟩
    · simpa using Boxed.new (w.alloc (.cells #[.int .i64 0] 3)) 51 (.slice (some ⟨b, 0, none⟩) N cap)
    · exact ((Below.refl _ w).alloc (Nat.le_refl _) _).alloc (by simp) _
  have hsz : wU.heap.size = w.heap.size + 2 := by rw [← hU]; simp
  have hrU : ∀ i, i < N → wU.cell? ⟨b, i, none⟩ = some (.int .i64 (sv (s i))) := fun i hi => (hCI.bel.cell (p := ⟨b, i, none⟩) hb).trans (hrow i hi)
  clear hU
  have hn0 : ∀ p, (p = b ∨ p = w.heap.size + 1) → p < wU.heap.size := by
    rintro p (rfl | rfl) <;> omega
  refine wpIn_rangeFunc_ownF (F := Fence.wide) rfl (by omega) (gf := 121) (lb := #[.pointer (some ⟨w.heap.size + 1, 0, none⟩)]) rfl trivial (enters_of Try.func121 (by kernel_rfl) rfl)
    (chg_stops Fence.wide 3 trivial rfl (by omega) (fun p => p = b ∨ p = w.heap.size + 1) (w.heap.size + 1) b N cap hN0 hN s (.inl rfl) (.inr rfl) wU hn0 hCI.g.cell hrU)
    (fun h k => KB.t h k) (fun X l o o' hl h h1 h2 => KB.b (w := wU) hn0 X l o o' hl h h1 h2) (Below.refl _ _) (fun _ => rfl)
    (CI w w.heap.size b N cap) (fun _ _ _ => False) (ci_own w w.heap.size b N cap (Nat.le_refl _) _ (by omega)) (fun _ _ _ _ _ hs _ _ => hs) hCI
    (fun x => { tmps := #[.slice (some ⟨b, 0, none⟩) N cap, undef, .int .i64 0, .pointer (some ⟨w.heap.size, 0, none⟩), .slice (some ⟨b, 0, none⟩) N cap, .func (.func 121) #[] #[.pointer (some ⟨w.heap.size + 1, 0, none⟩)], .int .i64 (x : Nat), undef, undef, undef], defers := [] }) ?assign ?body ?done ?stop
  case assign =>
    intro l x X K hK

    gi_wp2
    first | exact hK | (simpa using hK) | (simpa [Array.zip, Array.zipWith] using hK)
  case body =>
    rintro l pre x X hI hlt
    have hcv := hI.n.cell
    have hfr := hI.n.frozen
    have hst := ci_step x hI hb
    have hlen : pre.length ≤ 64 := by omega
    gi_wp2
    exact ⟨hst.2.1, hst.2.2, hst.1⟩
  case done =>
    rintro D ys X hD rfl hI hK
    have hcv := hI.n.cell
    rw [chs_len] at hcv
    gi_wp2
    have hbK : Below wU.heap.size X (X.putObj D (.deferred none)) := belowK_b (w := wU) (Nat.le_refl _) X D _ _ hD hK rfl rfl
    refine ⟨by simp, .inl ⟨_, _, rfl, run_takeDeferred hK, ?_⟩⟩
    refine ⟨_, results_tmp rfl _ _ _, rfl, ?_⟩
    exact hI.bel.trans (hbK.mono (by omega))
  case stop =>
    rintro D c pre X _ _ h _
    exact h.elim
end Go.Proofs.Ytnpgmgaajejhjaa
