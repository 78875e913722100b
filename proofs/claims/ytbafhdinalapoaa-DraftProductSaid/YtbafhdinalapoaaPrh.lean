/- What the walk of DraftProduct asks of the functions that it calls. -/
import Derived.Test.YtbafhdinalapoaaAlv
import Derived.Test.YtbafhdinalapoaaPrm
namespace Go.Proofs.Ytbafhdinalapoaa
open Go.RowKit
set_option linter.unusedVariables false
set_option linter.unusedSimpArgs false
set_option maxRecDepth 100000

open L2 (nd)
/-- What the walk asks of the callees. -/
structure PH (P : PD) (w : World) (A : Option Addr) (c : Nat) (B : Option Addr) (d : Nat) (C : Option Addr) (e' NT N1 N2 K : Nat) : Prop where
  hv : ∀ v, Below w.heap.size w v → Calls Try.prog 37 #[.agg #[.int .i64 P.S, .int .i64 P.T, .slice A P.n c, .slice B P.m d, .int .i64 P.T, .int .i64 P.S, .slice C NT e']] v fun e w' => e = .returned (.bool true) ∧ Below v.heap.size v w'
  wv : ∀ v, Below w.heap.size w v → Calls Try.prog 14 #[.agg #[.int .i64 P.S, .int .i64 P.T, .slice A P.n c, .slice B P.m d, .int .i64 P.T, .int .i64 P.S, .slice C NT e']] v fun e w' => ∃ k, e = .returned (.tuple #[.agg #[.int .i64 P.n, .int .i64 P.m, .slice (some ⟨k, 0, none⟩) N1 N1], .int .i64 0]) ∧ Row w' k N1 (fun i => P.L (P.G (i / P.n)) (P.F (i % P.n))) ∧ Below v.heap.size v w'
  lf : ∀ v, Below w.heap.size w v → Calls Try.prog 27 #[.agg #[.int .i64 P.S, .int .i64 P.T, .slice A P.n c, .slice B P.m d, .int .i64 P.T, .int .i64 P.S, .slice C NT e']] v fun e w' => ∃ k, e = .returned (.tuple #[.agg #[.int .i64 P.S, .int .i64 P.m, .slice (some ⟨k, 0, none⟩) N2 N2], .int .i64 0]) ∧ Row w' k N2 (P.lf) ∧ Below v.heap.size v w'
  fl : ∀ v k, Below w.heap.size w v → Row v k N2 P.lf → Calls Try.prog 13 #[.slice A P.n c, .agg #[.int .i64 P.S, .int .i64 P.m, .slice (some ⟨k, 0, none⟩) N2 N2]] v fun e w' => ∃ a1 ca1 b1 cb1 c1 cc1, e = .returned (.tuple #[.agg #[.int .i64 P.S, .int .i64 K, .slice (some ⟨a1, 0, none⟩) P.n ca1, .slice (some ⟨b1, 0, none⟩) P.m cb1, .int .i64 K, .int .i64 P.S, .slice (some ⟨c1, 0, none⟩) (K * P.S) cc1], .int .i64 0]) ∧ (∃ D : Dr, D = ⟨P.S, K, some ⟨a1, 0, none⟩, P.n, ca1, some ⟨b1, 0, none⟩, P.m, cb1, K, P.S, some ⟨c1, 0, none⟩, K * P.S, cc1, D.f, D.g, D.b⟩ ∧ D.In w' w'.heap.size ∧
      (∀ v, D.In v v.heap.size → Calls Try.prog 14 #[.agg #[.int .i64 P.S, .int .i64 K, .slice (some ⟨a1, 0, none⟩) P.n ca1, .slice (some ⟨b1, 0, none⟩) P.m cb1, .int .i64 K, .int .i64 P.S, .slice (some ⟨c1, 0, none⟩) (K * P.S) cc1]] v fun e w' => ∃ k, e = .returned (.tuple #[.agg #[.int .i64 P.n, .int .i64 P.m, .slice (some ⟨k, 0, none⟩) N1 N1], .int .i64 0]) ∧ Row w' k N1 (fun i => P.L (P.G (i / P.n)) (P.F (i % P.n))) ∧ Below v.heap.size v w') ∧
      (∀ v, D.In v v.heap.size → Calls Try.prog 27 #[.agg #[.int .i64 P.S, .int .i64 K, .slice (some ⟨a1, 0, none⟩) P.n ca1, .slice (some ⟨b1, 0, none⟩) P.m cb1, .int .i64 K, .int .i64 P.S, .slice (some ⟨c1, 0, none⟩) (K * P.S) cc1]] v fun e w' => ∃ k, e = .returned (.tuple #[.agg #[.int .i64 P.S, .int .i64 P.m, .slice (some ⟨k, 0, none⟩) N2 N2], .int .i64 0]) ∧ Row w' k N2 (P.lf) ∧ Below v.heap.size v w')) ∧ Below v.heap.size v w'

theorem okgrid_row {w w' : World} {W H : Nat} {F G : Nat → Bool} {e : Ending} (h : OkGrid w W H F e w') (hc : ∀ i, i < W * H → F i = G i) : ∃ k, e = .returned (.tuple #[.agg #[.int .i64 W, .int .i64 H, .slice (some ⟨k, 0, none⟩) (W * H) (W * H)], .int .i64 0]) ∧ Row w' k (W * H) G ∧ Below w.heap.size w w' := by
  obtain ⟨k, he, _, hr, hb⟩ := h
  exact ⟨k, he, hr.congr hc, hb⟩
theorem product_hyps {P : PD} (hP : P.Ok) (A : Option Addr) (c : Nat) (B : Option Addr) (d : Nat) (C : Option Addr) (e' : Nat) (f g : Nat → Int) (b : Nat → Bool) (w : World)
    (hI : (⟨P.S, P.T, A, P.n, c, B, P.m, d, P.T, P.S, C, P.T * P.S, e', f, g, b⟩ : Dr).Is P) (hd : (⟨P.S, P.T, A, P.n, c, B, P.m, d, P.T, P.S, C, P.T * P.S, e', f, g, b⟩ : Dr).In w w.heap.size)
    (hv : ∀ v, Below w.heap.size w v → Calls Try.prog 37 #[.agg #[.int .i64 P.S, .int .i64 P.T, .slice A P.n c, .slice B P.m d, .int .i64 P.T, .int .i64 P.S, .slice C (P.T * P.S) e']] v fun e w' => e = .returned (.bool true) ∧ Below v.heap.size v w') :
    PH P w A c B d C e' (P.T * P.S) (P.n * P.m) (P.S * P.m) (nd (rc P.S P.lf) P.m) := by
  refine ⟨hv, fun v hb => (weave_ok hI hP v (hd.next hb)).mono fun e w' h => okgrid_row h fun _ _ => rfl, fun v hb => (lift_ok hI hP v (hd.next hb)).mono fun e w' h => okgrid_row h fun _ _ => rfl, fun v k hb hrow => ?_⟩
  have hf := hI.f
  refine (fromlift_ok A P.n c f P.S P.m k 0 (P.S * P.m) P.lf v (hd.next hb).th (hrow.holds hrow.lt) (Nat.le_refl _) hP.s0 hP.s1 hP.m0 hP.m1 (Nat.le_trans (kinds_le hP) hP.t1) hP.n1 (wi_of hP hf)).mono ?_
  rintro e w' ⟨a, ca, b', cb, c', cc, he, hr, hb'⟩
  have hQ : (P.made f).Ok := made_ok hP hf
  refine ⟨a, ca, b', cb, c', cc, he, ⟨(P.made f).dr a ca b' cb c' cc, rfl, hr.dr ca cb cc, fun v h => ?_, fun v h => ?_⟩, hb'⟩
  · exact (weave_ok ((P.made f).dr_is a ca b' cb c' cc) hQ v h).mono fun e w' h => okgrid_row h (made_weave hP hf)
  · exact (lift_ok ((P.made f).dr_is a ca b' cb c' cc) hQ v h).mono fun e w' h => okgrid_row h (made_lift hP f)
end Go.Proofs.Ytbafhdinalapoaa
