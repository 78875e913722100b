/- What the examples of layer 7 lean on: operations and least forms that are computed. -/
import Derived.Test.YtjbofdgdcnfmoaaFle
import Derived.Test.YtjbofdgdcnfmoaaAb
import Derived.Test.YtjbofdgdcnfmoaaAlt
import Derived.Test.YtjbofdgdcnfmoaaHas
import Derived.Test.YtjbofdgdcnfmoaaSbc
namespace Go.Proofs.Ytjbofdgdcnfmoaa
open Go.RowKit
set_option maxRecDepth 100000
set_option linter.unusedVariables false
set_option linter.unusedSimpArgs false

theorem noB_false {W H : Nat} {f : Nat → Bool} {X Y : Nat} {g : Nat → Bool} (hW0 : 1 ≤ W) (hH0 : 1 ≤ H) (hX0 : 1 ≤ X) (hY0 : 1 ≤ Y) (h : noB W H f X Y g = false) : ∃ x y : Nat, Mt W H f X Y g x y := by
  unfold noB at h
  rw [List.all_eq_false] at h
  obtain ⟨y, _, h⟩ := h
  rw [Bool.not_eq_true, List.all_eq_false] at h
  obtain ⟨x, _, h⟩ := h
  rw [Bool.not_eq_true, Bool.not_eq_false'] at h
  exact ⟨x, y, (meetB_iff hW0 hH0 hX0 hY0 x y).1 h⟩
def tkB (G K : GD) (m : Nat) : Bool := !noB (G.ap m).W (G.ap m).H (G.ap m).f K.W K.H K.f
theorem tk_dec {G K : GD} (okG : G.Ok) (okK : K.Ok) (m : Nat) : tk G K m = tkB G K m := by
  have ok := ap_ok okG m
  unfold tkB
  rw [Bool.eq_iff_iff]
  cases h : noB (G.ap m).W (G.ap m).H (G.ap m).f K.W K.H K.f with
  | true =>
    refine ⟨fun k => ?_, fun k => absurd k (by decide)⟩
    unfold tk at k
    obtain ⟨x, y, hm⟩ := (@decide_eq_true_iff _ (Classical.propDecidable _)).1 k
    exact absurd hm (no_of ok.w0 ok.h0 okK.w0 okK.h0 h x y)
  | false =>
    refine ⟨fun _ => rfl, fun _ => ?_⟩
    unfold tk
    exact (@decide_eq_true_iff _ (Classical.propDecidable _)).2 (noB_false ok.w0 ok.h0 okK.w0 okK.h0 h)
theorem ofl_dec {G K : GD} (okG : G.Ok) (okK : K.Ok) {l : List Nat} (h : ofl (tkB G K) 16 = l) : ofl (tk G K) 16 = l := by
  rw [← h]
  unfold ofl
  exact List.filter_congr fun m _ => tk_dec okG okK m
def ltB (F G : GD) : Bool := decide (F.W < G.W) || decide (F.W = G.W) && (decide (F.H < G.H) || decide (F.H = G.H) && (List.range (F.W * F.H)).any fun i => !F.f i && G.f i && (List.range i).all fun j => F.f j == G.f j)
theorem ltB_iff (F G : GD) : ltB F G = true ↔ F.lt G := by
  unfold ltB GD.lt
  simp only [Bool.or_eq_true, Bool.and_eq_true, decide_eq_true_eq, List.any_eq_true, List.mem_range, List.all_eq_true, Bool.not_eq_true', beq_iff_eq, and_assoc]
theorem ltB_false {F G : GD} (h : ltB F G = false) : ¬ F.lt G := fun k => by rw [(ltB_iff F G).2 k] at h; cases h
/-- Is F the least form, by the operation a? L tells the lattices of all operations. -/
def bestB (G : GD) (L : Nat → Nat × Nat × Nat) (a x0 y0 : Nat) : Bool :=
  decide (a < 16) && decide (x0 < (L a).1) && decide (y0 < rh (L a).1 (L a).2.1 (L a).2.2) &&
    ((List.range 16).all fun op => islB (G.ap op).W (G.ap op).H (G.ap op).f (L op).1 (L op).2.1 (L op).2.2 && ((List.range (L op).1).all fun x => (List.range (rh (L op).1 (L op).2.1 (L op).2.2)).all fun y =>
      !ltB (rec_ (G.ap op) (L op).1 (rh (L op).1 (L op).2.1 (L op).2.2) x y) (rec_ (G.ap a) (L a).1 (rh (L a).1 (L a).2.1 (L a).2.2) x0 y0) &&
      (decide (a ≤ op) || ltB (rec_ (G.ap a) (L a).1 (rh (L a).1 (L a).2.1 (L a).2.2) x0 y0) (rec_ (G.ap op) (L op).1 (rh (L op).1 (L op).2.1 (L op).2.2) x y))))
theorem best_of {G : GD} {L : Nat → Nat × Nat × Nat} {a x0 y0 : Nat} (h : bestB G L a x0 y0 = true) : Best (Vm G 16) (rec_ (G.ap a) (L a).1 (rh (L a).1 (L a).2.1 (L a).2.2) x0 y0) a := by
  unfold bestB at h
  simp only [Bool.and_eq_true, decide_eq_true_eq, List.all_eq_true, List.mem_range, Bool.or_eq_true, Bool.not_eq_true'] at h
  obtain ⟨⟨⟨h1, h2⟩, h3⟩, h4⟩ := h
  refine ⟨⟨h1, (rcs_iff (IsL.of (h4 a h1).1)).2 ⟨x0, y0, h2, h3, rfl⟩⟩, fun op K hK => ?_, fun op K hK hop => ?_⟩
  · obtain ⟨x, y, k1, k2, rfl⟩ := (rcs_iff (IsL.of (h4 op hK.1).1)).1 hK.2
    exact ltB_false ((h4 op hK.1).2 x k1 y k2).1
  · obtain ⟨x, y, k1, k2, rfl⟩ := (rcs_iff (IsL.of (h4 op hK.1).1)).1 hK.2
    rcases ((h4 op hK.1).2 x k1 y k2).2 with e | e
    · omega
    · exact (ltB_iff _ _).1 e
/-- Least of the program, where the form is known. -/
theorem ple_is {G F : GD} {a : Nat} (ok : G.Ok) (hB : Best (Vm G 16) F a) (hx : schk G.W G.H (G.W * G.H) = 0) (k d : Nat) (w : World) (hr : Row w k (G.W * G.H) G.f) :
    Calls Try.prog 51 #[.agg #[.int .i64 (G.W : Nat), .int .i64 (G.H : Nat), .slice (some ⟨k, 0, none⟩) (G.W * G.H) (G.W * G.H)]] w fun e w' => ∃ j d', e = .returned (.tuple #[.agg #[.int .i64 (F.W : Nat), .int .i64 (F.H : Nat), .slice (some ⟨j, 0, none⟩) (F.W * F.H) d'], .int .i64 (a : Nat), .int .i64 0]) ∧ Row w' j (F.W * F.H) F.f ∧ Below w.heap.size w w' := by
  refine (ple_ok G ok k 0 (G.W * G.H) w hr.lt (fun i hi => by rw [Nat.zero_add]; exact hr.cell hi) (Nat.le_refl _) hx).mono ?_
  rintro e w' ⟨F', j, d', a', rfl, h1, h2, h3, h4, h5, h6⟩
  obtain ⟨e1, e2⟩ := hB.one h3
  subst e2
  obtain ⟨e3, e4, e5⟩ := e1
  rw [e3, e4]
  exact ⟨j, d', rfl, h1.congr fun i hi => (e5 i (by rw [e3, e4]; exact hi)).symm, h6⟩
/-- Alike of the program for two grids of their own rows. -/
theorem palk_is {G K : GD} (okG : G.Ok) (okK : K.Ok) {l : List Nat} (hl : ofl (tk G K) 16 = l) (hx : bchk (G.W : Nat) (G.H : Nat) (G.W * G.H) (K.W : Nat) (K.H : Nat) (K.W * K.H) = 0) (k j c d : Nat) (w : World) (hr : Row w k (G.W * G.H) G.f) (hs : Row w j (K.W * K.H) K.f) (hc : G.W * G.H ≤ c) (hd : K.W * K.H ≤ d) :
    Calls Try.prog 50 #[.agg #[.int .i64 (G.W : Nat), .int .i64 (G.H : Nat), .slice (some ⟨k, 0, none⟩) (G.W * G.H) c], .agg #[.int .i64 (K.W : Nat), .int .i64 (K.H : Nat), .slice (some ⟨j, 0, none⟩) (K.W * K.H) d]] w (LOut w l.length (lf l) 0) := by
  rw [← hl]
  exact (alk_all G K okG okK k 0 c j 0 d w hr.lt hs.lt (fun i hi => by rw [Nat.zero_add]; exact hr.cell hi) (fun i hi => by rw [Nat.zero_add]; exact hs.cell hi) hc hd).1 hx
theorem pall_is {G : GD} (okG : G.Ok) {l : List Nat} (hl : ofl (tk G G) 16 = l) (hx : schk (G.W : Nat) (G.H : Nat) (G.W * G.H) = 0) (k c : Nat) (w : World) (hr : Row w k (G.W * G.H) G.f) (hc : G.W * G.H ≤ c) :
    Calls Try.prog 46 #[.agg #[.int .i64 (G.W : Nat), .int .i64 (G.H : Nat), .slice (some ⟨k, 0, none⟩) (G.W * G.H) c]] w (LOut w l.length (lf l) 0) :=
  pall_any _ _ _ _ c w _ _ _ fun u hu => palk_is okG okG hl (by rw [bchk_self]; exact hx) k k c c u (hr.below hu hr.lt) (hr.below hu hr.lt) hc hc
/-- Has of the program, where the answer is known. -/
theorem phas_is {G : GD} (okG : G.Ok) {m : Nat} (hm : m < 16) {a b z : Int} (hF : FOut2 G.W G.H G.f (G.ap m).W (G.ap m).H (G.ap m).f a b z) (hx : schk (G.W : Nat) (G.H : Nat) (G.W * G.H) = 0) (k c : Nat) (w : World) (hr : Row w k (G.W * G.H) G.f) (hc : G.W * G.H ≤ c) :
    Calls Try.prog 48 #[.agg #[.int .i64 (G.W : Nat), .int .i64 (G.H : Nat), .slice (some ⟨k, 0, none⟩) (G.W * G.H) c], .int .i64 (m : Nat)] w fun e w' => e = .returned (.tuple #[.bool (decide (z = 0)), .agg #[.int .i64 a, .int .i64 b], .int .i64 0]) ∧ Below w.heap.size w w' := by
  have hn := Nat.mul_le_mul okG.w1 okG.h1
  exact phas_ok (P := fun d' => (G.ap m).W * (G.ap m).H ≤ d') G.W G.H k 0 c _ _ (G.ap m).f m a b z w hm (by omega) hx hF.z (fun u hu => papd G okG k 0 c m hm u ((hr.below hu hr.lt).holds (Nat.lt_of_lt_of_le hr.lt hu.size)))
    (fun u j d' hu hd' hj => poff_is hF k 0 c j 0 d' u (Nat.lt_of_lt_of_le hr.lt hu.size) hj.lt (fun i hi => by rw [Nat.zero_add]; exact (hr.below hu hr.lt).cell hi) (fun i hi => by rw [Nat.zero_add]; exact hj.cell hi) hc hd' okG.w0 okG.w1 okG.h0 okG.h1 (ap_ok okG m).w0 (ap_ok okG m).w1 (ap_ok okG m).h0 (ap_ok okG m).h1)
end Go.Proofs.Ytjbofdgdcnfmoaa
