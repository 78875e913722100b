/- DraftMakes: both sides hand back the same. -/
import Derived.Test.YtbafhdinalapoaaRfo
import Derived.Test.YtbafhdinalapoaaFrf
namespace Go.Proofs.Ytbafhdinalapoaa
open Go.RowKit
set_option linter.unusedVariables false
set_option linter.unusedSimpArgs false
set_option maxRecDepth 100000

open L2 (fst nd ren nd_le)
/-- A draft and an error came back: the draft's elements lie somewhere in this memory. -/
def DOut (w : World) (E : Dr) (err : Int) (e : Ending) (w' : World) : Prop :=
  ∃ A c B d C e', e = .returned (.tuple #[.agg #[.int .i64 E.S, .int .i64 E.T, .slice A E.n c, .slice B E.m d, .int .i64 E.W, .int .i64 E.H, .slice C E.k e'], .int .i64 err]) ∧ (E.at_ A c B d C e').In w' w'.heap.size ∧ Below w.heap.size w w'
theorem OkDr.out {w w' : World} {Q : PD} {e : Ending} (h : OkDr w Q e w') : DOut w (Q.dr 0 0 0 0 0 0) 0 e w' := by
  obtain ⟨a, ca, b, cb, c, cc, he, hr, hb⟩ := h
  exact ⟨some ⟨a, 0, none⟩, ca, some ⟨b, 0, none⟩, cb, some ⟨c, 0, none⟩, cc, he, hr.dr ca cb cc, hb⟩
theorem ErrDr.out {w w' : World} {err : Int} {e : Ending} (h : ErrDr w err e w') : DOut w Dr.zero err e w' :=
  ⟨none, 0, none, 0, none, 0, h.1, ⟨fun h => absurd h (Nat.lt_irrefl 0), fun h => absurd h (Nat.lt_irrefl 0), fun h => absurd h (Nat.lt_irrefl 0)⟩, h.2⟩
theorem Dr.zero_small : Dr.zero.Small := ⟨by decide, by decide, by decide⟩
theorem PD.Ok.small {Q : PD} (h : Q.Ok) : (Q.dr 0 0 0 0 0 0).Small := (Q.dr_is 0 0 0 0 0 0).small h
theorem dsm_at (E : Dr) (A B C A' B' C' : Option Addr) (c d e c' d' e' : Nat) : dsm (E.at_ A c B d C e) (E.at_ A' c' B' d' C' e') = true := by
  unfold dsm lsm gsm
  simp [Dr.at_]
/-- Both hand back the same, at any later memory. -/
structure DPair (w : World) (E : Dr) (err : Int) (k l : Nat) (args : Array Value) : Prop where
  small : E.Small
  a : ∀ v, Below w.heap.size w v → Calls Try.prog k args v (DOut v E err)
  b : ∀ v, Below w.heap.size w v → Calls Try.prog l args v (DOut v E err)
theorem fl_pair (A : Option Addr) (n c : Nat) (th : Nat → Int) (W H : Int) (C : Option Addr) (N cap : Nat) (f : Nat → Bool) (w : World) (ht : L2.Holds w w.heap.size A n th) (hr : Holds w w.heap.size C N f) (hn : n ≤ 70) (hN : N ≤ 4200) (hcap : N ≤ cap) :
    ∃ E err, DPair w E err 13 35 #[.slice A n c, .agg #[.int .i64 W, .int .i64 H, .slice C N cap]] := by
  by_cases hx : chk W H N = 0
  · obtain ⟨a1, a2, a3, a4, a5⟩ := chk_ok hx
    obtain ⟨W', rfl⟩ : ∃ W' : Nat, W = W' := ⟨W.toNat, (Int.toNat_of_nonneg (by omega)).symm⟩
    obtain ⟨H', rfl⟩ : ∃ H' : Nat, H = H' := ⟨H.toNat, (Int.toNat_of_nonneg (by omega)).symm⟩
    have hNe : N = W' * H' := by exact_mod_cast a5
    subst hNe
    have hN0 : 0 < W' * H' := Nat.mul_pos (by omega) (by omega)
    obtain ⟨b, o, rfl, _, _⟩ := hr hN0
    have HT := fun v (hb : Below w.heap.size w v) => (ht.below hb).more hb.size
    have HR := fun v (hb : Below w.heap.size w v) => (hr.below hb).more hb.size
    by_cases h1 : 64 < n
    · exact ⟨Dr.zero, 4, Dr.zero_small, fun v hb => (fromlift_n A n c th W' H' b o cap f v (HT v hb) (HR v hb) hcap (by omega) (by omega) (by omega) (by omega) (by omega) h1).mono fun _ _ h => h.out,
        fun v hb => (rfromlift_n A n c th W' H' (W' * H') _ cap f v (HT v hb) (HR v hb) rfl (by omega) (by omega) (by omega) (by omega) (by omega) h1).mono fun _ _ h => h.out⟩
    by_cases h2 : 40 < W'
    · exact ⟨Dr.zero, 4, Dr.zero_small, fun v hb => (fromlift_W A n c th W' H' b o cap f v (HT v hb) (HR v hb) hcap (by omega) (by omega) (by omega) (by omega) (by omega) h1 h2).mono fun _ _ h => h.out,
        fun v hb => (rfromlift_W A n c th W' H' (W' * H') _ cap f v (HT v hb) (HR v hb) rfl (by omega) (by omega) (by omega) (by omega) (by omega) h1 h2).mono fun _ _ h => h.out⟩
    by_cases h3 : 40 < nd (rc W' f) H'
    · exact ⟨Dr.zero, 4, Dr.zero_small, fun v hb => (fromlift_K A n c th W' H' b o cap f v (HT v hb) (HR v hb) hcap (by omega) (by omega) (by omega) (by omega) (by omega) h1 h2 h3).mono fun _ _ h => h.out,
        fun v hb => (rfromlift_K A n c th W' H' (W' * H') _ cap f v (HT v hb) (HR v hb) rfl (by omega) (by omega) (by omega) (by omega) (by omega) h1 h2 h3).mono fun _ _ h => h.out⟩
    cases hw : wi n th W' with
    | false =>
      exact ⟨Dr.zero, 8, Dr.zero_small, fun v hb => (fromlift_h A n c th W' H' b o cap f v (HT v hb) (HR v hb) hcap (by omega) (by omega) (by omega) (by omega) (by omega) h1 h2 h3 hw).mono fun _ _ h => h.out,
        fun v hb => (rfromlift_h A n c th W' H' (W' * H') _ cap f v (HT v hb) (HR v hb) rfl (by omega) (by omega) (by omega) (by omega) (by omega) h1 h2 h3 hw).mono fun _ _ h => h.out⟩
    | true =>
      exact ⟨(flp W' H' n th f).dr 0 0 0 0 0 0, 0, (flp_ok (by omega) (by omega) (by omega) (by omega) (by omega) (by omega) hw).small, fun v hb => (fromlift_ok A n c th W' H' b o cap f v (HT v hb) (HR v hb) hcap (by omega) (by omega) (by omega) (by omega) (by omega) (by omega) hw).mono fun _ _ h => h.out,
        fun v hb => (rfromlift_ok A n c th W' H' (W' * H') _ cap f v (HT v hb) (HR v hb) rfl (by omega) (by omega) (by omega) (by omega) (by omega) h1 h2 h3 hw).mono fun _ _ h => h.out⟩
  · have hne : (chk W H N != 0) = true := by simp [hx]
    exact ⟨Dr.zero, chk W H N, Dr.zero_small, fun v hb => (fromlift_g A n c W H C N cap _ v hN rfl hne).mono fun _ _ h => h.out, fun v hb => (rfromlift_g A n c W H C N cap _ v hN rfl hne).mono fun _ _ h => h.out⟩
theorem rn_pair (D : Dr) (hs : D.Small) (A1 A2 : Option Addr) (n1 n2 c1 c2 : Nat) (f1 f2 : Nat → Int) (w : World) (hd : D.In w w.heap.size) (h1 : L2.Holds w w.heap.size A1 n1 f1) (h2 : L2.Holds w w.heap.size A2 n2 f2) (hn1 : n1 ≤ 70) (hn2 : n2 ≤ 70) :
    ∃ E err, DPair w E err 16 36 #[.agg #[.int .i64 D.S, .int .i64 D.T, .slice D.A D.n D.c, .slice D.B D.m D.d, .int .i64 D.W, .int .i64 D.H, .slice D.C D.k D.e], .slice A1 n1 c1, .slice A2 n2 c2] := by
  have HD := fun v (hb : Below w.heap.size w v) => hd.next hb
  have H1 := fun v (hb : Below w.heap.size w v) => (h1.below hb).more hb.size
  have H2 := fun v (hb : Below w.heap.size w v) => (h2.below hb).more hb.size
  by_cases hx : D.ck = 0
  · obtain ⟨hP, hI⟩ := Dr.valid hx
    cases ha : prm n1 f1 D.pure.S with
    | false =>
      exact ⟨Dr.zero, 2, Dr.zero_small, fun v hb => (renumber_s hI hP A1 A2 n1 n2 c1 c2 f1 f2 ha v (HD v hb) (H1 v hb) (H2 v hb)).mono fun _ _ h => h.out, fun v hb => (rrenum_s hI hP A1 A2 n1 n2 c1 c2 f1 f2 ha v (HD v hb) (H1 v hb) (H2 v hb) (by omega) (by omega)).mono fun _ _ h => h.out⟩
    | true =>
      cases hc : prm n2 f2 D.pure.T with
      | false =>
        exact ⟨Dr.zero, 2, Dr.zero_small, fun v hb => (renumber_t hI hP A1 A2 n1 n2 c1 c2 f1 f2 ha hc v (HD v hb) (H1 v hb) (H2 v hb)).mono fun _ _ h => h.out, fun v hb => (rrenum_t hI hP A1 A2 n1 n2 c1 c2 f1 f2 ha hc v (HD v hb) (H1 v hb) (H2 v hb) (by omega) (by omega)).mono fun _ _ h => h.out⟩
      | true =>
        have hok : (D.pure.rnm f1 f2).Ok := by
          have ha' : prm D.pure.S f1 D.pure.S = true := by have := prm_len ha; rw [this] at ha; exact ha
          have hc' : prm D.pure.T f2 D.pure.T = true := by have := prm_len hc; rw [this] at hc; exact hc
          refine ⟨hP.s0, hP.s1, hP.t0, hP.t1, hP.n0, hP.n1, hP.m0, hP.m1, fun i hi => ?_, fun i hi => ?_⟩
          · have := prm_in ha' (hP.f i hi)
            show (f1 (D.pure.F i)).toNat < D.pure.S
            omega
          · have := prm_in hc' (hP.g i hi)
            show (f2 (D.pure.G i)).toNat < D.pure.T
            omega
        exact ⟨(D.pure.rnm f1 f2).dr 0 0 0 0 0 0, 0, hok.small, fun v hb => (renumber_ok hI hP A1 A2 n1 n2 c1 c2 f1 f2 ha hc v (HD v hb) (H1 v hb) (H2 v hb)).mono fun _ _ h => h.out, fun v hb => (rrenum_ok hI hP A1 A2 n1 n2 c1 c2 f1 f2 ha hc v (HD v hb) (H1 v hb) (H2 v hb) (by omega) (by omega)).mono fun _ _ h => h.out⟩
  · have hne : (D.ck != 0) = true := by simp [hx]
    exact ⟨Dr.zero, D.ck, Dr.zero_small, fun v hb => (renumber_err rfl hne hs A1 A2 n1 n2 c1 c2 v (HD v hb)).mono fun _ _ h => h.out, fun v hb => (rrenum_err rfl hne hs A1 A2 n1 n2 c1 c2 v (HD v hb)).mono fun _ _ h => h.out⟩
theorem rdsame_at (E : Dr) (hE : E.Small) (A B C A' B' C' : Option Addr) (c d e c' d' e' : Nat) (w : World) (h1 : (E.at_ A c B d C e).In w w.heap.size) (h2 : (E.at_ A' c' B' d' C' e').In w w.heap.size) :
    Calls Try.prog 30 #[.agg #[.int .i64 E.S, .int .i64 E.T, .slice A E.n c, .slice B E.m d, .int .i64 E.W, .int .i64 E.H, .slice C E.k e], .agg #[.int .i64 E.S, .int .i64 E.T, .slice A' E.n c', .slice B' E.m d', .int .i64 E.W, .int .i64 E.H, .slice C' E.k e']] w fun e w' => e = .returned (.bool true) ∧ Below w.heap.size w w' := by
  have h := rdsame_any (E.at_ A c B d C e) (E.at_ A' c' B' d' C' e') w ⟨hE.a, hE.b, hE.c⟩ h1 h2
  rw [dsm_at] at h
  exact h
end Go.Proofs.Ytbafhdinalapoaa
