/- Least forms and operations (arithmetic). -/
import Derived.Test.YtjbofdgdcnfmoaaMgr
import Derived.Test.YtjbofdgdcnfmoaaMsp
namespace Go.Proofs.Ytjbofdgdcnfmoaa
open Go.RowKit
set_option maxRecDepth 100000
set_option linter.unusedVariables false
set_option linter.unusedSimpArgs false

/-- The sides of the least rectangle are repeats, at any place. -/
theorem pl_per {G : GD} {A B C : Nat} (hL : IsL G.W G.H G.f A B C) (hH0 : 1 ≤ G.H) (x y : Int) : G.pl (x % (A : Int)) (y % (rh A B C : Nat)) = G.pl x y := by
  have ka : Rp G.W G.H G.f (A : Nat) 0 := (hL.mem hH0 _ _).2 (by
    unfold inn
    rw [decide_eq_true_iff, Int.zero_emod, Int.zero_ediv, Int.zero_mul, Int.sub_zero]
    exact ⟨rfl, Int.emod_self⟩)
  have kb : Rp G.W G.H G.f 0 (rh A B C : Nat) := (hL.mem hH0 _ _).2 (by
    have h := (rh_iff (A := A) (B := B) (C := C) (b := rh A B C) hL.a0 hL.c0).1 (Nat.mod_self _)
    unfold inn
    rw [decide_eq_true_iff, Int.zero_sub]
    refine ⟨by omega, ?_⟩
    have e : ((rh A B C : Nat) : Int) / C * B = ((rh A B C / C * B : Nat) : Int) := by rw [Int.natCast_mul, Int.natCast_ediv]
    rw [e, ← Int.dvd_iff_emod_eq_zero, Int.dvd_neg, Int.natCast_dvd_natCast]
    exact Nat.dvd_of_mod_eq_zero h.2)
  generalize rh A B C = R at *
  have e1 := (ka.mul (x / (A : Int))).add (kb.mul (y / (R : Int))) (x % (A : Int)) (y % (R : Int))
  have f1 : x % (A : Int) + (x / (A : Int) * (A : Int) + y / (R : Int) * 0) = x := by
    rw [Int.mul_zero, Int.add_zero, Int.mul_comm]; exact Int.emod_add_mul_ediv x A
  have f2 : y % (R : Int) + (x / (A : Int) * 0 + y / (R : Int) * (R : Int)) = y := by
    rw [Int.mul_zero, Int.zero_add, Int.mul_comm]; exact Int.emod_add_mul_ediv y R
  rw [f1, f2] at e1
  exact e1.symm
theorem pc_pl (G : GD) (x y : Nat) : pc G.W G.H G.f x y = G.pl x y := (pz_nat G.W G.H G.f x y).symm
theorem pl_per2 {G : GD} {A B C : Nat} (hL : IsL G.W G.H G.f A B C) (hH0 : 1 ≤ G.H) {x y x' y' : Int} (hx : x % (A : Int) = x' % (A : Int)) (hy : y % (rh A B C : Nat) = y' % (rh A B C : Nat)) : G.pl x y = G.pl x' y' := by
  rw [← pl_per hL hH0 x, ← pl_per hL hH0 x', hx, hy]
/-- A rectangle at any place is one of the least rectangles. -/
theorem rcs_at {G : GD} (ok : G.Ok) {A B C : Nat} (hL : IsL G.W G.H G.f A B C) (x y : Int) : ∃ K, rcs G K ∧ K.W = A ∧ K.H = rh A B C ∧ ∀ i, K.f i = G.pl (x + (i % A : Nat)) (y + (i / A : Nat)) := by
  have a0 := hL.a0
  have r0 := rh_pos (B := B) hL.a0 hL.c0
  have m0 := Int.emod_nonneg x (show (A : Int) ≠ 0 by omega)
  have m1 := Int.emod_lt_of_pos x (show 0 < (A : Int) by omega)
  have n0 := Int.emod_nonneg y (show ((rh A B C : Nat) : Int) ≠ 0 by omega)
  have n1 := Int.emod_lt_of_pos y (show 0 < ((rh A B C : Nat) : Int) by omega)
  refine ⟨rec_ G A (rh A B C) (x % (A : Int)).toNat (y % ((rh A B C : Nat) : Int)).toNat, ⟨A, B, C, _, _, hL, by omega, by omega, rfl⟩, rfl, rfl, fun i => ?_⟩
  show pc G.W G.H G.f _ _ = _
  rw [pc_pl]
  refine pl_per2 hL ok.h0 ?_ ?_
  · rw [Int.natCast_add, Int.toNat_of_nonneg m0]; simp
  · rw [Int.natCast_add, Int.toNat_of_nonneg n0]; simp
theorem gd_ext {G K : GD} (h1 : G.W = K.W) (h2 : G.H = K.H) (h3 : ∀ i, G.f i = K.f i) : G = K := by
  cases G; cases K
  dsimp only at h1 h2 h3
  subst h1; subst h2
  have e := funext h3
  subst e
  rfl
theorem rcs_out {G K : GD} (h : rcs G K) : ∃ (A B C : Nat) (x y : Int), IsL G.W G.H G.f A B C ∧ K.W = A ∧ K.H = rh A B C ∧ ∀ i, K.f i = G.pl (x + (i % A : Nat)) (y + (i / A : Nat)) := by
  obtain ⟨A, B, C, x, y, hL, hx, hy, rfl⟩ := h
  exact ⟨A, B, C, x, y, hL, rfl, rfl, fun i => by show pc G.W G.H G.f _ _ = _; rw [pc_pl, Int.natCast_add, Int.natCast_add]⟩
theorem rcs_sim {G K F : GD} (okG : G.Ok) (okK : K.Ok) (h : Sim G K) (hF : rcs G F) : rcs K F := by
  obtain ⟨A, B, C, x, y, hL, h1, h2, h3⟩ := rcs_out hF
  obtain ⟨a, b, hm⟩ := h
  have hm' : Mt G.W G.H G.f K.W K.H K.f a b := hm
  have kL := hm'.isl hL okG.w0 okG.h0 okK.w0 okK.h0
  obtain ⟨F', k1, k2, k3, k4⟩ := rcs_at okK kL (x + a) (y + b)
  have e : F = F' := gd_ext (h1.trans k2.symm) (h2.trans k3.symm) fun i => by
    rw [h3, k4, hm]
    congr 1 <;> omega
  rw [e]; exact k1
theorem rcs_ok {G F : GD} (ok : G.Ok) (h : rcs G F) : F.Ok ∧ F.W ∣ G.W ∧ F.H ∣ G.H := by
  obtain ⟨A, B, C, x, y, hL, h1, h2, _⟩ := rcs_out h
  obtain ⟨d1, d2, d3⟩ := hL.divs ok.h0
  have r0 := rh_pos (B := B) hL.a0 hL.c0
  have hd := rh_div hL ok.h0
  have e1 := Nat.le_of_dvd ok.w0 (Nat.dvd_of_mod_eq_zero d1)
  have e2 := Nat.le_of_dvd ok.h0 (Nat.dvd_of_mod_eq_zero hd)
  have h3 := ok.w1
  have h4 := ok.h1
  have a0 := hL.a0
  exact ⟨⟨by omega, by omega, by omega, by omega⟩, h1 ▸ Nat.dvd_of_mod_eq_zero d1, h2 ▸ Nat.dvd_of_mod_eq_zero hd⟩
/-- A least rectangle has the plane, moved. -/
theorem rcs_pl {G F : GD} (ok : G.Ok) (h : rcs G F) : Sim F G := by
  obtain ⟨okF, _, _⟩ := rcs_ok ok h
  obtain ⟨A, B, C, x, y, hL, h1, h2, h3⟩ := rcs_out h
  refine ⟨x, y, fun u v => ?_⟩
  have a := tn_lt F.W okF.w0 u
  have b := tn_lt F.H okF.h0 v
  have e := row_at (a := (v % (F.H : Int)).toNat) a
  show F.f _ = _
  rw [h3, ← h1, e.1, e.2]
  refine pl_per2 hL ok.h0 ?_ ?_
  · rw [Int.toNat_of_nonneg (Int.emod_nonneg u (by have := okF.w0; omega)), h1, Int.add_comm x]; simp
  · rw [Int.toNat_of_nonneg (Int.emod_nonneg v (by have := okF.h0; omega)), h2, Int.add_comm y]; simp
/-- .. and its own least rectangle has its sides. -/
theorem rcs_self {G F : GD} (ok : G.Ok) (h : rcs G F) : ∃ B C, IsL F.W F.H F.f F.W B C ∧ rh F.W B C = F.H := by
  have hs := rcs_pl ok h
  obtain ⟨okF, _, _⟩ := rcs_ok ok h
  obtain ⟨A, B, C, x, y, hL, h1, h2, h3⟩ := rcs_out h
  obtain ⟨a, b, hm⟩ := hs.symm
  have hm' : Mt G.W G.H G.f F.W F.H F.f a b := hm
  have kL := hm'.isl hL ok.w0 ok.h0 okF.w0 okF.h0
  exact ⟨B, C, h1 ▸ kL, by rw [h1, h2]⟩
/-- The rectangle at any place of a form is one of the plane's. -/
theorem rcs_move {G F : GD} (ok : G.Ok) (h : rcs G F) (x y : Int) : ∃ K, rcs G K ∧ K.W = F.W ∧ K.H = F.H ∧ ∀ i, K.f i = F.pl (x + (i % F.W : Nat)) (y + (i / F.W : Nat)) := by
  obtain ⟨okF, _, _⟩ := rcs_ok ok h
  obtain ⟨B, C, hL, hr⟩ := rcs_self ok h
  obtain ⟨K, k1, k2, k3, k4⟩ := rcs_at okF hL x y
  exact ⟨K, rcs_sim okF ok (rcs_pl ok h) k1, k2, k3.trans hr, k4⟩
theorem rcs_own {G F : GD} (ok : G.Ok) (h : rcs G F) : ∃ K, rcs F K ∧ K.eqv F := by
  obtain ⟨okF, _, _⟩ := rcs_ok ok h
  obtain ⟨B, C, hL, hr⟩ := rcs_self ok h
  obtain ⟨K, k1, k2, k3, k4⟩ := rcs_at okF hL 0 0
  refine ⟨K, k1, k2, k3.trans hr, fun i hi => ?_⟩
  rw [k2, k3.trans hr] at hi
  rw [k4, Int.zero_add, Int.zero_add, ← pc_pl]
  unfold pc
  have hW := okF.w0
  rw [Nat.mod_mod, Nat.mod_eq_of_lt (Nat.div_lt_of_lt_mul hi), Nat.mul_comm, Nat.div_add_mod]
/-- The forms of all operations. -/
def Vm (G : GD) (m : Nat) (op : Nat) (K : GD) : Prop := op < m ∧ rcs (G.ap op) K
theorem vm_mv {G K : GD} (okG : G.Ok) (okK : K.Ok) {p : Nat} (hp : p < 16) (h : Sim (G.ap p) K) {op : Nat} {F : GD} (hF : Vm K 16 op F) : Vm G 16 (cmp p op) F :=
  ⟨cmp_lt p hp op hF.1, rcs_sim (ap_ok okK op) (ap_ok okG _) ((h.ap (ap_ok okG p) okK op).symm.trans (Sim.comp okG hp hF.1)) hF.2⟩
theorem sim_inv {G K : GD} (okG : G.Ok) (okK : K.Ok) {p : Nat} (hp : p < 16) (h : Sim (G.ap p) K) : Sim (K.ap (inv p)) G := by
  have k := tk_inv okG okK hp ((tk_iff okK p).2 h)
  exact (tk_iff okG _).1 k
/-- Cloths that are alike have the same least form. -/
theorem best_alike {G K F F' : GD} {a b p : Nat} (okG : G.Ok) (okK : K.Ok) (hp : p < 16) (h : Sim (G.ap p) K) (hF : Best (Vm G 16) F a) (kF : Best (Vm K 16) F' b) : F.eqv F' := by
  have h1 : ¬ F'.lt F := hF.low _ _ (vm_mv okG okK hp h kF.mem)
  have h2 : ¬ F.lt F' := kF.low _ _ (vm_mv okK okG (g_inv p hp).1 (sim_inv okG okK hp h) hF.mem)
  rcases GD.tri F F' with j | j | j
  · exact absurd j h2
  · exact j
  · exact absurd j h1
/-- .. and no others. -/
theorem best_same {G K F F' : GD} {a b : Nat} (okG : G.Ok) (okK : K.Ok) (hF : Best (Vm G 16) F a) (kF : Best (Vm K 16) F' b) (e : F.eqv F') : Sim (G.ap (cmp a (inv b))) K := by
  have ha := hF.mem.1
  have hb := kF.mem.1
  have s1 := rcs_pl (ap_ok okG a) hF.mem.2
  have s2 := rcs_pl (ap_ok okK b) kF.mem.2
  have okF := (rcs_ok (ap_ok okG a) hF.mem.2).1
  have s : Sim (G.ap a) (K.ap b) := (s1.symm.trans (Sim.eqv okF e)).trans s2
  have s3 := s.ap (ap_ok okG a) (ap_ok okK b) (inv b)
  have c1 := Sim.comp okG ha (g_inv b hb).1
  have c2 := Sim.comp okK hb (g_inv b hb).1
  rw [(g_inv b hb).2.1, ap_zero] at c2
  exact (c1.symm.trans s3).trans c2
/-- The operations by which a cloth is alike to its least form: the one that is told is the first. -/
theorem best_first {G F : GD} {a m : Nat} (okG : G.Ok) (hF : Best (Vm G 16) F a) : tk G F a = true ∧ (m < a → tk G F m = false) := by
  have ha := hF.mem.1
  obtain ⟨okF, _, _⟩ := rcs_ok (ap_ok okG a) hF.mem.2
  refine ⟨(tk_iff okF a).2 (rcs_pl (ap_ok okG a) hF.mem.2).symm, fun hm => ?_⟩
  rw [Bool.eq_false_iff]
  intro h
  obtain ⟨K, k1, k2⟩ := rcs_own (ap_ok okG a) hF.mem.2
  have k3 : Vm G 16 m K := ⟨by omega, rcs_sim okF (ap_ok okG m) ((tk_iff okF m).1 h).symm k1⟩
  exact (hF.fst m K k3 hm).left (GD.eqv.symm k2) |>.irr
/-- The least form's own least form. -/
theorem best_own {G F F' : GD} {a b : Nat} (okG : G.Ok) (hF : Best (Vm G 16) F a) (kF : Best (Vm F 16) F' b) : F.eqv F' ∧ b = 0 := by
  have ha := hF.mem.1
  obtain ⟨okF, _, _⟩ := rcs_ok (ap_ok okG a) hF.mem.2
  have s := (rcs_pl (ap_ok okG a) hF.mem.2).symm
  have e := best_alike okG okF ha s hF kF
  refine ⟨e, Nat.eq_zero_of_not_pos fun hb => ?_⟩
  obtain ⟨K, k1, k2⟩ := rcs_own (ap_ok okG a) hF.mem.2
  have k3 := kF.fst 0 K ⟨by omega, by rw [ap_zero]; exact k1⟩ hb
  exact (k3.left ((e.symm).trans (GD.eqv.symm k2))).irr
/-- No place of the form makes one that comes before it. -/
theorem best_place {G F S : GD} {a : Nat} (okG : G.Ok) (hF : Best (Vm G 16) F a) (x y : Int) (h1 : S.W = F.W) (h2 : S.H = F.H) (h3 : ∀ i, i < F.W * F.H → S.f i = F.pl (x + (i % F.W : Nat)) (y + (i / F.W : Nat))) : ¬ S.lt F := by
  obtain ⟨K, k1, k2, k3, k4⟩ := rcs_move (ap_ok okG a) hF.mem.2 x y
  have e : S.eqv K := ⟨h1.trans k2.symm, h2.trans k3.symm, fun i hi => by rw [k4, h3 i (by rw [← h1, ← h2]; exact hi)]⟩
  intro h
  exact hF.low a K ⟨hF.mem.1, k1⟩ (h.left e)
end Go.Proofs.Ytjbofdgdcnfmoaa
