/- The statement SymmetryLeast: the walk. -/
import Derived.Test.YtjbofdgdcnfmoaaCpw
import Derived.Test.YtjbofdgdcnfmoaaFlc
import Derived.Test.YtjbofdgdcnfmoaaBef
namespace Go.Proofs.Ytjbofdgdcnfmoaa
open Go.RowKit
set_option maxRecDepth 100000
set_option linter.unusedVariables false
set_option linter.unusedSimpArgs false

/-- A grid that the statements consider. -/
structure GV (G : GD) : Prop where
  m : GM G
  w : G.W ≤ 8
  h : G.H ≤ 8
  n : G.W * G.H ≤ 36
theorem GV.valid {G : GD} (g : GV G) (A : Option Addr) (c : Nat) (w : World) : Calls Try.prog 65 #[.agg #[.int .i64 (G.W : Nat), .int .i64 (G.H : Nat), .slice A (G.W * G.H) c]] w fun e w' => e = .returned (.bool true) ∧ Below w.heap.size w w' := by
  have h1 := g.w
  have h2 := g.h
  have h3 := g.n
  have h4 := g.m.n
  have h5 : (G.W : Int) * (G.H : Int) = ((G.W * G.H : Nat) : Int) := by rw [Int.natCast_mul]
  exact valid7_ng _ _ A _ c w (by omega) 0 true g.m.sk (by simp) fun u => great7_ok _ _ A _ c u (by omega) g.m.sk (by omega) (by omega) (by omega) (by omega) (by rw [h5]; omega)
theorem valid7_full (W H : Int) (A : Option Addr) (n c : Nat) : (∀ w, Calls Try.prog 65 #[.agg #[.int .i64 W, .int .i64 H, .slice A n c]] w fun e w' => e = .returned (.bool false) ∧ Below w.heap.size w w') ∨ ∃ U V : Nat, W = U ∧ H = V ∧ n = U * V ∧ ∀ f, GV ⟨U, V, f⟩ := by
  by_cases hn : 500 < n
  · exact .inl fun w => valid7_great W H A n c w fun u => great7_n W H A n c u hn
  · by_cases hx : schk W H n = 0
    · obtain ⟨U, V, rfl, rfl, k1, k2, k3, k4, k5⟩ := chk_nat (schk_ok hx).1
      by_cases h1 : 8 < (U : Int)
      · exact .inl fun w => valid7_great _ _ A n c w fun u => great7_w _ _ A n c u (by omega) hx h1
      · by_cases h2 : 8 < (V : Int)
        · exact .inl fun w => valid7_great _ _ A n c w fun u => great7_h _ _ A n c u (by omega) hx h1 h2
        · by_cases h3 : 36 < (U : Int) * (V : Int)
          · exact .inl fun w => valid7_great _ _ A n c w fun u => great7_p _ _ A n c u (by omega) hx h1 h2 (by omega) (by omega) h3
          · rw [← Int.natCast_mul] at h3
            exact .inr ⟨U, V, rfl, rfl, k5, fun f => ⟨(GM.of f hx).1, by show U ≤ 8; omega, by show V ≤ 8; omega, by show U * V ≤ 36; omega⟩⟩
    · exact .inl fun w => valid7_ng W H A n c w (by omega) _ false rfl (by simpa using hx) fun u => great7_bad W H A n c u (by omega) _ rfl hx
theorem GV.ap {G : GD} (g : GV G) (m : Nat) : GV (G.ap m) := by
  have h1 := g.w
  have h2 := g.h
  have h3 := g.n
  rcases ap_side G m with ⟨e1, e2⟩ | ⟨e1, e2⟩
  · exact ⟨g.m.ap m, by omega, by omega, by rw [e1, e2]; exact h3⟩
  · exact ⟨g.m.ap m, by omega, by omega, by rw [e1, e2, Nat.mul_comm]; exact h3⟩
theorem GV.rcs {G F : GD} (g : GV G) (h : rcs G F) : GV F := by
  obtain ⟨ok, d1, d2⟩ := rcs_ok g.m.ok h
  have e1 := Nat.le_of_dvd g.m.ok.w0 d1
  have e2 := Nat.le_of_dvd g.m.ok.h0 d2
  have h1 := g.w
  have h2 := g.h
  have h3 := g.n
  have e3 := Nat.mul_le_mul e1 e2
  exact ⟨⟨ok, by omega, by omega⟩, by omega, by omega, by omega⟩
/-- Least gives back the form F by the operation a. -/
def LeF (w : World) (F : GD) (z : Int) (e : Ending) (w' : World) : Prop := ∃ k d, e = .returned (.tuple #[.agg #[.int .i64 (F.W : Nat), .int .i64 (F.H : Nat), .slice (some ⟨k, 0, none⟩) (F.W * F.H) d], .int .i64 z, .int .i64 0]) ∧ Row w' k (F.W * F.H) F.f ∧ Below w.heap.size w w'
theorem LeC.form {w w' : World} {G F : GD} {e : Ending} (h : LeC w G e w') (hF : ∀ F' a, Best (Vm G 16) F' a → F.eqv F') : ∃ z, LeF w F z e w' := by
  obtain ⟨F', k, d, a, rfl, _, h2, _, h4, _, _, h7⟩ := h
  obtain ⟨e1, e2, e3⟩ := hF F' a h4
  rw [← e1, ← e2] at h2 ⊢
  exact ⟨a, k, d, rfl, h2.congr fun i hi => (e3 i hi).symm, h7⟩
theorem LeC.formz {w w' : World} {G F : GD} {e : Ending} (h : LeC w G e w') (hF : ∀ F' a, Best (Vm G 16) F' a → F.eqv F' ∧ a = 0) : LeF w F 0 e w' := by
  obtain ⟨F', k, d, a, rfl, _, h2, _, h4, _, _, h7⟩ := h
  obtain ⟨⟨e1, e2, e3⟩, rfl⟩ := hF F' a h4
  rw [← e1, ← e2] at h2 ⊢
  exact ⟨k, d, rfl, h2.congr fun i hi => (e3 i hi).symm, h7⟩
/-- A grid that is shifted. -/
def GD.sf (G : GD) (dx dy : Int) : GD := ⟨G.W, G.H, fShift G.W G.H dx dy G.f⟩
theorem sf_ok {G : GD} (h : G.Ok) (dx dy : Int) : (G.sf dx dy).Ok := ⟨h.w0, h.w1, h.h0, h.h1⟩
theorem sf_sim {G : GD} (ok : G.Ok) (dx dy : Int) : Sim G (G.sf dx dy) := Sim.mt (K := G.sf dx dy) (mt_shift G.f ok.w0 ok.h0 dx dy)
theorem sf_pl (G : GD) (dx dy : Int) (i : Nat) : (G.sf dx dy).f i = G.pl (-dx + (i % G.W : Nat)) (-dy + (i / G.W : Nat)) := by
  show G.f (ay G.W G.H (dy % G.H) i * G.W + ax G.W (dx % G.W) i) = G.f _
  unfold ax ay
  rw [Int.sub_emod_emod, Int.sub_emod_emod, show ((i % G.W : Nat) : Int) - dx = -dx + (i % G.W : Nat) by omega, show ((i / G.W : Nat) : Int) - dy = -dy + (i / G.W : Nat) by omega]
theorem pshift_at {G : GD} (ok : G.Ok) (k c : Nat) (dx dy : Int) (w : World) (hr : Row w k (G.W * G.H) G.f) (x0 : -9223372036854775808 ≤ dx) (x1 : dx ≤ 9223372036854775807) (y0 : -9223372036854775808 ≤ dy) (y1 : dy ≤ 9223372036854775807) :
    Calls Try.prog 43 #[.agg #[.int .i64 (G.W : Nat), .int .i64 (G.H : Nat), .slice (some ⟨k, 0, none⟩) (G.W * G.H) c], .int .i64 dx, .int .i64 dy] w fun e w' => ∃ j, e = .returned (.tuple #[.agg #[.int .i64 (G.W : Nat), .int .i64 (G.H : Nat), .slice (some ⟨j, 0, none⟩) (G.W * G.H) (G.W * G.H)], .int .i64 0]) ∧ Row w' j (G.W * G.H) (G.sf dx dy).f ∧ Below w.heap.size w w' :=
  (shift_ok G.W G.H _ c G.f dx dy w (hr.holds hr.lt) ok.w0 ok.w1 ok.h0 ok.h1 x0 x1 y0 y1).mono fun e w' ⟨j, h1, _, h3, h4⟩ => ⟨j, h1, h3, h4⟩
/-- What lies while the places of the form are looked at. -/
structure L7 (w wr : World) (W H : Int) (s : Value) (g9 kf N : Nat) (f : Nat → Bool) : Prop where
  g : Box wr g9 W H s
  r : Row wr kf N f
  bel : Below w.heap.size w wr
theorem L7.next {w wr w' : World} {W H : Int} {s : Value} {g9 kf N : Nat} {f : Nat → Bool} (h : L7 w wr W H s g9 kf N f) (hb : Below wr.heap.size wr w') : L7 w w' W H s g9 kf N f := ⟨h.g.below hb h.g.lt, h.r.below hb h.r.lt, h.bel.trans (hb.mono h.bel.size)⟩
set_option maxHeartbeats 800000 in
theorem le7_v (W H : Int) (A : Option Addr) (n c : Nat) (x y z : Int) (w : World) (hv : ∀ w, Calls Try.prog 65 #[.agg #[.int .i64 W, .int .i64 H, .slice A n c]] w fun e w' => e = .returned (.bool false) ∧ Below w.heap.size w w') (hal : ∀ w, Calls Try.prog 56 #[] w fun e w' => e = .returned (.bool true) ∧ Below w.heap.size w w') :
    Calls Try.prog 17 #[.agg #[.int .i64 W, .int .i64 H, .slice A n c], .int .i64 x, .int .i64 y, .int .i64 z] w fun e w' => e = .returned (.bool true) ∧ Below w.heap.size w w' := by
  have HV := Lib.hid hv
  have HAL := Lib.hid hal
  clear hv hal
  have X0 := Lib.hid (Box.new w W H (.slice A n c))
  have LB0 := Lib.hid (show Below w.heap.size w (w.alloc (.cells #[.int .i64 W, .int .i64 H, .slice A n c] 24)) from (Below.refl _ _).alloc (Nat.le_refl _) _)
  go_enter Try.func17, Try.ntmps17
  obtain ⟨q0, q1, q2, q3, q4, q5, q6⟩ := X0.out.all
  go_wp2_with fail
  clear q0 q1 q2 q3 q4 q5 q6
  refine (HV.out _).mono ?_
  rintro e w1 ⟨rfl, hb⟩
  have X1 := Lib.hid (X0.out.below hb X0.out.lt)
  have LB1 := Lib.hid (LB0.out.trans (hb.mono LB0.out.size))
  clear hb X0 LB0
  go_wp2_with fail
  refine (HAL.out _).mono ?_
  rintro e w2 ⟨rfl, hb⟩
  have X2 := Lib.hid (X1.out.below hb X1.out.lt)
  have LB2 := Lib.hid (LB1.out.trans (hb.mono LB1.out.size))
  clear hb X1 LB1
  go_wp2
  go_ret
  exact ⟨rfl, LB2.out⟩
set_option maxHeartbeats 800000 in
theorem le7_a (W H : Int) (A : Option Addr) (n c : Nat) (x y z : Int) (w : World) (hv : ∀ w, Calls Try.prog 65 #[.agg #[.int .i64 W, .int .i64 H, .slice A n c]] w fun e w' => e = .returned (.bool true) ∧ Below w.heap.size w w') (hx : ¬ (0 ≤ x ∧ x < 16)) (hal : ∀ w, Calls Try.prog 56 #[] w fun e w' => e = .returned (.bool true) ∧ Below w.heap.size w w') :
    Calls Try.prog 17 #[.agg #[.int .i64 W, .int .i64 H, .slice A n c], .int .i64 x, .int .i64 y, .int .i64 z] w fun e w' => e = .returned (.bool true) ∧ Below w.heap.size w w' := by
  have HV := Lib.hid hv
  have HAL := Lib.hid hal
  have HIx := Lib.hid (fun u => (show Calls Try.prog 67 #[.int .i64 x] u fun e w' => e = .returned (.bool false) ∧ w' = u by have h := ris_any x u; rw [decide_eq_false hx] at h; exact h))
  clear hv hal hx
  have X0 := Lib.hid (Box.new w W H (.slice A n c))
  have LB0 := Lib.hid (show Below w.heap.size w (w.alloc (.cells #[.int .i64 W, .int .i64 H, .slice A n c] 24)) from (Below.refl _ _).alloc (Nat.le_refl _) _)
  go_enter Try.func17, Try.ntmps17
  obtain ⟨q0, q1, q2, q3, q4, q5, q6⟩ := X0.out.all
  go_wp2_with fail
  clear q0 q1 q2 q3 q4 q5 q6
  refine (HV.out _).mono ?_
  rintro e w1 ⟨rfl, hb⟩
  have X1 := Lib.hid (X0.out.below hb X0.out.lt)
  have LB1 := Lib.hid (LB0.out.trans (hb.mono LB0.out.size))
  clear hb X0 LB0
  go_wp2_with fail
  refine (HIx.out _).mono ?_
  rintro e wx ⟨rfl, hww⟩
  subst wx
  go_wp2_with fail
  refine (HAL.out _).mono ?_
  rintro e w2 ⟨rfl, hb⟩
  have X2 := Lib.hid (X1.out.below hb X1.out.lt)
  have LB2 := Lib.hid (LB1.out.trans (hb.mono LB1.out.size))
  clear hb X1 LB1
  go_wp2
  go_ret
  exact ⟨rfl, LB2.out⟩
set_option maxHeartbeats 3200000 in
theorem le7_main (G : GD) (g : GV G) (b o c : Nat) (hc : G.W * G.H ≤ c) (m : Nat) (hm : m < 16) (dx dy : Int) (x0 : -9223372036854775808 ≤ dx) (x1 : dx ≤ 9223372036854775807) (y0 : -9223372036854775808 ≤ dy) (y1 : dy ≤ 9223372036854775807) (w : World) (lb : b < w.heap.size) (hcs : ∀ i, i < G.W * G.H → w.cell? ⟨b, o + i, none⟩ = some (.bool (G.f i))) (hal : ∀ w, Calls Try.prog 56 #[] w fun e w' => e = .returned (.bool true) ∧ Below w.heap.size w w') :
    Calls Try.prog 17 #[.agg #[.int .i64 (G.W : Nat), .int .i64 (G.H : Nat), .slice (some ⟨b, o, none⟩) (G.W * G.H) c], .int .i64 (m : Nat), .int .i64 dx, .int .i64 dy] w fun e w' => e = .returned (.bool true) ∧ Below w.heap.size w w' := by
  have HV := Lib.hid (fun u => g.valid (some ⟨b, o, none⟩) c u)
  have HAL := Lib.hid hal
  have hx : 0 ≤ (m : Int) ∧ (m : Int) < 16 := by omega
  have HIx := Lib.hid (fun u => (show Calls Try.prog 67 #[.int .i64 (m : Nat)] u fun e w' => e = .returned (.bool true) ∧ w' = u by have h := ris_any (m : Nat) u; rw [decide_eq_true hx] at h; exact h))
  have hA := fun u (hu : Below w.heap.size w u) i (hi : i < G.W * G.H) => (hu.cell (p := ⟨b, o + i, none⟩) lb).trans (hcs i hi)
  have lA := fun u (hu : Below w.heap.size w u) => Nat.lt_of_lt_of_le lb hu.size
  have HL1 := Lib.hid (fun u (hu : Below w.heap.size w u) => ple_c G g.m.ok b o c u (lA u hu) (hA u hu) hc g.m.sk)
  have HAp := Lib.hid (fun u (hu : Below w.heap.size w u) => papn G g.m b o c m hm u (lA u hu) (hA u hu))
  have HAk := Lib.hid (fun u (hu : Below w.heap.size w u) (F : GD) (gf : GV F) (k d : Nat) (hd : F.W * F.H ≤ d) (hr : Row u k (F.W * F.H) F.f) => palk_at g.m gf.m b o c k 0 d u (lA u hu) hr.lt (hA u hu) (fun i hi => by rw [Nat.zero_add]; exact hr.cell hi) hc hd)
  have HGV := Lib.hid (fun (F : GD) (a : Nat) (hF : Best (Vm G 16) F a) => (show GV F from (g.ap a).rcs hF.mem.2))
  have HRc := Lib.hid (fun (F : GD) (a : Nat) (hF : Best (Vm G 16) F a) => rcs_self (ap_ok g.m.ok a) hF.mem.2)
  have HFst := Lib.hid (fun (F : GD) (a : Nat) (hF : Best (Vm G 16) F a) => (show 0 < (ofl (tk G F) 16).length ∧ ln7 (ofl (tk G F) 16) 0 = a from ofl_zero hF.mem.1 (best_first (m := 0) g.m.ok hF).1 (fun j hj => (best_first (m := j) g.m.ok hF).2 hj)))
  have HOwn := Lib.hid (fun (F : GD) (a : Nat) (hF : Best (Vm G 16) F a) F' b' (kF : Best (Vm F 16) F' b') => best_own g.m.ok hF kF)
  have HSf := Lib.hid (fun (F : GD) (a : Nat) (hF : Best (Vm G 16) F a) F' b' (kF : Best (Vm ((G.ap m).sf dx dy) 16) F' b') => (show F.eqv F' from best_alike g.m.ok (sf_ok (ap_ok g.m.ok m) dx dy) hm (sf_sim (ap_ok g.m.ok m) dx dy) hF kF))
  have HPc := Lib.hid (fun (F : GD) (a : Nat) (hF : Best (Vm G 16) F a) (x y : Int) => best_place (S := F.sf x y) g.m.ok hF (-x) (-y) rfl rfl (fun i _ => sf_pl F x y i))
  have HSh := Lib.hid (fun u k d (hr : Row u k ((G.ap m).W * (G.ap m).H) (G.ap m).f) => pshift_at (ap_ok g.m.ok m) k d dx dy u hr x0 x1 y0 y1)
  have HL3 := Lib.hid (fun u k (hr : Row u k (((G.ap m).sf dx dy).W * ((G.ap m).sf dx dy).H) ((G.ap m).sf dx dy).f) => ple_c ((G.ap m).sf dx dy) (sf_ok (ap_ok g.m.ok m) dx dy) k 0 (((G.ap m).sf dx dy).W * ((G.ap m).sf dx dy).H) u hr.lt (fun i hi => by rw [Nat.zero_add]; exact hr.cell hi) (Nat.le_refl _) (g.m.ap m).sk)
  clear hx hal hcs hA lA g hc x0 x1 y0 y1 hm
  obtain ⟨E, hE⟩ : ∃ E, G.ap m = E := ⟨_, rfl⟩
  simp only [hE] at HAp HSf HSh HL3
  clear hE
  have X0 := Lib.hid (Box.new w (G.W : Nat) (G.H : Nat) (.slice (some ⟨b, o, none⟩) (G.W * G.H) c))
  have LB0 := Lib.hid (show Below w.heap.size w (w.alloc (.cells #[.int .i64 (G.W : Nat), .int .i64 (G.H : Nat), .slice (some ⟨b, o, none⟩) (G.W * G.H) c] 24)) from (Below.refl _ _).alloc (Nat.le_refl _) _)
  go_enter Try.func17, Try.ntmps17
  obtain ⟨q0, q1, q2, q3, q4, q5, q6⟩ := X0.out.all
  go_wp2_with fail
  clear q0 q1 q2 q3 q4 q5 q6
  refine (HV.out _).mono ?_
  rintro e w1 ⟨rfl, hb⟩
  have X1 := Lib.hid (X0.out.below hb X0.out.lt)
  have LB1 := Lib.hid (LB0.out.trans (hb.mono LB0.out.size))
  clear hb X0 LB0
  go_wp2_with fail
  refine (HIx.out _).mono ?_
  rintro e wx ⟨rfl, hww⟩
  subst wx
  obtain ⟨q0, q1, q2, q3, q4, q5, q6⟩ := X1.out.all
  go_wp2_with fail
  clear q0 q1 q2 q3 q4 q5 q6
  refine (HL1.out _ LB1.out).mono ?_
  rintro e w2 ⟨F, k1, d1, a1, rfl, hcap, hrow, hk, hB1, hw1, hh1, hb⟩
  have hba := (show Below _ _ (w2.alloc (.cells #[.int .i64 (F.W : Nat), .int .i64 (F.H : Nat), .slice (some ⟨k1, 0, none⟩) (F.W * F.H) d1] 24)) from hb.trans (((Below.refl _ _).alloc (Nat.le_refl _) _).mono hb.size))
  have Va2 := Lib.hid (Box.new w2 (F.W : Nat) (F.H : Nat) (.slice (some ⟨k1, 0, none⟩) (F.W * F.H) d1))
  have Ra2 := Lib.hid (hrow.alloc (.cells #[.int .i64 (F.W : Nat), .int .i64 (F.H : Nat), .slice (some ⟨k1, 0, none⟩) (F.W * F.H) d1] 24))
  have gf := HGV.out F a1 hB1
  obtain ⟨B, C, hL, hrh⟩ := HRc.out F a1 hB1
  obtain ⟨hn0, hz0⟩ := HFst.out F a1 hB1
  have HPc2 := Lib.hid (HPc.out F a1 hB1)
  have HOwn2 := Lib.hid (HOwn.out F a1 hB1)
  have HSf2 := Lib.hid (HSf.out F a1 hB1)
  have HAk2 := Lib.hid (fun u hu hr => HAk.out u hu F gf k1 d1 hcap hr)
  have HVf := Lib.hid (fun u => gf.valid (some ⟨k1, 0, none⟩) d1 u)
  have HRf := Lib.hid (fun u (hr : Row u k1 (F.W * F.H) F.f) => (show Calls Try.prog 20 #[.agg #[.int .i64 (F.W : Nat), .int .i64 (F.H : Nat), .slice (some ⟨k1, 0, none⟩) (F.W * F.H) d1]] u fun e w' => e = .returned (.tuple #[.int .i64 (F.W : Nat), .int .i64 (F.H : Nat), .int .i64 0]) ∧ Below u.heap.size u w' from by
    have h := prect_at hL (some ⟨k1, 0, none⟩) d1 u (hr.holds hr.lt) hcap gf.m.ok.w1 gf.m.ok.h0 gf.m.ok.h1
    rwa [hrh] at h))
  have HL2 := Lib.hid (fun u (hr : Row u k1 (F.W * F.H) F.f) => (ple_c F gf.m.ok k1 0 d1 u hr.lt (fun i hi => by rw [Nat.zero_add]; exact hr.cell hi) hcap gf.m.sk).mono fun e w' h => h.formz HOwn2.out)
  have HShF := Lib.hid (fun u (hr : Row u k1 (F.W * F.H) F.f) (x y : Nat) (hx : x ≤ 64) (hy : y ≤ 64) => pshift_at gf.m.ok k1 d1 (x : Nat) (y : Nat) u hr (by omega) (by omega) (by omega) (by omega))
  have hFn := gf.n
  have hFw := gf.m.ok.w1
  have hFh := gf.m.ok.h1
  have hzl : lf (ofl (tk G F) 16) 0 = (a1 : Nat) := by rw [lf_ln, hz0]
  have HZ := Lib.hid hzl
  have hN := ofl_len (tk G F) 16
  clear hb hrow hk hB1 hw1 hh1 hL hrh hz0 hzl gf hcap HGV HRc HFst HPc HOwn HSf HAk
  generalize lf (ofl (tk G F) 16) = L at *
  generalize (ofl (tk G F) 16).length = N at *
  have X2 := Lib.hid (X1.out.below hba X1.out.lt)
  have LB2 := Lib.hid (LB1.out.trans (hba.mono LB1.out.size))
  clear hba X1 LB1
  obtain ⟨q0, q1, q2, q3, q4, q5, q6⟩ := X2.out.all
  obtain ⟨r0, r1, r2, r3, r4, r5, r6⟩ := Va2.out.all
  go_wp2_with fail
  clear q0 q1 q2 q3 q4 q5 q6 r0 r1 r2 r3 r4 r5 r6
  refine (HAk2.out _ LB2.out Ra2.out).mono ?_
  rintro e w3 ⟨D, c1, rfl, hrw, hb⟩
  obtain ⟨kl, rfl, hkl, hlr⟩ := hrw hn0
  clear hrw hkl
  have Lr3 := Lib.hid (hlr)
  clear hlr
  have X3 := Lib.hid (X2.out.below hb X2.out.lt)
  have LB3 := Lib.hid (LB2.out.trans (hb.mono LB2.out.size))
  have Va3 := Lib.hid (Va2.out.below hb Va2.out.lt)
  have Ra3 := Lib.hid (Ra2.out.below hb Ra2.out.lt)
  clear hb X2 LB2 Va2 Ra2
  have j0 : w3.cell? ⟨kl, 0, none⟩ = some (.int .i64 (a1 : Nat)) := by rw [Lr3.out.cell hn0, HZ.out]
  have n1 : ((N : Int) == 0) = false := by simp; omega
  have n2 : ¬ N = 0 := by omega
  have n3 : (0 : Int) < (N : Int) := by omega
  have n4 : ((a1 : Int) != (a1 : Int)) = false := by simp
  obtain ⟨q0, q1, q2, q3, q4, q5, q6⟩ := Va3.out.all
  go_wp2_with fail
  clear q0 q1 q2 q3 q4 q5 q6
  refine (HVf.out _).mono ?_
  rintro e w4 ⟨rfl, hb⟩
  clear j0 n1 n3 n4
  have X4 := Lib.hid (X3.out.below hb X3.out.lt)
  have LB4 := Lib.hid (LB3.out.trans (hb.mono LB3.out.size))
  have Va4 := Lib.hid (Va3.out.below hb Va3.out.lt)
  have Ra4 := Lib.hid (Ra3.out.below hb Ra3.out.lt)
  have Lr4 := Lib.hid (Lr3.out.below hb Lr3.out.lt)
  clear hb X3 LB3 Va3 Ra3 Lr3
  clear Lr4
  obtain ⟨q0, q1, q2, q3, q4, q5, q6⟩ := Va4.out.all
  go_wp2_with fail
  clear q0 q1 q2 q3 q4 q5 q6
  refine (HRf.out _ Ra4.out).mono ?_
  rintro e w5 ⟨rfl, hb⟩
  have X5 := Lib.hid (X4.out.below hb X4.out.lt)
  have LB5 := Lib.hid (LB4.out.trans (hb.mono LB4.out.size))
  have Va5 := Lib.hid (Va4.out.below hb Va4.out.lt)
  have Ra5 := Lib.hid (Ra4.out.below hb Ra4.out.lt)
  clear hb X4 LB4 Va4 Ra4
  obtain ⟨q0, q1, q2, q3, q4, q5, q6⟩ := Va5.out.all
  go_wp2_with fail
  clear q0 q1 q2 q3 q4 q5 q6
  refine (HL2.out _ Ra5.out).mono ?_
  rintro e w6 ⟨k2, d2, rfl, hrow, hb⟩
  have hba := (show Below _ _ (w6.alloc (.cells #[.int .i64 (F.W : Nat), .int .i64 (F.H : Nat), .slice (some ⟨k2, 0, none⟩) (F.W * F.H) d2] 24)) from hb.trans (((Below.refl _ _).alloc (Nat.le_refl _) _).mono hb.size))
  have Vb6 := Lib.hid (Box.new w6 (F.W : Nat) (F.H : Nat) (.slice (some ⟨k2, 0, none⟩) (F.W * F.H) d2))
  have Rb6 := Lib.hid (hrow.alloc (.cells #[.int .i64 (F.W : Nat), .int .i64 (F.H : Nat), .slice (some ⟨k2, 0, none⟩) (F.W * F.H) d2] 24))
  clear hb hrow
  have X6 := Lib.hid (X5.out.below hba X5.out.lt)
  have LB6 := Lib.hid (LB5.out.trans (hba.mono LB5.out.size))
  have Va6 := Lib.hid (Va5.out.below hba Va5.out.lt)
  have Ra6 := Lib.hid (Ra5.out.below hba Ra5.out.lt)
  clear hba X5 LB5 Va5 Ra5
  obtain ⟨q0, q1, q2, q3, q4, q5, q6⟩ := X6.out.all
  go_wp2_with fail
  clear q0 q1 q2 q3 q4 q5 q6
  refine (HAp.out _ LB6.out).mono ?_
  rintro e w7 ⟨k3, d3, rfl, hcap, hk, hrow, hb⟩
  have hba := (show Below _ _ (w7.alloc (.cells #[.int .i64 (E.W : Nat), .int .i64 (E.H : Nat), .slice (some ⟨k3, 0, none⟩) (E.W * E.H) d3] 24)) from hb.trans (((Below.refl _ _).alloc (Nat.le_refl _) _).mono hb.size))
  have Vc7 := Lib.hid (Box.new w7 (E.W : Nat) (E.H : Nat) (.slice (some ⟨k3, 0, none⟩) (E.W * E.H) d3))
  have Rc7 := Lib.hid (hrow.alloc (.cells #[.int .i64 (E.W : Nat), .int .i64 (E.H : Nat), .slice (some ⟨k3, 0, none⟩) (E.W * E.H) d3] 24))
  clear hb hrow hk hcap
  have X7 := Lib.hid (X6.out.below hba X6.out.lt)
  have LB7 := Lib.hid (LB6.out.trans (hba.mono LB6.out.size))
  have Va7 := Lib.hid (Va6.out.below hba Va6.out.lt)
  have Ra7 := Lib.hid (Ra6.out.below hba Ra6.out.lt)
  have Vb7 := Lib.hid (Vb6.out.below hba Vb6.out.lt)
  have Rb7 := Lib.hid (Rb6.out.below hba Rb6.out.lt)
  clear hba X6 LB6 Va6 Ra6 Vb6 Rb6
  clear X7
  obtain ⟨q0, q1, q2, q3, q4, q5, q6⟩ := Vc7.out.all
  go_wp2_with fail
  clear q0 q1 q2 q3 q4 q5 q6
  refine (HSh.out _ k3 d3 Rc7.out).mono ?_
  rintro e w8 ⟨k4, rfl, hrow, hb⟩
  have hba := (show Below _ _ (w8.alloc (.cells #[.int .i64 (E.W : Nat), .int .i64 (E.H : Nat), .slice (some ⟨k4, 0, none⟩) (E.W * E.H) (E.W * E.H)] 24)) from hb.trans (((Below.refl _ _).alloc (Nat.le_refl _) _).mono hb.size))
  have Vd8 := Lib.hid (Box.new w8 (E.W : Nat) (E.H : Nat) (.slice (some ⟨k4, 0, none⟩) (E.W * E.H) (E.W * E.H)))
  have Rd8 := Lib.hid (hrow.alloc (.cells #[.int .i64 (E.W : Nat), .int .i64 (E.H : Nat), .slice (some ⟨k4, 0, none⟩) (E.W * E.H) (E.W * E.H)] 24))
  clear hb hrow
  have LB8 := Lib.hid (LB7.out.trans (hba.mono LB7.out.size))
  have Va8 := Lib.hid (Va7.out.below hba Va7.out.lt)
  have Ra8 := Lib.hid (Ra7.out.below hba Ra7.out.lt)
  have Vb8 := Lib.hid (Vb7.out.below hba Vb7.out.lt)
  have Rb8 := Lib.hid (Rb7.out.below hba Rb7.out.lt)
  have Vc8 := Lib.hid (Vc7.out.below hba Vc7.out.lt)
  have Rc8 := Lib.hid (Rc7.out.below hba Rc7.out.lt)
  clear hba LB7 Va7 Ra7 Vb7 Rb7 Vc7 Rc7
  clear Vc8
  clear Rc8
  obtain ⟨q0, q1, q2, q3, q4, q5, q6⟩ := Vd8.out.all
  go_wp2_with fail
  clear q0 q1 q2 q3 q4 q5 q6
  refine (((HL3.out _ k4 Rd8.out).mono fun e w' h => h.form HSf2.out)).mono ?_
  rintro e w9 ⟨z5, k5, d5, rfl, hrow, hb⟩
  have hba := (show Below _ _ (w9.alloc (.cells #[.int .i64 (F.W : Nat), .int .i64 (F.H : Nat), .slice (some ⟨k5, 0, none⟩) (F.W * F.H) d5] 24)) from hb.trans (((Below.refl _ _).alloc (Nat.le_refl _) _).mono hb.size))
  have Ve9 := Lib.hid (Box.new w9 (F.W : Nat) (F.H : Nat) (.slice (some ⟨k5, 0, none⟩) (F.W * F.H) d5))
  have Re9 := Lib.hid (hrow.alloc (.cells #[.int .i64 (F.W : Nat), .int .i64 (F.H : Nat), .slice (some ⟨k5, 0, none⟩) (F.W * F.H) d5] 24))
  clear hb hrow
  have LB9 := Lib.hid (LB8.out.trans (hba.mono LB8.out.size))
  have Va9 := Lib.hid (Va8.out.below hba Va8.out.lt)
  have Ra9 := Lib.hid (Ra8.out.below hba Ra8.out.lt)
  have Vb9 := Lib.hid (Vb8.out.below hba Vb8.out.lt)
  have Rb9 := Lib.hid (Rb8.out.below hba Rb8.out.lt)
  have Vd9 := Lib.hid (Vd8.out.below hba Vd8.out.lt)
  have Rd9 := Lib.hid (Rd8.out.below hba Rd8.out.lt)
  clear hba LB8 Va8 Ra8 Vb8 Rb8 Vd8 Rd8
  clear Vd9
  clear Rd9
  have n5 : ((F.W : Int) != (F.W : Int)) = false := by simp
  have n6 : ((F.H : Int) != (F.H : Int)) = false := by simp
  obtain ⟨q0, q1, q2, q3, q4, q5, q6⟩ := Va9.out.all
  obtain ⟨r0, r1, r2, r3, r4, r5, r6⟩ := Vb9.out.all
  go_wp2_with fail
  clear q0 q1 q2 q3 q4 q5 q6 r0 r1 r2 r3 r4 r5 r6
  refine (rsame_self (F.W : Nat) (F.H : Nat) (some ⟨k2, 0, none⟩) (some ⟨k1, 0, none⟩) (F.W * F.H) d2 d1 F.f _ (by omega) (Rb9.out.holds Rb9.out.lt) (Ra9.out.holds Ra9.out.lt)).mono ?_
  rintro e w10 ⟨rfl, hb⟩
  clear n5 n6
  have LB10 := Lib.hid (LB9.out.trans (hb.mono LB9.out.size))
  have Va10 := Lib.hid (Va9.out.below hb Va9.out.lt)
  have Ra10 := Lib.hid (Ra9.out.below hb Ra9.out.lt)
  have Vb10 := Lib.hid (Vb9.out.below hb Vb9.out.lt)
  have Rb10 := Lib.hid (Rb9.out.below hb Rb9.out.lt)
  have Ve10 := Lib.hid (Ve9.out.below hb Ve9.out.lt)
  have Re10 := Lib.hid (Re9.out.below hb Re9.out.lt)
  clear hb LB9 Va9 Ra9 Vb9 Rb9 Ve9 Re9
  clear Vb10
  clear Rb10
  obtain ⟨q0, q1, q2, q3, q4, q5, q6⟩ := Ve10.out.all
  obtain ⟨r0, r1, r2, r3, r4, r5, r6⟩ := Va10.out.all
  go_wp2_with fail
  clear q0 q1 q2 q3 q4 q5 q6 r0 r1 r2 r3 r4 r5 r6
  refine (rsame_self (F.W : Nat) (F.H : Nat) (some ⟨k5, 0, none⟩) (some ⟨k1, 0, none⟩) (F.W * F.H) d5 d1 F.f _ (by omega) (Re10.out.holds Re10.out.lt) (Ra10.out.holds Ra10.out.lt)).mono ?_
  rintro e w11 ⟨rfl, hb⟩
  have LB11 := Lib.hid (LB10.out.trans (hb.mono LB10.out.size))
  have Va11 := Lib.hid (Va10.out.below hb Va10.out.lt)
  have Ra11 := Lib.hid (Ra10.out.below hb Ra10.out.lt)
  have Ve11 := Lib.hid (Ve10.out.below hb Ve10.out.lt)
  have Re11 := Lib.hid (Re10.out.below hb Re10.out.lt)
  clear hb LB10 Va10 Ra10 Ve10 Re10
  clear Ve11
  clear Re11
  obtain ⟨g9, hg9⟩ : ∃ g, w2.heap.size = g := ⟨_, rfl⟩
  rw [hg9] at Va11
  rw [hg9]
  have S0 : Hid (L7 w w11 (F.W : Nat) (F.H : Nat) (.slice (some ⟨k1, 0, none⟩) (F.W * F.H) d1) g9 k1 (F.W * F.H) F.f) := Lib.hid ⟨Va11.out, Ra11.out, LB11.out⟩
  clear Va11 Ra11 LB11 hg9
  go_wp2
  go_loopw [27] (fun v wr => ∃ x : Nat, x ≤ F.W ∧ v = .int .i64 x ∧ Hid (L7 w wr (F.W : Nat) (F.H : Nat) (.slice (some ⟨k1, 0, none⟩) (F.W * F.H) d1) g9 k1 (F.W * F.H) F.f)) (fun v _ => F.W - (intOf v).toNat)
  case atStart => exact ⟨0, by omega, rfl, S0⟩
  case round =>
    obtain ⟨x, hx, rfl, HS⟩ := hrel
    by_cases hlx : x < F.W
    · have t1 : (x : Int) < (F.W : Int) := by omega
      obtain ⟨q0, q1, q2, q3, q4, q5, q6⟩ := HS.out.g.all
      go_wp2
      clear q0 q1 q2 q3 q4 q5 q6 t1
      go_loopw [28] (fun v wr => ∃ y : Nat, y ≤ F.H ∧ v = .int .i64 y ∧ Hid (L7 w wr (F.W : Nat) (F.H : Nat) (.slice (some ⟨k1, 0, none⟩) (F.W * F.H) d1) g9 k1 (F.W * F.H) F.f)) (fun v _ => F.H - (intOf v).toNat)
      case atStart => exact ⟨0, by omega, rfl, HS⟩
      case round =>
        obtain ⟨y, hy, rfl, HS2⟩ := hrel
        by_cases hly : y < F.H
        · have t2 : (y : Int) < (F.H : Int) := by omega
          obtain ⟨q0, q1, q2, q3, q4, q5, q6⟩ := HS2.out.g.all
          go_wp2_with fail
          clear q0 q1 q2 q3 q4 q5 q6 t2
          refine (HShF.out _ HS2.out.r x y (by omega) (by omega)).mono ?_
          rintro e v1 ⟨k7, rfl, hrow, hb⟩
          have HS3 := Lib.hid ((HS2.out.next hb).next (blA (Below.refl _ _) (Nat.le_refl _) (.cells #[.int .i64 (F.W : Nat), .int .i64 (F.H : Nat), .slice (some ⟨k7, 0, none⟩) (F.W * F.H) (F.W * F.H)] 24)))
          have R3 := Lib.hid (hrow.alloc (.cells #[.int .i64 (F.W : Nat), .int .i64 (F.H : Nat), .slice (some ⟨k7, 0, none⟩) (F.W * F.H) (F.W * F.H)] 24))
          have V3 := Lib.hid (Box.new v1 (F.W : Nat) (F.H : Nat) (.slice (some ⟨k7, 0, none⟩) (F.W * F.H) (F.W * F.H)))
          have HBf := Lib.hid (show Calls Try.prog 68 #[.agg #[.int .i64 (F.W : Nat), .int .i64 (F.H : Nat), .slice (some ⟨k7, 0, none⟩) (F.W * F.H) (F.W * F.H)], .agg #[.int .i64 (F.W : Nat), .int .i64 (F.H : Nat), .slice (some ⟨k1, 0, none⟩) (F.W * F.H) d1]] (v1.alloc (.cells #[.int .i64 (F.W : Nat), .int .i64 (F.H : Nat), .slice (some ⟨k7, 0, none⟩) (F.W * F.H) (F.W * F.H)] 24)) fun e w' => e = .returned (.bool false) ∧ Below (v1.alloc (.cells #[.int .i64 (F.W : Nat), .int .i64 (F.H : Nat), .slice (some ⟨k7, 0, none⟩) (F.W * F.H) (F.W * F.H)] 24)).heap.size (v1.alloc (.cells #[.int .i64 (F.W : Nat), .int .i64 (F.H : Nat), .slice (some ⟨k7, 0, none⟩) (F.W * F.H) (F.W * F.H)] 24)) w' from
            (before_any (F.sf (x : Nat) (y : Nat)) F k7 (F.W * F.H) k1 d1 _ (show F.W * F.H ≤ 5000 by omega) R3.out HS3.out.r).mono fun e w' ⟨t, h1, h2, h3⟩ => ⟨by
              cases t with
              | true => exact absurd (h2.1 rfl) (HPc2.out (x : Nat) (y : Nat))
              | false => exact h1, h3⟩)
          clear hb hrow HS2
          obtain ⟨q0, q1, q2, q3, q4, q5, q6⟩ := HS3.out.g.all
          obtain ⟨r0, r1, r2, r3, r4, r5, r6⟩ := V3.out.all
          go_wp2_with fail
          clear q0 q1 q2 q3 q4 q5 q6 r0 r1 r2 r3 r4 r5 r6
          refine HBf.out.mono ?_
          rintro e v2 ⟨rfl, hb⟩
          have HS4 := Lib.hid (HS3.out.next hb)
          clear hb HS3 R3 V3 HBf
          go_wp2
          exact ⟨⟨y + 1, by omega, by go_num, HS4⟩, by simp [intOf]; omega⟩
        · have t2 : ¬ (y : Int) < (F.H : Int) := by omega
          have t3 : decide ((y : Int) < (F.H : Int)) = false := by simp; omega
          obtain ⟨q0, q1, q2, q3, q4, q5, q6⟩ := HS2.out.g.all
          go_wp2
          exact ⟨⟨x + 1, by omega, by go_num, HS2⟩, by simp [intOf]; omega⟩
    · have t2 : ¬ (x : Int) < (F.W : Int) := by omega
      have t3 : decide ((x : Int) < (F.W : Int)) = false := by simp; omega
      obtain ⟨q0, q1, q2, q3, q4, q5, q6⟩ := HS.out.g.all
      go_wp2_with fail
      clear q0 q1 q2 q3 q4 q5 q6 t2 t3
      refine (HAL.out _).mono ?_
      rintro e w99 ⟨rfl, hb⟩
      have HL9 := Lib.hid (HS.out.bel.trans (hb.mono HS.out.bel.size))
      clear hb
      go_wp2
      go_ret
      exact ⟨rfl, HL9.out⟩
theorem least7_any (W H : Int) (A : Option Addr) (n c : Nat) (f : Nat → Bool) (x y z : Int) (w : World) (hr : Holds w w.heap.size A n f) (hc : n ≤ c) (y0 : -9223372036854775808 ≤ y) (y1 : y ≤ 9223372036854775807) (z0 : -9223372036854775808 ≤ z) (z1 : z ≤ 9223372036854775807) (hal : ∀ w, Calls Try.prog 56 #[] w fun e w' => e = .returned (.bool true) ∧ Below w.heap.size w w') :
    Calls Try.prog 17 #[.agg #[.int .i64 W, .int .i64 H, .slice A n c], .int .i64 x, .int .i64 y, .int .i64 z] w fun e w' => e = .returned (.bool true) ∧ Below w.heap.size w w' := by
  rcases valid7_full W H A n c with h | ⟨U, V, rfl, rfl, rfl, hg⟩
  · exact le7_v W H A n c x y z w h hal
  · by_cases hx : 0 ≤ x ∧ x < 16
    · obtain ⟨m, rfl⟩ : ∃ m : Nat, x = m := ⟨x.toNat, (Int.toNat_of_nonneg hx.1).symm⟩
      obtain ⟨b, o, rfl, lb, hcs⟩ := hr (hg f).m.n0
      exact le7_main ⟨U, V, f⟩ (hg f) b o c hc m (by omega) y z y0 y1 z0 z1 w lb hcs hal
    · exact le7_a _ _ _ _ _ x y z w (fun u => (hg f).valid A c u) hx hal
end Go.Proofs.Ytjbofdgdcnfmoaa
