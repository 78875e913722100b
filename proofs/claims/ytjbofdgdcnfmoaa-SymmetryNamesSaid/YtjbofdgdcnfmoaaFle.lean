/- The program's Least. -/
import Derived.Test.YtjbofdgdcnfmoaaFrc
import Derived.Test.YtjbofdgdcnfmoaaMlf
import Derived.Test.YtjbofdgdcnfmoaaHas
import Derived.Test.YtjbofdgdcnfmoaaSbc
namespace Go.Proofs.Ytjbofdgdcnfmoaa
open Go.RowKit
set_option maxRecDepth 100000
set_option linter.unusedVariables false
set_option linter.unusedSimpArgs false

/-- What lies in Least: the grid, the result's variable, the least form. -/
structure L5 (w wr : World) (W H : Int) (sa : Value) (g6 : Nat) (X Y : Int) (s : Value) : Prop where
  g : Box wr w.heap.size W H sa
  r : Box wr (w.heap.size + 1) 0 0 (.slice none 0 0)
  f : Fb wr g6 X Y s
  bel : Below w.heap.size w wr
  hg : w.heap.size + 1 < g6
theorem L5.next {w wr w' : World} {W H X Y : Int} {sa s : Value} {g6 : Nat} (h : L5 w wr W H sa g6 X Y s) (hb : Below wr.heap.size wr w') : L5 w w' W H sa g6 X Y s :=
  ⟨h.g.below hb h.g.lt, h.r.below hb h.r.lt, h.f.below hb h.f.lt, h.bel.trans (hb.mono h.bel.size), h.hg⟩
theorem L5.alloc {w wr : World} {W H X Y : Int} {sa s : Value} {g6 : Nat} (h : L5 w wr W H sa g6 X Y s) (o : Obj) : L5 w (wr.alloc o) W H sa g6 X Y s := h.next (blA (Below.refl _ _) (Nat.le_refl _) o)
theorem L5.put {w wr : World} {W H X Y : Int} {sa s : Value} {g6 : Nat} (h : L5 w wr W H sa g6 X Y s) (x y : Int) (z : Value) : L5 w (((wr.setCell ⟨g6, 0, none⟩ (.int .i64 x)).setCell ⟨g6, 1, none⟩ (.int .i64 y)).setCell ⟨g6, 2, none⟩ z) W H sa g6 x y z := by
  have hg := h.hg
  exact ⟨((h.g.far (by simp; omega) _).far (by simp; omega) _).far (by simp; omega) _, ((h.r.far (by simp; omega) _).far (by simp; omega) _).far (by simp; omega) _, h.f.put x y z, ((h.bel.setCell (by simp; omega) _).setCell (by simp; omega) _).setCell (by simp; omega) _, hg⟩
theorem vm_succ (G : GD) (m : Nat) (op : Nat) (K : GD) : Vm G (m + 1) op K ↔ Vm G m op K ∨ (op = m ∧ rcs (G.ap m) K) := by
  unfold Vm
  constructor
  · rintro ⟨h1, h2⟩
    rcases Nat.lt_succ_iff_lt_or_eq.1 h1 with h | rfl
    · exact .inl ⟨h, h2⟩
    · exact .inr ⟨rfl, h2⟩
  · rintro (⟨h1, h2⟩ | ⟨rfl, h2⟩)
    · exact ⟨by omega, h2⟩
    · exact ⟨by omega, h2⟩
theorem vm_zero (G : GD) (op : Nat) (K : GD) : Vm G 1 op K ↔ (op = 0 ∧ rcs (G.ap 0) K) := by
  rw [vm_succ]
  unfold Vm
  exact ⟨fun h => h.elim (fun h => absurd h.1 (by omega)) id, .inr⟩
/-- A form and an operation came back. -/
def LeOut (w : World) (G : GD) (e : Ending) (w' : World) : Prop :=
  ∃ (F : GD) (k d' a : Nat), e = .returned (.tuple #[.agg #[.int .i64 (F.W : Nat), .int .i64 (F.H : Nat), .slice (some ⟨k, 0, none⟩) (F.W * F.H) d'], .int .i64 (a : Nat), .int .i64 0]) ∧ Row w' k (F.W * F.H) F.f ∧ w.heap.size ≤ k ∧ Best (Vm G 16) F a ∧ F.W ≤ 64 ∧ F.H ≤ 64 ∧ Below w.heap.size w w'
theorem rcs_side {G K : GD} (ok : G.Ok) (h : rcs G K) : K.W ≤ 64 ∧ K.H ≤ 64 := by
  obtain ⟨A, B, C, x, y, hL, _, _, rfl⟩ := h
  have h1 := hL.aw
  have h2 := Nat.le_of_dvd ok.h0 (Nat.dvd_of_mod_eq_zero (rh_div hL ok.h0))
  have h3 := ok.w1
  have h4 := ok.h1
  exact ⟨by show A ≤ 64; omega, by show rh A B C ≤ 64; omega⟩
set_option maxHeartbeats 3200000 in
theorem ple_ok (G : GD) (ok : G.Ok) (b o d : Nat) (w : World) (lb : b < w.heap.size) (hcs : ∀ i, i < G.W * G.H → w.cell? ⟨b, o + i, none⟩ = some (.bool (G.f i))) (hd : G.W * G.H ≤ d) (hx : schk G.W G.H (G.W * G.H) = 0) :
    Calls Try.prog 51 #[.agg #[.int .i64 (G.W : Nat), .int .i64 (G.H : Nat), .slice (some ⟨b, o, none⟩) (G.W * G.H) d]] w (LeOut w G) := by
  have HA : ∀ v, Below w.heap.size w v → Holds v v.heap.size (some ⟨b, o, none⟩) (G.W * G.H) G.f := fun v h => fun _ => ⟨b, o, rfl, Nat.lt_of_lt_of_le lb h.size, fun i hi => (h.cell (p := ⟨b, o + i, none⟩) lb).trans (hcs i hi)⟩
  have hn : G.W * G.H ≤ 4200 := by have := Nat.mul_le_mul ok.w1 ok.h1; omega
  have HAP := Lib.hid (fun m (hm : m < 16) v (h : Below w.heap.size w v) => papd G ok b o d m hm v (HA v h))
  have HRC := Lib.hid (fun m v (k1 d1 : Nat) (A B C : Nat) (hL : IsL (G.ap m).W (G.ap m).H (G.ap m).f A B C) (hr : Row v k1 ((G.ap m).W * (G.ap m).H) (G.ap m).f) (hd1 : (G.ap m).W * (G.ap m).H ≤ d1) => rects_any hL k1 0 d1 v hr.lt (fun i hi => by rw [Nat.zero_add]; exact hr.cell hi) hd1 (ap_ok ok m).w1 (ap_ok ok m).h0 (ap_ok ok m).h1)
  have HOK := Lib.hid (fun m => ap_ok ok m)
  have HVS := Lib.hid (fun m op K => vm_succ G m op K)
  have HV0 := Lib.hid (fun op K => vm_zero G op K)
  have HFin := Lib.hid (show ∀ v e, (∃ (F : GD) (k d' a : Nat), e = .returned (.tuple #[.agg #[.int .i64 (F.W : Nat), .int .i64 (F.H : Nat), .slice (some ⟨k, 0, none⟩) (F.W * F.H) d'], .int .i64 (a : Nat), .int .i64 0]) ∧ Row v k (F.W * F.H) F.f ∧ w.heap.size ≤ k ∧ Best (Vm G 16) F a ∧ F.W ≤ 64 ∧ F.H ≤ 64 ∧ Below w.heap.size w v) → LeOut w G e v from fun _ _ h => h)
  generalize hq : LeOut w G = Post at *
  obtain ⟨W, hW⟩ : ∃ W, G.W = W := ⟨_, rfl⟩
  obtain ⟨H, hH⟩ : ∃ H, G.H = H := ⟨_, rfl⟩
  rw [hW, hH] at HAP hx hn ⊢
  clear HA hcs hq hW hH ok
  have X0 := Lib.hid ((Box.new w (W : Nat) (H : Nat) (.slice (some ⟨b, o, none⟩) (W * H) d)).alloc (.cells #[.int .i64 0, .int .i64 0, .slice none 0 0] 24))
  have Y0 := Lib.hid (show Box ((w.alloc (.cells #[.int .i64 (W : Nat), .int .i64 (H : Nat), .slice (some ⟨b, o, none⟩) (W * H) d] 24)).alloc (.cells #[.int .i64 0, .int .i64 0, .slice none 0 0] 24)) (w.heap.size + 1) 0 0 (.slice none 0 0) from by have h := Box.new (w.alloc (.cells #[.int .i64 (W : Nat), .int .i64 (H : Nat), .slice (some ⟨b, o, none⟩) (W * H) d] 24)) 0 0 (.slice none 0 0); rwa [World.size_alloc] at h)
  have LB0 := Lib.hid (show Below w.heap.size w ((w.alloc (.cells #[.int .i64 (W : Nat), .int .i64 (H : Nat), .slice (some ⟨b, o, none⟩) (W * H) d] 24)).alloc (.cells #[.int .i64 0, .int .i64 0, .slice none 0 0] 24)) from blA (blA (Below.refl _ _) (Nat.le_refl _) _) (Nat.le_refl _) _)
  have HC := Lib.hid (fun (u : World) (kk : Nat) (hb : Box u kk (W : Nat) (H : Nat) (.slice (some ⟨b, o, none⟩) (W * H) d)) => (show Calls Try.prog 92 #[.slice (some ⟨kk, 0, none⟩) 1 1] u fun e w' => e = .returned (.int .i64 0) ∧ Below u.heap.size u w' by have h := check1_any (W : Nat) (H : Nat) (some ⟨b, o, none⟩) (W * H) d kk u (by omega) hb; rwa [hx] at h))
  have LBc := Lib.hid (blA LB0.out (Nat.le_refl _) (.cells #[.int .i64 (W : Nat), .int .i64 (H : Nat), .slice (some ⟨b, o, none⟩) (W * H) d] 24))
  have Xc := Lib.hid (X0.out.alloc (.cells #[.int .i64 (W : Nat), .int .i64 (H : Nat), .slice (some ⟨b, o, none⟩) (W * H) d] 24))
  have Yc := Lib.hid (Y0.out.alloc (.cells #[.int .i64 (W : Nat), .int .i64 (H : Nat), .slice (some ⟨b, o, none⟩) (W * H) d] 24))
  have Zc := Lib.hid (show Box (((w.alloc (.cells #[.int .i64 (W : Nat), .int .i64 (H : Nat), .slice (some ⟨b, o, none⟩) (W * H) d] 24)).alloc (.cells #[.int .i64 0, .int .i64 0, .slice none 0 0] 24)).alloc (.cells #[.int .i64 (W : Nat), .int .i64 (H : Nat), .slice (some ⟨b, o, none⟩) (W * H) d] 24)) (w.heap.size + 1 + 1) (W : Nat) (H : Nat) (.slice (some ⟨b, o, none⟩) (W * H) d) from by
    have h := Box.new ((w.alloc (.cells #[.int .i64 (W : Nat), .int .i64 (H : Nat), .slice (some ⟨b, o, none⟩) (W * H) d] 24)).alloc (.cells #[.int .i64 0, .int .i64 0, .slice none 0 0] 24)) (W : Nat) (H : Nat) (.slice (some ⟨b, o, none⟩) (W * H) d)
    rwa [World.size_alloc, World.size_alloc] at h)
  generalize W * H = N at *
  clear hx hn
  go_enter Try.func51, Try.ntmps51
  obtain ⟨q0, q1, q2, q3, q4, q5, q6⟩ := X0.out.all
  go_wp2_with fail
  clear q0 q1 q2 q3 q4 q5 q6
  refine (HC.out _ _ Zc.out).mono ?_
  rintro e w1 ⟨rfl, hb⟩
  have LB1 := Lib.hid (LBc.out.trans (hb.mono LBc.out.size))
  have X1 := Lib.hid (Xc.out.below hb Xc.out.lt)
  have Y1 := Lib.hid (Yc.out.below hb Yc.out.lt)
  clear LBc Xc Yc Zc HC hb LB0 X0 Y0
  obtain ⟨g6, hg6⟩ : ∃ g6, w1.heap.size = g6 := ⟨_, rfl⟩
  have hlt6 : w.heap.size + 1 < g6 := by rw [← hg6]; exact Y1.out.lt
  have S0 : Hid (L5 w (w1.alloc (.cells #[.int .i64 0, .int .i64 0, .string ⟨#[]⟩] 116)) (W : Nat) (H : Nat) (.slice (some ⟨b, o, none⟩) N d) g6 0 0 (.string ⟨#[]⟩)) := Lib.hid ⟨X1.out.alloc _, Y1.out.alloc _, by rw [← hg6]; exact Fb.new _ _ _ _, blA LB1.out (Nat.le_refl _) _, hlt6⟩
  clear X1 Y1 LB1
  go_wp2
  go_loopw [7, 17] (fun q v wr => ∃ (m a : Nat) (F : GD), m ≤ 16 ∧ v = .int .i64 m ∧ q = .int .i64 a ∧ Hid (m = 0 ∨ Best (Vm G m) F a) ∧ Hid (F.W ≤ 64 ∧ F.H ≤ 64) ∧ Hid (L5 w wr (W : Nat) (H : Nat) (.slice (some ⟨b, o, none⟩) N d) g6 (F.W : Nat) (F.H : Nat) (.string ⟨(fby F).toArray⟩))) (fun _ v _ => 16 - (intOf v).toNat)
  case atStart => exact ⟨0, 0, ⟨0, 0, fun _ => false⟩, by omega, rfl, rfl, Lib.hid (.inl rfl), Lib.hid ⟨by decide, by decide⟩, S0⟩
  case round =>
    obtain ⟨m, a, F, hm, rfl, rfl, HBs, HSd, HL⟩ := hrel
    by_cases hlm : m < 16
    · obtain ⟨q0, q1, q2, q3, q4, q5, q6⟩ := HL.out.g.all
      go_wp2_with fail
      clear q0 q1 q2 q3 q4 q5 q6
      refine (HAP.out m hlm _ HL.out.bel).mono ?_
      rintro e w2 ⟨k1, d1, rfl, hd1, hk1, hr1, hb⟩
      have HL2 := Lib.hid (HL.out.next hb)
      obtain ⟨A, B, C, hLt⟩ := IsL.ex (G.ap m).W (G.ap m).H (G.ap m).f (HOK.out m).w0 (HOK.out m).h0
      have HRm := Lib.hid (HRC.out m w2 k1 d1 A B C hLt hr1 hd1)
      have HLt := Lib.hid hLt
      clear hb hd1 hk1 hr1 hLt HL
      go_wp2_with fail
      refine HRm.out.mono ?_
      rintro e w3 ⟨k2, c2, rfl, hk2, hf2, hb⟩
      have HL3 := Lib.hid (HL2.out.next hb)
      have hA0 := HLt.out.a0
      have r0 := rh_pos (B := B) HLt.out.a0 HLt.out.c0
      have hAW := HLt.out.aw
      have hRH : rh A B C ≤ (G.ap m).H := Nat.le_of_dvd (HOK.out m).h0 (Nat.dvd_of_mod_eq_zero (rh_div HLt.out (HOK.out m).h0))
      have hw1 := (HOK.out m).w1
      have hh1 := (HOK.out m).h1
      have hAR : A * rh A B C ≤ 100000 := by have := Nat.mul_le_mul (show A ≤ 64 by omega) (show rh A B C ≤ 64 by omega); omega
      have hAR0 : 0 < A * rh A B C := Nat.mul_pos hA0 r0
      have HMn := Lib.hid (minf_any k2 c2 (A * rh A B C) (fun i => rec_ (G.ap m) A (rh A B C) (i % A) (i / A)) w3 hAR0 hAR hk2 hf2)
      clear hb hf2 hk2 HRm HL2
      go_wp2_with fail
      refine HMn.out.mono ?_
      rintro e w4 ⟨j, hj, rfl, hmin, hb⟩
      have hM1 : rcs (G.ap m) (rec_ (G.ap m) A (rh A B C) (j % A) (j / A)) := (rcs_iff HLt.out).2 ⟨j % A, j / A, Nat.mod_lt _ hA0, Nat.div_lt_of_lt_mul hj, rfl⟩
      have hM2 : ∀ K, rcs (G.ap m) K → ¬ K.lt (rec_ (G.ap m) A (rh A B C) (j % A) (j / A)) := by
        intro K hK
        obtain ⟨x, y, h1, h2, rfl⟩ := (rcs_iff HLt.out).1 hK
        have e := hmin (y * A + x) (by
          have := Nat.mul_le_mul_right A (show y + 1 ≤ rh A B C from h2)
          rw [Nat.add_mul, Nat.one_mul] at this
          rw [Nat.mul_comm A]
          omega)
        rwa [(co y h1).1, (co y h1).2] at e
      obtain ⟨M, hM⟩ : ∃ M, rec_ (G.ap m) A (rh A B C) (j % A) (j / A) = M := ⟨_, rfl⟩
      simp only [hM] at hM1 hM2 ⊢
      have hsd := rcs_side (HOK.out m) hM1
      have HM1 := Lib.hid hM1
      have HM2 := Lib.hid hM2
      have HSM := Lib.hid hsd
      have HLw := Lib.hid (HL3.out.next hb)
      have HL4 := Lib.hid ((HL3.out.next hb).alloc (.cells #[.int .i64 (M.W : Nat), .int .i64 (M.H : Nat), .string ⟨(fby M).toArray⟩] 116))
      have HF4 := Lib.hid (Fb.new w4 (M.W : Nat) (M.H : Nat) (.string ⟨(fby M).toArray⟩))
      have hne : g6 < w4.heap.size := Nat.lt_of_lt_of_le HL3.out.f.lt hb.size
      clear hb hmin hj hM1 hM2 hM hsd HMn HL3 hAR hAR0 hAW hRH hw1 hh1 hA0 r0 HLt
      unfold fv
      by_cases hm0 : m = 0
      · have HM0 := Lib.hid hm0
        have y0 : ((m : Int) == (0 : Int)) = true := by simp; omega
        have HBn := Lib.hid (show Best (Vm G (m + 1)) M m from Best.new (by rw [hm0]; exact HV0.out) HM1.out HM2.out)
        clear hm0
        obtain ⟨p0, p1, p2, p3, p4, p5⟩ := HLw.out.f.all
        obtain ⟨o0, o1, o2, o3, o4, o5⟩ := HF4.out.all
        go_wp2
        exact ⟨⟨m + 1, m, M, by omega, by go_num, rfl, Lib.hid (.inr HBn.out), HSM, Lib.hid (by first | exact HL4.out.put _ _ _ | exact (HLw.out.put _ _ _).alloc _)⟩, by simp [intOf]; omega⟩
      · have y0 : ((m : Int) == (0 : Int)) = false := by simp; omega
        have hbest : Best (Vm G m) F a := by
          rcases HBs.out with h | h
          · exact absurd h hm0
          · exact h
        obtain ⟨z, hz⟩ : ∃ z, fcmp M F = z := ⟨_, rfl⟩
        have HZ := Lib.hid (hz ▸ fcmp_iff M F)
        have HCm := Lib.hid (fun v => (show Calls Try.prog 97 #[.agg #[.int .i64 (M.W : Nat), .int .i64 (M.H : Nat), .string ⟨(fby M).toArray⟩], .agg #[.int .i64 (F.W : Nat), .int .i64 (F.H : Nat), .string ⟨(fby F).toArray⟩]] v fun e w' => e = .returned (.int .i64 z) ∧ Below v.heap.size v w' from hz ▸ compare_any M F v))
        have HBt := Lib.hid hbest
        have hop : ∀ op K, Vm G m op K → op ≤ m := fun op K h => by have := h.1; omega
        have HOP := Lib.hid hop
        clear hz hbest hop HBs
        obtain ⟨p0, p1, p2, p3, p4, p5⟩ := HL4.out.f.all
        obtain ⟨o0, o1, o2, o3, o4, o5⟩ := HF4.out.all
        go_wp2_with fail
        clear p0 p1 p2 p3 p4 p5 o0 o1 o2 o3 o4 o5
        refine (HCm.out _).mono ?_
        rintro e w6 ⟨rfl, hb⟩
        have HL6 := Lib.hid (HL4.out.next hb)
        have HF6 := Lib.hid (HF4.out.below hb HF4.out.lt)
        clear hb HL4 HF4
        by_cases hlt : z < 0
        · obtain ⟨p0, p1, p2, p3, p4, p5⟩ := HL6.out.f.all
          obtain ⟨o0, o1, o2, o3, o4, o5⟩ := HF6.out.all
          have HLT := Lib.hid (HZ.out.1 hlt)
          go_wp2
          exact ⟨⟨m + 1, m, M, by omega, by go_num, rfl, Lib.hid (.inr (HBt.out.yes (HVS.out m) HM1.out HM2.out HLT.out)), HSM, Lib.hid (HL6.out.put _ _ _)⟩, by simp [intOf]; omega⟩
        · have HLT := Lib.hid (fun h => hlt (HZ.out.2 h))
          go_wp2
          exact ⟨⟨m + 1, a, F, by omega, by go_num, rfl, Lib.hid (.inr (HBt.out.no (HVS.out m) HOP.out HM2.out HLT.out)), HSd, HL6⟩, by simp [intOf]; omega⟩
    · have e : m = 16 := by omega
      subst e
      have hbest : Best (Vm G 16) F a := by
        rcases HBs.out with h | h
        · exact absurd h (by omega)
        · exact h
      have HBt := Lib.hid hbest
      have HGr := Lib.hid (fun v => (show Calls Try.prog 98 #[.agg #[.int .i64 (F.W : Nat), .int .i64 (F.H : Nat), .string ⟨(fby F).toArray⟩]] v (OkG v F) from fgrid_any F v HSd.out.1 HSd.out.2))
      clear hbest HBs
      obtain ⟨p0, p1, p2, p3, p4, p5⟩ := HL.out.f.all
      go_wp2_with fail
      clear p0 p1 p2 p3 p4 p5
      refine (HGr.out _).mono ?_
      rintro e w3 ⟨k, d', rfl, hk, hrow, hb⟩
      have HL3 := Lib.hid (HL.out.next hb)
      have HR3 := Lib.hid hrow
      have hkr : w.heap.size + 1 < k := Nat.lt_of_lt_of_le (Nat.lt_of_lt_of_le HL.out.r.lt (Nat.le_refl _)) hk
      clear hb hrow HL
      obtain ⟨r0, r1, r2, r3, r4, r5, r6⟩ := HL3.out.r.all
      go_wp2
      have Z := box_set3 HL3.out.r (F.W : Nat) (F.H : Nat) (.slice (some ⟨k, 0, none⟩) (F.W * F.H) d')
      obtain ⟨z0, z1, z2, _⟩ := Z.all
      refine bodyPost_ret (v := .tuple #[.agg #[.int .i64 (F.W : Nat), .int .i64 (F.H : Nat), .slice (some ⟨k, 0, none⟩) (F.W * F.H) d'], .int .i64 (a : Nat), .int .i64 0]) (by simp [results, Try.results51, go_sem, z0, z1, z2]) rfl ?_
      refine HFin.out _ _ ⟨F, k, d', a, rfl, ?_, by omega, HBt.out, HSd.out.1, HSd.out.2, ((HL3.out.bel.setCell (Nat.le_succ _) _).setCell (Nat.le_succ _) _).setCell (Nat.le_succ _) _⟩
      exact ((HR3.out.far (p := ⟨w.heap.size + 1, 0, none⟩) (by simp; omega) _).far (p := ⟨w.heap.size + 1, 1, none⟩) (by simp; omega) _).far (p := ⟨w.heap.size + 1, 2, none⟩) (by simp; omega) _
end Go.Proofs.Ytjbofdgdcnfmoaa
