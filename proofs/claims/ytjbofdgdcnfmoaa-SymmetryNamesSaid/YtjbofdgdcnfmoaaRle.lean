/- The reference's Least. -/
import Derived.Test.YtjbofdgdcnfmoaaFle
import Derived.Test.YtjbofdgdcnfmoaaMlf
namespace Go.Proofs.Ytjbofdgdcnfmoaa
open Go.RowKit
set_option maxRecDepth 100000
set_option linter.unusedVariables false
set_option linter.unusedSimpArgs false

/-- What lies in the reference's Least: the grid, the result's variable, the best form. -/
structure L6 (w wr : World) (W H : Int) (sa : Value) (g5 : Nat) (X Y : Int) (s : Value) : Prop where
  g : Box wr w.heap.size W H sa
  r : Box wr (w.heap.size + 1) 0 0 (.slice none 0 0)
  f : Box wr g5 X Y s
  bel : Below w.heap.size w wr
  hg : w.heap.size + 1 < g5
theorem L6.next {w wr w' : World} {W H X Y : Int} {sa s : Value} {g5 : Nat} (h : L6 w wr W H sa g5 X Y s) (hb : Below wr.heap.size wr w') : L6 w w' W H sa g5 X Y s :=
  ⟨h.g.below hb h.g.lt, h.r.below hb h.r.lt, h.f.below hb h.f.lt, h.bel.trans (hb.mono h.bel.size), h.hg⟩
theorem L6.put {w wr : World} {W H X Y : Int} {sa s : Value} {g5 : Nat} (h : L6 w wr W H sa g5 X Y s) (x y : Int) (z : Value) : L6 w (((wr.setCell ⟨g5, 0, none⟩ (.int .i64 x)).setCell ⟨g5, 1, none⟩ (.int .i64 y)).setCell ⟨g5, 2, none⟩ z) W H sa g5 x y z := by
  have hg := h.hg
  exact ⟨((h.g.far (by simp; omega) _).far (by simp; omega) _).far (by simp; omega) _, ((h.r.far (by simp; omega) _).far (by simp; omega) _).far (by simp; omega) _, box_set3 h.f x y z, ((h.bel.setCell (by simp; omega) _).setCell (by simp; omega) _).setCell (by simp; omega) _, hg⟩
/-- A cloth in a variable. -/
structure HB (wr : World) (gh kh g5 U V d : Nat) (f : Nat → Bool) : Prop where
  b : Box wr gh (U : Nat) (V : Nat) (.slice (some ⟨kh, 0, none⟩) (U * V) d)
  r : Row wr kh (U * V) f
  n1 : gh ≠ g5
  n2 : kh ≠ g5
theorem HB.next {wr w' : World} {gh kh g5 U V d : Nat} {f : Nat → Bool} (h : HB wr gh kh g5 U V d f) (hb : Below wr.heap.size wr w') : HB w' gh kh g5 U V d f := ⟨h.b.below hb h.b.lt, h.r.below hb h.r.lt, h.n1, h.n2⟩
theorem HB.far {wr : World} {gh kh g5 U V d : Nat} {f : Nat → Bool} (h : HB wr gh kh g5 U V d f) (x y z : Value) : HB (((wr.setCell ⟨g5, 0, none⟩ x).setCell ⟨g5, 1, none⟩ y).setCell ⟨g5, 2, none⟩ z) gh kh g5 U V d f :=
  ⟨((h.b.far h.n1 _).far h.n1 _).far h.n1 _, ((h.r.far (p := ⟨g5, 0, none⟩) h.n2 _).far (p := ⟨g5, 1, none⟩) h.n2 _).far (p := ⟨g5, 2, none⟩) h.n2 _, h.n1, h.n2⟩
/-- How far the search is: which forms were seen. -/
def St (w wr : World) (W H : Int) (sa : Value) (g5 : Nat) (V : Nat → GD → Prop) (q : Value) : Prop :=
  (q = .int .i64 (-1) ∧ (∀ op K, ¬ V op K) ∧ L6 w wr W H sa g5 0 0 (.slice none 0 0)) ∨
  ∃ (F : GD) (a k d' : Nat), q = .int .i64 (a : Nat) ∧ Best V F a ∧ F.W ≤ 64 ∧ F.H ≤ 64 ∧ Row wr k (F.W * F.H) F.f ∧ g5 ≠ k ∧ w.heap.size + 1 < k ∧ L6 w wr W H sa g5 (F.W : Nat) (F.H : Nat) (.slice (some ⟨k, 0, none⟩) (F.W * F.H) d')
theorem St.next {w wr w' : World} {W H : Int} {sa : Value} {g5 : Nat} {V : Nat → GD → Prop} {q : Value} (h : St w wr W H sa g5 V q) (hb : Below wr.heap.size wr w') : St w w' W H sa g5 V q := by
  rcases h with ⟨h1, h2, h3⟩ | ⟨F, a, k, d', h1, h2, h3, h4, h5, h6, h7, h8⟩
  · exact .inl ⟨h1, h2, h3.next hb⟩
  · exact .inr ⟨F, a, k, d', h1, h2, h3, h4, h5.below hb h5.lt, h6, h7, h8.next hb⟩
theorem St.congr {w wr : World} {W H : Int} {sa : Value} {g5 : Nat} {V V' : Nat → GD → Prop} {q : Value} (h : St w wr W H sa g5 V q) (e : ∀ op K, V op K ↔ V' op K) : St w wr W H sa g5 V' q := by
  rcases h with ⟨h1, h2, h3⟩ | ⟨F, a, k, d', h1, h2, h3⟩
  · exact .inl ⟨h1, fun op K k => h2 op K ((e _ _).2 k), h3⟩
  · exact .inr ⟨F, a, k, d', h1, h2.congr e, h3⟩
/-- .. the rectangles of the operation m up to a place. -/
def Vy (G : GD) (m A R x y : Nat) (op : Nat) (K : GD) : Prop := Vm G m op K ∨ (op = m ∧ ∃ x' y', ((x' < x ∧ y' < R) ∨ (x' = x ∧ y' < y)) ∧ K = rec_ (G.ap m) A R x' y')
theorem vy_zero (G : GD) (m A R : Nat) (op : Nat) (K : GD) : Vm G m op K ↔ Vy G m A R 0 0 op K := by
  unfold Vy
  exact ⟨.inl, fun h => h.elim id fun ⟨_, x', y', h1, _⟩ => by omega⟩
theorem vy_row (G : GD) (m A R x : Nat) (op : Nat) (K : GD) : Vy G m A R x R op K ↔ Vy G m A R (x + 1) 0 op K := by
  unfold Vy
  constructor
  · rintro (h | ⟨h1, x', y', h2, h3⟩)
    · exact .inl h
    · exact .inr ⟨h1, x', y', .inl (by omega), h3⟩
  · rintro (h | ⟨h1, x', y', h2, h3⟩)
    · exact .inl h
    · exact .inr ⟨h1, x', y', by omega, h3⟩
theorem vy_all {G : GD} {m A B C : Nat} (hL : IsL (G.ap m).W (G.ap m).H (G.ap m).f A B C) (op : Nat) (K : GD) : Vy G m A (rh A B C) A 0 op K ↔ Vm G (m + 1) op K := by
  rw [vm_succ, rcs_iff hL]
  unfold Vy
  constructor
  · rintro (h | ⟨h1, x', y', h2, h3⟩)
    · exact .inl h
    · exact .inr ⟨h1, x', y', by omega, by omega, h3⟩
  · rintro (h | ⟨h1, x', y', h2, h3, h4⟩)
    · exact .inl h
    · exact .inr ⟨h1, x', y', .inl (by omega), h4⟩
theorem vy_succ (G : GD) (m A R x y : Nat) (op : Nat) (K : GD) : Vy G m A R x (y + 1) op K ↔ Vy G m A R x y op K ∨ (op = m ∧ K = rec_ (G.ap m) A R x y) := by
  unfold Vy
  constructor
  · rintro (h | ⟨h1, x', y', h2, h3⟩)
    · exact .inl (.inl h)
    · by_cases e : x' = x ∧ y' = y
      · obtain ⟨rfl, rfl⟩ := e
        exact .inr ⟨h1, h3⟩
      · exact .inl (.inr ⟨h1, x', y', by omega, h3⟩)
  · rintro ((h | ⟨h1, x', y', h2, h3⟩) | ⟨h1, h2⟩)
    · exact .inl h
    · exact .inr ⟨h1, x', y', by omega, h3⟩
    · exact .inr ⟨h1, x, y, by omega, h2⟩
theorem vy_le {G : GD} {m A R x y op : Nat} {K : GD} (h : Vy G m A R x y op K) : op ≤ m := by
  rcases h with h | ⟨h, _⟩
  · exact Nat.le_of_lt h.1
  · exact Nat.le_of_eq h
/-- A form and an operation came back from the reference. -/
def LrOut (w : World) (G : GD) (e : Ending) (w' : World) : Prop :=
  ∃ (F : GD) (k d' a : Nat), e = .returned (.tuple #[.agg #[.int .i64 (F.W : Nat), .int .i64 (F.H : Nat), .slice (some ⟨k, 0, none⟩) (F.W * F.H) d'], .int .i64 (a : Nat), .int .i64 0]) ∧ Row w' k (F.W * F.H) F.f ∧ Best (Vm G 16) F a ∧ F.W ≤ 64 ∧ F.H ≤ 64 ∧ Below w.heap.size w w'
theorem part_rec (G : GD) (A R x y : Nat) (hA : 1 ≤ A) (hAW : A ≤ G.W) : (fun i => (fun p q => (fun i => pc G.W G.H G.f (x + i % G.W) (y + i / G.W)) ((0 + q) * G.W + (0 + p))) (i % A) (i / A)) = (rec_ G A R x y).f := by
  funext i
  have h := Nat.mod_lt i (show A > 0 by omega)
  show pc G.W G.H G.f (x + ((0 + i / A) * G.W + (0 + i % A)) % G.W) (y + ((0 + i / A) * G.W + (0 + i % A)) / G.W) = pc G.W G.H G.f (x + i % A) (y + i / A)
  rw [Nat.zero_add, Nat.zero_add, (row_at (a := i / A) (show i % A < G.W by omega)).1, (row_at (a := i / A) (show i % A < G.W by omega)).2]
set_option maxHeartbeats 1600000 in
theorem rle_ok (G : GD) (ok : G.Ok) (b o d : Nat) (w : World) (lb : b < w.heap.size) (hcs : ∀ i, i < G.W * G.H → w.cell? ⟨b, o + i, none⟩ = some (.bool (G.f i))) (hx : schk G.W G.H (G.W * G.H) = 0) :
    Calls Try.prog 64 #[.agg #[.int .i64 (G.W : Nat), .int .i64 (G.H : Nat), .slice (some ⟨b, o, none⟩) (G.W * G.H) d]] w (LrOut w G) := by
  have HA : ∀ v, Below w.heap.size w v → Holds v v.heap.size (some ⟨b, o, none⟩) (G.W * G.H) G.f := fun v h => fun _ => ⟨b, o, rfl, Nat.lt_of_lt_of_le lb h.size, fun i hi => (h.cell (p := ⟨b, o + i, none⟩) lb).trans (hcs i hi)⟩
  have hn : G.W * G.H ≤ 4200 := by have := Nat.mul_le_mul ok.w1 ok.h1; omega
  have HAP := Lib.hid (fun m (hm : m < 16) v (h : Below w.heap.size w v) => rapd G ok b o d m hm v (HA v h))
  have HRC := Lib.hid (fun m v (k1 d1 : Nat) (A B C : Nat) (hL : IsL (G.ap m).W (G.ap m).H (G.ap m).f A B C) (hr : Row v k1 ((G.ap m).W * (G.ap m).H) (G.ap m).f) => rrect_at hL (some ⟨k1, 0, none⟩) d1 v (hr.holds hr.lt) (ap_ok ok m).w1 (ap_ok ok m).h0 (ap_ok ok m).h1)
  have HSH := Lib.hid (fun m v (k1 d1 x y : Nat) (hx : x ≤ 64) (hy : y ≤ 64) (hr : Row v k1 ((G.ap m).W * (G.ap m).H) (G.ap m).f) => shifted_back (G.ap m) (ap_ok ok m) (some ⟨k1, 0, none⟩) d1 x y hx hy v (hr.holds hr.lt))
  have HPT := Lib.hid (fun m v (k1 x y A R : Nat) (hA : 1 ≤ A) (hAW : A ≤ (G.ap m).W) (hR : 1 ≤ R) (hRH : R ≤ (G.ap m).H) (hr : Row v k1 ((G.ap m).W * (G.ap m).H) (fun i => pc (G.ap m).W (G.ap m).H (G.ap m).f (x + i % (G.ap m).W) (y + i / (G.ap m).W))) =>
    (show Calls Try.prog 108 #[.agg #[.int .i64 ((G.ap m).W : Nat), .int .i64 ((G.ap m).H : Nat), .slice (some ⟨k1, 0, none⟩) ((G.ap m).W * (G.ap m).H) ((G.ap m).W * (G.ap m).H)], .int .i64 0, .int .i64 0, .int .i64 (A : Nat), .int .i64 (R : Nat)] v (OkGrid v A R (rec_ (G.ap m) A R x y).f) from by
      have h := rpart_ok (G.ap m).W (G.ap m).H (some ⟨k1, 0, none⟩) ((G.ap m).W * (G.ap m).H) _ 0 0 A R v (hr.holds hr.lt) (ap_ok ok m).w0 (ap_ok ok m).w1 (ap_ok ok m).h0 (ap_ok ok m).h1 hA (by omega) hR (by omega)
      rw [part_rec (G.ap m) A R x y hA hAW] at h
      exact h))
  have HOK := Lib.hid (fun m => ap_ok ok m)
  have HFin := Lib.hid (show ∀ v e, (∃ (F : GD) (k d' a : Nat), e = .returned (.tuple #[.agg #[.int .i64 (F.W : Nat), .int .i64 (F.H : Nat), .slice (some ⟨k, 0, none⟩) (F.W * F.H) d'], .int .i64 (a : Nat), .int .i64 0]) ∧ Row v k (F.W * F.H) F.f ∧ Best (Vm G 16) F a ∧ F.W ≤ 64 ∧ F.H ≤ 64 ∧ Below w.heap.size w v) → LrOut w G e v from fun _ _ h => h)
  generalize hq : LrOut w G = Post at *
  obtain ⟨W, hW⟩ : ∃ W, G.W = W := ⟨_, rfl⟩
  obtain ⟨H, hH⟩ : ∃ H, G.H = H := ⟨_, rfl⟩
  rw [hW, hH] at HAP hx hn ⊢
  clear HA hcs hq hW hH ok
  have X0 := Lib.hid ((Box.new w (W : Nat) (H : Nat) (.slice (some ⟨b, o, none⟩) (W * H) d)).alloc (.cells #[.int .i64 0, .int .i64 0, .slice none 0 0] 24))
  have Y0 := Lib.hid (show Box ((w.alloc (.cells #[.int .i64 (W : Nat), .int .i64 (H : Nat), .slice (some ⟨b, o, none⟩) (W * H) d] 24)).alloc (.cells #[.int .i64 0, .int .i64 0, .slice none 0 0] 24)) (w.heap.size + 1) 0 0 (.slice none 0 0) from by have h := Box.new (w.alloc (.cells #[.int .i64 (W : Nat), .int .i64 (H : Nat), .slice (some ⟨b, o, none⟩) (W * H) d] 24)) 0 0 (.slice none 0 0); rwa [World.size_alloc] at h)
  have LB0 := Lib.hid (show Below w.heap.size w ((w.alloc (.cells #[.int .i64 (W : Nat), .int .i64 (H : Nat), .slice (some ⟨b, o, none⟩) (W * H) d] 24)).alloc (.cells #[.int .i64 0, .int .i64 0, .slice none 0 0] 24)) from blA (blA (Below.refl _ _) (Nat.le_refl _) _) (Nat.le_refl _) _)
  have HC := Lib.hid (fun u => (show Calls Try.prog 103 #[.agg #[.int .i64 (W : Nat), .int .i64 (H : Nat), .slice (some ⟨b, o, none⟩) (W * H) d]] u fun e w' => e = .returned (.int .i64 0) ∧ Below u.heap.size u w' by have h := start_any (W : Nat) (H : Nat) (some ⟨b, o, none⟩) (W * H) d u (by omega); rwa [hx] at h))
  generalize W * H = N at *
  clear hx hn
  go_enter Try.func64, Try.ntmps64
  obtain ⟨q0, q1, q2, q3, q4, q5, q6⟩ := X0.out.all
  go_wp2_with fail
  clear q0 q1 q2 q3 q4 q5 q6
  refine (HC.out _).mono ?_
  rintro e w1 ⟨rfl, hb⟩
  have LB1 := Lib.hid (LB0.out.trans (hb.mono LB0.out.size))
  have X1 := Lib.hid (X0.out.below hb X0.out.lt)
  have Y1 := Lib.hid (Y0.out.below hb Y0.out.lt)
  clear HC hb LB0 X0 Y0
  obtain ⟨g5, hg5⟩ : ∃ g5, w1.heap.size = g5 := ⟨_, rfl⟩
  have hlt5 : w.heap.size + 1 < g5 := by rw [← hg5]; exact Y1.out.lt
  have S0 : Hid (St w (w1.alloc (.cells #[.int .i64 0, .int .i64 0, .slice none 0 0] 24)) (W : Nat) (H : Nat) (.slice (some ⟨b, o, none⟩) N d) g5 (Vm G 0) (.int .i64 (-1))) := Lib.hid (.inl ⟨rfl, fun op K h => absurd h.1 (by omega), ⟨X1.out.alloc _, Y1.out.alloc _, by rw [← hg5]; exact Box.new _ _ _ _, blA LB1.out (Nat.le_refl _) _, hlt5⟩⟩)
  clear X1 Y1 LB1
  go_wp2
  go_loopw [6, 7] (fun q v wr => ∃ m : Nat, m ≤ 16 ∧ v = .int .i64 m ∧ Hid (St w wr (W : Nat) (H : Nat) (.slice (some ⟨b, o, none⟩) N d) g5 (Vm G m) q)) (fun _ v _ => 16 - (intOf v).toNat)
  case atStart => exact ⟨0, by omega, rfl, S0⟩
  case round =>
    obtain ⟨m, hm, rfl, HS⟩ := hrel
    by_cases hlm : m < 16
    · have HG : Hid (Box wr w.heap.size (W : Nat) (H : Nat) (.slice (some ⟨b, o, none⟩) N d) ∧ Below w.heap.size w wr ∧ g5 < wr.heap.size) := Lib.hid (by
        rcases HS.out with ⟨_, _, h⟩ | ⟨_, _, _, _, _, _, _, _, _, _, _, h⟩
        · exact ⟨h.g, h.bel, h.f.lt⟩
        · exact ⟨h.g, h.bel, h.f.lt⟩)
      obtain ⟨q0, q1, q2, q3, q4, q5, q6⟩ := HG.out.1.all
      go_wp2_with fail
      clear q0 q1 q2 q3 q4 q5 q6
      refine (HAP.out m hlm _ HG.out.2.1).mono ?_
      rintro e w2 ⟨kh, dh, rfl, hkh, hrh, hb⟩
      have HS2 := Lib.hid ((HS.out.next hb).next (blA (Below.refl _ _) (Nat.le_refl _) (.cells #[.int .i64 ((G.ap m).W : Nat), .int .i64 ((G.ap m).H : Nat), .slice (some ⟨kh, 0, none⟩) ((G.ap m).W * (G.ap m).H) dh] 24)))
      have hgs := HG.out.2.2
      have hsz := hb.size
      obtain ⟨gh, hgh⟩ : ∃ gh, w2.heap.size = gh := ⟨_, rfl⟩
      have HH : Hid (HB (w2.alloc (.cells #[.int .i64 ((G.ap m).W : Nat), .int .i64 ((G.ap m).H : Nat), .slice (some ⟨kh, 0, none⟩) ((G.ap m).W * (G.ap m).H) dh] 24)) gh kh g5 (G.ap m).W (G.ap m).H dh (G.ap m).f) := Lib.hid ⟨by rw [← hgh]; exact Box.new _ _ _ _, hrh.alloc _, by omega, by omega⟩
      obtain ⟨A, B, C, hLt⟩ := IsL.ex (G.ap m).W (G.ap m).H (G.ap m).f (HOK.out m).w0 (HOK.out m).h0
      have hA0 := hLt.a0
      have r0 := rh_pos (B := B) hLt.a0 hLt.c0
      have hAW := hLt.aw
      have hRH : rh A B C ≤ (G.ap m).H := Nat.le_of_dvd (HOK.out m).h0 (Nat.dvd_of_mod_eq_zero (rh_div hLt (HOK.out m).h0))
      have hw1 := (HOK.out m).w1
      have hh1 := (HOK.out m).h1
      have HRm := Lib.hid (fun v (h : HB v gh kh g5 (G.ap m).W (G.ap m).H dh (G.ap m).f) => HRC.out m v kh dh A B C hLt h.r)
      have HSm := Lib.hid (fun v x y hx hy (h : HB v gh kh g5 (G.ap m).W (G.ap m).H dh (G.ap m).f) => HSH.out m v kh dh x y hx hy h.r)
      have HPm := Lib.hid (fun v k x y => HPT.out m v k x y A (rh A B C) hA0 hAW r0 hRH)
      have HVA := Lib.hid (fun op K => vy_all (G := G) (m := m) hLt op K)
      clear hb hrh hkh HG HS hLt hgs hsz
      generalize rh A B C = R at *
      generalize (G.ap m).W = U at *
      generalize (G.ap m).H = V at *
      generalize (G.ap m).f = hf at *
      obtain ⟨z0, z1, z2, z3, z4, z5, z6⟩ := HH.out.b.all
      go_wp2_with fail
      clear z0 z1 z2 z3 z4 z5 z6
      refine (HRm.out _ HH.out).mono ?_
      rintro e w3 ⟨rfl, hb⟩
      have HS3 := Lib.hid ((HS2.out.next hb).congr (vy_zero G m A R))
      have HH3 := Lib.hid (HH.out.next hb)
      clear hb HS2 HH HRm
      go_wp2
      go_loopw [6, 12] (fun q v wr => ∃ x : Nat, x ≤ A ∧ v = .int .i64 x ∧ Hid (St w wr (W : Nat) (H : Nat) (.slice (some ⟨b, o, none⟩) N d) g5 (Vy G m A R x 0) q) ∧ Hid (HB wr gh kh g5 U V dh hf)) (fun _ v _ => A - (intOf v).toNat)
      case atStart => exact ⟨0, by omega, rfl, HS3, HH3⟩
      case round =>
        obtain ⟨x, hx, rfl, HS, HH⟩ := hrel
        by_cases hlx : x < A
        · go_wp2
          go_loopw [6, 13] (fun q v wr => ∃ y : Nat, y ≤ R ∧ v = .int .i64 y ∧ Hid (St w wr (W : Nat) (H : Nat) (.slice (some ⟨b, o, none⟩) N d) g5 (Vy G m A R x y) q) ∧ Hid (HB wr gh kh g5 U V dh hf)) (fun _ v _ => R - (intOf v).toNat)
          case atStart => exact ⟨0, by omega, rfl, HS, HH⟩
          case round =>
            obtain ⟨y, hy, rfl, HS, HH⟩ := hrel
            by_cases hly : y < R
            · have e1 : IntKind.i64.wrap (-(x : Int)) = -(x : Int) := IntWalk.i64_in _ (by omega)
              have e2 : IntKind.i64.wrap (-(y : Int)) = -(y : Int) := IntWalk.i64_in _ (by omega)
              obtain ⟨z0, z1, z2, z3, z4, z5, z6⟩ := HH.out.b.all
              go_wp2_with fail
              clear z0 z1 z2 z3 z4 z5 z6
              refine (HSm.out _ x y (by omega) (by omega) HH.out).mono ?_
              rintro e w4 ⟨k4, rfl, hk4, hr4, hb⟩
              have HS4 := Lib.hid (HS.out.next hb)
              have HH4 := Lib.hid (HH.out.next hb)
              have HPq := Lib.hid (HPm.out w4 k4 x y hr4)
              clear hb hr4 hk4 HS HH e1 e2
              go_wp2_with fail
              refine HPq.out.mono ?_
              rintro e w5 ⟨k5, rfl, hk5, hr5, hb⟩
              obtain ⟨K0, hK0⟩ : ∃ K0, rec_ (G.ap m) A R x y = K0 := ⟨_, rfl⟩
              have hKW : K0.W = A := by rw [← hK0]; rfl
              have hKH : K0.H = R := by rw [← hK0]; rfl
              have HVS := Lib.hid (show ∀ op K, Vy G m A R x (y + 1) op K ↔ Vy G m A R x y op K ∨ (op = m ∧ K = K0) from hK0 ▸ vy_succ G m A R x y)
              rw [hK0] at hr5
              obtain ⟨g14, hg14⟩ : ∃ g14, w5.heap.size = g14 := ⟨_, rfl⟩
              have hk5' : k5 < g14 := by rw [← hg14]; exact hr5.lt
              have HS5 := Lib.hid ((HS4.out.next hb).next (blA (Below.refl _ _) (Nat.le_refl _) (.cells #[.int .i64 (A : Nat), .int .i64 (R : Nat), .slice (some ⟨k5, 0, none⟩) (A * R) (A * R)] 24)))
              have HH5 := Lib.hid ((HH4.out.next hb).next (blA (Below.refl _ _) (Nat.le_refl _) (.cells #[.int .i64 (A : Nat), .int .i64 (R : Nat), .slice (some ⟨k5, 0, none⟩) (A * R) (A * R)] 24)))
              have HR5 := Lib.hid (hr5.alloc (.cells #[.int .i64 (A : Nat), .int .i64 (R : Nat), .slice (some ⟨k5, 0, none⟩) (A * R) (A * R)] 24))
              have HX5 : Hid (Box (w5.alloc (.cells #[.int .i64 (A : Nat), .int .i64 (R : Nat), .slice (some ⟨k5, 0, none⟩) (A * R) (A * R)] 24)) g14 (A : Nat) (R : Nat) (.slice (some ⟨k5, 0, none⟩) (A * R) (A * R))) := Lib.hid (by rw [← hg14]; exact Box.new _ _ _ _)
              have hs5 : g5 < k5 := by
                rcases HS4.out with ⟨_, _, h⟩ | ⟨_, _, _, _, _, _, _, _, _, _, _, h⟩
                · exact Nat.lt_of_lt_of_le h.f.lt hk5
                · exact Nat.lt_of_lt_of_le h.f.lt hk5
              clear hb hr5 hk5 HS4 HH4 HPq hK0
              rcases HS5.out with ⟨rfl, hno, hl6⟩ | ⟨F, a, k, d', rfl, hbest, hf1, hf2, hrow, hne, hkr, hl6⟩
              · have HL6 := Lib.hid hl6
                have HB0 : Hid (Best (Vy G m A R x (y + 1)) K0 m) := Lib.hid (Best.new (R := fun K => K = K0) (fun op K => (HVS.out op K).trans ⟨fun h => h.elim (fun h => absurd h (hno op K)) id, .inr⟩) rfl (fun K e h => by rw [e] at h; exact h.irr))
                clear hno hl6 HS5
                obtain ⟨z0, z1, z2, z3, z4, z5, z6⟩ := HX5.out.all
                obtain ⟨y0, y1, y2, y3, y4, y5, y6⟩ := HL6.out.f.all
                go_wp2
                refine ⟨⟨y + 1, by omega, by go_num, Lib.hid (.inr ⟨K0, m, k5, A * R, rfl, HB0.out, by omega, by omega, ?_, by omega, by omega, ?_⟩), Lib.hid (HH5.out.far _ _ _)⟩, by simp [intOf]; omega⟩
                · rw [hKW, hKH]
                  exact ((HR5.out.far (p := ⟨g5, 0, none⟩) (by simp; omega) _).far (p := ⟨g5, 1, none⟩) (by simp; omega) _).far (p := ⟨g5, 2, none⟩) (by simp; omega) _
                · rw [hKW, hKH]
                  exact HL6.out.put _ _ _
              · have HL6 := Lib.hid hl6
                have HRF := Lib.hid hrow
                have HBF := Lib.hid hbest
                have hop : ∀ op K, Vy G m A R x y op K → op ≤ m := fun op K h => vy_le h
                have HOP := Lib.hid hop
                have HK5 := Lib.hid (show Row _ k5 (K0.W * K0.H) K0.f from by rw [hKW, hKH]; exact HR5.out)
                have HBC := Lib.hid (show Calls Try.prog 68 #[.agg #[.int .i64 (A : Nat), .int .i64 (R : Nat), .slice (some ⟨k5, 0, none⟩) (A * R) (A * R)], .agg #[.int .i64 (F.W : Nat), .int .i64 (F.H : Nat), .slice (some ⟨k, 0, none⟩) (F.W * F.H) d']] (w5.alloc (.cells #[.int .i64 (A : Nat), .int .i64 (R : Nat), .slice (some ⟨k5, 0, none⟩) (A * R) (A * R)] 24)) fun e w' => ∃ t : Bool, e = .returned (.bool t) ∧ (t = true ↔ K0.lt F) ∧ Below (w5.alloc (.cells #[.int .i64 (A : Nat), .int .i64 (R : Nat), .slice (some ⟨k5, 0, none⟩) (A * R) (A * R)] 24)).heap.size (w5.alloc (.cells #[.int .i64 (A : Nat), .int .i64 (R : Nat), .slice (some ⟨k5, 0, none⟩) (A * R) (A * R)] 24)) w' from by
                  have h := before_any K0 F k5 (A * R) k d' (w5.alloc (.cells #[.int .i64 (A : Nat), .int .i64 (R : Nat), .slice (some ⟨k5, 0, none⟩) (A * R) (A * R)] 24)) (by rw [hKW, hKH]; have := Nat.mul_le_mul (show A ≤ 64 by omega) (show R ≤ 64 by omega); omega) HK5.out hrow
                  rwa [hKW, hKH] at h)
                clear hbest hop hl6 hrow HS5 HK5
                obtain ⟨z0, z1, z2, z3, z4, z5, z6⟩ := HX5.out.all
                obtain ⟨y0, y1, y2, y3, y4, y5, y6⟩ := HL6.out.f.all
                go_wp2_with fail
                clear z0 z1 z2 z3 z4 z5 z6 y0 y1 y2 y3 y4 y5 y6
                refine HBC.out.mono ?_
                rintro e w6 ⟨t, rfl, ht, hb⟩
                have HL7 := Lib.hid (HL6.out.next hb)
                have HX7 := Lib.hid (HX5.out.below hb HX5.out.lt)
                have HH7 := Lib.hid (HH5.out.next hb)
                have HR7 := Lib.hid (HRF.out.below hb HRF.out.lt)
                have HK7 := Lib.hid (HR5.out.below hb HR5.out.lt)
                have HT := Lib.hid ht
                clear hb HL6 HX5 HH5 HRF HR5 HBC ht
                cases t
                · go_wp2
                  exact ⟨⟨y + 1, by omega, by go_num, Lib.hid (.inr ⟨F, a, k, d', rfl, HBF.out.no (R := fun K => K = K0) HVS.out HOP.out (fun K e h => by rw [e] at h; exact h.irr) (fun h => by have := HT.out.2 h; cases this), hf1, hf2, HR7.out, hne, hkr, HL7.out⟩), HH7⟩, by simp [intOf]; omega⟩
                · have HLT := Lib.hid (HT.out.1 rfl)
                  obtain ⟨z0, z1, z2, z3, z4, z5, z6⟩ := HX7.out.all
                  obtain ⟨y0, y1, y2, y3, y4, y5, y6⟩ := HL7.out.f.all
                  go_wp2
                  refine ⟨⟨y + 1, by omega, by go_num, Lib.hid (.inr ⟨K0, m, k5, A * R, rfl, HBF.out.yes (R := fun K => K = K0) HVS.out rfl (fun K e h => by rw [e] at h; exact h.irr) HLT.out, by omega, by omega, ?_, by omega, by omega, ?_⟩), Lib.hid (HH7.out.far _ _ _)⟩, by simp [intOf]; omega⟩
                  · rw [hKW, hKH]
                    exact ((HK7.out.far (p := ⟨g5, 0, none⟩) (by simp; omega) _).far (p := ⟨g5, 1, none⟩) (by simp; omega) _).far (p := ⟨g5, 2, none⟩) (by simp; omega) _
                  · rw [hKW, hKH]
                    exact HL7.out.put _ _ _
            · have e : y = R := by omega
              subst e
              go_wp2
              exact ⟨⟨x + 1, by omega, by go_num, Lib.hid (HS.out.congr (vy_row G m A y x)), HH⟩, by simp [intOf]; omega⟩
        · have e : x = A := by omega
          subst e
          go_wp2
          exact ⟨⟨m + 1, by omega, by go_num, Lib.hid (HS.out.congr HVA.out)⟩, by simp [intOf]; omega⟩
    · have e : m = 16 := by omega
      subst e
      rcases HS.out with ⟨_, hno, _⟩ | ⟨F, a, k, d', rfl, hbest, hf1, hf2, hrow, hne, hkr, hl6⟩
      · exfalso
        obtain ⟨A, B, C, hLt⟩ := IsL.ex (G.ap 0).W (G.ap 0).H (G.ap 0).f (HOK.out 0).w0 (HOK.out 0).h0
        exact hno 0 _ ⟨by omega, (rcs_iff hLt).2 ⟨0, 0, hLt.a0, rh_pos hLt.a0 hLt.c0, rfl⟩⟩
      · have HL6 := Lib.hid hl6
        have HRF := Lib.hid hrow
        have HBF := Lib.hid hbest
        clear hl6 hrow hbest HS
        obtain ⟨y0, y1, y2, y3, y4, y5, y6⟩ := HL6.out.f.all
        obtain ⟨r0, r1, r2, r3, r4, r5, r6⟩ := HL6.out.r.all
        go_wp2
        have Z := box_set3 HL6.out.r (F.W : Nat) (F.H : Nat) (.slice (some ⟨k, 0, none⟩) (F.W * F.H) d')
        obtain ⟨z0, z1, z2, _⟩ := Z.all
        refine bodyPost_ret (v := .tuple #[.agg #[.int .i64 (F.W : Nat), .int .i64 (F.H : Nat), .slice (some ⟨k, 0, none⟩) (F.W * F.H) d'], .int .i64 (a : Nat), .int .i64 0]) (by simp [results, Try.results64, go_sem, z0, z1, z2]) rfl ?_
        refine HFin.out _ _ ⟨F, k, d', a, rfl, ?_, HBF.out, hf1, hf2, ((HL6.out.bel.setCell (Nat.le_succ _) _).setCell (Nat.le_succ _) _).setCell (Nat.le_succ _) _⟩
        exact ((HRF.out.far (p := ⟨w.heap.size + 1, 0, none⟩) (by simp; omega) _).far (p := ⟨w.heap.size + 1, 1, none⟩) (by simp; omega) _).far (p := ⟨w.heap.size + 1, 2, none⟩) (by simp; omega) _
end Go.Proofs.Ytjbofdgdcnfmoaa
