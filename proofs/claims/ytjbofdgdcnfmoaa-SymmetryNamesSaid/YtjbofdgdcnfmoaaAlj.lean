/- Alike of both sides: the operations by which two grids are alike. -/
import Derived.Test.YtjbofdgdcnfmoaaAlk
import Derived.Test.YtjbofdgdcnfmoaaIl
namespace Go.Proofs.Ytjbofdgdcnfmoaa
open Go.RowKit
set_option maxRecDepth 100000
set_option linter.unusedVariables false
set_option linter.unusedSimpArgs false

/-- The numbers below k that are chosen. -/
def ofl (T : Nat → Bool) (k : Nat) : List Nat := (List.range k).filter T
theorem ofl_yes {T : Nat → Bool} {k : Nat} (h : T k = true) : ofl T (k + 1) = ofl T k ++ [k] := by
  unfold ofl
  rw [List.range_succ, List.filter_append]
  simp [h]
theorem ofl_no {T : Nat → Bool} {k : Nat} (h : T k = false) : ofl T (k + 1) = ofl T k := by
  unfold ofl
  rw [List.range_succ, List.filter_append]
  simp [h]
theorem ofl_len (T : Nat → Bool) (k : Nat) : (ofl T k).length ≤ k := by
  have h := List.length_filter_le T (List.range k)
  rwa [List.length_range] at h
def lf (l : List Nat) (i : Nat) : Int := ((l[i]?.getD 0 : Nat) : Int)
theorem lf_app {l r : List Nat} {i : Nat} (h : i < l.length) : lf l i = lf (l ++ r) i := by
  unfold lf
  rw [List.getElem?_append_left h]
theorem lf_last (l : List Nat) (k : Nat) : lf (l ++ [k]) l.length = (k : Int) := by
  unfold lf
  simp
/-- A list came back, and a number. -/
def LOut (w : World) (n : Nat) (f : Nat → Int) (z : Int) (e : Ending) (w' : World) : Prop :=
  ∃ D c, e = .returned (.tuple #[.slice D n c, .int .i64 z]) ∧ (0 < n → ∃ k, D = some ⟨k, 0, none⟩ ∧ w.heap.size ≤ k ∧ L2.Row w' k n f) ∧ Below w.heap.size w w'
/-- Two grids lie in variables. -/
structure A2 (w wr : World) (W H : Int) (sa : Value) (X Y : Int) (sb : Value) : Prop where
  g : Box wr w.heap.size W H sa
  k : Box wr (w.heap.size + 1) X Y sb
  bel : Below w.heap.size w wr
theorem A2.next {w wr w' : World} {W H X Y : Int} {sa sb : Value} (h : A2 w wr W H sa X Y sb) (hb : Below wr.heap.size wr w') : A2 w w' W H sa X Y sb :=
  ⟨h.g.below hb h.g.lt, h.k.below hb h.k.lt, h.bel.trans (hb.mono h.bel.size)⟩
theorem A2.new (w : World) (W H X Y : Int) (sa sb : Value) : A2 w ((w.alloc (.cells #[.int .i64 W, .int .i64 H, sa] 24)).alloc (.cells #[.int .i64 X, .int .i64 Y, sb] 24)) W H sa X Y sb := by
  have h := Box.new (w.alloc (.cells #[.int .i64 W, .int .i64 H, sa] 24)) X Y sb
  rw [World.size_alloc] at h
  exact ⟨(Box.new _ _ _ _).alloc _, h, blA (blA (Below.refl _ _) (Nat.le_refl _) _) (Nat.le_refl _) _⟩
theorem A2.al {w wr : World} {W H X Y : Int} {sa sb : Value} (h : A2 w wr W H sa X Y sb) (o : Obj) : A2 w (wr.alloc o) W H sa X Y sb := ⟨h.g.alloc o, h.k.alloc o, blA h.bel (Nat.le_refl _) o⟩
theorem A2.six {w wr : World} {W H X Y : Int} {sa sb : Value} (h : A2 w wr W H sa X Y sb) :
    wr.cell? ⟨w.heap.size, 0, none⟩ = some (.int .i64 W) ∧ wr.cell? ⟨w.heap.size, 1, none⟩ = some (.int .i64 H) ∧ wr.cell? ⟨w.heap.size, 2, none⟩ = some sa ∧
    wr.cell? ⟨w.heap.size + 1, 0, none⟩ = some (.int .i64 X) ∧ wr.cell? ⟨w.heap.size + 1, 1, none⟩ = some (.int .i64 Y) ∧ wr.cell? ⟨w.heap.size + 1, 2, none⟩ = some sb := ⟨h.g.c0, h.g.c1, h.g.c2, h.k.c0, h.k.c1, h.k.c2⟩
theorem bx6 (w : World) (W H X Y : Int) (sa sb : Value) : Bx2 (((w.alloc (.cells #[.int .i64 W, .int .i64 H, sa] 24)).alloc (.cells #[.int .i64 X, .int .i64 Y, sb] 24)).alloc (.cells #[.int .i64 W, .int .i64 H, sa, .int .i64 X, .int .i64 Y, sb] 24)) (w.heap.size + 1 + 1) W H sa X Y sb := by
  have h := World.alloc_heap_new ((w.alloc (.cells #[.int .i64 W, .int .i64 H, sa] 24)).alloc (.cells #[.int .i64 X, .int .i64 Y, sb] 24)) (.cells #[.int .i64 W, .int .i64 H, sa, .int .i64 X, .int .i64 Y, sb] 24)
  rwa [World.size_alloc, World.size_alloc] at h
theorem A2.step {w wr w' : World} {W H X Y : Int} {sa sb : Value} (h : A2 w wr W H sa X Y sb) (hb : Below (w.heap.size + 2) wr w') : A2 w w' W H sa X Y sb :=
  ⟨h.g.below hb (by omega), h.k.below hb (by omega), h.bel.trans (hb.mono (by omega))⟩
/-- A list came back. -/
def LRet (w : World) (n : Nat) (f : Nat → Int) (e : Ending) (w' : World) : Prop :=
  ∃ D c, e = .returned (.slice D n c) ∧ (0 < n → ∃ k, D = some ⟨k, 0, none⟩ ∧ w.heap.size ≤ k ∧ L2.Row w' k n f) ∧ Below w.heap.size w w'
set_option maxHeartbeats 1600000 in
theorem palk_ok {P : Nat → Nat → Prop} (W H b o d : Nat) (X Y : Int) (D : Option Addr) (n d2 : Nat) (U V : Nat → Nat) (h : Nat → Nat → Bool) (T : Nat → Bool) (w : World) (hn : W * H ≤ 4200) (hn2 : n ≤ 4200) (hx : bchk (W : Nat) (H : Nat) (W * H) X Y n = 0)
    (HAP : ∀ m, m < 16 → ∀ u, Below w.heap.size w u → Calls Try.prog 94 #[.agg #[.int .i64 (W : Nat), .int .i64 (H : Nat), .slice (some ⟨b, o, none⟩) (W * H) d], .int .i64 (m : Nat)] u fun e u' => ∃ k d', e = .returned (.agg #[.int .i64 (U m : Nat), .int .i64 (V m : Nat), .slice (some ⟨k, 0, none⟩) (U m * V m) d']) ∧ P m d' ∧ u.heap.size ≤ k ∧ Row u' k (U m * V m) (h m) ∧ Below u.heap.size u u')
    (HOF : ∀ m, m < 16 → ∃ a' b' : Int, ∀ u k d', Below w.heap.size w u → P m d' → Row u k (U m * V m) (h m) → Calls Try.prog 25 #[(.agg #[.int .i64 (U m : Nat), .int .i64 (V m : Nat), .slice (some ⟨k, 0, none⟩) (U m * V m) d']), .agg #[.int .i64 X, .int .i64 Y, .slice D n d2]] u fun e u' => e = .returned (.tuple #[.agg #[.int .i64 a', .int .i64 b'], .int .i64 (if T m = true then 0 else 6)]) ∧ Below u.heap.size u u') :
    Calls Try.prog 50 #[.agg #[.int .i64 (W : Nat), .int .i64 (H : Nat), .slice (some ⟨b, o, none⟩) (W * H) d], .agg #[.int .i64 X, .int .i64 Y, .slice D n d2]] w (LOut w (ofl T 16).length (lf (ofl T 16)) 0) := by
  have HAP := Lib.hid HAP
  have HOF := Lib.hid HOF
  have X0 := Lib.hid (A2.new w (W : Nat) (H : Nat) X Y (.slice (some ⟨b, o, none⟩) (W * H) d) (.slice D n d2))
  have HC := Lib.hid (fun u kk (hb : Bx2 u kk (W : Nat) (H : Nat) (.slice (some ⟨b, o, none⟩) (W * H) d) X Y (.slice D n d2)) => (show Calls Try.prog 92 #[.slice (some ⟨kk, 0, none⟩) 2 2] u fun e w' => e = .returned (.int .i64 0) ∧ Below u.heap.size u w' by have h := check2_any (W : Nat) (H : Nat) (some ⟨b, o, none⟩) (W * H) d X Y D n d2 kk u hn hn2 hb; rwa [hx] at h))
  have B0 := Lib.hid (bx6 w (W : Nat) (H : Nat) X Y (.slice (some ⟨b, o, none⟩) (W * H) d) (.slice D n d2))
  have Xc := Lib.hid (X0.out.al (.cells #[.int .i64 (W : Nat), .int .i64 (H : Nat), .slice (some ⟨b, o, none⟩) (W * H) d, .int .i64 X, .int .i64 Y, .slice D n d2] 24))
  clear hx
  go_enter Try.func50, Try.ntmps50
  obtain ⟨q0, q1, q2, q3, q4, q5⟩ := X0.out.six
  go_wp2_with fail
  clear q0 q1 q2 q3 q4 q5 X0
  refine (HC.out _ _ B0.out).mono ?_
  rintro e w1 ⟨rfl, hb⟩
  have X1 := Lib.hid (Xc.out.next hb)
  clear hb Xc B0 HC
  go_wp2
  go_loopw [7, 18] (fun l i wr => ∃ m : Nat, m ≤ 16 ∧ i = .int .i64 m ∧ Hid (L2.Own wr (w.heap.size + 2) l (ofl T m).length (lf (ofl T m))) ∧ Hid (A2 w wr (W : Nat) (H : Nat) (.slice (some ⟨b, o, none⟩) (W * H) d) X Y (.slice D n d2))) (fun _ i _ => 16 - (intOf i).toNat)
  case atStart => exact ⟨0, by omega, rfl, Lib.hid (L2.Own.nil _ _ _), X1⟩
  case round =>
    obtain ⟨m, hm, rfl, HO, HX⟩ := hrel
    by_cases hlm : m < 16
    · obtain ⟨a', b', hof⟩ := HOF.out m hlm
      have hap := HAP.out m hlm
      obtain ⟨z, hz⟩ : ∃ z : Int, (if T m = true then (0 : Int) else 6) = z := ⟨_, rfl⟩
      rw [hz] at hof
      have HZ := Lib.hid hz
      generalize P m = Pm at *
      generalize U m = Um at *
      generalize V m = Vm at *
      generalize h m = hm0 at *
      have HBF := Lib.hid hof
      have HBA := Lib.hid hap
      clear hof hap hz
      go_upto_region 8 with fail
      go_cut [9, 10] (fun p q wx => ∃ g, p = .pointer (some ⟨g, 0, none⟩) ∧ q = .int .i64 z ∧ Below wr.heap.size wr wx)
      case first =>
        have HS := Lib.hid (fun u (h : Below wr.heap.size wr u) => (HX.out.next h).six)
        have HA := Lib.hid (fun u (h : Below wr.heap.size wr u) => HBA.out u (HX.out.next h).bel)
        have HO := Lib.hid (fun u k d' (h : Below wr.heap.size wr u) => HBF.out u k d' (HX.out.next h).bel)
        obtain ⟨q0, q1, q2, q3, q4, q5⟩ := HX.out.six
        go_region_held3 (fun w' => w'.cell? ⟨w.heap.size, 0, none⟩ = some (.int .i64 (W : Nat)) ∧ w'.cell? ⟨w.heap.size, 1, none⟩ = some (.int .i64 (H : Nat)) ∧ w'.cell? ⟨w.heap.size, 2, none⟩ = some (.slice (some ⟨b, o, none⟩) (W * H) d) ∧ w'.cell? ⟨w.heap.size + 1, 0, none⟩ = some (.int .i64 X) ∧ w'.cell? ⟨w.heap.size + 1, 1, none⟩ = some (.int .i64 Y) ∧ w'.cell? ⟨w.heap.size + 1, 2, none⟩ = some (.slice D n d2))
          (exact HS.out _ (by (repeat' (first | assumption | exact Below.refl _ _ | refine Below.drew ?_ | refine blA ?_ (Nat.le_refl _) _ | refine Below.setCell ?_ (by first | exact Nat.le_refl _ | exact hx1.size) _))))
          (first
                | (go_at_call 94
                   with_reducible refine Calls.mono (HA.out _ (by (repeat' (first | assumption | exact Below.refl _ _ | refine Below.drew ?_ | refine blA ?_ (Nat.le_refl _) _)))) ?_
                   rintro e u1 ⟨k, d', rfl, hd1, hk1, hrow1, hb1⟩
                   have hx1 : Below wr.heap.size wr u1 := blT (by (repeat' (first | assumption | exact Below.refl _ _ | refine Below.drew ?_ | refine blA ?_ (Nat.le_refl _) _))) (Nat.le_refl _) hb1
                   have hR1 := Lib.hid hrow1
                   have hP1 := Lib.hid hd1
                   try (have kp1 : Pt u1 wr.heap.size 0 0 := ptk hb1 (by (first | assumption | exact Pt.new _ _ _ | exact Pt.alloc' (by assumption) _)); have hp1 := Lib.hid kp1; have hl1 : wr.heap.size < u1.heap.size := kp1.lt; obtain ⟨g0, g1, g2, g3⟩ := kp1.all)
                   clear hrow1 hd1)
                | (go_at_call 25
                   with_reducible refine Calls.mono (HO.out _ k d' (by (repeat' (first | assumption | exact Below.refl _ _ | refine Below.drew ?_ | refine blA ?_ (Nat.le_refl _) _))) hP1.out (by first | exact hR1.out | exact hR1.out.alloc _)) ?_
                   rintro e u2 ⟨rfl, hb2⟩
                   have hx2 : Below wr.heap.size wr u2 := blT (by (repeat' (first | assumption | exact Below.refl _ _ | refine Below.drew ?_ | refine blA ?_ (Nat.le_refl _) _))) (Nat.le_refl _) hb2
                   try (have kp2 : Pt u2 wr.heap.size 0 0 := hp1.out.below hb2 (by first | exact hl1 | (simp; omega)); have hp2 := Lib.hid kp2; obtain ⟨g4, g5, g6, g7⟩ := kp2.all)
                   try (have kp3 : Pt u2 u1.heap.size 0 0 := ptk hb2 (by (first | assumption | exact Pt.new _ _ _ | exact Pt.alloc' (by assumption) _)); have hp3 := Lib.hid kp3; obtain ⟨g8, g9, g10, g11⟩ := kp3.all)))
        all_goals
          go_wp2_with fail
          go_meet
          first
            | exact ⟨_, rfl, rfl, blA hx2 (Nat.le_refl _) _⟩
            | exact ⟨_, rfl, rfl, (hx2.setCell (Nat.le_refl _) _).setCell (Nat.le_refl _) _⟩
            | exact ⟨_, rfl, rfl, (hx2.setCell hx1.size _).setCell hx1.size _⟩
      case rest =>
        obtain ⟨g, rfl, rfl, hb⟩ := hcut
        have HX2 := Lib.hid (HX.out.next hb)
        have HO2 := Lib.hid (HO.out.below hb)
        have hlen := ofl_len T m
        clear hb HBF HBA HX HO
        have hsz : w.heap.size + 2 ≤ wc.heap.size := HX2.out.k.lt
        cases hT : T m
        · have hz : z = 6 := by rw [← HZ.out, hT]; rfl
          have E := Lib.hid (ofl_no hT)
          clear hT HZ
          subst hz
          go_wp2
          exact ⟨⟨m + 1, by omega, by go_num, by rw [E.out]; exact HO2, HX2⟩, by simp [intOf]; omega⟩
        · have hz : z = 0 := by rw [← HZ.out, hT]; rfl
          have E := Lib.hid (ofl_yes hT)
          have HF := Lib.hid (HO2.out.congr (fun i hi => lf_app (r := [m]) hi))
          have HY := Lib.hid (lf_last (ofl T m) m)
          have EL := Lib.hid (show (ofl T (m + 1)).length = (ofl T m).length + 1 by rw [E.out, List.length_append]; rfl)
          clear hT HZ HO2
          subst hz
          go_wp2_with (at_builtin; refine L2.app1 _ rfl _ _ (by rfl) (w.heap.size + 2) (by rfl) HF.out (m : Int) (by rfl) HY.out (by omega) hsz ?_; intro v' w5 hown5 hb5; have HO5 := Lib.hid hown5; have HB5 := Lib.hid hb5; clear hown5 hb5)
          exact ⟨⟨m + 1, by omega, by go_num, by rw [EL.out, E.out]; exact HO5, Lib.hid (A2.step HX2.out HB5.out)⟩, by simp [intOf]; omega⟩
    · have e : m = 16 := by omega
      subst e
      obtain ⟨A', c', rfl, h1, h2⟩ := HO.out.out
      have HF : Hid (LOut w (ofl T 16).length (lf (ofl T 16)) 0 (.returned (.tuple #[.slice A' (ofl T 16).length c', .int .i64 0])) wr) := Lib.hid ⟨A', c', rfl, fun hn => (by obtain ⟨k, h3, h4, h5⟩ := h2 hn; exact ⟨k, h3, by omega, h5⟩), HX.out.bel⟩
      clear h1 h2
      generalize (ofl T 16).length = N at *
      go_wp2
      go_ret2
      exact HF.out
set_option maxHeartbeats 1600000 in
theorem ralk_ok {P : Nat → Nat → Prop} (W H b o d : Nat) (X Y : Int) (D : Option Addr) (n d2 : Nat) (U V : Nat → Nat) (h : Nat → Nat → Bool) (T : Nat → Bool) (w : World)
    (HAP : ∀ m, m < 16 → ∀ u, Below w.heap.size w u → Calls Try.prog 104 #[.agg #[.int .i64 (W : Nat), .int .i64 (H : Nat), .slice (some ⟨b, o, none⟩) (W * H) d], .int .i64 (m : Nat)] u fun e u' => ∃ k d', e = .returned (.agg #[.int .i64 (U m : Nat), .int .i64 (V m : Nat), .slice (some ⟨k, 0, none⟩) (U m * V m) d']) ∧ P m d' ∧ u.heap.size ≤ k ∧ Row u' k (U m * V m) (h m) ∧ Below u.heap.size u u')
    (HOF : ∀ m, m < 16 → ∃ a' b' : Int, ∀ u k d', Below w.heap.size w u → P m d' → Row u k (U m * V m) (h m) → Calls Try.prog 38 #[(.agg #[.int .i64 (U m : Nat), .int .i64 (V m : Nat), .slice (some ⟨k, 0, none⟩) (U m * V m) d']), .agg #[.int .i64 X, .int .i64 Y, .slice D n d2]] u fun e u' => e = .returned (.tuple #[.agg #[.int .i64 a', .int .i64 b'], .int .i64 (if T m = true then 0 else 6)]) ∧ Below u.heap.size u u') :
    Calls Try.prog 106 #[.agg #[.int .i64 (W : Nat), .int .i64 (H : Nat), .slice (some ⟨b, o, none⟩) (W * H) d], .agg #[.int .i64 X, .int .i64 Y, .slice D n d2]] w (LRet w (ofl T 16).length (lf (ofl T 16))) := by
  have HAP := Lib.hid HAP
  have HOF := Lib.hid HOF
  have X0 := Lib.hid (A2.new w (W : Nat) (H : Nat) X Y (.slice (some ⟨b, o, none⟩) (W * H) d) (.slice D n d2))
  go_enter Try.func106, Try.ntmps106
  go_wp2
  go_loopw [5, 6] (fun l i wr => ∃ m : Nat, m ≤ 16 ∧ i = .int .i64 m ∧ Hid (L2.Own wr (w.heap.size + 2) l (ofl T m).length (lf (ofl T m))) ∧ Hid (A2 w wr (W : Nat) (H : Nat) (.slice (some ⟨b, o, none⟩) (W * H) d) X Y (.slice D n d2))) (fun _ i _ => 16 - (intOf i).toNat)
  case atStart => exact ⟨0, by omega, rfl, Lib.hid (L2.Own.nil _ _ _), X0⟩
  case round =>
    obtain ⟨m, hm, rfl, HO, HX⟩ := hrel
    by_cases hlm : m < 16
    · obtain ⟨a', b', hof⟩ := HOF.out m hlm
      have hap := HAP.out m hlm
      obtain ⟨z, hz⟩ : ∃ z : Int, (if T m = true then (0 : Int) else 6) = z := ⟨_, rfl⟩
      rw [hz] at hof
      have HZ := Lib.hid hz
      generalize P m = Pm at *
      generalize U m = Um at *
      generalize V m = Vm at *
      generalize h m = hm0 at *
      have HBF := Lib.hid hof
      have HBA := Lib.hid hap
      clear hof hap hz
      go_upto_region 5 with fail
      go_cut [7, 8] (fun p q wx => ∃ g, p = .pointer (some ⟨g, 0, none⟩) ∧ q = .int .i64 z ∧ Below wr.heap.size wr wx)
      case first =>
        have HS := Lib.hid (fun u (h : Below wr.heap.size wr u) => (HX.out.next h).six)
        have HA := Lib.hid (fun u (h : Below wr.heap.size wr u) => HBA.out u (HX.out.next h).bel)
        have HO := Lib.hid (fun u k d' (h : Below wr.heap.size wr u) => HBF.out u k d' (HX.out.next h).bel)
        obtain ⟨q0, q1, q2, q3, q4, q5⟩ := HX.out.six
        go_region_held3 (fun w' => w'.cell? ⟨w.heap.size, 0, none⟩ = some (.int .i64 (W : Nat)) ∧ w'.cell? ⟨w.heap.size, 1, none⟩ = some (.int .i64 (H : Nat)) ∧ w'.cell? ⟨w.heap.size, 2, none⟩ = some (.slice (some ⟨b, o, none⟩) (W * H) d) ∧ w'.cell? ⟨w.heap.size + 1, 0, none⟩ = some (.int .i64 X) ∧ w'.cell? ⟨w.heap.size + 1, 1, none⟩ = some (.int .i64 Y) ∧ w'.cell? ⟨w.heap.size + 1, 2, none⟩ = some (.slice D n d2))
          (exact HS.out _ (by (repeat' (first | assumption | exact Below.refl _ _ | refine Below.drew ?_ | refine blA ?_ (Nat.le_refl _) _ | refine Below.setCell ?_ (by first | exact Nat.le_refl _ | exact hx1.size) _))))
          (first
                | (go_at_call 104
                   with_reducible refine Calls.mono (HA.out _ (by (repeat' (first | assumption | exact Below.refl _ _ | refine Below.drew ?_ | refine blA ?_ (Nat.le_refl _) _)))) ?_
                   rintro e u1 ⟨k, d', rfl, hd1, hk1, hrow1, hb1⟩
                   have hx1 : Below wr.heap.size wr u1 := blT (by (repeat' (first | assumption | exact Below.refl _ _ | refine Below.drew ?_ | refine blA ?_ (Nat.le_refl _) _))) (Nat.le_refl _) hb1
                   have hR1 := Lib.hid hrow1
                   have hP1 := Lib.hid hd1
                   try (have kp1 : Pt u1 wr.heap.size 0 0 := ptk hb1 (by (first | assumption | exact Pt.new _ _ _ | exact Pt.alloc' (by assumption) _)); have hp1 := Lib.hid kp1; have hl1 : wr.heap.size < u1.heap.size := kp1.lt; obtain ⟨g0, g1, g2, g3⟩ := kp1.all)
                   clear hrow1 hd1)
                | (go_at_call 38
                   with_reducible refine Calls.mono (HO.out _ k d' (by (repeat' (first | assumption | exact Below.refl _ _ | refine Below.drew ?_ | refine blA ?_ (Nat.le_refl _) _))) hP1.out (by first | exact hR1.out | exact hR1.out.alloc _)) ?_
                   rintro e u2 ⟨rfl, hb2⟩
                   have hx2 : Below wr.heap.size wr u2 := blT (by (repeat' (first | assumption | exact Below.refl _ _ | refine Below.drew ?_ | refine blA ?_ (Nat.le_refl _) _))) (Nat.le_refl _) hb2
                   try (have kp2 : Pt u2 wr.heap.size 0 0 := hp1.out.below hb2 (by first | exact hl1 | (simp; omega)); have hp2 := Lib.hid kp2; obtain ⟨g4, g5, g6, g7⟩ := kp2.all)
                   try (have kp3 : Pt u2 u1.heap.size 0 0 := ptk hb2 (by (first | assumption | exact Pt.new _ _ _ | exact Pt.alloc' (by assumption) _)); have hp3 := Lib.hid kp3; obtain ⟨g8, g9, g10, g11⟩ := kp3.all)))
        all_goals
          go_wp2_with fail
          go_meet
          first
            | exact ⟨_, rfl, rfl, blA hx2 (Nat.le_refl _) _⟩
            | exact ⟨_, rfl, rfl, (hx2.setCell (Nat.le_refl _) _).setCell (Nat.le_refl _) _⟩
            | exact ⟨_, rfl, rfl, (hx2.setCell hx1.size _).setCell hx1.size _⟩
      case rest =>
        obtain ⟨g, rfl, rfl, hb⟩ := hcut
        have HX2 := Lib.hid (HX.out.next hb)
        have HO2 := Lib.hid (HO.out.below hb)
        have hlen := ofl_len T m
        clear hb HBF HBA HX HO
        have hsz : w.heap.size + 2 ≤ wc.heap.size := HX2.out.k.lt
        cases hT : T m
        · have hz : z = 6 := by rw [← HZ.out, hT]; rfl
          have E := Lib.hid (ofl_no hT)
          clear hT HZ
          subst hz
          go_wp2
          exact ⟨⟨m + 1, by omega, by go_num, by rw [E.out]; exact HO2, HX2⟩, by simp [intOf]; omega⟩
        · have hz : z = 0 := by rw [← HZ.out, hT]; rfl
          have E := Lib.hid (ofl_yes hT)
          have HF := Lib.hid (HO2.out.congr (fun i hi => lf_app (r := [m]) hi))
          have HY := Lib.hid (lf_last (ofl T m) m)
          have EL := Lib.hid (show (ofl T (m + 1)).length = (ofl T m).length + 1 by rw [E.out, List.length_append]; rfl)
          clear hT HZ HO2
          subst hz
          go_wp2_with (at_builtin; refine L2.app1 _ rfl _ _ (by rfl) (w.heap.size + 2) (by rfl) HF.out (m : Int) (by rfl) HY.out (by omega) hsz ?_; intro v' w5 hown5 hb5; have HO5 := Lib.hid hown5; have HB5 := Lib.hid hb5; clear hown5 hb5)
          exact ⟨⟨m + 1, by omega, by go_num, by rw [EL.out, E.out]; exact HO5, Lib.hid (A2.step HX2.out HB5.out)⟩, by simp [intOf]; omega⟩
    · have e : m = 16 := by omega
      subst e
      obtain ⟨A', c', rfl, h1, h2⟩ := HO.out.out
      have HF : Hid (LRet w (ofl T 16).length (lf (ofl T 16)) (.returned (.slice A' (ofl T 16).length c')) wr) := Lib.hid ⟨A', c', rfl, fun hn => (by obtain ⟨k, h3, h4, h5⟩ := h2 hn; exact ⟨k, h3, by omega, h5⟩), HX.out.bel⟩
      clear h1 h2
      generalize (ofl T 16).length = N at *
      go_wp2
      go_ret
      exact HF.out
end Go.Proofs.Ytjbofdgdcnfmoaa
