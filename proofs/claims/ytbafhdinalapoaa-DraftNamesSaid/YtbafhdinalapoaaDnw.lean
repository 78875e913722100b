/- The statement DraftNames. -/
import Derived.Test.YtbafhdinalapoaaDnm
import Derived.Test.YtbafhdinalapoaaLfw
import Derived.Test.YtbafhdinalapoaaRfo
import Derived.Deep.DeepCutAuto
import Derived.Deep.RegionHeld3
namespace Go.Proofs.Ytbafhdinalapoaa
open Go.RowKit
set_option linter.unusedVariables false
set_option linter.unusedSimpArgs false
set_option maxRecDepth 100000

open L2 (nd ren)
/-- A list in the row b. -/
structure IX (v : World) (b n : Nat) (f : Nat → Int) : Prop where
  row : L2.Row v b n f
theorem IX.next {v v' : World} {b n : Nat} {f : Nat → Int} (h : IX v b n f) (hb : Below v.heap.size v v') : IX v' b n f := ⟨h.row.below hb h.row.lt⟩
theorem IX.lit (w : World) (l : List Int) : IX (w.alloc (.cells (l.map (Value.int .i64)).toArray 3)) w.heap.size l.length (at0 l) := ⟨irow_lit w l⟩
theorem IX.holds {v : World} {b n : Nat} {f : Nat → Int} (h : IX v b n f) : L2.Holds v v.heap.size (some ⟨b, 0, none⟩) n f := h.row.holds h.row.lt
theorem IX.zeros (w : World) (n : Nat) : IX (w.alloc (.cells (madeCells #[.int .i64 0] n) 3)) w.heap.size n (fun _ => 0) := ⟨L2.Row.made w n⟩
/-- Cells in the row b. -/
structure BX (v : World) (b n : Nat) (f : Nat → Bool) : Prop where
  row : Row v b n f
theorem BX.next {v v' : World} {b n : Nat} {f : Nat → Bool} (h : BX v b n f) (hb : Below v.heap.size v v') : BX v' b n f := ⟨h.row.below hb h.row.lt⟩
theorem BX.lit (w : World) (l : List Bool) : BX (w.alloc (.cells (l.map Value.bool).toArray 4)) w.heap.size l.length (fun i => l.getD i false) :=
  ⟨⟨(l.map Value.bool).toArray, heap_new w _, by simp, fun i hi => by simp [List.getD, hi]⟩⟩
theorem BX.zeros (w : World) (n : Nat) : BX (w.alloc (.cells (madeCells #[.bool false] n) 4)) w.heap.size n (fun _ => false) := ⟨Row.made w n⟩
theorem BX.holds {v : World} {b n : Nat} {f : Nat → Bool} (h : BX v b n f) : Holds v v.heap.size (some ⟨b, 0, none⟩) n f := h.row.holds h.row.lt
/-- A grid in a variable, its cells in the row k. -/
structure VG (v : World) (g k : Nat) (W H : Int) (n c : Nat) (F : Nat → Bool) : Prop where
  box : Box v g W H (.slice (some ⟨k, 0, none⟩) n c)
  row : Row v k n F
theorem VG.next {v v' : World} {g k : Nat} {W H : Int} {n c : Nat} {F : Nat → Bool} (h : VG v g k W H n c F) (hb : Below v.heap.size v v') : VG v' g k W H n c F := ⟨h.box.below hb h.box.lt, h.row.below hb h.row.lt⟩
theorem VG.new (w : World) (k : Nat) (W H : Int) (n c : Nat) (F : Nat → Bool) (h : Row w k n F) : VG (w.alloc (.cells #[.int .i64 W, .int .i64 H, .slice (some ⟨k, 0, none⟩) n c] 24)) w.heap.size k W H n c F := ⟨Box.new w W H _, h.alloc _⟩
theorem VG.holds {v : World} {g k : Nat} {W H : Int} {n c : Nat} {F : Nat → Bool} (h : VG v g k W H n c F) : Holds v v.heap.size (some ⟨k, 0, none⟩) n F := h.row.holds h.row.lt
theorem VG.lits {v : World} {g k : Nat} {W H : Int} {n c : Nat} {F : Nat → Bool} (h : VG v g k W H n c F) : v.cell? ⟨g, 0, none⟩ = some (.int .i64 W) ∧ v.cell? ⟨g, 1, none⟩ = some (.int .i64 H) ∧ v.cell? ⟨g, 2, none⟩ = some (.slice (some ⟨k, 0, none⟩) n c) := ⟨h.box.c0, h.box.c1, h.box.c2⟩
theorem DP.seven {v : World} {g B : Nat} {D : Dr} (h : DP v g B D) : v.cell? ⟨g, 0, none⟩ = some (.int .i64 D.S) ∧ v.cell? ⟨g, 1, none⟩ = some (.int .i64 D.T) ∧ v.cell? ⟨g, 2, none⟩ = some (.slice D.A D.n D.c) ∧ v.cell? ⟨g, 3, none⟩ = some (.slice D.B D.m D.d) ∧
    v.cell? ⟨g, 4, none⟩ = some (.int .i64 D.W) ∧ v.cell? ⟨g, 5, none⟩ = some (.int .i64 D.H) ∧ v.cell? ⟨g, 6, none⟩ = some (.slice D.C D.k D.e) := by
  obtain ⟨a, b, c, d, e, f, g, _⟩ := h.box.all
  exact ⟨a, b, c, d, e, f, g⟩
/-- A draft somewhere. -/
structure DX (v : World) (D : Dr) : Prop where
  cells : D.In v v.heap.size
theorem DX.next {v v' : World} {D : Dr} (h : DX v D) (hb : Below v.heap.size v v') : DX v' D := ⟨h.cells.next hb⟩
theorem given_dx (w : World) : Calls Try.prog 17 #[] w fun e w' => ∃ a ca b cb c cc, e = .returned (.agg #[.int .i64 2, .int .i64 2, .slice (some ⟨a, 0, none⟩) 3 ca, .slice (some ⟨b, 0, none⟩) 2 cb, .int .i64 2, .int .i64 2, .slice (some ⟨c, 0, none⟩) 4 cc]) ∧ DX w' (gv.dr a ca b cb c cc) ∧ Below w.heap.size w w' :=
  (given_any w).mono fun e w' ⟨a, ca, b, cb, c, cc, he, hr, hb⟩ => ⟨a, ca, b, cb, c, cc, he, ⟨hr.dr ca cb cc⟩, hb⟩
theorem rieq_tr (Q : PD) (l : List Int) (n : Nat) (hm : Q.m = n) (e : ∀ i, i < n → ((Q.G i : Nat) : Int) = at0 l i) (a ca b cb c cc t : Nat) (w : World) (hd : (Q.dr a ca b cb c cc).In w w.heap.size) (hl : L2.Holds w w.heap.size (some ⟨t, 0, none⟩) n (at0 l)) (hn : n ≤ 64) :
    Calls Try.prog 19 #[.slice (some ⟨b, 0, none⟩) n cb, .slice (some ⟨t, 0, none⟩) n n] w fun e w' => e = .returned (.bool true) ∧ Below w.heap.size w w' := by
  subst hm
  exact rieq_yes _ _ _ _ _ (fun i => (Q.G i : Nat)) (at0 l) w (by omega) hd.tr hl e
theorem rieq_th (Q : PD) (l : List Int) (n : Nat) (hm : Q.n = n) (e : ∀ i, i < n → ((Q.F i : Nat) : Int) = at0 l i) (a ca b cb c cc t : Nat) (w : World) (hd : (Q.dr a ca b cb c cc).In w w.heap.size) (hl : L2.Holds w w.heap.size (some ⟨t, 0, none⟩) n (at0 l)) (hn : n ≤ 64) :
    Calls Try.prog 19 #[.slice (some ⟨a, 0, none⟩) n ca, .slice (some ⟨t, 0, none⟩) n n] w fun e w' => e = .returned (.bool true) ∧ Below w.heap.size w w' := by
  subst hm
  exact rieq_yes _ _ _ _ _ (fun i => (Q.F i : Nat)) (at0 l) w (by omega) hd.th hl e
theorem rd2d (a ca b cb c cc : Nat) (w : World) (hd : (pp.dr a ca b cb c cc).In w w.heap.size) :
    Calls Try.prog 20 #[.agg #[.int .i64 1, .int .i64 2, .slice (some ⟨c, 0, none⟩) 2 cc], .int .i64 0, .string ⟨#[46, 10, 120, 10]⟩] w fun e w' => e = .returned (.bool true) ∧ Below w.heap.size w w' := rd2 c cc w hd.ti
theorem rd3d (a ca b cb c cc : Nat) (w : World) (hd : (gn.dr a ca b cb c cc).In w w.heap.size) :
    Calls Try.prog 20 #[.agg #[.int .i64 2, .int .i64 2, .slice (some ⟨c, 0, none⟩) 4 cc], .int .i64 0, .string ⟨#[120, 46, 10, 46, 120, 10]⟩] w fun e w' => e = .returned (.bool true) ∧ Below w.heap.size w w' := rd3 c cc w hd.ti
/-- A draft's variable. -/
structure VD (v : World) (g : Nat) (D : Dr) : Prop where
  box : DBox v g D
theorem VD.next {v v' : World} {g : Nat} {D : Dr} (h : VD v g D) (hb : Below v.heap.size v v') : VD v' g D := ⟨h.box.next hb⟩
theorem VD.new (w : World) (D : Dr) : VD (w.alloc (.cells #[.int .i64 D.S, .int .i64 D.T, .slice D.A D.n D.c, .slice D.B D.m D.d, .int .i64 D.W, .int .i64 D.H, .slice D.C D.k D.e] 30)) w.heap.size D := ⟨DBox.new w D⟩
theorem make65 (w : World) : (Instr.makeSlice 28 (.int .i64 65) (.int .i64 65)).run Try.prog w = .ok (.slice (some ⟨w.heap.size, 0, none⟩) 65 65) (w.alloc (.cells (madeCells #[.int .i64 0] 65) 3)) := L2.make_run 65 (by omega) w
theorem make41 (w : World) : (Instr.makeSlice 22 (.int .i64 41) (.int .i64 41)).run Try.prog w = .ok (.slice (some ⟨w.heap.size, 0, none⟩) 41 41) (w.alloc (.cells (madeCells #[.bool false] 41) 4)) := by
  have h := make_run 41 1 (by decide) w
  simpa using h

/-- What Check answers, of the numbers and the lists alone. -/
def ckf (S T : Int) (n m : Nat) (W H : Int) (k : Nat) (f g : Nat → Int) : Int :=
  if 40 < S ∨ 40 < T ∨ 64 < n ∨ 64 < m then 4
  else if wi n f S = true ∧ wi m g T = true ∧ chk W H k = 0 ∧ W = T ∧ H = S then 0 else 8
section
variable {S T : Int} {A : Option Addr} {n c : Nat} {B : Option Addr} {m d : Nat} {W H : Int} {C : Option Addr} {k e : Nat} {f g : Nat → Int} {b : Nat → Bool}
theorem ck_eq : Dr.ck ⟨S, T, A, n, c, B, m, d, W, H, C, k, e, f, g, b⟩ = ckf S T n m W H k f g := rfl
theorem small_mk (h1 : n ≤ 70) (h2 : m ≤ 70) (h3 : k ≤ 4200) : Dr.Small ⟨S, T, A, n, c, B, m, d, W, H, C, k, e, f, g, b⟩ := ⟨h1, h2, h3⟩
end
theorem zsm : Dr.Small Dr.zero := small_mk (by decide) (by decide) (by decide)

theorem given_same (ga gca gb gcb gc gcc a ca b cb c cc : Nat) (w : World) (h1 : (gv.dr ga gca gb gcb gc gcc).In w w.heap.size) (h2 : (⟨2, 1, (some ⟨a, 0, none⟩), 3, ca, (some ⟨b, 0, none⟩), 2, cb, 2, 2, (some ⟨c, 0, none⟩), 4, cc, (fun i => ((gv.F i : Nat) : Int)), (fun i => ((gv.G i : Nat) : Int)), (fun i => gv.L (i % 2) (i / 2))⟩ : Dr).In w w.heap.size) :
    Calls Try.prog 22 #[.agg #[.int .i64 2, .int .i64 2, .slice (some ⟨ga, 0, none⟩) 3 gca, .slice (some ⟨gb, 0, none⟩) 2 gcb, .int .i64 2, .int .i64 2, .slice (some ⟨gc, 0, none⟩) 4 gcc], .agg #[.int .i64 2, .int .i64 1, .slice (some ⟨a, 0, none⟩) 3 ca, .slice (some ⟨b, 0, none⟩) 2 cb, .int .i64 2, .int .i64 2, .slice (some ⟨c, 0, none⟩) 4 cc]] w fun e u => e = .returned (.bool false) ∧ Below w.heap.size w u := by
  have h := dsame_any (gv.dr ga gca gb gcb gc gcc) ⟨2, 1, (some ⟨a, 0, none⟩), 3, ca, (some ⟨b, 0, none⟩), 2, cb, 2, 2, (some ⟨c, 0, none⟩), 4, cc, (fun i => ((gv.F i : Nat) : Int)), (fun i => ((gv.G i : Nat) : Int)), (fun i => gv.L (i % 2) (i / 2))⟩ w ((gv.dr_is ga gca gb gcb gc gcc).small gv_ok) h1 h2
  have e : dsm (gv.dr ga gca gb gcb gc gcc) ⟨2, 1, (some ⟨a, 0, none⟩), 3, ca, (some ⟨b, 0, none⟩), 2, cb, 2, 2, (some ⟨c, 0, none⟩), 4, cc, (fun i => ((gv.F i : Nat) : Int)), (fun i => ((gv.G i : Nat) : Int)), (fun i => gv.L (i % 2) (i / 2))⟩ = false := by
    simp [dsm, PD.dr, gv]
  rw [e] at h
  exact h
theorem zero_same (b : Nat) (w : World) : Calls Try.prog 22 #[.agg #[.int .i64 0, .int .i64 0, .slice none 0 0, .slice none 0 0, .int .i64 0, .int .i64 0, .slice none 0 0], .agg #[.int .i64 0, .int .i64 0, .slice (some ⟨b, 0, none⟩) 0 0, .slice none 0 0, .int .i64 0, .int .i64 0, .slice none 0 0]] w fun e u => e = .returned (.bool true) ∧ Below w.heap.size w u := by
  have h := dsame_any Dr.zero ⟨0, 0, some ⟨b, 0, none⟩, 0, 0, none, 0, 0, 0, 0, none, 0, 0, fun _ => 0, fun _ => 0, fun _ => false⟩ w zsm ⟨L2.Holds.none_, L2.Holds.none_, Holds.none_⟩ ⟨L2.Holds.none_, L2.Holds.none_, Holds.none_⟩
  have e : dsm Dr.zero ⟨0, 0, some ⟨b, 0, none⟩, 0, 0, none, 0, 0, 0, 0, none, 0, 0, fun _ => 0, fun _ => 0, fun _ => false⟩ = true := by
    simp [dsm, Dr.zero, lsm, gsm]
  rw [e] at h
  exact h


set_option maxHeartbeats 8000000 in
theorem dnames_any (w : World) : Calls Try.prog 3 #[] w fun e w' => e = .returned (.bool true) ∧ Below w.heap.size w w' := by
  have L_0 := Lib.hid ((show Bl w w from ⟨Below.refl _ _⟩))
  have hmk41 := make41
  have hmk65 := make65
  go_enter Try.func3, Try.ntmps3
  go_wp2_with fail
  with_reducible refine Calls.mono (parse1 _) ?_
  rintro e wu1 ⟨k1, rfl, hk, hrow, hb⟩
  have L_1 := Lib.hid (L_0.out.next hb)
  clear L_0
  clear hb 
  have HRW1 := Lib.hid hrow
  clear hrow hk
  go_wp2_with fail
  have La_2 := Lib.hid (L_1.out.next (((Below.refl wu1.heap.size wu1).alloc (Nat.le_refl _) (.cells #[.int .i64 3, .int .i64 3, .slice (some ⟨k1, 0, none⟩) 9 9] 24)).alloc (by first | (simp; done) | (simp; omega)) (.cells #[.int .i64 2, .int .i64 1, .int .i64 0, .int .i64 0] 3)))
  clear L_1
  have G1a_20 : VG (wu1.alloc (.cells #[.int .i64 3, .int .i64 3, .slice (some ⟨k1, 0, none⟩) 9 9] 24)) wu1.heap.size k1 3 3 9 9 (lf) := by
      have h := VG.new wu1 k1 3 3 9 9 (lf) HRW1.out
      try simp only [World.size_alloc] at h
      exact h
  have G1a_2 := Lib.hid (G1a_20.next ((Below.refl (wu1.alloc (.cells #[.int .i64 3, .int .i64 3, .slice (some ⟨k1, 0, none⟩) 9 9] 24)).heap.size (wu1.alloc (.cells #[.int .i64 3, .int .i64 3, .slice (some ⟨k1, 0, none⟩) 9 9] 24))).alloc (by first | exact Nat.le_refl _ | (simp; done) | (simp; omega)) (.cells #[.int .i64 2, .int .i64 1, .int .i64 0, .int .i64 0] 3)))
  clear G1a_20
  have I1a_20 : IX ((wu1.alloc (.cells #[.int .i64 3, .int .i64 3, .slice (some ⟨k1, 0, none⟩) 9 9] 24)).alloc (.cells #[.int .i64 2, .int .i64 1, .int .i64 0, .int .i64 0] 3)) (wu1.heap.size + 1) 4 (at0 [2, 1, 0, 0]) := by
      have h := IX.lit (wu1.alloc (.cells #[.int .i64 3, .int .i64 3, .slice (some ⟨k1, 0, none⟩) 9 9] 24)) [2, 1, 0, 0]
      try simp only [World.size_alloc] at h
      exact h
  have I1a_2 := Lib.hid (I1a_20.next (Below.refl ((wu1.alloc (.cells #[.int .i64 3, .int .i64 3, .slice (some ⟨k1, 0, none⟩) 9 9] 24)).alloc (.cells #[.int .i64 2, .int .i64 1, .int .i64 0, .int .i64 0] 3)).heap.size ((wu1.alloc (.cells #[.int .i64 3, .int .i64 3, .slice (some ⟨k1, 0, none⟩) 9 9] 24)).alloc (.cells #[.int .i64 2, .int .i64 1, .int .i64 0, .int .i64 0] 3))))
  clear I1a_20
  generalize (wu1.alloc (.cells #[.int .i64 3, .int .i64 3, .slice (some ⟨k1, 0, none⟩) 9 9] 24)).alloc (.cells #[.int .i64 2, .int .i64 1, .int .i64 0, .int .i64 0] 3) = wv2 at *
  with_reducible refine Calls.mono (fl1 _ _ _ I1a_2.out.holds G1a_2.out.holds) ?_
  rintro e wu2 ⟨a3, ca3, b3, cb3, c3, cc3, rfl, hin, hb⟩
  have L_2 := Lib.hid (La_2.out.next hb)
  have G1_2 := Lib.hid (G1a_2.out.next hb)
  have I1_2 := Lib.hid (I1a_2.out.next hb)
  clear La_2 G1a_2 I1a_2
  clear hb 
  have HIN3 := Lib.hid hin
  clear hin
  go_wp2_with fail
  have La_3 := Lib.hid (L_2.out.next ((Below.refl wu2.heap.size wu2).alloc (Nat.le_refl _) (.cells #[.int .i64 3, .int .i64 2, .slice (some ⟨a3, 0, none⟩) 4 ca3, .slice (some ⟨b3, 0, none⟩) 3 cb3, .int .i64 2, .int .i64 3, .slice (some ⟨c3, 0, none⟩) 6 cc3] 30)))
  clear L_2
  have G1a_3 := Lib.hid (G1_2.out.next ((Below.refl wu2.heap.size wu2).alloc (Nat.le_refl _) (.cells #[.int .i64 3, .int .i64 2, .slice (some ⟨a3, 0, none⟩) 4 ca3, .slice (some ⟨b3, 0, none⟩) 3 cb3, .int .i64 2, .int .i64 3, .slice (some ⟨c3, 0, none⟩) 6 cc3] 30)))
  clear G1_2
  have I1a_3 := Lib.hid (I1_2.out.next ((Below.refl wu2.heap.size wu2).alloc (Nat.le_refl _) (.cells #[.int .i64 3, .int .i64 2, .slice (some ⟨a3, 0, none⟩) 4 ca3, .slice (some ⟨b3, 0, none⟩) 3 cb3, .int .i64 2, .int .i64 3, .slice (some ⟨c3, 0, none⟩) 6 cc3] 30)))
  clear I1_2
  have D3a_30 : DP (wu2.alloc (.cells #[.int .i64 3, .int .i64 2, .slice (some ⟨a3, 0, none⟩) 4 ca3, .slice (some ⟨b3, 0, none⟩) 3 cb3, .int .i64 2, .int .i64 3, .slice (some ⟨c3, 0, none⟩) 6 cc3] 30)) wu2.heap.size wu2.heap.size (pd.dr a3 ca3 b3 cb3 c3 cc3) := by
      have h := DP.new wu2 HIN3.out
      try simp only [World.size_alloc] at h
      exact h
  have D3a_3 := Lib.hid (D3a_30.next (Below.refl (wu2.alloc (.cells #[.int .i64 3, .int .i64 2, .slice (some ⟨a3, 0, none⟩) 4 ca3, .slice (some ⟨b3, 0, none⟩) 3 cb3, .int .i64 2, .int .i64 3, .slice (some ⟨c3, 0, none⟩) 6 cc3] 30)).heap.size (wu2.alloc (.cells #[.int .i64 3, .int .i64 2, .slice (some ⟨a3, 0, none⟩) 4 ca3, .slice (some ⟨b3, 0, none⟩) 3 cb3, .int .i64 2, .int .i64 3, .slice (some ⟨c3, 0, none⟩) 6 cc3] 30))))
  clear D3a_30
  generalize wu2.alloc (.cells #[.int .i64 3, .int .i64 2, .slice (some ⟨a3, 0, none⟩) 4 ca3, .slice (some ⟨b3, 0, none⟩) 3 cb3, .int .i64 2, .int .i64 3, .slice (some ⟨c3, 0, none⟩) 6 cc3] 30) = wv3 at *
  with_reducible refine Calls.mono (wv1 _ _ _ _ _ _ _ D3a_3.out.in_) ?_
  rintro e wu3 ⟨k5, rfl, hk, hrow, hb⟩
  have L_3 := Lib.hid (La_3.out.next hb)
  have G1_3 := Lib.hid (G1a_3.out.next hb)
  have I1_3 := Lib.hid (I1a_3.out.next hb)
  have D3_3 := Lib.hid (D3a_3.out.next hb)
  clear La_3 G1a_3 I1a_3 D3a_3
  clear hb 
  have HRW5 := Lib.hid hrow
  clear hrow hk
  go_wp2_with fail
  have La_4 := Lib.hid (L_3.out.next (((((Below.refl wu3.heap.size wu3).alloc (Nat.le_refl _) (.cells #[.int .i64 4, .int .i64 3, .slice (some ⟨k5, 0, none⟩) 12 12] 24)).alloc (by first | (simp; done) | (simp; omega)) (.cells #[.int .i64 3, .int .i64 1] 3)).alloc (by first | (simp; done) | (simp; omega)) (.cells #[.int .i64 2] 3)).alloc (by first | (simp; done) | (simp; omega)) (.cells #[.bool true, .bool true, .bool true, .bool false, .bool false, .bool true, .bool true, .bool true, .bool true, .bool false, .bool false, .bool false] 4)))
  clear L_3
  have G1a_4 := Lib.hid (G1_3.out.next (((((Below.refl wu3.heap.size wu3).alloc (Nat.le_refl _) (.cells #[.int .i64 4, .int .i64 3, .slice (some ⟨k5, 0, none⟩) 12 12] 24)).alloc (by first | (simp; done) | (simp; omega)) (.cells #[.int .i64 3, .int .i64 1] 3)).alloc (by first | (simp; done) | (simp; omega)) (.cells #[.int .i64 2] 3)).alloc (by first | (simp; done) | (simp; omega)) (.cells #[.bool true, .bool true, .bool true, .bool false, .bool false, .bool true, .bool true, .bool true, .bool true, .bool false, .bool false, .bool false] 4)))
  clear G1_3
  have I1a_4 := Lib.hid (I1_3.out.next (((((Below.refl wu3.heap.size wu3).alloc (Nat.le_refl _) (.cells #[.int .i64 4, .int .i64 3, .slice (some ⟨k5, 0, none⟩) 12 12] 24)).alloc (by first | (simp; done) | (simp; omega)) (.cells #[.int .i64 3, .int .i64 1] 3)).alloc (by first | (simp; done) | (simp; omega)) (.cells #[.int .i64 2] 3)).alloc (by first | (simp; done) | (simp; omega)) (.cells #[.bool true, .bool true, .bool true, .bool false, .bool false, .bool true, .bool true, .bool true, .bool true, .bool false, .bool false, .bool false] 4)))
  clear I1_3
  have D3a_4 := Lib.hid (D3_3.out.next (((((Below.refl wu3.heap.size wu3).alloc (Nat.le_refl _) (.cells #[.int .i64 4, .int .i64 3, .slice (some ⟨k5, 0, none⟩) 12 12] 24)).alloc (by first | (simp; done) | (simp; omega)) (.cells #[.int .i64 3, .int .i64 1] 3)).alloc (by first | (simp; done) | (simp; omega)) (.cells #[.int .i64 2] 3)).alloc (by first | (simp; done) | (simp; omega)) (.cells #[.bool true, .bool true, .bool true, .bool false, .bool false, .bool true, .bool true, .bool true, .bool true, .bool false, .bool false, .bool false] 4)))
  clear D3_3
  have G5a_40 : VG (wu3.alloc (.cells #[.int .i64 4, .int .i64 3, .slice (some ⟨k5, 0, none⟩) 12 12] 24)) wu3.heap.size k5 4 3 12 12 (pd.wv) := by
      have h := VG.new wu3 k5 4 3 12 12 (pd.wv) HRW5.out
      try simp only [World.size_alloc] at h
      exact h
  have G5a_4 := Lib.hid (G5a_40.next ((((Below.refl (wu3.alloc (.cells #[.int .i64 4, .int .i64 3, .slice (some ⟨k5, 0, none⟩) 12 12] 24)).heap.size (wu3.alloc (.cells #[.int .i64 4, .int .i64 3, .slice (some ⟨k5, 0, none⟩) 12 12] 24))).alloc (by first | exact Nat.le_refl _ | (simp; done) | (simp; omega)) (.cells #[.int .i64 3, .int .i64 1] 3)).alloc (by first | exact Nat.le_refl _ | (simp; done) | (simp; omega)) (.cells #[.int .i64 2] 3)).alloc (by first | exact Nat.le_refl _ | (simp; done) | (simp; omega)) (.cells #[.bool true, .bool true, .bool true, .bool false, .bool false, .bool true, .bool true, .bool true, .bool true, .bool false, .bool false, .bool false] 4)))
  clear G5a_40
  have I2a_40 : IX ((wu3.alloc (.cells #[.int .i64 4, .int .i64 3, .slice (some ⟨k5, 0, none⟩) 12 12] 24)).alloc (.cells #[.int .i64 3, .int .i64 1] 3)) (wu3.heap.size + 1) 2 (at0 [3, 1]) := by
      have h := IX.lit (wu3.alloc (.cells #[.int .i64 4, .int .i64 3, .slice (some ⟨k5, 0, none⟩) 12 12] 24)) [3, 1]
      try simp only [World.size_alloc] at h
      exact h
  have I2a_4 := Lib.hid (I2a_40.next (((Below.refl ((wu3.alloc (.cells #[.int .i64 4, .int .i64 3, .slice (some ⟨k5, 0, none⟩) 12 12] 24)).alloc (.cells #[.int .i64 3, .int .i64 1] 3)).heap.size ((wu3.alloc (.cells #[.int .i64 4, .int .i64 3, .slice (some ⟨k5, 0, none⟩) 12 12] 24)).alloc (.cells #[.int .i64 3, .int .i64 1] 3))).alloc (by first | exact Nat.le_refl _ | (simp; done) | (simp; omega)) (.cells #[.int .i64 2] 3)).alloc (by first | exact Nat.le_refl _ | (simp; done) | (simp; omega)) (.cells #[.bool true, .bool true, .bool true, .bool false, .bool false, .bool true, .bool true, .bool true, .bool true, .bool false, .bool false, .bool false] 4)))
  clear I2a_40
  have I3a_40 : IX (((wu3.alloc (.cells #[.int .i64 4, .int .i64 3, .slice (some ⟨k5, 0, none⟩) 12 12] 24)).alloc (.cells #[.int .i64 3, .int .i64 1] 3)).alloc (.cells #[.int .i64 2] 3)) (wu3.heap.size + 1 + 1) 1 (at0 [2]) := by
      have h := IX.lit ((wu3.alloc (.cells #[.int .i64 4, .int .i64 3, .slice (some ⟨k5, 0, none⟩) 12 12] 24)).alloc (.cells #[.int .i64 3, .int .i64 1] 3)) [2]
      try simp only [World.size_alloc] at h
      exact h
  have I3a_4 := Lib.hid (I3a_40.next ((Below.refl (((wu3.alloc (.cells #[.int .i64 4, .int .i64 3, .slice (some ⟨k5, 0, none⟩) 12 12] 24)).alloc (.cells #[.int .i64 3, .int .i64 1] 3)).alloc (.cells #[.int .i64 2] 3)).heap.size (((wu3.alloc (.cells #[.int .i64 4, .int .i64 3, .slice (some ⟨k5, 0, none⟩) 12 12] 24)).alloc (.cells #[.int .i64 3, .int .i64 1] 3)).alloc (.cells #[.int .i64 2] 3))).alloc (by first | exact Nat.le_refl _ | (simp; done) | (simp; omega)) (.cells #[.bool true, .bool true, .bool true, .bool false, .bool false, .bool true, .bool true, .bool true, .bool true, .bool false, .bool false, .bool false] 4)))
  clear I3a_40
  have B1a_40 : BX ((((wu3.alloc (.cells #[.int .i64 4, .int .i64 3, .slice (some ⟨k5, 0, none⟩) 12 12] 24)).alloc (.cells #[.int .i64 3, .int .i64 1] 3)).alloc (.cells #[.int .i64 2] 3)).alloc (.cells #[.bool true, .bool true, .bool true, .bool false, .bool false, .bool true, .bool true, .bool true, .bool true, .bool false, .bool false, .bool false] 4)) (wu3.heap.size + 1 + 1 + 1) 12 (fun i => bl12.getD i false) := by
      have h := BX.lit (((wu3.alloc (.cells #[.int .i64 4, .int .i64 3, .slice (some ⟨k5, 0, none⟩) 12 12] 24)).alloc (.cells #[.int .i64 3, .int .i64 1] 3)).alloc (.cells #[.int .i64 2] 3)) bl12
      try simp only [World.size_alloc] at h
      exact h
  have B1a_4 := Lib.hid (B1a_40.next (Below.refl ((((wu3.alloc (.cells #[.int .i64 4, .int .i64 3, .slice (some ⟨k5, 0, none⟩) 12 12] 24)).alloc (.cells #[.int .i64 3, .int .i64 1] 3)).alloc (.cells #[.int .i64 2] 3)).alloc (.cells #[.bool true, .bool true, .bool true, .bool false, .bool false, .bool true, .bool true, .bool true, .bool true, .bool false, .bool false, .bool false] 4)).heap.size ((((wu3.alloc (.cells #[.int .i64 4, .int .i64 3, .slice (some ⟨k5, 0, none⟩) 12 12] 24)).alloc (.cells #[.int .i64 3, .int .i64 1] 3)).alloc (.cells #[.int .i64 2] 3)).alloc (.cells #[.bool true, .bool true, .bool true, .bool false, .bool false, .bool true, .bool true, .bool true, .bool true, .bool false, .bool false, .bool false] 4))))
  clear B1a_40
  generalize (((wu3.alloc (.cells #[.int .i64 4, .int .i64 3, .slice (some ⟨k5, 0, none⟩) 12 12] 24)).alloc (.cells #[.int .i64 3, .int .i64 1] 3)).alloc (.cells #[.int .i64 2] 3)).alloc (.cells #[.bool true, .bool true, .bool true, .bool false, .bool false, .bool true, .bool true, .bool true, .bool true, .bool false, .bool false, .bool false] 4) = wv4 at *
  with_reducible refine Calls.mono (pr1 _ _ _ _ I2a_4.out.holds I3a_4.out.holds B1a_4.out.holds) ?_
  rintro e wu4 ⟨a7, ca7, b7, cb7, c7, cc7, rfl, hin, hb⟩
  have L_4 := Lib.hid (La_4.out.next hb)
  have G1_4 := Lib.hid (G1a_4.out.next hb)
  have I1_4 := Lib.hid (I1a_4.out.next hb)
  have D3_4 := Lib.hid (D3a_4.out.next hb)
  have G5_4 := Lib.hid (G5a_4.out.next hb)
  have I2_4 := Lib.hid (I2a_4.out.next hb)
  have I3_4 := Lib.hid (I3a_4.out.next hb)
  have B1_4 := Lib.hid (B1a_4.out.next hb)
  clear La_4 G1a_4 I1a_4 D3a_4 G5a_4 I2a_4 I3a_4 B1a_4
  clear hb 
  have HIN7 := Lib.hid hin
  clear hin
  go_wp2_with fail
  have La_5 := Lib.hid (L_4.out.next ((Below.refl wu4.heap.size wu4).alloc (Nat.le_refl _) (.cells #[.int .i64 2, .int .i64 1, .slice (some ⟨a7, 0, none⟩) 2 ca7, .slice (some ⟨b7, 0, none⟩) 1 cb7, .int .i64 1, .int .i64 2, .slice (some ⟨c7, 0, none⟩) 2 cc7] 30)))
  clear L_4
  have G1a_5 := Lib.hid (G1_4.out.next ((Below.refl wu4.heap.size wu4).alloc (Nat.le_refl _) (.cells #[.int .i64 2, .int .i64 1, .slice (some ⟨a7, 0, none⟩) 2 ca7, .slice (some ⟨b7, 0, none⟩) 1 cb7, .int .i64 1, .int .i64 2, .slice (some ⟨c7, 0, none⟩) 2 cc7] 30)))
  clear G1_4
  have I1a_5 := Lib.hid (I1_4.out.next ((Below.refl wu4.heap.size wu4).alloc (Nat.le_refl _) (.cells #[.int .i64 2, .int .i64 1, .slice (some ⟨a7, 0, none⟩) 2 ca7, .slice (some ⟨b7, 0, none⟩) 1 cb7, .int .i64 1, .int .i64 2, .slice (some ⟨c7, 0, none⟩) 2 cc7] 30)))
  clear I1_4
  have D3a_5 := Lib.hid (D3_4.out.next ((Below.refl wu4.heap.size wu4).alloc (Nat.le_refl _) (.cells #[.int .i64 2, .int .i64 1, .slice (some ⟨a7, 0, none⟩) 2 ca7, .slice (some ⟨b7, 0, none⟩) 1 cb7, .int .i64 1, .int .i64 2, .slice (some ⟨c7, 0, none⟩) 2 cc7] 30)))
  clear D3_4
  have G5a_5 := Lib.hid (G5_4.out.next ((Below.refl wu4.heap.size wu4).alloc (Nat.le_refl _) (.cells #[.int .i64 2, .int .i64 1, .slice (some ⟨a7, 0, none⟩) 2 ca7, .slice (some ⟨b7, 0, none⟩) 1 cb7, .int .i64 1, .int .i64 2, .slice (some ⟨c7, 0, none⟩) 2 cc7] 30)))
  clear G5_4
  have I2a_5 := Lib.hid (I2_4.out.next ((Below.refl wu4.heap.size wu4).alloc (Nat.le_refl _) (.cells #[.int .i64 2, .int .i64 1, .slice (some ⟨a7, 0, none⟩) 2 ca7, .slice (some ⟨b7, 0, none⟩) 1 cb7, .int .i64 1, .int .i64 2, .slice (some ⟨c7, 0, none⟩) 2 cc7] 30)))
  clear I2_4
  have I3a_5 := Lib.hid (I3_4.out.next ((Below.refl wu4.heap.size wu4).alloc (Nat.le_refl _) (.cells #[.int .i64 2, .int .i64 1, .slice (some ⟨a7, 0, none⟩) 2 ca7, .slice (some ⟨b7, 0, none⟩) 1 cb7, .int .i64 1, .int .i64 2, .slice (some ⟨c7, 0, none⟩) 2 cc7] 30)))
  clear I3_4
  have B1a_5 := Lib.hid (B1_4.out.next ((Below.refl wu4.heap.size wu4).alloc (Nat.le_refl _) (.cells #[.int .i64 2, .int .i64 1, .slice (some ⟨a7, 0, none⟩) 2 ca7, .slice (some ⟨b7, 0, none⟩) 1 cb7, .int .i64 1, .int .i64 2, .slice (some ⟨c7, 0, none⟩) 2 cc7] 30)))
  clear B1_4
  have D7a_50 : DP (wu4.alloc (.cells #[.int .i64 2, .int .i64 1, .slice (some ⟨a7, 0, none⟩) 2 ca7, .slice (some ⟨b7, 0, none⟩) 1 cb7, .int .i64 1, .int .i64 2, .slice (some ⟨c7, 0, none⟩) 2 cc7] 30)) wu4.heap.size wu4.heap.size (pp.dr a7 ca7 b7 cb7 c7 cc7) := by
      have h := DP.new wu4 HIN7.out
      try simp only [World.size_alloc] at h
      exact h
  have D7a_5 := Lib.hid (D7a_50.next (Below.refl (wu4.alloc (.cells #[.int .i64 2, .int .i64 1, .slice (some ⟨a7, 0, none⟩) 2 ca7, .slice (some ⟨b7, 0, none⟩) 1 cb7, .int .i64 1, .int .i64 2, .slice (some ⟨c7, 0, none⟩) 2 cc7] 30)).heap.size (wu4.alloc (.cells #[.int .i64 2, .int .i64 1, .slice (some ⟨a7, 0, none⟩) 2 ca7, .slice (some ⟨b7, 0, none⟩) 1 cb7, .int .i64 1, .int .i64 2, .slice (some ⟨c7, 0, none⟩) 2 cc7] 30))))
  clear D7a_50
  generalize wu4.alloc (.cells #[.int .i64 2, .int .i64 1, .slice (some ⟨a7, 0, none⟩) 2 ca7, .slice (some ⟨b7, 0, none⟩) 1 cb7, .int .i64 1, .int .i64 2, .slice (some ⟨c7, 0, none⟩) 2 cc7] 30) = wv5 at *
  with_reducible refine Calls.mono (given_dx _) ?_
  rintro e wu5 ⟨a8, ca8, b8, cb8, c8, cc8, rfl, hdx, hb⟩
  have L_5 := Lib.hid (La_5.out.next hb)
  have G1_5 := Lib.hid (G1a_5.out.next hb)
  have I1_5 := Lib.hid (I1a_5.out.next hb)
  have D3_5 := Lib.hid (D3a_5.out.next hb)
  have G5_5 := Lib.hid (G5a_5.out.next hb)
  have I2_5 := Lib.hid (I2a_5.out.next hb)
  have I3_5 := Lib.hid (I3a_5.out.next hb)
  have B1_5 := Lib.hid (B1a_5.out.next hb)
  have D7_5 := Lib.hid (D7a_5.out.next hb)
  clear La_5 G1a_5 I1a_5 D3a_5 G5a_5 I2a_5 I3a_5 B1a_5 D7a_5
  have X8_5 := Lib.hid (hdx)
  clear hb hdx
  go_wp2_with fail
  have La_6 := Lib.hid (L_5.out.next (((Below.refl wu5.heap.size wu5).alloc (Nat.le_refl _) (.cells #[.int .i64 1, .int .i64 0] 3)).alloc (by first | (simp; done) | (simp; omega)) (.cells #[.int .i64 0, .int .i64 1] 3)))
  clear L_5
  have G1a_6 := Lib.hid (G1_5.out.next (((Below.refl wu5.heap.size wu5).alloc (Nat.le_refl _) (.cells #[.int .i64 1, .int .i64 0] 3)).alloc (by first | (simp; done) | (simp; omega)) (.cells #[.int .i64 0, .int .i64 1] 3)))
  clear G1_5
  have I1a_6 := Lib.hid (I1_5.out.next (((Below.refl wu5.heap.size wu5).alloc (Nat.le_refl _) (.cells #[.int .i64 1, .int .i64 0] 3)).alloc (by first | (simp; done) | (simp; omega)) (.cells #[.int .i64 0, .int .i64 1] 3)))
  clear I1_5
  have D3a_6 := Lib.hid (D3_5.out.next (((Below.refl wu5.heap.size wu5).alloc (Nat.le_refl _) (.cells #[.int .i64 1, .int .i64 0] 3)).alloc (by first | (simp; done) | (simp; omega)) (.cells #[.int .i64 0, .int .i64 1] 3)))
  clear D3_5
  have G5a_6 := Lib.hid (G5_5.out.next (((Below.refl wu5.heap.size wu5).alloc (Nat.le_refl _) (.cells #[.int .i64 1, .int .i64 0] 3)).alloc (by first | (simp; done) | (simp; omega)) (.cells #[.int .i64 0, .int .i64 1] 3)))
  clear G5_5
  have I2a_6 := Lib.hid (I2_5.out.next (((Below.refl wu5.heap.size wu5).alloc (Nat.le_refl _) (.cells #[.int .i64 1, .int .i64 0] 3)).alloc (by first | (simp; done) | (simp; omega)) (.cells #[.int .i64 0, .int .i64 1] 3)))
  clear I2_5
  have I3a_6 := Lib.hid (I3_5.out.next (((Below.refl wu5.heap.size wu5).alloc (Nat.le_refl _) (.cells #[.int .i64 1, .int .i64 0] 3)).alloc (by first | (simp; done) | (simp; omega)) (.cells #[.int .i64 0, .int .i64 1] 3)))
  clear I3_5
  have B1a_6 := Lib.hid (B1_5.out.next (((Below.refl wu5.heap.size wu5).alloc (Nat.le_refl _) (.cells #[.int .i64 1, .int .i64 0] 3)).alloc (by first | (simp; done) | (simp; omega)) (.cells #[.int .i64 0, .int .i64 1] 3)))
  clear B1_5
  have D7a_6 := Lib.hid (D7_5.out.next (((Below.refl wu5.heap.size wu5).alloc (Nat.le_refl _) (.cells #[.int .i64 1, .int .i64 0] 3)).alloc (by first | (simp; done) | (simp; omega)) (.cells #[.int .i64 0, .int .i64 1] 3)))
  clear D7_5
  have X8a_6 := Lib.hid (X8_5.out.next (((Below.refl wu5.heap.size wu5).alloc (Nat.le_refl _) (.cells #[.int .i64 1, .int .i64 0] 3)).alloc (by first | (simp; done) | (simp; omega)) (.cells #[.int .i64 0, .int .i64 1] 3)))
  clear X8_5
  have I4a_60 : IX (wu5.alloc (.cells #[.int .i64 1, .int .i64 0] 3)) wu5.heap.size 2 (at0 [1, 0]) := by
      have h := IX.lit wu5 [1, 0]
      try simp only [World.size_alloc] at h
      exact h
  have I4a_6 := Lib.hid (I4a_60.next ((Below.refl (wu5.alloc (.cells #[.int .i64 1, .int .i64 0] 3)).heap.size (wu5.alloc (.cells #[.int .i64 1, .int .i64 0] 3))).alloc (by first | exact Nat.le_refl _ | (simp; done) | (simp; omega)) (.cells #[.int .i64 0, .int .i64 1] 3)))
  clear I4a_60
  have I5a_60 : IX ((wu5.alloc (.cells #[.int .i64 1, .int .i64 0] 3)).alloc (.cells #[.int .i64 0, .int .i64 1] 3)) (wu5.heap.size + 1) 2 (at0 [0, 1]) := by
      have h := IX.lit (wu5.alloc (.cells #[.int .i64 1, .int .i64 0] 3)) [0, 1]
      try simp only [World.size_alloc] at h
      exact h
  have I5a_6 := Lib.hid (I5a_60.next (Below.refl ((wu5.alloc (.cells #[.int .i64 1, .int .i64 0] 3)).alloc (.cells #[.int .i64 0, .int .i64 1] 3)).heap.size ((wu5.alloc (.cells #[.int .i64 1, .int .i64 0] 3)).alloc (.cells #[.int .i64 0, .int .i64 1] 3))))
  clear I5a_60
  generalize (wu5.alloc (.cells #[.int .i64 1, .int .i64 0] 3)).alloc (.cells #[.int .i64 0, .int .i64 1] 3) = wv6 at *
  with_reducible refine Calls.mono (rn1 _ _ _ _ _ _ _ _ _ X8a_6.out.cells I4a_6.out.holds I5a_6.out.holds) ?_
  rintro e wu6 ⟨a9, ca9, b9, cb9, c9, cc9, rfl, hin, hb⟩
  have L_6 := Lib.hid (La_6.out.next hb)
  have G1_6 := Lib.hid (G1a_6.out.next hb)
  have I1_6 := Lib.hid (I1a_6.out.next hb)
  have D3_6 := Lib.hid (D3a_6.out.next hb)
  have G5_6 := Lib.hid (G5a_6.out.next hb)
  have I2_6 := Lib.hid (I2a_6.out.next hb)
  have I3_6 := Lib.hid (I3a_6.out.next hb)
  have B1_6 := Lib.hid (B1a_6.out.next hb)
  have D7_6 := Lib.hid (D7a_6.out.next hb)
  have X8_6 := Lib.hid (X8a_6.out.next hb)
  have I4_6 := Lib.hid (I4a_6.out.next hb)
  have I5_6 := Lib.hid (I5a_6.out.next hb)
  clear La_6 G1a_6 I1a_6 D3a_6 G5a_6 I2a_6 I3a_6 B1a_6 D7a_6 X8a_6 I4a_6 I5a_6
  clear hb 
  have HIN9 := Lib.hid hin
  clear hin
  go_wp2_with fail
  have La_7 := Lib.hid (L_6.out.next ((Below.refl wu6.heap.size wu6).alloc (Nat.le_refl _) (.cells #[.int .i64 2, .int .i64 2, .slice (some ⟨a9, 0, none⟩) 3 ca9, .slice (some ⟨b9, 0, none⟩) 2 cb9, .int .i64 2, .int .i64 2, .slice (some ⟨c9, 0, none⟩) 4 cc9] 30)))
  clear L_6
  have G1a_7 := Lib.hid (G1_6.out.next ((Below.refl wu6.heap.size wu6).alloc (Nat.le_refl _) (.cells #[.int .i64 2, .int .i64 2, .slice (some ⟨a9, 0, none⟩) 3 ca9, .slice (some ⟨b9, 0, none⟩) 2 cb9, .int .i64 2, .int .i64 2, .slice (some ⟨c9, 0, none⟩) 4 cc9] 30)))
  clear G1_6
  have I1a_7 := Lib.hid (I1_6.out.next ((Below.refl wu6.heap.size wu6).alloc (Nat.le_refl _) (.cells #[.int .i64 2, .int .i64 2, .slice (some ⟨a9, 0, none⟩) 3 ca9, .slice (some ⟨b9, 0, none⟩) 2 cb9, .int .i64 2, .int .i64 2, .slice (some ⟨c9, 0, none⟩) 4 cc9] 30)))
  clear I1_6
  have D3a_7 := Lib.hid (D3_6.out.next ((Below.refl wu6.heap.size wu6).alloc (Nat.le_refl _) (.cells #[.int .i64 2, .int .i64 2, .slice (some ⟨a9, 0, none⟩) 3 ca9, .slice (some ⟨b9, 0, none⟩) 2 cb9, .int .i64 2, .int .i64 2, .slice (some ⟨c9, 0, none⟩) 4 cc9] 30)))
  clear D3_6
  have G5a_7 := Lib.hid (G5_6.out.next ((Below.refl wu6.heap.size wu6).alloc (Nat.le_refl _) (.cells #[.int .i64 2, .int .i64 2, .slice (some ⟨a9, 0, none⟩) 3 ca9, .slice (some ⟨b9, 0, none⟩) 2 cb9, .int .i64 2, .int .i64 2, .slice (some ⟨c9, 0, none⟩) 4 cc9] 30)))
  clear G5_6
  have I2a_7 := Lib.hid (I2_6.out.next ((Below.refl wu6.heap.size wu6).alloc (Nat.le_refl _) (.cells #[.int .i64 2, .int .i64 2, .slice (some ⟨a9, 0, none⟩) 3 ca9, .slice (some ⟨b9, 0, none⟩) 2 cb9, .int .i64 2, .int .i64 2, .slice (some ⟨c9, 0, none⟩) 4 cc9] 30)))
  clear I2_6
  have I3a_7 := Lib.hid (I3_6.out.next ((Below.refl wu6.heap.size wu6).alloc (Nat.le_refl _) (.cells #[.int .i64 2, .int .i64 2, .slice (some ⟨a9, 0, none⟩) 3 ca9, .slice (some ⟨b9, 0, none⟩) 2 cb9, .int .i64 2, .int .i64 2, .slice (some ⟨c9, 0, none⟩) 4 cc9] 30)))
  clear I3_6
  have B1a_7 := Lib.hid (B1_6.out.next ((Below.refl wu6.heap.size wu6).alloc (Nat.le_refl _) (.cells #[.int .i64 2, .int .i64 2, .slice (some ⟨a9, 0, none⟩) 3 ca9, .slice (some ⟨b9, 0, none⟩) 2 cb9, .int .i64 2, .int .i64 2, .slice (some ⟨c9, 0, none⟩) 4 cc9] 30)))
  clear B1_6
  have D7a_7 := Lib.hid (D7_6.out.next ((Below.refl wu6.heap.size wu6).alloc (Nat.le_refl _) (.cells #[.int .i64 2, .int .i64 2, .slice (some ⟨a9, 0, none⟩) 3 ca9, .slice (some ⟨b9, 0, none⟩) 2 cb9, .int .i64 2, .int .i64 2, .slice (some ⟨c9, 0, none⟩) 4 cc9] 30)))
  clear D7_6
  have X8a_7 := Lib.hid (X8_6.out.next ((Below.refl wu6.heap.size wu6).alloc (Nat.le_refl _) (.cells #[.int .i64 2, .int .i64 2, .slice (some ⟨a9, 0, none⟩) 3 ca9, .slice (some ⟨b9, 0, none⟩) 2 cb9, .int .i64 2, .int .i64 2, .slice (some ⟨c9, 0, none⟩) 4 cc9] 30)))
  clear X8_6
  have I4a_7 := Lib.hid (I4_6.out.next ((Below.refl wu6.heap.size wu6).alloc (Nat.le_refl _) (.cells #[.int .i64 2, .int .i64 2, .slice (some ⟨a9, 0, none⟩) 3 ca9, .slice (some ⟨b9, 0, none⟩) 2 cb9, .int .i64 2, .int .i64 2, .slice (some ⟨c9, 0, none⟩) 4 cc9] 30)))
  clear I4_6
  have I5a_7 := Lib.hid (I5_6.out.next ((Below.refl wu6.heap.size wu6).alloc (Nat.le_refl _) (.cells #[.int .i64 2, .int .i64 2, .slice (some ⟨a9, 0, none⟩) 3 ca9, .slice (some ⟨b9, 0, none⟩) 2 cb9, .int .i64 2, .int .i64 2, .slice (some ⟨c9, 0, none⟩) 4 cc9] 30)))
  clear I5_6
  have D9a_70 : DP (wu6.alloc (.cells #[.int .i64 2, .int .i64 2, .slice (some ⟨a9, 0, none⟩) 3 ca9, .slice (some ⟨b9, 0, none⟩) 2 cb9, .int .i64 2, .int .i64 2, .slice (some ⟨c9, 0, none⟩) 4 cc9] 30)) wu6.heap.size wu6.heap.size (gn.dr a9 ca9 b9 cb9 c9 cc9) := by
      have h := DP.new wu6 HIN9.out
      try simp only [World.size_alloc] at h
      exact h
  have D9a_7 := Lib.hid (D9a_70.next (Below.refl (wu6.alloc (.cells #[.int .i64 2, .int .i64 2, .slice (some ⟨a9, 0, none⟩) 3 ca9, .slice (some ⟨b9, 0, none⟩) 2 cb9, .int .i64 2, .int .i64 2, .slice (some ⟨c9, 0, none⟩) 4 cc9] 30)).heap.size (wu6.alloc (.cells #[.int .i64 2, .int .i64 2, .slice (some ⟨a9, 0, none⟩) 3 ca9, .slice (some ⟨b9, 0, none⟩) 2 cb9, .int .i64 2, .int .i64 2, .slice (some ⟨c9, 0, none⟩) 4 cc9] 30))))
  clear D9a_70
  generalize wu6.alloc (.cells #[.int .i64 2, .int .i64 2, .slice (some ⟨a9, 0, none⟩) 3 ca9, .slice (some ⟨b9, 0, none⟩) 2 cb9, .int .i64 2, .int .i64 2, .slice (some ⟨c9, 0, none⟩) 4 cc9] 30) = wv7 at *
  with_reducible refine Calls.mono (given_dx _) ?_
  rintro e wu7 ⟨a10, ca10, b10, cb10, c10, cc10, rfl, hdx, hb⟩
  have L_7 := Lib.hid (La_7.out.next hb)
  have G1_7 := Lib.hid (G1a_7.out.next hb)
  have I1_7 := Lib.hid (I1a_7.out.next hb)
  have D3_7 := Lib.hid (D3a_7.out.next hb)
  have G5_7 := Lib.hid (G5a_7.out.next hb)
  have I2_7 := Lib.hid (I2a_7.out.next hb)
  have I3_7 := Lib.hid (I3a_7.out.next hb)
  have B1_7 := Lib.hid (B1a_7.out.next hb)
  have D7_7 := Lib.hid (D7a_7.out.next hb)
  have X8_7 := Lib.hid (X8a_7.out.next hb)
  have I4_7 := Lib.hid (I4a_7.out.next hb)
  have I5_7 := Lib.hid (I5a_7.out.next hb)
  have D9_7 := Lib.hid (D9a_7.out.next hb)
  clear La_7 G1a_7 I1a_7 D3a_7 G5a_7 I2a_7 I3a_7 B1a_7 D7a_7 X8a_7 I4a_7 I5a_7 D9a_7
  have X10_7 := Lib.hid (hdx)
  clear hb hdx
  go_wp2_with fail
  with_reducible refine Calls.mono (tn1 _ _ _ _ _ _ _ X10_7.out.cells) ?_
  rintro e wu8 ⟨a11, ca11, b11, cb11, c11, cc11, rfl, hin, hb⟩
  have L_8 := Lib.hid (L_7.out.next hb)
  have G1_8 := Lib.hid (G1_7.out.next hb)
  have I1_8 := Lib.hid (I1_7.out.next hb)
  have D3_8 := Lib.hid (D3_7.out.next hb)
  have G5_8 := Lib.hid (G5_7.out.next hb)
  have I2_8 := Lib.hid (I2_7.out.next hb)
  have I3_8 := Lib.hid (I3_7.out.next hb)
  have B1_8 := Lib.hid (B1_7.out.next hb)
  have D7_8 := Lib.hid (D7_7.out.next hb)
  have X8_8 := Lib.hid (X8_7.out.next hb)
  have I4_8 := Lib.hid (I4_7.out.next hb)
  have I5_8 := Lib.hid (I5_7.out.next hb)
  have D9_8 := Lib.hid (D9_7.out.next hb)
  have X10_8 := Lib.hid (X10_7.out.next hb)
  clear L_7 G1_7 I1_7 D3_7 G5_7 I2_7 I3_7 B1_7 D7_7 X8_7 I4_7 I5_7 D9_7 X10_7
  clear hb 
  have HIN11 := Lib.hid hin
  clear hin
  have ff : wu8.cell? ⟨wu2.heap.size, 0, none⟩ = some (.int .i64 3) ∧ wu8.cell? ⟨wu2.heap.size, 1, none⟩ = some (.int .i64 2) ∧ wu8.cell? ⟨wu2.heap.size, 2, none⟩ = some (.slice (some ⟨a3, 0, none⟩) 4 ca3) ∧ wu8.cell? ⟨wu2.heap.size, 3, none⟩ = some (.slice (some ⟨b3, 0, none⟩) 3 cb3) ∧ wu8.cell? ⟨wu2.heap.size, 4, none⟩ = some (.int .i64 2) ∧ wu8.cell? ⟨wu2.heap.size, 5, none⟩ = some (.int .i64 3) ∧ wu8.cell? ⟨wu2.heap.size, 6, none⟩ = some (.slice (some ⟨c3, 0, none⟩) 6 cc3) := D3_8.out.seven
  have fl : wu2.heap.size < wu8.heap.size := D3_8.out.box.lt
  obtain ⟨f0, f1, f2, f3, f4, f5, f6⟩ := ff
  have f7 := fl
  clear fl
  go_wp2_with fail
  clear f0 f1 f2 f3 f4 f5 f6 f7
  have La_9 := Lib.hid (L_8.out.next (((Below.refl wu8.heap.size wu8).alloc (Nat.le_refl _) (.cells #[.int .i64 2, .int .i64 2, .slice (some ⟨a11, 0, none⟩) 2 ca11, .slice (some ⟨b11, 0, none⟩) 3 cb11, .int .i64 2, .int .i64 2, .slice (some ⟨c11, 0, none⟩) 4 cc11] 30)).alloc (by first | (simp; done) | (simp; omega)) (.cells #[.int .i64 0, .int .i64 1, .int .i64 0] 3)))
  clear L_8
  have G1a_9 := Lib.hid (G1_8.out.next (((Below.refl wu8.heap.size wu8).alloc (Nat.le_refl _) (.cells #[.int .i64 2, .int .i64 2, .slice (some ⟨a11, 0, none⟩) 2 ca11, .slice (some ⟨b11, 0, none⟩) 3 cb11, .int .i64 2, .int .i64 2, .slice (some ⟨c11, 0, none⟩) 4 cc11] 30)).alloc (by first | (simp; done) | (simp; omega)) (.cells #[.int .i64 0, .int .i64 1, .int .i64 0] 3)))
  clear G1_8
  have I1a_9 := Lib.hid (I1_8.out.next (((Below.refl wu8.heap.size wu8).alloc (Nat.le_refl _) (.cells #[.int .i64 2, .int .i64 2, .slice (some ⟨a11, 0, none⟩) 2 ca11, .slice (some ⟨b11, 0, none⟩) 3 cb11, .int .i64 2, .int .i64 2, .slice (some ⟨c11, 0, none⟩) 4 cc11] 30)).alloc (by first | (simp; done) | (simp; omega)) (.cells #[.int .i64 0, .int .i64 1, .int .i64 0] 3)))
  clear I1_8
  have D3a_9 := Lib.hid (D3_8.out.next (((Below.refl wu8.heap.size wu8).alloc (Nat.le_refl _) (.cells #[.int .i64 2, .int .i64 2, .slice (some ⟨a11, 0, none⟩) 2 ca11, .slice (some ⟨b11, 0, none⟩) 3 cb11, .int .i64 2, .int .i64 2, .slice (some ⟨c11, 0, none⟩) 4 cc11] 30)).alloc (by first | (simp; done) | (simp; omega)) (.cells #[.int .i64 0, .int .i64 1, .int .i64 0] 3)))
  clear D3_8
  have G5a_9 := Lib.hid (G5_8.out.next (((Below.refl wu8.heap.size wu8).alloc (Nat.le_refl _) (.cells #[.int .i64 2, .int .i64 2, .slice (some ⟨a11, 0, none⟩) 2 ca11, .slice (some ⟨b11, 0, none⟩) 3 cb11, .int .i64 2, .int .i64 2, .slice (some ⟨c11, 0, none⟩) 4 cc11] 30)).alloc (by first | (simp; done) | (simp; omega)) (.cells #[.int .i64 0, .int .i64 1, .int .i64 0] 3)))
  clear G5_8
  have I2a_9 := Lib.hid (I2_8.out.next (((Below.refl wu8.heap.size wu8).alloc (Nat.le_refl _) (.cells #[.int .i64 2, .int .i64 2, .slice (some ⟨a11, 0, none⟩) 2 ca11, .slice (some ⟨b11, 0, none⟩) 3 cb11, .int .i64 2, .int .i64 2, .slice (some ⟨c11, 0, none⟩) 4 cc11] 30)).alloc (by first | (simp; done) | (simp; omega)) (.cells #[.int .i64 0, .int .i64 1, .int .i64 0] 3)))
  clear I2_8
  have I3a_9 := Lib.hid (I3_8.out.next (((Below.refl wu8.heap.size wu8).alloc (Nat.le_refl _) (.cells #[.int .i64 2, .int .i64 2, .slice (some ⟨a11, 0, none⟩) 2 ca11, .slice (some ⟨b11, 0, none⟩) 3 cb11, .int .i64 2, .int .i64 2, .slice (some ⟨c11, 0, none⟩) 4 cc11] 30)).alloc (by first | (simp; done) | (simp; omega)) (.cells #[.int .i64 0, .int .i64 1, .int .i64 0] 3)))
  clear I3_8
  have B1a_9 := Lib.hid (B1_8.out.next (((Below.refl wu8.heap.size wu8).alloc (Nat.le_refl _) (.cells #[.int .i64 2, .int .i64 2, .slice (some ⟨a11, 0, none⟩) 2 ca11, .slice (some ⟨b11, 0, none⟩) 3 cb11, .int .i64 2, .int .i64 2, .slice (some ⟨c11, 0, none⟩) 4 cc11] 30)).alloc (by first | (simp; done) | (simp; omega)) (.cells #[.int .i64 0, .int .i64 1, .int .i64 0] 3)))
  clear B1_8
  have D7a_9 := Lib.hid (D7_8.out.next (((Below.refl wu8.heap.size wu8).alloc (Nat.le_refl _) (.cells #[.int .i64 2, .int .i64 2, .slice (some ⟨a11, 0, none⟩) 2 ca11, .slice (some ⟨b11, 0, none⟩) 3 cb11, .int .i64 2, .int .i64 2, .slice (some ⟨c11, 0, none⟩) 4 cc11] 30)).alloc (by first | (simp; done) | (simp; omega)) (.cells #[.int .i64 0, .int .i64 1, .int .i64 0] 3)))
  clear D7_8
  have X8a_9 := Lib.hid (X8_8.out.next (((Below.refl wu8.heap.size wu8).alloc (Nat.le_refl _) (.cells #[.int .i64 2, .int .i64 2, .slice (some ⟨a11, 0, none⟩) 2 ca11, .slice (some ⟨b11, 0, none⟩) 3 cb11, .int .i64 2, .int .i64 2, .slice (some ⟨c11, 0, none⟩) 4 cc11] 30)).alloc (by first | (simp; done) | (simp; omega)) (.cells #[.int .i64 0, .int .i64 1, .int .i64 0] 3)))
  clear X8_8
  have I4a_9 := Lib.hid (I4_8.out.next (((Below.refl wu8.heap.size wu8).alloc (Nat.le_refl _) (.cells #[.int .i64 2, .int .i64 2, .slice (some ⟨a11, 0, none⟩) 2 ca11, .slice (some ⟨b11, 0, none⟩) 3 cb11, .int .i64 2, .int .i64 2, .slice (some ⟨c11, 0, none⟩) 4 cc11] 30)).alloc (by first | (simp; done) | (simp; omega)) (.cells #[.int .i64 0, .int .i64 1, .int .i64 0] 3)))
  clear I4_8
  have I5a_9 := Lib.hid (I5_8.out.next (((Below.refl wu8.heap.size wu8).alloc (Nat.le_refl _) (.cells #[.int .i64 2, .int .i64 2, .slice (some ⟨a11, 0, none⟩) 2 ca11, .slice (some ⟨b11, 0, none⟩) 3 cb11, .int .i64 2, .int .i64 2, .slice (some ⟨c11, 0, none⟩) 4 cc11] 30)).alloc (by first | (simp; done) | (simp; omega)) (.cells #[.int .i64 0, .int .i64 1, .int .i64 0] 3)))
  clear I5_8
  have D9a_9 := Lib.hid (D9_8.out.next (((Below.refl wu8.heap.size wu8).alloc (Nat.le_refl _) (.cells #[.int .i64 2, .int .i64 2, .slice (some ⟨a11, 0, none⟩) 2 ca11, .slice (some ⟨b11, 0, none⟩) 3 cb11, .int .i64 2, .int .i64 2, .slice (some ⟨c11, 0, none⟩) 4 cc11] 30)).alloc (by first | (simp; done) | (simp; omega)) (.cells #[.int .i64 0, .int .i64 1, .int .i64 0] 3)))
  clear D9_8
  have X10a_9 := Lib.hid (X10_8.out.next (((Below.refl wu8.heap.size wu8).alloc (Nat.le_refl _) (.cells #[.int .i64 2, .int .i64 2, .slice (some ⟨a11, 0, none⟩) 2 ca11, .slice (some ⟨b11, 0, none⟩) 3 cb11, .int .i64 2, .int .i64 2, .slice (some ⟨c11, 0, none⟩) 4 cc11] 30)).alloc (by first | (simp; done) | (simp; omega)) (.cells #[.int .i64 0, .int .i64 1, .int .i64 0] 3)))
  clear X10_8
  have D11a_90 : DP (wu8.alloc (.cells #[.int .i64 2, .int .i64 2, .slice (some ⟨a11, 0, none⟩) 2 ca11, .slice (some ⟨b11, 0, none⟩) 3 cb11, .int .i64 2, .int .i64 2, .slice (some ⟨c11, 0, none⟩) 4 cc11] 30)) wu8.heap.size wu8.heap.size (gv.turn.dr a11 ca11 b11 cb11 c11 cc11) := by
      have h := DP.new wu8 HIN11.out
      try simp only [World.size_alloc] at h
      exact h
  have D11a_9 := Lib.hid (D11a_90.next ((Below.refl (wu8.alloc (.cells #[.int .i64 2, .int .i64 2, .slice (some ⟨a11, 0, none⟩) 2 ca11, .slice (some ⟨b11, 0, none⟩) 3 cb11, .int .i64 2, .int .i64 2, .slice (some ⟨c11, 0, none⟩) 4 cc11] 30)).heap.size (wu8.alloc (.cells #[.int .i64 2, .int .i64 2, .slice (some ⟨a11, 0, none⟩) 2 ca11, .slice (some ⟨b11, 0, none⟩) 3 cb11, .int .i64 2, .int .i64 2, .slice (some ⟨c11, 0, none⟩) 4 cc11] 30))).alloc (by first | exact Nat.le_refl _ | (simp; done) | (simp; omega)) (.cells #[.int .i64 0, .int .i64 1, .int .i64 0] 3)))
  clear D11a_90
  have I6a_90 : IX ((wu8.alloc (.cells #[.int .i64 2, .int .i64 2, .slice (some ⟨a11, 0, none⟩) 2 ca11, .slice (some ⟨b11, 0, none⟩) 3 cb11, .int .i64 2, .int .i64 2, .slice (some ⟨c11, 0, none⟩) 4 cc11] 30)).alloc (.cells #[.int .i64 0, .int .i64 1, .int .i64 0] 3)) (wu8.heap.size + 1) 3 (at0 [0, 1, 0]) := by
      have h := IX.lit (wu8.alloc (.cells #[.int .i64 2, .int .i64 2, .slice (some ⟨a11, 0, none⟩) 2 ca11, .slice (some ⟨b11, 0, none⟩) 3 cb11, .int .i64 2, .int .i64 2, .slice (some ⟨c11, 0, none⟩) 4 cc11] 30)) [0, 1, 0]
      try simp only [World.size_alloc] at h
      exact h
  have I6a_9 := Lib.hid (I6a_90.next (Below.refl ((wu8.alloc (.cells #[.int .i64 2, .int .i64 2, .slice (some ⟨a11, 0, none⟩) 2 ca11, .slice (some ⟨b11, 0, none⟩) 3 cb11, .int .i64 2, .int .i64 2, .slice (some ⟨c11, 0, none⟩) 4 cc11] 30)).alloc (.cells #[.int .i64 0, .int .i64 1, .int .i64 0] 3)).heap.size ((wu8.alloc (.cells #[.int .i64 2, .int .i64 2, .slice (some ⟨a11, 0, none⟩) 2 ca11, .slice (some ⟨b11, 0, none⟩) 3 cb11, .int .i64 2, .int .i64 2, .slice (some ⟨c11, 0, none⟩) 4 cc11] 30)).alloc (.cells #[.int .i64 0, .int .i64 1, .int .i64 0] 3))))
  clear I6a_90
  generalize (wu8.alloc (.cells #[.int .i64 2, .int .i64 2, .slice (some ⟨a11, 0, none⟩) 2 ca11, .slice (some ⟨b11, 0, none⟩) 3 cb11, .int .i64 2, .int .i64 2, .slice (some ⟨c11, 0, none⟩) 4 cc11] 30)).alloc (.cells #[.int .i64 0, .int .i64 1, .int .i64 0] 3) = wv9 at *
  with_reducible refine Calls.mono (rieq_tr pd [0, 1, 0] 3 rfl (by decide) _ _ _ _ _ _ _ _ D3a_9.out.in_ I6a_9.out.holds (by omega)) ?_
  rintro e wu9 ⟨rfl, hb⟩
  have L_9 := Lib.hid (La_9.out.next hb)
  have G1_9 := Lib.hid (G1a_9.out.next hb)
  have I1_9 := Lib.hid (I1a_9.out.next hb)
  have D3_9 := Lib.hid (D3a_9.out.next hb)
  have G5_9 := Lib.hid (G5a_9.out.next hb)
  have I2_9 := Lib.hid (I2a_9.out.next hb)
  have I3_9 := Lib.hid (I3a_9.out.next hb)
  have B1_9 := Lib.hid (B1a_9.out.next hb)
  have D7_9 := Lib.hid (D7a_9.out.next hb)
  have X8_9 := Lib.hid (X8a_9.out.next hb)
  have I4_9 := Lib.hid (I4a_9.out.next hb)
  have I5_9 := Lib.hid (I5a_9.out.next hb)
  have D9_9 := Lib.hid (D9a_9.out.next hb)
  have X10_9 := Lib.hid (X10a_9.out.next hb)
  have D11_9 := Lib.hid (D11a_9.out.next hb)
  have I6_9 := Lib.hid (I6a_9.out.next hb)
  clear La_9 G1a_9 I1a_9 D3a_9 G5a_9 I2a_9 I3a_9 B1a_9 D7a_9 X8a_9 I4a_9 I5a_9 D9a_9 X10a_9 D11a_9 I6a_9
  clear hb 
  have ff : wu9.cell? ⟨wu3.heap.size, 0, none⟩ = some (.int .i64 4) ∧ wu9.cell? ⟨wu3.heap.size, 1, none⟩ = some (.int .i64 3) ∧ wu9.cell? ⟨wu3.heap.size, 2, none⟩ = some (.slice (some ⟨k5, 0, none⟩) 12 12) := G5_9.out.lits
  have fl : wu3.heap.size < wu9.heap.size := G5_9.out.box.lt
  obtain ⟨f0, f1, f2⟩ := ff
  have f3 := fl
  clear fl
  go_wp2_with fail
  clear f0 f1 f2 f3
  with_reducible refine Calls.mono (rd1 _ _ G5_9.out.holds) ?_
  rintro e wu10 ⟨rfl, hb⟩
  have L_10 := Lib.hid (L_9.out.next hb)
  have G1_10 := Lib.hid (G1_9.out.next hb)
  have I1_10 := Lib.hid (I1_9.out.next hb)
  have D3_10 := Lib.hid (D3_9.out.next hb)
  have G5_10 := Lib.hid (G5_9.out.next hb)
  have I2_10 := Lib.hid (I2_9.out.next hb)
  have I3_10 := Lib.hid (I3_9.out.next hb)
  have B1_10 := Lib.hid (B1_9.out.next hb)
  have D7_10 := Lib.hid (D7_9.out.next hb)
  have X8_10 := Lib.hid (X8_9.out.next hb)
  have I4_10 := Lib.hid (I4_9.out.next hb)
  have I5_10 := Lib.hid (I5_9.out.next hb)
  have D9_10 := Lib.hid (D9_9.out.next hb)
  have X10_10 := Lib.hid (X10_9.out.next hb)
  have D11_10 := Lib.hid (D11_9.out.next hb)
  have I6_10 := Lib.hid (I6_9.out.next hb)
  clear L_9 G1_9 I1_9 D3_9 G5_9 I2_9 I3_9 B1_9 D7_9 X8_9 I4_9 I5_9 D9_9 X10_9 D11_9 I6_9
  clear hb 
  have ff : wu10.cell? ⟨wu4.heap.size, 0, none⟩ = some (.int .i64 2) ∧ wu10.cell? ⟨wu4.heap.size, 1, none⟩ = some (.int .i64 1) ∧ wu10.cell? ⟨wu4.heap.size, 2, none⟩ = some (.slice (some ⟨a7, 0, none⟩) 2 ca7) ∧ wu10.cell? ⟨wu4.heap.size, 3, none⟩ = some (.slice (some ⟨b7, 0, none⟩) 1 cb7) ∧ wu10.cell? ⟨wu4.heap.size, 4, none⟩ = some (.int .i64 1) ∧ wu10.cell? ⟨wu4.heap.size, 5, none⟩ = some (.int .i64 2) ∧ wu10.cell? ⟨wu4.heap.size, 6, none⟩ = some (.slice (some ⟨c7, 0, none⟩) 2 cc7) := D7_10.out.seven
  have fl : wu4.heap.size < wu10.heap.size := D7_10.out.box.lt
  obtain ⟨f0, f1, f2, f3, f4, f5, f6⟩ := ff
  have f7 := fl
  clear fl
  go_wp2_with fail
  clear f0 f1 f2 f3 f4 f5 f6 f7
  have La_11 := Lib.hid (L_10.out.next ((Below.refl wu10.heap.size wu10).alloc (Nat.le_refl _) (.cells #[.int .i64 1, .int .i64 0] 3)))
  clear L_10
  have G1a_11 := Lib.hid (G1_10.out.next ((Below.refl wu10.heap.size wu10).alloc (Nat.le_refl _) (.cells #[.int .i64 1, .int .i64 0] 3)))
  clear G1_10
  have I1a_11 := Lib.hid (I1_10.out.next ((Below.refl wu10.heap.size wu10).alloc (Nat.le_refl _) (.cells #[.int .i64 1, .int .i64 0] 3)))
  clear I1_10
  have D3a_11 := Lib.hid (D3_10.out.next ((Below.refl wu10.heap.size wu10).alloc (Nat.le_refl _) (.cells #[.int .i64 1, .int .i64 0] 3)))
  clear D3_10
  have G5a_11 := Lib.hid (G5_10.out.next ((Below.refl wu10.heap.size wu10).alloc (Nat.le_refl _) (.cells #[.int .i64 1, .int .i64 0] 3)))
  clear G5_10
  have I2a_11 := Lib.hid (I2_10.out.next ((Below.refl wu10.heap.size wu10).alloc (Nat.le_refl _) (.cells #[.int .i64 1, .int .i64 0] 3)))
  clear I2_10
  have I3a_11 := Lib.hid (I3_10.out.next ((Below.refl wu10.heap.size wu10).alloc (Nat.le_refl _) (.cells #[.int .i64 1, .int .i64 0] 3)))
  clear I3_10
  have B1a_11 := Lib.hid (B1_10.out.next ((Below.refl wu10.heap.size wu10).alloc (Nat.le_refl _) (.cells #[.int .i64 1, .int .i64 0] 3)))
  clear B1_10
  have D7a_11 := Lib.hid (D7_10.out.next ((Below.refl wu10.heap.size wu10).alloc (Nat.le_refl _) (.cells #[.int .i64 1, .int .i64 0] 3)))
  clear D7_10
  have X8a_11 := Lib.hid (X8_10.out.next ((Below.refl wu10.heap.size wu10).alloc (Nat.le_refl _) (.cells #[.int .i64 1, .int .i64 0] 3)))
  clear X8_10
  have I4a_11 := Lib.hid (I4_10.out.next ((Below.refl wu10.heap.size wu10).alloc (Nat.le_refl _) (.cells #[.int .i64 1, .int .i64 0] 3)))
  clear I4_10
  have I5a_11 := Lib.hid (I5_10.out.next ((Below.refl wu10.heap.size wu10).alloc (Nat.le_refl _) (.cells #[.int .i64 1, .int .i64 0] 3)))
  clear I5_10
  have D9a_11 := Lib.hid (D9_10.out.next ((Below.refl wu10.heap.size wu10).alloc (Nat.le_refl _) (.cells #[.int .i64 1, .int .i64 0] 3)))
  clear D9_10
  have X10a_11 := Lib.hid (X10_10.out.next ((Below.refl wu10.heap.size wu10).alloc (Nat.le_refl _) (.cells #[.int .i64 1, .int .i64 0] 3)))
  clear X10_10
  have D11a_11 := Lib.hid (D11_10.out.next ((Below.refl wu10.heap.size wu10).alloc (Nat.le_refl _) (.cells #[.int .i64 1, .int .i64 0] 3)))
  clear D11_10
  have I6a_11 := Lib.hid (I6_10.out.next ((Below.refl wu10.heap.size wu10).alloc (Nat.le_refl _) (.cells #[.int .i64 1, .int .i64 0] 3)))
  clear I6_10
  have I7a_110 : IX (wu10.alloc (.cells #[.int .i64 1, .int .i64 0] 3)) wu10.heap.size 2 (at0 [1, 0]) := by
      have h := IX.lit wu10 [1, 0]
      try simp only [World.size_alloc] at h
      exact h
  have I7a_11 := Lib.hid (I7a_110.next (Below.refl (wu10.alloc (.cells #[.int .i64 1, .int .i64 0] 3)).heap.size (wu10.alloc (.cells #[.int .i64 1, .int .i64 0] 3))))
  clear I7a_110
  generalize wu10.alloc (.cells #[.int .i64 1, .int .i64 0] 3) = wv11 at *
  with_reducible refine Calls.mono (rieq_th pp [1, 0] 2 rfl (by decide) _ _ _ _ _ _ _ _ D7a_11.out.in_ I7a_11.out.holds (by omega)) ?_
  rintro e wu11 ⟨rfl, hb⟩
  have L_11 := Lib.hid (La_11.out.next hb)
  have G1_11 := Lib.hid (G1a_11.out.next hb)
  have I1_11 := Lib.hid (I1a_11.out.next hb)
  have D3_11 := Lib.hid (D3a_11.out.next hb)
  have G5_11 := Lib.hid (G5a_11.out.next hb)
  have I2_11 := Lib.hid (I2a_11.out.next hb)
  have I3_11 := Lib.hid (I3a_11.out.next hb)
  have B1_11 := Lib.hid (B1a_11.out.next hb)
  have D7_11 := Lib.hid (D7a_11.out.next hb)
  have X8_11 := Lib.hid (X8a_11.out.next hb)
  have I4_11 := Lib.hid (I4a_11.out.next hb)
  have I5_11 := Lib.hid (I5a_11.out.next hb)
  have D9_11 := Lib.hid (D9a_11.out.next hb)
  have X10_11 := Lib.hid (X10a_11.out.next hb)
  have D11_11 := Lib.hid (D11a_11.out.next hb)
  have I6_11 := Lib.hid (I6a_11.out.next hb)
  have I7_11 := Lib.hid (I7a_11.out.next hb)
  clear La_11 G1a_11 I1a_11 D3a_11 G5a_11 I2a_11 I3a_11 B1a_11 D7a_11 X8a_11 I4a_11 I5a_11 D9a_11 X10a_11 D11a_11 I6a_11 I7a_11
  clear hb 
  have ff : wu11.cell? ⟨wu4.heap.size, 0, none⟩ = some (.int .i64 2) ∧ wu11.cell? ⟨wu4.heap.size, 1, none⟩ = some (.int .i64 1) ∧ wu11.cell? ⟨wu4.heap.size, 2, none⟩ = some (.slice (some ⟨a7, 0, none⟩) 2 ca7) ∧ wu11.cell? ⟨wu4.heap.size, 3, none⟩ = some (.slice (some ⟨b7, 0, none⟩) 1 cb7) ∧ wu11.cell? ⟨wu4.heap.size, 4, none⟩ = some (.int .i64 1) ∧ wu11.cell? ⟨wu4.heap.size, 5, none⟩ = some (.int .i64 2) ∧ wu11.cell? ⟨wu4.heap.size, 6, none⟩ = some (.slice (some ⟨c7, 0, none⟩) 2 cc7) := D7_11.out.seven
  have fl : wu4.heap.size < wu11.heap.size := D7_11.out.box.lt
  obtain ⟨f0, f1, f2, f3, f4, f5, f6⟩ := ff
  have f7 := fl
  clear fl
  go_wp2_with fail
  clear f0 f1 f2 f3 f4 f5 f6 f7
  have La_12 := Lib.hid (L_11.out.next ((Below.refl wu11.heap.size wu11).alloc (Nat.le_refl _) (.cells #[.int .i64 0] 3)))
  clear L_11
  have G1a_12 := Lib.hid (G1_11.out.next ((Below.refl wu11.heap.size wu11).alloc (Nat.le_refl _) (.cells #[.int .i64 0] 3)))
  clear G1_11
  have I1a_12 := Lib.hid (I1_11.out.next ((Below.refl wu11.heap.size wu11).alloc (Nat.le_refl _) (.cells #[.int .i64 0] 3)))
  clear I1_11
  have D3a_12 := Lib.hid (D3_11.out.next ((Below.refl wu11.heap.size wu11).alloc (Nat.le_refl _) (.cells #[.int .i64 0] 3)))
  clear D3_11
  have G5a_12 := Lib.hid (G5_11.out.next ((Below.refl wu11.heap.size wu11).alloc (Nat.le_refl _) (.cells #[.int .i64 0] 3)))
  clear G5_11
  have I2a_12 := Lib.hid (I2_11.out.next ((Below.refl wu11.heap.size wu11).alloc (Nat.le_refl _) (.cells #[.int .i64 0] 3)))
  clear I2_11
  have I3a_12 := Lib.hid (I3_11.out.next ((Below.refl wu11.heap.size wu11).alloc (Nat.le_refl _) (.cells #[.int .i64 0] 3)))
  clear I3_11
  have B1a_12 := Lib.hid (B1_11.out.next ((Below.refl wu11.heap.size wu11).alloc (Nat.le_refl _) (.cells #[.int .i64 0] 3)))
  clear B1_11
  have D7a_12 := Lib.hid (D7_11.out.next ((Below.refl wu11.heap.size wu11).alloc (Nat.le_refl _) (.cells #[.int .i64 0] 3)))
  clear D7_11
  have X8a_12 := Lib.hid (X8_11.out.next ((Below.refl wu11.heap.size wu11).alloc (Nat.le_refl _) (.cells #[.int .i64 0] 3)))
  clear X8_11
  have I4a_12 := Lib.hid (I4_11.out.next ((Below.refl wu11.heap.size wu11).alloc (Nat.le_refl _) (.cells #[.int .i64 0] 3)))
  clear I4_11
  have I5a_12 := Lib.hid (I5_11.out.next ((Below.refl wu11.heap.size wu11).alloc (Nat.le_refl _) (.cells #[.int .i64 0] 3)))
  clear I5_11
  have D9a_12 := Lib.hid (D9_11.out.next ((Below.refl wu11.heap.size wu11).alloc (Nat.le_refl _) (.cells #[.int .i64 0] 3)))
  clear D9_11
  have X10a_12 := Lib.hid (X10_11.out.next ((Below.refl wu11.heap.size wu11).alloc (Nat.le_refl _) (.cells #[.int .i64 0] 3)))
  clear X10_11
  have D11a_12 := Lib.hid (D11_11.out.next ((Below.refl wu11.heap.size wu11).alloc (Nat.le_refl _) (.cells #[.int .i64 0] 3)))
  clear D11_11
  have I6a_12 := Lib.hid (I6_11.out.next ((Below.refl wu11.heap.size wu11).alloc (Nat.le_refl _) (.cells #[.int .i64 0] 3)))
  clear I6_11
  have I7a_12 := Lib.hid (I7_11.out.next ((Below.refl wu11.heap.size wu11).alloc (Nat.le_refl _) (.cells #[.int .i64 0] 3)))
  clear I7_11
  have I8a_120 : IX (wu11.alloc (.cells #[.int .i64 0] 3)) wu11.heap.size 1 (at0 [0]) := by
      have h := IX.lit wu11 [0]
      try simp only [World.size_alloc] at h
      exact h
  have I8a_12 := Lib.hid (I8a_120.next (Below.refl (wu11.alloc (.cells #[.int .i64 0] 3)).heap.size (wu11.alloc (.cells #[.int .i64 0] 3))))
  clear I8a_120
  generalize wu11.alloc (.cells #[.int .i64 0] 3) = wv12 at *
  with_reducible refine Calls.mono (rieq_tr pp [0] 1 rfl (by decide) _ _ _ _ _ _ _ _ D7a_12.out.in_ I8a_12.out.holds (by omega)) ?_
  rintro e wu12 ⟨rfl, hb⟩
  have L_12 := Lib.hid (La_12.out.next hb)
  have G1_12 := Lib.hid (G1a_12.out.next hb)
  have I1_12 := Lib.hid (I1a_12.out.next hb)
  have D3_12 := Lib.hid (D3a_12.out.next hb)
  have G5_12 := Lib.hid (G5a_12.out.next hb)
  have I2_12 := Lib.hid (I2a_12.out.next hb)
  have I3_12 := Lib.hid (I3a_12.out.next hb)
  have B1_12 := Lib.hid (B1a_12.out.next hb)
  have D7_12 := Lib.hid (D7a_12.out.next hb)
  have X8_12 := Lib.hid (X8a_12.out.next hb)
  have I4_12 := Lib.hid (I4a_12.out.next hb)
  have I5_12 := Lib.hid (I5a_12.out.next hb)
  have D9_12 := Lib.hid (D9a_12.out.next hb)
  have X10_12 := Lib.hid (X10a_12.out.next hb)
  have D11_12 := Lib.hid (D11a_12.out.next hb)
  have I6_12 := Lib.hid (I6a_12.out.next hb)
  have I7_12 := Lib.hid (I7a_12.out.next hb)
  have I8_12 := Lib.hid (I8a_12.out.next hb)
  clear La_12 G1a_12 I1a_12 D3a_12 G5a_12 I2a_12 I3a_12 B1a_12 D7a_12 X8a_12 I4a_12 I5a_12 D9a_12 X10a_12 D11a_12 I6a_12 I7a_12 I8a_12
  clear hb 
  have ff : wu12.cell? ⟨wu4.heap.size, 0, none⟩ = some (.int .i64 2) ∧ wu12.cell? ⟨wu4.heap.size, 1, none⟩ = some (.int .i64 1) ∧ wu12.cell? ⟨wu4.heap.size, 2, none⟩ = some (.slice (some ⟨a7, 0, none⟩) 2 ca7) ∧ wu12.cell? ⟨wu4.heap.size, 3, none⟩ = some (.slice (some ⟨b7, 0, none⟩) 1 cb7) ∧ wu12.cell? ⟨wu4.heap.size, 4, none⟩ = some (.int .i64 1) ∧ wu12.cell? ⟨wu4.heap.size, 5, none⟩ = some (.int .i64 2) ∧ wu12.cell? ⟨wu4.heap.size, 6, none⟩ = some (.slice (some ⟨c7, 0, none⟩) 2 cc7) := D7_12.out.seven
  have fl : wu4.heap.size < wu12.heap.size := D7_12.out.box.lt
  obtain ⟨f0, f1, f2, f3, f4, f5, f6⟩ := ff
  have f7 := fl
  clear fl
  go_wp2_with fail
  clear f0 f1 f2 f3 f4 f5 f6 f7
  with_reducible refine Calls.mono (rd2d _ _ _ _ _ _ _ D7_12.out.in_) ?_
  rintro e wu13 ⟨rfl, hb⟩
  have L_13 := Lib.hid (L_12.out.next hb)
  have G1_13 := Lib.hid (G1_12.out.next hb)
  have I1_13 := Lib.hid (I1_12.out.next hb)
  have D3_13 := Lib.hid (D3_12.out.next hb)
  have G5_13 := Lib.hid (G5_12.out.next hb)
  have I2_13 := Lib.hid (I2_12.out.next hb)
  have I3_13 := Lib.hid (I3_12.out.next hb)
  have B1_13 := Lib.hid (B1_12.out.next hb)
  have D7_13 := Lib.hid (D7_12.out.next hb)
  have X8_13 := Lib.hid (X8_12.out.next hb)
  have I4_13 := Lib.hid (I4_12.out.next hb)
  have I5_13 := Lib.hid (I5_12.out.next hb)
  have D9_13 := Lib.hid (D9_12.out.next hb)
  have X10_13 := Lib.hid (X10_12.out.next hb)
  have D11_13 := Lib.hid (D11_12.out.next hb)
  have I6_13 := Lib.hid (I6_12.out.next hb)
  have I7_13 := Lib.hid (I7_12.out.next hb)
  have I8_13 := Lib.hid (I8_12.out.next hb)
  clear L_12 G1_12 I1_12 D3_12 G5_12 I2_12 I3_12 B1_12 D7_12 X8_12 I4_12 I5_12 D9_12 X10_12 D11_12 I6_12 I7_12 I8_12
  clear hb 
  have ff : wu13.cell? ⟨wu6.heap.size, 0, none⟩ = some (.int .i64 2) ∧ wu13.cell? ⟨wu6.heap.size, 1, none⟩ = some (.int .i64 2) ∧ wu13.cell? ⟨wu6.heap.size, 2, none⟩ = some (.slice (some ⟨a9, 0, none⟩) 3 ca9) ∧ wu13.cell? ⟨wu6.heap.size, 3, none⟩ = some (.slice (some ⟨b9, 0, none⟩) 2 cb9) ∧ wu13.cell? ⟨wu6.heap.size, 4, none⟩ = some (.int .i64 2) ∧ wu13.cell? ⟨wu6.heap.size, 5, none⟩ = some (.int .i64 2) ∧ wu13.cell? ⟨wu6.heap.size, 6, none⟩ = some (.slice (some ⟨c9, 0, none⟩) 4 cc9) := D9_13.out.seven
  have fl : wu6.heap.size < wu13.heap.size := D9_13.out.box.lt
  obtain ⟨f0, f1, f2, f3, f4, f5, f6⟩ := ff
  have f7 := fl
  clear fl
  go_wp2_with fail
  clear f0 f1 f2 f3 f4 f5 f6 f7
  have La_14 := Lib.hid (L_13.out.next ((Below.refl wu13.heap.size wu13).alloc (Nat.le_refl _) (.cells #[.int .i64 1, .int .i64 0, .int .i64 1] 3)))
  clear L_13
  have G1a_14 := Lib.hid (G1_13.out.next ((Below.refl wu13.heap.size wu13).alloc (Nat.le_refl _) (.cells #[.int .i64 1, .int .i64 0, .int .i64 1] 3)))
  clear G1_13
  have I1a_14 := Lib.hid (I1_13.out.next ((Below.refl wu13.heap.size wu13).alloc (Nat.le_refl _) (.cells #[.int .i64 1, .int .i64 0, .int .i64 1] 3)))
  clear I1_13
  have D3a_14 := Lib.hid (D3_13.out.next ((Below.refl wu13.heap.size wu13).alloc (Nat.le_refl _) (.cells #[.int .i64 1, .int .i64 0, .int .i64 1] 3)))
  clear D3_13
  have G5a_14 := Lib.hid (G5_13.out.next ((Below.refl wu13.heap.size wu13).alloc (Nat.le_refl _) (.cells #[.int .i64 1, .int .i64 0, .int .i64 1] 3)))
  clear G5_13
  have I2a_14 := Lib.hid (I2_13.out.next ((Below.refl wu13.heap.size wu13).alloc (Nat.le_refl _) (.cells #[.int .i64 1, .int .i64 0, .int .i64 1] 3)))
  clear I2_13
  have I3a_14 := Lib.hid (I3_13.out.next ((Below.refl wu13.heap.size wu13).alloc (Nat.le_refl _) (.cells #[.int .i64 1, .int .i64 0, .int .i64 1] 3)))
  clear I3_13
  have B1a_14 := Lib.hid (B1_13.out.next ((Below.refl wu13.heap.size wu13).alloc (Nat.le_refl _) (.cells #[.int .i64 1, .int .i64 0, .int .i64 1] 3)))
  clear B1_13
  have D7a_14 := Lib.hid (D7_13.out.next ((Below.refl wu13.heap.size wu13).alloc (Nat.le_refl _) (.cells #[.int .i64 1, .int .i64 0, .int .i64 1] 3)))
  clear D7_13
  have X8a_14 := Lib.hid (X8_13.out.next ((Below.refl wu13.heap.size wu13).alloc (Nat.le_refl _) (.cells #[.int .i64 1, .int .i64 0, .int .i64 1] 3)))
  clear X8_13
  have I4a_14 := Lib.hid (I4_13.out.next ((Below.refl wu13.heap.size wu13).alloc (Nat.le_refl _) (.cells #[.int .i64 1, .int .i64 0, .int .i64 1] 3)))
  clear I4_13
  have I5a_14 := Lib.hid (I5_13.out.next ((Below.refl wu13.heap.size wu13).alloc (Nat.le_refl _) (.cells #[.int .i64 1, .int .i64 0, .int .i64 1] 3)))
  clear I5_13
  have D9a_14 := Lib.hid (D9_13.out.next ((Below.refl wu13.heap.size wu13).alloc (Nat.le_refl _) (.cells #[.int .i64 1, .int .i64 0, .int .i64 1] 3)))
  clear D9_13
  have X10a_14 := Lib.hid (X10_13.out.next ((Below.refl wu13.heap.size wu13).alloc (Nat.le_refl _) (.cells #[.int .i64 1, .int .i64 0, .int .i64 1] 3)))
  clear X10_13
  have D11a_14 := Lib.hid (D11_13.out.next ((Below.refl wu13.heap.size wu13).alloc (Nat.le_refl _) (.cells #[.int .i64 1, .int .i64 0, .int .i64 1] 3)))
  clear D11_13
  have I6a_14 := Lib.hid (I6_13.out.next ((Below.refl wu13.heap.size wu13).alloc (Nat.le_refl _) (.cells #[.int .i64 1, .int .i64 0, .int .i64 1] 3)))
  clear I6_13
  have I7a_14 := Lib.hid (I7_13.out.next ((Below.refl wu13.heap.size wu13).alloc (Nat.le_refl _) (.cells #[.int .i64 1, .int .i64 0, .int .i64 1] 3)))
  clear I7_13
  have I8a_14 := Lib.hid (I8_13.out.next ((Below.refl wu13.heap.size wu13).alloc (Nat.le_refl _) (.cells #[.int .i64 1, .int .i64 0, .int .i64 1] 3)))
  clear I8_13
  have I9a_140 : IX (wu13.alloc (.cells #[.int .i64 1, .int .i64 0, .int .i64 1] 3)) wu13.heap.size 3 (at0 [1, 0, 1]) := by
      have h := IX.lit wu13 [1, 0, 1]
      try simp only [World.size_alloc] at h
      exact h
  have I9a_14 := Lib.hid (I9a_140.next (Below.refl (wu13.alloc (.cells #[.int .i64 1, .int .i64 0, .int .i64 1] 3)).heap.size (wu13.alloc (.cells #[.int .i64 1, .int .i64 0, .int .i64 1] 3))))
  clear I9a_140
  generalize wu13.alloc (.cells #[.int .i64 1, .int .i64 0, .int .i64 1] 3) = wv14 at *
  with_reducible refine Calls.mono (rieq_th gn [1, 0, 1] 3 rfl (by decide) _ _ _ _ _ _ _ _ D9a_14.out.in_ I9a_14.out.holds (by omega)) ?_
  rintro e wu14 ⟨rfl, hb⟩
  have L_14 := Lib.hid (La_14.out.next hb)
  have G1_14 := Lib.hid (G1a_14.out.next hb)
  have I1_14 := Lib.hid (I1a_14.out.next hb)
  have D3_14 := Lib.hid (D3a_14.out.next hb)
  have G5_14 := Lib.hid (G5a_14.out.next hb)
  have I2_14 := Lib.hid (I2a_14.out.next hb)
  have I3_14 := Lib.hid (I3a_14.out.next hb)
  have B1_14 := Lib.hid (B1a_14.out.next hb)
  have D7_14 := Lib.hid (D7a_14.out.next hb)
  have X8_14 := Lib.hid (X8a_14.out.next hb)
  have I4_14 := Lib.hid (I4a_14.out.next hb)
  have I5_14 := Lib.hid (I5a_14.out.next hb)
  have D9_14 := Lib.hid (D9a_14.out.next hb)
  have X10_14 := Lib.hid (X10a_14.out.next hb)
  have D11_14 := Lib.hid (D11a_14.out.next hb)
  have I6_14 := Lib.hid (I6a_14.out.next hb)
  have I7_14 := Lib.hid (I7a_14.out.next hb)
  have I8_14 := Lib.hid (I8a_14.out.next hb)
  have I9_14 := Lib.hid (I9a_14.out.next hb)
  clear La_14 G1a_14 I1a_14 D3a_14 G5a_14 I2a_14 I3a_14 B1a_14 D7a_14 X8a_14 I4a_14 I5a_14 D9a_14 X10a_14 D11a_14 I6a_14 I7a_14 I8a_14 I9a_14
  clear hb 
  have ff : wu14.cell? ⟨wu6.heap.size, 0, none⟩ = some (.int .i64 2) ∧ wu14.cell? ⟨wu6.heap.size, 1, none⟩ = some (.int .i64 2) ∧ wu14.cell? ⟨wu6.heap.size, 2, none⟩ = some (.slice (some ⟨a9, 0, none⟩) 3 ca9) ∧ wu14.cell? ⟨wu6.heap.size, 3, none⟩ = some (.slice (some ⟨b9, 0, none⟩) 2 cb9) ∧ wu14.cell? ⟨wu6.heap.size, 4, none⟩ = some (.int .i64 2) ∧ wu14.cell? ⟨wu6.heap.size, 5, none⟩ = some (.int .i64 2) ∧ wu14.cell? ⟨wu6.heap.size, 6, none⟩ = some (.slice (some ⟨c9, 0, none⟩) 4 cc9) := D9_14.out.seven
  have fl : wu6.heap.size < wu14.heap.size := D9_14.out.box.lt
  obtain ⟨f0, f1, f2, f3, f4, f5, f6⟩ := ff
  have f7 := fl
  clear fl
  go_wp2_with fail
  clear f0 f1 f2 f3 f4 f5 f6 f7
  with_reducible refine Calls.mono (rd3d _ _ _ _ _ _ _ D9_14.out.in_) ?_
  rintro e wu15 ⟨rfl, hb⟩
  have L_15 := Lib.hid (L_14.out.next hb)
  have G1_15 := Lib.hid (G1_14.out.next hb)
  have I1_15 := Lib.hid (I1_14.out.next hb)
  have D3_15 := Lib.hid (D3_14.out.next hb)
  have G5_15 := Lib.hid (G5_14.out.next hb)
  have I2_15 := Lib.hid (I2_14.out.next hb)
  have I3_15 := Lib.hid (I3_14.out.next hb)
  have B1_15 := Lib.hid (B1_14.out.next hb)
  have D7_15 := Lib.hid (D7_14.out.next hb)
  have X8_15 := Lib.hid (X8_14.out.next hb)
  have I4_15 := Lib.hid (I4_14.out.next hb)
  have I5_15 := Lib.hid (I5_14.out.next hb)
  have D9_15 := Lib.hid (D9_14.out.next hb)
  have X10_15 := Lib.hid (X10_14.out.next hb)
  have D11_15 := Lib.hid (D11_14.out.next hb)
  have I6_15 := Lib.hid (I6_14.out.next hb)
  have I7_15 := Lib.hid (I7_14.out.next hb)
  have I8_15 := Lib.hid (I8_14.out.next hb)
  have I9_15 := Lib.hid (I9_14.out.next hb)
  clear L_14 G1_14 I1_14 D3_14 G5_14 I2_14 I3_14 B1_14 D7_14 X8_14 I4_14 I5_14 D9_14 X10_14 D11_14 I6_14 I7_14 I8_14 I9_14
  clear hb 
  have ff : wu15.cell? ⟨wu8.heap.size, 0, none⟩ = some (.int .i64 2) ∧ wu15.cell? ⟨wu8.heap.size, 1, none⟩ = some (.int .i64 2) ∧ wu15.cell? ⟨wu8.heap.size, 2, none⟩ = some (.slice (some ⟨a11, 0, none⟩) 2 ca11) ∧ wu15.cell? ⟨wu8.heap.size, 3, none⟩ = some (.slice (some ⟨b11, 0, none⟩) 3 cb11) ∧ wu15.cell? ⟨wu8.heap.size, 4, none⟩ = some (.int .i64 2) ∧ wu15.cell? ⟨wu8.heap.size, 5, none⟩ = some (.int .i64 2) ∧ wu15.cell? ⟨wu8.heap.size, 6, none⟩ = some (.slice (some ⟨c11, 0, none⟩) 4 cc11) := D11_15.out.seven
  have fl : wu8.heap.size < wu15.heap.size := D11_15.out.box.lt
  obtain ⟨f0, f1, f2, f3, f4, f5, f6⟩ := ff
  have f7 := fl
  clear fl
  have ff : wu15.cell? ⟨wu1.heap.size, 0, none⟩ = some (.int .i64 3) ∧ wu15.cell? ⟨wu1.heap.size, 1, none⟩ = some (.int .i64 3) ∧ wu15.cell? ⟨wu1.heap.size, 2, none⟩ = some (.slice (some ⟨k1, 0, none⟩) 9 9) := G1_15.out.lits
  have fl : wu1.heap.size < wu15.heap.size := G1_15.out.box.lt
  obtain ⟨f8, f9, f10⟩ := ff
  have f11 := fl
  clear fl
  go_wp2_with fail
  clear f0 f1 f2 f3 f4 f5 f6 f7 f8 f9 f10 f11
  with_reducible refine Calls.mono (fl_nil _ _ G1_15.out.holds) ?_
  rintro e wu16 ⟨rfl, hb⟩
  have L_16 := Lib.hid (L_15.out.next hb)
  have G1_16 := Lib.hid (G1_15.out.next hb)
  have I1_16 := Lib.hid (I1_15.out.next hb)
  have D3_16 := Lib.hid (D3_15.out.next hb)
  have G5_16 := Lib.hid (G5_15.out.next hb)
  have I2_16 := Lib.hid (I2_15.out.next hb)
  have I3_16 := Lib.hid (I3_15.out.next hb)
  have B1_16 := Lib.hid (B1_15.out.next hb)
  have D7_16 := Lib.hid (D7_15.out.next hb)
  have X8_16 := Lib.hid (X8_15.out.next hb)
  have I4_16 := Lib.hid (I4_15.out.next hb)
  have I5_16 := Lib.hid (I5_15.out.next hb)
  have D9_16 := Lib.hid (D9_15.out.next hb)
  have X10_16 := Lib.hid (X10_15.out.next hb)
  have D11_16 := Lib.hid (D11_15.out.next hb)
  have I6_16 := Lib.hid (I6_15.out.next hb)
  have I7_16 := Lib.hid (I7_15.out.next hb)
  have I8_16 := Lib.hid (I8_15.out.next hb)
  have I9_16 := Lib.hid (I9_15.out.next hb)
  clear L_15 G1_15 I1_15 D3_15 G5_15 I2_15 I3_15 B1_15 D7_15 X8_15 I4_15 I5_15 D9_15 X10_15 D11_15 I6_15 I7_15 I8_15 I9_15
  clear hb 
  have ff : wu16.cell? ⟨wu1.heap.size, 0, none⟩ = some (.int .i64 3) ∧ wu16.cell? ⟨wu1.heap.size, 1, none⟩ = some (.int .i64 3) ∧ wu16.cell? ⟨wu1.heap.size, 2, none⟩ = some (.slice (some ⟨k1, 0, none⟩) 9 9) := G1_16.out.lits
  have fl : wu1.heap.size < wu16.heap.size := G1_16.out.box.lt
  obtain ⟨f0, f1, f2⟩ := ff
  have f3 := fl
  clear fl
  go_wp2_with fail
  clear f0 f1 f2 f3
  have La_17 := Lib.hid (L_16.out.next (((Below.refl wu16.heap.size wu16).alloc (Nat.le_refl _) (.cells #[.int .i64 0, .int .i64 0, .slice none 0 0, .slice none 0 0, .int .i64 0, .int .i64 0, .slice none 0 0] 30)).alloc (by first | (simp; done) | (simp; omega)) (.cells #[.int .i64 3] 3)))
  clear L_16
  have G1a_17 := Lib.hid (G1_16.out.next (((Below.refl wu16.heap.size wu16).alloc (Nat.le_refl _) (.cells #[.int .i64 0, .int .i64 0, .slice none 0 0, .slice none 0 0, .int .i64 0, .int .i64 0, .slice none 0 0] 30)).alloc (by first | (simp; done) | (simp; omega)) (.cells #[.int .i64 3] 3)))
  clear G1_16
  have I1a_17 := Lib.hid (I1_16.out.next (((Below.refl wu16.heap.size wu16).alloc (Nat.le_refl _) (.cells #[.int .i64 0, .int .i64 0, .slice none 0 0, .slice none 0 0, .int .i64 0, .int .i64 0, .slice none 0 0] 30)).alloc (by first | (simp; done) | (simp; omega)) (.cells #[.int .i64 3] 3)))
  clear I1_16
  have D3a_17 := Lib.hid (D3_16.out.next (((Below.refl wu16.heap.size wu16).alloc (Nat.le_refl _) (.cells #[.int .i64 0, .int .i64 0, .slice none 0 0, .slice none 0 0, .int .i64 0, .int .i64 0, .slice none 0 0] 30)).alloc (by first | (simp; done) | (simp; omega)) (.cells #[.int .i64 3] 3)))
  clear D3_16
  have G5a_17 := Lib.hid (G5_16.out.next (((Below.refl wu16.heap.size wu16).alloc (Nat.le_refl _) (.cells #[.int .i64 0, .int .i64 0, .slice none 0 0, .slice none 0 0, .int .i64 0, .int .i64 0, .slice none 0 0] 30)).alloc (by first | (simp; done) | (simp; omega)) (.cells #[.int .i64 3] 3)))
  clear G5_16
  have I2a_17 := Lib.hid (I2_16.out.next (((Below.refl wu16.heap.size wu16).alloc (Nat.le_refl _) (.cells #[.int .i64 0, .int .i64 0, .slice none 0 0, .slice none 0 0, .int .i64 0, .int .i64 0, .slice none 0 0] 30)).alloc (by first | (simp; done) | (simp; omega)) (.cells #[.int .i64 3] 3)))
  clear I2_16
  have I3a_17 := Lib.hid (I3_16.out.next (((Below.refl wu16.heap.size wu16).alloc (Nat.le_refl _) (.cells #[.int .i64 0, .int .i64 0, .slice none 0 0, .slice none 0 0, .int .i64 0, .int .i64 0, .slice none 0 0] 30)).alloc (by first | (simp; done) | (simp; omega)) (.cells #[.int .i64 3] 3)))
  clear I3_16
  have B1a_17 := Lib.hid (B1_16.out.next (((Below.refl wu16.heap.size wu16).alloc (Nat.le_refl _) (.cells #[.int .i64 0, .int .i64 0, .slice none 0 0, .slice none 0 0, .int .i64 0, .int .i64 0, .slice none 0 0] 30)).alloc (by first | (simp; done) | (simp; omega)) (.cells #[.int .i64 3] 3)))
  clear B1_16
  have D7a_17 := Lib.hid (D7_16.out.next (((Below.refl wu16.heap.size wu16).alloc (Nat.le_refl _) (.cells #[.int .i64 0, .int .i64 0, .slice none 0 0, .slice none 0 0, .int .i64 0, .int .i64 0, .slice none 0 0] 30)).alloc (by first | (simp; done) | (simp; omega)) (.cells #[.int .i64 3] 3)))
  clear D7_16
  have X8a_17 := Lib.hid (X8_16.out.next (((Below.refl wu16.heap.size wu16).alloc (Nat.le_refl _) (.cells #[.int .i64 0, .int .i64 0, .slice none 0 0, .slice none 0 0, .int .i64 0, .int .i64 0, .slice none 0 0] 30)).alloc (by first | (simp; done) | (simp; omega)) (.cells #[.int .i64 3] 3)))
  clear X8_16
  have I4a_17 := Lib.hid (I4_16.out.next (((Below.refl wu16.heap.size wu16).alloc (Nat.le_refl _) (.cells #[.int .i64 0, .int .i64 0, .slice none 0 0, .slice none 0 0, .int .i64 0, .int .i64 0, .slice none 0 0] 30)).alloc (by first | (simp; done) | (simp; omega)) (.cells #[.int .i64 3] 3)))
  clear I4_16
  have I5a_17 := Lib.hid (I5_16.out.next (((Below.refl wu16.heap.size wu16).alloc (Nat.le_refl _) (.cells #[.int .i64 0, .int .i64 0, .slice none 0 0, .slice none 0 0, .int .i64 0, .int .i64 0, .slice none 0 0] 30)).alloc (by first | (simp; done) | (simp; omega)) (.cells #[.int .i64 3] 3)))
  clear I5_16
  have D9a_17 := Lib.hid (D9_16.out.next (((Below.refl wu16.heap.size wu16).alloc (Nat.le_refl _) (.cells #[.int .i64 0, .int .i64 0, .slice none 0 0, .slice none 0 0, .int .i64 0, .int .i64 0, .slice none 0 0] 30)).alloc (by first | (simp; done) | (simp; omega)) (.cells #[.int .i64 3] 3)))
  clear D9_16
  have X10a_17 := Lib.hid (X10_16.out.next (((Below.refl wu16.heap.size wu16).alloc (Nat.le_refl _) (.cells #[.int .i64 0, .int .i64 0, .slice none 0 0, .slice none 0 0, .int .i64 0, .int .i64 0, .slice none 0 0] 30)).alloc (by first | (simp; done) | (simp; omega)) (.cells #[.int .i64 3] 3)))
  clear X10_16
  have D11a_17 := Lib.hid (D11_16.out.next (((Below.refl wu16.heap.size wu16).alloc (Nat.le_refl _) (.cells #[.int .i64 0, .int .i64 0, .slice none 0 0, .slice none 0 0, .int .i64 0, .int .i64 0, .slice none 0 0] 30)).alloc (by first | (simp; done) | (simp; omega)) (.cells #[.int .i64 3] 3)))
  clear D11_16
  have I6a_17 := Lib.hid (I6_16.out.next (((Below.refl wu16.heap.size wu16).alloc (Nat.le_refl _) (.cells #[.int .i64 0, .int .i64 0, .slice none 0 0, .slice none 0 0, .int .i64 0, .int .i64 0, .slice none 0 0] 30)).alloc (by first | (simp; done) | (simp; omega)) (.cells #[.int .i64 3] 3)))
  clear I6_16
  have I7a_17 := Lib.hid (I7_16.out.next (((Below.refl wu16.heap.size wu16).alloc (Nat.le_refl _) (.cells #[.int .i64 0, .int .i64 0, .slice none 0 0, .slice none 0 0, .int .i64 0, .int .i64 0, .slice none 0 0] 30)).alloc (by first | (simp; done) | (simp; omega)) (.cells #[.int .i64 3] 3)))
  clear I7_16
  have I8a_17 := Lib.hid (I8_16.out.next (((Below.refl wu16.heap.size wu16).alloc (Nat.le_refl _) (.cells #[.int .i64 0, .int .i64 0, .slice none 0 0, .slice none 0 0, .int .i64 0, .int .i64 0, .slice none 0 0] 30)).alloc (by first | (simp; done) | (simp; omega)) (.cells #[.int .i64 3] 3)))
  clear I8_16
  have I9a_17 := Lib.hid (I9_16.out.next (((Below.refl wu16.heap.size wu16).alloc (Nat.le_refl _) (.cells #[.int .i64 0, .int .i64 0, .slice none 0 0, .slice none 0 0, .int .i64 0, .int .i64 0, .slice none 0 0] 30)).alloc (by first | (simp; done) | (simp; omega)) (.cells #[.int .i64 3] 3)))
  clear I9_16
  have I10a_170 : IX ((wu16.alloc (.cells #[.int .i64 0, .int .i64 0, .slice none 0 0, .slice none 0 0, .int .i64 0, .int .i64 0, .slice none 0 0] 30)).alloc (.cells #[.int .i64 3] 3)) (wu16.heap.size + 1) 1 (at0 [3]) := by
      have h := IX.lit (wu16.alloc (.cells #[.int .i64 0, .int .i64 0, .slice none 0 0, .slice none 0 0, .int .i64 0, .int .i64 0, .slice none 0 0] 30)) [3]
      try simp only [World.size_alloc] at h
      exact h
  have I10a_17 := Lib.hid (I10a_170.next (Below.refl ((wu16.alloc (.cells #[.int .i64 0, .int .i64 0, .slice none 0 0, .slice none 0 0, .int .i64 0, .int .i64 0, .slice none 0 0] 30)).alloc (.cells #[.int .i64 3] 3)).heap.size ((wu16.alloc (.cells #[.int .i64 0, .int .i64 0, .slice none 0 0, .slice none 0 0, .int .i64 0, .int .i64 0, .slice none 0 0] 30)).alloc (.cells #[.int .i64 3] 3))))
  clear I10a_170
  generalize (wu16.alloc (.cells #[.int .i64 0, .int .i64 0, .slice none 0 0, .slice none 0 0, .int .i64 0, .int .i64 0, .slice none 0 0] 30)).alloc (.cells #[.int .i64 3] 3) = wv17 at *
  with_reducible refine Calls.mono (fl_3 _ _ _ I10a_17.out.holds G1a_17.out.holds) ?_
  rintro e wu17 ⟨rfl, hb⟩
  have L_17 := Lib.hid (La_17.out.next hb)
  have G1_17 := Lib.hid (G1a_17.out.next hb)
  have I1_17 := Lib.hid (I1a_17.out.next hb)
  have D3_17 := Lib.hid (D3a_17.out.next hb)
  have G5_17 := Lib.hid (G5a_17.out.next hb)
  have I2_17 := Lib.hid (I2a_17.out.next hb)
  have I3_17 := Lib.hid (I3a_17.out.next hb)
  have B1_17 := Lib.hid (B1a_17.out.next hb)
  have D7_17 := Lib.hid (D7a_17.out.next hb)
  have X8_17 := Lib.hid (X8a_17.out.next hb)
  have I4_17 := Lib.hid (I4a_17.out.next hb)
  have I5_17 := Lib.hid (I5a_17.out.next hb)
  have D9_17 := Lib.hid (D9a_17.out.next hb)
  have X10_17 := Lib.hid (X10a_17.out.next hb)
  have D11_17 := Lib.hid (D11a_17.out.next hb)
  have I6_17 := Lib.hid (I6a_17.out.next hb)
  have I7_17 := Lib.hid (I7a_17.out.next hb)
  have I8_17 := Lib.hid (I8a_17.out.next hb)
  have I9_17 := Lib.hid (I9a_17.out.next hb)
  have I10_17 := Lib.hid (I10a_17.out.next hb)
  clear La_17 G1a_17 I1a_17 D3a_17 G5a_17 I2a_17 I3a_17 B1a_17 D7a_17 X8a_17 I4a_17 I5a_17 D9a_17 X10a_17 D11a_17 I6a_17 I7a_17 I8a_17 I9a_17 I10a_17
  clear hb 
  go_upto_region 10 with fail
  have La_17 := Lib.hid (L_17.out.next ((Below.refl wu17.heap.size wu17).alloc (Nat.le_refl _) (.cells #[.int .i64 0, .int .i64 0, .slice none 0 0, .slice none 0 0, .int .i64 0, .int .i64 0, .slice none 0 0] 30)))
  clear L_17
  have G1a_17 := Lib.hid (G1_17.out.next ((Below.refl wu17.heap.size wu17).alloc (Nat.le_refl _) (.cells #[.int .i64 0, .int .i64 0, .slice none 0 0, .slice none 0 0, .int .i64 0, .int .i64 0, .slice none 0 0] 30)))
  clear G1_17
  have I1a_17 := Lib.hid (I1_17.out.next ((Below.refl wu17.heap.size wu17).alloc (Nat.le_refl _) (.cells #[.int .i64 0, .int .i64 0, .slice none 0 0, .slice none 0 0, .int .i64 0, .int .i64 0, .slice none 0 0] 30)))
  clear I1_17
  have D3a_17 := Lib.hid (D3_17.out.next ((Below.refl wu17.heap.size wu17).alloc (Nat.le_refl _) (.cells #[.int .i64 0, .int .i64 0, .slice none 0 0, .slice none 0 0, .int .i64 0, .int .i64 0, .slice none 0 0] 30)))
  clear D3_17
  have G5a_17 := Lib.hid (G5_17.out.next ((Below.refl wu17.heap.size wu17).alloc (Nat.le_refl _) (.cells #[.int .i64 0, .int .i64 0, .slice none 0 0, .slice none 0 0, .int .i64 0, .int .i64 0, .slice none 0 0] 30)))
  clear G5_17
  have I2a_17 := Lib.hid (I2_17.out.next ((Below.refl wu17.heap.size wu17).alloc (Nat.le_refl _) (.cells #[.int .i64 0, .int .i64 0, .slice none 0 0, .slice none 0 0, .int .i64 0, .int .i64 0, .slice none 0 0] 30)))
  clear I2_17
  have I3a_17 := Lib.hid (I3_17.out.next ((Below.refl wu17.heap.size wu17).alloc (Nat.le_refl _) (.cells #[.int .i64 0, .int .i64 0, .slice none 0 0, .slice none 0 0, .int .i64 0, .int .i64 0, .slice none 0 0] 30)))
  clear I3_17
  have B1a_17 := Lib.hid (B1_17.out.next ((Below.refl wu17.heap.size wu17).alloc (Nat.le_refl _) (.cells #[.int .i64 0, .int .i64 0, .slice none 0 0, .slice none 0 0, .int .i64 0, .int .i64 0, .slice none 0 0] 30)))
  clear B1_17
  have D7a_17 := Lib.hid (D7_17.out.next ((Below.refl wu17.heap.size wu17).alloc (Nat.le_refl _) (.cells #[.int .i64 0, .int .i64 0, .slice none 0 0, .slice none 0 0, .int .i64 0, .int .i64 0, .slice none 0 0] 30)))
  clear D7_17
  have X8a_17 := Lib.hid (X8_17.out.next ((Below.refl wu17.heap.size wu17).alloc (Nat.le_refl _) (.cells #[.int .i64 0, .int .i64 0, .slice none 0 0, .slice none 0 0, .int .i64 0, .int .i64 0, .slice none 0 0] 30)))
  clear X8_17
  have I4a_17 := Lib.hid (I4_17.out.next ((Below.refl wu17.heap.size wu17).alloc (Nat.le_refl _) (.cells #[.int .i64 0, .int .i64 0, .slice none 0 0, .slice none 0 0, .int .i64 0, .int .i64 0, .slice none 0 0] 30)))
  clear I4_17
  have I5a_17 := Lib.hid (I5_17.out.next ((Below.refl wu17.heap.size wu17).alloc (Nat.le_refl _) (.cells #[.int .i64 0, .int .i64 0, .slice none 0 0, .slice none 0 0, .int .i64 0, .int .i64 0, .slice none 0 0] 30)))
  clear I5_17
  have D9a_17 := Lib.hid (D9_17.out.next ((Below.refl wu17.heap.size wu17).alloc (Nat.le_refl _) (.cells #[.int .i64 0, .int .i64 0, .slice none 0 0, .slice none 0 0, .int .i64 0, .int .i64 0, .slice none 0 0] 30)))
  clear D9_17
  have X10a_17 := Lib.hid (X10_17.out.next ((Below.refl wu17.heap.size wu17).alloc (Nat.le_refl _) (.cells #[.int .i64 0, .int .i64 0, .slice none 0 0, .slice none 0 0, .int .i64 0, .int .i64 0, .slice none 0 0] 30)))
  clear X10_17
  have D11a_17 := Lib.hid (D11_17.out.next ((Below.refl wu17.heap.size wu17).alloc (Nat.le_refl _) (.cells #[.int .i64 0, .int .i64 0, .slice none 0 0, .slice none 0 0, .int .i64 0, .int .i64 0, .slice none 0 0] 30)))
  clear D11_17
  have I6a_17 := Lib.hid (I6_17.out.next ((Below.refl wu17.heap.size wu17).alloc (Nat.le_refl _) (.cells #[.int .i64 0, .int .i64 0, .slice none 0 0, .slice none 0 0, .int .i64 0, .int .i64 0, .slice none 0 0] 30)))
  clear I6_17
  have I7a_17 := Lib.hid (I7_17.out.next ((Below.refl wu17.heap.size wu17).alloc (Nat.le_refl _) (.cells #[.int .i64 0, .int .i64 0, .slice none 0 0, .slice none 0 0, .int .i64 0, .int .i64 0, .slice none 0 0] 30)))
  clear I7_17
  have I8a_17 := Lib.hid (I8_17.out.next ((Below.refl wu17.heap.size wu17).alloc (Nat.le_refl _) (.cells #[.int .i64 0, .int .i64 0, .slice none 0 0, .slice none 0 0, .int .i64 0, .int .i64 0, .slice none 0 0] 30)))
  clear I8_17
  have I9a_17 := Lib.hid (I9_17.out.next ((Below.refl wu17.heap.size wu17).alloc (Nat.le_refl _) (.cells #[.int .i64 0, .int .i64 0, .slice none 0 0, .slice none 0 0, .int .i64 0, .int .i64 0, .slice none 0 0] 30)))
  clear I9_17
  have I10a_17 := Lib.hid (I10_17.out.next ((Below.refl wu17.heap.size wu17).alloc (Nat.le_refl _) (.cells #[.int .i64 0, .int .i64 0, .slice none 0 0, .slice none 0 0, .int .i64 0, .int .i64 0, .slice none 0 0] 30)))
  clear I10_17
  generalize wu17.alloc (.cells #[.int .i64 0, .int .i64 0, .slice none 0 0, .slice none 0 0, .int .i64 0, .int .i64 0, .slice none 0 0] 30) = wv17 at *
  have HS : Hid (∀ w', Below wv17.heap.size wv17 w' → w'.cell? ⟨wu1.heap.size, 0, none⟩ = some (.int .i64 3) ∧ w'.cell? ⟨wu1.heap.size, 1, none⟩ = some (.int .i64 3) ∧ w'.cell? ⟨wu1.heap.size, 2, none⟩ = some (.slice (some ⟨k1, 0, none⟩) 9 9)) := Lib.hid (fun w' h => (G1a_17.out.next h).lits)
  have HG := Lib.hid (fun w' (h : Below wv17.heap.size wv17 w') => (G1a_17.out.next h).holds)
  have hz := Below.refl wv17.heap.size wv17
  have hA := Lib.hid ((hz.alloc (Nat.le_refl _) (.cells (madeCells #[.int .i64 0] 65) 3)).drew)
  have hB := Lib.hid (((hz.alloc (Nat.le_refl _) (.cells #[.int .i64 0, .int .i64 0, .slice none 0 0, .slice none 0 0, .int .i64 0, .int .i64 0, .slice none 0 0] 30)).alloc (by simp) (.cells (madeCells #[.int .i64 0] 65) 3)).drew)
  have hC := Lib.hid (((hz.alloc (Nat.le_refl _) (.cells (madeCells #[.int .i64 0] 65) 3)).alloc (by simp) (.cells #[.int .i64 0, .int .i64 0, .slice none 0 0, .slice none 0 0, .int .i64 0, .int .i64 0, .slice none 0 0] 30)).drew)
  have hD := Lib.hid ((hz.alloc (Nat.le_refl _) (.cells #[.int .i64 0, .int .i64 0, .slice none 0 0, .slice none 0 0, .int .i64 0, .int .i64 0, .slice none 0 0] 30)).drew)
  have hE := Lib.hid hz.drew
  have iA : Hid (L2.Holds ((wv17.alloc (.cells (madeCells #[.int .i64 0] 65) 3)).drew) ((wv17.alloc (.cells (madeCells #[.int .i64 0] 65) 3)).drew).heap.size (some ⟨wv17.heap.size, 0, none⟩) 65 (fun _ => 0)) := Lib.hid (IX.zeros wv17 65).holds
  have iB : Hid (L2.Holds (((wv17.alloc (.cells #[.int .i64 0, .int .i64 0, .slice none 0 0, .slice none 0 0, .int .i64 0, .int .i64 0, .slice none 0 0] 30)).alloc (.cells (madeCells #[.int .i64 0] 65) 3)).drew) (((wv17.alloc (.cells #[.int .i64 0, .int .i64 0, .slice none 0 0, .slice none 0 0, .int .i64 0, .int .i64 0, .slice none 0 0] 30)).alloc (.cells (madeCells #[.int .i64 0] 65) 3)).drew).heap.size (some ⟨wv17.heap.size + 1, 0, none⟩) 65 (fun _ => 0)) := Lib.hid (by
    have h := (IX.zeros (wv17.alloc (.cells #[.int .i64 0, .int .i64 0, .slice none 0 0, .slice none 0 0, .int .i64 0, .int .i64 0, .slice none 0 0] 30)) 65).row
    simp only [World.size_alloc] at h
    exact (show L2.Row (((wv17.alloc (.cells #[.int .i64 0, .int .i64 0, .slice none 0 0, .slice none 0 0, .int .i64 0, .int .i64 0, .slice none 0 0] 30)).alloc (.cells (madeCells #[.int .i64 0] 65) 3)).drew) (wv17.heap.size + 1) 65 (fun _ => 0) from h).holds (L2.Row.lt h))
  have iC : Hid (L2.Holds (((wv17.alloc (.cells (madeCells #[.int .i64 0] 65) 3)).alloc (.cells #[.int .i64 0, .int .i64 0, .slice none 0 0, .slice none 0 0, .int .i64 0, .int .i64 0, .slice none 0 0] 30)).drew) (((wv17.alloc (.cells (madeCells #[.int .i64 0] 65) 3)).alloc (.cells #[.int .i64 0, .int .i64 0, .slice none 0 0, .slice none 0 0, .int .i64 0, .int .i64 0, .slice none 0 0] 30)).drew).heap.size (some ⟨wv17.heap.size, 0, none⟩) 65 (fun _ => 0)) := Lib.hid (by
    have h := (IX.zeros wv17 65).row.alloc (.cells #[.int .i64 0, .int .i64 0, .slice none 0 0, .slice none 0 0, .int .i64 0, .int .i64 0, .slice none 0 0] 30)
    exact (show L2.Row (((wv17.alloc (.cells (madeCells #[.int .i64 0] 65) 3)).alloc (.cells #[.int .i64 0, .int .i64 0, .slice none 0 0, .slice none 0 0, .int .i64 0, .int .i64 0, .slice none 0 0] 30)).drew) wv17.heap.size 65 (fun _ => 0) from h).holds (L2.Row.lt h))
  have jB : Hid (DBox (((wv17.alloc (.cells #[.int .i64 0, .int .i64 0, .slice none 0 0, .slice none 0 0, .int .i64 0, .int .i64 0, .slice none 0 0] 30)).alloc (.cells (madeCells #[.int .i64 0] 65) 3)).drew) wv17.heap.size Dr.zero) := Lib.hid ((DBox.new wv17 Dr.zero).alloc _).drew
  have jC : Hid (DBox (((wv17.alloc (.cells (madeCells #[.int .i64 0] 65) 3)).alloc (.cells #[.int .i64 0, .int .i64 0, .slice none 0 0, .slice none 0 0, .int .i64 0, .int .i64 0, .slice none 0 0] 30)).drew) (wv17.heap.size + 1) Dr.zero) := Lib.hid (by
    have h := (DBox.new (wv17.alloc (.cells (madeCells #[.int .i64 0] 65) 3)) Dr.zero).drew
    simp only [World.size_alloc] at h
    exact h)
  have hSA := HS.out _ hA.out
  have hSB := HS.out _ hB.out
  have hSC := HS.out _ hC.out
  have hSD := HS.out _ hD.out
  have hSE := HS.out _ hE.out
  clear hz
  go_cut [18, 19] (fun p q wx => q = .int .i64 4 ∧ Below wv17.heap.size wv17 wx)
  case first =>
    go_region_held3 (fun w' => w'.cell? ⟨wu1.heap.size, 0, none⟩ = some (.int .i64 3) ∧ w'.cell? ⟨wu1.heap.size, 1, none⟩ = some (.int .i64 3) ∧ w'.cell? ⟨wu1.heap.size, 2, none⟩ = some (.slice (some ⟨k1, 0, none⟩) 9 9))
      (first
        | with_reducible exact hSu
        | with_reducible exact hSv
        | with_reducible exact hSA
        | with_reducible exact hSB
        | with_reducible exact hSC
        | with_reducible exact hSD
        | with_reducible exact hSE
        | with_reducible exact HS.out _ (hbx.alloc hbx.size _)
        | with_reducible exact HS.out _ (set7_keep hr0 hbx))
      (first
        | (go_at_call 13
           first
             | with_reducible refine Calls.mono (fl_65 _ _ _ iA.out (HG.out _ hA.out)) ?_
             | with_reducible refine Calls.mono (fl_65 _ _ _ iB.out (HG.out _ hB.out)) ?_
             | with_reducible refine Calls.mono (fl_65 _ _ _ iC.out (HG.out _ hC.out)) ?_
           rintro e u ⟨rfl, hbu⟩
           have hbx : Below wv17.heap.size wv17 u := (by first | with_reducible exact hA.out.trans (hbu.mono hA.out.size) | with_reducible exact hB.out.trans (hbu.mono hB.out.size) | with_reducible exact hC.out.trans (hbu.mono hC.out.size))
           have hSu := HS.out _ hbx
           have hSv := HS.out (u.alloc (.cells #[.int .i64 0, .int .i64 0, .slice none 0 0, .slice none 0 0, .int .i64 0, .int .i64 0, .slice none 0 0] 30)) (hbx.alloc hbx.size _)
           first
             | (have hj := Lib.hid (show DBox u wv17.heap.size Dr.zero from (by with_reducible exact jB.out.next hbu))
                have hr0 := Nat.le_refl wv17.heap.size
                obtain ⟨z0, z1, z2, z3, z4, z5, z6⟩ := hj.out.frees
                have tt := hj.out.all
                simp only [Dr.zero] at tt
                obtain ⟨t0, t1, t2, t3, t4, t5, t6, t7⟩ := tt)
             | (have hj := Lib.hid (show DBox u (wv17.heap.size + 1) Dr.zero from (by with_reducible exact jC.out.next hbu))
                have hr0 := Nat.le_succ wv17.heap.size
                obtain ⟨z0, z1, z2, z3, z4, z5, z6⟩ := hj.out.frees
                have tt := hj.out.all
                simp only [Dr.zero] at tt
                obtain ⟨t0, t1, t2, t3, t4, t5, t6, t7⟩ := tt)
             | skip
           clear hbu))
    all_goals
      go_wp2_with fail
      go_meet
      first
        | with_reducible exact ⟨rfl, hbx.alloc hbx.size _⟩
        | with_reducible exact ⟨rfl, set7_keep hr0 hbx⟩
  case rest =>
    as_aux_lemma =>
      obtain ⟨rfl, hB0⟩ := hcut
      clear HS HG hA hB hC hD hE iA iB iC jB jC hSA hSB hSC hSD hSE
      have L_c := Lib.hid (La_17.out.next hB0)
      clear La_17
      have G1_c := Lib.hid (G1a_17.out.next hB0)
      clear G1a_17
      have I1_c := Lib.hid (I1a_17.out.next hB0)
      clear I1a_17
      have D3_c := Lib.hid (D3a_17.out.next hB0)
      clear D3a_17
      have G5_c := Lib.hid (G5a_17.out.next hB0)
      clear G5a_17
      have I2_c := Lib.hid (I2a_17.out.next hB0)
      clear I2a_17
      have I3_c := Lib.hid (I3a_17.out.next hB0)
      clear I3a_17
      have B1_c := Lib.hid (B1a_17.out.next hB0)
      clear B1a_17
      have D7_c := Lib.hid (D7a_17.out.next hB0)
      clear D7a_17
      have X8_c := Lib.hid (X8a_17.out.next hB0)
      clear X8a_17
      have I4_c := Lib.hid (I4a_17.out.next hB0)
      clear I4a_17
      have I5_c := Lib.hid (I5a_17.out.next hB0)
      clear I5a_17
      have D9_c := Lib.hid (D9a_17.out.next hB0)
      clear D9a_17
      have X10_c := Lib.hid (X10a_17.out.next hB0)
      clear X10a_17
      have D11_c := Lib.hid (D11a_17.out.next hB0)
      clear D11a_17
      have I6_c := Lib.hid (I6a_17.out.next hB0)
      clear I6a_17
      have I7_c := Lib.hid (I7a_17.out.next hB0)
      clear I7a_17
      have I8_c := Lib.hid (I8a_17.out.next hB0)
      clear I8a_17
      have I9_c := Lib.hid (I9a_17.out.next hB0)
      clear I9a_17
      have I10_c := Lib.hid (I10a_17.out.next hB0)
      clear I10a_17
      go_wp2_with fail
      have La_18 := Lib.hid (L_c.out.next (((Below.refl wc.heap.size wc).alloc (Nat.le_refl _) (.cells #[.int .i64 0] 3)).alloc (by first | (simp; done) | (simp; omega)) (.cells (madeCells #[.bool false] 41) 4)))
      clear L_c
      have G1a_18 := Lib.hid (G1_c.out.next (((Below.refl wc.heap.size wc).alloc (Nat.le_refl _) (.cells #[.int .i64 0] 3)).alloc (by first | (simp; done) | (simp; omega)) (.cells (madeCells #[.bool false] 41) 4)))
      clear G1_c
      have I1a_18 := Lib.hid (I1_c.out.next (((Below.refl wc.heap.size wc).alloc (Nat.le_refl _) (.cells #[.int .i64 0] 3)).alloc (by first | (simp; done) | (simp; omega)) (.cells (madeCells #[.bool false] 41) 4)))
      clear I1_c
      have D3a_18 := Lib.hid (D3_c.out.next (((Below.refl wc.heap.size wc).alloc (Nat.le_refl _) (.cells #[.int .i64 0] 3)).alloc (by first | (simp; done) | (simp; omega)) (.cells (madeCells #[.bool false] 41) 4)))
      clear D3_c
      have G5a_18 := Lib.hid (G5_c.out.next (((Below.refl wc.heap.size wc).alloc (Nat.le_refl _) (.cells #[.int .i64 0] 3)).alloc (by first | (simp; done) | (simp; omega)) (.cells (madeCells #[.bool false] 41) 4)))
      clear G5_c
      have I2a_18 := Lib.hid (I2_c.out.next (((Below.refl wc.heap.size wc).alloc (Nat.le_refl _) (.cells #[.int .i64 0] 3)).alloc (by first | (simp; done) | (simp; omega)) (.cells (madeCells #[.bool false] 41) 4)))
      clear I2_c
      have I3a_18 := Lib.hid (I3_c.out.next (((Below.refl wc.heap.size wc).alloc (Nat.le_refl _) (.cells #[.int .i64 0] 3)).alloc (by first | (simp; done) | (simp; omega)) (.cells (madeCells #[.bool false] 41) 4)))
      clear I3_c
      have B1a_18 := Lib.hid (B1_c.out.next (((Below.refl wc.heap.size wc).alloc (Nat.le_refl _) (.cells #[.int .i64 0] 3)).alloc (by first | (simp; done) | (simp; omega)) (.cells (madeCells #[.bool false] 41) 4)))
      clear B1_c
      have D7a_18 := Lib.hid (D7_c.out.next (((Below.refl wc.heap.size wc).alloc (Nat.le_refl _) (.cells #[.int .i64 0] 3)).alloc (by first | (simp; done) | (simp; omega)) (.cells (madeCells #[.bool false] 41) 4)))
      clear D7_c
      have X8a_18 := Lib.hid (X8_c.out.next (((Below.refl wc.heap.size wc).alloc (Nat.le_refl _) (.cells #[.int .i64 0] 3)).alloc (by first | (simp; done) | (simp; omega)) (.cells (madeCells #[.bool false] 41) 4)))
      clear X8_c
      have I4a_18 := Lib.hid (I4_c.out.next (((Below.refl wc.heap.size wc).alloc (Nat.le_refl _) (.cells #[.int .i64 0] 3)).alloc (by first | (simp; done) | (simp; omega)) (.cells (madeCells #[.bool false] 41) 4)))
      clear I4_c
      have I5a_18 := Lib.hid (I5_c.out.next (((Below.refl wc.heap.size wc).alloc (Nat.le_refl _) (.cells #[.int .i64 0] 3)).alloc (by first | (simp; done) | (simp; omega)) (.cells (madeCells #[.bool false] 41) 4)))
      clear I5_c
      have D9a_18 := Lib.hid (D9_c.out.next (((Below.refl wc.heap.size wc).alloc (Nat.le_refl _) (.cells #[.int .i64 0] 3)).alloc (by first | (simp; done) | (simp; omega)) (.cells (madeCells #[.bool false] 41) 4)))
      clear D9_c
      have X10a_18 := Lib.hid (X10_c.out.next (((Below.refl wc.heap.size wc).alloc (Nat.le_refl _) (.cells #[.int .i64 0] 3)).alloc (by first | (simp; done) | (simp; omega)) (.cells (madeCells #[.bool false] 41) 4)))
      clear X10_c
      have D11a_18 := Lib.hid (D11_c.out.next (((Below.refl wc.heap.size wc).alloc (Nat.le_refl _) (.cells #[.int .i64 0] 3)).alloc (by first | (simp; done) | (simp; omega)) (.cells (madeCells #[.bool false] 41) 4)))
      clear D11_c
      have I6a_18 := Lib.hid (I6_c.out.next (((Below.refl wc.heap.size wc).alloc (Nat.le_refl _) (.cells #[.int .i64 0] 3)).alloc (by first | (simp; done) | (simp; omega)) (.cells (madeCells #[.bool false] 41) 4)))
      clear I6_c
      have I7a_18 := Lib.hid (I7_c.out.next (((Below.refl wc.heap.size wc).alloc (Nat.le_refl _) (.cells #[.int .i64 0] 3)).alloc (by first | (simp; done) | (simp; omega)) (.cells (madeCells #[.bool false] 41) 4)))
      clear I7_c
      have I8a_18 := Lib.hid (I8_c.out.next (((Below.refl wc.heap.size wc).alloc (Nat.le_refl _) (.cells #[.int .i64 0] 3)).alloc (by first | (simp; done) | (simp; omega)) (.cells (madeCells #[.bool false] 41) 4)))
      clear I8_c
      have I9a_18 := Lib.hid (I9_c.out.next (((Below.refl wc.heap.size wc).alloc (Nat.le_refl _) (.cells #[.int .i64 0] 3)).alloc (by first | (simp; done) | (simp; omega)) (.cells (madeCells #[.bool false] 41) 4)))
      clear I9_c
      have I10a_18 := Lib.hid (I10_c.out.next (((Below.refl wc.heap.size wc).alloc (Nat.le_refl _) (.cells #[.int .i64 0] 3)).alloc (by first | (simp; done) | (simp; omega)) (.cells (madeCells #[.bool false] 41) 4)))
      clear I10_c
      have I11a_180 : IX (wc.alloc (.cells #[.int .i64 0] 3)) wc.heap.size 1 (at0 [0]) := by
          have h := IX.lit wc [0]
          try simp only [World.size_alloc] at h
          exact h
      have I11a_18 := Lib.hid (I11a_180.next ((Below.refl (wc.alloc (.cells #[.int .i64 0] 3)).heap.size (wc.alloc (.cells #[.int .i64 0] 3))).alloc (by first | exact Nat.le_refl _ | (simp; done) | (simp; omega)) (.cells (madeCells #[.bool false] 41) 4)))
      clear I11a_180
      have B2a_180 : BX ((wc.alloc (.cells #[.int .i64 0] 3)).alloc (.cells (madeCells #[.bool false] 41) 4)) (wc.heap.size + 1) 41 (fun _ => false) := by
          have h := BX.zeros (wc.alloc (.cells #[.int .i64 0] 3)) 41
          try simp only [World.size_alloc] at h
          exact h
      have B2a_18 := Lib.hid (B2a_180.next (Below.refl ((wc.alloc (.cells #[.int .i64 0] 3)).alloc (.cells (madeCells #[.bool false] 41) 4)).heap.size ((wc.alloc (.cells #[.int .i64 0] 3)).alloc (.cells (madeCells #[.bool false] 41) 4))))
      clear B2a_180
      generalize (wc.alloc (.cells #[.int .i64 0] 3)).alloc (.cells (madeCells #[.bool false] 41) 4) = wv18 at *
      with_reducible refine Calls.mono (fl_41 _ _ _ I11a_18.out.holds B2a_18.out.holds) ?_
      rintro e wu18 ⟨rfl, hb⟩
      have L_18 := Lib.hid (La_18.out.next hb)
      have G1_18 := Lib.hid (G1a_18.out.next hb)
      have I1_18 := Lib.hid (I1a_18.out.next hb)
      have D3_18 := Lib.hid (D3a_18.out.next hb)
      have G5_18 := Lib.hid (G5a_18.out.next hb)
      have I2_18 := Lib.hid (I2a_18.out.next hb)
      have I3_18 := Lib.hid (I3a_18.out.next hb)
      have B1_18 := Lib.hid (B1a_18.out.next hb)
      have D7_18 := Lib.hid (D7a_18.out.next hb)
      have X8_18 := Lib.hid (X8a_18.out.next hb)
      have I4_18 := Lib.hid (I4a_18.out.next hb)
      have I5_18 := Lib.hid (I5a_18.out.next hb)
      have D9_18 := Lib.hid (D9a_18.out.next hb)
      have X10_18 := Lib.hid (X10a_18.out.next hb)
      have D11_18 := Lib.hid (D11a_18.out.next hb)
      have I6_18 := Lib.hid (I6a_18.out.next hb)
      have I7_18 := Lib.hid (I7a_18.out.next hb)
      have I8_18 := Lib.hid (I8a_18.out.next hb)
      have I9_18 := Lib.hid (I9a_18.out.next hb)
      have I10_18 := Lib.hid (I10a_18.out.next hb)
      have I11_18 := Lib.hid (I11a_18.out.next hb)
      have B2_18 := Lib.hid (B2a_18.out.next hb)
      clear La_18 G1a_18 I1a_18 D3a_18 G5a_18 I2a_18 I3a_18 B1a_18 D7a_18 X8a_18 I4a_18 I5a_18 D9a_18 X10a_18 D11a_18 I6a_18 I7a_18 I8a_18 I9a_18 I10a_18 I11a_18 B2a_18
      clear hb 
      go_wp2_with fail
      have La_19 := Lib.hid (L_18.out.next (((Below.refl wu18.heap.size wu18).alloc (Nat.le_refl _) (.cells #[.int .i64 0, .int .i64 0, .slice none 0 0, .slice none 0 0, .int .i64 0, .int .i64 0, .slice none 0 0] 30)).alloc (by first | (simp; done) | (simp; omega)) (.cells #[.int .i64 0] 3)))
      clear L_18
      have G1a_19 := Lib.hid (G1_18.out.next (((Below.refl wu18.heap.size wu18).alloc (Nat.le_refl _) (.cells #[.int .i64 0, .int .i64 0, .slice none 0 0, .slice none 0 0, .int .i64 0, .int .i64 0, .slice none 0 0] 30)).alloc (by first | (simp; done) | (simp; omega)) (.cells #[.int .i64 0] 3)))
      clear G1_18
      have I1a_19 := Lib.hid (I1_18.out.next (((Below.refl wu18.heap.size wu18).alloc (Nat.le_refl _) (.cells #[.int .i64 0, .int .i64 0, .slice none 0 0, .slice none 0 0, .int .i64 0, .int .i64 0, .slice none 0 0] 30)).alloc (by first | (simp; done) | (simp; omega)) (.cells #[.int .i64 0] 3)))
      clear I1_18
      have D3a_19 := Lib.hid (D3_18.out.next (((Below.refl wu18.heap.size wu18).alloc (Nat.le_refl _) (.cells #[.int .i64 0, .int .i64 0, .slice none 0 0, .slice none 0 0, .int .i64 0, .int .i64 0, .slice none 0 0] 30)).alloc (by first | (simp; done) | (simp; omega)) (.cells #[.int .i64 0] 3)))
      clear D3_18
      have G5a_19 := Lib.hid (G5_18.out.next (((Below.refl wu18.heap.size wu18).alloc (Nat.le_refl _) (.cells #[.int .i64 0, .int .i64 0, .slice none 0 0, .slice none 0 0, .int .i64 0, .int .i64 0, .slice none 0 0] 30)).alloc (by first | (simp; done) | (simp; omega)) (.cells #[.int .i64 0] 3)))
      clear G5_18
      have I2a_19 := Lib.hid (I2_18.out.next (((Below.refl wu18.heap.size wu18).alloc (Nat.le_refl _) (.cells #[.int .i64 0, .int .i64 0, .slice none 0 0, .slice none 0 0, .int .i64 0, .int .i64 0, .slice none 0 0] 30)).alloc (by first | (simp; done) | (simp; omega)) (.cells #[.int .i64 0] 3)))
      clear I2_18
      have I3a_19 := Lib.hid (I3_18.out.next (((Below.refl wu18.heap.size wu18).alloc (Nat.le_refl _) (.cells #[.int .i64 0, .int .i64 0, .slice none 0 0, .slice none 0 0, .int .i64 0, .int .i64 0, .slice none 0 0] 30)).alloc (by first | (simp; done) | (simp; omega)) (.cells #[.int .i64 0] 3)))
      clear I3_18
      have B1a_19 := Lib.hid (B1_18.out.next (((Below.refl wu18.heap.size wu18).alloc (Nat.le_refl _) (.cells #[.int .i64 0, .int .i64 0, .slice none 0 0, .slice none 0 0, .int .i64 0, .int .i64 0, .slice none 0 0] 30)).alloc (by first | (simp; done) | (simp; omega)) (.cells #[.int .i64 0] 3)))
      clear B1_18
      have D7a_19 := Lib.hid (D7_18.out.next (((Below.refl wu18.heap.size wu18).alloc (Nat.le_refl _) (.cells #[.int .i64 0, .int .i64 0, .slice none 0 0, .slice none 0 0, .int .i64 0, .int .i64 0, .slice none 0 0] 30)).alloc (by first | (simp; done) | (simp; omega)) (.cells #[.int .i64 0] 3)))
      clear D7_18
      have X8a_19 := Lib.hid (X8_18.out.next (((Below.refl wu18.heap.size wu18).alloc (Nat.le_refl _) (.cells #[.int .i64 0, .int .i64 0, .slice none 0 0, .slice none 0 0, .int .i64 0, .int .i64 0, .slice none 0 0] 30)).alloc (by first | (simp; done) | (simp; omega)) (.cells #[.int .i64 0] 3)))
      clear X8_18
      have I4a_19 := Lib.hid (I4_18.out.next (((Below.refl wu18.heap.size wu18).alloc (Nat.le_refl _) (.cells #[.int .i64 0, .int .i64 0, .slice none 0 0, .slice none 0 0, .int .i64 0, .int .i64 0, .slice none 0 0] 30)).alloc (by first | (simp; done) | (simp; omega)) (.cells #[.int .i64 0] 3)))
      clear I4_18
      have I5a_19 := Lib.hid (I5_18.out.next (((Below.refl wu18.heap.size wu18).alloc (Nat.le_refl _) (.cells #[.int .i64 0, .int .i64 0, .slice none 0 0, .slice none 0 0, .int .i64 0, .int .i64 0, .slice none 0 0] 30)).alloc (by first | (simp; done) | (simp; omega)) (.cells #[.int .i64 0] 3)))
      clear I5_18
      have D9a_19 := Lib.hid (D9_18.out.next (((Below.refl wu18.heap.size wu18).alloc (Nat.le_refl _) (.cells #[.int .i64 0, .int .i64 0, .slice none 0 0, .slice none 0 0, .int .i64 0, .int .i64 0, .slice none 0 0] 30)).alloc (by first | (simp; done) | (simp; omega)) (.cells #[.int .i64 0] 3)))
      clear D9_18
      have X10a_19 := Lib.hid (X10_18.out.next (((Below.refl wu18.heap.size wu18).alloc (Nat.le_refl _) (.cells #[.int .i64 0, .int .i64 0, .slice none 0 0, .slice none 0 0, .int .i64 0, .int .i64 0, .slice none 0 0] 30)).alloc (by first | (simp; done) | (simp; omega)) (.cells #[.int .i64 0] 3)))
      clear X10_18
      have D11a_19 := Lib.hid (D11_18.out.next (((Below.refl wu18.heap.size wu18).alloc (Nat.le_refl _) (.cells #[.int .i64 0, .int .i64 0, .slice none 0 0, .slice none 0 0, .int .i64 0, .int .i64 0, .slice none 0 0] 30)).alloc (by first | (simp; done) | (simp; omega)) (.cells #[.int .i64 0] 3)))
      clear D11_18
      have I6a_19 := Lib.hid (I6_18.out.next (((Below.refl wu18.heap.size wu18).alloc (Nat.le_refl _) (.cells #[.int .i64 0, .int .i64 0, .slice none 0 0, .slice none 0 0, .int .i64 0, .int .i64 0, .slice none 0 0] 30)).alloc (by first | (simp; done) | (simp; omega)) (.cells #[.int .i64 0] 3)))
      clear I6_18
      have I7a_19 := Lib.hid (I7_18.out.next (((Below.refl wu18.heap.size wu18).alloc (Nat.le_refl _) (.cells #[.int .i64 0, .int .i64 0, .slice none 0 0, .slice none 0 0, .int .i64 0, .int .i64 0, .slice none 0 0] 30)).alloc (by first | (simp; done) | (simp; omega)) (.cells #[.int .i64 0] 3)))
      clear I7_18
      have I8a_19 := Lib.hid (I8_18.out.next (((Below.refl wu18.heap.size wu18).alloc (Nat.le_refl _) (.cells #[.int .i64 0, .int .i64 0, .slice none 0 0, .slice none 0 0, .int .i64 0, .int .i64 0, .slice none 0 0] 30)).alloc (by first | (simp; done) | (simp; omega)) (.cells #[.int .i64 0] 3)))
      clear I8_18
      have I9a_19 := Lib.hid (I9_18.out.next (((Below.refl wu18.heap.size wu18).alloc (Nat.le_refl _) (.cells #[.int .i64 0, .int .i64 0, .slice none 0 0, .slice none 0 0, .int .i64 0, .int .i64 0, .slice none 0 0] 30)).alloc (by first | (simp; done) | (simp; omega)) (.cells #[.int .i64 0] 3)))
      clear I9_18
      have I10a_19 := Lib.hid (I10_18.out.next (((Below.refl wu18.heap.size wu18).alloc (Nat.le_refl _) (.cells #[.int .i64 0, .int .i64 0, .slice none 0 0, .slice none 0 0, .int .i64 0, .int .i64 0, .slice none 0 0] 30)).alloc (by first | (simp; done) | (simp; omega)) (.cells #[.int .i64 0] 3)))
      clear I10_18
      have I11a_19 := Lib.hid (I11_18.out.next (((Below.refl wu18.heap.size wu18).alloc (Nat.le_refl _) (.cells #[.int .i64 0, .int .i64 0, .slice none 0 0, .slice none 0 0, .int .i64 0, .int .i64 0, .slice none 0 0] 30)).alloc (by first | (simp; done) | (simp; omega)) (.cells #[.int .i64 0] 3)))
      clear I11_18
      have B2a_19 := Lib.hid (B2_18.out.next (((Below.refl wu18.heap.size wu18).alloc (Nat.le_refl _) (.cells #[.int .i64 0, .int .i64 0, .slice none 0 0, .slice none 0 0, .int .i64 0, .int .i64 0, .slice none 0 0] 30)).alloc (by first | (simp; done) | (simp; omega)) (.cells #[.int .i64 0] 3)))
      clear B2_18
      have I12a_190 : IX ((wu18.alloc (.cells #[.int .i64 0, .int .i64 0, .slice none 0 0, .slice none 0 0, .int .i64 0, .int .i64 0, .slice none 0 0] 30)).alloc (.cells #[.int .i64 0] 3)) (wu18.heap.size + 1) 1 (at0 [0]) := by
          have h := IX.lit (wu18.alloc (.cells #[.int .i64 0, .int .i64 0, .slice none 0 0, .slice none 0 0, .int .i64 0, .int .i64 0, .slice none 0 0] 30)) [0]
          try simp only [World.size_alloc] at h
          exact h
      have I12a_19 := Lib.hid (I12a_190.next (Below.refl ((wu18.alloc (.cells #[.int .i64 0, .int .i64 0, .slice none 0 0, .slice none 0 0, .int .i64 0, .int .i64 0, .slice none 0 0] 30)).alloc (.cells #[.int .i64 0] 3)).heap.size ((wu18.alloc (.cells #[.int .i64 0, .int .i64 0, .slice none 0 0, .slice none 0 0, .int .i64 0, .int .i64 0, .slice none 0 0] 30)).alloc (.cells #[.int .i64 0] 3))))
      clear I12a_190
      generalize (wu18.alloc (.cells #[.int .i64 0, .int .i64 0, .slice none 0 0, .slice none 0 0, .int .i64 0, .int .i64 0, .slice none 0 0] 30)).alloc (.cells #[.int .i64 0] 3) = wv19 at *
      with_reducible refine Calls.mono (fl_0 _ _) ?_
      rintro e wu19 ⟨rfl, hb⟩
      have L_19 := Lib.hid (La_19.out.next hb)
      have G1_19 := Lib.hid (G1a_19.out.next hb)
      have I1_19 := Lib.hid (I1a_19.out.next hb)
      have D3_19 := Lib.hid (D3a_19.out.next hb)
      have G5_19 := Lib.hid (G5a_19.out.next hb)
      have I2_19 := Lib.hid (I2a_19.out.next hb)
      have I3_19 := Lib.hid (I3a_19.out.next hb)
      have B1_19 := Lib.hid (B1a_19.out.next hb)
      have D7_19 := Lib.hid (D7a_19.out.next hb)
      have X8_19 := Lib.hid (X8a_19.out.next hb)
      have I4_19 := Lib.hid (I4a_19.out.next hb)
      have I5_19 := Lib.hid (I5a_19.out.next hb)
      have D9_19 := Lib.hid (D9a_19.out.next hb)
      have X10_19 := Lib.hid (X10a_19.out.next hb)
      have D11_19 := Lib.hid (D11a_19.out.next hb)
      have I6_19 := Lib.hid (I6a_19.out.next hb)
      have I7_19 := Lib.hid (I7a_19.out.next hb)
      have I8_19 := Lib.hid (I8a_19.out.next hb)
      have I9_19 := Lib.hid (I9a_19.out.next hb)
      have I10_19 := Lib.hid (I10a_19.out.next hb)
      have I11_19 := Lib.hid (I11a_19.out.next hb)
      have B2_19 := Lib.hid (B2a_19.out.next hb)
      have I12_19 := Lib.hid (I12a_19.out.next hb)
      clear La_19 G1a_19 I1a_19 D3a_19 G5a_19 I2a_19 I3a_19 B1a_19 D7a_19 X8a_19 I4a_19 I5a_19 D9a_19 X10a_19 D11a_19 I6a_19 I7a_19 I8a_19 I9a_19 I10a_19 I11a_19 B2a_19 I12a_19
      clear hb 
      go_wp2_with fail
      have La_20 := Lib.hid (L_19.out.next ((Below.refl wu19.heap.size wu19).alloc (Nat.le_refl _) (.cells #[.int .i64 0, .int .i64 0, .slice none 0 0, .slice none 0 0, .int .i64 0, .int .i64 0, .slice none 0 0] 30)))
      clear L_19
      have G1a_20 := Lib.hid (G1_19.out.next ((Below.refl wu19.heap.size wu19).alloc (Nat.le_refl _) (.cells #[.int .i64 0, .int .i64 0, .slice none 0 0, .slice none 0 0, .int .i64 0, .int .i64 0, .slice none 0 0] 30)))
      clear G1_19
      have I1a_20 := Lib.hid (I1_19.out.next ((Below.refl wu19.heap.size wu19).alloc (Nat.le_refl _) (.cells #[.int .i64 0, .int .i64 0, .slice none 0 0, .slice none 0 0, .int .i64 0, .int .i64 0, .slice none 0 0] 30)))
      clear I1_19
      have D3a_20 := Lib.hid (D3_19.out.next ((Below.refl wu19.heap.size wu19).alloc (Nat.le_refl _) (.cells #[.int .i64 0, .int .i64 0, .slice none 0 0, .slice none 0 0, .int .i64 0, .int .i64 0, .slice none 0 0] 30)))
      clear D3_19
      have G5a_20 := Lib.hid (G5_19.out.next ((Below.refl wu19.heap.size wu19).alloc (Nat.le_refl _) (.cells #[.int .i64 0, .int .i64 0, .slice none 0 0, .slice none 0 0, .int .i64 0, .int .i64 0, .slice none 0 0] 30)))
      clear G5_19
      have I2a_20 := Lib.hid (I2_19.out.next ((Below.refl wu19.heap.size wu19).alloc (Nat.le_refl _) (.cells #[.int .i64 0, .int .i64 0, .slice none 0 0, .slice none 0 0, .int .i64 0, .int .i64 0, .slice none 0 0] 30)))
      clear I2_19
      have I3a_20 := Lib.hid (I3_19.out.next ((Below.refl wu19.heap.size wu19).alloc (Nat.le_refl _) (.cells #[.int .i64 0, .int .i64 0, .slice none 0 0, .slice none 0 0, .int .i64 0, .int .i64 0, .slice none 0 0] 30)))
      clear I3_19
      have B1a_20 := Lib.hid (B1_19.out.next ((Below.refl wu19.heap.size wu19).alloc (Nat.le_refl _) (.cells #[.int .i64 0, .int .i64 0, .slice none 0 0, .slice none 0 0, .int .i64 0, .int .i64 0, .slice none 0 0] 30)))
      clear B1_19
      have D7a_20 := Lib.hid (D7_19.out.next ((Below.refl wu19.heap.size wu19).alloc (Nat.le_refl _) (.cells #[.int .i64 0, .int .i64 0, .slice none 0 0, .slice none 0 0, .int .i64 0, .int .i64 0, .slice none 0 0] 30)))
      clear D7_19
      have X8a_20 := Lib.hid (X8_19.out.next ((Below.refl wu19.heap.size wu19).alloc (Nat.le_refl _) (.cells #[.int .i64 0, .int .i64 0, .slice none 0 0, .slice none 0 0, .int .i64 0, .int .i64 0, .slice none 0 0] 30)))
      clear X8_19
      have I4a_20 := Lib.hid (I4_19.out.next ((Below.refl wu19.heap.size wu19).alloc (Nat.le_refl _) (.cells #[.int .i64 0, .int .i64 0, .slice none 0 0, .slice none 0 0, .int .i64 0, .int .i64 0, .slice none 0 0] 30)))
      clear I4_19
      have I5a_20 := Lib.hid (I5_19.out.next ((Below.refl wu19.heap.size wu19).alloc (Nat.le_refl _) (.cells #[.int .i64 0, .int .i64 0, .slice none 0 0, .slice none 0 0, .int .i64 0, .int .i64 0, .slice none 0 0] 30)))
      clear I5_19
      have D9a_20 := Lib.hid (D9_19.out.next ((Below.refl wu19.heap.size wu19).alloc (Nat.le_refl _) (.cells #[.int .i64 0, .int .i64 0, .slice none 0 0, .slice none 0 0, .int .i64 0, .int .i64 0, .slice none 0 0] 30)))
      clear D9_19
      have X10a_20 := Lib.hid (X10_19.out.next ((Below.refl wu19.heap.size wu19).alloc (Nat.le_refl _) (.cells #[.int .i64 0, .int .i64 0, .slice none 0 0, .slice none 0 0, .int .i64 0, .int .i64 0, .slice none 0 0] 30)))
      clear X10_19
      have D11a_20 := Lib.hid (D11_19.out.next ((Below.refl wu19.heap.size wu19).alloc (Nat.le_refl _) (.cells #[.int .i64 0, .int .i64 0, .slice none 0 0, .slice none 0 0, .int .i64 0, .int .i64 0, .slice none 0 0] 30)))
      clear D11_19
      have I6a_20 := Lib.hid (I6_19.out.next ((Below.refl wu19.heap.size wu19).alloc (Nat.le_refl _) (.cells #[.int .i64 0, .int .i64 0, .slice none 0 0, .slice none 0 0, .int .i64 0, .int .i64 0, .slice none 0 0] 30)))
      clear I6_19
      have I7a_20 := Lib.hid (I7_19.out.next ((Below.refl wu19.heap.size wu19).alloc (Nat.le_refl _) (.cells #[.int .i64 0, .int .i64 0, .slice none 0 0, .slice none 0 0, .int .i64 0, .int .i64 0, .slice none 0 0] 30)))
      clear I7_19
      have I8a_20 := Lib.hid (I8_19.out.next ((Below.refl wu19.heap.size wu19).alloc (Nat.le_refl _) (.cells #[.int .i64 0, .int .i64 0, .slice none 0 0, .slice none 0 0, .int .i64 0, .int .i64 0, .slice none 0 0] 30)))
      clear I8_19
      have I9a_20 := Lib.hid (I9_19.out.next ((Below.refl wu19.heap.size wu19).alloc (Nat.le_refl _) (.cells #[.int .i64 0, .int .i64 0, .slice none 0 0, .slice none 0 0, .int .i64 0, .int .i64 0, .slice none 0 0] 30)))
      clear I9_19
      have I10a_20 := Lib.hid (I10_19.out.next ((Below.refl wu19.heap.size wu19).alloc (Nat.le_refl _) (.cells #[.int .i64 0, .int .i64 0, .slice none 0 0, .slice none 0 0, .int .i64 0, .int .i64 0, .slice none 0 0] 30)))
      clear I10_19
      have I11a_20 := Lib.hid (I11_19.out.next ((Below.refl wu19.heap.size wu19).alloc (Nat.le_refl _) (.cells #[.int .i64 0, .int .i64 0, .slice none 0 0, .slice none 0 0, .int .i64 0, .int .i64 0, .slice none 0 0] 30)))
      clear I11_19
      have B2a_20 := Lib.hid (B2_19.out.next ((Below.refl wu19.heap.size wu19).alloc (Nat.le_refl _) (.cells #[.int .i64 0, .int .i64 0, .slice none 0 0, .slice none 0 0, .int .i64 0, .int .i64 0, .slice none 0 0] 30)))
      clear B2_19
      have I12a_20 := Lib.hid (I12_19.out.next ((Below.refl wu19.heap.size wu19).alloc (Nat.le_refl _) (.cells #[.int .i64 0, .int .i64 0, .slice none 0 0, .slice none 0 0, .int .i64 0, .int .i64 0, .slice none 0 0] 30)))
      clear I12_19
      generalize wu19.alloc (.cells #[.int .i64 0, .int .i64 0, .slice none 0 0, .slice none 0 0, .int .i64 0, .int .i64 0, .slice none 0 0] 30) = wv20 at *
      with_reducible refine Calls.mono (given_dx _) ?_
      rintro e wu20 ⟨a13, ca13, b13, cb13, c13, cc13, rfl, hdx, hb⟩
      have L_20 := Lib.hid (La_20.out.next hb)
      have G1_20 := Lib.hid (G1a_20.out.next hb)
      have I1_20 := Lib.hid (I1a_20.out.next hb)
      have D3_20 := Lib.hid (D3a_20.out.next hb)
      have G5_20 := Lib.hid (G5a_20.out.next hb)
      have I2_20 := Lib.hid (I2a_20.out.next hb)
      have I3_20 := Lib.hid (I3a_20.out.next hb)
      have B1_20 := Lib.hid (B1a_20.out.next hb)
      have D7_20 := Lib.hid (D7a_20.out.next hb)
      have X8_20 := Lib.hid (X8a_20.out.next hb)
      have I4_20 := Lib.hid (I4a_20.out.next hb)
      have I5_20 := Lib.hid (I5a_20.out.next hb)
      have D9_20 := Lib.hid (D9a_20.out.next hb)
      have X10_20 := Lib.hid (X10a_20.out.next hb)
      have D11_20 := Lib.hid (D11a_20.out.next hb)
      have I6_20 := Lib.hid (I6a_20.out.next hb)
      have I7_20 := Lib.hid (I7a_20.out.next hb)
      have I8_20 := Lib.hid (I8a_20.out.next hb)
      have I9_20 := Lib.hid (I9a_20.out.next hb)
      have I10_20 := Lib.hid (I10a_20.out.next hb)
      have I11_20 := Lib.hid (I11a_20.out.next hb)
      have B2_20 := Lib.hid (B2a_20.out.next hb)
      have I12_20 := Lib.hid (I12a_20.out.next hb)
      clear La_20 G1a_20 I1a_20 D3a_20 G5a_20 I2a_20 I3a_20 B1a_20 D7a_20 X8a_20 I4a_20 I5a_20 D9a_20 X10a_20 D11a_20 I6a_20 I7a_20 I8a_20 I9a_20 I10a_20 I11a_20 B2a_20 I12a_20
      have X13_20 := Lib.hid (hdx)
      clear hb hdx
      go_wp2_with fail
      have La_21 := Lib.hid (L_20.out.next (((Below.refl wu20.heap.size wu20).alloc (Nat.le_refl _) (.cells #[.int .i64 0, .int .i64 0] 3)).alloc (by first | (simp; done) | (simp; omega)) (.cells #[.int .i64 0, .int .i64 1] 3)))
      clear L_20
      have G1a_21 := Lib.hid (G1_20.out.next (((Below.refl wu20.heap.size wu20).alloc (Nat.le_refl _) (.cells #[.int .i64 0, .int .i64 0] 3)).alloc (by first | (simp; done) | (simp; omega)) (.cells #[.int .i64 0, .int .i64 1] 3)))
      clear G1_20
      have I1a_21 := Lib.hid (I1_20.out.next (((Below.refl wu20.heap.size wu20).alloc (Nat.le_refl _) (.cells #[.int .i64 0, .int .i64 0] 3)).alloc (by first | (simp; done) | (simp; omega)) (.cells #[.int .i64 0, .int .i64 1] 3)))
      clear I1_20
      have D3a_21 := Lib.hid (D3_20.out.next (((Below.refl wu20.heap.size wu20).alloc (Nat.le_refl _) (.cells #[.int .i64 0, .int .i64 0] 3)).alloc (by first | (simp; done) | (simp; omega)) (.cells #[.int .i64 0, .int .i64 1] 3)))
      clear D3_20
      have G5a_21 := Lib.hid (G5_20.out.next (((Below.refl wu20.heap.size wu20).alloc (Nat.le_refl _) (.cells #[.int .i64 0, .int .i64 0] 3)).alloc (by first | (simp; done) | (simp; omega)) (.cells #[.int .i64 0, .int .i64 1] 3)))
      clear G5_20
      have I2a_21 := Lib.hid (I2_20.out.next (((Below.refl wu20.heap.size wu20).alloc (Nat.le_refl _) (.cells #[.int .i64 0, .int .i64 0] 3)).alloc (by first | (simp; done) | (simp; omega)) (.cells #[.int .i64 0, .int .i64 1] 3)))
      clear I2_20
      have I3a_21 := Lib.hid (I3_20.out.next (((Below.refl wu20.heap.size wu20).alloc (Nat.le_refl _) (.cells #[.int .i64 0, .int .i64 0] 3)).alloc (by first | (simp; done) | (simp; omega)) (.cells #[.int .i64 0, .int .i64 1] 3)))
      clear I3_20
      have B1a_21 := Lib.hid (B1_20.out.next (((Below.refl wu20.heap.size wu20).alloc (Nat.le_refl _) (.cells #[.int .i64 0, .int .i64 0] 3)).alloc (by first | (simp; done) | (simp; omega)) (.cells #[.int .i64 0, .int .i64 1] 3)))
      clear B1_20
      have D7a_21 := Lib.hid (D7_20.out.next (((Below.refl wu20.heap.size wu20).alloc (Nat.le_refl _) (.cells #[.int .i64 0, .int .i64 0] 3)).alloc (by first | (simp; done) | (simp; omega)) (.cells #[.int .i64 0, .int .i64 1] 3)))
      clear D7_20
      have X8a_21 := Lib.hid (X8_20.out.next (((Below.refl wu20.heap.size wu20).alloc (Nat.le_refl _) (.cells #[.int .i64 0, .int .i64 0] 3)).alloc (by first | (simp; done) | (simp; omega)) (.cells #[.int .i64 0, .int .i64 1] 3)))
      clear X8_20
      have I4a_21 := Lib.hid (I4_20.out.next (((Below.refl wu20.heap.size wu20).alloc (Nat.le_refl _) (.cells #[.int .i64 0, .int .i64 0] 3)).alloc (by first | (simp; done) | (simp; omega)) (.cells #[.int .i64 0, .int .i64 1] 3)))
      clear I4_20
      have I5a_21 := Lib.hid (I5_20.out.next (((Below.refl wu20.heap.size wu20).alloc (Nat.le_refl _) (.cells #[.int .i64 0, .int .i64 0] 3)).alloc (by first | (simp; done) | (simp; omega)) (.cells #[.int .i64 0, .int .i64 1] 3)))
      clear I5_20
      have D9a_21 := Lib.hid (D9_20.out.next (((Below.refl wu20.heap.size wu20).alloc (Nat.le_refl _) (.cells #[.int .i64 0, .int .i64 0] 3)).alloc (by first | (simp; done) | (simp; omega)) (.cells #[.int .i64 0, .int .i64 1] 3)))
      clear D9_20
      have X10a_21 := Lib.hid (X10_20.out.next (((Below.refl wu20.heap.size wu20).alloc (Nat.le_refl _) (.cells #[.int .i64 0, .int .i64 0] 3)).alloc (by first | (simp; done) | (simp; omega)) (.cells #[.int .i64 0, .int .i64 1] 3)))
      clear X10_20
      have D11a_21 := Lib.hid (D11_20.out.next (((Below.refl wu20.heap.size wu20).alloc (Nat.le_refl _) (.cells #[.int .i64 0, .int .i64 0] 3)).alloc (by first | (simp; done) | (simp; omega)) (.cells #[.int .i64 0, .int .i64 1] 3)))
      clear D11_20
      have I6a_21 := Lib.hid (I6_20.out.next (((Below.refl wu20.heap.size wu20).alloc (Nat.le_refl _) (.cells #[.int .i64 0, .int .i64 0] 3)).alloc (by first | (simp; done) | (simp; omega)) (.cells #[.int .i64 0, .int .i64 1] 3)))
      clear I6_20
      have I7a_21 := Lib.hid (I7_20.out.next (((Below.refl wu20.heap.size wu20).alloc (Nat.le_refl _) (.cells #[.int .i64 0, .int .i64 0] 3)).alloc (by first | (simp; done) | (simp; omega)) (.cells #[.int .i64 0, .int .i64 1] 3)))
      clear I7_20
      have I8a_21 := Lib.hid (I8_20.out.next (((Below.refl wu20.heap.size wu20).alloc (Nat.le_refl _) (.cells #[.int .i64 0, .int .i64 0] 3)).alloc (by first | (simp; done) | (simp; omega)) (.cells #[.int .i64 0, .int .i64 1] 3)))
      clear I8_20
      have I9a_21 := Lib.hid (I9_20.out.next (((Below.refl wu20.heap.size wu20).alloc (Nat.le_refl _) (.cells #[.int .i64 0, .int .i64 0] 3)).alloc (by first | (simp; done) | (simp; omega)) (.cells #[.int .i64 0, .int .i64 1] 3)))
      clear I9_20
      have I10a_21 := Lib.hid (I10_20.out.next (((Below.refl wu20.heap.size wu20).alloc (Nat.le_refl _) (.cells #[.int .i64 0, .int .i64 0] 3)).alloc (by first | (simp; done) | (simp; omega)) (.cells #[.int .i64 0, .int .i64 1] 3)))
      clear I10_20
      have I11a_21 := Lib.hid (I11_20.out.next (((Below.refl wu20.heap.size wu20).alloc (Nat.le_refl _) (.cells #[.int .i64 0, .int .i64 0] 3)).alloc (by first | (simp; done) | (simp; omega)) (.cells #[.int .i64 0, .int .i64 1] 3)))
      clear I11_20
      have B2a_21 := Lib.hid (B2_20.out.next (((Below.refl wu20.heap.size wu20).alloc (Nat.le_refl _) (.cells #[.int .i64 0, .int .i64 0] 3)).alloc (by first | (simp; done) | (simp; omega)) (.cells #[.int .i64 0, .int .i64 1] 3)))
      clear B2_20
      have I12a_21 := Lib.hid (I12_20.out.next (((Below.refl wu20.heap.size wu20).alloc (Nat.le_refl _) (.cells #[.int .i64 0, .int .i64 0] 3)).alloc (by first | (simp; done) | (simp; omega)) (.cells #[.int .i64 0, .int .i64 1] 3)))
      clear I12_20
      have X13a_21 := Lib.hid (X13_20.out.next (((Below.refl wu20.heap.size wu20).alloc (Nat.le_refl _) (.cells #[.int .i64 0, .int .i64 0] 3)).alloc (by first | (simp; done) | (simp; omega)) (.cells #[.int .i64 0, .int .i64 1] 3)))
      clear X13_20
      have I13a_210 : IX (wu20.alloc (.cells #[.int .i64 0, .int .i64 0] 3)) wu20.heap.size 2 (at0 [0, 0]) := by
          have h := IX.lit wu20 [0, 0]
          try simp only [World.size_alloc] at h
          exact h
      have I13a_21 := Lib.hid (I13a_210.next ((Below.refl (wu20.alloc (.cells #[.int .i64 0, .int .i64 0] 3)).heap.size (wu20.alloc (.cells #[.int .i64 0, .int .i64 0] 3))).alloc (by first | exact Nat.le_refl _ | (simp; done) | (simp; omega)) (.cells #[.int .i64 0, .int .i64 1] 3)))
      clear I13a_210
      have I14a_210 : IX ((wu20.alloc (.cells #[.int .i64 0, .int .i64 0] 3)).alloc (.cells #[.int .i64 0, .int .i64 1] 3)) (wu20.heap.size + 1) 2 (at0 [0, 1]) := by
          have h := IX.lit (wu20.alloc (.cells #[.int .i64 0, .int .i64 0] 3)) [0, 1]
          try simp only [World.size_alloc] at h
          exact h
      have I14a_21 := Lib.hid (I14a_210.next (Below.refl ((wu20.alloc (.cells #[.int .i64 0, .int .i64 0] 3)).alloc (.cells #[.int .i64 0, .int .i64 1] 3)).heap.size ((wu20.alloc (.cells #[.int .i64 0, .int .i64 0] 3)).alloc (.cells #[.int .i64 0, .int .i64 1] 3))))
      clear I14a_210
      generalize (wu20.alloc (.cells #[.int .i64 0, .int .i64 0] 3)).alloc (.cells #[.int .i64 0, .int .i64 1] 3) = wv21 at *
      with_reducible refine Calls.mono (rn_no _ _ _ _ _ _ _ _ _ X13a_21.out.cells I13a_21.out.holds I14a_21.out.holds) ?_
      rintro e wu21 ⟨rfl, hb⟩
      have L_21 := Lib.hid (La_21.out.next hb)
      have G1_21 := Lib.hid (G1a_21.out.next hb)
      have I1_21 := Lib.hid (I1a_21.out.next hb)
      have D3_21 := Lib.hid (D3a_21.out.next hb)
      have G5_21 := Lib.hid (G5a_21.out.next hb)
      have I2_21 := Lib.hid (I2a_21.out.next hb)
      have I3_21 := Lib.hid (I3a_21.out.next hb)
      have B1_21 := Lib.hid (B1a_21.out.next hb)
      have D7_21 := Lib.hid (D7a_21.out.next hb)
      have X8_21 := Lib.hid (X8a_21.out.next hb)
      have I4_21 := Lib.hid (I4a_21.out.next hb)
      have I5_21 := Lib.hid (I5a_21.out.next hb)
      have D9_21 := Lib.hid (D9a_21.out.next hb)
      have X10_21 := Lib.hid (X10a_21.out.next hb)
      have D11_21 := Lib.hid (D11a_21.out.next hb)
      have I6_21 := Lib.hid (I6a_21.out.next hb)
      have I7_21 := Lib.hid (I7a_21.out.next hb)
      have I8_21 := Lib.hid (I8a_21.out.next hb)
      have I9_21 := Lib.hid (I9a_21.out.next hb)
      have I10_21 := Lib.hid (I10a_21.out.next hb)
      have I11_21 := Lib.hid (I11a_21.out.next hb)
      have B2_21 := Lib.hid (B2a_21.out.next hb)
      have I12_21 := Lib.hid (I12a_21.out.next hb)
      have X13_21 := Lib.hid (X13a_21.out.next hb)
      have I13_21 := Lib.hid (I13a_21.out.next hb)
      have I14_21 := Lib.hid (I14a_21.out.next hb)
      clear La_21 G1a_21 I1a_21 D3a_21 G5a_21 I2a_21 I3a_21 B1a_21 D7a_21 X8a_21 I4a_21 I5a_21 D9a_21 X10a_21 D11a_21 I6a_21 I7a_21 I8a_21 I9a_21 I10a_21 I11a_21 B2a_21 I12a_21 X13a_21 I13a_21 I14a_21
      clear hb 
      go_wp2_with fail
      have La_22 := Lib.hid (L_21.out.next ((Below.refl wu21.heap.size wu21).alloc (Nat.le_refl _) (.cells #[.int .i64 0, .int .i64 0, .slice none 0 0, .slice none 0 0, .int .i64 0, .int .i64 0, .slice none 0 0] 30)))
      clear L_21
      have G1a_22 := Lib.hid (G1_21.out.next ((Below.refl wu21.heap.size wu21).alloc (Nat.le_refl _) (.cells #[.int .i64 0, .int .i64 0, .slice none 0 0, .slice none 0 0, .int .i64 0, .int .i64 0, .slice none 0 0] 30)))
      clear G1_21
      have I1a_22 := Lib.hid (I1_21.out.next ((Below.refl wu21.heap.size wu21).alloc (Nat.le_refl _) (.cells #[.int .i64 0, .int .i64 0, .slice none 0 0, .slice none 0 0, .int .i64 0, .int .i64 0, .slice none 0 0] 30)))
      clear I1_21
      have D3a_22 := Lib.hid (D3_21.out.next ((Below.refl wu21.heap.size wu21).alloc (Nat.le_refl _) (.cells #[.int .i64 0, .int .i64 0, .slice none 0 0, .slice none 0 0, .int .i64 0, .int .i64 0, .slice none 0 0] 30)))
      clear D3_21
      have G5a_22 := Lib.hid (G5_21.out.next ((Below.refl wu21.heap.size wu21).alloc (Nat.le_refl _) (.cells #[.int .i64 0, .int .i64 0, .slice none 0 0, .slice none 0 0, .int .i64 0, .int .i64 0, .slice none 0 0] 30)))
      clear G5_21
      have I2a_22 := Lib.hid (I2_21.out.next ((Below.refl wu21.heap.size wu21).alloc (Nat.le_refl _) (.cells #[.int .i64 0, .int .i64 0, .slice none 0 0, .slice none 0 0, .int .i64 0, .int .i64 0, .slice none 0 0] 30)))
      clear I2_21
      have I3a_22 := Lib.hid (I3_21.out.next ((Below.refl wu21.heap.size wu21).alloc (Nat.le_refl _) (.cells #[.int .i64 0, .int .i64 0, .slice none 0 0, .slice none 0 0, .int .i64 0, .int .i64 0, .slice none 0 0] 30)))
      clear I3_21
      have B1a_22 := Lib.hid (B1_21.out.next ((Below.refl wu21.heap.size wu21).alloc (Nat.le_refl _) (.cells #[.int .i64 0, .int .i64 0, .slice none 0 0, .slice none 0 0, .int .i64 0, .int .i64 0, .slice none 0 0] 30)))
      clear B1_21
      have D7a_22 := Lib.hid (D7_21.out.next ((Below.refl wu21.heap.size wu21).alloc (Nat.le_refl _) (.cells #[.int .i64 0, .int .i64 0, .slice none 0 0, .slice none 0 0, .int .i64 0, .int .i64 0, .slice none 0 0] 30)))
      clear D7_21
      have X8a_22 := Lib.hid (X8_21.out.next ((Below.refl wu21.heap.size wu21).alloc (Nat.le_refl _) (.cells #[.int .i64 0, .int .i64 0, .slice none 0 0, .slice none 0 0, .int .i64 0, .int .i64 0, .slice none 0 0] 30)))
      clear X8_21
      have I4a_22 := Lib.hid (I4_21.out.next ((Below.refl wu21.heap.size wu21).alloc (Nat.le_refl _) (.cells #[.int .i64 0, .int .i64 0, .slice none 0 0, .slice none 0 0, .int .i64 0, .int .i64 0, .slice none 0 0] 30)))
      clear I4_21
      have I5a_22 := Lib.hid (I5_21.out.next ((Below.refl wu21.heap.size wu21).alloc (Nat.le_refl _) (.cells #[.int .i64 0, .int .i64 0, .slice none 0 0, .slice none 0 0, .int .i64 0, .int .i64 0, .slice none 0 0] 30)))
      clear I5_21
      have D9a_22 := Lib.hid (D9_21.out.next ((Below.refl wu21.heap.size wu21).alloc (Nat.le_refl _) (.cells #[.int .i64 0, .int .i64 0, .slice none 0 0, .slice none 0 0, .int .i64 0, .int .i64 0, .slice none 0 0] 30)))
      clear D9_21
      have X10a_22 := Lib.hid (X10_21.out.next ((Below.refl wu21.heap.size wu21).alloc (Nat.le_refl _) (.cells #[.int .i64 0, .int .i64 0, .slice none 0 0, .slice none 0 0, .int .i64 0, .int .i64 0, .slice none 0 0] 30)))
      clear X10_21
      have D11a_22 := Lib.hid (D11_21.out.next ((Below.refl wu21.heap.size wu21).alloc (Nat.le_refl _) (.cells #[.int .i64 0, .int .i64 0, .slice none 0 0, .slice none 0 0, .int .i64 0, .int .i64 0, .slice none 0 0] 30)))
      clear D11_21
      have I6a_22 := Lib.hid (I6_21.out.next ((Below.refl wu21.heap.size wu21).alloc (Nat.le_refl _) (.cells #[.int .i64 0, .int .i64 0, .slice none 0 0, .slice none 0 0, .int .i64 0, .int .i64 0, .slice none 0 0] 30)))
      clear I6_21
      have I7a_22 := Lib.hid (I7_21.out.next ((Below.refl wu21.heap.size wu21).alloc (Nat.le_refl _) (.cells #[.int .i64 0, .int .i64 0, .slice none 0 0, .slice none 0 0, .int .i64 0, .int .i64 0, .slice none 0 0] 30)))
      clear I7_21
      have I8a_22 := Lib.hid (I8_21.out.next ((Below.refl wu21.heap.size wu21).alloc (Nat.le_refl _) (.cells #[.int .i64 0, .int .i64 0, .slice none 0 0, .slice none 0 0, .int .i64 0, .int .i64 0, .slice none 0 0] 30)))
      clear I8_21
      have I9a_22 := Lib.hid (I9_21.out.next ((Below.refl wu21.heap.size wu21).alloc (Nat.le_refl _) (.cells #[.int .i64 0, .int .i64 0, .slice none 0 0, .slice none 0 0, .int .i64 0, .int .i64 0, .slice none 0 0] 30)))
      clear I9_21
      have I10a_22 := Lib.hid (I10_21.out.next ((Below.refl wu21.heap.size wu21).alloc (Nat.le_refl _) (.cells #[.int .i64 0, .int .i64 0, .slice none 0 0, .slice none 0 0, .int .i64 0, .int .i64 0, .slice none 0 0] 30)))
      clear I10_21
      have I11a_22 := Lib.hid (I11_21.out.next ((Below.refl wu21.heap.size wu21).alloc (Nat.le_refl _) (.cells #[.int .i64 0, .int .i64 0, .slice none 0 0, .slice none 0 0, .int .i64 0, .int .i64 0, .slice none 0 0] 30)))
      clear I11_21
      have B2a_22 := Lib.hid (B2_21.out.next ((Below.refl wu21.heap.size wu21).alloc (Nat.le_refl _) (.cells #[.int .i64 0, .int .i64 0, .slice none 0 0, .slice none 0 0, .int .i64 0, .int .i64 0, .slice none 0 0] 30)))
      clear B2_21
      have I12a_22 := Lib.hid (I12_21.out.next ((Below.refl wu21.heap.size wu21).alloc (Nat.le_refl _) (.cells #[.int .i64 0, .int .i64 0, .slice none 0 0, .slice none 0 0, .int .i64 0, .int .i64 0, .slice none 0 0] 30)))
      clear I12_21
      have X13a_22 := Lib.hid (X13_21.out.next ((Below.refl wu21.heap.size wu21).alloc (Nat.le_refl _) (.cells #[.int .i64 0, .int .i64 0, .slice none 0 0, .slice none 0 0, .int .i64 0, .int .i64 0, .slice none 0 0] 30)))
      clear X13_21
      have I13a_22 := Lib.hid (I13_21.out.next ((Below.refl wu21.heap.size wu21).alloc (Nat.le_refl _) (.cells #[.int .i64 0, .int .i64 0, .slice none 0 0, .slice none 0 0, .int .i64 0, .int .i64 0, .slice none 0 0] 30)))
      clear I13_21
      have I14a_22 := Lib.hid (I14_21.out.next ((Below.refl wu21.heap.size wu21).alloc (Nat.le_refl _) (.cells #[.int .i64 0, .int .i64 0, .slice none 0 0, .slice none 0 0, .int .i64 0, .int .i64 0, .slice none 0 0] 30)))
      clear I14_21
      generalize wu21.alloc (.cells #[.int .i64 0, .int .i64 0, .slice none 0 0, .slice none 0 0, .int .i64 0, .int .i64 0, .slice none 0 0] 30) = wv22 at *
      with_reducible refine Calls.mono (given_dx _) ?_
      rintro e wu22 ⟨a14, ca14, b14, cb14, c14, cc14, rfl, hdx, hb⟩
      have L_22 := Lib.hid (La_22.out.next hb)
      have G1_22 := Lib.hid (G1a_22.out.next hb)
      have I1_22 := Lib.hid (I1a_22.out.next hb)
      have D3_22 := Lib.hid (D3a_22.out.next hb)
      have G5_22 := Lib.hid (G5a_22.out.next hb)
      have I2_22 := Lib.hid (I2a_22.out.next hb)
      have I3_22 := Lib.hid (I3a_22.out.next hb)
      have B1_22 := Lib.hid (B1a_22.out.next hb)
      have D7_22 := Lib.hid (D7a_22.out.next hb)
      have X8_22 := Lib.hid (X8a_22.out.next hb)
      have I4_22 := Lib.hid (I4a_22.out.next hb)
      have I5_22 := Lib.hid (I5a_22.out.next hb)
      have D9_22 := Lib.hid (D9a_22.out.next hb)
      have X10_22 := Lib.hid (X10a_22.out.next hb)
      have D11_22 := Lib.hid (D11a_22.out.next hb)
      have I6_22 := Lib.hid (I6a_22.out.next hb)
      have I7_22 := Lib.hid (I7a_22.out.next hb)
      have I8_22 := Lib.hid (I8a_22.out.next hb)
      have I9_22 := Lib.hid (I9a_22.out.next hb)
      have I10_22 := Lib.hid (I10a_22.out.next hb)
      have I11_22 := Lib.hid (I11a_22.out.next hb)
      have B2_22 := Lib.hid (B2a_22.out.next hb)
      have I12_22 := Lib.hid (I12a_22.out.next hb)
      have X13_22 := Lib.hid (X13a_22.out.next hb)
      have I13_22 := Lib.hid (I13a_22.out.next hb)
      have I14_22 := Lib.hid (I14a_22.out.next hb)
      clear La_22 G1a_22 I1a_22 D3a_22 G5a_22 I2a_22 I3a_22 B1a_22 D7a_22 X8a_22 I4a_22 I5a_22 D9a_22 X10a_22 D11a_22 I6a_22 I7a_22 I8a_22 I9a_22 I10a_22 I11a_22 B2a_22 I12a_22 X13a_22 I13a_22 I14a_22
      have X14_22 := Lib.hid (hdx)
      clear hb hdx
      go_wp2_with fail
      have La_23 := Lib.hid (L_22.out.next (((Below.refl wu22.heap.size wu22).alloc (Nat.le_refl _) (.cells #[.int .i64 0, .int .i64 1] 3)).alloc (by first | (simp; done) | (simp; omega)) (.cells #[.int .i64 0, .int .i64 1, .int .i64 2] 3)))
      clear L_22
      have G1a_23 := Lib.hid (G1_22.out.next (((Below.refl wu22.heap.size wu22).alloc (Nat.le_refl _) (.cells #[.int .i64 0, .int .i64 1] 3)).alloc (by first | (simp; done) | (simp; omega)) (.cells #[.int .i64 0, .int .i64 1, .int .i64 2] 3)))
      clear G1_22
      have I1a_23 := Lib.hid (I1_22.out.next (((Below.refl wu22.heap.size wu22).alloc (Nat.le_refl _) (.cells #[.int .i64 0, .int .i64 1] 3)).alloc (by first | (simp; done) | (simp; omega)) (.cells #[.int .i64 0, .int .i64 1, .int .i64 2] 3)))
      clear I1_22
      have D3a_23 := Lib.hid (D3_22.out.next (((Below.refl wu22.heap.size wu22).alloc (Nat.le_refl _) (.cells #[.int .i64 0, .int .i64 1] 3)).alloc (by first | (simp; done) | (simp; omega)) (.cells #[.int .i64 0, .int .i64 1, .int .i64 2] 3)))
      clear D3_22
      have G5a_23 := Lib.hid (G5_22.out.next (((Below.refl wu22.heap.size wu22).alloc (Nat.le_refl _) (.cells #[.int .i64 0, .int .i64 1] 3)).alloc (by first | (simp; done) | (simp; omega)) (.cells #[.int .i64 0, .int .i64 1, .int .i64 2] 3)))
      clear G5_22
      have I2a_23 := Lib.hid (I2_22.out.next (((Below.refl wu22.heap.size wu22).alloc (Nat.le_refl _) (.cells #[.int .i64 0, .int .i64 1] 3)).alloc (by first | (simp; done) | (simp; omega)) (.cells #[.int .i64 0, .int .i64 1, .int .i64 2] 3)))
      clear I2_22
      have I3a_23 := Lib.hid (I3_22.out.next (((Below.refl wu22.heap.size wu22).alloc (Nat.le_refl _) (.cells #[.int .i64 0, .int .i64 1] 3)).alloc (by first | (simp; done) | (simp; omega)) (.cells #[.int .i64 0, .int .i64 1, .int .i64 2] 3)))
      clear I3_22
      have B1a_23 := Lib.hid (B1_22.out.next (((Below.refl wu22.heap.size wu22).alloc (Nat.le_refl _) (.cells #[.int .i64 0, .int .i64 1] 3)).alloc (by first | (simp; done) | (simp; omega)) (.cells #[.int .i64 0, .int .i64 1, .int .i64 2] 3)))
      clear B1_22
      have D7a_23 := Lib.hid (D7_22.out.next (((Below.refl wu22.heap.size wu22).alloc (Nat.le_refl _) (.cells #[.int .i64 0, .int .i64 1] 3)).alloc (by first | (simp; done) | (simp; omega)) (.cells #[.int .i64 0, .int .i64 1, .int .i64 2] 3)))
      clear D7_22
      have X8a_23 := Lib.hid (X8_22.out.next (((Below.refl wu22.heap.size wu22).alloc (Nat.le_refl _) (.cells #[.int .i64 0, .int .i64 1] 3)).alloc (by first | (simp; done) | (simp; omega)) (.cells #[.int .i64 0, .int .i64 1, .int .i64 2] 3)))
      clear X8_22
      have I4a_23 := Lib.hid (I4_22.out.next (((Below.refl wu22.heap.size wu22).alloc (Nat.le_refl _) (.cells #[.int .i64 0, .int .i64 1] 3)).alloc (by first | (simp; done) | (simp; omega)) (.cells #[.int .i64 0, .int .i64 1, .int .i64 2] 3)))
      clear I4_22
      have I5a_23 := Lib.hid (I5_22.out.next (((Below.refl wu22.heap.size wu22).alloc (Nat.le_refl _) (.cells #[.int .i64 0, .int .i64 1] 3)).alloc (by first | (simp; done) | (simp; omega)) (.cells #[.int .i64 0, .int .i64 1, .int .i64 2] 3)))
      clear I5_22
      have D9a_23 := Lib.hid (D9_22.out.next (((Below.refl wu22.heap.size wu22).alloc (Nat.le_refl _) (.cells #[.int .i64 0, .int .i64 1] 3)).alloc (by first | (simp; done) | (simp; omega)) (.cells #[.int .i64 0, .int .i64 1, .int .i64 2] 3)))
      clear D9_22
      have X10a_23 := Lib.hid (X10_22.out.next (((Below.refl wu22.heap.size wu22).alloc (Nat.le_refl _) (.cells #[.int .i64 0, .int .i64 1] 3)).alloc (by first | (simp; done) | (simp; omega)) (.cells #[.int .i64 0, .int .i64 1, .int .i64 2] 3)))
      clear X10_22
      have D11a_23 := Lib.hid (D11_22.out.next (((Below.refl wu22.heap.size wu22).alloc (Nat.le_refl _) (.cells #[.int .i64 0, .int .i64 1] 3)).alloc (by first | (simp; done) | (simp; omega)) (.cells #[.int .i64 0, .int .i64 1, .int .i64 2] 3)))
      clear D11_22
      have I6a_23 := Lib.hid (I6_22.out.next (((Below.refl wu22.heap.size wu22).alloc (Nat.le_refl _) (.cells #[.int .i64 0, .int .i64 1] 3)).alloc (by first | (simp; done) | (simp; omega)) (.cells #[.int .i64 0, .int .i64 1, .int .i64 2] 3)))
      clear I6_22
      have I7a_23 := Lib.hid (I7_22.out.next (((Below.refl wu22.heap.size wu22).alloc (Nat.le_refl _) (.cells #[.int .i64 0, .int .i64 1] 3)).alloc (by first | (simp; done) | (simp; omega)) (.cells #[.int .i64 0, .int .i64 1, .int .i64 2] 3)))
      clear I7_22
      have I8a_23 := Lib.hid (I8_22.out.next (((Below.refl wu22.heap.size wu22).alloc (Nat.le_refl _) (.cells #[.int .i64 0, .int .i64 1] 3)).alloc (by first | (simp; done) | (simp; omega)) (.cells #[.int .i64 0, .int .i64 1, .int .i64 2] 3)))
      clear I8_22
      have I9a_23 := Lib.hid (I9_22.out.next (((Below.refl wu22.heap.size wu22).alloc (Nat.le_refl _) (.cells #[.int .i64 0, .int .i64 1] 3)).alloc (by first | (simp; done) | (simp; omega)) (.cells #[.int .i64 0, .int .i64 1, .int .i64 2] 3)))
      clear I9_22
      have I10a_23 := Lib.hid (I10_22.out.next (((Below.refl wu22.heap.size wu22).alloc (Nat.le_refl _) (.cells #[.int .i64 0, .int .i64 1] 3)).alloc (by first | (simp; done) | (simp; omega)) (.cells #[.int .i64 0, .int .i64 1, .int .i64 2] 3)))
      clear I10_22
      have I11a_23 := Lib.hid (I11_22.out.next (((Below.refl wu22.heap.size wu22).alloc (Nat.le_refl _) (.cells #[.int .i64 0, .int .i64 1] 3)).alloc (by first | (simp; done) | (simp; omega)) (.cells #[.int .i64 0, .int .i64 1, .int .i64 2] 3)))
      clear I11_22
      have B2a_23 := Lib.hid (B2_22.out.next (((Below.refl wu22.heap.size wu22).alloc (Nat.le_refl _) (.cells #[.int .i64 0, .int .i64 1] 3)).alloc (by first | (simp; done) | (simp; omega)) (.cells #[.int .i64 0, .int .i64 1, .int .i64 2] 3)))
      clear B2_22
      have I12a_23 := Lib.hid (I12_22.out.next (((Below.refl wu22.heap.size wu22).alloc (Nat.le_refl _) (.cells #[.int .i64 0, .int .i64 1] 3)).alloc (by first | (simp; done) | (simp; omega)) (.cells #[.int .i64 0, .int .i64 1, .int .i64 2] 3)))
      clear I12_22
      have X13a_23 := Lib.hid (X13_22.out.next (((Below.refl wu22.heap.size wu22).alloc (Nat.le_refl _) (.cells #[.int .i64 0, .int .i64 1] 3)).alloc (by first | (simp; done) | (simp; omega)) (.cells #[.int .i64 0, .int .i64 1, .int .i64 2] 3)))
      clear X13_22
      have I13a_23 := Lib.hid (I13_22.out.next (((Below.refl wu22.heap.size wu22).alloc (Nat.le_refl _) (.cells #[.int .i64 0, .int .i64 1] 3)).alloc (by first | (simp; done) | (simp; omega)) (.cells #[.int .i64 0, .int .i64 1, .int .i64 2] 3)))
      clear I13_22
      have I14a_23 := Lib.hid (I14_22.out.next (((Below.refl wu22.heap.size wu22).alloc (Nat.le_refl _) (.cells #[.int .i64 0, .int .i64 1] 3)).alloc (by first | (simp; done) | (simp; omega)) (.cells #[.int .i64 0, .int .i64 1, .int .i64 2] 3)))
      clear I14_22
      have X14a_23 := Lib.hid (X14_22.out.next (((Below.refl wu22.heap.size wu22).alloc (Nat.le_refl _) (.cells #[.int .i64 0, .int .i64 1] 3)).alloc (by first | (simp; done) | (simp; omega)) (.cells #[.int .i64 0, .int .i64 1, .int .i64 2] 3)))
      clear X14_22
      have I15a_230 : IX (wu22.alloc (.cells #[.int .i64 0, .int .i64 1] 3)) wu22.heap.size 2 (at0 [0, 1]) := by
          have h := IX.lit wu22 [0, 1]
          try simp only [World.size_alloc] at h
          exact h
      have I15a_23 := Lib.hid (I15a_230.next ((Below.refl (wu22.alloc (.cells #[.int .i64 0, .int .i64 1] 3)).heap.size (wu22.alloc (.cells #[.int .i64 0, .int .i64 1] 3))).alloc (by first | exact Nat.le_refl _ | (simp; done) | (simp; omega)) (.cells #[.int .i64 0, .int .i64 1, .int .i64 2] 3)))
      clear I15a_230
      have I16a_230 : IX ((wu22.alloc (.cells #[.int .i64 0, .int .i64 1] 3)).alloc (.cells #[.int .i64 0, .int .i64 1, .int .i64 2] 3)) (wu22.heap.size + 1) 3 (at0 [0, 1, 2]) := by
          have h := IX.lit (wu22.alloc (.cells #[.int .i64 0, .int .i64 1] 3)) [0, 1, 2]
          try simp only [World.size_alloc] at h
          exact h
      have I16a_23 := Lib.hid (I16a_230.next (Below.refl ((wu22.alloc (.cells #[.int .i64 0, .int .i64 1] 3)).alloc (.cells #[.int .i64 0, .int .i64 1, .int .i64 2] 3)).heap.size ((wu22.alloc (.cells #[.int .i64 0, .int .i64 1] 3)).alloc (.cells #[.int .i64 0, .int .i64 1, .int .i64 2] 3))))
      clear I16a_230
      generalize (wu22.alloc (.cells #[.int .i64 0, .int .i64 1] 3)).alloc (.cells #[.int .i64 0, .int .i64 1, .int .i64 2] 3) = wv23 at *
      with_reducible refine Calls.mono (rn_no3 _ _ _ _ _ _ _ _ _ X14a_23.out.cells I15a_23.out.holds I16a_23.out.holds) ?_
      rintro e wu23 ⟨rfl, hb⟩
      have L_23 := Lib.hid (La_23.out.next hb)
      have G1_23 := Lib.hid (G1a_23.out.next hb)
      have I1_23 := Lib.hid (I1a_23.out.next hb)
      have D3_23 := Lib.hid (D3a_23.out.next hb)
      have G5_23 := Lib.hid (G5a_23.out.next hb)
      have I2_23 := Lib.hid (I2a_23.out.next hb)
      have I3_23 := Lib.hid (I3a_23.out.next hb)
      have B1_23 := Lib.hid (B1a_23.out.next hb)
      have D7_23 := Lib.hid (D7a_23.out.next hb)
      have X8_23 := Lib.hid (X8a_23.out.next hb)
      have I4_23 := Lib.hid (I4a_23.out.next hb)
      have I5_23 := Lib.hid (I5a_23.out.next hb)
      have D9_23 := Lib.hid (D9a_23.out.next hb)
      have X10_23 := Lib.hid (X10a_23.out.next hb)
      have D11_23 := Lib.hid (D11a_23.out.next hb)
      have I6_23 := Lib.hid (I6a_23.out.next hb)
      have I7_23 := Lib.hid (I7a_23.out.next hb)
      have I8_23 := Lib.hid (I8a_23.out.next hb)
      have I9_23 := Lib.hid (I9a_23.out.next hb)
      have I10_23 := Lib.hid (I10a_23.out.next hb)
      have I11_23 := Lib.hid (I11a_23.out.next hb)
      have B2_23 := Lib.hid (B2a_23.out.next hb)
      have I12_23 := Lib.hid (I12a_23.out.next hb)
      have X13_23 := Lib.hid (X13a_23.out.next hb)
      have I13_23 := Lib.hid (I13a_23.out.next hb)
      have I14_23 := Lib.hid (I14a_23.out.next hb)
      have X14_23 := Lib.hid (X14a_23.out.next hb)
      have I15_23 := Lib.hid (I15a_23.out.next hb)
      have I16_23 := Lib.hid (I16a_23.out.next hb)
      clear La_23 G1a_23 I1a_23 D3a_23 G5a_23 I2a_23 I3a_23 B1a_23 D7a_23 X8a_23 I4a_23 I5a_23 D9a_23 X10a_23 D11a_23 I6a_23 I7a_23 I8a_23 I9a_23 I10a_23 I11a_23 B2a_23 I12a_23 X13a_23 I13a_23 I14a_23 X14a_23 I15a_23 I16a_23
      clear hb 
      go_wp2_with fail
      have La_24 := Lib.hid (L_23.out.next ((Below.refl wu23.heap.size wu23).alloc (Nat.le_refl _) (.cells #[.int .i64 0, .int .i64 0, .slice none 0 0, .slice none 0 0, .int .i64 0, .int .i64 0, .slice none 0 0] 30)))
      clear L_23
      have G1a_24 := Lib.hid (G1_23.out.next ((Below.refl wu23.heap.size wu23).alloc (Nat.le_refl _) (.cells #[.int .i64 0, .int .i64 0, .slice none 0 0, .slice none 0 0, .int .i64 0, .int .i64 0, .slice none 0 0] 30)))
      clear G1_23
      have I1a_24 := Lib.hid (I1_23.out.next ((Below.refl wu23.heap.size wu23).alloc (Nat.le_refl _) (.cells #[.int .i64 0, .int .i64 0, .slice none 0 0, .slice none 0 0, .int .i64 0, .int .i64 0, .slice none 0 0] 30)))
      clear I1_23
      have D3a_24 := Lib.hid (D3_23.out.next ((Below.refl wu23.heap.size wu23).alloc (Nat.le_refl _) (.cells #[.int .i64 0, .int .i64 0, .slice none 0 0, .slice none 0 0, .int .i64 0, .int .i64 0, .slice none 0 0] 30)))
      clear D3_23
      have G5a_24 := Lib.hid (G5_23.out.next ((Below.refl wu23.heap.size wu23).alloc (Nat.le_refl _) (.cells #[.int .i64 0, .int .i64 0, .slice none 0 0, .slice none 0 0, .int .i64 0, .int .i64 0, .slice none 0 0] 30)))
      clear G5_23
      have I2a_24 := Lib.hid (I2_23.out.next ((Below.refl wu23.heap.size wu23).alloc (Nat.le_refl _) (.cells #[.int .i64 0, .int .i64 0, .slice none 0 0, .slice none 0 0, .int .i64 0, .int .i64 0, .slice none 0 0] 30)))
      clear I2_23
      have I3a_24 := Lib.hid (I3_23.out.next ((Below.refl wu23.heap.size wu23).alloc (Nat.le_refl _) (.cells #[.int .i64 0, .int .i64 0, .slice none 0 0, .slice none 0 0, .int .i64 0, .int .i64 0, .slice none 0 0] 30)))
      clear I3_23
      have B1a_24 := Lib.hid (B1_23.out.next ((Below.refl wu23.heap.size wu23).alloc (Nat.le_refl _) (.cells #[.int .i64 0, .int .i64 0, .slice none 0 0, .slice none 0 0, .int .i64 0, .int .i64 0, .slice none 0 0] 30)))
      clear B1_23
      have D7a_24 := Lib.hid (D7_23.out.next ((Below.refl wu23.heap.size wu23).alloc (Nat.le_refl _) (.cells #[.int .i64 0, .int .i64 0, .slice none 0 0, .slice none 0 0, .int .i64 0, .int .i64 0, .slice none 0 0] 30)))
      clear D7_23
      have X8a_24 := Lib.hid (X8_23.out.next ((Below.refl wu23.heap.size wu23).alloc (Nat.le_refl _) (.cells #[.int .i64 0, .int .i64 0, .slice none 0 0, .slice none 0 0, .int .i64 0, .int .i64 0, .slice none 0 0] 30)))
      clear X8_23
      have I4a_24 := Lib.hid (I4_23.out.next ((Below.refl wu23.heap.size wu23).alloc (Nat.le_refl _) (.cells #[.int .i64 0, .int .i64 0, .slice none 0 0, .slice none 0 0, .int .i64 0, .int .i64 0, .slice none 0 0] 30)))
      clear I4_23
      have I5a_24 := Lib.hid (I5_23.out.next ((Below.refl wu23.heap.size wu23).alloc (Nat.le_refl _) (.cells #[.int .i64 0, .int .i64 0, .slice none 0 0, .slice none 0 0, .int .i64 0, .int .i64 0, .slice none 0 0] 30)))
      clear I5_23
      have D9a_24 := Lib.hid (D9_23.out.next ((Below.refl wu23.heap.size wu23).alloc (Nat.le_refl _) (.cells #[.int .i64 0, .int .i64 0, .slice none 0 0, .slice none 0 0, .int .i64 0, .int .i64 0, .slice none 0 0] 30)))
      clear D9_23
      have X10a_24 := Lib.hid (X10_23.out.next ((Below.refl wu23.heap.size wu23).alloc (Nat.le_refl _) (.cells #[.int .i64 0, .int .i64 0, .slice none 0 0, .slice none 0 0, .int .i64 0, .int .i64 0, .slice none 0 0] 30)))
      clear X10_23
      have D11a_24 := Lib.hid (D11_23.out.next ((Below.refl wu23.heap.size wu23).alloc (Nat.le_refl _) (.cells #[.int .i64 0, .int .i64 0, .slice none 0 0, .slice none 0 0, .int .i64 0, .int .i64 0, .slice none 0 0] 30)))
      clear D11_23
      have I6a_24 := Lib.hid (I6_23.out.next ((Below.refl wu23.heap.size wu23).alloc (Nat.le_refl _) (.cells #[.int .i64 0, .int .i64 0, .slice none 0 0, .slice none 0 0, .int .i64 0, .int .i64 0, .slice none 0 0] 30)))
      clear I6_23
      have I7a_24 := Lib.hid (I7_23.out.next ((Below.refl wu23.heap.size wu23).alloc (Nat.le_refl _) (.cells #[.int .i64 0, .int .i64 0, .slice none 0 0, .slice none 0 0, .int .i64 0, .int .i64 0, .slice none 0 0] 30)))
      clear I7_23
      have I8a_24 := Lib.hid (I8_23.out.next ((Below.refl wu23.heap.size wu23).alloc (Nat.le_refl _) (.cells #[.int .i64 0, .int .i64 0, .slice none 0 0, .slice none 0 0, .int .i64 0, .int .i64 0, .slice none 0 0] 30)))
      clear I8_23
      have I9a_24 := Lib.hid (I9_23.out.next ((Below.refl wu23.heap.size wu23).alloc (Nat.le_refl _) (.cells #[.int .i64 0, .int .i64 0, .slice none 0 0, .slice none 0 0, .int .i64 0, .int .i64 0, .slice none 0 0] 30)))
      clear I9_23
      have I10a_24 := Lib.hid (I10_23.out.next ((Below.refl wu23.heap.size wu23).alloc (Nat.le_refl _) (.cells #[.int .i64 0, .int .i64 0, .slice none 0 0, .slice none 0 0, .int .i64 0, .int .i64 0, .slice none 0 0] 30)))
      clear I10_23
      have I11a_24 := Lib.hid (I11_23.out.next ((Below.refl wu23.heap.size wu23).alloc (Nat.le_refl _) (.cells #[.int .i64 0, .int .i64 0, .slice none 0 0, .slice none 0 0, .int .i64 0, .int .i64 0, .slice none 0 0] 30)))
      clear I11_23
      have B2a_24 := Lib.hid (B2_23.out.next ((Below.refl wu23.heap.size wu23).alloc (Nat.le_refl _) (.cells #[.int .i64 0, .int .i64 0, .slice none 0 0, .slice none 0 0, .int .i64 0, .int .i64 0, .slice none 0 0] 30)))
      clear B2_23
      have I12a_24 := Lib.hid (I12_23.out.next ((Below.refl wu23.heap.size wu23).alloc (Nat.le_refl _) (.cells #[.int .i64 0, .int .i64 0, .slice none 0 0, .slice none 0 0, .int .i64 0, .int .i64 0, .slice none 0 0] 30)))
      clear I12_23
      have X13a_24 := Lib.hid (X13_23.out.next ((Below.refl wu23.heap.size wu23).alloc (Nat.le_refl _) (.cells #[.int .i64 0, .int .i64 0, .slice none 0 0, .slice none 0 0, .int .i64 0, .int .i64 0, .slice none 0 0] 30)))
      clear X13_23
      have I13a_24 := Lib.hid (I13_23.out.next ((Below.refl wu23.heap.size wu23).alloc (Nat.le_refl _) (.cells #[.int .i64 0, .int .i64 0, .slice none 0 0, .slice none 0 0, .int .i64 0, .int .i64 0, .slice none 0 0] 30)))
      clear I13_23
      have I14a_24 := Lib.hid (I14_23.out.next ((Below.refl wu23.heap.size wu23).alloc (Nat.le_refl _) (.cells #[.int .i64 0, .int .i64 0, .slice none 0 0, .slice none 0 0, .int .i64 0, .int .i64 0, .slice none 0 0] 30)))
      clear I14_23
      have X14a_24 := Lib.hid (X14_23.out.next ((Below.refl wu23.heap.size wu23).alloc (Nat.le_refl _) (.cells #[.int .i64 0, .int .i64 0, .slice none 0 0, .slice none 0 0, .int .i64 0, .int .i64 0, .slice none 0 0] 30)))
      clear X14_23
      have I15a_24 := Lib.hid (I15_23.out.next ((Below.refl wu23.heap.size wu23).alloc (Nat.le_refl _) (.cells #[.int .i64 0, .int .i64 0, .slice none 0 0, .slice none 0 0, .int .i64 0, .int .i64 0, .slice none 0 0] 30)))
      clear I15_23
      have I16a_24 := Lib.hid (I16_23.out.next ((Below.refl wu23.heap.size wu23).alloc (Nat.le_refl _) (.cells #[.int .i64 0, .int .i64 0, .slice none 0 0, .slice none 0 0, .int .i64 0, .int .i64 0, .slice none 0 0] 30)))
      clear I16_23
      generalize wu23.alloc (.cells #[.int .i64 0, .int .i64 0, .slice none 0 0, .slice none 0 0, .int .i64 0, .int .i64 0, .slice none 0 0] 30) = wv24 at *
      with_reducible refine Calls.mono (given_dx _) ?_
      rintro e wu24 ⟨a21, ca21, b21, cb21, c21, cc21, rfl, hdx, hb⟩
      have L_24 := Lib.hid (La_24.out.next hb)
      have G1_24 := Lib.hid (G1a_24.out.next hb)
      have I1_24 := Lib.hid (I1a_24.out.next hb)
      have D3_24 := Lib.hid (D3a_24.out.next hb)
      have G5_24 := Lib.hid (G5a_24.out.next hb)
      have I2_24 := Lib.hid (I2a_24.out.next hb)
      have I3_24 := Lib.hid (I3a_24.out.next hb)
      have B1_24 := Lib.hid (B1a_24.out.next hb)
      have D7_24 := Lib.hid (D7a_24.out.next hb)
      have X8_24 := Lib.hid (X8a_24.out.next hb)
      have I4_24 := Lib.hid (I4a_24.out.next hb)
      have I5_24 := Lib.hid (I5a_24.out.next hb)
      have D9_24 := Lib.hid (D9a_24.out.next hb)
      have X10_24 := Lib.hid (X10a_24.out.next hb)
      have D11_24 := Lib.hid (D11a_24.out.next hb)
      have I6_24 := Lib.hid (I6a_24.out.next hb)
      have I7_24 := Lib.hid (I7a_24.out.next hb)
      have I8_24 := Lib.hid (I8a_24.out.next hb)
      have I9_24 := Lib.hid (I9a_24.out.next hb)
      have I10_24 := Lib.hid (I10a_24.out.next hb)
      have I11_24 := Lib.hid (I11a_24.out.next hb)
      have B2_24 := Lib.hid (B2a_24.out.next hb)
      have I12_24 := Lib.hid (I12a_24.out.next hb)
      have X13_24 := Lib.hid (X13a_24.out.next hb)
      have I13_24 := Lib.hid (I13a_24.out.next hb)
      have I14_24 := Lib.hid (I14a_24.out.next hb)
      have X14_24 := Lib.hid (X14a_24.out.next hb)
      have I15_24 := Lib.hid (I15a_24.out.next hb)
      have I16_24 := Lib.hid (I16a_24.out.next hb)
      clear La_24 G1a_24 I1a_24 D3a_24 G5a_24 I2a_24 I3a_24 B1a_24 D7a_24 X8a_24 I4a_24 I5a_24 D9a_24 X10a_24 D11a_24 I6a_24 I7a_24 I8a_24 I9a_24 I10a_24 I11a_24 B2a_24 I12a_24 X13a_24 I13a_24 I14a_24 X14a_24 I15a_24 I16a_24
      have X21_24 := Lib.hid (hdx)
      clear hb hdx
      go_wp2_with fail
      with_reducible refine Calls.mono (given_dx _) ?_
      rintro e wu25 ⟨a22, ca22, b22, cb22, c22, cc22, rfl, hdx, hb⟩
      have L_25 := Lib.hid (L_24.out.next hb)
      have G1_25 := Lib.hid (G1_24.out.next hb)
      have I1_25 := Lib.hid (I1_24.out.next hb)
      have D3_25 := Lib.hid (D3_24.out.next hb)
      have G5_25 := Lib.hid (G5_24.out.next hb)
      have I2_25 := Lib.hid (I2_24.out.next hb)
      have I3_25 := Lib.hid (I3_24.out.next hb)
      have B1_25 := Lib.hid (B1_24.out.next hb)
      have D7_25 := Lib.hid (D7_24.out.next hb)
      have X8_25 := Lib.hid (X8_24.out.next hb)
      have I4_25 := Lib.hid (I4_24.out.next hb)
      have I5_25 := Lib.hid (I5_24.out.next hb)
      have D9_25 := Lib.hid (D9_24.out.next hb)
      have X10_25 := Lib.hid (X10_24.out.next hb)
      have D11_25 := Lib.hid (D11_24.out.next hb)
      have I6_25 := Lib.hid (I6_24.out.next hb)
      have I7_25 := Lib.hid (I7_24.out.next hb)
      have I8_25 := Lib.hid (I8_24.out.next hb)
      have I9_25 := Lib.hid (I9_24.out.next hb)
      have I10_25 := Lib.hid (I10_24.out.next hb)
      have I11_25 := Lib.hid (I11_24.out.next hb)
      have B2_25 := Lib.hid (B2_24.out.next hb)
      have I12_25 := Lib.hid (I12_24.out.next hb)
      have X13_25 := Lib.hid (X13_24.out.next hb)
      have I13_25 := Lib.hid (I13_24.out.next hb)
      have I14_25 := Lib.hid (I14_24.out.next hb)
      have X14_25 := Lib.hid (X14_24.out.next hb)
      have I15_25 := Lib.hid (I15_24.out.next hb)
      have I16_25 := Lib.hid (I16_24.out.next hb)
      have X21_25 := Lib.hid (X21_24.out.next hb)
      clear L_24 G1_24 I1_24 D3_24 G5_24 I2_24 I3_24 B1_24 D7_24 X8_24 I4_24 I5_24 D9_24 X10_24 D11_24 I6_24 I7_24 I8_24 I9_24 I10_24 I11_24 B2_24 I12_24 X13_24 I13_24 I14_24 X14_24 I15_24 I16_24 X21_24
      have X22_25 := Lib.hid (hdx)
      clear hb hdx
      go_wp2_with fail
      with_reducible refine Calls.mono (given_dx _) ?_
      rintro e wu26 ⟨a23, ca23, b23, cb23, c23, cc23, rfl, hdx, hb⟩
      have L_26 := Lib.hid (L_25.out.next hb)
      have G1_26 := Lib.hid (G1_25.out.next hb)
      have I1_26 := Lib.hid (I1_25.out.next hb)
      have D3_26 := Lib.hid (D3_25.out.next hb)
      have G5_26 := Lib.hid (G5_25.out.next hb)
      have I2_26 := Lib.hid (I2_25.out.next hb)
      have I3_26 := Lib.hid (I3_25.out.next hb)
      have B1_26 := Lib.hid (B1_25.out.next hb)
      have D7_26 := Lib.hid (D7_25.out.next hb)
      have X8_26 := Lib.hid (X8_25.out.next hb)
      have I4_26 := Lib.hid (I4_25.out.next hb)
      have I5_26 := Lib.hid (I5_25.out.next hb)
      have D9_26 := Lib.hid (D9_25.out.next hb)
      have X10_26 := Lib.hid (X10_25.out.next hb)
      have D11_26 := Lib.hid (D11_25.out.next hb)
      have I6_26 := Lib.hid (I6_25.out.next hb)
      have I7_26 := Lib.hid (I7_25.out.next hb)
      have I8_26 := Lib.hid (I8_25.out.next hb)
      have I9_26 := Lib.hid (I9_25.out.next hb)
      have I10_26 := Lib.hid (I10_25.out.next hb)
      have I11_26 := Lib.hid (I11_25.out.next hb)
      have B2_26 := Lib.hid (B2_25.out.next hb)
      have I12_26 := Lib.hid (I12_25.out.next hb)
      have X13_26 := Lib.hid (X13_25.out.next hb)
      have I13_26 := Lib.hid (I13_25.out.next hb)
      have I14_26 := Lib.hid (I14_25.out.next hb)
      have X14_26 := Lib.hid (X14_25.out.next hb)
      have I15_26 := Lib.hid (I15_25.out.next hb)
      have I16_26 := Lib.hid (I16_25.out.next hb)
      have X21_26 := Lib.hid (X21_25.out.next hb)
      have X22_26 := Lib.hid (X22_25.out.next hb)
      clear L_25 G1_25 I1_25 D3_25 G5_25 I2_25 I3_25 B1_25 D7_25 X8_25 I4_25 I5_25 D9_25 X10_25 D11_25 I6_25 I7_25 I8_25 I9_25 I10_25 I11_25 B2_25 I12_25 X13_25 I13_25 I14_25 X14_25 I15_25 I16_25 X21_25 X22_25
      have X23_26 := Lib.hid (hdx)
      clear hb hdx
      go_wp2_with fail
      with_reducible refine Calls.mono (given_dx _) ?_
      rintro e wu27 ⟨a24, ca24, b24, cb24, c24, cc24, rfl, hdx, hb⟩
      have L_27 := Lib.hid (L_26.out.next hb)
      have G1_27 := Lib.hid (G1_26.out.next hb)
      have I1_27 := Lib.hid (I1_26.out.next hb)
      have D3_27 := Lib.hid (D3_26.out.next hb)
      have G5_27 := Lib.hid (G5_26.out.next hb)
      have I2_27 := Lib.hid (I2_26.out.next hb)
      have I3_27 := Lib.hid (I3_26.out.next hb)
      have B1_27 := Lib.hid (B1_26.out.next hb)
      have D7_27 := Lib.hid (D7_26.out.next hb)
      have X8_27 := Lib.hid (X8_26.out.next hb)
      have I4_27 := Lib.hid (I4_26.out.next hb)
      have I5_27 := Lib.hid (I5_26.out.next hb)
      have D9_27 := Lib.hid (D9_26.out.next hb)
      have X10_27 := Lib.hid (X10_26.out.next hb)
      have D11_27 := Lib.hid (D11_26.out.next hb)
      have I6_27 := Lib.hid (I6_26.out.next hb)
      have I7_27 := Lib.hid (I7_26.out.next hb)
      have I8_27 := Lib.hid (I8_26.out.next hb)
      have I9_27 := Lib.hid (I9_26.out.next hb)
      have I10_27 := Lib.hid (I10_26.out.next hb)
      have I11_27 := Lib.hid (I11_26.out.next hb)
      have B2_27 := Lib.hid (B2_26.out.next hb)
      have I12_27 := Lib.hid (I12_26.out.next hb)
      have X13_27 := Lib.hid (X13_26.out.next hb)
      have I13_27 := Lib.hid (I13_26.out.next hb)
      have I14_27 := Lib.hid (I14_26.out.next hb)
      have X14_27 := Lib.hid (X14_26.out.next hb)
      have I15_27 := Lib.hid (I15_26.out.next hb)
      have I16_27 := Lib.hid (I16_26.out.next hb)
      have X21_27 := Lib.hid (X21_26.out.next hb)
      have X22_27 := Lib.hid (X22_26.out.next hb)
      have X23_27 := Lib.hid (X23_26.out.next hb)
      clear L_26 G1_26 I1_26 D3_26 G5_26 I2_26 I3_26 B1_26 D7_26 X8_26 I4_26 I5_26 D9_26 X10_26 D11_26 I6_26 I7_26 I8_26 I9_26 I10_26 I11_26 B2_26 I12_26 X13_26 I13_26 I14_26 X14_26 I15_26 I16_26 X21_26 X22_26 X23_26
      have X24_27 := Lib.hid (hdx)
      clear hb hdx
      go_wp2_with fail
      with_reducible refine Calls.mono (given_dx _) ?_
      rintro e wu28 ⟨a25, ca25, b25, cb25, c25, cc25, rfl, hdx, hb⟩
      have L_28 := Lib.hid (L_27.out.next hb)
      have G1_28 := Lib.hid (G1_27.out.next hb)
      have I1_28 := Lib.hid (I1_27.out.next hb)
      have D3_28 := Lib.hid (D3_27.out.next hb)
      have G5_28 := Lib.hid (G5_27.out.next hb)
      have I2_28 := Lib.hid (I2_27.out.next hb)
      have I3_28 := Lib.hid (I3_27.out.next hb)
      have B1_28 := Lib.hid (B1_27.out.next hb)
      have D7_28 := Lib.hid (D7_27.out.next hb)
      have X8_28 := Lib.hid (X8_27.out.next hb)
      have I4_28 := Lib.hid (I4_27.out.next hb)
      have I5_28 := Lib.hid (I5_27.out.next hb)
      have D9_28 := Lib.hid (D9_27.out.next hb)
      have X10_28 := Lib.hid (X10_27.out.next hb)
      have D11_28 := Lib.hid (D11_27.out.next hb)
      have I6_28 := Lib.hid (I6_27.out.next hb)
      have I7_28 := Lib.hid (I7_27.out.next hb)
      have I8_28 := Lib.hid (I8_27.out.next hb)
      have I9_28 := Lib.hid (I9_27.out.next hb)
      have I10_28 := Lib.hid (I10_27.out.next hb)
      have I11_28 := Lib.hid (I11_27.out.next hb)
      have B2_28 := Lib.hid (B2_27.out.next hb)
      have I12_28 := Lib.hid (I12_27.out.next hb)
      have X13_28 := Lib.hid (X13_27.out.next hb)
      have I13_28 := Lib.hid (I13_27.out.next hb)
      have I14_28 := Lib.hid (I14_27.out.next hb)
      have X14_28 := Lib.hid (X14_27.out.next hb)
      have I15_28 := Lib.hid (I15_27.out.next hb)
      have I16_28 := Lib.hid (I16_27.out.next hb)
      have X21_28 := Lib.hid (X21_27.out.next hb)
      have X22_28 := Lib.hid (X22_27.out.next hb)
      have X23_28 := Lib.hid (X23_27.out.next hb)
      have X24_28 := Lib.hid (X24_27.out.next hb)
      clear L_27 G1_27 I1_27 D3_27 G5_27 I2_27 I3_27 B1_27 D7_27 X8_27 I4_27 I5_27 D9_27 X10_27 D11_27 I6_27 I7_27 I8_27 I9_27 I10_27 I11_27 B2_27 I12_27 X13_27 I13_27 I14_27 X14_27 I15_27 I16_27 X21_27 X22_27 X23_27 X24_27
      have X25_28 := Lib.hid (hdx)
      clear hb hdx
      go_upto_region 18 with fail
      have La_28 := Lib.hid (L_28.out.next (((((((Below.refl wu28.heap.size wu28).alloc (Nat.le_refl _) (.cells #[.int .i64 41, .int .i64 2, .slice (some ⟨a21, 0, none⟩) 3 ca21, .slice (some ⟨b21, 0, none⟩) 2 cb21, .int .i64 2, .int .i64 2, .slice (some ⟨c21, 0, none⟩) 4 cc21] 30)).alloc (by first | (simp; done) | (simp; omega)) (.cells #[.int .i64 2, .int .i64 2, .slice none 0 0, .slice (some ⟨b22, 0, none⟩) 2 cb22, .int .i64 2, .int .i64 2, .slice (some ⟨c22, 0, none⟩) 4 cc22] 30)).alloc (by first | (simp; done) | (simp; omega)) (.cells #[.int .i64 2, .int .i64 2, .slice (some ⟨a23, 0, none⟩) 3 ca23, .slice (some ⟨wu28.heap.size + 1 + 1 + 1 + 1 + 1, 0, none⟩) 1 1, .int .i64 2, .int .i64 2, .slice (some ⟨c23, 0, none⟩) 4 cc23] 30)).alloc (by first | (simp; done) | (simp; omega)) (.cells #[.int .i64 2, .int .i64 2, .slice (some ⟨a24, 0, none⟩) 3 ca24, .slice (some ⟨b24, 0, none⟩) 2 cb24, .int .i64 3, .int .i64 2, .slice (some ⟨c24, 0, none⟩) 4 cc24] 30)).alloc (by first | (simp; done) | (simp; omega)) (.cells #[.int .i64 2, .int .i64 1, .slice (some ⟨a25, 0, none⟩) 3 ca25, .slice (some ⟨b25, 0, none⟩) 2 cb25, .int .i64 2, .int .i64 2, .slice (some ⟨c25, 0, none⟩) 4 cc25] 30)).alloc (by first | (simp; done) | (simp; omega)) (.cells #[.int .i64 2] 3)))
      clear L_28
      have G1a_28 := Lib.hid (G1_28.out.next (((((((Below.refl wu28.heap.size wu28).alloc (Nat.le_refl _) (.cells #[.int .i64 41, .int .i64 2, .slice (some ⟨a21, 0, none⟩) 3 ca21, .slice (some ⟨b21, 0, none⟩) 2 cb21, .int .i64 2, .int .i64 2, .slice (some ⟨c21, 0, none⟩) 4 cc21] 30)).alloc (by first | (simp; done) | (simp; omega)) (.cells #[.int .i64 2, .int .i64 2, .slice none 0 0, .slice (some ⟨b22, 0, none⟩) 2 cb22, .int .i64 2, .int .i64 2, .slice (some ⟨c22, 0, none⟩) 4 cc22] 30)).alloc (by first | (simp; done) | (simp; omega)) (.cells #[.int .i64 2, .int .i64 2, .slice (some ⟨a23, 0, none⟩) 3 ca23, .slice (some ⟨wu28.heap.size + 1 + 1 + 1 + 1 + 1, 0, none⟩) 1 1, .int .i64 2, .int .i64 2, .slice (some ⟨c23, 0, none⟩) 4 cc23] 30)).alloc (by first | (simp; done) | (simp; omega)) (.cells #[.int .i64 2, .int .i64 2, .slice (some ⟨a24, 0, none⟩) 3 ca24, .slice (some ⟨b24, 0, none⟩) 2 cb24, .int .i64 3, .int .i64 2, .slice (some ⟨c24, 0, none⟩) 4 cc24] 30)).alloc (by first | (simp; done) | (simp; omega)) (.cells #[.int .i64 2, .int .i64 1, .slice (some ⟨a25, 0, none⟩) 3 ca25, .slice (some ⟨b25, 0, none⟩) 2 cb25, .int .i64 2, .int .i64 2, .slice (some ⟨c25, 0, none⟩) 4 cc25] 30)).alloc (by first | (simp; done) | (simp; omega)) (.cells #[.int .i64 2] 3)))
      clear G1_28
      have I1a_28 := Lib.hid (I1_28.out.next (((((((Below.refl wu28.heap.size wu28).alloc (Nat.le_refl _) (.cells #[.int .i64 41, .int .i64 2, .slice (some ⟨a21, 0, none⟩) 3 ca21, .slice (some ⟨b21, 0, none⟩) 2 cb21, .int .i64 2, .int .i64 2, .slice (some ⟨c21, 0, none⟩) 4 cc21] 30)).alloc (by first | (simp; done) | (simp; omega)) (.cells #[.int .i64 2, .int .i64 2, .slice none 0 0, .slice (some ⟨b22, 0, none⟩) 2 cb22, .int .i64 2, .int .i64 2, .slice (some ⟨c22, 0, none⟩) 4 cc22] 30)).alloc (by first | (simp; done) | (simp; omega)) (.cells #[.int .i64 2, .int .i64 2, .slice (some ⟨a23, 0, none⟩) 3 ca23, .slice (some ⟨wu28.heap.size + 1 + 1 + 1 + 1 + 1, 0, none⟩) 1 1, .int .i64 2, .int .i64 2, .slice (some ⟨c23, 0, none⟩) 4 cc23] 30)).alloc (by first | (simp; done) | (simp; omega)) (.cells #[.int .i64 2, .int .i64 2, .slice (some ⟨a24, 0, none⟩) 3 ca24, .slice (some ⟨b24, 0, none⟩) 2 cb24, .int .i64 3, .int .i64 2, .slice (some ⟨c24, 0, none⟩) 4 cc24] 30)).alloc (by first | (simp; done) | (simp; omega)) (.cells #[.int .i64 2, .int .i64 1, .slice (some ⟨a25, 0, none⟩) 3 ca25, .slice (some ⟨b25, 0, none⟩) 2 cb25, .int .i64 2, .int .i64 2, .slice (some ⟨c25, 0, none⟩) 4 cc25] 30)).alloc (by first | (simp; done) | (simp; omega)) (.cells #[.int .i64 2] 3)))
      clear I1_28
      have D3a_28 := Lib.hid (D3_28.out.next (((((((Below.refl wu28.heap.size wu28).alloc (Nat.le_refl _) (.cells #[.int .i64 41, .int .i64 2, .slice (some ⟨a21, 0, none⟩) 3 ca21, .slice (some ⟨b21, 0, none⟩) 2 cb21, .int .i64 2, .int .i64 2, .slice (some ⟨c21, 0, none⟩) 4 cc21] 30)).alloc (by first | (simp; done) | (simp; omega)) (.cells #[.int .i64 2, .int .i64 2, .slice none 0 0, .slice (some ⟨b22, 0, none⟩) 2 cb22, .int .i64 2, .int .i64 2, .slice (some ⟨c22, 0, none⟩) 4 cc22] 30)).alloc (by first | (simp; done) | (simp; omega)) (.cells #[.int .i64 2, .int .i64 2, .slice (some ⟨a23, 0, none⟩) 3 ca23, .slice (some ⟨wu28.heap.size + 1 + 1 + 1 + 1 + 1, 0, none⟩) 1 1, .int .i64 2, .int .i64 2, .slice (some ⟨c23, 0, none⟩) 4 cc23] 30)).alloc (by first | (simp; done) | (simp; omega)) (.cells #[.int .i64 2, .int .i64 2, .slice (some ⟨a24, 0, none⟩) 3 ca24, .slice (some ⟨b24, 0, none⟩) 2 cb24, .int .i64 3, .int .i64 2, .slice (some ⟨c24, 0, none⟩) 4 cc24] 30)).alloc (by first | (simp; done) | (simp; omega)) (.cells #[.int .i64 2, .int .i64 1, .slice (some ⟨a25, 0, none⟩) 3 ca25, .slice (some ⟨b25, 0, none⟩) 2 cb25, .int .i64 2, .int .i64 2, .slice (some ⟨c25, 0, none⟩) 4 cc25] 30)).alloc (by first | (simp; done) | (simp; omega)) (.cells #[.int .i64 2] 3)))
      clear D3_28
      have G5a_28 := Lib.hid (G5_28.out.next (((((((Below.refl wu28.heap.size wu28).alloc (Nat.le_refl _) (.cells #[.int .i64 41, .int .i64 2, .slice (some ⟨a21, 0, none⟩) 3 ca21, .slice (some ⟨b21, 0, none⟩) 2 cb21, .int .i64 2, .int .i64 2, .slice (some ⟨c21, 0, none⟩) 4 cc21] 30)).alloc (by first | (simp; done) | (simp; omega)) (.cells #[.int .i64 2, .int .i64 2, .slice none 0 0, .slice (some ⟨b22, 0, none⟩) 2 cb22, .int .i64 2, .int .i64 2, .slice (some ⟨c22, 0, none⟩) 4 cc22] 30)).alloc (by first | (simp; done) | (simp; omega)) (.cells #[.int .i64 2, .int .i64 2, .slice (some ⟨a23, 0, none⟩) 3 ca23, .slice (some ⟨wu28.heap.size + 1 + 1 + 1 + 1 + 1, 0, none⟩) 1 1, .int .i64 2, .int .i64 2, .slice (some ⟨c23, 0, none⟩) 4 cc23] 30)).alloc (by first | (simp; done) | (simp; omega)) (.cells #[.int .i64 2, .int .i64 2, .slice (some ⟨a24, 0, none⟩) 3 ca24, .slice (some ⟨b24, 0, none⟩) 2 cb24, .int .i64 3, .int .i64 2, .slice (some ⟨c24, 0, none⟩) 4 cc24] 30)).alloc (by first | (simp; done) | (simp; omega)) (.cells #[.int .i64 2, .int .i64 1, .slice (some ⟨a25, 0, none⟩) 3 ca25, .slice (some ⟨b25, 0, none⟩) 2 cb25, .int .i64 2, .int .i64 2, .slice (some ⟨c25, 0, none⟩) 4 cc25] 30)).alloc (by first | (simp; done) | (simp; omega)) (.cells #[.int .i64 2] 3)))
      clear G5_28
      have I2a_28 := Lib.hid (I2_28.out.next (((((((Below.refl wu28.heap.size wu28).alloc (Nat.le_refl _) (.cells #[.int .i64 41, .int .i64 2, .slice (some ⟨a21, 0, none⟩) 3 ca21, .slice (some ⟨b21, 0, none⟩) 2 cb21, .int .i64 2, .int .i64 2, .slice (some ⟨c21, 0, none⟩) 4 cc21] 30)).alloc (by first | (simp; done) | (simp; omega)) (.cells #[.int .i64 2, .int .i64 2, .slice none 0 0, .slice (some ⟨b22, 0, none⟩) 2 cb22, .int .i64 2, .int .i64 2, .slice (some ⟨c22, 0, none⟩) 4 cc22] 30)).alloc (by first | (simp; done) | (simp; omega)) (.cells #[.int .i64 2, .int .i64 2, .slice (some ⟨a23, 0, none⟩) 3 ca23, .slice (some ⟨wu28.heap.size + 1 + 1 + 1 + 1 + 1, 0, none⟩) 1 1, .int .i64 2, .int .i64 2, .slice (some ⟨c23, 0, none⟩) 4 cc23] 30)).alloc (by first | (simp; done) | (simp; omega)) (.cells #[.int .i64 2, .int .i64 2, .slice (some ⟨a24, 0, none⟩) 3 ca24, .slice (some ⟨b24, 0, none⟩) 2 cb24, .int .i64 3, .int .i64 2, .slice (some ⟨c24, 0, none⟩) 4 cc24] 30)).alloc (by first | (simp; done) | (simp; omega)) (.cells #[.int .i64 2, .int .i64 1, .slice (some ⟨a25, 0, none⟩) 3 ca25, .slice (some ⟨b25, 0, none⟩) 2 cb25, .int .i64 2, .int .i64 2, .slice (some ⟨c25, 0, none⟩) 4 cc25] 30)).alloc (by first | (simp; done) | (simp; omega)) (.cells #[.int .i64 2] 3)))
      clear I2_28
      have I3a_28 := Lib.hid (I3_28.out.next (((((((Below.refl wu28.heap.size wu28).alloc (Nat.le_refl _) (.cells #[.int .i64 41, .int .i64 2, .slice (some ⟨a21, 0, none⟩) 3 ca21, .slice (some ⟨b21, 0, none⟩) 2 cb21, .int .i64 2, .int .i64 2, .slice (some ⟨c21, 0, none⟩) 4 cc21] 30)).alloc (by first | (simp; done) | (simp; omega)) (.cells #[.int .i64 2, .int .i64 2, .slice none 0 0, .slice (some ⟨b22, 0, none⟩) 2 cb22, .int .i64 2, .int .i64 2, .slice (some ⟨c22, 0, none⟩) 4 cc22] 30)).alloc (by first | (simp; done) | (simp; omega)) (.cells #[.int .i64 2, .int .i64 2, .slice (some ⟨a23, 0, none⟩) 3 ca23, .slice (some ⟨wu28.heap.size + 1 + 1 + 1 + 1 + 1, 0, none⟩) 1 1, .int .i64 2, .int .i64 2, .slice (some ⟨c23, 0, none⟩) 4 cc23] 30)).alloc (by first | (simp; done) | (simp; omega)) (.cells #[.int .i64 2, .int .i64 2, .slice (some ⟨a24, 0, none⟩) 3 ca24, .slice (some ⟨b24, 0, none⟩) 2 cb24, .int .i64 3, .int .i64 2, .slice (some ⟨c24, 0, none⟩) 4 cc24] 30)).alloc (by first | (simp; done) | (simp; omega)) (.cells #[.int .i64 2, .int .i64 1, .slice (some ⟨a25, 0, none⟩) 3 ca25, .slice (some ⟨b25, 0, none⟩) 2 cb25, .int .i64 2, .int .i64 2, .slice (some ⟨c25, 0, none⟩) 4 cc25] 30)).alloc (by first | (simp; done) | (simp; omega)) (.cells #[.int .i64 2] 3)))
      clear I3_28
      have B1a_28 := Lib.hid (B1_28.out.next (((((((Below.refl wu28.heap.size wu28).alloc (Nat.le_refl _) (.cells #[.int .i64 41, .int .i64 2, .slice (some ⟨a21, 0, none⟩) 3 ca21, .slice (some ⟨b21, 0, none⟩) 2 cb21, .int .i64 2, .int .i64 2, .slice (some ⟨c21, 0, none⟩) 4 cc21] 30)).alloc (by first | (simp; done) | (simp; omega)) (.cells #[.int .i64 2, .int .i64 2, .slice none 0 0, .slice (some ⟨b22, 0, none⟩) 2 cb22, .int .i64 2, .int .i64 2, .slice (some ⟨c22, 0, none⟩) 4 cc22] 30)).alloc (by first | (simp; done) | (simp; omega)) (.cells #[.int .i64 2, .int .i64 2, .slice (some ⟨a23, 0, none⟩) 3 ca23, .slice (some ⟨wu28.heap.size + 1 + 1 + 1 + 1 + 1, 0, none⟩) 1 1, .int .i64 2, .int .i64 2, .slice (some ⟨c23, 0, none⟩) 4 cc23] 30)).alloc (by first | (simp; done) | (simp; omega)) (.cells #[.int .i64 2, .int .i64 2, .slice (some ⟨a24, 0, none⟩) 3 ca24, .slice (some ⟨b24, 0, none⟩) 2 cb24, .int .i64 3, .int .i64 2, .slice (some ⟨c24, 0, none⟩) 4 cc24] 30)).alloc (by first | (simp; done) | (simp; omega)) (.cells #[.int .i64 2, .int .i64 1, .slice (some ⟨a25, 0, none⟩) 3 ca25, .slice (some ⟨b25, 0, none⟩) 2 cb25, .int .i64 2, .int .i64 2, .slice (some ⟨c25, 0, none⟩) 4 cc25] 30)).alloc (by first | (simp; done) | (simp; omega)) (.cells #[.int .i64 2] 3)))
      clear B1_28
      have D7a_28 := Lib.hid (D7_28.out.next (((((((Below.refl wu28.heap.size wu28).alloc (Nat.le_refl _) (.cells #[.int .i64 41, .int .i64 2, .slice (some ⟨a21, 0, none⟩) 3 ca21, .slice (some ⟨b21, 0, none⟩) 2 cb21, .int .i64 2, .int .i64 2, .slice (some ⟨c21, 0, none⟩) 4 cc21] 30)).alloc (by first | (simp; done) | (simp; omega)) (.cells #[.int .i64 2, .int .i64 2, .slice none 0 0, .slice (some ⟨b22, 0, none⟩) 2 cb22, .int .i64 2, .int .i64 2, .slice (some ⟨c22, 0, none⟩) 4 cc22] 30)).alloc (by first | (simp; done) | (simp; omega)) (.cells #[.int .i64 2, .int .i64 2, .slice (some ⟨a23, 0, none⟩) 3 ca23, .slice (some ⟨wu28.heap.size + 1 + 1 + 1 + 1 + 1, 0, none⟩) 1 1, .int .i64 2, .int .i64 2, .slice (some ⟨c23, 0, none⟩) 4 cc23] 30)).alloc (by first | (simp; done) | (simp; omega)) (.cells #[.int .i64 2, .int .i64 2, .slice (some ⟨a24, 0, none⟩) 3 ca24, .slice (some ⟨b24, 0, none⟩) 2 cb24, .int .i64 3, .int .i64 2, .slice (some ⟨c24, 0, none⟩) 4 cc24] 30)).alloc (by first | (simp; done) | (simp; omega)) (.cells #[.int .i64 2, .int .i64 1, .slice (some ⟨a25, 0, none⟩) 3 ca25, .slice (some ⟨b25, 0, none⟩) 2 cb25, .int .i64 2, .int .i64 2, .slice (some ⟨c25, 0, none⟩) 4 cc25] 30)).alloc (by first | (simp; done) | (simp; omega)) (.cells #[.int .i64 2] 3)))
      clear D7_28
      have X8a_28 := Lib.hid (X8_28.out.next (((((((Below.refl wu28.heap.size wu28).alloc (Nat.le_refl _) (.cells #[.int .i64 41, .int .i64 2, .slice (some ⟨a21, 0, none⟩) 3 ca21, .slice (some ⟨b21, 0, none⟩) 2 cb21, .int .i64 2, .int .i64 2, .slice (some ⟨c21, 0, none⟩) 4 cc21] 30)).alloc (by first | (simp; done) | (simp; omega)) (.cells #[.int .i64 2, .int .i64 2, .slice none 0 0, .slice (some ⟨b22, 0, none⟩) 2 cb22, .int .i64 2, .int .i64 2, .slice (some ⟨c22, 0, none⟩) 4 cc22] 30)).alloc (by first | (simp; done) | (simp; omega)) (.cells #[.int .i64 2, .int .i64 2, .slice (some ⟨a23, 0, none⟩) 3 ca23, .slice (some ⟨wu28.heap.size + 1 + 1 + 1 + 1 + 1, 0, none⟩) 1 1, .int .i64 2, .int .i64 2, .slice (some ⟨c23, 0, none⟩) 4 cc23] 30)).alloc (by first | (simp; done) | (simp; omega)) (.cells #[.int .i64 2, .int .i64 2, .slice (some ⟨a24, 0, none⟩) 3 ca24, .slice (some ⟨b24, 0, none⟩) 2 cb24, .int .i64 3, .int .i64 2, .slice (some ⟨c24, 0, none⟩) 4 cc24] 30)).alloc (by first | (simp; done) | (simp; omega)) (.cells #[.int .i64 2, .int .i64 1, .slice (some ⟨a25, 0, none⟩) 3 ca25, .slice (some ⟨b25, 0, none⟩) 2 cb25, .int .i64 2, .int .i64 2, .slice (some ⟨c25, 0, none⟩) 4 cc25] 30)).alloc (by first | (simp; done) | (simp; omega)) (.cells #[.int .i64 2] 3)))
      clear X8_28
      have I4a_28 := Lib.hid (I4_28.out.next (((((((Below.refl wu28.heap.size wu28).alloc (Nat.le_refl _) (.cells #[.int .i64 41, .int .i64 2, .slice (some ⟨a21, 0, none⟩) 3 ca21, .slice (some ⟨b21, 0, none⟩) 2 cb21, .int .i64 2, .int .i64 2, .slice (some ⟨c21, 0, none⟩) 4 cc21] 30)).alloc (by first | (simp; done) | (simp; omega)) (.cells #[.int .i64 2, .int .i64 2, .slice none 0 0, .slice (some ⟨b22, 0, none⟩) 2 cb22, .int .i64 2, .int .i64 2, .slice (some ⟨c22, 0, none⟩) 4 cc22] 30)).alloc (by first | (simp; done) | (simp; omega)) (.cells #[.int .i64 2, .int .i64 2, .slice (some ⟨a23, 0, none⟩) 3 ca23, .slice (some ⟨wu28.heap.size + 1 + 1 + 1 + 1 + 1, 0, none⟩) 1 1, .int .i64 2, .int .i64 2, .slice (some ⟨c23, 0, none⟩) 4 cc23] 30)).alloc (by first | (simp; done) | (simp; omega)) (.cells #[.int .i64 2, .int .i64 2, .slice (some ⟨a24, 0, none⟩) 3 ca24, .slice (some ⟨b24, 0, none⟩) 2 cb24, .int .i64 3, .int .i64 2, .slice (some ⟨c24, 0, none⟩) 4 cc24] 30)).alloc (by first | (simp; done) | (simp; omega)) (.cells #[.int .i64 2, .int .i64 1, .slice (some ⟨a25, 0, none⟩) 3 ca25, .slice (some ⟨b25, 0, none⟩) 2 cb25, .int .i64 2, .int .i64 2, .slice (some ⟨c25, 0, none⟩) 4 cc25] 30)).alloc (by first | (simp; done) | (simp; omega)) (.cells #[.int .i64 2] 3)))
      clear I4_28
      have I5a_28 := Lib.hid (I5_28.out.next (((((((Below.refl wu28.heap.size wu28).alloc (Nat.le_refl _) (.cells #[.int .i64 41, .int .i64 2, .slice (some ⟨a21, 0, none⟩) 3 ca21, .slice (some ⟨b21, 0, none⟩) 2 cb21, .int .i64 2, .int .i64 2, .slice (some ⟨c21, 0, none⟩) 4 cc21] 30)).alloc (by first | (simp; done) | (simp; omega)) (.cells #[.int .i64 2, .int .i64 2, .slice none 0 0, .slice (some ⟨b22, 0, none⟩) 2 cb22, .int .i64 2, .int .i64 2, .slice (some ⟨c22, 0, none⟩) 4 cc22] 30)).alloc (by first | (simp; done) | (simp; omega)) (.cells #[.int .i64 2, .int .i64 2, .slice (some ⟨a23, 0, none⟩) 3 ca23, .slice (some ⟨wu28.heap.size + 1 + 1 + 1 + 1 + 1, 0, none⟩) 1 1, .int .i64 2, .int .i64 2, .slice (some ⟨c23, 0, none⟩) 4 cc23] 30)).alloc (by first | (simp; done) | (simp; omega)) (.cells #[.int .i64 2, .int .i64 2, .slice (some ⟨a24, 0, none⟩) 3 ca24, .slice (some ⟨b24, 0, none⟩) 2 cb24, .int .i64 3, .int .i64 2, .slice (some ⟨c24, 0, none⟩) 4 cc24] 30)).alloc (by first | (simp; done) | (simp; omega)) (.cells #[.int .i64 2, .int .i64 1, .slice (some ⟨a25, 0, none⟩) 3 ca25, .slice (some ⟨b25, 0, none⟩) 2 cb25, .int .i64 2, .int .i64 2, .slice (some ⟨c25, 0, none⟩) 4 cc25] 30)).alloc (by first | (simp; done) | (simp; omega)) (.cells #[.int .i64 2] 3)))
      clear I5_28
      have D9a_28 := Lib.hid (D9_28.out.next (((((((Below.refl wu28.heap.size wu28).alloc (Nat.le_refl _) (.cells #[.int .i64 41, .int .i64 2, .slice (some ⟨a21, 0, none⟩) 3 ca21, .slice (some ⟨b21, 0, none⟩) 2 cb21, .int .i64 2, .int .i64 2, .slice (some ⟨c21, 0, none⟩) 4 cc21] 30)).alloc (by first | (simp; done) | (simp; omega)) (.cells #[.int .i64 2, .int .i64 2, .slice none 0 0, .slice (some ⟨b22, 0, none⟩) 2 cb22, .int .i64 2, .int .i64 2, .slice (some ⟨c22, 0, none⟩) 4 cc22] 30)).alloc (by first | (simp; done) | (simp; omega)) (.cells #[.int .i64 2, .int .i64 2, .slice (some ⟨a23, 0, none⟩) 3 ca23, .slice (some ⟨wu28.heap.size + 1 + 1 + 1 + 1 + 1, 0, none⟩) 1 1, .int .i64 2, .int .i64 2, .slice (some ⟨c23, 0, none⟩) 4 cc23] 30)).alloc (by first | (simp; done) | (simp; omega)) (.cells #[.int .i64 2, .int .i64 2, .slice (some ⟨a24, 0, none⟩) 3 ca24, .slice (some ⟨b24, 0, none⟩) 2 cb24, .int .i64 3, .int .i64 2, .slice (some ⟨c24, 0, none⟩) 4 cc24] 30)).alloc (by first | (simp; done) | (simp; omega)) (.cells #[.int .i64 2, .int .i64 1, .slice (some ⟨a25, 0, none⟩) 3 ca25, .slice (some ⟨b25, 0, none⟩) 2 cb25, .int .i64 2, .int .i64 2, .slice (some ⟨c25, 0, none⟩) 4 cc25] 30)).alloc (by first | (simp; done) | (simp; omega)) (.cells #[.int .i64 2] 3)))
      clear D9_28
      have X10a_28 := Lib.hid (X10_28.out.next (((((((Below.refl wu28.heap.size wu28).alloc (Nat.le_refl _) (.cells #[.int .i64 41, .int .i64 2, .slice (some ⟨a21, 0, none⟩) 3 ca21, .slice (some ⟨b21, 0, none⟩) 2 cb21, .int .i64 2, .int .i64 2, .slice (some ⟨c21, 0, none⟩) 4 cc21] 30)).alloc (by first | (simp; done) | (simp; omega)) (.cells #[.int .i64 2, .int .i64 2, .slice none 0 0, .slice (some ⟨b22, 0, none⟩) 2 cb22, .int .i64 2, .int .i64 2, .slice (some ⟨c22, 0, none⟩) 4 cc22] 30)).alloc (by first | (simp; done) | (simp; omega)) (.cells #[.int .i64 2, .int .i64 2, .slice (some ⟨a23, 0, none⟩) 3 ca23, .slice (some ⟨wu28.heap.size + 1 + 1 + 1 + 1 + 1, 0, none⟩) 1 1, .int .i64 2, .int .i64 2, .slice (some ⟨c23, 0, none⟩) 4 cc23] 30)).alloc (by first | (simp; done) | (simp; omega)) (.cells #[.int .i64 2, .int .i64 2, .slice (some ⟨a24, 0, none⟩) 3 ca24, .slice (some ⟨b24, 0, none⟩) 2 cb24, .int .i64 3, .int .i64 2, .slice (some ⟨c24, 0, none⟩) 4 cc24] 30)).alloc (by first | (simp; done) | (simp; omega)) (.cells #[.int .i64 2, .int .i64 1, .slice (some ⟨a25, 0, none⟩) 3 ca25, .slice (some ⟨b25, 0, none⟩) 2 cb25, .int .i64 2, .int .i64 2, .slice (some ⟨c25, 0, none⟩) 4 cc25] 30)).alloc (by first | (simp; done) | (simp; omega)) (.cells #[.int .i64 2] 3)))
      clear X10_28
      have D11a_28 := Lib.hid (D11_28.out.next (((((((Below.refl wu28.heap.size wu28).alloc (Nat.le_refl _) (.cells #[.int .i64 41, .int .i64 2, .slice (some ⟨a21, 0, none⟩) 3 ca21, .slice (some ⟨b21, 0, none⟩) 2 cb21, .int .i64 2, .int .i64 2, .slice (some ⟨c21, 0, none⟩) 4 cc21] 30)).alloc (by first | (simp; done) | (simp; omega)) (.cells #[.int .i64 2, .int .i64 2, .slice none 0 0, .slice (some ⟨b22, 0, none⟩) 2 cb22, .int .i64 2, .int .i64 2, .slice (some ⟨c22, 0, none⟩) 4 cc22] 30)).alloc (by first | (simp; done) | (simp; omega)) (.cells #[.int .i64 2, .int .i64 2, .slice (some ⟨a23, 0, none⟩) 3 ca23, .slice (some ⟨wu28.heap.size + 1 + 1 + 1 + 1 + 1, 0, none⟩) 1 1, .int .i64 2, .int .i64 2, .slice (some ⟨c23, 0, none⟩) 4 cc23] 30)).alloc (by first | (simp; done) | (simp; omega)) (.cells #[.int .i64 2, .int .i64 2, .slice (some ⟨a24, 0, none⟩) 3 ca24, .slice (some ⟨b24, 0, none⟩) 2 cb24, .int .i64 3, .int .i64 2, .slice (some ⟨c24, 0, none⟩) 4 cc24] 30)).alloc (by first | (simp; done) | (simp; omega)) (.cells #[.int .i64 2, .int .i64 1, .slice (some ⟨a25, 0, none⟩) 3 ca25, .slice (some ⟨b25, 0, none⟩) 2 cb25, .int .i64 2, .int .i64 2, .slice (some ⟨c25, 0, none⟩) 4 cc25] 30)).alloc (by first | (simp; done) | (simp; omega)) (.cells #[.int .i64 2] 3)))
      clear D11_28
      have I6a_28 := Lib.hid (I6_28.out.next (((((((Below.refl wu28.heap.size wu28).alloc (Nat.le_refl _) (.cells #[.int .i64 41, .int .i64 2, .slice (some ⟨a21, 0, none⟩) 3 ca21, .slice (some ⟨b21, 0, none⟩) 2 cb21, .int .i64 2, .int .i64 2, .slice (some ⟨c21, 0, none⟩) 4 cc21] 30)).alloc (by first | (simp; done) | (simp; omega)) (.cells #[.int .i64 2, .int .i64 2, .slice none 0 0, .slice (some ⟨b22, 0, none⟩) 2 cb22, .int .i64 2, .int .i64 2, .slice (some ⟨c22, 0, none⟩) 4 cc22] 30)).alloc (by first | (simp; done) | (simp; omega)) (.cells #[.int .i64 2, .int .i64 2, .slice (some ⟨a23, 0, none⟩) 3 ca23, .slice (some ⟨wu28.heap.size + 1 + 1 + 1 + 1 + 1, 0, none⟩) 1 1, .int .i64 2, .int .i64 2, .slice (some ⟨c23, 0, none⟩) 4 cc23] 30)).alloc (by first | (simp; done) | (simp; omega)) (.cells #[.int .i64 2, .int .i64 2, .slice (some ⟨a24, 0, none⟩) 3 ca24, .slice (some ⟨b24, 0, none⟩) 2 cb24, .int .i64 3, .int .i64 2, .slice (some ⟨c24, 0, none⟩) 4 cc24] 30)).alloc (by first | (simp; done) | (simp; omega)) (.cells #[.int .i64 2, .int .i64 1, .slice (some ⟨a25, 0, none⟩) 3 ca25, .slice (some ⟨b25, 0, none⟩) 2 cb25, .int .i64 2, .int .i64 2, .slice (some ⟨c25, 0, none⟩) 4 cc25] 30)).alloc (by first | (simp; done) | (simp; omega)) (.cells #[.int .i64 2] 3)))
      clear I6_28
      have I7a_28 := Lib.hid (I7_28.out.next (((((((Below.refl wu28.heap.size wu28).alloc (Nat.le_refl _) (.cells #[.int .i64 41, .int .i64 2, .slice (some ⟨a21, 0, none⟩) 3 ca21, .slice (some ⟨b21, 0, none⟩) 2 cb21, .int .i64 2, .int .i64 2, .slice (some ⟨c21, 0, none⟩) 4 cc21] 30)).alloc (by first | (simp; done) | (simp; omega)) (.cells #[.int .i64 2, .int .i64 2, .slice none 0 0, .slice (some ⟨b22, 0, none⟩) 2 cb22, .int .i64 2, .int .i64 2, .slice (some ⟨c22, 0, none⟩) 4 cc22] 30)).alloc (by first | (simp; done) | (simp; omega)) (.cells #[.int .i64 2, .int .i64 2, .slice (some ⟨a23, 0, none⟩) 3 ca23, .slice (some ⟨wu28.heap.size + 1 + 1 + 1 + 1 + 1, 0, none⟩) 1 1, .int .i64 2, .int .i64 2, .slice (some ⟨c23, 0, none⟩) 4 cc23] 30)).alloc (by first | (simp; done) | (simp; omega)) (.cells #[.int .i64 2, .int .i64 2, .slice (some ⟨a24, 0, none⟩) 3 ca24, .slice (some ⟨b24, 0, none⟩) 2 cb24, .int .i64 3, .int .i64 2, .slice (some ⟨c24, 0, none⟩) 4 cc24] 30)).alloc (by first | (simp; done) | (simp; omega)) (.cells #[.int .i64 2, .int .i64 1, .slice (some ⟨a25, 0, none⟩) 3 ca25, .slice (some ⟨b25, 0, none⟩) 2 cb25, .int .i64 2, .int .i64 2, .slice (some ⟨c25, 0, none⟩) 4 cc25] 30)).alloc (by first | (simp; done) | (simp; omega)) (.cells #[.int .i64 2] 3)))
      clear I7_28
      have I8a_28 := Lib.hid (I8_28.out.next (((((((Below.refl wu28.heap.size wu28).alloc (Nat.le_refl _) (.cells #[.int .i64 41, .int .i64 2, .slice (some ⟨a21, 0, none⟩) 3 ca21, .slice (some ⟨b21, 0, none⟩) 2 cb21, .int .i64 2, .int .i64 2, .slice (some ⟨c21, 0, none⟩) 4 cc21] 30)).alloc (by first | (simp; done) | (simp; omega)) (.cells #[.int .i64 2, .int .i64 2, .slice none 0 0, .slice (some ⟨b22, 0, none⟩) 2 cb22, .int .i64 2, .int .i64 2, .slice (some ⟨c22, 0, none⟩) 4 cc22] 30)).alloc (by first | (simp; done) | (simp; omega)) (.cells #[.int .i64 2, .int .i64 2, .slice (some ⟨a23, 0, none⟩) 3 ca23, .slice (some ⟨wu28.heap.size + 1 + 1 + 1 + 1 + 1, 0, none⟩) 1 1, .int .i64 2, .int .i64 2, .slice (some ⟨c23, 0, none⟩) 4 cc23] 30)).alloc (by first | (simp; done) | (simp; omega)) (.cells #[.int .i64 2, .int .i64 2, .slice (some ⟨a24, 0, none⟩) 3 ca24, .slice (some ⟨b24, 0, none⟩) 2 cb24, .int .i64 3, .int .i64 2, .slice (some ⟨c24, 0, none⟩) 4 cc24] 30)).alloc (by first | (simp; done) | (simp; omega)) (.cells #[.int .i64 2, .int .i64 1, .slice (some ⟨a25, 0, none⟩) 3 ca25, .slice (some ⟨b25, 0, none⟩) 2 cb25, .int .i64 2, .int .i64 2, .slice (some ⟨c25, 0, none⟩) 4 cc25] 30)).alloc (by first | (simp; done) | (simp; omega)) (.cells #[.int .i64 2] 3)))
      clear I8_28
      have I9a_28 := Lib.hid (I9_28.out.next (((((((Below.refl wu28.heap.size wu28).alloc (Nat.le_refl _) (.cells #[.int .i64 41, .int .i64 2, .slice (some ⟨a21, 0, none⟩) 3 ca21, .slice (some ⟨b21, 0, none⟩) 2 cb21, .int .i64 2, .int .i64 2, .slice (some ⟨c21, 0, none⟩) 4 cc21] 30)).alloc (by first | (simp; done) | (simp; omega)) (.cells #[.int .i64 2, .int .i64 2, .slice none 0 0, .slice (some ⟨b22, 0, none⟩) 2 cb22, .int .i64 2, .int .i64 2, .slice (some ⟨c22, 0, none⟩) 4 cc22] 30)).alloc (by first | (simp; done) | (simp; omega)) (.cells #[.int .i64 2, .int .i64 2, .slice (some ⟨a23, 0, none⟩) 3 ca23, .slice (some ⟨wu28.heap.size + 1 + 1 + 1 + 1 + 1, 0, none⟩) 1 1, .int .i64 2, .int .i64 2, .slice (some ⟨c23, 0, none⟩) 4 cc23] 30)).alloc (by first | (simp; done) | (simp; omega)) (.cells #[.int .i64 2, .int .i64 2, .slice (some ⟨a24, 0, none⟩) 3 ca24, .slice (some ⟨b24, 0, none⟩) 2 cb24, .int .i64 3, .int .i64 2, .slice (some ⟨c24, 0, none⟩) 4 cc24] 30)).alloc (by first | (simp; done) | (simp; omega)) (.cells #[.int .i64 2, .int .i64 1, .slice (some ⟨a25, 0, none⟩) 3 ca25, .slice (some ⟨b25, 0, none⟩) 2 cb25, .int .i64 2, .int .i64 2, .slice (some ⟨c25, 0, none⟩) 4 cc25] 30)).alloc (by first | (simp; done) | (simp; omega)) (.cells #[.int .i64 2] 3)))
      clear I9_28
      have I10a_28 := Lib.hid (I10_28.out.next (((((((Below.refl wu28.heap.size wu28).alloc (Nat.le_refl _) (.cells #[.int .i64 41, .int .i64 2, .slice (some ⟨a21, 0, none⟩) 3 ca21, .slice (some ⟨b21, 0, none⟩) 2 cb21, .int .i64 2, .int .i64 2, .slice (some ⟨c21, 0, none⟩) 4 cc21] 30)).alloc (by first | (simp; done) | (simp; omega)) (.cells #[.int .i64 2, .int .i64 2, .slice none 0 0, .slice (some ⟨b22, 0, none⟩) 2 cb22, .int .i64 2, .int .i64 2, .slice (some ⟨c22, 0, none⟩) 4 cc22] 30)).alloc (by first | (simp; done) | (simp; omega)) (.cells #[.int .i64 2, .int .i64 2, .slice (some ⟨a23, 0, none⟩) 3 ca23, .slice (some ⟨wu28.heap.size + 1 + 1 + 1 + 1 + 1, 0, none⟩) 1 1, .int .i64 2, .int .i64 2, .slice (some ⟨c23, 0, none⟩) 4 cc23] 30)).alloc (by first | (simp; done) | (simp; omega)) (.cells #[.int .i64 2, .int .i64 2, .slice (some ⟨a24, 0, none⟩) 3 ca24, .slice (some ⟨b24, 0, none⟩) 2 cb24, .int .i64 3, .int .i64 2, .slice (some ⟨c24, 0, none⟩) 4 cc24] 30)).alloc (by first | (simp; done) | (simp; omega)) (.cells #[.int .i64 2, .int .i64 1, .slice (some ⟨a25, 0, none⟩) 3 ca25, .slice (some ⟨b25, 0, none⟩) 2 cb25, .int .i64 2, .int .i64 2, .slice (some ⟨c25, 0, none⟩) 4 cc25] 30)).alloc (by first | (simp; done) | (simp; omega)) (.cells #[.int .i64 2] 3)))
      clear I10_28
      have I11a_28 := Lib.hid (I11_28.out.next (((((((Below.refl wu28.heap.size wu28).alloc (Nat.le_refl _) (.cells #[.int .i64 41, .int .i64 2, .slice (some ⟨a21, 0, none⟩) 3 ca21, .slice (some ⟨b21, 0, none⟩) 2 cb21, .int .i64 2, .int .i64 2, .slice (some ⟨c21, 0, none⟩) 4 cc21] 30)).alloc (by first | (simp; done) | (simp; omega)) (.cells #[.int .i64 2, .int .i64 2, .slice none 0 0, .slice (some ⟨b22, 0, none⟩) 2 cb22, .int .i64 2, .int .i64 2, .slice (some ⟨c22, 0, none⟩) 4 cc22] 30)).alloc (by first | (simp; done) | (simp; omega)) (.cells #[.int .i64 2, .int .i64 2, .slice (some ⟨a23, 0, none⟩) 3 ca23, .slice (some ⟨wu28.heap.size + 1 + 1 + 1 + 1 + 1, 0, none⟩) 1 1, .int .i64 2, .int .i64 2, .slice (some ⟨c23, 0, none⟩) 4 cc23] 30)).alloc (by first | (simp; done) | (simp; omega)) (.cells #[.int .i64 2, .int .i64 2, .slice (some ⟨a24, 0, none⟩) 3 ca24, .slice (some ⟨b24, 0, none⟩) 2 cb24, .int .i64 3, .int .i64 2, .slice (some ⟨c24, 0, none⟩) 4 cc24] 30)).alloc (by first | (simp; done) | (simp; omega)) (.cells #[.int .i64 2, .int .i64 1, .slice (some ⟨a25, 0, none⟩) 3 ca25, .slice (some ⟨b25, 0, none⟩) 2 cb25, .int .i64 2, .int .i64 2, .slice (some ⟨c25, 0, none⟩) 4 cc25] 30)).alloc (by first | (simp; done) | (simp; omega)) (.cells #[.int .i64 2] 3)))
      clear I11_28
      have B2a_28 := Lib.hid (B2_28.out.next (((((((Below.refl wu28.heap.size wu28).alloc (Nat.le_refl _) (.cells #[.int .i64 41, .int .i64 2, .slice (some ⟨a21, 0, none⟩) 3 ca21, .slice (some ⟨b21, 0, none⟩) 2 cb21, .int .i64 2, .int .i64 2, .slice (some ⟨c21, 0, none⟩) 4 cc21] 30)).alloc (by first | (simp; done) | (simp; omega)) (.cells #[.int .i64 2, .int .i64 2, .slice none 0 0, .slice (some ⟨b22, 0, none⟩) 2 cb22, .int .i64 2, .int .i64 2, .slice (some ⟨c22, 0, none⟩) 4 cc22] 30)).alloc (by first | (simp; done) | (simp; omega)) (.cells #[.int .i64 2, .int .i64 2, .slice (some ⟨a23, 0, none⟩) 3 ca23, .slice (some ⟨wu28.heap.size + 1 + 1 + 1 + 1 + 1, 0, none⟩) 1 1, .int .i64 2, .int .i64 2, .slice (some ⟨c23, 0, none⟩) 4 cc23] 30)).alloc (by first | (simp; done) | (simp; omega)) (.cells #[.int .i64 2, .int .i64 2, .slice (some ⟨a24, 0, none⟩) 3 ca24, .slice (some ⟨b24, 0, none⟩) 2 cb24, .int .i64 3, .int .i64 2, .slice (some ⟨c24, 0, none⟩) 4 cc24] 30)).alloc (by first | (simp; done) | (simp; omega)) (.cells #[.int .i64 2, .int .i64 1, .slice (some ⟨a25, 0, none⟩) 3 ca25, .slice (some ⟨b25, 0, none⟩) 2 cb25, .int .i64 2, .int .i64 2, .slice (some ⟨c25, 0, none⟩) 4 cc25] 30)).alloc (by first | (simp; done) | (simp; omega)) (.cells #[.int .i64 2] 3)))
      clear B2_28
      have I12a_28 := Lib.hid (I12_28.out.next (((((((Below.refl wu28.heap.size wu28).alloc (Nat.le_refl _) (.cells #[.int .i64 41, .int .i64 2, .slice (some ⟨a21, 0, none⟩) 3 ca21, .slice (some ⟨b21, 0, none⟩) 2 cb21, .int .i64 2, .int .i64 2, .slice (some ⟨c21, 0, none⟩) 4 cc21] 30)).alloc (by first | (simp; done) | (simp; omega)) (.cells #[.int .i64 2, .int .i64 2, .slice none 0 0, .slice (some ⟨b22, 0, none⟩) 2 cb22, .int .i64 2, .int .i64 2, .slice (some ⟨c22, 0, none⟩) 4 cc22] 30)).alloc (by first | (simp; done) | (simp; omega)) (.cells #[.int .i64 2, .int .i64 2, .slice (some ⟨a23, 0, none⟩) 3 ca23, .slice (some ⟨wu28.heap.size + 1 + 1 + 1 + 1 + 1, 0, none⟩) 1 1, .int .i64 2, .int .i64 2, .slice (some ⟨c23, 0, none⟩) 4 cc23] 30)).alloc (by first | (simp; done) | (simp; omega)) (.cells #[.int .i64 2, .int .i64 2, .slice (some ⟨a24, 0, none⟩) 3 ca24, .slice (some ⟨b24, 0, none⟩) 2 cb24, .int .i64 3, .int .i64 2, .slice (some ⟨c24, 0, none⟩) 4 cc24] 30)).alloc (by first | (simp; done) | (simp; omega)) (.cells #[.int .i64 2, .int .i64 1, .slice (some ⟨a25, 0, none⟩) 3 ca25, .slice (some ⟨b25, 0, none⟩) 2 cb25, .int .i64 2, .int .i64 2, .slice (some ⟨c25, 0, none⟩) 4 cc25] 30)).alloc (by first | (simp; done) | (simp; omega)) (.cells #[.int .i64 2] 3)))
      clear I12_28
      have X13a_28 := Lib.hid (X13_28.out.next (((((((Below.refl wu28.heap.size wu28).alloc (Nat.le_refl _) (.cells #[.int .i64 41, .int .i64 2, .slice (some ⟨a21, 0, none⟩) 3 ca21, .slice (some ⟨b21, 0, none⟩) 2 cb21, .int .i64 2, .int .i64 2, .slice (some ⟨c21, 0, none⟩) 4 cc21] 30)).alloc (by first | (simp; done) | (simp; omega)) (.cells #[.int .i64 2, .int .i64 2, .slice none 0 0, .slice (some ⟨b22, 0, none⟩) 2 cb22, .int .i64 2, .int .i64 2, .slice (some ⟨c22, 0, none⟩) 4 cc22] 30)).alloc (by first | (simp; done) | (simp; omega)) (.cells #[.int .i64 2, .int .i64 2, .slice (some ⟨a23, 0, none⟩) 3 ca23, .slice (some ⟨wu28.heap.size + 1 + 1 + 1 + 1 + 1, 0, none⟩) 1 1, .int .i64 2, .int .i64 2, .slice (some ⟨c23, 0, none⟩) 4 cc23] 30)).alloc (by first | (simp; done) | (simp; omega)) (.cells #[.int .i64 2, .int .i64 2, .slice (some ⟨a24, 0, none⟩) 3 ca24, .slice (some ⟨b24, 0, none⟩) 2 cb24, .int .i64 3, .int .i64 2, .slice (some ⟨c24, 0, none⟩) 4 cc24] 30)).alloc (by first | (simp; done) | (simp; omega)) (.cells #[.int .i64 2, .int .i64 1, .slice (some ⟨a25, 0, none⟩) 3 ca25, .slice (some ⟨b25, 0, none⟩) 2 cb25, .int .i64 2, .int .i64 2, .slice (some ⟨c25, 0, none⟩) 4 cc25] 30)).alloc (by first | (simp; done) | (simp; omega)) (.cells #[.int .i64 2] 3)))
      clear X13_28
      have I13a_28 := Lib.hid (I13_28.out.next (((((((Below.refl wu28.heap.size wu28).alloc (Nat.le_refl _) (.cells #[.int .i64 41, .int .i64 2, .slice (some ⟨a21, 0, none⟩) 3 ca21, .slice (some ⟨b21, 0, none⟩) 2 cb21, .int .i64 2, .int .i64 2, .slice (some ⟨c21, 0, none⟩) 4 cc21] 30)).alloc (by first | (simp; done) | (simp; omega)) (.cells #[.int .i64 2, .int .i64 2, .slice none 0 0, .slice (some ⟨b22, 0, none⟩) 2 cb22, .int .i64 2, .int .i64 2, .slice (some ⟨c22, 0, none⟩) 4 cc22] 30)).alloc (by first | (simp; done) | (simp; omega)) (.cells #[.int .i64 2, .int .i64 2, .slice (some ⟨a23, 0, none⟩) 3 ca23, .slice (some ⟨wu28.heap.size + 1 + 1 + 1 + 1 + 1, 0, none⟩) 1 1, .int .i64 2, .int .i64 2, .slice (some ⟨c23, 0, none⟩) 4 cc23] 30)).alloc (by first | (simp; done) | (simp; omega)) (.cells #[.int .i64 2, .int .i64 2, .slice (some ⟨a24, 0, none⟩) 3 ca24, .slice (some ⟨b24, 0, none⟩) 2 cb24, .int .i64 3, .int .i64 2, .slice (some ⟨c24, 0, none⟩) 4 cc24] 30)).alloc (by first | (simp; done) | (simp; omega)) (.cells #[.int .i64 2, .int .i64 1, .slice (some ⟨a25, 0, none⟩) 3 ca25, .slice (some ⟨b25, 0, none⟩) 2 cb25, .int .i64 2, .int .i64 2, .slice (some ⟨c25, 0, none⟩) 4 cc25] 30)).alloc (by first | (simp; done) | (simp; omega)) (.cells #[.int .i64 2] 3)))
      clear I13_28
      have I14a_28 := Lib.hid (I14_28.out.next (((((((Below.refl wu28.heap.size wu28).alloc (Nat.le_refl _) (.cells #[.int .i64 41, .int .i64 2, .slice (some ⟨a21, 0, none⟩) 3 ca21, .slice (some ⟨b21, 0, none⟩) 2 cb21, .int .i64 2, .int .i64 2, .slice (some ⟨c21, 0, none⟩) 4 cc21] 30)).alloc (by first | (simp; done) | (simp; omega)) (.cells #[.int .i64 2, .int .i64 2, .slice none 0 0, .slice (some ⟨b22, 0, none⟩) 2 cb22, .int .i64 2, .int .i64 2, .slice (some ⟨c22, 0, none⟩) 4 cc22] 30)).alloc (by first | (simp; done) | (simp; omega)) (.cells #[.int .i64 2, .int .i64 2, .slice (some ⟨a23, 0, none⟩) 3 ca23, .slice (some ⟨wu28.heap.size + 1 + 1 + 1 + 1 + 1, 0, none⟩) 1 1, .int .i64 2, .int .i64 2, .slice (some ⟨c23, 0, none⟩) 4 cc23] 30)).alloc (by first | (simp; done) | (simp; omega)) (.cells #[.int .i64 2, .int .i64 2, .slice (some ⟨a24, 0, none⟩) 3 ca24, .slice (some ⟨b24, 0, none⟩) 2 cb24, .int .i64 3, .int .i64 2, .slice (some ⟨c24, 0, none⟩) 4 cc24] 30)).alloc (by first | (simp; done) | (simp; omega)) (.cells #[.int .i64 2, .int .i64 1, .slice (some ⟨a25, 0, none⟩) 3 ca25, .slice (some ⟨b25, 0, none⟩) 2 cb25, .int .i64 2, .int .i64 2, .slice (some ⟨c25, 0, none⟩) 4 cc25] 30)).alloc (by first | (simp; done) | (simp; omega)) (.cells #[.int .i64 2] 3)))
      clear I14_28
      have X14a_28 := Lib.hid (X14_28.out.next (((((((Below.refl wu28.heap.size wu28).alloc (Nat.le_refl _) (.cells #[.int .i64 41, .int .i64 2, .slice (some ⟨a21, 0, none⟩) 3 ca21, .slice (some ⟨b21, 0, none⟩) 2 cb21, .int .i64 2, .int .i64 2, .slice (some ⟨c21, 0, none⟩) 4 cc21] 30)).alloc (by first | (simp; done) | (simp; omega)) (.cells #[.int .i64 2, .int .i64 2, .slice none 0 0, .slice (some ⟨b22, 0, none⟩) 2 cb22, .int .i64 2, .int .i64 2, .slice (some ⟨c22, 0, none⟩) 4 cc22] 30)).alloc (by first | (simp; done) | (simp; omega)) (.cells #[.int .i64 2, .int .i64 2, .slice (some ⟨a23, 0, none⟩) 3 ca23, .slice (some ⟨wu28.heap.size + 1 + 1 + 1 + 1 + 1, 0, none⟩) 1 1, .int .i64 2, .int .i64 2, .slice (some ⟨c23, 0, none⟩) 4 cc23] 30)).alloc (by first | (simp; done) | (simp; omega)) (.cells #[.int .i64 2, .int .i64 2, .slice (some ⟨a24, 0, none⟩) 3 ca24, .slice (some ⟨b24, 0, none⟩) 2 cb24, .int .i64 3, .int .i64 2, .slice (some ⟨c24, 0, none⟩) 4 cc24] 30)).alloc (by first | (simp; done) | (simp; omega)) (.cells #[.int .i64 2, .int .i64 1, .slice (some ⟨a25, 0, none⟩) 3 ca25, .slice (some ⟨b25, 0, none⟩) 2 cb25, .int .i64 2, .int .i64 2, .slice (some ⟨c25, 0, none⟩) 4 cc25] 30)).alloc (by first | (simp; done) | (simp; omega)) (.cells #[.int .i64 2] 3)))
      clear X14_28
      have I15a_28 := Lib.hid (I15_28.out.next (((((((Below.refl wu28.heap.size wu28).alloc (Nat.le_refl _) (.cells #[.int .i64 41, .int .i64 2, .slice (some ⟨a21, 0, none⟩) 3 ca21, .slice (some ⟨b21, 0, none⟩) 2 cb21, .int .i64 2, .int .i64 2, .slice (some ⟨c21, 0, none⟩) 4 cc21] 30)).alloc (by first | (simp; done) | (simp; omega)) (.cells #[.int .i64 2, .int .i64 2, .slice none 0 0, .slice (some ⟨b22, 0, none⟩) 2 cb22, .int .i64 2, .int .i64 2, .slice (some ⟨c22, 0, none⟩) 4 cc22] 30)).alloc (by first | (simp; done) | (simp; omega)) (.cells #[.int .i64 2, .int .i64 2, .slice (some ⟨a23, 0, none⟩) 3 ca23, .slice (some ⟨wu28.heap.size + 1 + 1 + 1 + 1 + 1, 0, none⟩) 1 1, .int .i64 2, .int .i64 2, .slice (some ⟨c23, 0, none⟩) 4 cc23] 30)).alloc (by first | (simp; done) | (simp; omega)) (.cells #[.int .i64 2, .int .i64 2, .slice (some ⟨a24, 0, none⟩) 3 ca24, .slice (some ⟨b24, 0, none⟩) 2 cb24, .int .i64 3, .int .i64 2, .slice (some ⟨c24, 0, none⟩) 4 cc24] 30)).alloc (by first | (simp; done) | (simp; omega)) (.cells #[.int .i64 2, .int .i64 1, .slice (some ⟨a25, 0, none⟩) 3 ca25, .slice (some ⟨b25, 0, none⟩) 2 cb25, .int .i64 2, .int .i64 2, .slice (some ⟨c25, 0, none⟩) 4 cc25] 30)).alloc (by first | (simp; done) | (simp; omega)) (.cells #[.int .i64 2] 3)))
      clear I15_28
      have I16a_28 := Lib.hid (I16_28.out.next (((((((Below.refl wu28.heap.size wu28).alloc (Nat.le_refl _) (.cells #[.int .i64 41, .int .i64 2, .slice (some ⟨a21, 0, none⟩) 3 ca21, .slice (some ⟨b21, 0, none⟩) 2 cb21, .int .i64 2, .int .i64 2, .slice (some ⟨c21, 0, none⟩) 4 cc21] 30)).alloc (by first | (simp; done) | (simp; omega)) (.cells #[.int .i64 2, .int .i64 2, .slice none 0 0, .slice (some ⟨b22, 0, none⟩) 2 cb22, .int .i64 2, .int .i64 2, .slice (some ⟨c22, 0, none⟩) 4 cc22] 30)).alloc (by first | (simp; done) | (simp; omega)) (.cells #[.int .i64 2, .int .i64 2, .slice (some ⟨a23, 0, none⟩) 3 ca23, .slice (some ⟨wu28.heap.size + 1 + 1 + 1 + 1 + 1, 0, none⟩) 1 1, .int .i64 2, .int .i64 2, .slice (some ⟨c23, 0, none⟩) 4 cc23] 30)).alloc (by first | (simp; done) | (simp; omega)) (.cells #[.int .i64 2, .int .i64 2, .slice (some ⟨a24, 0, none⟩) 3 ca24, .slice (some ⟨b24, 0, none⟩) 2 cb24, .int .i64 3, .int .i64 2, .slice (some ⟨c24, 0, none⟩) 4 cc24] 30)).alloc (by first | (simp; done) | (simp; omega)) (.cells #[.int .i64 2, .int .i64 1, .slice (some ⟨a25, 0, none⟩) 3 ca25, .slice (some ⟨b25, 0, none⟩) 2 cb25, .int .i64 2, .int .i64 2, .slice (some ⟨c25, 0, none⟩) 4 cc25] 30)).alloc (by first | (simp; done) | (simp; omega)) (.cells #[.int .i64 2] 3)))
      clear I16_28
      have X21a_28 := Lib.hid (X21_28.out.next (((((((Below.refl wu28.heap.size wu28).alloc (Nat.le_refl _) (.cells #[.int .i64 41, .int .i64 2, .slice (some ⟨a21, 0, none⟩) 3 ca21, .slice (some ⟨b21, 0, none⟩) 2 cb21, .int .i64 2, .int .i64 2, .slice (some ⟨c21, 0, none⟩) 4 cc21] 30)).alloc (by first | (simp; done) | (simp; omega)) (.cells #[.int .i64 2, .int .i64 2, .slice none 0 0, .slice (some ⟨b22, 0, none⟩) 2 cb22, .int .i64 2, .int .i64 2, .slice (some ⟨c22, 0, none⟩) 4 cc22] 30)).alloc (by first | (simp; done) | (simp; omega)) (.cells #[.int .i64 2, .int .i64 2, .slice (some ⟨a23, 0, none⟩) 3 ca23, .slice (some ⟨wu28.heap.size + 1 + 1 + 1 + 1 + 1, 0, none⟩) 1 1, .int .i64 2, .int .i64 2, .slice (some ⟨c23, 0, none⟩) 4 cc23] 30)).alloc (by first | (simp; done) | (simp; omega)) (.cells #[.int .i64 2, .int .i64 2, .slice (some ⟨a24, 0, none⟩) 3 ca24, .slice (some ⟨b24, 0, none⟩) 2 cb24, .int .i64 3, .int .i64 2, .slice (some ⟨c24, 0, none⟩) 4 cc24] 30)).alloc (by first | (simp; done) | (simp; omega)) (.cells #[.int .i64 2, .int .i64 1, .slice (some ⟨a25, 0, none⟩) 3 ca25, .slice (some ⟨b25, 0, none⟩) 2 cb25, .int .i64 2, .int .i64 2, .slice (some ⟨c25, 0, none⟩) 4 cc25] 30)).alloc (by first | (simp; done) | (simp; omega)) (.cells #[.int .i64 2] 3)))
      clear X21_28
      have X22a_28 := Lib.hid (X22_28.out.next (((((((Below.refl wu28.heap.size wu28).alloc (Nat.le_refl _) (.cells #[.int .i64 41, .int .i64 2, .slice (some ⟨a21, 0, none⟩) 3 ca21, .slice (some ⟨b21, 0, none⟩) 2 cb21, .int .i64 2, .int .i64 2, .slice (some ⟨c21, 0, none⟩) 4 cc21] 30)).alloc (by first | (simp; done) | (simp; omega)) (.cells #[.int .i64 2, .int .i64 2, .slice none 0 0, .slice (some ⟨b22, 0, none⟩) 2 cb22, .int .i64 2, .int .i64 2, .slice (some ⟨c22, 0, none⟩) 4 cc22] 30)).alloc (by first | (simp; done) | (simp; omega)) (.cells #[.int .i64 2, .int .i64 2, .slice (some ⟨a23, 0, none⟩) 3 ca23, .slice (some ⟨wu28.heap.size + 1 + 1 + 1 + 1 + 1, 0, none⟩) 1 1, .int .i64 2, .int .i64 2, .slice (some ⟨c23, 0, none⟩) 4 cc23] 30)).alloc (by first | (simp; done) | (simp; omega)) (.cells #[.int .i64 2, .int .i64 2, .slice (some ⟨a24, 0, none⟩) 3 ca24, .slice (some ⟨b24, 0, none⟩) 2 cb24, .int .i64 3, .int .i64 2, .slice (some ⟨c24, 0, none⟩) 4 cc24] 30)).alloc (by first | (simp; done) | (simp; omega)) (.cells #[.int .i64 2, .int .i64 1, .slice (some ⟨a25, 0, none⟩) 3 ca25, .slice (some ⟨b25, 0, none⟩) 2 cb25, .int .i64 2, .int .i64 2, .slice (some ⟨c25, 0, none⟩) 4 cc25] 30)).alloc (by first | (simp; done) | (simp; omega)) (.cells #[.int .i64 2] 3)))
      clear X22_28
      have X23a_28 := Lib.hid (X23_28.out.next (((((((Below.refl wu28.heap.size wu28).alloc (Nat.le_refl _) (.cells #[.int .i64 41, .int .i64 2, .slice (some ⟨a21, 0, none⟩) 3 ca21, .slice (some ⟨b21, 0, none⟩) 2 cb21, .int .i64 2, .int .i64 2, .slice (some ⟨c21, 0, none⟩) 4 cc21] 30)).alloc (by first | (simp; done) | (simp; omega)) (.cells #[.int .i64 2, .int .i64 2, .slice none 0 0, .slice (some ⟨b22, 0, none⟩) 2 cb22, .int .i64 2, .int .i64 2, .slice (some ⟨c22, 0, none⟩) 4 cc22] 30)).alloc (by first | (simp; done) | (simp; omega)) (.cells #[.int .i64 2, .int .i64 2, .slice (some ⟨a23, 0, none⟩) 3 ca23, .slice (some ⟨wu28.heap.size + 1 + 1 + 1 + 1 + 1, 0, none⟩) 1 1, .int .i64 2, .int .i64 2, .slice (some ⟨c23, 0, none⟩) 4 cc23] 30)).alloc (by first | (simp; done) | (simp; omega)) (.cells #[.int .i64 2, .int .i64 2, .slice (some ⟨a24, 0, none⟩) 3 ca24, .slice (some ⟨b24, 0, none⟩) 2 cb24, .int .i64 3, .int .i64 2, .slice (some ⟨c24, 0, none⟩) 4 cc24] 30)).alloc (by first | (simp; done) | (simp; omega)) (.cells #[.int .i64 2, .int .i64 1, .slice (some ⟨a25, 0, none⟩) 3 ca25, .slice (some ⟨b25, 0, none⟩) 2 cb25, .int .i64 2, .int .i64 2, .slice (some ⟨c25, 0, none⟩) 4 cc25] 30)).alloc (by first | (simp; done) | (simp; omega)) (.cells #[.int .i64 2] 3)))
      clear X23_28
      have X24a_28 := Lib.hid (X24_28.out.next (((((((Below.refl wu28.heap.size wu28).alloc (Nat.le_refl _) (.cells #[.int .i64 41, .int .i64 2, .slice (some ⟨a21, 0, none⟩) 3 ca21, .slice (some ⟨b21, 0, none⟩) 2 cb21, .int .i64 2, .int .i64 2, .slice (some ⟨c21, 0, none⟩) 4 cc21] 30)).alloc (by first | (simp; done) | (simp; omega)) (.cells #[.int .i64 2, .int .i64 2, .slice none 0 0, .slice (some ⟨b22, 0, none⟩) 2 cb22, .int .i64 2, .int .i64 2, .slice (some ⟨c22, 0, none⟩) 4 cc22] 30)).alloc (by first | (simp; done) | (simp; omega)) (.cells #[.int .i64 2, .int .i64 2, .slice (some ⟨a23, 0, none⟩) 3 ca23, .slice (some ⟨wu28.heap.size + 1 + 1 + 1 + 1 + 1, 0, none⟩) 1 1, .int .i64 2, .int .i64 2, .slice (some ⟨c23, 0, none⟩) 4 cc23] 30)).alloc (by first | (simp; done) | (simp; omega)) (.cells #[.int .i64 2, .int .i64 2, .slice (some ⟨a24, 0, none⟩) 3 ca24, .slice (some ⟨b24, 0, none⟩) 2 cb24, .int .i64 3, .int .i64 2, .slice (some ⟨c24, 0, none⟩) 4 cc24] 30)).alloc (by first | (simp; done) | (simp; omega)) (.cells #[.int .i64 2, .int .i64 1, .slice (some ⟨a25, 0, none⟩) 3 ca25, .slice (some ⟨b25, 0, none⟩) 2 cb25, .int .i64 2, .int .i64 2, .slice (some ⟨c25, 0, none⟩) 4 cc25] 30)).alloc (by first | (simp; done) | (simp; omega)) (.cells #[.int .i64 2] 3)))
      clear X24_28
      have X25a_28 := Lib.hid (X25_28.out.next (((((((Below.refl wu28.heap.size wu28).alloc (Nat.le_refl _) (.cells #[.int .i64 41, .int .i64 2, .slice (some ⟨a21, 0, none⟩) 3 ca21, .slice (some ⟨b21, 0, none⟩) 2 cb21, .int .i64 2, .int .i64 2, .slice (some ⟨c21, 0, none⟩) 4 cc21] 30)).alloc (by first | (simp; done) | (simp; omega)) (.cells #[.int .i64 2, .int .i64 2, .slice none 0 0, .slice (some ⟨b22, 0, none⟩) 2 cb22, .int .i64 2, .int .i64 2, .slice (some ⟨c22, 0, none⟩) 4 cc22] 30)).alloc (by first | (simp; done) | (simp; omega)) (.cells #[.int .i64 2, .int .i64 2, .slice (some ⟨a23, 0, none⟩) 3 ca23, .slice (some ⟨wu28.heap.size + 1 + 1 + 1 + 1 + 1, 0, none⟩) 1 1, .int .i64 2, .int .i64 2, .slice (some ⟨c23, 0, none⟩) 4 cc23] 30)).alloc (by first | (simp; done) | (simp; omega)) (.cells #[.int .i64 2, .int .i64 2, .slice (some ⟨a24, 0, none⟩) 3 ca24, .slice (some ⟨b24, 0, none⟩) 2 cb24, .int .i64 3, .int .i64 2, .slice (some ⟨c24, 0, none⟩) 4 cc24] 30)).alloc (by first | (simp; done) | (simp; omega)) (.cells #[.int .i64 2, .int .i64 1, .slice (some ⟨a25, 0, none⟩) 3 ca25, .slice (some ⟨b25, 0, none⟩) 2 cb25, .int .i64 2, .int .i64 2, .slice (some ⟨c25, 0, none⟩) 4 cc25] 30)).alloc (by first | (simp; done) | (simp; omega)) (.cells #[.int .i64 2] 3)))
      clear X25_28
      have V21a_280 : VD (wu28.alloc (.cells #[.int .i64 41, .int .i64 2, .slice (some ⟨a21, 0, none⟩) 3 ca21, .slice (some ⟨b21, 0, none⟩) 2 cb21, .int .i64 2, .int .i64 2, .slice (some ⟨c21, 0, none⟩) 4 cc21] 30)) wu28.heap.size ⟨41, 2, (some ⟨a21, 0, none⟩), 3, ca21, (some ⟨b21, 0, none⟩), 2, cb21, 2, 2, (some ⟨c21, 0, none⟩), 4, cc21, (fun i => ((gv.F i : Nat) : Int)), (fun i => ((gv.G i : Nat) : Int)), (fun i => gv.L (i % 2) (i / 2))⟩ := by
          have h := VD.new wu28 ⟨41, 2, (some ⟨a21, 0, none⟩), 3, ca21, (some ⟨b21, 0, none⟩), 2, cb21, 2, 2, (some ⟨c21, 0, none⟩), 4, cc21, (fun i => ((gv.F i : Nat) : Int)), (fun i => ((gv.G i : Nat) : Int)), (fun i => gv.L (i % 2) (i / 2))⟩
          try simp only [World.size_alloc] at h
          exact h
      have V21a_28 := Lib.hid (V21a_280.next ((((((Below.refl (wu28.alloc (.cells #[.int .i64 41, .int .i64 2, .slice (some ⟨a21, 0, none⟩) 3 ca21, .slice (some ⟨b21, 0, none⟩) 2 cb21, .int .i64 2, .int .i64 2, .slice (some ⟨c21, 0, none⟩) 4 cc21] 30)).heap.size (wu28.alloc (.cells #[.int .i64 41, .int .i64 2, .slice (some ⟨a21, 0, none⟩) 3 ca21, .slice (some ⟨b21, 0, none⟩) 2 cb21, .int .i64 2, .int .i64 2, .slice (some ⟨c21, 0, none⟩) 4 cc21] 30))).alloc (by first | exact Nat.le_refl _ | (simp; done) | (simp; omega)) (.cells #[.int .i64 2, .int .i64 2, .slice none 0 0, .slice (some ⟨b22, 0, none⟩) 2 cb22, .int .i64 2, .int .i64 2, .slice (some ⟨c22, 0, none⟩) 4 cc22] 30)).alloc (by first | exact Nat.le_refl _ | (simp; done) | (simp; omega)) (.cells #[.int .i64 2, .int .i64 2, .slice (some ⟨a23, 0, none⟩) 3 ca23, .slice (some ⟨wu28.heap.size + 1 + 1 + 1 + 1 + 1, 0, none⟩) 1 1, .int .i64 2, .int .i64 2, .slice (some ⟨c23, 0, none⟩) 4 cc23] 30)).alloc (by first | exact Nat.le_refl _ | (simp; done) | (simp; omega)) (.cells #[.int .i64 2, .int .i64 2, .slice (some ⟨a24, 0, none⟩) 3 ca24, .slice (some ⟨b24, 0, none⟩) 2 cb24, .int .i64 3, .int .i64 2, .slice (some ⟨c24, 0, none⟩) 4 cc24] 30)).alloc (by first | exact Nat.le_refl _ | (simp; done) | (simp; omega)) (.cells #[.int .i64 2, .int .i64 1, .slice (some ⟨a25, 0, none⟩) 3 ca25, .slice (some ⟨b25, 0, none⟩) 2 cb25, .int .i64 2, .int .i64 2, .slice (some ⟨c25, 0, none⟩) 4 cc25] 30)).alloc (by first | exact Nat.le_refl _ | (simp; done) | (simp; omega)) (.cells #[.int .i64 2] 3)))
      clear V21a_280
      have V22a_280 : VD ((wu28.alloc (.cells #[.int .i64 41, .int .i64 2, .slice (some ⟨a21, 0, none⟩) 3 ca21, .slice (some ⟨b21, 0, none⟩) 2 cb21, .int .i64 2, .int .i64 2, .slice (some ⟨c21, 0, none⟩) 4 cc21] 30)).alloc (.cells #[.int .i64 2, .int .i64 2, .slice none 0 0, .slice (some ⟨b22, 0, none⟩) 2 cb22, .int .i64 2, .int .i64 2, .slice (some ⟨c22, 0, none⟩) 4 cc22] 30)) (wu28.heap.size + 1) ⟨2, 2, none, 0, 0, (some ⟨b22, 0, none⟩), 2, cb22, 2, 2, (some ⟨c22, 0, none⟩), 4, cc22, (fun i => ((gv.F i : Nat) : Int)), (fun i => ((gv.G i : Nat) : Int)), (fun i => gv.L (i % 2) (i / 2))⟩ := by
          have h := VD.new (wu28.alloc (.cells #[.int .i64 41, .int .i64 2, .slice (some ⟨a21, 0, none⟩) 3 ca21, .slice (some ⟨b21, 0, none⟩) 2 cb21, .int .i64 2, .int .i64 2, .slice (some ⟨c21, 0, none⟩) 4 cc21] 30)) ⟨2, 2, none, 0, 0, (some ⟨b22, 0, none⟩), 2, cb22, 2, 2, (some ⟨c22, 0, none⟩), 4, cc22, (fun i => ((gv.F i : Nat) : Int)), (fun i => ((gv.G i : Nat) : Int)), (fun i => gv.L (i % 2) (i / 2))⟩
          try simp only [World.size_alloc] at h
          exact h
      have V22a_28 := Lib.hid (V22a_280.next (((((Below.refl ((wu28.alloc (.cells #[.int .i64 41, .int .i64 2, .slice (some ⟨a21, 0, none⟩) 3 ca21, .slice (some ⟨b21, 0, none⟩) 2 cb21, .int .i64 2, .int .i64 2, .slice (some ⟨c21, 0, none⟩) 4 cc21] 30)).alloc (.cells #[.int .i64 2, .int .i64 2, .slice none 0 0, .slice (some ⟨b22, 0, none⟩) 2 cb22, .int .i64 2, .int .i64 2, .slice (some ⟨c22, 0, none⟩) 4 cc22] 30)).heap.size ((wu28.alloc (.cells #[.int .i64 41, .int .i64 2, .slice (some ⟨a21, 0, none⟩) 3 ca21, .slice (some ⟨b21, 0, none⟩) 2 cb21, .int .i64 2, .int .i64 2, .slice (some ⟨c21, 0, none⟩) 4 cc21] 30)).alloc (.cells #[.int .i64 2, .int .i64 2, .slice none 0 0, .slice (some ⟨b22, 0, none⟩) 2 cb22, .int .i64 2, .int .i64 2, .slice (some ⟨c22, 0, none⟩) 4 cc22] 30))).alloc (by first | exact Nat.le_refl _ | (simp; done) | (simp; omega)) (.cells #[.int .i64 2, .int .i64 2, .slice (some ⟨a23, 0, none⟩) 3 ca23, .slice (some ⟨wu28.heap.size + 1 + 1 + 1 + 1 + 1, 0, none⟩) 1 1, .int .i64 2, .int .i64 2, .slice (some ⟨c23, 0, none⟩) 4 cc23] 30)).alloc (by first | exact Nat.le_refl _ | (simp; done) | (simp; omega)) (.cells #[.int .i64 2, .int .i64 2, .slice (some ⟨a24, 0, none⟩) 3 ca24, .slice (some ⟨b24, 0, none⟩) 2 cb24, .int .i64 3, .int .i64 2, .slice (some ⟨c24, 0, none⟩) 4 cc24] 30)).alloc (by first | exact Nat.le_refl _ | (simp; done) | (simp; omega)) (.cells #[.int .i64 2, .int .i64 1, .slice (some ⟨a25, 0, none⟩) 3 ca25, .slice (some ⟨b25, 0, none⟩) 2 cb25, .int .i64 2, .int .i64 2, .slice (some ⟨c25, 0, none⟩) 4 cc25] 30)).alloc (by first | exact Nat.le_refl _ | (simp; done) | (simp; omega)) (.cells #[.int .i64 2] 3)))
      clear V22a_280
      have V23a_280 : VD (((wu28.alloc (.cells #[.int .i64 41, .int .i64 2, .slice (some ⟨a21, 0, none⟩) 3 ca21, .slice (some ⟨b21, 0, none⟩) 2 cb21, .int .i64 2, .int .i64 2, .slice (some ⟨c21, 0, none⟩) 4 cc21] 30)).alloc (.cells #[.int .i64 2, .int .i64 2, .slice none 0 0, .slice (some ⟨b22, 0, none⟩) 2 cb22, .int .i64 2, .int .i64 2, .slice (some ⟨c22, 0, none⟩) 4 cc22] 30)).alloc (.cells #[.int .i64 2, .int .i64 2, .slice (some ⟨a23, 0, none⟩) 3 ca23, .slice (some ⟨wu28.heap.size + 1 + 1 + 1 + 1 + 1, 0, none⟩) 1 1, .int .i64 2, .int .i64 2, .slice (some ⟨c23, 0, none⟩) 4 cc23] 30)) (wu28.heap.size + 1 + 1) ⟨2, 2, (some ⟨a23, 0, none⟩), 3, ca23, (some ⟨wu28.heap.size + 1 + 1 + 1 + 1 + 1, 0, none⟩), 1, 1, 2, 2, (some ⟨c23, 0, none⟩), 4, cc23, (fun i => ((gv.F i : Nat) : Int)), (at0 [2]), (fun i => gv.L (i % 2) (i / 2))⟩ := by
          have h := VD.new ((wu28.alloc (.cells #[.int .i64 41, .int .i64 2, .slice (some ⟨a21, 0, none⟩) 3 ca21, .slice (some ⟨b21, 0, none⟩) 2 cb21, .int .i64 2, .int .i64 2, .slice (some ⟨c21, 0, none⟩) 4 cc21] 30)).alloc (.cells #[.int .i64 2, .int .i64 2, .slice none 0 0, .slice (some ⟨b22, 0, none⟩) 2 cb22, .int .i64 2, .int .i64 2, .slice (some ⟨c22, 0, none⟩) 4 cc22] 30)) ⟨2, 2, (some ⟨a23, 0, none⟩), 3, ca23, (some ⟨wu28.heap.size + 1 + 1 + 1 + 1 + 1, 0, none⟩), 1, 1, 2, 2, (some ⟨c23, 0, none⟩), 4, cc23, (fun i => ((gv.F i : Nat) : Int)), (at0 [2]), (fun i => gv.L (i % 2) (i / 2))⟩
          try simp only [World.size_alloc] at h
          exact h
      have V23a_28 := Lib.hid (V23a_280.next ((((Below.refl (((wu28.alloc (.cells #[.int .i64 41, .int .i64 2, .slice (some ⟨a21, 0, none⟩) 3 ca21, .slice (some ⟨b21, 0, none⟩) 2 cb21, .int .i64 2, .int .i64 2, .slice (some ⟨c21, 0, none⟩) 4 cc21] 30)).alloc (.cells #[.int .i64 2, .int .i64 2, .slice none 0 0, .slice (some ⟨b22, 0, none⟩) 2 cb22, .int .i64 2, .int .i64 2, .slice (some ⟨c22, 0, none⟩) 4 cc22] 30)).alloc (.cells #[.int .i64 2, .int .i64 2, .slice (some ⟨a23, 0, none⟩) 3 ca23, .slice (some ⟨wu28.heap.size + 1 + 1 + 1 + 1 + 1, 0, none⟩) 1 1, .int .i64 2, .int .i64 2, .slice (some ⟨c23, 0, none⟩) 4 cc23] 30)).heap.size (((wu28.alloc (.cells #[.int .i64 41, .int .i64 2, .slice (some ⟨a21, 0, none⟩) 3 ca21, .slice (some ⟨b21, 0, none⟩) 2 cb21, .int .i64 2, .int .i64 2, .slice (some ⟨c21, 0, none⟩) 4 cc21] 30)).alloc (.cells #[.int .i64 2, .int .i64 2, .slice none 0 0, .slice (some ⟨b22, 0, none⟩) 2 cb22, .int .i64 2, .int .i64 2, .slice (some ⟨c22, 0, none⟩) 4 cc22] 30)).alloc (.cells #[.int .i64 2, .int .i64 2, .slice (some ⟨a23, 0, none⟩) 3 ca23, .slice (some ⟨wu28.heap.size + 1 + 1 + 1 + 1 + 1, 0, none⟩) 1 1, .int .i64 2, .int .i64 2, .slice (some ⟨c23, 0, none⟩) 4 cc23] 30))).alloc (by first | exact Nat.le_refl _ | (simp; done) | (simp; omega)) (.cells #[.int .i64 2, .int .i64 2, .slice (some ⟨a24, 0, none⟩) 3 ca24, .slice (some ⟨b24, 0, none⟩) 2 cb24, .int .i64 3, .int .i64 2, .slice (some ⟨c24, 0, none⟩) 4 cc24] 30)).alloc (by first | exact Nat.le_refl _ | (simp; done) | (simp; omega)) (.cells #[.int .i64 2, .int .i64 1, .slice (some ⟨a25, 0, none⟩) 3 ca25, .slice (some ⟨b25, 0, none⟩) 2 cb25, .int .i64 2, .int .i64 2, .slice (some ⟨c25, 0, none⟩) 4 cc25] 30)).alloc (by first | exact Nat.le_refl _ | (simp; done) | (simp; omega)) (.cells #[.int .i64 2] 3)))
      clear V23a_280
      have V24a_280 : VD ((((wu28.alloc (.cells #[.int .i64 41, .int .i64 2, .slice (some ⟨a21, 0, none⟩) 3 ca21, .slice (some ⟨b21, 0, none⟩) 2 cb21, .int .i64 2, .int .i64 2, .slice (some ⟨c21, 0, none⟩) 4 cc21] 30)).alloc (.cells #[.int .i64 2, .int .i64 2, .slice none 0 0, .slice (some ⟨b22, 0, none⟩) 2 cb22, .int .i64 2, .int .i64 2, .slice (some ⟨c22, 0, none⟩) 4 cc22] 30)).alloc (.cells #[.int .i64 2, .int .i64 2, .slice (some ⟨a23, 0, none⟩) 3 ca23, .slice (some ⟨wu28.heap.size + 1 + 1 + 1 + 1 + 1, 0, none⟩) 1 1, .int .i64 2, .int .i64 2, .slice (some ⟨c23, 0, none⟩) 4 cc23] 30)).alloc (.cells #[.int .i64 2, .int .i64 2, .slice (some ⟨a24, 0, none⟩) 3 ca24, .slice (some ⟨b24, 0, none⟩) 2 cb24, .int .i64 3, .int .i64 2, .slice (some ⟨c24, 0, none⟩) 4 cc24] 30)) (wu28.heap.size + 1 + 1 + 1) ⟨2, 2, (some ⟨a24, 0, none⟩), 3, ca24, (some ⟨b24, 0, none⟩), 2, cb24, 3, 2, (some ⟨c24, 0, none⟩), 4, cc24, (fun i => ((gv.F i : Nat) : Int)), (fun i => ((gv.G i : Nat) : Int)), (fun i => gv.L (i % 2) (i / 2))⟩ := by
          have h := VD.new (((wu28.alloc (.cells #[.int .i64 41, .int .i64 2, .slice (some ⟨a21, 0, none⟩) 3 ca21, .slice (some ⟨b21, 0, none⟩) 2 cb21, .int .i64 2, .int .i64 2, .slice (some ⟨c21, 0, none⟩) 4 cc21] 30)).alloc (.cells #[.int .i64 2, .int .i64 2, .slice none 0 0, .slice (some ⟨b22, 0, none⟩) 2 cb22, .int .i64 2, .int .i64 2, .slice (some ⟨c22, 0, none⟩) 4 cc22] 30)).alloc (.cells #[.int .i64 2, .int .i64 2, .slice (some ⟨a23, 0, none⟩) 3 ca23, .slice (some ⟨wu28.heap.size + 1 + 1 + 1 + 1 + 1, 0, none⟩) 1 1, .int .i64 2, .int .i64 2, .slice (some ⟨c23, 0, none⟩) 4 cc23] 30)) ⟨2, 2, (some ⟨a24, 0, none⟩), 3, ca24, (some ⟨b24, 0, none⟩), 2, cb24, 3, 2, (some ⟨c24, 0, none⟩), 4, cc24, (fun i => ((gv.F i : Nat) : Int)), (fun i => ((gv.G i : Nat) : Int)), (fun i => gv.L (i % 2) (i / 2))⟩
          try simp only [World.size_alloc] at h
          exact h
      have V24a_28 := Lib.hid (V24a_280.next (((Below.refl ((((wu28.alloc (.cells #[.int .i64 41, .int .i64 2, .slice (some ⟨a21, 0, none⟩) 3 ca21, .slice (some ⟨b21, 0, none⟩) 2 cb21, .int .i64 2, .int .i64 2, .slice (some ⟨c21, 0, none⟩) 4 cc21] 30)).alloc (.cells #[.int .i64 2, .int .i64 2, .slice none 0 0, .slice (some ⟨b22, 0, none⟩) 2 cb22, .int .i64 2, .int .i64 2, .slice (some ⟨c22, 0, none⟩) 4 cc22] 30)).alloc (.cells #[.int .i64 2, .int .i64 2, .slice (some ⟨a23, 0, none⟩) 3 ca23, .slice (some ⟨wu28.heap.size + 1 + 1 + 1 + 1 + 1, 0, none⟩) 1 1, .int .i64 2, .int .i64 2, .slice (some ⟨c23, 0, none⟩) 4 cc23] 30)).alloc (.cells #[.int .i64 2, .int .i64 2, .slice (some ⟨a24, 0, none⟩) 3 ca24, .slice (some ⟨b24, 0, none⟩) 2 cb24, .int .i64 3, .int .i64 2, .slice (some ⟨c24, 0, none⟩) 4 cc24] 30)).heap.size ((((wu28.alloc (.cells #[.int .i64 41, .int .i64 2, .slice (some ⟨a21, 0, none⟩) 3 ca21, .slice (some ⟨b21, 0, none⟩) 2 cb21, .int .i64 2, .int .i64 2, .slice (some ⟨c21, 0, none⟩) 4 cc21] 30)).alloc (.cells #[.int .i64 2, .int .i64 2, .slice none 0 0, .slice (some ⟨b22, 0, none⟩) 2 cb22, .int .i64 2, .int .i64 2, .slice (some ⟨c22, 0, none⟩) 4 cc22] 30)).alloc (.cells #[.int .i64 2, .int .i64 2, .slice (some ⟨a23, 0, none⟩) 3 ca23, .slice (some ⟨wu28.heap.size + 1 + 1 + 1 + 1 + 1, 0, none⟩) 1 1, .int .i64 2, .int .i64 2, .slice (some ⟨c23, 0, none⟩) 4 cc23] 30)).alloc (.cells #[.int .i64 2, .int .i64 2, .slice (some ⟨a24, 0, none⟩) 3 ca24, .slice (some ⟨b24, 0, none⟩) 2 cb24, .int .i64 3, .int .i64 2, .slice (some ⟨c24, 0, none⟩) 4 cc24] 30))).alloc (by first | exact Nat.le_refl _ | (simp; done) | (simp; omega)) (.cells #[.int .i64 2, .int .i64 1, .slice (some ⟨a25, 0, none⟩) 3 ca25, .slice (some ⟨b25, 0, none⟩) 2 cb25, .int .i64 2, .int .i64 2, .slice (some ⟨c25, 0, none⟩) 4 cc25] 30)).alloc (by first | exact Nat.le_refl _ | (simp; done) | (simp; omega)) (.cells #[.int .i64 2] 3)))
      clear V24a_280
      have V25a_280 : VD (((((wu28.alloc (.cells #[.int .i64 41, .int .i64 2, .slice (some ⟨a21, 0, none⟩) 3 ca21, .slice (some ⟨b21, 0, none⟩) 2 cb21, .int .i64 2, .int .i64 2, .slice (some ⟨c21, 0, none⟩) 4 cc21] 30)).alloc (.cells #[.int .i64 2, .int .i64 2, .slice none 0 0, .slice (some ⟨b22, 0, none⟩) 2 cb22, .int .i64 2, .int .i64 2, .slice (some ⟨c22, 0, none⟩) 4 cc22] 30)).alloc (.cells #[.int .i64 2, .int .i64 2, .slice (some ⟨a23, 0, none⟩) 3 ca23, .slice (some ⟨wu28.heap.size + 1 + 1 + 1 + 1 + 1, 0, none⟩) 1 1, .int .i64 2, .int .i64 2, .slice (some ⟨c23, 0, none⟩) 4 cc23] 30)).alloc (.cells #[.int .i64 2, .int .i64 2, .slice (some ⟨a24, 0, none⟩) 3 ca24, .slice (some ⟨b24, 0, none⟩) 2 cb24, .int .i64 3, .int .i64 2, .slice (some ⟨c24, 0, none⟩) 4 cc24] 30)).alloc (.cells #[.int .i64 2, .int .i64 1, .slice (some ⟨a25, 0, none⟩) 3 ca25, .slice (some ⟨b25, 0, none⟩) 2 cb25, .int .i64 2, .int .i64 2, .slice (some ⟨c25, 0, none⟩) 4 cc25] 30)) (wu28.heap.size + 1 + 1 + 1 + 1) ⟨2, 1, (some ⟨a25, 0, none⟩), 3, ca25, (some ⟨b25, 0, none⟩), 2, cb25, 2, 2, (some ⟨c25, 0, none⟩), 4, cc25, (fun i => ((gv.F i : Nat) : Int)), (fun i => ((gv.G i : Nat) : Int)), (fun i => gv.L (i % 2) (i / 2))⟩ := by
          have h := VD.new ((((wu28.alloc (.cells #[.int .i64 41, .int .i64 2, .slice (some ⟨a21, 0, none⟩) 3 ca21, .slice (some ⟨b21, 0, none⟩) 2 cb21, .int .i64 2, .int .i64 2, .slice (some ⟨c21, 0, none⟩) 4 cc21] 30)).alloc (.cells #[.int .i64 2, .int .i64 2, .slice none 0 0, .slice (some ⟨b22, 0, none⟩) 2 cb22, .int .i64 2, .int .i64 2, .slice (some ⟨c22, 0, none⟩) 4 cc22] 30)).alloc (.cells #[.int .i64 2, .int .i64 2, .slice (some ⟨a23, 0, none⟩) 3 ca23, .slice (some ⟨wu28.heap.size + 1 + 1 + 1 + 1 + 1, 0, none⟩) 1 1, .int .i64 2, .int .i64 2, .slice (some ⟨c23, 0, none⟩) 4 cc23] 30)).alloc (.cells #[.int .i64 2, .int .i64 2, .slice (some ⟨a24, 0, none⟩) 3 ca24, .slice (some ⟨b24, 0, none⟩) 2 cb24, .int .i64 3, .int .i64 2, .slice (some ⟨c24, 0, none⟩) 4 cc24] 30)) ⟨2, 1, (some ⟨a25, 0, none⟩), 3, ca25, (some ⟨b25, 0, none⟩), 2, cb25, 2, 2, (some ⟨c25, 0, none⟩), 4, cc25, (fun i => ((gv.F i : Nat) : Int)), (fun i => ((gv.G i : Nat) : Int)), (fun i => gv.L (i % 2) (i / 2))⟩
          try simp only [World.size_alloc] at h
          exact h
      have V25a_28 := Lib.hid (V25a_280.next ((Below.refl (((((wu28.alloc (.cells #[.int .i64 41, .int .i64 2, .slice (some ⟨a21, 0, none⟩) 3 ca21, .slice (some ⟨b21, 0, none⟩) 2 cb21, .int .i64 2, .int .i64 2, .slice (some ⟨c21, 0, none⟩) 4 cc21] 30)).alloc (.cells #[.int .i64 2, .int .i64 2, .slice none 0 0, .slice (some ⟨b22, 0, none⟩) 2 cb22, .int .i64 2, .int .i64 2, .slice (some ⟨c22, 0, none⟩) 4 cc22] 30)).alloc (.cells #[.int .i64 2, .int .i64 2, .slice (some ⟨a23, 0, none⟩) 3 ca23, .slice (some ⟨wu28.heap.size + 1 + 1 + 1 + 1 + 1, 0, none⟩) 1 1, .int .i64 2, .int .i64 2, .slice (some ⟨c23, 0, none⟩) 4 cc23] 30)).alloc (.cells #[.int .i64 2, .int .i64 2, .slice (some ⟨a24, 0, none⟩) 3 ca24, .slice (some ⟨b24, 0, none⟩) 2 cb24, .int .i64 3, .int .i64 2, .slice (some ⟨c24, 0, none⟩) 4 cc24] 30)).alloc (.cells #[.int .i64 2, .int .i64 1, .slice (some ⟨a25, 0, none⟩) 3 ca25, .slice (some ⟨b25, 0, none⟩) 2 cb25, .int .i64 2, .int .i64 2, .slice (some ⟨c25, 0, none⟩) 4 cc25] 30)).heap.size (((((wu28.alloc (.cells #[.int .i64 41, .int .i64 2, .slice (some ⟨a21, 0, none⟩) 3 ca21, .slice (some ⟨b21, 0, none⟩) 2 cb21, .int .i64 2, .int .i64 2, .slice (some ⟨c21, 0, none⟩) 4 cc21] 30)).alloc (.cells #[.int .i64 2, .int .i64 2, .slice none 0 0, .slice (some ⟨b22, 0, none⟩) 2 cb22, .int .i64 2, .int .i64 2, .slice (some ⟨c22, 0, none⟩) 4 cc22] 30)).alloc (.cells #[.int .i64 2, .int .i64 2, .slice (some ⟨a23, 0, none⟩) 3 ca23, .slice (some ⟨wu28.heap.size + 1 + 1 + 1 + 1 + 1, 0, none⟩) 1 1, .int .i64 2, .int .i64 2, .slice (some ⟨c23, 0, none⟩) 4 cc23] 30)).alloc (.cells #[.int .i64 2, .int .i64 2, .slice (some ⟨a24, 0, none⟩) 3 ca24, .slice (some ⟨b24, 0, none⟩) 2 cb24, .int .i64 3, .int .i64 2, .slice (some ⟨c24, 0, none⟩) 4 cc24] 30)).alloc (.cells #[.int .i64 2, .int .i64 1, .slice (some ⟨a25, 0, none⟩) 3 ca25, .slice (some ⟨b25, 0, none⟩) 2 cb25, .int .i64 2, .int .i64 2, .slice (some ⟨c25, 0, none⟩) 4 cc25] 30))).alloc (by first | exact Nat.le_refl _ | (simp; done) | (simp; omega)) (.cells #[.int .i64 2] 3)))
      clear V25a_280
      have I17a_280 : IX ((((((wu28.alloc (.cells #[.int .i64 41, .int .i64 2, .slice (some ⟨a21, 0, none⟩) 3 ca21, .slice (some ⟨b21, 0, none⟩) 2 cb21, .int .i64 2, .int .i64 2, .slice (some ⟨c21, 0, none⟩) 4 cc21] 30)).alloc (.cells #[.int .i64 2, .int .i64 2, .slice none 0 0, .slice (some ⟨b22, 0, none⟩) 2 cb22, .int .i64 2, .int .i64 2, .slice (some ⟨c22, 0, none⟩) 4 cc22] 30)).alloc (.cells #[.int .i64 2, .int .i64 2, .slice (some ⟨a23, 0, none⟩) 3 ca23, .slice (some ⟨wu28.heap.size + 1 + 1 + 1 + 1 + 1, 0, none⟩) 1 1, .int .i64 2, .int .i64 2, .slice (some ⟨c23, 0, none⟩) 4 cc23] 30)).alloc (.cells #[.int .i64 2, .int .i64 2, .slice (some ⟨a24, 0, none⟩) 3 ca24, .slice (some ⟨b24, 0, none⟩) 2 cb24, .int .i64 3, .int .i64 2, .slice (some ⟨c24, 0, none⟩) 4 cc24] 30)).alloc (.cells #[.int .i64 2, .int .i64 1, .slice (some ⟨a25, 0, none⟩) 3 ca25, .slice (some ⟨b25, 0, none⟩) 2 cb25, .int .i64 2, .int .i64 2, .slice (some ⟨c25, 0, none⟩) 4 cc25] 30)).alloc (.cells #[.int .i64 2] 3)) (wu28.heap.size + 1 + 1 + 1 + 1 + 1) 1 (at0 [2]) := by
          have h := IX.lit (((((wu28.alloc (.cells #[.int .i64 41, .int .i64 2, .slice (some ⟨a21, 0, none⟩) 3 ca21, .slice (some ⟨b21, 0, none⟩) 2 cb21, .int .i64 2, .int .i64 2, .slice (some ⟨c21, 0, none⟩) 4 cc21] 30)).alloc (.cells #[.int .i64 2, .int .i64 2, .slice none 0 0, .slice (some ⟨b22, 0, none⟩) 2 cb22, .int .i64 2, .int .i64 2, .slice (some ⟨c22, 0, none⟩) 4 cc22] 30)).alloc (.cells #[.int .i64 2, .int .i64 2, .slice (some ⟨a23, 0, none⟩) 3 ca23, .slice (some ⟨wu28.heap.size + 1 + 1 + 1 + 1 + 1, 0, none⟩) 1 1, .int .i64 2, .int .i64 2, .slice (some ⟨c23, 0, none⟩) 4 cc23] 30)).alloc (.cells #[.int .i64 2, .int .i64 2, .slice (some ⟨a24, 0, none⟩) 3 ca24, .slice (some ⟨b24, 0, none⟩) 2 cb24, .int .i64 3, .int .i64 2, .slice (some ⟨c24, 0, none⟩) 4 cc24] 30)).alloc (.cells #[.int .i64 2, .int .i64 1, .slice (some ⟨a25, 0, none⟩) 3 ca25, .slice (some ⟨b25, 0, none⟩) 2 cb25, .int .i64 2, .int .i64 2, .slice (some ⟨c25, 0, none⟩) 4 cc25] 30)) [2]
          try simp only [World.size_alloc] at h
          exact h
      have I17a_28 := Lib.hid (I17a_280.next (Below.refl ((((((wu28.alloc (.cells #[.int .i64 41, .int .i64 2, .slice (some ⟨a21, 0, none⟩) 3 ca21, .slice (some ⟨b21, 0, none⟩) 2 cb21, .int .i64 2, .int .i64 2, .slice (some ⟨c21, 0, none⟩) 4 cc21] 30)).alloc (.cells #[.int .i64 2, .int .i64 2, .slice none 0 0, .slice (some ⟨b22, 0, none⟩) 2 cb22, .int .i64 2, .int .i64 2, .slice (some ⟨c22, 0, none⟩) 4 cc22] 30)).alloc (.cells #[.int .i64 2, .int .i64 2, .slice (some ⟨a23, 0, none⟩) 3 ca23, .slice (some ⟨wu28.heap.size + 1 + 1 + 1 + 1 + 1, 0, none⟩) 1 1, .int .i64 2, .int .i64 2, .slice (some ⟨c23, 0, none⟩) 4 cc23] 30)).alloc (.cells #[.int .i64 2, .int .i64 2, .slice (some ⟨a24, 0, none⟩) 3 ca24, .slice (some ⟨b24, 0, none⟩) 2 cb24, .int .i64 3, .int .i64 2, .slice (some ⟨c24, 0, none⟩) 4 cc24] 30)).alloc (.cells #[.int .i64 2, .int .i64 1, .slice (some ⟨a25, 0, none⟩) 3 ca25, .slice (some ⟨b25, 0, none⟩) 2 cb25, .int .i64 2, .int .i64 2, .slice (some ⟨c25, 0, none⟩) 4 cc25] 30)).alloc (.cells #[.int .i64 2] 3)).heap.size ((((((wu28.alloc (.cells #[.int .i64 41, .int .i64 2, .slice (some ⟨a21, 0, none⟩) 3 ca21, .slice (some ⟨b21, 0, none⟩) 2 cb21, .int .i64 2, .int .i64 2, .slice (some ⟨c21, 0, none⟩) 4 cc21] 30)).alloc (.cells #[.int .i64 2, .int .i64 2, .slice none 0 0, .slice (some ⟨b22, 0, none⟩) 2 cb22, .int .i64 2, .int .i64 2, .slice (some ⟨c22, 0, none⟩) 4 cc22] 30)).alloc (.cells #[.int .i64 2, .int .i64 2, .slice (some ⟨a23, 0, none⟩) 3 ca23, .slice (some ⟨wu28.heap.size + 1 + 1 + 1 + 1 + 1, 0, none⟩) 1 1, .int .i64 2, .int .i64 2, .slice (some ⟨c23, 0, none⟩) 4 cc23] 30)).alloc (.cells #[.int .i64 2, .int .i64 2, .slice (some ⟨a24, 0, none⟩) 3 ca24, .slice (some ⟨b24, 0, none⟩) 2 cb24, .int .i64 3, .int .i64 2, .slice (some ⟨c24, 0, none⟩) 4 cc24] 30)).alloc (.cells #[.int .i64 2, .int .i64 1, .slice (some ⟨a25, 0, none⟩) 3 ca25, .slice (some ⟨b25, 0, none⟩) 2 cb25, .int .i64 2, .int .i64 2, .slice (some ⟨c25, 0, none⟩) 4 cc25] 30)).alloc (.cells #[.int .i64 2] 3))))
      clear I17a_280
      generalize (((((wu28.alloc (.cells #[.int .i64 41, .int .i64 2, .slice (some ⟨a21, 0, none⟩) 3 ca21, .slice (some ⟨b21, 0, none⟩) 2 cb21, .int .i64 2, .int .i64 2, .slice (some ⟨c21, 0, none⟩) 4 cc21] 30)).alloc (.cells #[.int .i64 2, .int .i64 2, .slice none 0 0, .slice (some ⟨b22, 0, none⟩) 2 cb22, .int .i64 2, .int .i64 2, .slice (some ⟨c22, 0, none⟩) 4 cc22] 30)).alloc (.cells #[.int .i64 2, .int .i64 2, .slice (some ⟨a23, 0, none⟩) 3 ca23, .slice (some ⟨wu28.heap.size + 1 + 1 + 1 + 1 + 1, 0, none⟩) 1 1, .int .i64 2, .int .i64 2, .slice (some ⟨c23, 0, none⟩) 4 cc23] 30)).alloc (.cells #[.int .i64 2, .int .i64 2, .slice (some ⟨a24, 0, none⟩) 3 ca24, .slice (some ⟨b24, 0, none⟩) 2 cb24, .int .i64 3, .int .i64 2, .slice (some ⟨c24, 0, none⟩) 4 cc24] 30)).alloc (.cells #[.int .i64 2, .int .i64 1, .slice (some ⟨a25, 0, none⟩) 3 ca25, .slice (some ⟨b25, 0, none⟩) 2 cb25, .int .i64 2, .int .i64 2, .slice (some ⟨c25, 0, none⟩) 4 cc25] 30)).alloc (.cells #[.int .i64 2] 3) = wv28 at *
      as_aux_lemma =>
        have HS : Hid (∀ w', Below wv28.heap.size wv28 w' → w'.cell? ⟨wu28.heap.size, 0, none⟩ = some (.int .i64 41) ∧ w'.cell? ⟨wu28.heap.size, 1, none⟩ = some (.int .i64 2) ∧ w'.cell? ⟨wu28.heap.size, 2, none⟩ = some (.slice (some ⟨a21, 0, none⟩) 3 ca21) ∧ w'.cell? ⟨wu28.heap.size, 3, none⟩ = some (.slice (some ⟨b21, 0, none⟩) 2 cb21) ∧ w'.cell? ⟨wu28.heap.size, 4, none⟩ = some (.int .i64 2) ∧ w'.cell? ⟨wu28.heap.size, 5, none⟩ = some (.int .i64 2) ∧ w'.cell? ⟨wu28.heap.size, 6, none⟩ = some (.slice (some ⟨c21, 0, none⟩) 4 cc21) ∧ w'.cell? ⟨(wu28.heap.size + 1), 0, none⟩ = some (.int .i64 2) ∧ w'.cell? ⟨(wu28.heap.size + 1), 1, none⟩ = some (.int .i64 2) ∧ w'.cell? ⟨(wu28.heap.size + 1), 2, none⟩ = some (.slice none 0 0) ∧ w'.cell? ⟨(wu28.heap.size + 1), 3, none⟩ = some (.slice (some ⟨b22, 0, none⟩) 2 cb22) ∧ w'.cell? ⟨(wu28.heap.size + 1), 4, none⟩ = some (.int .i64 2) ∧ w'.cell? ⟨(wu28.heap.size + 1), 5, none⟩ = some (.int .i64 2) ∧ w'.cell? ⟨(wu28.heap.size + 1), 6, none⟩ = some (.slice (some ⟨c22, 0, none⟩) 4 cc22) ∧ w'.cell? ⟨(wu28.heap.size + 1 + 1), 0, none⟩ = some (.int .i64 2) ∧ w'.cell? ⟨(wu28.heap.size + 1 + 1), 1, none⟩ = some (.int .i64 2) ∧ w'.cell? ⟨(wu28.heap.size + 1 + 1), 2, none⟩ = some (.slice (some ⟨a23, 0, none⟩) 3 ca23) ∧ w'.cell? ⟨(wu28.heap.size + 1 + 1), 3, none⟩ = some (.slice (some ⟨wu28.heap.size + 1 + 1 + 1 + 1 + 1, 0, none⟩) 1 1) ∧ w'.cell? ⟨(wu28.heap.size + 1 + 1), 4, none⟩ = some (.int .i64 2) ∧ w'.cell? ⟨(wu28.heap.size + 1 + 1), 5, none⟩ = some (.int .i64 2) ∧ w'.cell? ⟨(wu28.heap.size + 1 + 1), 6, none⟩ = some (.slice (some ⟨c23, 0, none⟩) 4 cc23) ∧ w'.cell? ⟨(wu28.heap.size + 1 + 1 + 1), 0, none⟩ = some (.int .i64 2) ∧ w'.cell? ⟨(wu28.heap.size + 1 + 1 + 1), 1, none⟩ = some (.int .i64 2) ∧ w'.cell? ⟨(wu28.heap.size + 1 + 1 + 1), 2, none⟩ = some (.slice (some ⟨a24, 0, none⟩) 3 ca24) ∧ w'.cell? ⟨(wu28.heap.size + 1 + 1 + 1), 3, none⟩ = some (.slice (some ⟨b24, 0, none⟩) 2 cb24) ∧ w'.cell? ⟨(wu28.heap.size + 1 + 1 + 1), 4, none⟩ = some (.int .i64 3) ∧ w'.cell? ⟨(wu28.heap.size + 1 + 1 + 1), 5, none⟩ = some (.int .i64 2) ∧ w'.cell? ⟨(wu28.heap.size + 1 + 1 + 1), 6, none⟩ = some (.slice (some ⟨c24, 0, none⟩) 4 cc24) ∧ w'.cell? ⟨(wu28.heap.size + 1 + 1 + 1 + 1), 0, none⟩ = some (.int .i64 2) ∧ w'.cell? ⟨(wu28.heap.size + 1 + 1 + 1 + 1), 1, none⟩ = some (.int .i64 1) ∧ w'.cell? ⟨(wu28.heap.size + 1 + 1 + 1 + 1), 2, none⟩ = some (.slice (some ⟨a25, 0, none⟩) 3 ca25) ∧ w'.cell? ⟨(wu28.heap.size + 1 + 1 + 1 + 1), 3, none⟩ = some (.slice (some ⟨b25, 0, none⟩) 2 cb25) ∧ w'.cell? ⟨(wu28.heap.size + 1 + 1 + 1 + 1), 4, none⟩ = some (.int .i64 2) ∧ w'.cell? ⟨(wu28.heap.size + 1 + 1 + 1 + 1), 5, none⟩ = some (.int .i64 2) ∧ w'.cell? ⟨(wu28.heap.size + 1 + 1 + 1 + 1), 6, none⟩ = some (.slice (some ⟨c25, 0, none⟩) 4 cc25)) := Lib.hid (fun w' h => by
          obtain ⟨x21_0, x21_1, x21_2, x21_3, x21_4, x21_5, x21_6, _⟩ := (V21a_28.out.next h).box.all
          obtain ⟨x22_0, x22_1, x22_2, x22_3, x22_4, x22_5, x22_6, _⟩ := (V22a_28.out.next h).box.all
          obtain ⟨x23_0, x23_1, x23_2, x23_3, x23_4, x23_5, x23_6, _⟩ := (V23a_28.out.next h).box.all
          obtain ⟨x24_0, x24_1, x24_2, x24_3, x24_4, x24_5, x24_6, _⟩ := (V24a_28.out.next h).box.all
          obtain ⟨x25_0, x25_1, x25_2, x25_3, x25_4, x25_5, x25_6, _⟩ := (V25a_28.out.next h).box.all
          exact ⟨x21_0, x21_1, x21_2, x21_3, x21_4, x21_5, x21_6, x22_0, x22_1, x22_2, x22_3, x22_4, x22_5, x22_6, x23_0, x23_1, x23_2, x23_3, x23_4, x23_5, x23_6, x24_0, x24_1, x24_2, x24_3, x24_4, x24_5, x24_6, x25_0, x25_1, x25_2, x25_3, x25_4, x25_5, x25_6⟩)
        have K21 : Hid (∀ w', Below wv28.heap.size wv28 w' → Calls Try.prog 21 #[.agg #[.int .i64 41, .int .i64 2, .slice (some ⟨a21, 0, none⟩) 3 ca21, .slice (some ⟨b21, 0, none⟩) 2 cb21, .int .i64 2, .int .i64 2, .slice (some ⟨c21, 0, none⟩) 4 cc21]] w' fun e u => e = .returned (.int .i64 4) ∧ Below w'.heap.size w' u) := Lib.hid (fun w' h => dck_is (D := ⟨41, 2, (some ⟨a21, 0, none⟩), 3, ca21, (some ⟨b21, 0, none⟩), 2, cb21, 2, 2, (some ⟨c21, 0, none⟩), 4, cc21, (fun i => ((gv.F i : Nat) : Int)), (fun i => ((gv.G i : Nat) : Int)), (fun i => gv.L (i % 2) (i / 2))⟩) (z := 4) (by refine Eq.trans ck_eq ?_; decide +kernel) (small_mk (by decide) (by decide) (by decide)) w' ⟨(X21a_28.out.next h).cells.th, (X21a_28.out.next h).cells.tr, (X21a_28.out.next h).cells.ti⟩)
        have K22 : Hid (∀ w', Below wv28.heap.size wv28 w' → Calls Try.prog 21 #[.agg #[.int .i64 2, .int .i64 2, .slice none 0 0, .slice (some ⟨b22, 0, none⟩) 2 cb22, .int .i64 2, .int .i64 2, .slice (some ⟨c22, 0, none⟩) 4 cc22]] w' fun e u => e = .returned (.int .i64 8) ∧ Below w'.heap.size w' u) := Lib.hid (fun w' h => dck_is (D := ⟨2, 2, none, 0, 0, (some ⟨b22, 0, none⟩), 2, cb22, 2, 2, (some ⟨c22, 0, none⟩), 4, cc22, (fun i => ((gv.F i : Nat) : Int)), (fun i => ((gv.G i : Nat) : Int)), (fun i => gv.L (i % 2) (i / 2))⟩) (z := 8) (by refine Eq.trans ck_eq ?_; decide +kernel) (small_mk (by decide) (by decide) (by decide)) w' ⟨L2.Holds.none_, (X22a_28.out.next h).cells.tr, (X22a_28.out.next h).cells.ti⟩)
        have K23 : Hid (∀ w', Below wv28.heap.size wv28 w' → Calls Try.prog 21 #[.agg #[.int .i64 2, .int .i64 2, .slice (some ⟨a23, 0, none⟩) 3 ca23, .slice (some ⟨wu28.heap.size + 1 + 1 + 1 + 1 + 1, 0, none⟩) 1 1, .int .i64 2, .int .i64 2, .slice (some ⟨c23, 0, none⟩) 4 cc23]] w' fun e u => e = .returned (.int .i64 8) ∧ Below w'.heap.size w' u) := Lib.hid (fun w' h => dck_is (D := ⟨2, 2, (some ⟨a23, 0, none⟩), 3, ca23, (some ⟨wu28.heap.size + 1 + 1 + 1 + 1 + 1, 0, none⟩), 1, 1, 2, 2, (some ⟨c23, 0, none⟩), 4, cc23, (fun i => ((gv.F i : Nat) : Int)), (at0 [2]), (fun i => gv.L (i % 2) (i / 2))⟩) (z := 8) (by refine Eq.trans ck_eq ?_; decide +kernel) (small_mk (by decide) (by decide) (by decide)) w' ⟨(X23a_28.out.next h).cells.th, (I17a_28.out.next h).holds, (X23a_28.out.next h).cells.ti⟩)
        have K24 : Hid (∀ w', Below wv28.heap.size wv28 w' → Calls Try.prog 21 #[.agg #[.int .i64 2, .int .i64 2, .slice (some ⟨a24, 0, none⟩) 3 ca24, .slice (some ⟨b24, 0, none⟩) 2 cb24, .int .i64 3, .int .i64 2, .slice (some ⟨c24, 0, none⟩) 4 cc24]] w' fun e u => e = .returned (.int .i64 8) ∧ Below w'.heap.size w' u) := Lib.hid (fun w' h => dck_is (D := ⟨2, 2, (some ⟨a24, 0, none⟩), 3, ca24, (some ⟨b24, 0, none⟩), 2, cb24, 3, 2, (some ⟨c24, 0, none⟩), 4, cc24, (fun i => ((gv.F i : Nat) : Int)), (fun i => ((gv.G i : Nat) : Int)), (fun i => gv.L (i % 2) (i / 2))⟩) (z := 8) (by refine Eq.trans ck_eq ?_; decide +kernel) (small_mk (by decide) (by decide) (by decide)) w' ⟨(X24a_28.out.next h).cells.th, (X24a_28.out.next h).cells.tr, (X24a_28.out.next h).cells.ti⟩)
        have K25 : Hid (∀ w', Below wv28.heap.size wv28 w' → Calls Try.prog 21 #[.agg #[.int .i64 2, .int .i64 1, .slice (some ⟨a25, 0, none⟩) 3 ca25, .slice (some ⟨b25, 0, none⟩) 2 cb25, .int .i64 2, .int .i64 2, .slice (some ⟨c25, 0, none⟩) 4 cc25]] w' fun e u => e = .returned (.int .i64 8) ∧ Below w'.heap.size w' u) := Lib.hid (fun w' h => dck_is (D := ⟨2, 1, (some ⟨a25, 0, none⟩), 3, ca25, (some ⟨b25, 0, none⟩), 2, cb25, 2, 2, (some ⟨c25, 0, none⟩), 4, cc25, (fun i => ((gv.F i : Nat) : Int)), (fun i => ((gv.G i : Nat) : Int)), (fun i => gv.L (i % 2) (i / 2))⟩) (z := 8) (by refine Eq.trans ck_eq ?_; decide +kernel) (small_mk (by decide) (by decide) (by decide)) w' ⟨(X25a_28.out.next h).cells.th, (X25a_28.out.next h).cells.tr, (X25a_28.out.next h).cells.ti⟩)
        have KZ : Hid (∀ w', Calls Try.prog 21 #[.agg #[.int .i64 0, .int .i64 0, .slice none 0 0, .slice none 0 0, .int .i64 0, .int .i64 0, .slice none 0 0]] w' fun e u => e = .returned (.int .i64 8) ∧ Below w'.heap.size w' u) := Lib.hid (fun w' => dck_is (D := Dr.zero) (z := 8) (by decide +kernel) zsm w' ⟨L2.Holds.none_, L2.Holds.none_, Holds.none_⟩)
        have HD25 : Hid (∀ w', Below wv28.heap.size wv28 w' → (⟨2, 1, (some ⟨a25, 0, none⟩), 3, ca25, (some ⟨b25, 0, none⟩), 2, cb25, 2, 2, (some ⟨c25, 0, none⟩), 4, cc25, (fun i => ((gv.F i : Nat) : Int)), (fun i => ((gv.G i : Nat) : Int)), (fun i => gv.L (i % 2) (i / 2))⟩ : Dr).In w' w'.heap.size) := Lib.hid (fun w' h => ⟨(X25a_28.out.next h).cells.th, (X25a_28.out.next h).cells.tr, (X25a_28.out.next h).cells.ti⟩)
        have hz := Below.refl wv28.heap.size wv28
        have hbx := hz.drew
        have hSu := HS.out _ hbx
        clear hz
        go_region_held3 (fun w' => w'.cell? ⟨wu28.heap.size, 0, none⟩ = some (.int .i64 41) ∧ w'.cell? ⟨wu28.heap.size, 1, none⟩ = some (.int .i64 2) ∧ w'.cell? ⟨wu28.heap.size, 2, none⟩ = some (.slice (some ⟨a21, 0, none⟩) 3 ca21) ∧ w'.cell? ⟨wu28.heap.size, 3, none⟩ = some (.slice (some ⟨b21, 0, none⟩) 2 cb21) ∧ w'.cell? ⟨wu28.heap.size, 4, none⟩ = some (.int .i64 2) ∧ w'.cell? ⟨wu28.heap.size, 5, none⟩ = some (.int .i64 2) ∧ w'.cell? ⟨wu28.heap.size, 6, none⟩ = some (.slice (some ⟨c21, 0, none⟩) 4 cc21) ∧ w'.cell? ⟨(wu28.heap.size + 1), 0, none⟩ = some (.int .i64 2) ∧ w'.cell? ⟨(wu28.heap.size + 1), 1, none⟩ = some (.int .i64 2) ∧ w'.cell? ⟨(wu28.heap.size + 1), 2, none⟩ = some (.slice none 0 0) ∧ w'.cell? ⟨(wu28.heap.size + 1), 3, none⟩ = some (.slice (some ⟨b22, 0, none⟩) 2 cb22) ∧ w'.cell? ⟨(wu28.heap.size + 1), 4, none⟩ = some (.int .i64 2) ∧ w'.cell? ⟨(wu28.heap.size + 1), 5, none⟩ = some (.int .i64 2) ∧ w'.cell? ⟨(wu28.heap.size + 1), 6, none⟩ = some (.slice (some ⟨c22, 0, none⟩) 4 cc22) ∧ w'.cell? ⟨(wu28.heap.size + 1 + 1), 0, none⟩ = some (.int .i64 2) ∧ w'.cell? ⟨(wu28.heap.size + 1 + 1), 1, none⟩ = some (.int .i64 2) ∧ w'.cell? ⟨(wu28.heap.size + 1 + 1), 2, none⟩ = some (.slice (some ⟨a23, 0, none⟩) 3 ca23) ∧ w'.cell? ⟨(wu28.heap.size + 1 + 1), 3, none⟩ = some (.slice (some ⟨wu28.heap.size + 1 + 1 + 1 + 1 + 1, 0, none⟩) 1 1) ∧ w'.cell? ⟨(wu28.heap.size + 1 + 1), 4, none⟩ = some (.int .i64 2) ∧ w'.cell? ⟨(wu28.heap.size + 1 + 1), 5, none⟩ = some (.int .i64 2) ∧ w'.cell? ⟨(wu28.heap.size + 1 + 1), 6, none⟩ = some (.slice (some ⟨c23, 0, none⟩) 4 cc23) ∧ w'.cell? ⟨(wu28.heap.size + 1 + 1 + 1), 0, none⟩ = some (.int .i64 2) ∧ w'.cell? ⟨(wu28.heap.size + 1 + 1 + 1), 1, none⟩ = some (.int .i64 2) ∧ w'.cell? ⟨(wu28.heap.size + 1 + 1 + 1), 2, none⟩ = some (.slice (some ⟨a24, 0, none⟩) 3 ca24) ∧ w'.cell? ⟨(wu28.heap.size + 1 + 1 + 1), 3, none⟩ = some (.slice (some ⟨b24, 0, none⟩) 2 cb24) ∧ w'.cell? ⟨(wu28.heap.size + 1 + 1 + 1), 4, none⟩ = some (.int .i64 3) ∧ w'.cell? ⟨(wu28.heap.size + 1 + 1 + 1), 5, none⟩ = some (.int .i64 2) ∧ w'.cell? ⟨(wu28.heap.size + 1 + 1 + 1), 6, none⟩ = some (.slice (some ⟨c24, 0, none⟩) 4 cc24) ∧ w'.cell? ⟨(wu28.heap.size + 1 + 1 + 1 + 1), 0, none⟩ = some (.int .i64 2) ∧ w'.cell? ⟨(wu28.heap.size + 1 + 1 + 1 + 1), 1, none⟩ = some (.int .i64 1) ∧ w'.cell? ⟨(wu28.heap.size + 1 + 1 + 1 + 1), 2, none⟩ = some (.slice (some ⟨a25, 0, none⟩) 3 ca25) ∧ w'.cell? ⟨(wu28.heap.size + 1 + 1 + 1 + 1), 3, none⟩ = some (.slice (some ⟨b25, 0, none⟩) 2 cb25) ∧ w'.cell? ⟨(wu28.heap.size + 1 + 1 + 1 + 1), 4, none⟩ = some (.int .i64 2) ∧ w'.cell? ⟨(wu28.heap.size + 1 + 1 + 1 + 1), 5, none⟩ = some (.int .i64 2) ∧ w'.cell? ⟨(wu28.heap.size + 1 + 1 + 1 + 1), 6, none⟩ = some (.slice (some ⟨c25, 0, none⟩) 4 cc25))
          (first
            | with_reducible exact hSu
            | with_reducible exact hSv)
          (first
            | (go_at_call 21
               with_reducible refine Calls.mono (K21.out _ hbx) ?_
               rintro e u ⟨rfl, hbu⟩
               have hbx := hbx.trans (hbu.mono hbx.size)
               have hSu := HS.out _ hbx)
            | (go_at_call 21
               with_reducible refine Calls.mono (K22.out _ hbx) ?_
               rintro e u ⟨rfl, hbu⟩
               have hbx := hbx.trans (hbu.mono hbx.size)
               have hSu := HS.out _ hbx)
            | (go_at_call 21
               with_reducible refine Calls.mono (K23.out _ hbx) ?_
               rintro e u ⟨rfl, hbu⟩
               have hbx := hbx.trans (hbu.mono hbx.size)
               have hSu := HS.out _ hbx)
            | (go_at_call 21
               with_reducible refine Calls.mono (K24.out _ hbx) ?_
               rintro e u ⟨rfl, hbu⟩
               have hbx := hbx.trans (hbu.mono hbx.size)
               have hSu := HS.out _ hbx)
            | (go_at_call 21
               with_reducible refine Calls.mono (K25.out _ hbx) ?_
               rintro e u ⟨rfl, hbu⟩
               have hbx := hbx.trans (hbu.mono hbx.size)
               have hSu := HS.out _ hbx)
            | (go_at_call 21
               with_reducible refine Calls.mono (KZ.out _) ?_
               rintro e u ⟨rfl, hbu⟩
               have hbx := hbx.trans (hbu.mono hbx.size)
               have hSu := HS.out _ hbx)
            | (go_at_call 17
               with_reducible refine Calls.mono (given_dx _) ?_
               rintro e u ⟨ga, gca, gb, gcb, gc, gcc, rfl, hdx, hbu⟩
               have hg := Lib.hid hdx
               have hbx := hbx.trans (hbu.mono hbx.size)
               have hSu := HS.out _ hbx)
            | (go_at_call 21
               refine (dck_is (D := gv.dr ga gca gb gcb gc gcc) (z := 0) ((gv.dr_is ga gca gb gcb gc gcc).ck gv_ok) ((gv.dr_is ga gca gb gcb gc gcc).small gv_ok) _ hg.out.cells).mono ?_
               rintro e u ⟨rfl, hbu⟩
               have hbx := hbx.trans (hbu.mono hbx.size)
               have hSu := HS.out _ hbx
               have hSv := HS.out (u.alloc (.cells #[] 3)) (hbx.alloc hbx.size _)
               have hby := hbx.alloc hbx.size (.cells #[] 3))
            | (go_at_call 22
               with_reducible refine Calls.mono (zero_same _ _) ?_
               rintro e u ⟨rfl, hbu⟩
               have hbx : Below wv28.heap.size wv28 u := (by first | with_reducible exact hby.trans (hbu.mono hby.size) | with_reducible exact hbx.trans (hbu.mono hbx.size))
               have hSu := HS.out _ hbx)
            | (go_at_call 22
               with_reducible refine Calls.mono (given_same ga gca gb gcb gc gcc a25 ca25 b25 cb25 c25 cc25 _ hg.out.cells (HD25.out _ hbx)) ?_
               rintro e u ⟨rfl, hbu⟩
               have hbx := hbx.trans (hbu.mono hbx.size)
               have hSu := HS.out _ hbx))
        all_goals
          have LL := Lib.hid (La_28.out.next hbx)
          clear hSu
          go_wp2_with fail
          refine (alive_any _).mono ?_
          rintro e u9 ⟨rfl, hb9⟩
          go_wp2
          refine bodyPost_ret (v := .bool true) (by simp [results, Try.results3, go_sem]) rfl ⟨rfl, (LL.out.next hb9).bel⟩
end Go.Proofs.Ytbafhdinalapoaa
