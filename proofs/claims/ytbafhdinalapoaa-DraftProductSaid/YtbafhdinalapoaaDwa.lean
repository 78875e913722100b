/- The closures of Weave and Lift. -/
import Derived.Test.YtbafhdinalapoaaDbl
import Derived.Test.YtbafhdinalapoaaDck
import Derived.Test.YtbafhdinalapoaaOps
namespace Go.Proofs.Ytbafhdinalapoaa
open Go.RowKit
set_option linter.unusedVariables false
set_option linter.unusedSimpArgs false
set_option maxRecDepth 100000

/-- What a walk asks of a valid draft: its variable, its lists, its tie-up. -/
structure DV (w : World) (gb : Nat) (D : Dr) (P : PD) : Prop where
  box : DBox w gb D
  cells : D.In w w.heap.size
  is : D.Is P
  ok : P.Ok
theorem DV.next {w w' : World} {gb : Nat} {D : Dr} {P : PD} (h : DV w gb D P) (hb : Below w.heap.size w w') : DV w' gb D P := ⟨h.box.next hb, h.cells.next hb, h.is, h.ok⟩

set_option maxHeartbeats 800000 in
theorem weave_clo {w : World} {gb : Nat} {D : Dr} {P : PD} (h : DV w gb D P) :
    Gives 58 #[.pointer (some ⟨gb, 0, none⟩)] w P.n P.m (fun x y => P.L (P.G y) (P.F x)) := by
  intro w1 x y hb hx hy
  have h1 := h.next hb
  clear h
  obtain ⟨S, T, A, n, c, B, m, d, W, H, C, k, e', f, g, b⟩ := D
  obtain ⟨PS, PT, Pn, Pm, PF, PG, PL⟩ := P
  obtain ⟨hbox, ⟨hth, htr, hti⟩, ⟨eS, eT, en, em, eW, eH, ek, ef, eg, eb⟩, ⟨p1, p2, p3, p4, p5, p6, p7, p8, pf, pg⟩⟩ := h1
  obtain ⟨q0, q1, q2, q3, q4, q5, q6, q7⟩ := hbox.all
  dsimp only at *
  subst eS eT en em eW eH ek
  obtain ⟨bA, oA, rfl, hbA, hcA⟩ := hth (by omega)
  obtain ⟨bB, oB, rfl, hbB, hcB⟩ := htr (by omega)
  have c1 := hcA x hx
  have c2 := hcB y hy
  rw [ef x hx] at c1
  rw [eg y hy] at c2
  have pfx := pf x hx
  have pgy := pg y hy
  have HE := Lib.hid (eb _ _ pgy pfx)
  have HC := Lib.hid (fun w' (hb' : Below w1.heap.size w1 w') => dcell_nat PT PS C e' (PG y) (PF x) b w' ((hti.below hb').more hb'.size) (by omega) (by omega) (PG y) (PF x) rfl rfl pgy pfx)
  clear hcA hcB hbox hth htr hti ef eg eb pf pg hb
  generalize PF x = px at *
  generalize PG y = py at *
  have y1 : (0 : Int) ≤ (x : Int) := by omega
  have y2 : (x : Int) < (n : Int) := by omega
  have y3 : (0 : Int) ≤ (y : Int) := by omega
  have y4 : (y : Int) < (m : Int) := by omega
  go_enter Try.func58, Try.ntmps58
  go_wp2
  go_still_tail 12, (by kernel_rfl)
  change wpList _ _ _ _ _ w1.drew
  go_wp2_with (go_at_call 57; refine (HC.out _ ?_).mono ?_; exact (Below.refl _ _).drew; rintro e w2 ⟨rfl, hb2⟩)
  go_ret
  exact ⟨ret_bool HE.out, (Below.refl _ _).drew.trans hb2⟩

set_option maxHeartbeats 800000 in
theorem lift_clo {w : World} {gb : Nat} {D : Dr} {P : PD} (h : DV w gb D P) :
    Gives 67 #[.pointer (some ⟨gb, 0, none⟩)] w P.S P.m (fun x y => P.L (P.G y) x) := by
  intro w1 x y hb hx hy
  have h1 := h.next hb
  clear h
  obtain ⟨S, T, A, n, c, B, m, d, W, H, C, k, e', f, g, b⟩ := D
  obtain ⟨PS, PT, Pn, Pm, PF, PG, PL⟩ := P
  obtain ⟨hbox, ⟨hth, htr, hti⟩, ⟨eS, eT, en, em, eW, eH, ek, ef, eg, eb⟩, ⟨p1, p2, p3, p4, p5, p6, p7, p8, pf, pg⟩⟩ := h1
  obtain ⟨q0, q1, q2, q3, q4, q5, q6, q7⟩ := hbox.all
  dsimp only at *
  subst eS eT en em eW eH ek
  obtain ⟨bB, oB, rfl, hbB, hcB⟩ := htr (by omega)
  have c2 := hcB y hy
  rw [eg y hy] at c2
  have pgy := pg y hy
  have HE := Lib.hid (eb _ _ pgy hx)
  have HC := Lib.hid (fun w' (hb' : Below w1.heap.size w1 w') => dcell_nat PT PS C e' (PG y) x b w' ((hti.below hb').more hb'.size) (by omega) (by omega) (PG y) x rfl rfl pgy hx)
  clear hcB hbox hth htr hti ef eg eb pf pg hb
  generalize PG y = py at *
  have y3 : (0 : Int) ≤ (y : Int) := by omega
  have y4 : (y : Int) < (m : Int) := by omega
  go_enter Try.func67, Try.ntmps67
  go_wp2
  go_still_tail 8, (by kernel_rfl)
  change wpList _ _ _ _ _ w1.drew
  go_wp2_with (go_at_call 57; refine (HC.out _ ?_).mono ?_; exact (Below.refl _ _).drew; rintro e w2 ⟨rfl, hb2⟩)
  go_ret
  exact ⟨ret_bool HE.out, (Below.refl _ _).drew.trans hb2⟩

/-- A draft's box and a grid's box, behind the first call. -/
theorem dafter2 {w w1 : World} {D : Dr} (hb : Below ((w.alloc (.cells #[.int .i64 D.S, .int .i64 D.T, .slice D.A D.n D.c, .slice D.B D.m D.d, .int .i64 D.W, .int .i64 D.H, .slice D.C D.k D.e] 30)).alloc (.cells #[.int .i64 0, .int .i64 0, .slice none 0 0] 24)).heap.size
      ((w.alloc (.cells #[.int .i64 D.S, .int .i64 D.T, .slice D.A D.n D.c, .slice D.B D.m D.d, .int .i64 D.W, .int .i64 D.H, .slice D.C D.k D.e] 30)).alloc (.cells #[.int .i64 0, .int .i64 0, .slice none 0 0] 24)) w1) :
    DBox w1 w.heap.size D ∧ Box w1 (w.heap.size + 1) 0 0 (.slice none 0 0) ∧ Below w.heap.size w w1 ∧ w.heap.size + 2 ≤ w1.heap.size := by
  have h1 := ((DBox.new w D).alloc (.cells #[.int .i64 0, .int .i64 0, .slice none 0 0] 24)).below hb (by simp; omega)
  have h2 := (Box.new (w.alloc (.cells #[.int .i64 D.S, .int .i64 D.T, .slice D.A D.n D.c, .slice D.B D.m D.d, .int .i64 D.W, .int .i64 D.H, .slice D.C D.k D.e] 30)) 0 0 (.slice none 0 0)).below hb (by simp)
  have h3 : Below w.heap.size w w1 := (((Below.refl _ _).alloc (Nat.le_refl _) _).alloc (by simp) _).trans (hb.mono (by simp; omega))
  have h4 := hb.size
  simp at h2 h4
  exact ⟨h1, h2, h3, by omega⟩
theorem dstart2 {w : World} {D : Dr} (hd : D.In w w.heap.size) : D.In ((w.alloc (.cells #[.int .i64 D.S, .int .i64 D.T, .slice D.A D.n D.c, .slice D.B D.m D.d, .int .i64 D.W, .int .i64 D.H, .slice D.C D.k D.e] 30)).alloc (.cells #[.int .i64 0, .int .i64 0, .slice none 0 0] 24)) ((w.alloc (.cells #[.int .i64 D.S, .int .i64 D.T, .slice D.A D.n D.c, .slice D.B D.m D.d, .int .i64 D.W, .int .i64 D.H, .slice D.C D.k D.e] 30)).alloc (.cells #[.int .i64 0, .int .i64 0, .slice none 0 0] 24)).heap.size :=
  hd.next (((Below.refl _ _).alloc (Nat.le_refl _) _).alloc (by simp) _)
theorem Dr.Is.small {D : Dr} {P : PD} (h : D.Is P) (hP : P.Ok) : D.Small := by
  have h2 := Nat.mul_le_mul hP.t1 hP.s1
  have h3 := h.k
  exact ⟨by rw [h.n]; have := hP.n1; omega, by rw [h.m]; have := hP.m1; omega, by omega⟩
end Go.Proofs.Ytbafhdinalapoaa
