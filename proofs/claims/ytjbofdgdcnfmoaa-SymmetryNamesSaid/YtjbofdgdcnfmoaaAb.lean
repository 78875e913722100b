/- Merged: Ab6 Al6. -/
import Derived.Test.YtjbofdgdcnfmoaaCet
import Derived.Test.YtjbofdgdcnfmoaaTa

/- What the examples of layer 6 lean on. -/
namespace Go.Proofs.Ytjbofdgdcnfmoaa
open Go.RowKit
set_option maxRecDepth 100000
set_option linter.unusedVariables false
set_option linter.unusedSimpArgs false

/-- The text of a grid. -/
def tx (W H : Nat) (f : Nat → Bool) : ByteArray := ⟨(rowsT W H f H).toArray⟩
/-- A grid out of a text. -/
def PG (w : World) (W H n : Nat) (f : Nat → Bool) (e : Ending) (w' : World) : Prop := ∃ k, e = .returned (.tuple #[.agg #[.int .i64 W, .int .i64 H, .slice (some ⟨k, 0, none⟩) n n], .int .i64 0]) ∧ w.heap.size ≤ k ∧ Row w' k n f ∧ Below w.heap.size w w'
def CG (w : World) (W H n : Nat) (f : Nat → Bool) (e : Ending) (w' : World) : Prop := ∃ k, e = .returned (.agg #[.int .i64 W, .int .i64 H, .slice (some ⟨k, 0, none⟩) n n]) ∧ w.heap.size ≤ k ∧ Row w' k n f ∧ Below w.heap.size w w'
set_option maxHeartbeats 800000 in
theorem cloth6_any (s : ByteArray) (W H n : Nat) (f : Nat → Bool) (hp : ∀ v, Calls Try.prog 69 #[.string s] v (PG v W H n f)) (w : World) : Calls Try.prog 18 #[.string s] w (CG w W H n f) := by
  have HP := Lib.hid hp
  have L0 := Lib.hid (show Below w.heap.size w (w.alloc (.cells #[.int .i64 0, .int .i64 0, .slice none 0 0] 24)) from (Below.refl _ _).alloc (Nat.le_refl _) _)
  have R0 := Lib.hid (Box.new w 0 0 (.slice none 0 0))
  have hs0 : (w.alloc (.cells #[.int .i64 0, .int .i64 0, .slice none 0 0] 24)).heap.size = w.heap.size + 1 := by simp
  clear hp
  go_enter Try.func18, Try.ntmps18
  go_wp2_with fail
  generalize w.alloc (.cells #[.int .i64 0, .int .i64 0, .slice none 0 0] 24) = v0 at *
  refine (HP.out _).mono ?_
  rintro e w1 ⟨k, rfl, hk, hrow, hb⟩
  have hkl := hrow.lt
  have R1 := Lib.hid ((R0.out.below hb R0.out.lt).alloc (.cells #[.int .i64 W, .int .i64 H, .slice (some ⟨k, 0, none⟩) n n] 24))
  have HW := Lib.hid (hrow.alloc (.cells #[.int .i64 W, .int .i64 H, .slice (some ⟨k, 0, none⟩) n n] 24))
  have LB := Lib.hid ((L0.out.trans (hb.mono L0.out.size)).alloc (Nat.le_trans L0.out.size hb.size) (.cells #[.int .i64 W, .int .i64 H, .slice (some ⟨k, 0, none⟩) n n] 24))
  obtain ⟨q0, q1, q2, q3, q4, q5, q6⟩ := R1.out.all
  obtain ⟨r0, r1, r2, r3, r4, r5, r6⟩ := (Box.new w1 W H (.slice (some ⟨k, 0, none⟩) n n)).all
  have hk2 : w.heap.size < k := by omega
  clear hrow hb
  go_wp2
  refine bodyPost_ret (v := .agg #[.int .i64 W, .int .i64 H, .slice (some ⟨k, 0, none⟩) n n]) (by simp [results, Try.results18, go_sem, q0, q1, q2]) rfl ⟨k, rfl, by omega, ?_, ?_⟩
  · exact ((HW.out.far (by simp; omega) _).far (by simp; omega) _).far (by simp; omega) _
  · exact ((LB.out.setCell (by simp) _).setCell (by simp) _).setCell (by simp) _
/-- reads: has the grid, that came with no error, the text? -/
theorem reads6_any (W H : Nat) (D : Option Addr) (c : Nat) (f : Nat → Bool) (s : ByteArray) (t : Bool) (w : World) (hr : Holds w w.heap.size D (W * H) f) (hW0 : 1 ≤ W) (hW : W ≤ 64) (hH0 : 1 ≤ H) (hH : H ≤ 64) (hs : (s.toList == (tx W H f).toList) = t) :
    Calls Try.prog 24 #[.agg #[.int .i64 (W : Nat), .int .i64 (H : Nat), .slice D (W * H) c], .int .i64 0, .string s] w fun e w' => e = .returned (.bool t) ∧ Below w.heap.size w w' := by
  have HT := Lib.hid (fun v (h : Below w.heap.size w v) => (show Calls Try.prog 52 #[.agg #[.int .i64 (W : Nat), .int .i64 (H : Nat), .slice D (W * H) c]] v fun e w' => e = .returned (.tuple #[.string (tx W H f), .int .i64 0]) ∧ Below v.heap.size v w' from text_ok W H D c f v ((hr.below h).more h.size) hW0 hW hH0 hH))
  have LB0 := Lib.hid (show Below w.heap.size w (w.alloc (.cells #[.int .i64 (W : Nat), .int .i64 (H : Nat), .slice D (W * H) c] 24)) from (Below.refl _ _).alloc (Nat.le_refl _) _)
  obtain ⟨q, hq⟩ : ∃ q, tx W H f = q := ⟨_, rfl⟩
  rw [hq] at hs HT
  clear hr hq
  go_enter Try.func24, Try.ntmps24
  go_wp2_with fail
  refine (HT.out _ LB0.out).mono ?_
  rintro e w1 ⟨rfl, hb⟩
  have LB1 := Lib.hid (LB0.out.trans (hb.mono LB0.out.size))
  clear hb
  have HS := Lib.hid hs
  clear hs
  go_wp2
  go_ret
  refine ⟨?_, LB1.out⟩
  show Ending.returned (.bool (s.toList == q.toList)) = _
  rw [HS.out]
def repB (W H : Nat) (f : Nat → Bool) (a b : Nat) : Bool := (List.range W).all fun x => (List.range H).all fun y => pc W H f x y == pc W H f (x + a) (y + b)
theorem repB_iff (W H : Nat) (f : Nat → Bool) (a b : Nat) : repB W H f a b = true ↔ rep W H f a b := by
  unfold repB rep
  simp only [List.all_eq_true, List.mem_range, beq_iff_eq]
def islB (W H : Nat) (f : Nat → Bool) (A B C : Nat) : Bool :=
  decide (1 ≤ A) && decide (A ≤ W) && repB W H f A 0 && ((List.range A).all fun a => decide (a = 0) || !repB W H f a 0) && decide (1 ≤ C) && decide (C ≤ H) && decide (B < A) && repB W H f B C &&
    ((List.range B).all fun b => !repB W H f b C) && (List.range C).all fun c => decide (c = 0) || (List.range A).all fun b => !repB W H f b c
theorem IsL.of {W H : Nat} {f : Nat → Bool} {A B C : Nat} (h : islB W H f A B C = true) : IsL W H f A B C := by
  unfold islB at h
  simp only [Bool.and_eq_true, Bool.or_eq_true, decide_eq_true_eq, List.all_eq_true, List.mem_range, Bool.not_eq_true'] at h
  obtain ⟨⟨⟨⟨⟨⟨⟨⟨⟨h1, h2⟩, h3⟩, h4⟩, h5⟩, h6⟩, h7⟩, h8⟩, h9⟩, h10⟩ := h
  have no : ∀ a b, repB W H f a b = false → ¬ rep W H f a b := fun a b e k => by rw [(repB_iff W H f a b).2 k] at e; cases e
  refine ⟨h1, h2, (repB_iff _ _ _ _ _).1 h3, fun a i j => ?_, h5, h6, h7, (repB_iff _ _ _ _ _).1 h8, fun b j => no _ _ (h9 b j), fun c i j b k => ?_⟩
  · rcases h4 a j with e | e
    · omega
    · exact no _ _ e
  · rcases h10 c j with e | e
    · omega
    · exact no _ _ (e b k)
def meetB (W H : Nat) (f : Nat → Bool) (X Y : Nat) (g : Nat → Bool) (a b : Nat) : Bool := (List.range (Nat.lcm W X)).all fun x => (List.range (Nat.lcm H Y)).all fun y => pc W H f x y == pc X Y g (x + a) (y + b)
theorem meetB_iff {W H : Nat} {f : Nat → Bool} {X Y : Nat} {g : Nat → Bool} (hW0 : 1 ≤ W) (hH0 : 1 ≤ H) (hX0 : 1 ≤ X) (hY0 : 1 ≤ Y) (a b : Nat) : meetB W H f X Y g a b = true ↔ Mt W H f X Y g a b := by
  rw [← meet_iff hW0 hH0 hX0 hY0]
  unfold meetB meet
  simp only [List.all_eq_true, List.mem_range, beq_iff_eq]
def foB (W H : Nat) (f : Nat → Bool) (X Y : Nat) (g : Nat → Bool) (p q : Nat) : Bool := meetB W H f X Y g p q && ((List.range q).all fun y => (List.range X).all fun x => !meetB W H f X Y g x y) && (List.range p).all fun x => !meetB W H f X Y g x q
theorem FO.of {W H : Nat} {f : Nat → Bool} {X Y : Nat} {g : Nat → Bool} {p q : Nat} (hW0 : 1 ≤ W) (hH0 : 1 ≤ H) (hX0 : 1 ≤ X) (hY0 : 1 ≤ Y) (h : foB W H f X Y g p q = true) : FO W H f X Y g p q := by
  unfold foB at h
  simp only [Bool.and_eq_true, List.all_eq_true, List.mem_range, Bool.not_eq_true'] at h
  have no : ∀ a b : Nat, meetB W H f X Y g a b = false → ¬ Mt W H f X Y g a b := fun a b e k => by rw [(meetB_iff hW0 hH0 hX0 hY0 a b).2 k] at e; cases e
  exact ⟨(meetB_iff hW0 hH0 hX0 hY0 p q).1 h.1.1, fun y hy x hm => no _ _ (h.1.2 y hy (x % X) (Nat.mod_lt _ hX0)) ((mt_side hX0 x y).1 hm), fun x hx => no _ _ (h.2 x hx)⟩
def noB (W H : Nat) (f : Nat → Bool) (X Y : Nat) (g : Nat → Bool) : Bool := (List.range Y).all fun y => (List.range X).all fun x => !meetB W H f X Y g x y
theorem no_of {W H : Nat} {f : Nat → Bool} {X Y : Nat} {g : Nat → Bool} (hW0 : 1 ≤ W) (hH0 : 1 ≤ H) (hX0 : 1 ≤ X) (hY0 : 1 ≤ Y) (h : noB W H f X Y g = true) (x y : Nat) : ¬ Mt W H f X Y g x y := by
  unfold noB at h
  simp only [List.all_eq_true, List.mem_range, Bool.not_eq_true'] at h
  intro hm
  have k := h (y % Y) (Nat.mod_lt _ hY0) (x % X) (Nat.mod_lt _ hX0)
  rw [(meetB_iff hW0 hH0 hX0 hY0 _ _).2 ((mt_side hX0 x _).1 ((mt_foot hY0 x y).1 hm))] at k
  cases k
end Go.Proofs.Ytjbofdgdcnfmoaa

/- The chapter's examples hold: alive of layer 6. -/
namespace Go.Proofs.Ytjbofdgdcnfmoaa
open Go.RowKit
set_option maxRecDepth 100000
set_option linter.unusedVariables false
set_option linter.unusedSimpArgs false

def ea (i : Nat) : Bool := i == 0 || i == 3
theorem parse_ea (w : World) : Calls Try.prog 69 #[.string ⟨#[46, 120, 10, 120, 46, 10]⟩] w (PG w 2 2 4 ea) := by
  refine (parse_ok ⟨#[46, 120, 10, 120, 46, 10]⟩ 2 2 w (by decide) (by omega) (by omega) (by omega) (by omega) (by decide) ⟨by decide, ?_⟩ (fun W' => ?_)).mono fun e w' ⟨k, he, hk, hr, hb⟩ => ⟨k, he, hk, hr.congr ?_, hb⟩
  · have key : ∀ i (h : i < 6), okAt ⟨#[46, 120, 10, 120, 46, 10]⟩ 2 i h := by unfold okAt; decide +kernel
    exact key
  · exact (Try.strings_IndexByte _ 10 W').mono fun e w' h => by
      refine ⟨?_, h.2⟩
      rw [h.1]
      rfl
  · decide
theorem cl_ea (w : World) : Calls Try.prog 18 #[.string ⟨#[46, 120, 10, 120, 46, 10]⟩] w (CG w 2 2 4 ea) := cloth6_any _ _ _ _ _ (parse_ea) w
def eb (i : Nat) : Bool := i == 1 || i == 2
theorem parse_eb (w : World) : Calls Try.prog 69 #[.string ⟨#[120, 46, 10, 46, 120, 10]⟩] w (PG w 2 2 4 eb) := by
  refine (parse_ok ⟨#[120, 46, 10, 46, 120, 10]⟩ 2 2 w (by decide) (by omega) (by omega) (by omega) (by omega) (by decide) ⟨by decide, ?_⟩ (fun W' => ?_)).mono fun e w' ⟨k, he, hk, hr, hb⟩ => ⟨k, he, hk, hr.congr ?_, hb⟩
  · have key : ∀ i (h : i < 6), okAt ⟨#[120, 46, 10, 46, 120, 10]⟩ 2 i h := by unfold okAt; decide +kernel
    exact key
  · exact (Try.strings_IndexByte _ 10 W').mono fun e w' h => by
      refine ⟨?_, h.2⟩
      rw [h.1]
      rfl
  · decide
theorem cl_eb (w : World) : Calls Try.prog 18 #[.string ⟨#[120, 46, 10, 46, 120, 10]⟩] w (CG w 2 2 4 eb) := cloth6_any _ _ _ _ _ (parse_eb) w
def ec (i : Nat) : Bool := false
theorem parse_ec (w : World) : Calls Try.prog 69 #[.string ⟨#[46, 46, 46, 10, 46, 46, 46, 10]⟩] w (PG w 3 2 6 ec) := by
  refine (parse_ok ⟨#[46, 46, 46, 10, 46, 46, 46, 10]⟩ 3 2 w (by decide) (by omega) (by omega) (by omega) (by omega) (by decide) ⟨by decide, ?_⟩ (fun W' => ?_)).mono fun e w' ⟨k, he, hk, hr, hb⟩ => ⟨k, he, hk, hr.congr ?_, hb⟩
  · have key : ∀ i (h : i < 8), okAt ⟨#[46, 46, 46, 10, 46, 46, 46, 10]⟩ 3 i h := by unfold okAt; decide +kernel
    exact key
  · exact (Try.strings_IndexByte _ 10 W').mono fun e w' h => by
      refine ⟨?_, h.2⟩
      rw [h.1]
      rfl
  · decide
theorem cl_ec (w : World) : Calls Try.prog 18 #[.string ⟨#[46, 46, 46, 10, 46, 46, 46, 10]⟩] w (CG w 3 2 6 ec) := cloth6_any _ _ _ _ _ (parse_ec) w
theorem off_ab (v : World) (j k : Nat) (hr : Row v j 4 ea) (hs : Row v k 4 eb) : Calls Try.prog 25 #[.agg #[.int .i64 2, .int .i64 2, .slice (some ⟨j, 0, none⟩) 4 4], .agg #[.int .i64 2, .int .i64 2, .slice (some ⟨k, 0, none⟩) 4 4]] v fun e w' => e = .returned (.tuple #[.agg #[.int .i64 1, .int .i64 0], .int .i64 0]) ∧ Below v.heap.size v w' := by
  have hL : IsL 2 2 ea 2 1 1 := IsL.of (by decide +kernel)
  have kL : IsL 2 2 eb 2 1 1 := IsL.of (by decide +kernel)
  have hF : FOut2 2 2 ea 2 2 eb 1 0 0 := .inl ⟨1, 0, FO.of (by omega) (by omega) (by omega) (by omega) (by decide +kernel), rfl, rfl, rfl⟩
  refine (poff_at hL kL j 0 4 k 0 4 v hr.lt hs.lt (fun i hi => by rw [Nat.zero_add]; exact hr.cell hi) (fun i hi => by rw [Nat.zero_add]; exact hs.cell hi) (by omega) (by omega) (by omega) (by omega) (by omega) (by omega) (by omega) (by omega)).mono ?_
  rintro e w' ⟨a, b, z, rfl, h, hb⟩
  obtain ⟨rfl, rfl, rfl⟩ := hF.one h
  exact ⟨rfl, hb⟩
theorem rh_ea : rh 2 1 1 = 2 := by decide +kernel
theorem of_ea (v : World) (k : Nat) (hr : Row v k 4 ea) : Calls Try.prog 19 #[.agg #[.int .i64 2, .int .i64 2, .slice (some ⟨k, 0, none⟩) 4 4]] v fun e w' => e = .returned (.tuple #[.agg #[.int .i64 2, .int .i64 1, .int .i64 1], .int .i64 0]) ∧ Below v.heap.size v w' :=
  pof_at (IsL.of (by decide +kernel) : IsL 2 2 ea 2 1 1) _ 4 v (hr.holds hr.lt) (by omega) (by omega) (by omega) (by omega)
theorem of_ec (v : World) (k : Nat) (hr : Row v k 6 ec) : Calls Try.prog 19 #[.agg #[.int .i64 3, .int .i64 2, .slice (some ⟨k, 0, none⟩) 6 6]] v fun e w' => e = .returned (.tuple #[.agg #[.int .i64 1, .int .i64 0, .int .i64 1], .int .i64 0]) ∧ Below v.heap.size v w' :=
  pof_at (IsL.of (by decide +kernel) : IsL 3 2 ec 1 0 1) _ 6 v (hr.holds hr.lt) (by omega) (by omega) (by omega) (by omega)
theorem rect_ea (v : World) (k : Nat) (hr : Row v k 4 ea) : Calls Try.prog 20 #[.agg #[.int .i64 2, .int .i64 2, .slice (some ⟨k, 0, none⟩) 4 4]] v fun e w' => e = .returned (.tuple #[.int .i64 2, .int .i64 2, .int .i64 0]) ∧ Below v.heap.size v w' := by
  have h := prect_at (IsL.of (by decide +kernel) : IsL 2 2 ea 2 1 1) (some ⟨k, 0, none⟩) 4 v (hr.holds hr.lt) (by omega) (by omega) (by omega) (by omega)
  rw [rh_ea] at h
  exact h
theorem cell_ea (v : World) (k : Nat) (hr : Row v k 4 ea) : Calls Try.prog 34 #[.agg #[.int .i64 2, .int .i64 2, .slice (some ⟨k, 0, none⟩) 4 4]] v fun e w' => ∃ j, e = .returned (.tuple #[.agg #[.int .i64 2, .int .i64 1, .slice (some ⟨j, 0, none⟩) 2 2], .int .i64 0]) ∧ Row w' j 2 (fun i => pc 2 2 ea (i % 2) (i / 2)) ∧ Below v.heap.size v w' :=
  (pcell_at (IsL.of (by decide +kernel) : IsL 2 2 ea 2 1 1) (some ⟨k, 0, none⟩) 4 v (hr.holds hr.lt) (by omega) (by omega) (by omega) (by omega)).mono fun e w' ⟨j, h1, _, h2, h3⟩ => ⟨j, h1, h2, h3⟩
theorem reads_ea (v : World) (j : Nat) (hr : Row v j 2 (fun i => pc 2 2 ea (i % 2) (i / 2))) : Calls Try.prog 24 #[.agg #[.int .i64 2, .int .i64 1, .slice (some ⟨j, 0, none⟩) 2 2], .int .i64 0, .string ⟨#[120, 46, 10]⟩] v fun e w' => e = .returned (.bool true) ∧ Below v.heap.size v w' :=
  reads6_any 2 1 (some ⟨j, 0, none⟩) 2 _ _ true v (hr.holds hr.lt) (by omega) (by omega) (by omega) (by omega) (by decide +kernel)
set_option maxHeartbeats 3200000 in
theorem alive6_any (w : World) : Calls Try.prog 27 #[] w fun e w' => e = .returned (.bool true) ∧ Below w.heap.size w w' := by
  have LB0 := Lib.hid (Below.refl w.heap.size w)
  go_enter Try.func27, Try.ntmps27
  go_wp2_with fail
  refine (cl_ea _).mono ?_
  rintro e w1 ⟨ka, rfl, hk, hrow, hb⟩
  have Cka1 := Lib.hid (hrow)
  clear hk hrow
  have LB1 := Lib.hid (LB0.out.trans (hb.mono LB0.out.size))
  clear hb LB0
  go_wp2_with fail
  refine (of_ea _ ka Cka1.out).mono ?_
  rintro e w2 ⟨rfl, hb⟩
  have hba := (show Below _ _ (w2.alloc (.cells #[.int .i64 2, .int .i64 1, .int .i64 1] 27)) from hb.trans (((Below.refl _ _).alloc (Nat.le_refl _) _).mono hb.size))
  have Ta2 := Lib.hid (Tri.new w2 2 1 1)
  clear hb
  have LB2 := Lib.hid (LB1.out.trans (hba.mono LB1.out.size))
  have Cka2 := Lib.hid (Cka1.out.below hba Cka1.out.lt)
  clear hba LB1 Cka1
  clear Cka2
  go_wp2_with fail
  refine (cl_ea _).mono ?_
  rintro e w3 ⟨kb, rfl, hk, hrow, hb⟩
  have Ckb3 := Lib.hid (hrow)
  clear hk hrow
  have LB3 := Lib.hid (LB2.out.trans (hb.mono LB2.out.size))
  have Ta3 := Lib.hid (Ta2.out.below hb Ta2.out.lt)
  clear hb LB2 Ta2
  go_wp2_with fail
  refine (cell_ea _ kb Ckb3.out).mono ?_
  rintro e w4 ⟨j, rfl, hrow, hb⟩
  have hba := (show Below _ _ (w4.alloc (.cells #[.int .i64 2, .int .i64 1, .slice (some ⟨j, 0, none⟩) 2 2] 24)) from hb.trans (((Below.refl _ _).alloc (Nat.le_refl _) _).mono hb.size))
  have Vb4 := Lib.hid (Box.new w4 2 1 (.slice (some ⟨j, 0, none⟩) 2 2))
  have Rb4 := Lib.hid (hrow.alloc (.cells #[.int .i64 2, .int .i64 1, .slice (some ⟨j, 0, none⟩) 2 2] 24))
  clear hb hrow
  have LB4 := Lib.hid (LB3.out.trans (hba.mono LB3.out.size))
  have Ta4 := Lib.hid (Ta3.out.below hba Ta3.out.lt)
  have Ckb4 := Lib.hid (Ckb3.out.below hba Ckb3.out.lt)
  clear hba LB3 Ta3 Ckb3
  clear Ckb4
  go_wp2_with fail
  refine (cl_ea _).mono ?_
  rintro e w5 ⟨kc, rfl, hk, hrow, hb⟩
  have Ckc5 := Lib.hid (hrow)
  clear hk hrow
  have LB5 := Lib.hid (LB4.out.trans (hb.mono LB4.out.size))
  have Ta5 := Lib.hid (Ta4.out.below hb Ta4.out.lt)
  have Vb5 := Lib.hid (Vb4.out.below hb Vb4.out.lt)
  have Rb5 := Lib.hid (Rb4.out.below hb Rb4.out.lt)
  clear hb LB4 Ta4 Vb4 Rb4
  go_wp2_with fail
  refine (rect_ea _ kc Ckc5.out).mono ?_
  rintro e w6 ⟨rfl, hb⟩
  have LB6 := Lib.hid (LB5.out.trans (hb.mono LB5.out.size))
  have Ta6 := Lib.hid (Ta5.out.below hb Ta5.out.lt)
  have Vb6 := Lib.hid (Vb5.out.below hb Vb5.out.lt)
  have Rb6 := Lib.hid (Rb5.out.below hb Rb5.out.lt)
  have Ckc6 := Lib.hid (Ckc5.out.below hb Ckc5.out.lt)
  clear hb LB5 Ta5 Vb5 Rb5 Ckc5
  clear Ckc6
  go_wp2_with fail
  refine (cl_ea _).mono ?_
  rintro e w7 ⟨kd, rfl, hk, hrow, hb⟩
  have Ckd7 := Lib.hid (hrow)
  clear hk hrow
  have LB7 := Lib.hid (LB6.out.trans (hb.mono LB6.out.size))
  have Ta7 := Lib.hid (Ta6.out.below hb Ta6.out.lt)
  have Vb7 := Lib.hid (Vb6.out.below hb Vb6.out.lt)
  have Rb7 := Lib.hid (Rb6.out.below hb Rb6.out.lt)
  clear hb LB6 Ta6 Vb6 Rb6
  go_wp2_with fail
  refine (cl_eb _).mono ?_
  rintro e w8 ⟨ke, rfl, hk, hrow, hb⟩
  have Cke8 := Lib.hid (hrow)
  clear hk hrow
  have LB8 := Lib.hid (LB7.out.trans (hb.mono LB7.out.size))
  have Ta8 := Lib.hid (Ta7.out.below hb Ta7.out.lt)
  have Vb8 := Lib.hid (Vb7.out.below hb Vb7.out.lt)
  have Rb8 := Lib.hid (Rb7.out.below hb Rb7.out.lt)
  have Ckd8 := Lib.hid (Ckd7.out.below hb Ckd7.out.lt)
  clear hb LB7 Ta7 Vb7 Rb7 Ckd7
  go_wp2_with fail
  refine (off_ab _ kd ke Ckd8.out Cke8.out).mono ?_
  rintro e w9 ⟨rfl, hb⟩
  have hba := (show Below _ _ (w9.alloc (.cells #[.int .i64 1, .int .i64 0] 40)) from hb.trans (((Below.refl _ _).alloc (Nat.le_refl _) _).mono hb.size))
  have Pa9 := Lib.hid (Pt.new w9 1 0)
  clear hb
  have LB9 := Lib.hid (LB8.out.trans (hba.mono LB8.out.size))
  have Ta9 := Lib.hid (Ta8.out.below hba Ta8.out.lt)
  have Vb9 := Lib.hid (Vb8.out.below hba Vb8.out.lt)
  have Rb9 := Lib.hid (Rb8.out.below hba Rb8.out.lt)
  have Ckd9 := Lib.hid (Ckd8.out.below hba Ckd8.out.lt)
  have Cke9 := Lib.hid (Cke8.out.below hba Cke8.out.lt)
  clear hba LB8 Ta8 Vb8 Rb8 Ckd8 Cke8
  clear Ckd9
  clear Cke9
  go_wp2_with fail
  refine (cl_ec _).mono ?_
  rintro e w10 ⟨kf, rfl, hk, hrow, hb⟩
  have Ckf10 := Lib.hid (hrow)
  clear hk hrow
  have LB10 := Lib.hid (LB9.out.trans (hb.mono LB9.out.size))
  have Ta10 := Lib.hid (Ta9.out.below hb Ta9.out.lt)
  have Vb10 := Lib.hid (Vb9.out.below hb Vb9.out.lt)
  have Rb10 := Lib.hid (Rb9.out.below hb Rb9.out.lt)
  have Pa10 := Lib.hid (Pa9.out.below hb Pa9.out.lt)
  clear hb LB9 Ta9 Vb9 Rb9 Pa9
  go_wp2_with fail
  refine (of_ec _ kf Ckf10.out).mono ?_
  rintro e w11 ⟨rfl, hb⟩
  have hba := (show Below _ _ (w11.alloc (.cells #[.int .i64 1, .int .i64 0, .int .i64 1] 27)) from hb.trans (((Below.refl _ _).alloc (Nat.le_refl _) _).mono hb.size))
  have Tb11 := Lib.hid (Tri.new w11 1 0 1)
  clear hb
  have LB11 := Lib.hid (LB10.out.trans (hba.mono LB10.out.size))
  have Ta11 := Lib.hid (Ta10.out.below hba Ta10.out.lt)
  have Vb11 := Lib.hid (Vb10.out.below hba Vb10.out.lt)
  have Rb11 := Lib.hid (Rb10.out.below hba Rb10.out.lt)
  have Pa11 := Lib.hid (Pa10.out.below hba Pa10.out.lt)
  have Ckf11 := Lib.hid (Ckf10.out.below hba Ckf10.out.lt)
  clear hba LB10 Ta10 Vb10 Rb10 Pa10 Ckf10
  clear Ckf11
  obtain ⟨q0, q1, q2, q3, q4, q5⟩ := Ta11.out.all
  obtain ⟨r0, r1, r2, r3, r4, r5, r6⟩ := Vb11.out.all
  go_wp2_with fail
  clear q0 q1 q2 q3 q4 q5 r0 r1 r2 r3 r4 r5 r6
  refine (reads_ea _ j Rb11.out).mono ?_
  rintro e w12 ⟨rfl, hb⟩
  have LB12 := Lib.hid (LB11.out.trans (hb.mono LB11.out.size))
  have Ta12 := Lib.hid (Ta11.out.below hb Ta11.out.lt)
  have Vb12 := Lib.hid (Vb11.out.below hb Vb11.out.lt)
  have Rb12 := Lib.hid (Rb11.out.below hb Rb11.out.lt)
  have Pa12 := Lib.hid (Pa11.out.below hb Pa11.out.lt)
  have Tb12 := Lib.hid (Tb11.out.below hb Tb11.out.lt)
  clear hb LB11 Ta11 Vb11 Rb11 Pa11 Tb11
  clear Rb12
  clear Vb12
  clear Ta12
  obtain ⟨q0, q1, q2, q3⟩ := Pa12.out.all
  obtain ⟨r0, r1, r2, r3, r4, r5⟩ := Tb12.out.all
  go_wp2
  clear q0 q1 q2 q3 r0 r1 r2 r3 r4 r5
  go_ret
  exact ⟨rfl, LB12.out⟩
end Go.Proofs.Ytjbofdgdcnfmoaa
