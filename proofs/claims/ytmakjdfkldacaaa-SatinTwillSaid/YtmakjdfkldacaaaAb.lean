/- Merged: Ab6 Al6. -/
import Derived.Test.YtmakjdfkldacaaaCet
import Derived.Test.YtmakjdfkldacaaaTa

/- What the examples of layer 6 lean on. -/
namespace Go.Proofs.Ytmakjdfkldacaaa
open Go.RowKit
set_option maxRecDepth 100000
set_option linter.unusedVariables false
set_option linter.unusedSimpArgs false

/-- The text of a grid. -/
def tx (W H : Nat) (f : Nat → Bool) : ByteArray := ⟨(rowsT W H f H).toArray⟩
/-- A grid out of a text. -/
def PG (w : World) (W H n : Nat) (f : Nat → Bool) (e : Ending) (w' : World) : Prop := ∃ k, e = .returned (.tuple #[.agg #[.int .i64 W, .int .i64 H, .slice (some ⟨k, 0, none⟩) n n], .int .i64 0]) ∧ w.heap.size ≤ k ∧ Row w' k n f ∧ Below w.heap.size w w'
def CG (w : World) (W H n : Nat) (f : Nat → Bool) (e : Ending) (w' : World) : Prop := ∃ k, e = .returned (.agg #[.int .i64 W, .int .i64 H, .slice (some ⟨k, 0, none⟩) n n]) ∧ w.heap.size ≤ k ∧ Row w' k n f ∧ Below w.heap.size w w'
/-- reads: has the grid, that came with no error, the text? -/
theorem reads6_any (W H : Nat) (D : Option Addr) (c : Nat) (f : Nat → Bool) (s : ByteArray) (t : Bool) (w : World) (hr : Holds w w.heap.size D (W * H) f) (hW0 : 1 ≤ W) (hW : W ≤ 64) (hH0 : 1 ≤ H) (hH : H ≤ 64) (hs : (s.toList == (tx W H f).toList) = t) :
    Calls Try.prog 18 #[.agg #[.int .i64 (W : Nat), .int .i64 (H : Nat), .slice D (W * H) c], .int .i64 0, .string s] w fun e w' => e = .returned (.bool t) ∧ Below w.heap.size w w' := by
  have HT := Lib.hid (fun v (h : Below w.heap.size w v) => (show Calls Try.prog 59 #[.agg #[.int .i64 (W : Nat), .int .i64 (H : Nat), .slice D (W * H) c]] v fun e w' => e = .returned (.tuple #[.string (tx W H f), .int .i64 0]) ∧ Below v.heap.size v w' from text_ok W H D c f v ((hr.below h).more h.size) hW0 hW hH0 hH))
  have LB0 := Lib.hid (show Below w.heap.size w (w.alloc (.cells #[.int .i64 (W : Nat), .int .i64 (H : Nat), .slice D (W * H) c] 24)) from (Below.refl _ _).alloc (Nat.le_refl _) _)
  obtain ⟨q, hq⟩ : ∃ q, tx W H f = q := ⟨_, rfl⟩
  rw [hq] at hs HT
  clear hr hq
  go_enter Try.func18, Try.ntmps18
  go_wp2_with fail
  refine (HT.out _ LB0.out).mono ?_
  rintro e w1 ⟨rfl, hb⟩
  have LB1 := Lib.hid (LB0.out.trans (hb.mono LB0.out.size))
  clear hb
  have HS := Lib.hid hs
  clear hs
  go_wp2
  go_ret
  refine ⟨?_, LB1.out⟩
  show Ending.returned (.bool (s.toList == q.toList)) = _
  rw [HS.out]
def repB (W H : Nat) (f : Nat → Bool) (a b : Nat) : Bool := (List.range W).all fun x => (List.range H).all fun y => pc W H f x y == pc W H f (x + a) (y + b)
theorem repB_iff (W H : Nat) (f : Nat → Bool) (a b : Nat) : repB W H f a b = true ↔ rep W H f a b := by
  unfold repB rep
  simp only [List.all_eq_true, List.mem_range, beq_iff_eq]
def islB (W H : Nat) (f : Nat → Bool) (A B C : Nat) : Bool :=
  decide (1 ≤ A) && decide (A ≤ W) && repB W H f A 0 && ((List.range A).all fun a => decide (a = 0) || !repB W H f a 0) && decide (1 ≤ C) && decide (C ≤ H) && decide (B < A) && repB W H f B C &&
    ((List.range B).all fun b => !repB W H f b C) && (List.range C).all fun c => decide (c = 0) || (List.range A).all fun b => !repB W H f b c
theorem IsL.of {W H : Nat} {f : Nat → Bool} {A B C : Nat} (h : islB W H f A B C = true) : IsL W H f A B C := by
  unfold islB at h
  simp only [Bool.and_eq_true, Bool.or_eq_true, decide_eq_true_eq, List.all_eq_true, List.mem_range, Bool.not_eq_true'] at h
  obtain ⟨⟨⟨⟨⟨⟨⟨⟨⟨h1, h2⟩, h3⟩, h4⟩, h5⟩, h6⟩, h7⟩, h8⟩, h9⟩, h10⟩ := h
  have no : ∀ a b, repB W H f a b = false → ¬ rep W H f a b := fun a b e k => by rw [(repB_iff W H f a b).2 k] at e; cases e
  refine ⟨h1, h2, (repB_iff _ _ _ _ _).1 h3, fun a i j => ?_, h5, h6, h7, (repB_iff _ _ _ _ _).1 h8, fun b j => no _ _ (h9 b j), fun c i j b k => ?_⟩
  · rcases h4 a j with e | e
    · omega
    · exact no _ _ e
  · rcases h10 c j with e | e
    · omega
    · exact no _ _ (e b k)
def meetB (W H : Nat) (f : Nat → Bool) (X Y : Nat) (g : Nat → Bool) (a b : Nat) : Bool := (List.range (Nat.lcm W X)).all fun x => (List.range (Nat.lcm H Y)).all fun y => pc W H f x y == pc X Y g (x + a) (y + b)
theorem meetB_iff {W H : Nat} {f : Nat → Bool} {X Y : Nat} {g : Nat → Bool} (hW0 : 1 ≤ W) (hH0 : 1 ≤ H) (hX0 : 1 ≤ X) (hY0 : 1 ≤ Y) (a b : Nat) : meetB W H f X Y g a b = true ↔ Mt W H f X Y g a b := by
  rw [← meet_iff hW0 hH0 hX0 hY0]
  unfold meetB meet
  simp only [List.all_eq_true, List.mem_range, beq_iff_eq]
def foB (W H : Nat) (f : Nat → Bool) (X Y : Nat) (g : Nat → Bool) (p q : Nat) : Bool := meetB W H f X Y g p q && ((List.range q).all fun y => (List.range X).all fun x => !meetB W H f X Y g x y) && (List.range p).all fun x => !meetB W H f X Y g x q
theorem FO.of {W H : Nat} {f : Nat → Bool} {X Y : Nat} {g : Nat → Bool} {p q : Nat} (hW0 : 1 ≤ W) (hH0 : 1 ≤ H) (hX0 : 1 ≤ X) (hY0 : 1 ≤ Y) (h : foB W H f X Y g p q = true) : FO W H f X Y g p q := by
  unfold foB at h
  simp only [Bool.and_eq_true, List.all_eq_true, List.mem_range, Bool.not_eq_true'] at h
  have no : ∀ a b : Nat, meetB W H f X Y g a b = false → ¬ Mt W H f X Y g a b := fun a b e k => by rw [(meetB_iff hW0 hH0 hX0 hY0 a b).2 k] at e; cases e
  exact ⟨(meetB_iff hW0 hH0 hX0 hY0 p q).1 h.1.1, fun y hy x hm => no _ _ (h.1.2 y hy (x % X) (Nat.mod_lt _ hX0)) ((mt_side hX0 x y).1 hm), fun x hx => no _ _ (h.2 x hx)⟩
def noB (W H : Nat) (f : Nat → Bool) (X Y : Nat) (g : Nat → Bool) : Bool := (List.range Y).all fun y => (List.range X).all fun x => !meetB W H f X Y g x y
theorem no_of {W H : Nat} {f : Nat → Bool} {X Y : Nat} {g : Nat → Bool} (hW0 : 1 ≤ W) (hH0 : 1 ≤ H) (hX0 : 1 ≤ X) (hY0 : 1 ≤ Y) (h : noB W H f X Y g = true) (x y : Nat) : ¬ Mt W H f X Y g x y := by
  unfold noB at h
  simp only [List.all_eq_true, List.mem_range, Bool.not_eq_true'] at h
  intro hm
  have k := h (y % Y) (Nat.mod_lt _ hY0) (x % X) (Nat.mod_lt _ hX0)
  rw [(meetB_iff hW0 hH0 hX0 hY0 _ _).2 ((mt_side hX0 x _).1 ((mt_foot hY0 x y).1 hm))] at k
  cases k
end Go.Proofs.Ytmakjdfkldacaaa

/- The chapter's examples hold: alive of layer 6. -/
namespace Go.Proofs.Ytmakjdfkldacaaa
open Go.RowKit
set_option maxRecDepth 100000
set_option linter.unusedVariables false
set_option linter.unusedSimpArgs false

def ea (i : Nat) : Bool := i == 0 || i == 3
theorem parse_ea (w : World) : Calls Try.prog 17 #[.string ⟨#[46, 120, 10, 120, 46, 10]⟩] w (PG w 2 2 4 ea) := by
  refine (parse_ok ⟨#[46, 120, 10, 120, 46, 10]⟩ 2 2 w (by decide) (by omega) (by omega) (by omega) (by omega) (by decide) ⟨by decide, ?_⟩ (fun W' => ?_)).mono fun e w' ⟨k, he, hk, hr, hb⟩ => ⟨k, he, hk, hr.congr ?_, hb⟩
  · have key : ∀ i (h : i < 6), okAt ⟨#[46, 120, 10, 120, 46, 10]⟩ 2 i h := by unfold okAt; decide +kernel
    exact key
  · exact (Try.strings_IndexByte _ 10 W').mono fun e w' h => by
      refine ⟨?_, h.2⟩
      rw [h.1]
      rfl
  · decide
def eb (i : Nat) : Bool := i == 1 || i == 2
theorem parse_eb (w : World) : Calls Try.prog 17 #[.string ⟨#[120, 46, 10, 46, 120, 10]⟩] w (PG w 2 2 4 eb) := by
  refine (parse_ok ⟨#[120, 46, 10, 46, 120, 10]⟩ 2 2 w (by decide) (by omega) (by omega) (by omega) (by omega) (by decide) ⟨by decide, ?_⟩ (fun W' => ?_)).mono fun e w' ⟨k, he, hk, hr, hb⟩ => ⟨k, he, hk, hr.congr ?_, hb⟩
  · have key : ∀ i (h : i < 6), okAt ⟨#[120, 46, 10, 46, 120, 10]⟩ 2 i h := by unfold okAt; decide +kernel
    exact key
  · exact (Try.strings_IndexByte _ 10 W').mono fun e w' h => by
      refine ⟨?_, h.2⟩
      rw [h.1]
      rfl
  · decide
def ec (i : Nat) : Bool := false
theorem parse_ec (w : World) : Calls Try.prog 17 #[.string ⟨#[46, 46, 46, 10, 46, 46, 46, 10]⟩] w (PG w 3 2 6 ec) := by
  refine (parse_ok ⟨#[46, 46, 46, 10, 46, 46, 46, 10]⟩ 3 2 w (by decide) (by omega) (by omega) (by omega) (by omega) (by decide) ⟨by decide, ?_⟩ (fun W' => ?_)).mono fun e w' ⟨k, he, hk, hr, hb⟩ => ⟨k, he, hk, hr.congr ?_, hb⟩
  · have key : ∀ i (h : i < 8), okAt ⟨#[46, 46, 46, 10, 46, 46, 46, 10]⟩ 3 i h := by unfold okAt; decide +kernel
    exact key
  · exact (Try.strings_IndexByte _ 10 W').mono fun e w' h => by
      refine ⟨?_, h.2⟩
      rw [h.1]
      rfl
  · decide
theorem off_ab (v : World) (j k : Nat) (hr : Row v j 4 ea) (hs : Row v k 4 eb) : Calls Try.prog 35 #[.agg #[.int .i64 2, .int .i64 2, .slice (some ⟨j, 0, none⟩) 4 4], .agg #[.int .i64 2, .int .i64 2, .slice (some ⟨k, 0, none⟩) 4 4]] v fun e w' => e = .returned (.tuple #[.agg #[.int .i64 1, .int .i64 0], .int .i64 0]) ∧ Below v.heap.size v w' := by
  have hL : IsL 2 2 ea 2 1 1 := IsL.of (by decide +kernel)
  have kL : IsL 2 2 eb 2 1 1 := IsL.of (by decide +kernel)
  have hF : FOut2 2 2 ea 2 2 eb 1 0 0 := .inl ⟨1, 0, FO.of (by omega) (by omega) (by omega) (by omega) (by decide +kernel), rfl, rfl, rfl⟩
  refine (poff_at hL kL j 0 4 k 0 4 v hr.lt hs.lt (fun i hi => by rw [Nat.zero_add]; exact hr.cell hi) (fun i hi => by rw [Nat.zero_add]; exact hs.cell hi) (by omega) (by omega) (by omega) (by omega) (by omega) (by omega) (by omega) (by omega)).mono ?_
  rintro e w' ⟨a, b, z, rfl, h, hb⟩
  obtain ⟨rfl, rfl, rfl⟩ := hF.one h
  exact ⟨rfl, hb⟩
theorem rh_ea : rh 2 1 1 = 2 := by decide +kernel
theorem of_ea (v : World) (k : Nat) (hr : Row v k 4 ea) : Calls Try.prog 40 #[.agg #[.int .i64 2, .int .i64 2, .slice (some ⟨k, 0, none⟩) 4 4]] v fun e w' => e = .returned (.tuple #[.agg #[.int .i64 2, .int .i64 1, .int .i64 1], .int .i64 0]) ∧ Below v.heap.size v w' :=
  pof_at (IsL.of (by decide +kernel) : IsL 2 2 ea 2 1 1) _ 4 v (hr.holds hr.lt) (by omega) (by omega) (by omega) (by omega)
theorem of_ec (v : World) (k : Nat) (hr : Row v k 6 ec) : Calls Try.prog 40 #[.agg #[.int .i64 3, .int .i64 2, .slice (some ⟨k, 0, none⟩) 6 6]] v fun e w' => e = .returned (.tuple #[.agg #[.int .i64 1, .int .i64 0, .int .i64 1], .int .i64 0]) ∧ Below v.heap.size v w' :=
  pof_at (IsL.of (by decide +kernel) : IsL 3 2 ec 1 0 1) _ 6 v (hr.holds hr.lt) (by omega) (by omega) (by omega) (by omega)
theorem reads_ea (v : World) (j : Nat) (hr : Row v j 2 (fun i => pc 2 2 ea (i % 2) (i / 2))) : Calls Try.prog 18 #[.agg #[.int .i64 2, .int .i64 1, .slice (some ⟨j, 0, none⟩) 2 2], .int .i64 0, .string ⟨#[120, 46, 10]⟩] v fun e w' => e = .returned (.bool true) ∧ Below v.heap.size v w' :=
  reads6_any 2 1 (some ⟨j, 0, none⟩) 2 _ _ true v (hr.holds hr.lt) (by omega) (by omega) (by omega) (by omega) (by decide +kernel)
end Go.Proofs.Ytmakjdfkldacaaa
