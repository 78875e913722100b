/- The program's order of forms: cmp.Or, compare; Builder.WriteString. -/
import Derived.Test.YtjbofdgdcnfmoaaFmo
import Derived.Test.YtjbofdgdcnfmoaaShz
import Derived.Test.YtjbofdgdcnfmoaaTa
import Derived.Test.YtjbofdgdcnfmoaaIl
import Derived.Test.YtjbofdgdcnfmoaaAlj
import Derived.Deep.RegionHeld3
namespace Go.Proofs.Ytjbofdgdcnfmoaa
open Go.RowKit
set_option maxRecDepth 100000
set_option linter.unusedVariables false
set_option linter.unusedSimpArgs false

def mkc (b : Bool) : UInt8 := if b then 49 else 48
/-- The cells of a form, as its string. -/
def fby (F : GD) : List UInt8 := (List.range (F.W * F.H)).map fun i => mkc (F.f i)
theorem fby_length (F : GD) : (fby F).length = F.W * F.H := by unfold fby; rw [List.length_map, List.length_range]
def fv (F : GD) : Value := .agg #[.int .i64 (F.W : Nat), .int .i64 (F.H : Nat), .string ⟨(fby F).toArray⟩]
theorem cmpb_iff (n : Nat) : ∀ f g : Nat → Bool, Lib.compareBytes ((List.range n).map fun i => mkc (f i)) ((List.range n).map fun i => mkc (g i)) < 0 ↔ ∃ i, i < n ∧ f i = false ∧ g i = true ∧ ∀ j, j < i → f j = g j := by
  induction n with
  | zero => intro f g; simp [Lib.compareBytes]
  | succ n ih =>
    intro f g
    rw [List.range_succ_eq_map, List.map_cons, List.map_cons, List.map_map, List.map_map]
    have e := ih (fun i => f (i + 1)) (fun i => g (i + 1))
    have e1 : ((fun i => mkc (f i)) ∘ Nat.succ) = fun i => mkc (f (i + 1)) := rfl
    have e2 : ((fun i => mkc (g i)) ∘ Nat.succ) = fun i => mkc (g (i + 1)) := rfl
    rw [e1, e2]
    unfold Lib.compareBytes
    cases hf : f 0 <;> cases hg : g 0
    · rw [if_neg (by decide), if_neg (by decide), e]
      constructor
      · rintro ⟨i, h1, h2, h3, h4⟩
        refine ⟨i + 1, by omega, h2, h3, fun j hj => ?_⟩
        rcases j with _ | j
        · rw [hf, hg]
        · exact h4 j (by omega)
      · rintro ⟨i, h1, h2, h3, h4⟩
        rcases i with _ | i
        · rw [hg] at h3; cases h3
        · exact ⟨i, by omega, h2, h3, fun j hj => h4 (j + 1) (by omega)⟩
    · rw [if_pos (by decide)]
      exact ⟨fun _ => ⟨0, by omega, hf, hg, fun j hj => absurd hj (by omega)⟩, fun _ => by decide⟩
    · rw [if_neg (by decide), if_pos (by decide)]
      constructor
      · intro h; exact absurd h (by decide)
      · rintro ⟨i, h1, h2, h3, h4⟩
        rcases i with _ | i
        · rw [hf] at h2; cases h2
        · have := h4 0 (by omega); rw [hf, hg] at this; cases this
    · rw [if_neg (by decide), if_neg (by decide), e]
      constructor
      · rintro ⟨i, h1, h2, h3, h4⟩
        refine ⟨i + 1, by omega, h2, h3, fun j hj => ?_⟩
        rcases j with _ | j
        · rw [hf, hg]
        · exact h4 j (by omega)
      · rintro ⟨i, h1, h2, h3, h4⟩
        rcases i with _ | i
        · rw [hf] at h2; cases h2
        · exact ⟨i, by omega, h2, h3, fun j hj => h4 (j + 1) (by omega)⟩
def or3 (a b c : Int) : Int := if a ≠ 0 then a else if b ≠ 0 then b else c
def fcmp (F G : GD) : Int := or3 (Lib.compareInt (F.W : Nat) (G.W : Nat)) (Lib.compareInt (F.H : Nat) (G.H : Nat)) (Lib.compareBytes (fby F) (fby G))
theorem cmpi (a b : Nat) : (a < b ∧ Lib.compareInt (a : Int) (b : Int) = -1) ∨ (a = b ∧ Lib.compareInt (a : Int) (b : Int) = 0) ∨ (b < a ∧ Lib.compareInt (a : Int) (b : Int) = 1) := by
  unfold Lib.compareInt
  rcases Nat.lt_trichotomy a b with h | h | h
  · exact .inl ⟨h, by rw [if_pos (by omega)]⟩
  · exact .inr (.inl ⟨h, by rw [if_neg (by omega), if_neg (by omega)]⟩)
  · exact .inr (.inr ⟨h, by rw [if_neg (by omega), if_pos (by omega)]⟩)
theorem fcmp_iff (F G : GD) : fcmp F G < 0 ↔ F.lt G := by
  obtain ⟨W, H, f⟩ := F
  obtain ⟨X, Y, g⟩ := G
  unfold fcmp or3 GD.lt
  dsimp only
  rcases cmpi W X with ⟨h, e⟩ | ⟨h, e⟩ | ⟨h, e⟩ <;> rw [e]
  · rw [if_pos (by decide)]
    exact ⟨fun _ => .inl h, fun _ => by decide⟩
  · subst h
    rw [if_neg (by decide)]
    rcases cmpi H Y with ⟨h, e⟩ | ⟨h, e⟩ | ⟨h, e⟩ <;> rw [e]
    · rw [if_pos (by decide)]
      exact ⟨fun _ => .inr ⟨rfl, .inl h⟩, fun _ => by decide⟩
    · subst h
      rw [if_neg (by decide)]
      have k := cmpb_iff (W * H) f g
      exact k.trans ⟨fun h => .inr ⟨rfl, .inr ⟨rfl, h⟩⟩, fun h => by
        rcases h with h | ⟨_, h | ⟨_, h⟩⟩
        · omega
        · omega
        · exact h⟩
    · rw [if_pos (by decide)]
      exact ⟨fun h => absurd h (by decide), fun h => by rcases h with h | ⟨_, h | ⟨h, _⟩⟩ <;> omega⟩
  · rw [if_pos (by decide)]
    exact ⟨fun h => absurd h (by decide), fun h => by rcases h with h | ⟨h, _⟩ <;> omega⟩
set_option maxHeartbeats 800000 in
theorem or_any (a b c : Int) (k : Nat) (w : World) (c0 : w.cell? ⟨k, 0, none⟩ = some (.int .i64 a)) (c1 : w.cell? ⟨k, 1, none⟩ = some (.int .i64 b)) (c2 : w.cell? ⟨k, 2, none⟩ = some (.int .i64 c)) :
    Calls Try.prog 123 #[.slice (some ⟨k, 0, none⟩) 3 3] w fun e w' => e = .returned (.int .i64 (or3 a b c)) ∧ w' = w := by
  unfold or3
  by_cases h1 : a = 0
  · by_cases h2 : b = 0
    · by_cases h3 : c = 0
      · subst h1 h2 h3
        refine (show Calls Try.prog 123 #[.slice (some ⟨k, 0, none⟩) 3 3] w fun e w' => e = .returned (.int .i64 0) ∧ w' = w from ?_).mono fun e w' h => ⟨by rw [if_neg (by simp), if_neg (by simp)]; exact h.1, h.2⟩
        go_enter Try.func123, Try.ntmps123
        go_wp2
        refine wp_loop_rounds 4 ?_
        rw [rounds_succ]
        go_wp2
        rw [rounds_succ]
        go_wp2
        rw [rounds_succ]
        go_wp2
        rw [rounds_succ]
        go_wp2
        go_ret
        exact ⟨rfl, rfl⟩
      · subst h1 h2
        refine (show Calls Try.prog 123 #[.slice (some ⟨k, 0, none⟩) 3 3] w fun e w' => e = .returned (.int .i64 c) ∧ w' = w from ?_).mono fun e w' h => ⟨by rw [if_neg (by simp), if_neg (by simp)]; exact h.1, h.2⟩
        have n1 : (c != 0) = true := by simpa using h3
        go_enter Try.func123, Try.ntmps123
        go_wp2
        refine wp_loop_rounds 4 ?_
        rw [rounds_succ]
        go_wp2
        rw [rounds_succ]
        go_wp2
        rw [rounds_succ]
        go_wp2
        go_ret
        exact ⟨rfl, rfl⟩
    · subst h1
      refine (show Calls Try.prog 123 #[.slice (some ⟨k, 0, none⟩) 3 3] w fun e w' => e = .returned (.int .i64 b) ∧ w' = w from ?_).mono fun e w' h => ⟨by rw [if_neg (by simp), if_pos h2]; exact h.1, h.2⟩
      have n1 : (b != 0) = true := by simpa using h2
      go_enter Try.func123, Try.ntmps123
      go_wp2
      refine wp_loop_rounds 4 ?_
      rw [rounds_succ]
      go_wp2
      rw [rounds_succ]
      go_wp2
      go_ret
      exact ⟨rfl, rfl⟩
  · refine (show Calls Try.prog 123 #[.slice (some ⟨k, 0, none⟩) 3 3] w fun e w' => e = .returned (.int .i64 a) ∧ w' = w from ?_).mono fun e w' h => ⟨by rw [if_pos h1]; exact h.1, h.2⟩
    have n1 : (a != 0) = true := by simpa using h1
    go_enter Try.func123, Try.ntmps123
    go_wp2
    refine wp_loop_rounds 4 ?_
    rw [rounds_succ]
    go_wp2
    go_ret
    exact ⟨rfl, rfl⟩
/-- A form lies in a variable. -/
def Fb (w : World) (g : Nat) (a b : Int) (s : Value) : Prop := w.heap[g]? = some (.cells #[.int .i64 a, .int .i64 b, s] 116 (0, 0))
theorem Fb.lt {w : World} {g : Nat} {a b : Int} {s : Value} (h : Fb w g a b s) : g < w.heap.size := (Array.getElem?_eq_some_iff.1 h).1
theorem Fb.below {w w' : World} {g B : Nat} {a b : Int} {s : Value} (h : Fb w g a b s) (hb : Below B w w') (hg : g < B) : Fb w' g a b s := (hb.block g hg).trans h
theorem Fb.new (w : World) (a b : Int) (s : Value) : Fb (w.alloc (.cells #[.int .i64 a, .int .i64 b, s] 116)) w.heap.size a b s := World.alloc_heap_new w _
theorem Fb.alloc {w : World} {g : Nat} {a b : Int} {s : Value} (h : Fb w g a b s) (o : Obj) : Fb (w.alloc o) g a b s := (Below.heap_alloc w o g h.lt).trans h
theorem Fb.far {w : World} {g : Nat} {a b : Int} {s : Value} (h : Fb w g a b s) {p : Addr} (hp : g ≠ p.block) (u : Value) : Fb (w.setCell p u) g a b s := (Below.heap_setCell w p u g hp).trans h
theorem Fb.put {u : World} {g : Nat} {a b : Int} {s : Value} (h : Fb u g a b s) (x y : Int) (z : Value) : Fb (((u.setCell ⟨g, 0, none⟩ (.int .i64 x)).setCell ⟨g, 1, none⟩ (.int .i64 y)).setCell ⟨g, 2, none⟩ z) g x y z := by
  have st : ∀ (u : World) (cs : Array Value) (i : Nat) (v : Value), u.heap[g]? = some (.cells cs 116 (0, 0)) → (u.setCell ⟨g, i, none⟩ v).heap[g]? = some (.cells (cs.setIfInBounds i v) 116 (0, 0)) := by
    intro u cs i v h
    obtain ⟨hlt, hk⟩ := Array.getElem?_eq_some_iff.1 h
    show (u.heap.modify g _)[g]? = _
    rw [Array.getElem?_eq_getElem (by rw [Array.size_modify]; exact hlt), Array.getElem_modify_self, hk]
    rfl
  exact st _ _ 2 z (st _ _ 1 _ (st _ _ 0 _ h))
theorem Fb.all {w : World} {g : Nat} {a b : Int} {s : Value} (h : Fb w g a b s) : w.cell? ⟨g, 0, none⟩ = some (.int .i64 a) ∧ w.cell? ⟨g, 1, none⟩ = some (.int .i64 b) ∧ w.cell? ⟨g, 2, none⟩ = some s ∧ w.frozen? ⟨g, 0, none⟩ = false ∧ w.frozen? ⟨g, 1, none⟩ = false ∧ w.frozen? ⟨g, 2, none⟩ = false := by
  unfold Fb at h
  simp [World.cell?, World.frozen?, h]
theorem three_cells (w : World) (a b c : Int) : (w.alloc (.cells #[.int .i64 a, .int .i64 b, .int .i64 c] 3)).cell? ⟨w.heap.size, 0, none⟩ = some (.int .i64 a) ∧ (w.alloc (.cells #[.int .i64 a, .int .i64 b, .int .i64 c] 3)).cell? ⟨w.heap.size, 1, none⟩ = some (.int .i64 b) ∧ (w.alloc (.cells #[.int .i64 a, .int .i64 b, .int .i64 c] 3)).cell? ⟨w.heap.size, 2, none⟩ = some (.int .i64 c) := by
  have h := World.alloc_heap_new w (.cells #[.int .i64 a, .int .i64 b, .int .i64 c] 3)
  exact ⟨by rw [Lib.cell_of_heap h]; rfl, by rw [Lib.cell_of_heap h]; rfl, by rw [Lib.cell_of_heap h]; rfl⟩
theorem three_cellsd (w : World) (a b c : Int) : (w.alloc (.cells #[.int .i64 a, .int .i64 b, .int .i64 c] 3)).drew.cell? ⟨w.heap.size, 0, none⟩ = some (.int .i64 a) ∧ (w.alloc (.cells #[.int .i64 a, .int .i64 b, .int .i64 c] 3)).drew.cell? ⟨w.heap.size, 1, none⟩ = some (.int .i64 b) ∧ (w.alloc (.cells #[.int .i64 a, .int .i64 b, .int .i64 c] 3)).drew.cell? ⟨w.heap.size, 2, none⟩ = some (.int .i64 c) := three_cells w a b c
set_option maxHeartbeats 1600000 in
theorem compare_core (W H X Y : Int) (s t : ByteArray) (c1 c2 c3 : Int) (w : World) (h1 : Lib.compareInt W X = c1) (h2 : Lib.compareInt H Y = c2) (h3 : Lib.compareBytes s.data.toList t.data.toList = c3) :
    Calls Try.prog 97 #[.agg #[.int .i64 W, .int .i64 H, .string s], .agg #[.int .i64 X, .int .i64 Y, .string t]] w fun e w' => e = .returned (.int .i64 (or3 c1 c2 c3)) ∧ Below w.heap.size w w' := by
  have H1 := Lib.hid (fun v => (show Calls Try.prog 124 #[.int .i64 W, .int .i64 X] v fun e w' => e = .returned (.int .i64 c1) ∧ w' = v by have h := TryZ.cmp_Compare_int W X v; rwa [h1] at h))
  have H2 := Lib.hid (fun v => (show Calls Try.prog 124 #[.int .i64 H, .int .i64 Y] v fun e w' => e = .returned (.int .i64 c2) ∧ w' = v by have h := TryZ.cmp_Compare_int H Y v; rwa [h2] at h))
  have H3 := Lib.hid (fun v => (show Calls Try.prog 125 #[.string s, .string t] v fun e w' => e = .returned (.int .i64 c3) ∧ w' = v by have h := TryZ.strings_Compare s t v; rwa [h3] at h))
  have A0 := Lib.hid (Fb.new w W H (.string s))
  have B0 := Lib.hid (show Fb ((w.alloc (.cells #[.int .i64 W, .int .i64 H, .string s] 116)).alloc (.cells #[.int .i64 X, .int .i64 Y, .string t] 116)) (w.heap.size + 1) X Y (.string t) from by
    have h := Fb.new (w.alloc (.cells #[.int .i64 W, .int .i64 H, .string s] 116)) X Y (.string t); rwa [World.size_alloc] at h)
  have A1 := Lib.hid (A0.out.alloc (.cells #[.int .i64 X, .int .i64 Y, .string t] 116))
  have L0 := Lib.hid (show Below w.heap.size w ((w.alloc (.cells #[.int .i64 W, .int .i64 H, .string s] 116)).alloc (.cells #[.int .i64 X, .int .i64 Y, .string t] 116)) from blA (blA (Below.refl _ _) (Nat.le_refl _) _) (Nat.le_refl _) _)
  clear h1 h2 h3 A0
  go_enter Try.func97, Try.ntmps97
  go_upto_region 1 with fail
  generalize ((w.alloc (.cells #[.int .i64 W, .int .i64 H, .string s] 116)).alloc (.cells #[.int .i64 X, .int .i64 Y, .string t] 116)) = v0 at *
  obtain ⟨q0, q1, q2, q3, q4, q5⟩ := A1.out.all
  obtain ⟨r0, r1, r2, r3, r4, r5⟩ := B0.out.all
  have HS := Lib.hid (fun u (h : Below v0.heap.size v0 u) => (show u.cell? ⟨w.heap.size, 0, none⟩ = some (.int .i64 W) ∧ u.cell? ⟨w.heap.size, 1, none⟩ = some (.int .i64 H) ∧ u.cell? ⟨w.heap.size, 2, none⟩ = some (.string s) ∧ u.cell? ⟨w.heap.size + 1, 0, none⟩ = some (.int .i64 X) ∧ u.cell? ⟨w.heap.size + 1, 1, none⟩ = some (.int .i64 Y) ∧ u.cell? ⟨w.heap.size + 1, 2, none⟩ = some (.string t) from by
    obtain ⟨a0, a1, a2, _⟩ := (A1.out.below h A1.out.lt).all
    obtain ⟨b0, b1, b2, _⟩ := (B0.out.below h B0.out.lt).all
    exact ⟨a0, a1, a2, b0, b1, b2⟩))
  go_region_held3 (fun u => u.cell? ⟨w.heap.size, 0, none⟩ = some (.int .i64 W) ∧ u.cell? ⟨w.heap.size, 1, none⟩ = some (.int .i64 H) ∧ u.cell? ⟨w.heap.size, 2, none⟩ = some (.string s) ∧ u.cell? ⟨w.heap.size + 1, 0, none⟩ = some (.int .i64 X) ∧ u.cell? ⟨w.heap.size + 1, 1, none⟩ = some (.int .i64 Y) ∧ u.cell? ⟨w.heap.size + 1, 2, none⟩ = some (.string t))
    (exact HS.out _ (by (repeat' (first | assumption | exact Below.refl _ _ | refine Below.drew ?_ | refine blA ?_ (Nat.le_refl _) _))))
    (first
      | (go_at_call 124; with_reducible refine Calls.mono (H1.out _) ?_; rintro e u1 ⟨rfl, rfl⟩)
      | (go_at_call 124; with_reducible refine Calls.mono (H2.out _) ?_; rintro e u2 ⟨rfl, rfl⟩)
      | (go_at_call 125; with_reducible refine Calls.mono (H3.out _) ?_; rintro e u3 ⟨rfl, rfl⟩)
      | (go_at_call 123
         have hc := three_cellsd v0 c1 c2 c3
         with_reducible refine Calls.mono (or_any c1 c2 c3 _ _ hc.1 hc.2.1 hc.2.2) ?_
         rintro e u4 ⟨rfl, rfl⟩))
  all_goals
    go_wp2
    go_ret
    exact ⟨rfl, L0.out.trans (((blA (Below.refl v0.heap.size v0) (Nat.le_refl _) _).drew).mono L0.out.size)⟩
theorem compare_any (F G : GD) (w : World) : Calls Try.prog 97 #[fv F, fv G] w fun e w' => e = .returned (.int .i64 (fcmp F G)) ∧ Below w.heap.size w w' :=
  compare_core _ _ _ _ _ _ _ _ _ w rfl rfl rfl
set_option maxHeartbeats 800000 in
theorem wstr_any (B b : Nat) (bs : List Value) (s : ByteArray) (w : World) (h : Lib.IsBuilderF 124 5 B b bs w) (hlen : bs.length + s.size ≤ 140737488355328) (hBw : B ≤ w.heap.size) :
    Calls Try.prog 122 #[.pointer (some ⟨b, 0, none⟩), .string s] w fun e w' => e = .returned (.tuple #[.int .i64 s.size, .nilIface]) ∧ Lib.BuilderAtF 124 5 B b (.pointer (some ⟨b, 0, none⟩)) (bs ++ Lib.strCells s) w' ∧ Below B w w' := by
  obtain ⟨i0, hi, hz0, hz1, hz2⟩ := info_parts Try.infoB
  go_enter Try.func122, Try.ntmps122
  go_wp2_with fail
  refine (copy_any B b bs _ h).mono ?_
  rintro e w1 ⟨rfl, h1, hb1⟩
  obtain ⟨hB, v, hbk, hown, hne⟩ := h1
  have c0 : w1.cell? ⟨b, 0, none⟩ = some (.pointer (some ⟨b, 0, none⟩)) := by rw [Lib.cell_of_heap hbk]; rfl
  have c1 : w1.cell? ⟨b, 1, none⟩ = some v := by rw [Lib.cell_of_heap hbk]; rfl
  go_wp2_with (at_builtin; refine Lib.wpList_append_own_stringF _ rfl _ _ 122 9 rfl B 5 i0 Try.underlying122 Try.underlying9 hi hz0 hz1 hz2 _ _ _ rfl hown s rfl ?c3 ?c4 ?c5 ?_)
  case c3 => unfold maxLen; omega
  case c4 => omega
  case c5 => have := hb1.size; omega
  intro v' w2 hown' hgrow _
  have hlt : b < w1.heap.size := by
    rcases Nat.lt_or_ge b w1.heap.size with h' | h'
    · exact h'
    · simp [Array.getElem?_eq_none h'] at hbk
  have hb2 : w2.heap[b]? = some (.cells #[.pointer (some ⟨b, 0, none⟩), v] 124 (0, 0)) := by
    rw [hgrow.block b hlt (fun e => hne e.symm)]
    exact hbk
  have d0 : w2.cell? ⟨b, 0, none⟩ = some (.pointer (some ⟨b, 0, none⟩)) := by rw [Lib.cell_of_heap hb2]; rfl
  have d1 : w2.cell? ⟨b, 1, none⟩ = some v := by rw [Lib.cell_of_heap hb2]; rfl
  have f1 : w2.frozen? ⟨b, 1, none⟩ = false := Lib.frozen_of_heap hb2 1
  obtain ⟨ao, n', cap, rfl⟩ : ∃ ao n' cap, v' = .slice ao n' cap := by
    rcases hown'.2 with ⟨hv, _⟩ | ⟨g, cap, cur, fz, hv, _⟩
    · exact ⟨_, _, _, hv⟩
    · exact ⟨_, _, _, hv⟩
  go_wp2
  go_ret2
  refine ⟨rfl, ?_, ?_⟩
  · exact Lib.BuilderAtF.put (T := 124) (e := 5) hB hb2 (bs' := bs ++ Lib.strCells s) (by simpa [Lib.strCells_length] using hown') (by decide)
  · exact (hb1.grown hgrow (by have := hb1.size; omega) (fun k hk => (hown.lt k hk).1)).setCell (p := ⟨b, 1, none⟩) hB _
end Go.Proofs.Ytjbofdgdcnfmoaa
