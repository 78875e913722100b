/- Drafts: what the walks say of them; both Checks; the program's Weave and Lift. -/
import Derived.Test.YthipdfkgeghooaaGa
import Derived.Test.YthipdfkgeghooaaGb
import Derived.Test.YthipdfkgeghooaaIl
import Derived.Test.YthipdfkgeghooaaCim

/- What the walks of this seat say of a draft in memory: a draft as it comes in, a valid draft, a variable of the draft type. -/
namespace Go.Proofs.Ythipdfkgeghooaa
open Go.RowKit
set_option linter.unusedVariables false
set_option linter.unusedSimpArgs false

/-- A draft as it comes in: its numbers, its two lists, its tie-up, and what they hold. -/
structure Dr where
  (S T : Int)
  (A : Option Addr) (n c : Nat)
  (B : Option Addr) (m d : Nat)
  (W H : Int)
  (C : Option Addr) (k e : Nat)
  (f g : Nat → Int)
  (b : Nat → Bool)

structure Dr.In (w : World) (B0 : Nat) (D : Dr) : Prop where
  th : L2.Holds w B0 D.A D.n D.f
  tr : L2.Holds w B0 D.B D.m D.g
  ti : Holds w B0 D.C D.k D.b
theorem Dr.In.below {w w' : World} {B : Nat} {D : Dr} (h : D.In w B) (hb : Below B w w') : D.In w' B := ⟨h.th.below hb, h.tr.below hb, h.ti.below hb⟩
theorem Dr.In.more {w : World} {B B' : Nat} {D : Dr} (h : D.In w B) (hB : B ≤ B') : D.In w B' := ⟨h.th.more hB, h.tr.more hB, h.ti.more hB⟩
theorem Dr.In.next {w w' : World} {D : Dr} (h : D.In w w.heap.size) (hb : Below w.heap.size w w') : D.In w' w'.heap.size := (h.below hb).more hb.size

/-- The lists and the tie-up are small enough for the statements to speak of them. -/
structure Dr.Small (D : Dr) : Prop where
  a : D.n ≤ 70
  b : D.m ≤ 70
  c : D.k ≤ 4200

/-- A list is not empty, and has numbers below N. -/
def wi (n : Nat) (f : Nat → Int) (N : Int) : Bool := decide (0 < n ∧ ∀ i, i < n → 0 ≤ f i ∧ f i < N)
/-- What Check answers of a draft. -/
def Dr.ck (D : Dr) : Int :=
  if 40 < D.S ∨ 40 < D.T ∨ 64 < D.n ∨ 64 < D.m then 4
  else if wi D.n D.f D.S = true ∧ wi D.m D.g D.T = true ∧ chk D.W D.H D.k = 0 ∧ D.W = D.T ∧ D.H = D.S then 0 else 8
theorem Dr.ck_bd (D : Dr) : 0 ≤ D.ck ∧ D.ck ≤ 8 := by unfold Dr.ck; split <;> (try split) <;> omega

/-- A variable of the draft type. -/
def DBox (w : World) (g : Nat) (D : Dr) : Prop := w.heap[g]? = some (.cells #[.int .i64 D.S, .int .i64 D.T, .slice D.A D.n D.c, .slice D.B D.m D.d, .int .i64 D.W, .int .i64 D.H, .slice D.C D.k D.e] 63 (0, 0))
section
variable {w w' : World} {B g : Nat} {D : Dr}
theorem DBox.lt (h : DBox w g D) : g < w.heap.size := by
  rcases Nat.lt_or_ge g w.heap.size with hlt | hge
  · exact hlt
  · unfold DBox at h; rw [Array.getElem?_eq_none hge] at h; cases h
theorem DBox.free (h : DBox w g D) (i : Nat) : w.frozen? ⟨g, i, none⟩ = false := by unfold DBox at h; simp [World.frozen?, h]
theorem DBox.below (h : DBox w g D) (hb : Below B w w') (hg : g < B) : DBox w' g D := (hb.block g hg).trans h
theorem DBox.next (h : DBox w g D) (hb : Below w.heap.size w w') : DBox w' g D := h.below hb h.lt
theorem DBox.alloc (h : DBox w g D) (o : Obj) : DBox (w.alloc o) g D := (Below.heap_alloc w o g h.lt).trans h
theorem DBox.drew (h : DBox w g D) : DBox w.drew g D := h
theorem DBox.far (h : DBox w g D) {p : Addr} (hp : g ≠ p.block) (u : Value) : DBox (w.setCell p u) g D := (Below.heap_setCell w p u g hp).trans h
theorem DBox.new (w : World) (D : Dr) : DBox (w.alloc (.cells #[.int .i64 D.S, .int .i64 D.T, .slice D.A D.n D.c, .slice D.B D.m D.d, .int .i64 D.W, .int .i64 D.H, .slice D.C D.k D.e] 63)) w.heap.size D := by
  show (w.heap.push _)[w.heap.size]? = _
  rw [Array.getElem?_push, if_pos rfl]
/-- All that a walk asks of a variable of the draft type that it reads. -/
theorem DBox.all (h : DBox w g D) : w.cell? ⟨g, 0, none⟩ = some (.int .i64 D.S) ∧ w.cell? ⟨g, 1, none⟩ = some (.int .i64 D.T) ∧ w.cell? ⟨g, 2, none⟩ = some (.slice D.A D.n D.c) ∧ w.cell? ⟨g, 3, none⟩ = some (.slice D.B D.m D.d) ∧
    w.cell? ⟨g, 4, none⟩ = some (.int .i64 D.W) ∧ w.cell? ⟨g, 5, none⟩ = some (.int .i64 D.H) ∧ w.cell? ⟨g, 6, none⟩ = some (.slice D.C D.k D.e) ∧ g < w.heap.size := by
  refine ⟨?_, ?_, ?_, ?_, ?_, ?_, ?_, h.lt⟩ <;> (unfold DBox at h; simp [World.cell?, h])
theorem DBox.frees (h : DBox w g D) : w.frozen? ⟨g, 0, none⟩ = false ∧ w.frozen? ⟨g, 1, none⟩ = false ∧ w.frozen? ⟨g, 2, none⟩ = false ∧ w.frozen? ⟨g, 3, none⟩ = false ∧ w.frozen? ⟨g, 4, none⟩ = false ∧ w.frozen? ⟨g, 5, none⟩ = false ∧ w.frozen? ⟨g, 6, none⟩ = false :=
  ⟨h.free 0, h.free 1, h.free 2, h.free 3, h.free 4, h.free 5, h.free 6⟩
end

/-- A draft without its memory: how many shafts, treadles, ends and picks; the threading, the treadling, the lifts. -/
structure PD where
  (S T n m : Nat)
  (F G : Nat → Nat)
  (L : Nat → Nat → Bool)
structure PD.Ok (P : PD) : Prop where
  s0 : 1 ≤ P.S
  s1 : P.S ≤ 40
  t0 : 1 ≤ P.T
  t1 : P.T ≤ 40
  n0 : 1 ≤ P.n
  n1 : P.n ≤ 64
  m0 : 1 ≤ P.m
  m1 : P.m ≤ 64
  f : ∀ i, i < P.n → P.F i < P.S
  g : ∀ i, i < P.m → P.G i < P.T
/-- The two are the same draft. -/
structure PD.Eqv (P Q : PD) : Prop where
  S : P.S = Q.S
  T : P.T = Q.T
  n : P.n = Q.n
  m : P.m = Q.m
  f : ∀ i, i < P.n → P.F i = Q.F i
  g : ∀ i, i < P.m → P.G i = Q.G i
  l : ∀ t s, t < P.T → s < P.S → P.L t s = Q.L t s
theorem PD.Eqv.refl (P : PD) : P.Eqv P := ⟨rfl, rfl, rfl, rfl, fun _ _ => rfl, fun _ _ => rfl, fun _ _ _ _ => rfl⟩
theorem PD.Eqv.symm {P Q : PD} (h : P.Eqv Q) : Q.Eqv P := ⟨h.S.symm, h.T.symm, h.n.symm, h.m.symm, fun i hi => (h.f i (by rw [h.n]; exact hi)).symm, fun i hi => (h.g i (by rw [h.m]; exact hi)).symm, fun t s ht hs => (h.l t s (by rw [h.T]; exact ht) (by rw [h.S]; exact hs)).symm⟩
theorem PD.Eqv.trans {P Q R : PD} (h : P.Eqv Q) (k : Q.Eqv R) : P.Eqv R :=
  ⟨h.S.trans k.S, h.T.trans k.T, h.n.trans k.n, h.m.trans k.m, fun i hi => (h.f i hi).trans (k.f i (by rw [← h.n]; exact hi)), fun i hi => (h.g i hi).trans (k.g i (by rw [← h.m]; exact hi)), fun t s ht hs => (h.l t s ht hs).trans (k.l t s (by rw [← h.T]; exact ht) (by rw [← h.S]; exact hs))⟩

/-- The draft in memory is this one. -/
structure Dr.Is (D : Dr) (P : PD) : Prop where
  S : D.S = P.S
  T : D.T = P.T
  n : D.n = P.n
  m : D.m = P.m
  W : D.W = P.T
  H : D.H = P.S
  k : D.k = P.T * P.S
  f : ∀ i, i < P.n → D.f i = P.F i
  g : ∀ i, i < P.m → D.g i = P.G i
  b : ∀ t s, t < P.T → s < P.S → D.b (s * P.T + t) = P.L t s
def Dr.pure (D : Dr) : PD := ⟨D.S.toNat, D.T.toNat, D.n, D.m, fun i => (D.f i).toNat, fun i => (D.g i).toNat, fun t s => D.b (s * D.T.toNat + t)⟩
theorem Dr.valid {D : Dr} (h : D.ck = 0) : D.pure.Ok ∧ D.Is D.pure := by
  unfold Dr.ck at h
  split at h
  · omega
  · rename_i h1
    split at h
    · rename_i h2
      obtain ⟨h2, h3, h4, h5, h6⟩ := h2
      unfold wi at h2 h3
      simp only [decide_eq_true_eq] at h2 h3
      obtain ⟨a1, a2, a3, a4, a5⟩ := chk_ok h4
      obtain ⟨n0, hf⟩ := h2
      obtain ⟨m0, hg⟩ := h3
      have e1 : ((D.S.toNat : Nat) : Int) = D.S := Int.toNat_of_nonneg (by omega)
      have e2 : ((D.T.toNat : Nat) : Int) = D.T := Int.toNat_of_nonneg (by omega)
      refine ⟨⟨?_, ?_, ?_, ?_, ?_, ?_, ?_, ?_, fun i hi => ?_, fun i hi => ?_⟩, ⟨?_, ?_, rfl, rfl, ?_, ?_, ?_, fun i hi => ?_, fun i hi => ?_, fun t s ht hs => rfl⟩⟩
      all_goals simp only [Dr.pure] at *
      all_goals first
        | omega
        | (have := hf i hi; omega)
        | (have := hg i hi; omega)
        | (have : ((D.k : Nat) : Int) = ((D.T.toNat * D.S.toNat : Nat) : Int) := by rw [a5, Int.natCast_mul, e1, e2, h5, h6]
           omega)
    · omega
theorem Dr.Is.ck {D : Dr} {P : PD} (h : D.Is P) (hP : P.Ok) : D.ck = 0 := by
  obtain ⟨h1, h2, h3, h4, h5, h6, h7, h8, h9, h10⟩ := h
  obtain ⟨p1, p2, p3, p4, p5, p6, p7, p8, p9, p10⟩ := hP
  unfold Dr.ck
  rw [if_neg (by omega), if_pos]
  refine ⟨?_, ?_, ?_, by omega, by omega⟩
  · unfold wi
    rw [decide_eq_true_iff]
    exact ⟨by omega, fun i hi => by have := h8 i (by omega); have := p9 i (by omega); omega⟩
  · unfold wi
    rw [decide_eq_true_iff]
    exact ⟨by omega, fun i hi => by have := h9 i (by omega); have := p10 i (by omega); omega⟩
  · unfold chk
    rw [if_neg (by omega), if_neg]
    rintro (h | h | h)
    · omega
    · omega
    · exact h (by rw [h5, h6, h7, Int.natCast_mul])
end Go.Proofs.Ythipdfkgeghooaa

/- Whether a list has numbers below N, by the program and by the reference. -/
namespace Go.Proofs.Ythipdfkgeghooaa
open Go.RowKit
set_option linter.unusedVariables false
set_option linter.unusedSimpArgs false

set_option maxHeartbeats 1600000 in
theorem hasn_any (A : Option Addr) (n c : Nat) (f : Nat → Int) (N : Int) (B : Nat) (w : World) (hn : n ≤ 5000) (hr : L2.Holds w B A n f) :
    Calls Try.prog 57 #[.slice A n c, .int .i64 N] w fun e w' => e = .returned (.bool (wi n f N)) ∧ w = w' := by
  have HR := Lib.hid hr
  clear hr
  go_enter Try.func57, Try.ntmps57
  go_wp2
  go_loopw [9] (fun i wr => ∃ k : Nat, k ≤ n ∧ i = .int .i64 k ∧ Hid (∀ i, i < k → 0 ≤ f i ∧ f i < N) ∧ w = wr) (fun i _ => n - (intOf i).toNat)
  case atStart => exact ⟨0, Nat.zero_le _, rfl, Lib.hid fun i hi => absurd hi (by omega), rfl⟩
  case round =>
    obtain ⟨k, hk, rfl, hall, rfl⟩ := hrel
    by_cases hlt : k < n
    · obtain ⟨b, o, rfl, hbl, hc⟩ := HR.out (by omega)
      have c1 := hc k hlt
      clear hc
      have y1 : (0 : Int) ≤ (k : Int) := by omega
      have y2 : (k : Int) < (n : Int) := by omega
      obtain ⟨v, hv⟩ : ∃ v, f k = v := ⟨_, rfl⟩
      rw [hv] at c1
      have HV := Lib.hid hv
      clear hv
      by_cases g1 : v < 0
      · have d1 : decide (v < 0) = true := by simp [g1]
        have hbad : wi n f N = false := by
          unfold wi
          rw [decide_eq_false_iff_not]
          rintro ⟨_, h⟩
          have := h k hlt
          rw [HV.out] at this
          omega
        have HB := Lib.hid hbad
        clear hbad
        go_wp2
        go_ret
        exact ⟨by rw [HB.out]; rfl, rfl⟩
      · have d1 : decide (v < 0) = false := by simp [g1]
        by_cases g2 : N ≤ v
        · have d2 : decide (N ≤ v) = true := by simp [g2]
          have hbad : wi n f N = false := by
            unfold wi
            rw [decide_eq_false_iff_not]
            rintro ⟨_, h⟩
            have := h k hlt
            rw [HV.out] at this
            omega
          have HB := Lib.hid hbad
          clear hbad
          go_wp2
          go_ret
          exact ⟨by rw [HB.out]; rfl, rfl⟩
        · have d2 : decide (N ≤ v) = false := by simp [g2]
          have HK := Lib.hid (show 0 ≤ f k ∧ f k < N by rw [HV.out]; omega)
          go_wp2
          refine ⟨⟨k + 1, by omega, by go_num, fun i hi => ?_, trivial⟩, by simp [intOf]; omega⟩
          rcases Nat.lt_succ_iff_lt_or_eq.1 hi with h | rfl
          · exact hall.out i h
          · exact HK.out
    · have e : k = n := by omega
      subst e
      have hok : wi k f N = decide (0 < k) := by
        unfold wi
        apply decide_eq_decide.2
        constructor
        · rintro ⟨h, _⟩; exact h
        · intro h; exact ⟨h, hall.out⟩
      have HO := Lib.hid hok
      clear hok
      go_wp2
      go_ret
      exact ⟨ret_bool HO.out.symm, rfl⟩

theorem grid_chk (nm : Nat) (W H : Int) (A : Option Addr) (n c : Nat) (w : World) : True := trivial
end Go.Proofs.Ythipdfkgeghooaa

/- The draft package's cell and build. -/
namespace Go.Proofs.Ythipdfkgeghooaa
open Go.RowKit
set_option linter.unusedVariables false
set_option linter.unusedSimpArgs false

set_option maxHeartbeats 400000 in
theorem dcell_any (W H : Int) (A : Option Addr) (n c : Nat) (x y : Int) (f : Nat → Bool) (B : Nat) (w : World) (hr : Holds w B A n f) (hB : B ≤ w.heap.size) (hm : n ≤ 5000)
    (hW0 : 0 ≤ W) (hW : W ≤ 64) (hx0 : 0 ≤ x) (hx : x < 64) (hy0 : 0 ≤ y) (hy : y < 64) (hi : (y * W + x).toNat < n) :
    Calls Try.prog 52 #[.agg #[.int .i64 W, .int .i64 H, .slice A n c], .int .i64 x, .int .i64 y] w fun e w' => e = .returned (.bool (f (y * W + x).toNat)) ∧ Below w.heap.size w w' := by
  obtain ⟨b, o, rfl, hlt, hc⟩ := hr (by omega)
  obtain ⟨h1, h2⟩ := mul_bd hW0 hW hy0 hy
  have hc0 := hc _ hi
  have h3 : y * W + x < (n : Int) := by omega
  clear hc
  have hbw : b < w.heap.size := by omega
  go_enter Try.func52, Try.ntmps52
  go_wp2
  go_ret
  exact ⟨rfl, (Below.refl _ _).alloc (Nat.le_refl _) _⟩

theorem dcell_nat (W H : Nat) (A : Option Addr) (c : Nat) (x y : Int) (f : Nat → Bool) (w : World) (hr : Holds w w.heap.size A (W * H) f)
    (hW : W ≤ 64) (hH : H ≤ 64) (i j : Nat) (hx : x = i) (hy : y = j) (hi : i < W) (hj : j < H) :
    Calls Try.prog 52 #[.agg #[.int .i64 W, .int .i64 H, .slice A (W * H) c], .int .i64 x, .int .i64 y] w fun e w' => e = .returned (.bool (f (j * W + i))) ∧ Below w.heap.size w w' := by
  subst hx hy
  have h1 := ix_bd hi hj
  have h2 : W * H ≤ 4096 := Nat.mul_le_mul hW hH
  have e : ((j : Int) * (W : Int) + (i : Int)).toNat = j * W + i := by
    have : ((j : Int) * (W : Int) + (i : Int)) = ((j * W + i : Nat) : Int) := by simp
    rw [this, Int.toNat_natCast]
  have h := dcell_any W H A (W * H) c i j f w.heap.size w hr (Nat.le_refl _) (by omega) (by omega) (by omega) (by omega) (by omega) (by omega) (by omega) (by rw [e]; exact h1)
  rw [e] at h
  exact h

set_option maxHeartbeats 800000 in
theorem dbuild_any (W H : Nat) (hW0 : 1 ≤ W) (hW : W ≤ 64) (hH0 : 1 ≤ H) (hH : H ≤ 64) (g : Nat) (lb : Array Value) (F : Nat → Nat → Bool) (w : World) (hG : Gives g lb w W H F)
    (eg : ∀ args w, (callFunc g args).run Try.prog w = .ok (.enter g args) w) :
    Calls Try.prog 50 #[.int .i64 W, .int .i64 H, .func (.func g) #[] lb] w fun e w' =>
      ∃ k, e = .returned (.agg #[.int .i64 W, .int .i64 H, .slice (some ⟨k, 0, none⟩) (W * H) (W * H)]) ∧ w.heap.size ≤ k ∧ Row w' k (W * H) (fun i => F (i % W) (i / W)) ∧ Below w.heap.size w w' := by
  have hN : W * H ≤ 4096 := Nat.mul_le_mul hW hH
  have hNi : (W : Int) * (H : Int) ≤ 4096 := by have := Int.ofNat_le.2 hN; simpa using this
  have hNi0 : 0 ≤ (W : Int) * (H : Int) := by have := Int.natCast_nonneg (W * H); simpa using this
  have hmk := make_run W H hN
  have HG := Lib.hid hG
  clear hG
  go_enter Try.func50, Try.ntmps50
  go_wp2
  go_loopw [15] (fun i wr => ∃ k : Nat, k ≤ H ∧ i = .int .i64 k ∧ Row wr (w.heap.size + 1) (W * H) (part W F (k * W)) ∧ Box wr w.heap.size 0 0 (.slice none 0 0) ∧ Below w.heap.size w wr) (fun i _ => H - (intOf i).toNat)
  case atStart =>
    refine ⟨0, Nat.zero_le _, rfl, ?_, (Box.new w 0 0 _).alloc _, (((Below.refl _ _).alloc (Nat.le_refl _) _).alloc (by simp) _)⟩
    rw [Nat.zero_mul, part_zero]
    have h := Row.made (w.alloc (Obj.cells #[Value.int IntKind.i64 0, Value.int IntKind.i64 0, Value.slice none 0 0] 57)) (W * H)
    simpa using h
  case round =>
    obtain ⟨k, hk, rfl, hrow, hbox, hbel⟩ := hrel
    obtain ⟨wo, rfl⟩ : ∃ wo : World, wo = wr := ⟨_, rfl⟩
    by_cases hlt : k < H
    · go_wp2
      go_loopw [19] (fun i wr => ∃ x : Nat, x ≤ W ∧ i = .int .i64 x ∧ Row wr (w.heap.size + 1) (W * H) (part W F (k * W + x)) ∧ Box wr w.heap.size 0 0 (.slice none 0 0) ∧ Below w.heap.size w wr) (fun i _ => W - (intOf i).toNat)
      case atStart => exact ⟨0, Nat.zero_le _, rfl, hrow, hbox, hbel⟩
      case round =>
        obtain ⟨x, hx, rfl, hrow2, hbox2, hbel2⟩ := hrel
        by_cases hltx : x < W
        · have b1 := mul_bd (W := (W : Int)) (y := (k : Int)) (by omega) (by omega) (by omega) (by omega)
          have b2 : k * W + x < W * H := by
            have h := Nat.mul_le_mul_right W (show k + 1 ≤ H by omega)
            rw [Nat.add_mul, Nat.one_mul, Nat.mul_comm H W] at h
            omega
          have b3 : (k : Int) * (W : Int) + (x : Int) < (W : Int) * (H : Int) := by have := Int.ofNat_lt.2 b2; simpa using this
          go_wp2_with (go_at_fn g; refine (HG.out _ x k hbel2 hltx hlt).mono ?_; rintro e w1 ⟨rfl, hb1⟩; have hrow3 := hrow2.below hb1 hrow2.lt; have hcl := hrow3.cell b2; have hfr := hrow3.free (k * W + x))
          go_roundw
          case rel => exact ⟨x + 1, by omega, by go_num, by have h := hrow3.set_ (k * W + x) (F x k); rw [part_succ F x k hltx] at h; exact h, (hbox2.below hb1 hbox2.lt).far (by simp) _, (hbel2.trans (hb1.mono hbel2.size)).setCell (by simp) _⟩
          case measure => simp [intOf]; omega
        · have e : x = W := by omega
          subst e
          go_wp2
          go_roundw
          case rel => exact ⟨k + 1, by omega, by go_num, by rw [Nat.add_mul, Nat.one_mul]; exact hrow2, hbox2, hbel2⟩
          case measure => simp [intOf]; omega
    · have e : k = H := by omega
      subst e
      obtain ⟨q0, q1, q2, q3, q4, q5, q6⟩ := hbox.all
      go_wp2
      refine bodyPost_ret (v := .agg #[.int .i64 W, .int .i64 k, .slice (some ⟨w.heap.size + 1, 0, none⟩) (W * k) (W * k)]) (by simp [results, Try.results50, go_sem, q0, q1, q2]) rfl ⟨_, rfl, by omega, ?_, ?_⟩
      · refine (((hrow.far (by simp) _).far (by simp) _).far (by simp) _).congr fun i hi => ?_
        unfold part
        rw [if_pos (by rw [Nat.mul_comm]; exact hi)]
      · exact ((hbel.setCell (by simp) _).setCell (by simp) _).setCell (by simp) _
end Go.Proofs.Ythipdfkgeghooaa

/- The program's Check of a draft. -/
namespace Go.Proofs.Ythipdfkgeghooaa
open Go.RowKit
set_option linter.unusedVariables false
set_option linter.unusedSimpArgs false

theorem gchk_err {W H : Int} {A : Option Addr} {n c : Nat} {err : Int} (hn : n ≤ 4200) (hx : chk W H n = err) (w : World) :
    Calls Try.prog 58 #[.agg #[.int .i64 W, .int .i64 H, .slice A n c]] w fun e w' => e = .returned (.int .i64 err) ∧ Below w.heap.size w w' := by
  have h := chk_any W H A n c w hn
  rw [hx] at h
  exact h
set_option maxHeartbeats 1000000 in
theorem dck_S (D : Dr) (w : World) (hs : D.Small) (hd : D.In w w.heap.size) (h0 : 40 < D.S) :
    Calls Try.prog 49 #[.agg #[.int .i64 D.S, .int .i64 D.T, .slice D.A D.n D.c, .slice D.B D.m D.d, .int .i64 D.W, .int .i64 D.H, .slice D.C D.k D.e]] w fun e w' => e = .returned (.int .i64 4) ∧ Below w.heap.size w w' := by
  obtain ⟨S, T, A, n, c, B, m, d, W, H, C, k, e', f, g, b⟩ := D
  obtain ⟨s0, s1', s2⟩ := hs
  obtain ⟨hth, htr, hti⟩ := hd
  dsimp only at *
  have b0 : decide (40 < S) = true := by simp; omega
  have X0 := Lib.hid (DBox.new w ⟨S, T, A, n, c, B, m, d, W, H, C, k, e', f, g, b⟩)
  clear hth htr hti
  go_enter Try.func49, Try.ntmps49
  go_wp2
  go_ret
  exact ⟨rfl, (Below.refl _ _).alloc (Nat.le_refl _) _⟩

set_option maxHeartbeats 1000000 in
theorem dck_T (D : Dr) (w : World) (hs : D.Small) (hd : D.In w w.heap.size) (h0 : ¬ 40 < D.S) (h1 : 40 < D.T) :
    Calls Try.prog 49 #[.agg #[.int .i64 D.S, .int .i64 D.T, .slice D.A D.n D.c, .slice D.B D.m D.d, .int .i64 D.W, .int .i64 D.H, .slice D.C D.k D.e]] w fun e w' => e = .returned (.int .i64 4) ∧ Below w.heap.size w w' := by
  obtain ⟨S, T, A, n, c, B, m, d, W, H, C, k, e', f, g, b⟩ := D
  obtain ⟨s0, s1', s2⟩ := hs
  obtain ⟨hth, htr, hti⟩ := hd
  dsimp only at *
  have b0 : decide (40 < S) = false := by simp; omega
  have b1 : decide (40 < T) = true := by simp; omega
  have X0 := Lib.hid (DBox.new w ⟨S, T, A, n, c, B, m, d, W, H, C, k, e', f, g, b⟩)
  clear hth htr hti
  go_enter Try.func49, Try.ntmps49
  go_wp2
  go_ret
  exact ⟨rfl, (Below.refl _ _).alloc (Nat.le_refl _) _⟩

set_option maxHeartbeats 1000000 in
theorem dck_n (D : Dr) (w : World) (hs : D.Small) (hd : D.In w w.heap.size) (h0 : ¬ 40 < D.S) (h1 : ¬ 40 < D.T) (h2 : 64 < D.n) :
    Calls Try.prog 49 #[.agg #[.int .i64 D.S, .int .i64 D.T, .slice D.A D.n D.c, .slice D.B D.m D.d, .int .i64 D.W, .int .i64 D.H, .slice D.C D.k D.e]] w fun e w' => e = .returned (.int .i64 4) ∧ Below w.heap.size w w' := by
  obtain ⟨S, T, A, n, c, B, m, d, W, H, C, k, e', f, g, b⟩ := D
  obtain ⟨s0, s1', s2⟩ := hs
  obtain ⟨hth, htr, hti⟩ := hd
  dsimp only at *
  have b0 : decide (40 < S) = false := by simp; omega
  have b1 : decide (40 < T) = false := by simp; omega
  have b2 : decide (64 < (n : Int)) = true := by simp; omega
  have X0 := Lib.hid (DBox.new w ⟨S, T, A, n, c, B, m, d, W, H, C, k, e', f, g, b⟩)
  clear hth htr hti
  go_enter Try.func49, Try.ntmps49
  go_wp2
  go_ret
  exact ⟨rfl, (Below.refl _ _).alloc (Nat.le_refl _) _⟩

set_option maxHeartbeats 1000000 in
theorem dck_m (D : Dr) (w : World) (hs : D.Small) (hd : D.In w w.heap.size) (h0 : ¬ 40 < D.S) (h1 : ¬ 40 < D.T) (h2 : ¬ 64 < D.n) (h3 : 64 < D.m) :
    Calls Try.prog 49 #[.agg #[.int .i64 D.S, .int .i64 D.T, .slice D.A D.n D.c, .slice D.B D.m D.d, .int .i64 D.W, .int .i64 D.H, .slice D.C D.k D.e]] w fun e w' => e = .returned (.int .i64 4) ∧ Below w.heap.size w w' := by
  obtain ⟨S, T, A, n, c, B, m, d, W, H, C, k, e', f, g, b⟩ := D
  obtain ⟨s0, s1', s2⟩ := hs
  obtain ⟨hth, htr, hti⟩ := hd
  dsimp only at *
  have b0 : decide (40 < S) = false := by simp; omega
  have b1 : decide (40 < T) = false := by simp; omega
  have b2 : decide (64 < (n : Int)) = false := by simp; omega
  have b3 : decide (64 < (m : Int)) = true := by simp; omega
  have X0 := Lib.hid (DBox.new w ⟨S, T, A, n, c, B, m, d, W, H, C, k, e', f, g, b⟩)
  clear hth htr hti
  go_enter Try.func49, Try.ntmps49
  go_wp2
  go_ret
  exact ⟨rfl, (Below.refl _ _).alloc (Nat.le_refl _) _⟩

set_option maxHeartbeats 1000000 in
theorem dck_wn (D : Dr) (w : World) (hs : D.Small) (hd : D.In w w.heap.size) (h0 : ¬ 40 < D.S) (h1 : ¬ 40 < D.T) (h2 : ¬ 64 < D.n) (h3 : ¬ 64 < D.m) (h4 : wi D.n D.f D.S = false) :
    Calls Try.prog 49 #[.agg #[.int .i64 D.S, .int .i64 D.T, .slice D.A D.n D.c, .slice D.B D.m D.d, .int .i64 D.W, .int .i64 D.H, .slice D.C D.k D.e]] w fun e w' => e = .returned (.int .i64 8) ∧ Below w.heap.size w w' := by
  obtain ⟨S, T, A, n, c, B, m, d, W, H, C, k, e', f, g, b⟩ := D
  obtain ⟨s0, s1', s2⟩ := hs
  obtain ⟨hth, htr, hti⟩ := hd
  dsimp only at *
  have b0 : decide (40 < S) = false := by simp; omega
  have b1 : decide (40 < T) = false := by simp; omega
  have b2 : decide (64 < (n : Int)) = false := by simp; omega
  have b3 : decide (64 < (m : Int)) = false := by simp; omega
  have H1 := Lib.hid (fun v hb => (hasn_any A n c f S w.heap.size v (by omega) (hth.below (w' := v) hb)))
  rw [h4] at H1
  have X0 := Lib.hid (DBox.new w ⟨S, T, A, n, c, B, m, d, W, H, C, k, e', f, g, b⟩)
  clear hth htr hti h4
  go_enter Try.func49, Try.ntmps49
  go_wp2_with fail
  refine (H1.out _ ((Below.refl _ _).alloc (Nat.le_refl _) _)).mono ?_
  rintro e w1 ⟨rfl, rfl⟩
  go_wp2
  go_ret
  exact ⟨rfl, (Below.refl _ _).alloc (Nat.le_refl _) _⟩

set_option maxHeartbeats 1000000 in
theorem dck_wm (D : Dr) (w : World) (hs : D.Small) (hd : D.In w w.heap.size) (h0 : ¬ 40 < D.S) (h1 : ¬ 40 < D.T) (h2 : ¬ 64 < D.n) (h3 : ¬ 64 < D.m) (h4 : wi D.n D.f D.S = true) (h5 : wi D.m D.g D.T = false) :
    Calls Try.prog 49 #[.agg #[.int .i64 D.S, .int .i64 D.T, .slice D.A D.n D.c, .slice D.B D.m D.d, .int .i64 D.W, .int .i64 D.H, .slice D.C D.k D.e]] w fun e w' => e = .returned (.int .i64 8) ∧ Below w.heap.size w w' := by
  obtain ⟨S, T, A, n, c, B, m, d, W, H, C, k, e', f, g, b⟩ := D
  obtain ⟨s0, s1', s2⟩ := hs
  obtain ⟨hth, htr, hti⟩ := hd
  dsimp only at *
  have b0 : decide (40 < S) = false := by simp; omega
  have b1 : decide (40 < T) = false := by simp; omega
  have b2 : decide (64 < (n : Int)) = false := by simp; omega
  have b3 : decide (64 < (m : Int)) = false := by simp; omega
  have H1 := Lib.hid (fun v hb => (hasn_any A n c f S w.heap.size v (by omega) (hth.below (w' := v) hb)))
  have H2 := Lib.hid (fun v hb => (hasn_any B m d g T w.heap.size v (by omega) (htr.below (w' := v) hb)))
  rw [h4] at H1
  rw [h5] at H2
  have X0 := Lib.hid (DBox.new w ⟨S, T, A, n, c, B, m, d, W, H, C, k, e', f, g, b⟩)
  clear hth htr hti h4 h5
  go_enter Try.func49, Try.ntmps49
  go_wp2_with fail
  refine (H1.out _ ((Below.refl _ _).alloc (Nat.le_refl _) _)).mono ?_
  rintro e w1 ⟨rfl, rfl⟩
  go_wp2_with fail
  refine (H2.out _ ((Below.refl _ _).alloc (Nat.le_refl _) _)).mono ?_
  rintro e w1 ⟨rfl, rfl⟩
  go_wp2
  go_ret
  exact ⟨rfl, (Below.refl _ _).alloc (Nat.le_refl _) _⟩

set_option maxHeartbeats 1000000 in
theorem dck_g (D : Dr) (w : World) (hs : D.Small) (hd : D.In w w.heap.size) (h0 : ¬ 40 < D.S) (h1 : ¬ 40 < D.T) (h2 : ¬ 64 < D.n) (h3 : ¬ 64 < D.m) (h4 : wi D.n D.f D.S = true) (h5 : wi D.m D.g D.T = true) (err : Int) (h6 : chk D.W D.H D.k = err) (hne : (err != 0) = true) :
    Calls Try.prog 49 #[.agg #[.int .i64 D.S, .int .i64 D.T, .slice D.A D.n D.c, .slice D.B D.m D.d, .int .i64 D.W, .int .i64 D.H, .slice D.C D.k D.e]] w fun e w' => e = .returned (.int .i64 8) ∧ Below w.heap.size w w' := by
  obtain ⟨S, T, A, n, c, B, m, d, W, H, C, k, e', f, g, b⟩ := D
  obtain ⟨s0, s1', s2⟩ := hs
  obtain ⟨hth, htr, hti⟩ := hd
  dsimp only at *
  have b0 : decide (40 < S) = false := by simp; omega
  have b1 : decide (40 < T) = false := by simp; omega
  have b2 : decide (64 < (n : Int)) = false := by simp; omega
  have b3 : decide (64 < (m : Int)) = false := by simp; omega
  have H1 := Lib.hid (fun v hb => (hasn_any A n c f S w.heap.size v (by omega) (hth.below (w' := v) hb)))
  have H2 := Lib.hid (fun v hb => (hasn_any B m d g T w.heap.size v (by omega) (htr.below (w' := v) hb)))
  rw [h4] at H1
  rw [h5] at H2
  have H3 := Lib.hid (gchk_err (A := C) (c := e') s2 h6)
  have X0 := Lib.hid (DBox.new w ⟨S, T, A, n, c, B, m, d, W, H, C, k, e', f, g, b⟩)
  clear hth htr hti h4 h5 h6
  go_enter Try.func49, Try.ntmps49
  go_wp2_with fail
  refine (H1.out _ ((Below.refl _ _).alloc (Nat.le_refl _) _)).mono ?_
  rintro e w1 ⟨rfl, rfl⟩
  go_wp2_with fail
  refine (H2.out _ ((Below.refl _ _).alloc (Nat.le_refl _) _)).mono ?_
  rintro e w1 ⟨rfl, rfl⟩
  go_wp2_with fail
  refine (H3.out _).mono ?_
  rintro e w1 ⟨rfl, hb⟩
  have X1 := X0.out.below hb (by simp)
  have L1 := Lib.hid (((Below.refl _ _).alloc (Nat.le_refl _) _).trans (hb.mono (by simp)))
  obtain ⟨x0, x1, x2, x3, x4, x5, x6, x7⟩ := X1.all
  clear X1 X0 hb
  dsimp only at x0 x1 x2 x3 x4 x5 x6
  go_wp2
  go_ret
  exact ⟨rfl, L1.out⟩

set_option maxHeartbeats 1000000 in
theorem dck_W (D : Dr) (w : World) (hs : D.Small) (hd : D.In w w.heap.size) (h0 : ¬ 40 < D.S) (h1 : ¬ 40 < D.T) (h2 : ¬ 64 < D.n) (h3 : ¬ 64 < D.m) (h4 : wi D.n D.f D.S = true) (h5 : wi D.m D.g D.T = true) (h6 : chk D.W D.H D.k = 0) (h7 : ¬ D.W = D.T) :
    Calls Try.prog 49 #[.agg #[.int .i64 D.S, .int .i64 D.T, .slice D.A D.n D.c, .slice D.B D.m D.d, .int .i64 D.W, .int .i64 D.H, .slice D.C D.k D.e]] w fun e w' => e = .returned (.int .i64 8) ∧ Below w.heap.size w w' := by
  obtain ⟨S, T, A, n, c, B, m, d, W, H, C, k, e', f, g, b⟩ := D
  obtain ⟨s0, s1', s2⟩ := hs
  obtain ⟨hth, htr, hti⟩ := hd
  dsimp only at *
  have b0 : decide (40 < S) = false := by simp; omega
  have b1 : decide (40 < T) = false := by simp; omega
  have b2 : decide (64 < (n : Int)) = false := by simp; omega
  have b3 : decide (64 < (m : Int)) = false := by simp; omega
  have b7 : (W != T) = true := by simp [h7]
  have H1 := Lib.hid (fun v hb => (hasn_any A n c f S w.heap.size v (by omega) (hth.below (w' := v) hb)))
  have H2 := Lib.hid (fun v hb => (hasn_any B m d g T w.heap.size v (by omega) (htr.below (w' := v) hb)))
  rw [h4] at H1
  rw [h5] at H2
  have H3 := Lib.hid (gchk_err (A := C) (c := e') s2 h6)
  have X0 := Lib.hid (DBox.new w ⟨S, T, A, n, c, B, m, d, W, H, C, k, e', f, g, b⟩)
  clear hth htr hti h4 h5 h6 h7
  go_enter Try.func49, Try.ntmps49
  go_wp2_with fail
  refine (H1.out _ ((Below.refl _ _).alloc (Nat.le_refl _) _)).mono ?_
  rintro e w1 ⟨rfl, rfl⟩
  go_wp2_with fail
  refine (H2.out _ ((Below.refl _ _).alloc (Nat.le_refl _) _)).mono ?_
  rintro e w1 ⟨rfl, rfl⟩
  go_wp2_with fail
  refine (H3.out _).mono ?_
  rintro e w1 ⟨rfl, hb⟩
  have X1 := X0.out.below hb (by simp)
  have L1 := Lib.hid (((Below.refl _ _).alloc (Nat.le_refl _) _).trans (hb.mono (by simp)))
  obtain ⟨x0, x1, x2, x3, x4, x5, x6, x7⟩ := X1.all
  clear X1 X0 hb
  dsimp only at x0 x1 x2 x3 x4 x5 x6
  go_wp2
  go_ret
  exact ⟨rfl, L1.out⟩

set_option maxHeartbeats 1000000 in
theorem dck_H (D : Dr) (w : World) (hs : D.Small) (hd : D.In w w.heap.size) (h0 : ¬ 40 < D.S) (h1 : ¬ 40 < D.T) (h2 : ¬ 64 < D.n) (h3 : ¬ 64 < D.m) (h4 : wi D.n D.f D.S = true) (h5 : wi D.m D.g D.T = true) (h6 : chk D.W D.H D.k = 0) (h7 : D.W = D.T) (h8 : ¬ D.H = D.S) :
    Calls Try.prog 49 #[.agg #[.int .i64 D.S, .int .i64 D.T, .slice D.A D.n D.c, .slice D.B D.m D.d, .int .i64 D.W, .int .i64 D.H, .slice D.C D.k D.e]] w fun e w' => e = .returned (.int .i64 8) ∧ Below w.heap.size w w' := by
  obtain ⟨S, T, A, n, c, B, m, d, W, H, C, k, e', f, g, b⟩ := D
  obtain ⟨s0, s1', s2⟩ := hs
  obtain ⟨hth, htr, hti⟩ := hd
  dsimp only at *
  have b0 : decide (40 < S) = false := by simp; omega
  have b1 : decide (40 < T) = false := by simp; omega
  have b2 : decide (64 < (n : Int)) = false := by simp; omega
  have b3 : decide (64 < (m : Int)) = false := by simp; omega
  have b7 : (W != T) = false := by simp [h7]
  have b8 : (H != S) = true := by simp [h8]
  have H1 := Lib.hid (fun v hb => (hasn_any A n c f S w.heap.size v (by omega) (hth.below (w' := v) hb)))
  have H2 := Lib.hid (fun v hb => (hasn_any B m d g T w.heap.size v (by omega) (htr.below (w' := v) hb)))
  rw [h4] at H1
  rw [h5] at H2
  have H3 := Lib.hid (gchk_err (A := C) (c := e') s2 h6)
  have X0 := Lib.hid (DBox.new w ⟨S, T, A, n, c, B, m, d, W, H, C, k, e', f, g, b⟩)
  clear hth htr hti h4 h5 h6 h7 h8
  go_enter Try.func49, Try.ntmps49
  go_wp2_with fail
  refine (H1.out _ ((Below.refl _ _).alloc (Nat.le_refl _) _)).mono ?_
  rintro e w1 ⟨rfl, rfl⟩
  go_wp2_with fail
  refine (H2.out _ ((Below.refl _ _).alloc (Nat.le_refl _) _)).mono ?_
  rintro e w1 ⟨rfl, rfl⟩
  go_wp2_with fail
  refine (H3.out _).mono ?_
  rintro e w1 ⟨rfl, hb⟩
  have X1 := X0.out.below hb (by simp)
  have L1 := Lib.hid (((Below.refl _ _).alloc (Nat.le_refl _) _).trans (hb.mono (by simp)))
  obtain ⟨x0, x1, x2, x3, x4, x5, x6, x7⟩ := X1.all
  clear X1 X0 hb
  dsimp only at x0 x1 x2 x3 x4 x5 x6
  go_wp2
  go_ret
  exact ⟨rfl, L1.out⟩

set_option maxHeartbeats 1000000 in
theorem dck_ok (D : Dr) (w : World) (hs : D.Small) (hd : D.In w w.heap.size) (h0 : ¬ 40 < D.S) (h1 : ¬ 40 < D.T) (h2 : ¬ 64 < D.n) (h3 : ¬ 64 < D.m) (h4 : wi D.n D.f D.S = true) (h5 : wi D.m D.g D.T = true) (h6 : chk D.W D.H D.k = 0) (h7 : D.W = D.T) (h8 : D.H = D.S) :
    Calls Try.prog 49 #[.agg #[.int .i64 D.S, .int .i64 D.T, .slice D.A D.n D.c, .slice D.B D.m D.d, .int .i64 D.W, .int .i64 D.H, .slice D.C D.k D.e]] w fun e w' => e = .returned (.int .i64 0) ∧ Below w.heap.size w w' := by
  obtain ⟨S, T, A, n, c, B, m, d, W, H, C, k, e', f, g, b⟩ := D
  obtain ⟨s0, s1', s2⟩ := hs
  obtain ⟨hth, htr, hti⟩ := hd
  dsimp only at *
  have b0 : decide (40 < S) = false := by simp; omega
  have b1 : decide (40 < T) = false := by simp; omega
  have b2 : decide (64 < (n : Int)) = false := by simp; omega
  have b3 : decide (64 < (m : Int)) = false := by simp; omega
  have b7 : (W != T) = false := by simp [h7]
  have b8 : (H != S) = false := by simp [h8]
  have H1 := Lib.hid (fun v hb => (hasn_any A n c f S w.heap.size v (by omega) (hth.below (w' := v) hb)))
  have H2 := Lib.hid (fun v hb => (hasn_any B m d g T w.heap.size v (by omega) (htr.below (w' := v) hb)))
  rw [h4] at H1
  rw [h5] at H2
  have H3 := Lib.hid (gchk_err (A := C) (c := e') s2 h6)
  have X0 := Lib.hid (DBox.new w ⟨S, T, A, n, c, B, m, d, W, H, C, k, e', f, g, b⟩)
  clear hth htr hti h4 h5 h6 h7 h8
  go_enter Try.func49, Try.ntmps49
  go_wp2_with fail
  refine (H1.out _ ((Below.refl _ _).alloc (Nat.le_refl _) _)).mono ?_
  rintro e w1 ⟨rfl, rfl⟩
  go_wp2_with fail
  refine (H2.out _ ((Below.refl _ _).alloc (Nat.le_refl _) _)).mono ?_
  rintro e w1 ⟨rfl, rfl⟩
  go_wp2_with fail
  refine (H3.out _).mono ?_
  rintro e w1 ⟨rfl, hb⟩
  have X1 := X0.out.below hb (by simp)
  have L1 := Lib.hid (((Below.refl _ _).alloc (Nat.le_refl _) _).trans (hb.mono (by simp)))
  obtain ⟨x0, x1, x2, x3, x4, x5, x6, x7⟩ := X1.all
  clear X1 X0 hb
  dsimp only at x0 x1 x2 x3 x4 x5 x6
  go_wp2
  go_ret
  exact ⟨rfl, L1.out⟩

theorem dck_any (D : Dr) (w : World) (hs : D.Small) (hd : D.In w w.heap.size) :
    Calls Try.prog 49 #[.agg #[.int .i64 D.S, .int .i64 D.T, .slice D.A D.n D.c, .slice D.B D.m D.d, .int .i64 D.W, .int .i64 D.H, .slice D.C D.k D.e]] w fun e w' => e = .returned (.int .i64 D.ck) ∧ Below w.heap.size w w' := by
  have key : ∀ (z : Int), D.ck = z → Calls Try.prog 49 #[.agg #[.int .i64 D.S, .int .i64 D.T, .slice D.A D.n D.c, .slice D.B D.m D.d, .int .i64 D.W, .int .i64 D.H, .slice D.C D.k D.e]] w (fun e w' => e = .returned (.int .i64 z) ∧ Below w.heap.size w w') → Calls Try.prog 49 #[.agg #[.int .i64 D.S, .int .i64 D.T, .slice D.A D.n D.c, .slice D.B D.m D.d, .int .i64 D.W, .int .i64 D.H, .slice D.C D.k D.e]] w (fun e w' => e = .returned (.int .i64 D.ck) ∧ Below w.heap.size w w') := fun z hz h => by rw [hz]; exact h
  by_cases h0 : 40 < D.S
  · exact key 4 (by unfold Dr.ck; rw [if_pos (.inl h0)]) (dck_S D w hs hd h0)
  by_cases h1 : 40 < D.T
  · exact key 4 (by unfold Dr.ck; rw [if_pos (.inr (.inl h1))]) (dck_T D w hs hd h0 h1)
  by_cases h2 : 64 < D.n
  · exact key 4 (by unfold Dr.ck; rw [if_pos (.inr (.inr (.inl h2)))]) (dck_n D w hs hd h0 h1 h2)
  by_cases h3 : 64 < D.m
  · exact key 4 (by unfold Dr.ck; rw [if_pos (.inr (.inr (.inr h3)))]) (dck_m D w hs hd h0 h1 h2 h3)
  have hno : ¬ (40 < D.S ∨ 40 < D.T ∨ 64 < D.n ∨ 64 < D.m) := by omega
  cases h4 : wi D.n D.f D.S
  · exact key 8 (by unfold Dr.ck; rw [if_neg hno, if_neg]; rintro ⟨a1, a2, a3, a4, a5⟩; first | (rw [h4] at a1; cases a1; done) | (rw [h5] at a2; cases a2; done) | exact h6 a3 | exact h7 a4 | exact h8 a5) (dck_wn D w hs hd h0 h1 h2 h3 h4)
  cases h5 : wi D.m D.g D.T
  · exact key 8 (by unfold Dr.ck; rw [if_neg hno, if_neg]; rintro ⟨a1, a2, a3, a4, a5⟩; first | (rw [h4] at a1; cases a1; done) | (rw [h5] at a2; cases a2; done) | exact h6 a3 | exact h7 a4 | exact h8 a5) (dck_wm D w hs hd h0 h1 h2 h3 h4 h5)
  by_cases h6 : chk D.W D.H D.k = 0
  · by_cases h7 : D.W = D.T
    · by_cases h8 : D.H = D.S
      · exact key 0 (by unfold Dr.ck; rw [if_neg hno, if_pos ⟨h4, h5, h6, h7, h8⟩]) (dck_ok D w hs hd h0 h1 h2 h3 h4 h5 h6 h7 h8)
      · exact key 8 (by unfold Dr.ck; rw [if_neg hno, if_neg]; rintro ⟨a1, a2, a3, a4, a5⟩; first | (rw [h4] at a1; cases a1; done) | (rw [h5] at a2; cases a2; done) | exact h6 a3 | exact h7 a4 | exact h8 a5) (dck_H D w hs hd h0 h1 h2 h3 h4 h5 h6 h7 h8)
    · exact key 8 (by unfold Dr.ck; rw [if_neg hno, if_neg]; rintro ⟨a1, a2, a3, a4, a5⟩; first | (rw [h4] at a1; cases a1; done) | (rw [h5] at a2; cases a2; done) | exact h6 a3 | exact h7 a4 | exact h8 a5) (dck_W D w hs hd h0 h1 h2 h3 h4 h5 h6 h7)
  · exact key 8 (by unfold Dr.ck; rw [if_neg hno, if_neg]; rintro ⟨a1, a2, a3, a4, a5⟩; first | (rw [h4] at a1; cases a1; done) | (rw [h5] at a2; cases a2; done) | exact h6 a3 | exact h7 a4 | exact h8 a5) (dck_g D w hs hd h0 h1 h2 h3 h4 h5 _ rfl (by simp [h6]))

theorem dck_is {D : Dr} {z : Int} (hz : D.ck = z) (hs : D.Small) (w : World) (hd : D.In w w.heap.size) :
    Calls Try.prog 49 #[.agg #[.int .i64 D.S, .int .i64 D.T, .slice D.A D.n D.c, .slice D.B D.m D.d, .int .i64 D.W, .int .i64 D.H, .slice D.C D.k D.e]] w fun e w' => e = .returned (.int .i64 z) ∧ Below w.heap.size w w' := by
  have h := dck_any D w hs hd
  rw [hz] at h
  exact h
end Go.Proofs.Ythipdfkgeghooaa

/- The reference's Check of a draft. -/
namespace Go.Proofs.Ythipdfkgeghooaa
open Go.RowKit
set_option linter.unusedVariables false
set_option linter.unusedSimpArgs false

theorem rgchk_err {W H : Int} {A : Option Addr} {n c : Nat} {err : Int} (hn : n ≤ 4200) (hx : chk W H n = err) (w : World) :
    Calls Try.prog 34 #[.agg #[.int .i64 W, .int .i64 H, .slice A n c]] w fun e w' => e = .returned (.int .i64 err) ∧ Below w.heap.size w w' := by
  have h := rchk_any W H A n c w hn
  rw [hx] at h
  exact h
end Go.Proofs.Ythipdfkgeghooaa

/- The closures of Weave and Lift. -/
namespace Go.Proofs.Ythipdfkgeghooaa
open Go.RowKit
set_option linter.unusedVariables false
set_option linter.unusedSimpArgs false
set_option maxRecDepth 100000

/-- What a walk asks of a valid draft: its variable, its lists, its tie-up. -/
structure DV (w : World) (gb : Nat) (D : Dr) (P : PD) : Prop where
  box : DBox w gb D
  cells : D.In w w.heap.size
  is : D.Is P
  ok : P.Ok
theorem DV.next {w w' : World} {gb : Nat} {D : Dr} {P : PD} (h : DV w gb D P) (hb : Below w.heap.size w w') : DV w' gb D P := ⟨h.box.next hb, h.cells.next hb, h.is, h.ok⟩

set_option maxHeartbeats 800000 in
theorem weave_clo {w : World} {gb : Nat} {D : Dr} {P : PD} (h : DV w gb D P) :
    Gives 51 #[.pointer (some ⟨gb, 0, none⟩)] w P.n P.m (fun x y => P.L (P.G y) (P.F x)) := by
  intro w1 x y hb hx hy
  have h1 := h.next hb
  clear h
  obtain ⟨S, T, A, n, c, B, m, d, W, H, C, k, e', f, g, b⟩ := D
  obtain ⟨PS, PT, Pn, Pm, PF, PG, PL⟩ := P
  obtain ⟨hbox, ⟨hth, htr, hti⟩, ⟨eS, eT, en, em, eW, eH, ek, ef, eg, eb⟩, ⟨p1, p2, p3, p4, p5, p6, p7, p8, pf, pg⟩⟩ := h1
  obtain ⟨q0, q1, q2, q3, q4, q5, q6, q7⟩ := hbox.all
  dsimp only at *
  subst eS eT en em eW eH ek
  obtain ⟨bA, oA, rfl, hbA, hcA⟩ := hth (by omega)
  obtain ⟨bB, oB, rfl, hbB, hcB⟩ := htr (by omega)
  have c1 := hcA x hx
  have c2 := hcB y hy
  rw [ef x hx] at c1
  rw [eg y hy] at c2
  have pfx := pf x hx
  have pgy := pg y hy
  have HE := Lib.hid (eb _ _ pgy pfx)
  have HC := Lib.hid (fun w' (hb' : Below w1.heap.size w1 w') => dcell_nat PT PS C e' (PG y) (PF x) b w' ((hti.below hb').more hb'.size) (by omega) (by omega) (PG y) (PF x) rfl rfl pgy pfx)
  clear hcA hcB hbox hth htr hti ef eg eb pf pg hb
  generalize PF x = px at *
  generalize PG y = py at *
  have y1 : (0 : Int) ≤ (x : Int) := by omega
  have y2 : (x : Int) < (n : Int) := by omega
  have y3 : (0 : Int) ≤ (y : Int) := by omega
  have y4 : (y : Int) < (m : Int) := by omega
  go_enter Try.func51, Try.ntmps51
  go_wp2
  go_still_tail 12, (by kernel_rfl)
  change wpList _ _ _ _ _ w1.drew
  go_wp2_with (go_at_call 52; refine (HC.out _ ?_).mono ?_; exact (Below.refl _ _).drew; rintro e w2 ⟨rfl, hb2⟩)
  go_ret
  exact ⟨ret_bool HE.out, (Below.refl _ _).drew.trans hb2⟩

/-- A draft's box and a grid's box, behind the first call. -/
theorem dafter2 {w w1 : World} {D : Dr} (hb : Below ((w.alloc (.cells #[.int .i64 D.S, .int .i64 D.T, .slice D.A D.n D.c, .slice D.B D.m D.d, .int .i64 D.W, .int .i64 D.H, .slice D.C D.k D.e] 63)).alloc (.cells #[.int .i64 0, .int .i64 0, .slice none 0 0] 57)).heap.size
      ((w.alloc (.cells #[.int .i64 D.S, .int .i64 D.T, .slice D.A D.n D.c, .slice D.B D.m D.d, .int .i64 D.W, .int .i64 D.H, .slice D.C D.k D.e] 63)).alloc (.cells #[.int .i64 0, .int .i64 0, .slice none 0 0] 57)) w1) :
    DBox w1 w.heap.size D ∧ Box w1 (w.heap.size + 1) 0 0 (.slice none 0 0) ∧ Below w.heap.size w w1 ∧ w.heap.size + 2 ≤ w1.heap.size := by
  have h1 := ((DBox.new w D).alloc (.cells #[.int .i64 0, .int .i64 0, .slice none 0 0] 57)).below hb (by simp; omega)
  have h2 := (Box.new (w.alloc (.cells #[.int .i64 D.S, .int .i64 D.T, .slice D.A D.n D.c, .slice D.B D.m D.d, .int .i64 D.W, .int .i64 D.H, .slice D.C D.k D.e] 63)) 0 0 (.slice none 0 0)).below hb (by simp)
  have h3 : Below w.heap.size w w1 := (((Below.refl _ _).alloc (Nat.le_refl _) _).alloc (by simp) _).trans (hb.mono (by simp; omega))
  have h4 := hb.size
  simp at h2 h4
  exact ⟨h1, h2, h3, by omega⟩
theorem dstart2 {w : World} {D : Dr} (hd : D.In w w.heap.size) : D.In ((w.alloc (.cells #[.int .i64 D.S, .int .i64 D.T, .slice D.A D.n D.c, .slice D.B D.m D.d, .int .i64 D.W, .int .i64 D.H, .slice D.C D.k D.e] 63)).alloc (.cells #[.int .i64 0, .int .i64 0, .slice none 0 0] 57)) ((w.alloc (.cells #[.int .i64 D.S, .int .i64 D.T, .slice D.A D.n D.c, .slice D.B D.m D.d, .int .i64 D.W, .int .i64 D.H, .slice D.C D.k D.e] 63)).alloc (.cells #[.int .i64 0, .int .i64 0, .slice none 0 0] 57)).heap.size :=
  hd.next (((Below.refl _ _).alloc (Nat.le_refl _) _).alloc (by simp) _)
theorem Dr.Is.small {D : Dr} {P : PD} (h : D.Is P) (hP : P.Ok) : D.Small := by
  have h2 := Nat.mul_le_mul hP.t1 hP.s1
  have h3 := h.k
  exact ⟨by rw [h.n]; have := hP.n1; omega, by rw [h.m]; have := hP.m1; omega, by omega⟩
end Go.Proofs.Ythipdfkgeghooaa

/- The program's Weave and Lift. -/
namespace Go.Proofs.Ythipdfkgeghooaa
open Go.RowKit
set_option linter.unusedVariables false
set_option linter.unusedSimpArgs false
set_option maxRecDepth 100000

set_option maxHeartbeats 800000 in
theorem weave_err {D : Dr} {err : Int} (hz : D.ck = err) (hne : (err != 0) = true) (hs : D.Small) (w : World) (hd : D.In w w.heap.size) :
    Calls Try.prog 33 #[.agg #[.int .i64 D.S, .int .i64 D.T, .slice D.A D.n D.c, .slice D.B D.m D.d, .int .i64 D.W, .int .i64 D.H, .slice D.C D.k D.e]] w (ErrGrid w err) := by
  have HC := Lib.hid (dck_is hz hs _ (dstart2 hd))
  clear hz hs hd
  go_enter Try.func33, Try.ntmps33
  go_wp2_with fail
  refine HC.out.mono ?_
  rintro e w1 ⟨rfl, hb1⟩
  obtain ⟨hbox1, hbox2, hbel1, hsz1⟩ := dafter2 hb1
  clear hb1
  obtain ⟨p0, p1, p2, p3, p4, p5, p6⟩ := hbox2.all
  go_wp2
  refine bodyPost_ret (v := .tuple #[.agg #[.int .i64 0, .int .i64 0, .slice none 0 0], .int .i64 err]) (by simp [results, Try.results33, go_sem, p0, p1, p2]) rfl ?_
  exact fin_err (by omega) hbel1

set_option maxHeartbeats 800000 in
theorem weave_ok {D : Dr} {P : PD} (hI : D.Is P) (hP : P.Ok) (w : World) (hd : D.In w w.heap.size) :
    Calls Try.prog 33 #[.agg #[.int .i64 D.S, .int .i64 D.T, .slice D.A D.n D.c, .slice D.B D.m D.d, .int .i64 D.W, .int .i64 D.H, .slice D.C D.k D.e]] w (OkGrid w P.n P.m (fun i => P.L (P.G (i / P.n)) (P.F (i % P.n)))) := by
  have hmf := mk_fn
  have HC := Lib.hid (dck_is (hI.ck hP) (hI.small hP) _ (dstart2 hd))
  have HD := Lib.hid hd
  have HI := Lib.hid hI
  have HP := Lib.hid hP
  obtain ⟨p1, p2, p3, p4, p5, p6, p7, p8, pf, pg⟩ := hP
  clear hI hd pf pg
  go_enter Try.func33, Try.ntmps33
  go_wp2_with fail
  refine HC.out.mono ?_
  rintro e w1 ⟨rfl, hb1⟩
  obtain ⟨hbox1, hbox2, hbel1, hsz1⟩ := dafter2 hb1
  clear hb1 HC
  obtain ⟨q0, q1, q2, q3, q4, q5, q6, q7⟩ := hbox1.all
  have hDV := Lib.hid (show DV w1 w.heap.size D P from ⟨hbox1, (HD.out.below hbel1).more hbel1.size, HI.out, HP.out⟩)
  clear hbox1
  go_wp2_with fail
  rw [HI.out.n, HI.out.m]
  refine (dbuild_any P.n P.m (by omega) (by omega) (by omega) (by omega) 51 _ _ _ (weave_clo hDV.out) (Go.Proofs.enters_of Try.func51 (by kernel_rfl) rfl)).mono ?_
  rintro e w2 ⟨k, rfl, hk, hrow, hb2⟩
  have hbox3 := hbox2.below hb2 (by omega)
  obtain ⟨p0', p1', p2', p3', p4', p5', p6'⟩ := hbox3.all
  go_wp2
  refine bodyPost_ret (v := .tuple #[.agg #[.int .i64 P.n, .int .i64 P.m, .slice (some ⟨k, 0, none⟩) (P.n * P.m) (P.n * P.m)], .int .i64 0]) (by simp [results, Try.results33, go_sem, p0', p1', p2']) rfl ?_
  exact fin_ok (by omega) (by omega) hrow (hbel1.trans (hb2.mono hbel1.size))

end Go.Proofs.Ythipdfkgeghooaa
