/- Planes and operations: the group of layer 7 (arithmetic). -/
import Derived.Test.YtjbofdgdcnfmoaaFmo
import Derived.Test.YtjbofdgdcnfmoaaAlt
import Derived.Test.YtjbofdgdcnfmoaaMva
namespace Go.Proofs.Ytjbofdgdcnfmoaa
open Go.RowKit
set_option maxRecDepth 100000
set_option linter.unusedVariables false
set_option linter.unusedSimpArgs false

/-- The plane of a grid. -/
def GD.pl (G : GD) (x y : Int) : Bool := pz G.W G.H G.f x y
theorem GD.pl_mod {G : GD} {x y x' y' : Int} (hx : x % (G.W : Int) = x' % (G.W : Int)) (hy : y % (G.H : Int) = y' % (G.H : Int)) : G.pl x y = G.pl x' y' := pz_mod hx hy
theorem neg_mod (n : Nat) (hn : 1 ≤ n) (x : Int) : ((n - 1 - (x % (n : Int)).toNat : Nat) : Int) = (-1 - x) % (n : Int) := by
  have m0 := Int.emod_nonneg x (show (n : Int) ≠ 0 by omega)
  have m1 := Int.emod_lt_of_pos x (show 0 < (n : Int) by omega)
  have e : -1 - x = ((n : Int) - 1 - x % (n : Int)) + (n : Int) * (-(x / (n : Int)) - 1) := by
    have := Int.emod_add_mul_ediv x (n : Int)
    rw [Int.mul_sub, Int.mul_neg, Int.mul_one]
    omega
  rw [e, Int.add_mul_emod_self_left, Int.emod_eq_of_lt (a := (n : Int) - 1 - x % (n : Int)) (by omega) (by omega)]
  omega
theorem row_at {W a b : Nat} (h : b < W) : (a * W + b) / W = a ∧ (a * W + b) % W = b := by
  have hW : 0 < W := by omega
  constructor
  · rw [Nat.mul_comm, Nat.mul_add_div hW, Nat.div_eq_of_lt h, Nat.add_zero]
  · rw [Nat.mul_comm, Nat.mul_add_mod, Nat.mod_eq_of_lt h]
theorem tn_lt (n : Nat) (hn : 1 ≤ n) (x : Int) : (x % (n : Int)).toNat < n := by
  have m0 := Int.emod_nonneg x (show (n : Int) ≠ 0 by omega)
  have m1 := Int.emod_lt_of_pos x (show 0 < (n : Int) by omega)
  omega
theorem toNat_of {a : Nat} {b : Int} (h : (a : Int) = b) : a = b.toNat := by omega
theorem pl_m0 {G : GD} (ok : G.Ok) (x y : Int) : G.m0.pl x y = G.pl (-1 - x) y := by
  show G.f _ = G.f _
  have h := row_at (a := (y % (G.H : Int)).toNat) (tn_lt G.W ok.w0 x)
  show G.f (((y % (G.H : Int)).toNat * G.W + (x % (G.W : Int)).toNat) / G.W * G.W + (G.W - 1 - ((y % (G.H : Int)).toNat * G.W + (x % (G.W : Int)).toNat) % G.W)) = _
  rw [h.1, h.2, toNat_of (neg_mod G.W ok.w0 x)]
theorem pl_m1 {G : GD} (ok : G.Ok) (x y : Int) : G.m1.pl x y = G.pl x (-1 - y) := by
  have h := row_at (a := (y % (G.H : Int)).toNat) (tn_lt G.W ok.w0 x)
  show G.f ((G.H - 1 - ((y % (G.H : Int)).toNat * G.W + (x % (G.W : Int)).toNat) / G.W) * G.W + ((y % (G.H : Int)).toNat * G.W + (x % (G.W : Int)).toNat) % G.W) = G.f _
  rw [h.1, h.2, toNat_of (neg_mod G.H ok.h0 y)]
theorem pl_tn {G : GD} (ok : G.Ok) (x y : Int) : G.tn.pl x y = G.pl y x := by
  have h := row_at (a := (y % (G.W : Int)).toNat) (tn_lt G.H ok.h0 x)
  show G.f (((y % (G.W : Int)).toNat * G.H + (x % (G.H : Int)).toNat) % G.H * G.W + ((y % (G.W : Int)).toNat * G.H + (x % (G.H : Int)).toNat) / G.H) = G.f _
  rw [h.1, h.2]
theorem pl_nt (G : GD) (x y : Int) : G.nt.pl x y = !G.pl x y := rfl
def mi (b : Bool) (x : Int) : Int := if b = true then -1 - x else x
theorem mi_mi (b c : Bool) (x : Int) : mi b (mi c x) = mi (b != c) x := by cases b <;> cases c <;> simp [mi] <;> omega
theorem pl_apb {G : GD} (ok : G.Ok) (b1 b2 b4 b8 : Bool) (x y : Int) : (G.apb b1 b2 b4 b8).pl x y = (b8 != G.pl (mi b1 (if b4 = true then y else x)) (mi b2 (if b4 = true then x else y))) := by
  have h1 : (G.c GD.m0 b1).Ok := by cases b1; exact ok; exact ok.m0
  have h2 : ((G.c GD.m0 b1).c GD.m1 b2).Ok := by cases b2; exact h1; exact h1.m1
  have e1 : ∀ x y, (G.c GD.m0 b1).pl x y = G.pl (mi b1 x) y := by intro x y; cases b1; rfl; exact pl_m0 ok x y
  have e2 : ∀ x y, ((G.c GD.m0 b1).c GD.m1 b2).pl x y = G.pl (mi b1 x) (mi b2 y) := by intro x y; cases b2; exact e1 x y; exact (pl_m1 h1 x y).trans (e1 _ _)
  have e4 : ∀ x y, (((G.c GD.m0 b1).c GD.m1 b2).c GD.tn b4).pl x y = G.pl (mi b1 (if b4 = true then y else x)) (mi b2 (if b4 = true then x else y)) := by intro x y; cases b4; exact e2 x y; exact (pl_tn h2 x y).trans (e2 _ _)
  cases b8
  · rw [Bool.false_bne]; exact e4 x y
  · rw [Bool.true_bne]; exact congrArg Bool.not (e4 x y)
theorem apb_W (G : GD) (b1 b2 b4 b8 : Bool) : (G.apb b1 b2 b4 b8).W = if b4 = true then G.H else G.W := by cases b1 <;> cases b2 <;> cases b4 <;> cases b8 <;> rfl
theorem apb_H (G : GD) (b1 b2 b4 b8 : Bool) : (G.apb b1 b2 b4 b8).H = if b4 = true then G.W else G.H := by cases b1 <;> cases b2 <;> cases b4 <;> cases b8 <;> rfl
/-- Two grids of the same sides and plane have the same cells. -/
theorem eqv_of {G K : GD} (hW : G.W = K.W) (hH : G.H = K.H) (e : ∀ x y, G.pl x y = K.pl x y) : G.eqv K := by
  refine ⟨hW, hH, fun i hi => ?_⟩
  have hW0 : 0 < G.W := Nat.pos_of_ne_zero fun h => by rw [h, Nat.zero_mul] at hi; omega
  have h := e (i % G.W : Nat) (i / G.W : Nat)
  have key : ∀ (K : GD), K.W = G.W → K.H = G.H → K.pl (i % G.W : Nat) (i / G.W : Nat) = K.f i := by
    intro K h1 h2
    show pz K.W K.H K.f _ _ = _
    rw [pz_nat, h1, h2]
    unfold pc
    rw [Nat.mod_mod, Nat.mod_eq_of_lt (Nat.div_lt_of_lt_mul hi), Nat.mul_comm, Nat.div_add_mod]
  rw [key G rfl rfl, key K hW.symm hH.symm] at h
  exact h
theorem eqv_pl {G K : GD} (ok : G.Ok) (h : G.eqv K) (x y : Int) : G.pl x y = K.pl x y := by
  obtain ⟨h1, h2, h3⟩ := h
  show G.f _ = K.f _
  rw [← h1, ← h2]
  refine h3 _ ?_
  have a := tn_lt G.W ok.w0 x
  have b := tn_lt G.H ok.h0 y
  have := Nat.mul_le_mul_right G.W (show (y % (G.H : Int)).toNat + 1 ≤ G.H from b)
  rw [Nat.add_mul, Nat.one_mul, Nat.mul_comm G.H] at this
  omega
theorem GD.eqv.symm {G K : GD} (h : G.eqv K) : K.eqv G := ⟨h.1.symm, h.2.1.symm, fun i hi => (h.2.2 i (by rw [h.1, h.2.1]; exact hi)).symm⟩
theorem GD.eqv.trans {G K L : GD} (h : G.eqv K) (k : K.eqv L) : G.eqv L := ⟨h.1.trans k.1, h.2.1.trans k.2.1, fun i hi => (h.2.2 i hi).trans (k.2.2 i (by rw [← h.1, ← h.2.1]; exact hi))⟩
theorem GD.eqv.ok {G K : GD} (h : G.eqv K) (ok : G.Ok) : K.Ok := by
  obtain ⟨h1, h2, _⟩ := h
  exact ⟨h1 ▸ ok.w0, h1 ▸ ok.w1, h2 ▸ ok.h0, h2 ▸ ok.h1⟩
theorem cmp_bits : ∀ m, m < 16 → ∀ n, n < 16 → decide (cmp m n % 2 = 1) = (decide (m % 2 = 1) != (if decide (m / 4 % 2 = 1) = true then decide (n / 2 % 2 = 1) else decide (n % 2 = 1))) ∧
    decide (cmp m n / 2 % 2 = 1) = (decide (m / 2 % 2 = 1) != (if decide (m / 4 % 2 = 1) = true then decide (n % 2 = 1) else decide (n / 2 % 2 = 1))) ∧
    decide (cmp m n / 4 % 2 = 1) = (decide (m / 4 % 2 = 1) != decide (n / 4 % 2 = 1)) ∧ decide (cmp m n / 8 % 2 = 1) = (decide (m / 8 % 2 = 1) != decide (n / 8 % 2 = 1)) := by decide +kernel
theorem pl_comp {G : GD} (ok : G.Ok) {m n : Nat} (hm : m < 16) (hn : n < 16) (x y : Int) : ((G.ap m).ap n).pl x y = (G.ap (cmp m n)).pl x y := by
  obtain ⟨c1, c2, c4, c8⟩ := cmp_bits m hm n hn
  have okm := ap_ok ok m
  unfold GD.ap at okm ⊢
  rw [pl_apb okm, pl_apb ok, pl_apb ok, c1, c2, c4, c8]
  generalize decide (m % 2 = 1) = b1
  generalize decide (m / 2 % 2 = 1) = b2
  generalize decide (m / 4 % 2 = 1) = b4
  generalize decide (m / 8 % 2 = 1) = b8
  generalize decide (n % 2 = 1) = d1
  generalize decide (n / 2 % 2 = 1) = d2
  generalize decide (n / 4 % 2 = 1) = d4
  generalize decide (n / 8 % 2 = 1) = d8
  cases b4 <;> cases d4 <;> simp [mi_mi] <;> cases b8 <;> cases d8 <;> simp
theorem comp_W {G : GD} {m n : Nat} (hm : m < 16) (hn : n < 16) : ((G.ap m).ap n).W = (G.ap (cmp m n)).W ∧ ((G.ap m).ap n).H = (G.ap (cmp m n)).H := by
  obtain ⟨_, _, c4, _⟩ := cmp_bits m hm n hn
  unfold GD.ap
  simp only [apb_W, apb_H, c4]
  generalize decide (m / 4 % 2 = 1) = b4
  generalize decide (n / 4 % 2 = 1) = d4
  cases b4 <;> cases d4 <;> simp
theorem comp_eqv {G : GD} (ok : G.Ok) {m n : Nat} (hm : m < 16) (hn : n < 16) : ((G.ap m).ap n).eqv (G.ap (cmp m n)) := eqv_of (comp_W hm hn).1 (comp_W hm hn).2 fun x y => pl_comp ok hm hn x y
theorem ap_zero (G : GD) : G.ap 0 = G := rfl
/-- The planes are the same, but moved. -/
def Sim (G K : GD) : Prop := ∃ a b : Int, ∀ x y, G.pl x y = K.pl (x + a) (y + b)
theorem Sim.mt {G K : GD} {a b : Int} (h : Mt G.W G.H G.f K.W K.H K.f a b) : Sim G K := ⟨a, b, h⟩
theorem Sim.out {G K : GD} (h : Sim G K) : ∃ a b : Int, Mt G.W G.H G.f K.W K.H K.f a b := h
theorem Sim.refl (G : GD) : Sim G G := ⟨0, 0, fun x y => by rw [Int.add_zero, Int.add_zero]⟩
theorem Sim.symm {G K : GD} (h : Sim G K) : Sim K G := by
  obtain ⟨a, b, h⟩ := h
  exact ⟨-a, -b, fun x y => by rw [h]; congr 1 <;> omega⟩
theorem Sim.trans {G K L : GD} (h : Sim G K) (k : Sim K L) : Sim G L := by
  obtain ⟨a, b, h⟩ := h
  obtain ⟨c, d, k⟩ := k
  exact ⟨a + c, b + d, fun x y => by rw [h, k]; congr 1 <;> omega⟩
theorem Sim.eqv {G K : GD} (ok : G.Ok) (h : G.eqv K) : Sim G K := ⟨0, 0, fun x y => by rw [Int.add_zero, Int.add_zero]; exact eqv_pl ok h x y⟩
theorem mi_add (b : Bool) (x a : Int) : mi b x + a = mi b (x + mi b a + if b = true then 1 else 0) := by cases b <;> simp [mi] <;> omega
theorem Sim.ap {G K : GD} (okG : G.Ok) (okK : K.Ok) (h : Sim G K) (m : Nat) : Sim (G.ap m) (K.ap m) := by
  obtain ⟨a, b, h⟩ := h
  unfold GD.ap
  generalize decide (m % 2 = 1) = b1
  generalize decide (m / 2 % 2 = 1) = b2
  generalize decide (m / 4 % 2 = 1) = b4
  generalize decide (m / 8 % 2 = 1) = b8
  cases b4
  · refine ⟨mi b1 a + if b1 = true then 1 else 0, mi b2 b + if b2 = true then 1 else 0, fun x y => ?_⟩
    rw [pl_apb okG, pl_apb okK, h]
    simp only [Bool.false_eq_true, if_false]
    rw [mi_add, mi_add, Int.add_assoc, Int.add_assoc]
  · refine ⟨mi b2 b + if b2 = true then 1 else 0, mi b1 a + if b1 = true then 1 else 0, fun x y => ?_⟩
    rw [pl_apb okG, pl_apb okK, h]
    simp only [if_true]
    rw [mi_add, mi_add, Int.add_assoc, Int.add_assoc]
theorem Sim.comp {G : GD} (ok : G.Ok) {m n : Nat} (hm : m < 16) (hn : n < 16) : Sim ((G.ap m).ap n) (G.ap (cmp m n)) := Sim.eqv (ap_ok (ap_ok ok m) n) (comp_eqv ok hm hn)
theorem tk_iff {G K : GD} (okK : K.Ok) (m : Nat) : tk G K m = true ↔ Sim (G.ap m) K := by
  unfold tk
  rw [@decide_eq_true_iff _ (Classical.propDecidable _)]
  constructor
  · rintro ⟨x, y, h⟩
    exact ⟨x, y, h⟩
  · rintro ⟨a, b, h⟩
    refine ⟨(a % (K.W : Int)).toNat, (b % (K.H : Int)).toNat, fun x y => ?_⟩
    have m0 := Int.emod_nonneg a (show (K.W : Int) ≠ 0 by have := okK.w0; omega)
    have n0 := Int.emod_nonneg b (show (K.H : Int) ≠ 0 by have := okK.h0; omega)
    refine (h x y).trans (GD.pl_mod ?_ ?_)
    · rw [Int.toNat_of_nonneg m0]; simp
    · rw [Int.toNat_of_nonneg n0]; simp
theorem g_inv : ∀ m, m < 16 → inv m < 16 ∧ cmp m (inv m) = 0 ∧ cmp (inv m) m = 0 ∧ inv (inv m) = m := by decide +kernel
theorem g_zero : ∀ m, m < 16 → cmp m 0 = m ∧ cmp 0 m = m := by decide +kernel
theorem g_assoc : ∀ m, m < 16 → ∀ n, n < 16 → ∀ k, k < 16 → cmp (cmp m n) k = cmp m (cmp n k) := by decide +kernel
theorem tk_self {G : GD} (ok : G.Ok) : tk G G 0 = true := (tk_iff ok 0).2 (by rw [ap_zero]; exact Sim.refl G)
theorem tk_inv {G K : GD} (okG : G.Ok) (okK : K.Ok) {m : Nat} (hm : m < 16) (h : tk G K m = true) : tk K G (inv m) = true := by
  rw [tk_iff okK] at h
  rw [tk_iff okG]
  have k := h.ap (ap_ok okG m) okK (inv m)
  have c := Sim.comp okG hm (g_inv m hm).1
  rw [(g_inv m hm).2.1, ap_zero] at c
  exact k.symm.trans c
theorem tk_comp {G K L : GD} (okG : G.Ok) (okK : K.Ok) (okL : L.Ok) {m n : Nat} (hm : m < 16) (hn : n < 16) (h : tk G K m = true) (k : tk K L n = true) : tk G L (cmp m n) = true := by
  rw [tk_iff okK] at h
  rw [tk_iff okL] at k ⊢
  exact ((Sim.comp okG hm hn).symm.trans (h.ap (ap_ok okG m) okK n)).trans k
/-- Lists of operations and their numbers. -/
theorem ofl_count (T : Nat → Bool) (k : Nat) : (ofl T k).length = (List.range k).countP T := by
  unfold ofl
  rw [List.countP_eq_length_filter]
theorem count_perm {T U : Nat → Bool} {s : Nat → Nat} (hs : List.isPerm ((List.range 16).map s) (List.range 16) = true) (e : ∀ m, m < 16 → U m = T (s m)) : (ofl U 16).length = (ofl T 16).length := by
  rw [ofl_count, ofl_count, ← (List.isPerm_iff.1 hs).countP_eq T, List.countP_map]
  exact List.countP_congr fun m hm => by rw [e m (List.mem_range.1 hm)]; rfl
theorem perm_right : ∀ m, m < 16 → List.isPerm ((List.range 16).map fun n => cmp n m) (List.range 16) = true := by decide +kernel
theorem perm_inv : List.isPerm ((List.range 16).map inv) (List.range 16) = true := by decide +kernel
theorem perm_left : ∀ m, m < 16 → List.isPerm ((List.range 16).map fun n => cmp m (inv n)) (List.range 16) = true := by decide +kernel
/-- Two cloths are alike by as many operations as one has. -/
theorem alike_len {G K : GD} (okG : G.Ok) (okK : K.Ok) {m : Nat} (hm : m < 16) (h : tk G K m = true) : (ofl (tk G K) 16).length = (ofl (tk G G) 16).length := by
  refine (count_perm (perm_right m hm) fun n hn => ?_).symm
  rw [Bool.eq_iff_iff]
  constructor
  · intro k
    exact tk_comp okG okG okK hn hm k h
  · intro k
    have z := tk_comp okG okK okG (cmp_lt n hn m hm) (g_inv m hm).1 k (tk_inv okG okK hm h)
    rwa [g_assoc n hn m hm _ (g_inv m hm).1, (g_inv m hm).2.1, (g_zero n hn).1] at z
theorem alike_back {G K : GD} (okG : G.Ok) (okK : K.Ok) : (ofl (tk G K) 16).length = (ofl (tk K G) 16).length := by
  refine count_perm perm_inv fun n hn => ?_
  rw [Bool.eq_iff_iff]
  constructor
  · intro k
    exact tk_inv okG okK hn k
  · intro k
    have z := tk_inv okK okG (g_inv n hn).1 k
    rwa [(g_inv n hn).2.2.2] at z
/-- Classes of the same size. -/
theorem classes (E : Nat → Nat → Bool) (k : Nat) (n : Nat) : ∀ l : List Nat, l.length ≤ n → (∀ x ∈ l, E x x = true) → (∀ x ∈ l, ∀ y ∈ l, E x y = true → E y x = true) → (∀ x ∈ l, ∀ y ∈ l, ∀ z ∈ l, E x y = true → E y z = true → E x z = true) → (∀ x ∈ l, (l.filter (E x)).length = k) → k ∣ l.length := by
  induction n with
  | zero => intro l h _ _ _ _; rw [show l.length = 0 by omega]; exact ⟨0, by simp⟩
  | succ n ih =>
    intro l hl hr hs ht hk
    cases l with
    | nil => exact ⟨0, by simp⟩
    | cons a t =>
      have ha : a ∈ a :: t := List.mem_cons_self
      have h1 := hk a ha
      have hsum : ((a :: t).filter fun y => !E a y).length + k = (a :: t).length := by
        have e := List.length_eq_countP_add_countP (E a) (l := a :: t)
        rw [List.countP_eq_length_filter, List.countP_eq_length_filter, h1] at e
        have e2 : ((a :: t).filter fun y => !E a y).length = ((a :: t).filter fun y => decide (¬ E a y = true)).length := by
          congr 1
          apply List.filter_congr
          intro y _
          cases E a y <;> simp
        omega
      have hpos : 1 ≤ k := by
        rw [← h1]
        exact List.length_pos_of_mem (List.mem_filter.2 ⟨ha, hr a ha⟩)
      have sub : ∀ x, x ∈ ((a :: t).filter fun y => !E a y) → x ∈ a :: t ∧ E a x = false := fun x hx => by
        have := List.mem_filter.1 hx
        exact ⟨this.1, by simpa using this.2⟩
      obtain ⟨q, hq⟩ := ih ((a :: t).filter fun y => !E a y) (by omega) (fun x hx => hr x (sub x hx).1) (fun x hx y hy => hs x (sub x hx).1 y (sub y hy).1) (fun x hx y hy z hz => ht x (sub x hx).1 y (sub y hy).1 z (sub z hz).1) (fun x hx => by
        rw [← hk x (sub x hx).1, List.filter_filter]
        congr 1
        apply List.filter_congr
        intro y hy
        cases hxy : E x y with
        | false => rfl
        | true =>
          cases hay : E a y with
          | false => rfl
          | true =>
            have := ht a ha y hy x (sub x hx).1 hay (hs x (sub x hx).1 y hy hxy)
            rw [(sub x hx).2] at this
            cases this)
      exact ⟨q + 1, by rw [← hsum, hq, Nat.mul_add, Nat.mul_one]⟩
theorem g_inv2 : ∀ m, m < 16 → ∀ n, n < 16 → inv (cmp m (inv n)) = cmp n (inv m) := by decide +kernel
/-- The number of operations divides 16. -/
theorem group_div {T : Nat → Bool} (h0 : T 0 = true) (hi : ∀ m, m < 16 → T m = true → T (inv m) = true) (hc : ∀ m, m < 16 → ∀ n, n < 16 → T m = true → T n = true → T (cmp m n) = true) : 16 % (ofl T 16).length = 0 := by
  have key := classes (fun x y => T (cmp x (inv y))) (ofl T 16).length 16 (List.range 16) (by simp) (fun x hx => by
    have hx := List.mem_range.1 hx
    show T (cmp x (inv x)) = true
    rw [(g_inv x hx).2.1]; exact h0) (fun x hx y hy h => by
    have hx := List.mem_range.1 hx
    have hy := List.mem_range.1 hy
    have := hi _ (cmp_lt x hx _ (g_inv y hy).1) h
    rwa [g_inv2 x hx y hy] at this) (fun x hx y hy z hz h k => by
    have hx := List.mem_range.1 hx
    have hy := List.mem_range.1 hy
    have hz := List.mem_range.1 hz
    have := hc _ (cmp_lt x hx _ (g_inv y hy).1) _ (cmp_lt y hy _ (g_inv z hz).1) h k
    rwa [g_assoc x hx _ (g_inv y hy).1 _ (cmp_lt y hy _ (g_inv z hz).1), ← g_assoc _ (g_inv y hy).1 y hy _ (g_inv z hz).1, (g_inv y hy).2.2.1, (g_zero _ (g_inv z hz).1).2] at this) (fun x hx => by
    have hx := List.mem_range.1 hx
    exact count_perm (T := T) (U := fun y => T (cmp x (inv y))) (perm_left x hx) fun m hm => rfl)
  rw [List.length_range] at key
  exact Nat.mod_eq_zero_of_dvd key
end Go.Proofs.Ytjbofdgdcnfmoaa
