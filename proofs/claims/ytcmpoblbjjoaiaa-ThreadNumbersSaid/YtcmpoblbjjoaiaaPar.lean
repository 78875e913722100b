/- What the program and the reference hand back, side by side. -/
import Derived.Test.YtcmpoblbjjoaiaaPtd
import Derived.Test.YtcmpoblbjjoaiaaRtl
import Derived.Test.YtcmpoblbjjoaiaaCat
import Derived.Test.YtcmpoblbjjoaiaaSame
namespace Go.Proofs.Ytcmpoblbjjoaiaa
open Go.RowKit
set_option linter.unusedVariables false
set_option linter.unusedSimpArgs false

/-- A function, called at any later world, hands this list and this error back. -/
def Gets (w : World) (k : Nat) (args : Array Value) (n : Nat) (F : Nat → Int) (err : Int) : Prop :=
  ∀ w', Below w.heap.size w w' → Calls Try.prog k args w' (LOut w' n F err)
/-- Two functions hand the same back. -/
def Both2 (w : World) (k l : Nat) (args : Array Value) : Prop := ∃ (n : Nat) (F : Nat → Int) (err : Int), n ≤ 420 ∧ Gets w k args n F err ∧ Gets w l args n F err

theorem straight_pair (n len : Int) (w : World) : Both2 w 11 12 #[.int .i64 n, .int .i64 len] := by
  cases h : rn n len
  · exact ⟨0, fun _ => 0, 2, by omega, fun w' _ => straight_err n len w' _ h, fun w' _ => rstraight_err n len w' _ h⟩
  · obtain ⟨N, L, rfl, rfl, h0, h1, h2⟩ := rn_nat h
    exact ⟨L, _, 0, by omega, fun w' _ => straight_ok N L w' h h0 h1 h2, fun w' _ => rstraight_ok N L w' h h0 h1 h2⟩
theorem pointed_pair (n len : Int) (w : World) : Both2 w 13 14 #[.int .i64 n, .int .i64 len] := by
  cases h : rn n len
  · exact ⟨0, fun _ => 0, 2, by omega, fun w' _ => pointed_err n len w' _ h, fun w' _ => rpointed_err n len w' _ h⟩
  · obtain ⟨N, L, rfl, rfl, h0, h1, h2⟩ := rn_nat h
    exact ⟨L, _, 0, by omega, fun w' _ => pointed_ok N L w' h h0 h1 h2, fun w' _ => rpointed_ok N L w' h h0 h1 h2⟩
theorem later {w w' : World} {A : Option Addr} {n : Nat} {f : Nat → Int} (hr : Holds w w.heap.size A n f) (hb : Below w.heap.size w w') : Holds w' w'.heap.size A n f := (hr.below hb).more hb.size
theorem rev_pair (A : Option Addr) (n c : Nat) (f : Nat → Int) (w : World) (hn : n ≤ 420) (hr : Holds w w.heap.size A n f) : Both2 w 19 20 #[.slice A n c] := by
  by_cases h0 : lchk n f = 0
  · have h1 := lchk_le h0
    exact ⟨n, _, 0, hn, fun w' hb => rev_ok A n c f w' h1 (later hr hb) h0, fun w' hb => rrev_ok A n c f w' h1 (later hr hb) h0⟩
  · have hne : (lchk n f != 0) = true := by simp [h0]
    exact ⟨0, fun _ => 0, _, by omega, fun w' hb => rev_err A n c f _ w' _ hn (later hr hb) rfl hne, fun w' hb => rrev_err A n c f _ w' _ hn (later hr hb) rfl hne⟩
theorem tile_pair (A : Option Addr) (n c : Nat) (f : Nat → Int) (t : Int) (w : World) (hn : n ≤ 420) (hA : A = none → c = 0) (hr : Holds w w.heap.size A n f) (ht0 : -9223372036854775808 ≤ t) (ht1 : t ≤ 9223372036854775807) :
    Both2 w 17 18 #[.slice A n c, .int .i64 t] := by
  by_cases h0 : tchk n f t = 0
  · obtain ⟨h1, h2, h3⟩ := tile_le h0
    obtain ⟨T, rfl⟩ : ∃ T : Nat, t = T := ⟨t.toNat, by omega⟩
    have := tile_mul h3
    exact ⟨n * T, _, 0, by omega, fun w' hb => tile_ok A n c f T w' (later hr hb) (by omega) h1 h3, fun w' hb => rtile_ok A n c f T w' hA (later hr hb) (by omega) h1 h3⟩
  · have hne : (tchk n f t != 0) = true := by simp [h0]
    exact ⟨0, fun _ => 0, _, by omega, fun w' hb => tile_err A n c f _ t w' _ hn (later hr hb) ht0 ht1 rfl hne, fun w' hb => rtile_err A n c f _ t w' _ hn (later hr hb) ht0 ht1 rfl hne⟩
theorem join_pair (A : Option Addr) (n c : Nat) (f : Nat → Int) (D : Option Addr) (m d : Nat) (g : Nat → Int) (w : World) (hn : n ≤ 420) (hm : m ≤ 420) (hA : A = none → c = 0) (hD : D = none → d = 0) (hr : Holds w w.heap.size A n f) (hs : Holds w w.heap.size D m g) :
    Both2 w 15 16 #[.slice A n c, .slice D m d] := by
  by_cases h0 : jchk n f m g = 0
  · have h1 : bchk n f m g = 0 ∧ n + m ≤ 400 := by
      unfold jchk at h0
      split at h0
      · exact absurd h0 (by assumption)
      · rename_i h1
        split at h0
        · cases h0
        · exact ⟨by omega, by omega⟩
    exact ⟨n + m, _, 0, by omega, fun w' hb => join_ok A n c f D m d g w' (later hr hb) (later hs hb) hA hD hn hm h1.1 h1.2, fun w' hb => rjoin_ok A n c f D m d g w' (later hr hb) (later hs hb) hA hD hn hm h1.1 h1.2⟩
  · have hne : (jchk n f m g != 0) = true := by simp [h0]
    exact ⟨0, fun _ => 0, _, by omega, fun w' hb => join_err A n c f D m d g _ w' _ (later hr hb) (later hs hb) hn hm rfl hne, fun w' hb => rjoin_err A n c f D m d g _ w' _ (later hr hb) (later hs hb) hn hm rfl hne⟩

/-- A list whose elements lie in a row of the call's own between lo and hi. -/
def LV (v : World) (lo hi : Nat) (A : Option Addr) (n : Nat) (F : Nat → Int) : Prop := 0 < n → ∃ k, A = some ⟨k, 0, none⟩ ∧ lo ≤ k ∧ k < hi ∧ Row v k n F
section
variable {v v' : World} {lo hi : Nat} {A : Option Addr} {n : Nat} {F : Nat → Int}
theorem LV.next (h : LV v lo hi A n F) (hb : Below v.heap.size v v') : LV v' lo hi A n F := fun hn => by
  obtain ⟨k, e, h1, h2, h3⟩ := h hn
  exact ⟨k, e, h1, h2, h3.below hb h3.lt⟩
theorem LV.drewN (h : LV v lo hi A n F) (m : Nat) : LV (v.drewN m) lo hi A n F := h
theorem LV.far (h : LV v lo hi A n F) {p : Addr} (hp : p.block < lo ∨ hi ≤ p.block) (u : Value) : LV (v.setCell p u) lo hi A n F := fun hn => by
  obtain ⟨k, e, h1, h2, h3⟩ := h hn
  exact ⟨k, e, h1, h2, h3.far (by omega) u⟩
theorem LV.set_ (h : LV v lo hi A n F) {k : Nat} (hk : A = some ⟨k, 0, none⟩) (hn : 0 < n) (i : Nat) (u : Int) : LV (v.setCell ⟨k, i, none⟩ (.int .i64 u)) lo hi A n (fun j => if j = i then u else F j) := fun _ => by
  obtain ⟨k', e, h1, h2, h3⟩ := h hn
  rw [hk] at e
  cases e
  exact ⟨k, hk, h1, h2, h3.set_ i u⟩
theorem LV.holds (h : LV v lo hi A n F) : Holds v v.heap.size A n F := fun hn => by
  obtain ⟨k, rfl, _, _, h3⟩ := h hn
  exact h3.holds h3.lt hn
theorem LV.of {w1 : World} (h : 0 < n → ∃ k, A = some ⟨k, 0, none⟩ ∧ lo ≤ k ∧ Row w1 k n F) : LV w1 lo w1.heap.size A n F := fun hn => by
  obtain ⟨k, e, h1, h3⟩ := h hn
  exact ⟨k, e, h1, h3.lt, h3⟩
theorem LV.own {w1 : World} {x : Value} (h : Own w1 lo x n F) : ∃ A c, x = .slice A n c ∧ LV w1 lo w1.heap.size A n F := by
  obtain ⟨A, c, e, _, h2⟩ := h.out
  exact ⟨A, c, e, LV.of h2⟩
end

/-- Two lists with the same elements are the same. -/
theorem rsame_eq (A D : Option Addr) (n c d : Nat) (f : Nat → Int) (w : World) (hn : n ≤ 5000) (hr : Holds w w.heap.size A n f) (hs : Holds w w.heap.size D n f) :
    Calls Try.prog 10 #[.slice A n c, .slice D n d] w fun e w' => e = .returned (.bool true) ∧ Below w.heap.size w w' := by
  have h := rsame_any A D n c d f f w hn hr hs
  have e : decide (∀ i, i < n → f i = f i) = true := by simp
  rw [e] at h
  exact h
theorem great_is {n : Nat} {b : Bool} (h : decide (60 < n ∧ n ≤ 400 ∨ 420 < n) = b) (A : Option Addr) (c : Nat) (w : World) :
    Calls Try.prog 5 #[.slice A n c] w fun e w' => e = .returned (.bool b) ∧ w = w' := by
  subst h
  exact (great_any A n c w).mono fun _ _ h => ⟨h.1, h.2.symm⟩
theorem great_no {n : Nat} (h : decide (60 < n ∧ n ≤ 400 ∨ 420 < n) = false) : n ≤ 420 := by
  simp at h
  omega
end Go.Proofs.Ytcmpoblbjjoaiaa
