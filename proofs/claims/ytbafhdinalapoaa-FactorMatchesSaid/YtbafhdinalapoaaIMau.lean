/- Match, the program's other answers; the reference's Match. -/
import Derived.Test.YtbafhdinalapoaaIMat
import Derived.Test.YtbafhdinalapoaaIPar
import Derived.Test.YtbafhdinalapoaaIRen
import Derived.Test.YtbafhdinalapoaaIa
namespace Go.Proofs.Ytbafhdinalapoaa.L2
open Go.RowKit
set_option linter.unusedVariables false
set_option linter.unusedSimpArgs false

/-- The error of Match but for ErrNone, or 0. -/
def mchk (n : Nat) (f : Nat → Int) (m : Nat) (g : Nat → Int) : Int := if bchk n f m g ≠ 0 then bchk n f m g else if n ≠ m then 2 else 0

set_option maxHeartbeats 1600000 in
theorem match_err (A : Option Addr) (n c : Nat) (f : Nat → Int) (D : Option Addr) (m d : Nat) (g F : Nat → Int) (w : World) (err : Int) (hr : Holds w w.heap.size A n f) (hs : Holds w w.heap.size D m g) (hn : n ≤ 420) (hm : m ≤ 420)
    (hx : mchk n f m g = err) (hne : (err != 0) = true) : Calls Try.prog 84 #[.slice A n c, .slice D m d] w (LOut w 0 F err) := by
  obtain ⟨e1, he1⟩ : ∃ e1, bchk n f m g = e1 := ⟨_, rfl⟩
  have HT := Lib.hid (Two.new (c := c) (d := d) hr hs)
  have HB := Lib.hid ((Below.refl w.heap.size w).alloc (Nat.le_refl _) (.cells #[.slice A n c, .slice D m d] 28))
  have HC := Lib.hid (he1 ▸ checkall_any _ A n c f D m d g _ HT.out hn hm)
  unfold mchk at hx
  rw [he1] at hx
  clear hr hs he1
  by_cases z : e1 = 0
  · subst z
    rw [if_neg (by simp)] at hx
    by_cases z2 : n = m
    · rw [if_neg (by simp [z2])] at hx
      subst hx
      simp at hne
    · rw [if_pos z2] at hx
      subst hx
      have y : ((n : Int) != (m : Int)) = true := by simp; omega
      clear z2
      go_enter Try.func84, Try.ntmps84
      go_wp2_with fail
      refine HC.out.mono ?_
      rintro e w1 ⟨rfl, hb⟩
      have HF := Lib.hid (HB.out.trans (hb.mono HB.out.size))
      clear hb
      go_wp2
      go_ret2
      exact LOut.err HF.out
  · have z' : (e1 != 0) = true := by simp [z]
    rw [if_pos z] at hx
    subst hx
    clear hne
    go_enter Try.func84, Try.ntmps84
    go_wp2_with fail
    refine HC.out.mono ?_
    rintro e w1 ⟨rfl, hb⟩
    have HF := Lib.hid (HB.out.trans (hb.mono HB.out.size))
    clear hb
    go_wp2
    go_ret2
    exact LOut.err HF.out

theorem bchk_nil (f g : Nat → Int) : bchk 0 f 0 g = 0 := by
  unfold bchk lchk
  simp

set_option maxHeartbeats 1600000 in
theorem match_nil (A : Option Addr) (c : Nat) (f : Nat → Int) (D : Option Addr) (d : Nat) (g F : Nat → Int) (w : World) : Calls Try.prog 84 #[.slice A 0 c, .slice D 0 d] w (LOut w 0 F 0) := by
  have hr : Holds w w.heap.size A 0 f := Holds.none_
  have hs : Holds w w.heap.size D 0 g := Holds.none_
  have HT := Lib.hid (Two.new (c := c) (d := d) hr hs)
  have HB := Lib.hid ((Below.refl w.heap.size w).alloc (Nat.le_refl _) (.cells #[.slice A 0 c, .slice D 0 d] 28))
  have HC := Lib.hid (bchk_nil f g ▸ checkall_any _ A 0 c f D 0 d g _ HT.out (by omega) (by omega))
  clear hr hs
  go_enter Try.func84, Try.ntmps84
  go_wp2_with fail
  refine HC.out.mono ?_
  rintro e w1 ⟨rfl, hb⟩
  have HF := Lib.hid (HB.out.trans (hb.mono HB.out.size))
  clear hb
  go_wp2
  go_ret2
  exact LOut.err HF.out

set_option maxHeartbeats 1600000 in
theorem rmatch_err (A : Option Addr) (n c : Nat) (f : Nat → Int) (D : Option Addr) (m d : Nat) (g F : Nat → Int) (w : World) (err : Int) (hr : Holds w w.heap.size A n f) (hs : Holds w w.heap.size D m g) (hn : n ≤ 420) (hm : m ≤ 420)
    (hx : mchk n f m g = err) (hne : (err != 0) = true) : Calls Try.prog 85 #[.slice A n c, .slice D m d] w (LOut w 0 F err) := by
  obtain ⟨e1, he1⟩ : ∃ e1, bchk n f m g = e1 := ⟨_, rfl⟩
  have HR := Lib.hid hr
  have HS := Lib.hid hs
  have HC := Lib.hid (fun w (hr : Holds w w.heap.size A n f) (hs : Holds w w.heap.size D m g) => he1 ▸ both_any A n c f D m d g w hr hs hn hm)
  unfold mchk at hx
  rw [he1] at hx
  clear hr hs he1
  by_cases z : e1 = 0
  · subst z
    rw [if_neg (by simp)] at hx
    by_cases z2 : n = m
    · rw [if_neg (by simp [z2])] at hx
      subst hx
      simp at hne
    · rw [if_pos z2] at hx
      subst hx
      have y : ((n : Int) != (m : Int)) = true := by simp; omega
      clear z2
      go_enter Try.func85, Try.ntmps85
      go_wp2_with fail
      refine (HC.out _ HR.out HS.out).mono ?_
      rintro e w1 ⟨rfl, hb⟩
      have HF := Lib.hid hb
      clear hb
      go_wp2
      go_ret2
      exact LOut.err HF.out
  · have z' : (e1 != 0) = true := by simp [z]
    rw [if_pos z] at hx
    subst hx
    clear hne
    go_enter Try.func85, Try.ntmps85
    go_wp2_with fail
    refine (HC.out _ HR.out HS.out).mono ?_
    rintro e w1 ⟨rfl, hb⟩
    have HB := Lib.hid hb
    clear hb
    go_wp2_with fail
    refine (HC.out _ ((HR.out.below HB.out).more HB.out.size) ((HS.out.below HB.out).more HB.out.size)).mono ?_
    rintro e w2 ⟨rfl, hb⟩
    have HF := Lib.hid (HB.out.trans (hb.mono HB.out.size))
    clear hb
    go_wp2
    go_ret2
    exact LOut.err HF.out

set_option maxHeartbeats 1600000 in
theorem rmatch_nil (A : Option Addr) (c : Nat) (f : Nat → Int) (D : Option Addr) (d : Nat) (g F : Nat → Int) (w : World) : Calls Try.prog 85 #[.slice A 0 c, .slice D 0 d] w (LOut w 0 F 0) := by
  have HC := Lib.hid (bchk_nil f g ▸ both_any A 0 c f D 0 d g w Holds.none_ Holds.none_ (by omega) (by omega))
  go_enter Try.func85, Try.ntmps85
  go_wp2_with fail
  refine HC.out.mono ?_
  rintro e w1 ⟨rfl, hb⟩
  have HF := Lib.hid hb
  clear hb
  go_wp2
  refine wp_loop_rounds 1 ?_
  rw [rounds_succ]
  go_wp2
  refine wp_loop_rounds 1 ?_
  rw [rounds_succ]
  go_wp2
  refine wp_loop_rounds 1 ?_
  rw [rounds_succ]
  go_wp2
  go_ret2
  exact LOut.err HF.out

/-- What the last loop of the reference's Match keeps. -/
structure RS (W : World) (g N : Nat) (a b : Nat → Int) (k : Nat) (wr : World) : Prop where
  bel : Below W.heap.size W wr
  row : Row wr g N (fun x => mt a b k x)
  con : Cons a b k
  g0 : W.heap.size ≤ g
theorem RS.drewN {W : World} {g N : Nat} {a b : Nat → Int} {k : Nat} {wr : World} (h : RS W g N a b k wr) (m : Nat) : RS W g N a b k (wr.drewN m) := ⟨Go.Proofs.below_drewN' h.bel m, h.row, h.con, h.g0⟩
theorem RS.put {W : World} {g N : Nat} {a b : Nat → Int} {k U V : Nat} {wr : World} (h : RS W g N a b k wr) (hu : a k = U) (hv : b k = V) (hc : ∀ q, q < k → (a k = a q ↔ b k = b q)) :
    RS W g N a b (k + 1) (wr.drew.setCell ⟨g, U, none⟩ (.int .i64 V)) := by
  refine ⟨h.bel.drew.setCell h.g0 _, ?_, fun p q hp hq => ?_, h.g0⟩
  · have hrow : Row wr.drew g N (fun x => mt a b k x) := h.row
    refine (hrow.set_ U V).congr fun i hi => ?_
    rw [mt, hu, hv]
    by_cases e : i = U
    · rw [if_pos e, if_pos (by omega)]
    · rw [if_neg e, if_neg (by omega)]
  · rcases Nat.lt_or_ge p k with h3 | h3
    · exact h.con p q h3 hq
    · obtain rfl : p = k := by omega
      exact hc q hq

set_option maxRecDepth 100000 in
set_option maxHeartbeats 6400000 in
theorem rmatch_main (A : Option Addr) (n c : Nat) (a : Nat → Int) (D : Option Addr) (d : Nat) (b : Nat → Int) (N : Nat) (w : World) (hr : Holds w w.heap.size A n a) (hs : Holds w w.heap.size D n b) (h0 : 0 < n) (hn : n ≤ 400)
    (hx : bchk n a n b = 0) (hN : mxs a n + 1 = (N : Int)) (ha : ∀ i, i < n → 0 ≤ a i ∧ a i < 400) (hb : ∀ i, i < n → 0 ≤ b i ∧ b i < 400) : Calls Try.prog 85 #[.slice A n c, .slice D n d] w (MOut w a b n N) := by
  have hN0 : 1 ≤ N := by have := mxs_le a n 0 h0; have := (ha 0 h0).1; omega
  have hN1 : N ≤ 400 := by have := mxs_lt (a := a) (k := n) fun i hi => (ha i hi).2; omega
  have HC := Lib.hid (hx ▸ both_any A n c a D n d b w hr hs (by omega) (by omega))
  have HR := Lib.hid hr
  have HS := Lib.hid hs
  have HAV := Lib.hid ha
  have HBV := Lib.hid hb
  have z1 : ((n : Int) != (n : Int)) = false := by simp
  obtain ⟨M, hM⟩ : ∃ M, mxs a n = M := ⟨_, rfl⟩
  have HM := Lib.hid hM
  rw [hM] at hN
  have hM0 : 0 ≤ M := by omega
  have hM1 : M ≤ 400 := by omega
  obtain ⟨M', rfl⟩ : ∃ M' : Nat, M = M' := ⟨M.toNat, by omega⟩
  have hN2 : N = M' + 1 := by omega
  have hN3 : M' < N := by omega
  have hN4 : N ≤ M' + 1 := by omega
  clear hr hs hx ha hb hM hN hN2
  go_enter Try.func85, Try.ntmps85
  go_wp2_with fail
  refine HC.out.mono ?_
  rintro e w1 ⟨rfl, hb⟩
  have B1 := Lib.hid hb
  clear hb
  go_wp2
  go_loop [6, 7] (fun t i => ∃ k : Nat, k ≤ n ∧ i = .int .i64 k ∧ t = .int .i64 (mxs a k)) (fun _ i => n - (intOf i).toNat)
  case atStart => exact ⟨0, Nat.zero_le _, rfl, rfl⟩
  case round =>
    obtain ⟨k, hk, rfl, rfl⟩ := hrel
    by_cases hlt : k < n
    · obtain ⟨ba, oa, rfl, hla, hca⟩ := (HR.out.below B1.out) (by omega)
      have c1 := hca k hlt
      have y1 : (k : Int) < (n : Int) := by omega
      have HX := Lib.hid (show mxs a (k + 1) = max (mxs a k) (a k) from rfl)
      clear hca
      go_wp2
      exact ⟨⟨k + 1, by omega, by go_num, by rw [HX.out]⟩, by simp [intOf]; omega⟩
    · have e : n = k := by omega
      subst e
      rw [HM.out]
      go_wp2
      go_loopw [8, 9] (fun v i wr => ∃ k : Nat, k ≤ N ∧ i = .int .i64 k ∧ Own wr w.heap.size v k (fun _ => -1) ∧ Below w.heap.size w wr) (fun _ i _ => N - (intOf i).toNat)
      case atStart => exact ⟨0, Nat.zero_le _, rfl, Own.nil _ _ _, B1.out⟩
      case round =>
        obtain ⟨k, hk, rfl, hown, hbel⟩ := hrel
        by_cases hlt : k ≤ M'
        · have hsz := hbel.size
          have y1 : decide ((k : Int) ≤ (M' : Int)) = true := by simp; omega
          have HO := Lib.hid hown
          have HB := Lib.hid hbel
          clear hown hbel
          go_wp2_with (at_builtin; refine app1 _ rfl _ _ (by rfl) w.heap.size (by rfl) HO.out (-1) (by rfl) rfl (by omega) hsz ?_; intro v' w1 hown1 hb1; have HO1 := Lib.hid hown1; have HB1 := Lib.hid hb1; clear hown1 hb1)
          exact ⟨⟨k + 1, by omega, by go_num, HO1.out, HB.out.trans HB1.out⟩, by simp [intOf]; omega⟩
        · obtain rfl : N = k := by omega
          have y1 : decide ((N : Int) ≤ (M' : Int)) = false := by simp; omega
          obtain ⟨A', c', rfl, _, hrow⟩ := hown.out
          obtain ⟨g, rfl, hg, row⟩ := hrow (by omega)
          have K0 : Hid (RS w g N a b 0 wr) := Lib.hid ⟨hbel, row.congr fun _ _ => rfl, fun i j hi => absurd hi (by omega), hg⟩
          clear hown hbel row hrow hg
          go_wp2
          go_loopw [10] (fun i wr => ∃ k : Nat, k ≤ n ∧ i = .int .i64 k ∧ Hid (RS w g N a b k wr)) (fun i _ => n - (intOf i).toNat)
          case atStart => exact ⟨0, Nat.zero_le _, rfl, K0⟩
          case round =>
            obtain ⟨k, hk, rfl, hrs⟩ := hrel
            obtain ⟨wo, rfl⟩ : ∃ wo : World, wo = wr := ⟨_, rfl⟩
            by_cases hlt : k < n
            · have y1 : (k : Int) < (n : Int) := by omega
              clear K0
              go_wp2
              go_loopw [11] (fun i wr => ∃ j : Nat, j ≤ k ∧ i = .int .i64 j ∧ Hid (RS w g N a b k wr) ∧ Hid (∀ q, q < j → (a k = a q ↔ b k = b q))) (fun i _ => k - (intOf i).toNat)
              case atStart => exact ⟨0, Nat.zero_le _, rfl, hrs, Lib.hid fun q hq => absurd hq (by omega)⟩
              case round =>
                obtain ⟨j, hj, rfl, hrs2, hq⟩ := hrel
                have h := hrs2.out
                obtain ⟨ba, oa, rfl, hla, hca⟩ := (HR.out.below h.bel) (by omega)
                obtain ⟨bb, ob, rfl, hlb, hcb⟩ := (HS.out.below h.bel) (by omega)
                have c1 := hca k hlt
                have c2 := hcb k hlt
                by_cases hlj : j < k
                · have c3 := hca j (by omega)
                  have c4 := hcb j (by omega)
                  have y2 : (j : Int) < (k : Int) := by omega
                  have y3 : (j : Int) < (n : Int) := by omega
                  obtain ⟨u, hu⟩ : ∃ u, a k = u := ⟨_, rfl⟩
                  obtain ⟨v, hv⟩ : ∃ v, b k = v := ⟨_, rfl⟩
                  obtain ⟨s, hs⟩ : ∃ s, a j = s := ⟨_, rfl⟩
                  obtain ⟨t, ht⟩ : ∃ t, b j = t := ⟨_, rfl⟩
                  rw [hu] at c1
                  rw [hv] at c2
                  rw [hs] at c3
                  rw [ht] at c4
                  clear hca hcb
                  by_cases e1 : u = s
                  · have z1 : (u == s) = true := by simp [e1]
                    by_cases e2 : v = t
                    · have z2 : (v == t) = true := by simp [e2]
                      have HQ := Lib.hid (show ∀ q, q < j + 1 → (a k = a q ↔ b k = b q) from fun q hq' => by
                        rcases Nat.lt_or_ge q j with h3 | h3
                        · exact hq.out q h3
                        · obtain rfl : q = j := by omega
                          rw [hu, hv, hs, ht]
                          simp [e1, e2])
                      have HH := hrs2
                      clear e1 e2 hu hv hs ht h hq hrs hrs2
                      go_wp2
                      go_quiet (fail)
                      go_wp2
                      exact ⟨⟨j + 1, by omega, by go_num, Lib.hid (HH.out.drewN _), HQ⟩, by simp [intOf]; omega⟩
                    · have z2 : (v == t) = false := by simp [e2]
                      have HK := Lib.hid (show ¬ Cons a b n from fun hc => e2 (by
                        have := (hc k j hlt hlj).1 (by rw [hu, hs, e1])
                        rw [hv, ht] at this
                        exact this))
                      have HH := hrs2
                      clear e1 e2 hu hv hs ht h hq hrs hrs2
                      go_wp2
                      go_quiet (fail)
                      go_wp2
                      go_ret2
                      exact .inr ⟨HK.out, LOut.err (HH.out.drewN _).bel⟩
                  · have z1 : (u == s) = false := by simp [e1]
                    by_cases e2 : v = t
                    · have z2 : (v == t) = true := by simp [e2]
                      have HK := Lib.hid (show ¬ Cons a b n from fun hc => e1 (by
                        have := (hc k j hlt hlj).2 (by rw [hv, ht, e2])
                        rw [hu, hs] at this
                        exact this))
                      have HH := hrs2
                      clear e1 e2 hu hv hs ht h hq hrs hrs2
                      go_wp2
                      go_quiet (fail)
                      go_wp2
                      go_ret2
                      exact .inr ⟨HK.out, LOut.err (HH.out.drewN _).bel⟩
                    · have z2 : (v == t) = false := by simp [e2]
                      have HQ := Lib.hid (show ∀ q, q < j + 1 → (a k = a q ↔ b k = b q) from fun q hq' => by
                        rcases Nat.lt_or_ge q j with h3 | h3
                        · exact hq.out q h3
                        · obtain rfl : q = j := by omega
                          rw [hu, hv, hs, ht]
                          simp [e1, e2])
                      have HH := hrs2
                      clear e1 e2 hu hv hs ht h hq hrs hrs2
                      go_wp2
                      go_quiet (fail)
                      go_wp2
                      exact ⟨⟨j + 1, by omega, by go_num, Lib.hid (HH.out.drewN _), HQ⟩, by simp [intOf]; omega⟩
                · have e : j = k := by omega
                  subst e
                  have ha := HAV.out j hlt
                  have hb := HBV.out j hlt
                  obtain ⟨U, hU⟩ : ∃ U : Nat, a j = U := ⟨(a j).toNat, by omega⟩
                  obtain ⟨V, hV⟩ : ∃ V : Nat, b j = V := ⟨(b j).toNat, by omega⟩
                  have hUN : U < N := by have := mxs_le a n j hlt; rw [HM.out] at this; omega
                  have HP := Lib.hid (h.put hU hV hq.out)
                  have c3 := h.row.cell hUN
                  have f3 := h.row.free U
                  rw [hU] at c1
                  rw [hV] at c2
                  have y2 : (U : Int) < (N : Int) := by omega
                  obtain ⟨z, hz⟩ : ∃ z, mt a b j (U : Int) = z := ⟨_, rfl⟩
                  rw [hz] at c3
                  clear ha hb hU hV hz h hq hrs hrs2 hca hcb
                  go_wp2
                  go_still_tail 10, (by kernel_rfl)
                  change wpList _ _ _ _ _ wr.drew
                  go_wp2
                  go_roundw
                  case rel => exact ⟨j + 1, by omega, by go_num, Lib.hid HP.out⟩
                  case measure => simp [intOf]; omega
            · have e : k = n := by omega
              subst e
              have h := hrs.out
              have HK := Lib.hid (show MOut w a b k N (.returned (.tuple #[.slice (some ⟨g, 0, none⟩) N c', .int .i64 0])) wo from .inl ⟨h.con, LOut.row h.g0 h.row h.bel⟩)
              clear h hrs K0
              go_wp2
              go_ret2
              exact HK.out

theorem match_pair (A : Option Addr) (n c : Nat) (f : Nat → Int) (D : Option Addr) (m d : Nat) (g : Nat → Int) (w : World) (hn : n ≤ 420) (hm : m ≤ 420) (hr : Holds w w.heap.size A n f) (hs : Holds w w.heap.size D m g) :
    Both2 w 84 85 #[.slice A n c, .slice D m d] := by
  by_cases h0 : mchk n f m g = 0
  · have h1 : bchk n f m g = 0 ∧ n = m := by
      unfold mchk at h0
      split at h0
      · exact absurd h0 (by assumption)
      · rename_i h1
        split at h0
        · cases h0
        · exact ⟨by omega, by omega⟩
    obtain ⟨h1, rfl⟩ := h1
    rcases Nat.eq_zero_or_pos n with h2 | h2
    · subst h2
      exact ⟨0, fun _ => 0, 0, by omega, fun w' _ => match_nil A c f D d g _ w', fun w' _ => rmatch_nil A c f D d g _ w'⟩
    · have h3 : lchk n f = 0 ∧ lchk n g = 0 := by
        unfold bchk at h1
        split at h1
        · exact absurd h1 (by assumption)
        · exact ⟨by omega, h1⟩
      have hf := lchk_zero h3.1
      have hg := lchk_zero h3.2
      have hn4 := lchk_le h3.1
      have hmx := mxs_lt (a := f) (k := n) fun i hi => (hf i hi).2
      have hmg := mxs_ge f n
      have hN : mxs f n + 1 = (((mxs f n + 1).toNat : Nat) : Int) := by omega
      by_cases hc : Cons f g n
      · exact ⟨(mxs f n + 1).toNat, _, 0, by omega,
          fun w' hb => (match_main A n c f D d g _ w' (later hr hb) (later hs hb) h2 hn4 h1 hN hf hg).mono fun _ _ h => h.elim (fun h => h.2) (fun h => absurd hc h.1),
          fun w' hb => (rmatch_main A n c f D d g _ w' (later hr hb) (later hs hb) h2 hn4 h1 hN hf hg).mono fun _ _ h => h.elim (fun h => h.2) (fun h => absurd hc h.1)⟩
      · exact ⟨0, _, 6, by omega,
          fun w' hb => (match_main A n c f D d g _ w' (later hr hb) (later hs hb) h2 hn4 h1 hN hf hg).mono fun _ _ h => h.elim (fun h => absurd h.1 hc) (fun h => h.2),
          fun w' hb => (rmatch_main A n c f D d g _ w' (later hr hb) (later hs hb) h2 hn4 h1 hN hf hg).mono fun _ _ h => h.elim (fun h => absurd h.1 hc) (fun h => h.2)⟩
  · have hne : (mchk n f m g != 0) = true := by simp [h0]
    exact ⟨0, fun _ => 0, _, by omega, fun w' hb => match_err A n c f D m d g _ w' _ (later hr hb) (later hs hb) hn hm rfl hne, fun w' hb => rmatch_err A n c f D m d g _ w' _ (later hr hb) (later hs hb) hn hm rfl hne⟩

end Go.Proofs.Ytbafhdinalapoaa.L2
