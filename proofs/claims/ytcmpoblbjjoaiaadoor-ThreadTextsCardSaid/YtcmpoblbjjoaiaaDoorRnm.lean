/- The reference's Place, Numbered and Renumber. -/
import Derived.Test.YtcmpoblbjjoaiaaDoorNum
import Derived.Test.YtcmpoblbjjoaiaaDoorRev
namespace Go.Proofs.YtcmpoblbjjoaiaaDoor
open Go.RowKit
set_option linter.unusedVariables false
set_option linter.unusedSimpArgs false

/-- What Place answers. -/
def plc (f : Nat → Int) (x : Int) (k : Nat) : Int := if fst f x k < k then (fst f x k : Nat) else -1
theorem fst_mono {f : Nat → Int} {x : Int} {j : Nat} (h : fst f x j < j) : ∀ k, j ≤ k → fst f x k = fst f x j := by
  intro k hk
  induction k with
  | zero => obtain rfl : j = 0 := by omega
            rfl
  | succ k ih =>
    rcases Nat.eq_or_lt_of_le hk with e | hlt
    · rw [e]
    · have := ih (by omega)
      rw [fst_keep (by omega), this]
theorem plc_hit {f : Nat → Int} {x : Int} {j k : Nat} (h : ¬ fst f x j < j) (e : f j = x) (hk : j < k) : plc f x k = j := by
  have h1 := fst_succ_hit h e
  have h2 := fst_mono (f := f) (x := x) (j := j + 1) (by omega) k hk
  unfold plc
  rw [if_pos (by omega), h2, h1]
theorem plc_miss {f : Nat → Int} {x : Int} {k : Nat} (h : ¬ fst f x k < k) : plc f x k = -1 := by unfold plc; rw [if_neg h]

set_option maxHeartbeats 800000 in
theorem place_any (A : Option Addr) (m c k : Nat) (f : Nat → Int) (x : Int) (B : Nat) (w : World) (hr : Holds w B A m f) (hk : k ≤ m) (hm : m ≤ 5000) :
    Calls Tryd.prog 52 #[.slice A m c, .int .i64 k, .int .i64 x] w fun e w' => e = .returned (.int .i64 (plc f x k)) ∧ w = w' := by
  have HR := Lib.hid hr
  clear hr
  go_enter Tryd.func52, Tryd.ntmps52
  go_wp2
  go_loop [7] (fun i => ∃ j : Nat, j ≤ k ∧ i = .int .i64 j ∧ Hid (¬ fst f x j < j)) (fun i => k - (intOf i).toNat)
  case atStart => exact ⟨0, Nat.zero_le _, rfl, Lib.hid (by omega)⟩
  case round =>
    obtain ⟨j, hj, rfl, hno⟩ := hrel
    by_cases hlt : j < k
    · obtain ⟨b, o, rfl, hbl, hc⟩ := HR.out (by omega)
      have c1 := hc j (by omega)
      clear hc
      have y1 : (j : Int) < (k : Int) := by omega
      have y2 : (j : Int) < (m : Int) := by omega
      obtain ⟨u, hu⟩ : ∃ u, f j = u := ⟨_, rfl⟩
      rw [hu] at c1
      have HU := Lib.hid hu
      clear hu
      by_cases e : u = x
      · have z : (u == x) = true := by simp [e]
        have HP := Lib.hid (plc_hit hno.out (HU.out.trans e) hlt)
        clear e
        go_wp2
        go_ret
        exact ⟨by rw [HP.out]; rfl, rfl⟩
      · have z : (u == x) = false := by simp [e]
        have HN := Lib.hid (show ¬ fst f x (j + 1) < j + 1 by rw [fst_succ_miss hno.out (by rw [HU.out]; exact e)]; omega)
        clear e
        go_wp2
        exact ⟨⟨j + 1, by omega, by go_num, HN⟩, by simp [intOf]; omega⟩
    · have e : j = k := by omega
      subst e
      have HP := Lib.hid (plc_miss hno.out)
      go_wp2
      go_ret
      exact ⟨by rw [HP.out]; rfl, rfl⟩

theorem ren_seen {f : Nat → Int} {k : Nat} (h : fst f (f k) k < k) : ren f (fst f (f k) k) = ren f k := by
  have h1 := fst_at f (f k) k h
  unfold ren
  rw [h1]
  congr 2
  have h2 := fst_no f (f k) k
  rcases Nat.lt_or_ge (fst f (f k) (fst f (f k) k)) (fst f (f k) k) with h3 | h3
  · exact absurd (fst_at _ _ _ h3) (h2 _ h3)
  · have := fst_le f (f k) (fst f (f k) k); omega
theorem ren_new {f : Nat → Int} {k : Nat} (h : ¬ fst f (f k) k < k) : ren f k = (nd f k : Nat) := by unfold ren; rw [fst_end h]

/-- The renumbered list, and how many numbers it has. -/
def NbOut (w : World) (n : Nat) (f : Nat → Int) (e : Ending) (w' : World) : Prop :=
  ∃ A c, e = .returned (.tuple #[.slice A n c, .int .i64 (nd f n : Nat)]) ∧ (A = none → c = 0) ∧ (0 < n → ∃ k, A = some ⟨k, 0, none⟩ ∧ w.heap.size ≤ k ∧ Row w' k n (ren f)) ∧ Below w.heap.size w w'

set_option maxHeartbeats 3200000 in
theorem numbered_any (A : Option Addr) (n c : Nat) (f : Nat → Int) (w : World) (hn : n ≤ 5000) (hr : Holds w w.heap.size A n f) :
    Calls Tryd.prog 43 #[.slice A n c] w (NbOut w n f) := by
  have HR := Lib.hid hr
  clear hr
  go_enter Tryd.func43, Tryd.ntmps43
  go_wp2
  go_loopw [4, 5, 6] (fun v t i wr => ∃ k : Nat, k ≤ n ∧ i = .int .i64 k ∧ t = .int .i64 (nd f k : Nat) ∧ Own wr w.heap.size v k (ren f) ∧ Below w.heap.size w wr) (fun _ _ i _ => n - (intOf i).toNat)
  case atStart => exact ⟨0, Nat.zero_le _, rfl, rfl, Own.nil _ _ _, Below.refl _ _⟩
  case round =>
    obtain ⟨k, hk, rfl, rfl, hown, hbel⟩ := hrel
    by_cases hlt : k < n
    · have hsz := hbel.size
      have HP := Lib.hid (fun x => place_any A n c k f x w.heap.size wr (HR.out.below hbel) (by omega) hn)
      obtain ⟨b, o, rfl, hbl, hc⟩ := (HR.out.below hbel) (by omega)
      have c1 := hc k hlt
      have y1 : (k : Int) < (n : Int) := by omega
      have hnd := nd_le f k
      have HB := Lib.hid hbel
      clear hc hbel
      obtain ⟨A', c', rfl, _, hrow⟩ := hown.out
      have HO := Lib.hid hown
      clear hown
      by_cases hs : fst f (f k) k < k
      · have HS := Lib.hid (ren_seen hs)
        have HN := Lib.hid (show nd f (k + 1) = nd f k by rw [nd, if_pos hs]; rfl)
        have HQ := Lib.hid (show plc f (f k) k = (fst f (f k) k : Nat) by unfold plc; rw [if_pos hs])
        obtain ⟨g, rfl, hg, row⟩ := hrow (by omega)
        have c2 := row.cell hs
        rw [HS.out] at c2
        obtain ⟨p, hp⟩ : ∃ p, fst f (f k) k = p := ⟨_, rfl⟩
        rw [hp] at c2 hs HQ
        clear row hp HS
        obtain ⟨u, hu⟩ : ∃ u, f k = u := ⟨_, rfl⟩
        rw [hu] at c1 HQ
        obtain ⟨z, hz⟩ : ∃ z, ren f k = z := ⟨_, rfl⟩
        rw [hz] at c2
        have HZ := Lib.hid hz
        obtain ⟨m, hm⟩ : ∃ m, nd f k = m := ⟨_, rfl⟩
        rw [hm] at hnd HN ⊢
        have y3 : (p : Int) < (k : Int) := by omega
        clear hu hz hm hrow
        go_wp2_with fail
        refine (HP.out _).mono ?_
        rintro e w1 ⟨rfl, rfl⟩
        rw [HQ.out]
        go_wp2_with (at_builtin; refine app1 _ rfl _ _ (by rfl) w.heap.size (by rfl) HO.out z (by rfl) HZ.out (by omega) hsz ?_; intro v' w1 hown1 hb1; have HO1 := Lib.hid hown1; have HB1 := Lib.hid hb1; clear hown1 hb1)
        exact ⟨⟨k + 1, by omega, by go_num, by rw [HN.out], HO1.out, HB.out.trans HB1.out⟩, by simp [intOf]; omega⟩
      · have HN := Lib.hid (show nd f (k + 1) = nd f k + 1 by rw [nd, if_neg hs])
        have HQ := Lib.hid (plc_miss hs)
        have HZ := Lib.hid (ren_new hs)
        obtain ⟨u, hu⟩ : ∃ u, f k = u := ⟨_, rfl⟩
        rw [hu] at c1 HQ
        obtain ⟨m, hm⟩ : ∃ m, nd f k = m := ⟨_, rfl⟩
        rw [hm] at hnd HN HZ ⊢
        clear hu hm hrow hs
        go_wp2_with fail
        refine (HP.out _).mono ?_
        rintro e w1 ⟨rfl, rfl⟩
        rw [HQ.out]
        go_wp2_with (at_builtin; refine app1 _ rfl _ _ (by rfl) w.heap.size (by rfl) HO.out (m : Int) (by rfl) HZ.out (by omega) hsz ?_; intro v' w1 hown1 hb1; have HO1 := Lib.hid hown1; have HB1 := Lib.hid hb1; clear hown1 hb1)
        exact ⟨⟨k + 1, by omega, by go_num, by rw [HN.out]; go_num, HO1.out, HB.out.trans HB1.out⟩, by simp [intOf]; omega⟩
    · have e : k = n := by omega
      subst e
      obtain ⟨A', c', rfl, h1, h2⟩ := hown.out
      have HF : Hid (NbOut w k f (.returned (.tuple #[.slice A' k c', .int .i64 (nd f k : Nat)])) wr) := Lib.hid ⟨A', c', rfl, h1, h2, hbel⟩
      clear hown hbel h1 h2
      generalize nd f k = m at *
      go_wp2
      go_ret2
      exact HF.out

end Go.Proofs.YtcmpoblbjjoaiaaDoor
