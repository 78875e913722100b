/- Valid grids of layer 7, Apply by its number, Place, lists of operations. -/
import Derived.Test.YtjbofdgdcnfmoaaMlf
import Derived.Test.YtjbofdgdcnfmoaaHas
import Derived.Test.YtjbofdgdcnfmoaaSbc
import Derived.Test.YtjbofdgdcnfmoaaSb
import Derived.Test.YtjbofdgdcnfmoaaSyw
import Derived.Test.YtjbofdgdcnfmoaaIl
namespace Go.Proofs.Ytjbofdgdcnfmoaa
open Go.RowKit
set_option maxRecDepth 100000
set_option linter.unusedVariables false
set_option linter.unusedSimpArgs false

/-- A grid with a motif. -/
structure GM (G : GD) : Prop where
  ok : G.Ok
  w : G.W ≤ 16
  h : G.H ≤ 16
theorem GM.sk {G : GD} (g : GM G) : schk G.W G.H (G.W * G.H) = 0 := by
  have h := chk_zero g.ok.w0 g.ok.w1 g.ok.h0 g.ok.h1
  have h1 := g.w
  have h2 := g.h
  unfold schk
  rw [h, if_neg (by simp), if_neg (by omega)]
theorem GM.of {W H : Nat} {n : Nat} (f : Nat → Bool) (h : schk (W : Nat) (H : Nat) n = 0) : GM ⟨W, H, f⟩ ∧ n = W * H := by
  obtain ⟨h1, h2, h3⟩ := schk_ok h
  obtain ⟨W', H', e1, e2, k1, k2, k3, k4, k5⟩ := chk_nat h1
  obtain rfl : W = W' := by omega
  obtain rfl : H = H' := by omega
  exact ⟨⟨⟨k1, k2, k3, k4⟩, by show W ≤ 16; omega, by show H ≤ 16; omega⟩, k5⟩
theorem ap_side (G : GD) (m : Nat) : ((G.ap m).W = G.W ∧ (G.ap m).H = G.H) ∨ ((G.ap m).W = G.H ∧ (G.ap m).H = G.W) := by
  unfold GD.ap
  rw [apb_W, apb_H]
  cases decide (m / 4 % 2 = 1)
  · exact .inl ⟨rfl, rfl⟩
  · exact .inr ⟨rfl, rfl⟩
theorem GM.ap {G : GD} (g : GM G) (m : Nat) : GM (G.ap m) := by
  have h1 := g.w
  have h2 := g.h
  rcases ap_side G m with ⟨e1, e2⟩ | ⟨e1, e2⟩ <;> exact ⟨ap_ok g.ok m, by omega, by omega⟩
theorem GM.n {G : GD} (g : GM G) : G.W * G.H ≤ 256 := by have := Nat.mul_le_mul g.w g.h; omega
theorem GM.n0 {G : GD} (g : GM G) : 0 < G.W * G.H := Nat.mul_pos g.ok.w0 g.ok.h0
theorem GM.bk {G K : GD} (g : GM G) (k : GM K) : bchk (G.W : Nat) (G.H : Nat) (G.W * G.H) (K.W : Nat) (K.H : Nat) (K.W * K.H) = 0 := by
  have h1 := (schk_ok g.sk).1
  have h2 := (schk_ok k.sk).1
  unfold bchk
  rw [h1, h2, g.sk, k.sk]
  rfl
/-- A grid that came back with no error, in a row of the call's own, with room for its cells. -/
def AOk (w : World) (G : GD) (e : Ending) (w' : World) : Prop := ∃ k d, e = .returned (.tuple #[.agg #[.int .i64 (G.W : Nat), .int .i64 (G.H : Nat), .slice (some ⟨k, 0, none⟩) (G.W * G.H) d], .int .i64 0]) ∧ G.W * G.H ≤ d ∧ w.heap.size ≤ k ∧ Row w' k (G.W * G.H) G.f ∧ Below w.heap.size w w'
theorem aok_fin {w v : World} {r k d : Nat} {G : GD} (hd : G.W * G.H ≤ d) (h : Row v k (G.W * G.H) G.f) (hk : w.heap.size ≤ k) (hr : w.heap.size ≤ r) (hne : k ≠ r) (hb : Below w.heap.size w v) (a b c : Value) :
    AOk w G (.returned (.tuple #[.agg #[.int .i64 (G.W : Nat), .int .i64 (G.H : Nat), .slice (some ⟨k, 0, none⟩) (G.W * G.H) d], .int .i64 0])) (((v.setCell ⟨r, 0, none⟩ a).setCell ⟨r, 1, none⟩ b).setCell ⟨r, 2, none⟩ c) :=
  ⟨k, d, rfl, hd, hk, ((h.far (by simp; omega) _).far (by simp; omega) _).far (by simp; omega) _, ((hb.setCell hr _).setCell hr _).setCell hr _⟩
set_option maxHeartbeats 1600000 in
theorem papn (G : GD) (g : GM G) (b o d m : Nat) (hm : m < 16) (w : World) (lb : b < w.heap.size) (hcs : ∀ i, i < G.W * G.H → w.cell? ⟨b, o + i, none⟩ = some (.bool (G.f i))) :
    Calls Try.prog 47 #[.agg #[.int .i64 (G.W : Nat), .int .i64 (G.H : Nat), .slice (some ⟨b, o, none⟩) (G.W * G.H) d], .int .i64 (m : Nat)] w (AOk w (G.ap m)) := by
  obtain ⟨h1, h2, h3, h4⟩ := boxes3 w (G.W : Nat) (G.H : Nat) (.slice (some ⟨b, o, none⟩) (G.W * G.H) d)
  have HC := Lib.hid (fun (u : World) (kk : Nat) (hb : Box u kk (G.W : Nat) (G.H : Nat) (.slice (some ⟨b, o, none⟩) (G.W * G.H) d)) => (show Calls Try.prog 92 #[.slice (some ⟨kk, 0, none⟩) 1 1] u fun e w' => e = .returned (.int .i64 0) ∧ Below u.heap.size u w' by have := check1_any (G.W : Nat) (G.H : Nat) (some ⟨b, o, none⟩) (G.W * G.H) d kk u (by have := g.n; omega) hb; rw [g.sk] at this; exact this))
  have X0 := Lib.hid h1
  have Y0 := Lib.hid h2
  have B0 := Lib.hid h3
  have LB0 := Lib.hid h4
  have hd : decide (0 ≤ (m : Int) ∧ (m : Int) < 16) = true := by rw [decide_eq_true_iff]; omega
  have HA := Lib.hid (fun (u : World) (h : Below w.heap.size w u) => papd G g.ok b o d m hm u (fun _ => ⟨b, o, rfl, Nat.lt_of_lt_of_le lb h.size, fun i hi => (h.cell (p := ⟨b, o + i, none⟩) lb).trans (hcs i hi)⟩))
  clear g hcs
  have HI := Lib.hid (fun u => (show Calls Try.prog 93 #[.int .i64 (m : Nat)] u fun e w' => e = .returned (.bool true) ∧ w' = u by have := isop_any m u; rw [hd] at this; exact this))
  clear hd
  clear h1 h2 h3 h4
  obtain ⟨mi_, hmi⟩ : ∃ z : Int, (m : Int) = z := ⟨_, rfl⟩
  rw [hmi] at HA HI
  rw [hmi]
  clear hmi
  generalize G.ap m = G2 at *
  go_enter Try.func47, Try.ntmps47
  obtain ⟨q0, q1, q2, q3, q4, q5, q6⟩ := (boxes2 w (G.W : Nat) (G.H : Nat) 0 0 (.slice (some ⟨b, o, none⟩) (G.W * G.H) d) (.slice none 0 0)).1.all
  go_wp2_with fail
  clear q0 q1 q2 q3 q4 q5 q6
  refine (HC.out _ _ B0.out).mono ?_
  rintro e w1 ⟨rfl, hb⟩
  have LB1 := Lib.hid (LB0.out.trans (hb.mono LB0.out.size))
  have X1 := Lib.hid (X0.out.below hb X0.out.lt)
  have Y1 := Lib.hid (Y0.out.below hb Y0.out.lt)
  have hsz := hb.size
  simp at hsz
  clear hb
  go_wp2_with fail
  refine (HI.out _).mono ?_
  rintro e w2 ⟨rfl, hww⟩
  subst w2
  obtain ⟨q0, q1, q2, q3, q4, q5, q6⟩ := X1.out.all
  go_wp2_with fail
  clear q0 q1 q2 q3 q4 q5 q6
  refine (HA.out _ LB1.out).mono ?_
  rintro e w3 ⟨k, d', rfl, hcap, hk, hrow, hb⟩
  have LB3 := Lib.hid (LB1.out.trans (hb.mono LB1.out.size))
  have Y3 := Lib.hid (Y1.out.below hb Y1.out.lt)
  have R3 := Lib.hid hrow
  clear hb hrow
  obtain ⟨p0, p1, p2, p3, p4, p5, p6⟩ := Y3.out.all
  go_wp2
  refine bodyPost_ret (v := .tuple #[.agg #[.int .i64 (G2.W : Nat), .int .i64 (G2.H : Nat), .slice (some ⟨k, 0, none⟩) (G2.W * G2.H) d'], .int .i64 0]) (by simp [results, Try.results47, go_sem, p0, p1, p2]) rfl ?_
  exact aok_fin hcap R3.out (by omega) (by omega) (by omega) LB3.out _ _ _
theorem papn_row (G : GD) (g : GM G) (k d m : Nat) (hm : m < 16) (w : World) (hr : Row w k (G.W * G.H) G.f) :
    Calls Try.prog 47 #[.agg #[.int .i64 (G.W : Nat), .int .i64 (G.H : Nat), .slice (some ⟨k, 0, none⟩) (G.W * G.H) d], .int .i64 (m : Nat)] w (AOk w (G.ap m)) :=
  papn G g k 0 d m hm w hr.lt fun i hi => by rw [Nat.zero_add]; exact hr.cell hi
/-- What Great answers of a grid with a motif. -/
theorem great7_two (W H : Int) (A : Option Addr) (n c : Nat) : (∀ w, Calls Try.prog 57 #[.agg #[.int .i64 W, .int .i64 H, .slice A n c]] w fun e w' => e = .returned (.bool true) ∧ Below w.heap.size w w') ∨ ((∀ w, Calls Try.prog 57 #[.agg #[.int .i64 W, .int .i64 H, .slice A n c]] w fun e w' => e = .returned (.bool false) ∧ Below w.heap.size w w') ∧ n ≤ 500) := by
  rcases great7_case W H A n c with h | ⟨h1, h2⟩
  · exact .inl h
  · exact .inr ⟨h2, h1⟩
set_option maxHeartbeats 800000 in
theorem valid7_great (W H : Int) (A : Option Addr) (n c : Nat) (w : World) (hg : ∀ w, Calls Try.prog 57 #[.agg #[.int .i64 W, .int .i64 H, .slice A n c]] w fun e w' => e = .returned (.bool true) ∧ Below w.heap.size w w') :
    Calls Try.prog 65 #[.agg #[.int .i64 W, .int .i64 H, .slice A n c]] w fun e w' => e = .returned (.bool false) ∧ Below w.heap.size w w' := by
  have HG := Lib.hid hg
  have X0 := Lib.hid (Box.new w W H (.slice A n c))
  have LB0 := Lib.hid (show Below w.heap.size w (w.alloc (.cells #[.int .i64 W, .int .i64 H, .slice A n c] 24)) from (Below.refl _ _).alloc (Nat.le_refl _) _)
  clear hg
  go_enter Try.func65, Try.ntmps65
  obtain ⟨q0, q1, q2, q3, q4, q5, q6⟩ := X0.out.all
  go_wp2_with fail
  clear q0 q1 q2 q3 q4 q5 q6
  refine (HG.out _).mono ?_
  rintro e w1 ⟨rfl, hb⟩
  have LB1 := Lib.hid (LB0.out.trans (hb.mono LB0.out.size))
  clear hb X0 LB0
  go_wp2
  go_ret
  exact ⟨rfl, LB1.out⟩
set_option maxHeartbeats 800000 in
theorem valid7_ng (W H : Int) (A : Option Addr) (n c : Nat) (w : World) (hn : n ≤ 4200) (z : Int) (t : Bool) (hx : schk W H n = z) (ht : (z == 0) = t) (hg : ∀ w, Calls Try.prog 57 #[.agg #[.int .i64 W, .int .i64 H, .slice A n c]] w fun e w' => e = .returned (.bool false) ∧ Below w.heap.size w w') :
    Calls Try.prog 65 #[.agg #[.int .i64 W, .int .i64 H, .slice A n c]] w fun e w' => e = .returned (.bool t) ∧ Below w.heap.size w w' := by
  have HG := Lib.hid hg
  have HC := Lib.hid (fun (u : World) => (show Calls Try.prog 103 #[.agg #[.int .i64 W, .int .i64 H, .slice A n c]] u fun e w' => e = .returned (.int .i64 z) ∧ Below u.heap.size u w' by have h := start_any W H A n c u hn; rwa [hx] at h))
  have X0 := Lib.hid (Box.new w W H (.slice A n c))
  have LB0 := Lib.hid (show Below w.heap.size w (w.alloc (.cells #[.int .i64 W, .int .i64 H, .slice A n c] 24)) from (Below.refl _ _).alloc (Nat.le_refl _) _)
  clear hg hx
  go_enter Try.func65, Try.ntmps65
  obtain ⟨q0, q1, q2, q3, q4, q5, q6⟩ := X0.out.all
  go_wp2_with fail
  clear q0 q1 q2 q3 q4 q5 q6
  refine (HG.out _).mono ?_
  rintro e w1 ⟨rfl, hb⟩
  have LB1 := Lib.hid (LB0.out.trans (hb.mono LB0.out.size))
  have X1 := Lib.hid (X0.out.below hb X0.out.lt)
  clear hb X0 LB0
  obtain ⟨q0, q1, q2, q3, q4, q5, q6⟩ := X1.out.all
  go_wp2_with fail
  clear q0 q1 q2 q3 q4 q5 q6
  refine (HC.out _).mono ?_
  rintro e w2 ⟨rfl, hb⟩
  have LB2 := Lib.hid (LB1.out.trans (hb.mono LB1.out.size))
  clear hb LB1
  go_wp2
  go_ret
  exact ⟨rfl, LB2.out⟩
theorem valid7_case (W H : Int) (A : Option Addr) (n c : Nat) : (∀ w, Calls Try.prog 65 #[.agg #[.int .i64 W, .int .i64 H, .slice A n c]] w fun e w' => e = .returned (.bool false) ∧ Below w.heap.size w w') ∨ ((∀ w, Calls Try.prog 65 #[.agg #[.int .i64 W, .int .i64 H, .slice A n c]] w fun e w' => e = .returned (.bool true) ∧ Below w.heap.size w w') ∧ ∃ U V : Nat, W = U ∧ H = V ∧ n = U * V ∧ ∀ f, GM ⟨U, V, f⟩) := by
  rcases great7_two W H A n c with h | ⟨h, hn⟩
  · exact .inl fun w => valid7_great W H A n c w h
  · by_cases hx : schk W H n = 0
    · refine .inr ⟨fun w => valid7_ng W H A n c w (by omega) 0 true hx (by simp) h, ?_⟩
      obtain ⟨W', H', rfl, rfl, k1, k2, k3, k4, k5⟩ := chk_nat (schk_ok hx).1
      exact ⟨W', H', rfl, rfl, k5, fun f => (GM.of f hx).1⟩
    · exact .inl fun w => valid7_ng W H A n c w (by omega) _ false rfl (by simpa using hx) h
/-- What Place answers. -/
def pl7 (f : Nat → Int) (x : Int) (m : Nat) : Int := match (List.range m).find? (fun j => decide (f j = x)) with | some j => (j : Int) | none => -1
theorem pl7_hit {f : Nat → Int} {x : Int} {m j : Nat} (hj : j < m) (e : f j = x) (hn : ∀ i, i < j → f i ≠ x) : pl7 f x m = j := by
  have h : (List.range m).find? (fun j => decide (f j = x)) = some j := by
    rw [List.find?_range_eq_some]
    exact ⟨by simpa using e, List.mem_range.2 hj, fun i hi => by simpa using hn i hi⟩
  unfold pl7
  rw [h]
theorem pl7_miss {f : Nat → Int} {x : Int} {m : Nat} (hn : ∀ i, i < m → f i ≠ x) : pl7 f x m = -1 := by
  have h : (List.range m).find? (fun j => decide (f j = x)) = none := by
    rw [List.find?_eq_none]
    intro i hi
    simpa using hn i (List.mem_range.1 hi)
  unfold pl7
  rw [h]
theorem pl7_yes {f : Nat → Int} {x : Int} {m : Nat} (h : ∃ i, i < m ∧ f i = x) : 0 ≤ pl7 f x m := by
  unfold pl7
  cases e : (List.range m).find? (fun j => decide (f j = x)) with
  | some j => exact Int.natCast_nonneg j
  | none =>
    obtain ⟨i, h1, h2⟩ := h
    rw [List.find?_eq_none] at e
    exact absurd h2 (by simpa using e i (List.mem_range.2 h1))
set_option maxHeartbeats 800000 in
theorem place_det (A : Option Addr) (m c : Nat) (f : Nat → Int) (x : Int) (w : World) (hr : L2.Holds w w.heap.size A m f) (hm : m ≤ 5000) :
    Calls Try.prog 66 #[.slice A m c, .int .i64 m, .int .i64 x] w fun e w' => e = .returned (.int .i64 (pl7 f x m)) ∧ w' = w := by
  have HR := Lib.hid hr
  clear hr
  go_enter Try.func66, Try.ntmps66
  go_wp2
  go_loop [7] (fun i => ∃ j : Nat, j ≤ m ∧ i = .int .i64 j ∧ Hid (∀ i, i < j → f i ≠ x)) (fun i => m - (intOf i).toNat)
  case atStart => exact ⟨0, Nat.zero_le _, rfl, Lib.hid (fun i h => absurd h (by omega))⟩
  case round =>
    obtain ⟨j, hj, rfl, hnn⟩ := hrel
    by_cases hlt : j < m
    · obtain ⟨b, o, rfl, hbl, hc⟩ := HR.out (by omega)
      have c1 := hc j (by omega)
      clear hc
      have y2 : (j : Int) < (m : Int) := by omega
      obtain ⟨u, hu⟩ : ∃ u, f j = u := ⟨_, rfl⟩
      rw [hu] at c1
      have HU := Lib.hid hu
      clear hu
      by_cases e : u = x
      · have z : (u == x) = true := by simp [e]
        have HP := Lib.hid (pl7_hit hlt (HU.out.trans e) hnn.out)
        clear e
        go_wp2
        go_ret
        exact ⟨by rw [HP.out]; rfl, rfl⟩
      · have z : (u == x) = false := by simp [e]
        have HN2 := Lib.hid (show ∀ i, i < j + 1 → f i ≠ x from fun i hi => by
          rcases Nat.lt_succ_iff_lt_or_eq.1 hi with h | rfl
          · exact hnn.out i h
          · rw [HU.out]; exact e)
        clear e
        go_wp2
        exact ⟨⟨j + 1, by omega, by go_num, HN2⟩, by simp [intOf]; omega⟩
    · have e : j = m := by omega
      subst e
      have HP := Lib.hid (pl7_miss hnn.out)
      go_wp2
      go_ret
      exact ⟨by rw [HP.out]; rfl, rfl⟩
theorem place_q (kl m c : Nat) (f : Nat → Int) (x : Int) (w : World) (n : Nat) (hr : L2.Row w kl m f) (hm : m ≤ 5000) :
    Calls Try.prog 66 #[.slice (some ⟨kl, 0, none⟩) m c, .int .i64 m, .int .i64 x] (w.drewN n) fun e w' => e = .returned (.int .i64 (pl7 f x m)) ∧ ∃ k, w' = w.drewN k :=
  (place_det _ m c f x (w.drewN n) ((hr.drewN n).holds (hr.drewN n).lt) hm).mono fun e w' ⟨h1, h2⟩ => ⟨h1, n, h2⟩
/-- The chosen operations as numbers. -/
def ln7 (l : List Nat) (i : Nat) : Nat := l[i]?.getD 0
theorem lf_ln (l : List Nat) (i : Nat) : lf l i = ((ln7 l i : Nat) : Int) := rfl
theorem ln7_mem {T : Nat → Bool} {k i : Nat} (h : i < (ofl T k).length) : ln7 (ofl T k) i < k ∧ T (ln7 (ofl T k) i) = true := by
  unfold ln7
  rw [List.getElem?_eq_getElem h, Option.getD_some]
  have := List.getElem_mem h
  unfold ofl at this
  obtain ⟨h1, h2⟩ := List.mem_filter.1 this
  exact ⟨List.mem_range.1 h1, h2⟩
theorem ln7_at {T : Nat → Bool} {k m : Nat} (h : m < k) (hT : T m = true) : ∃ i, i < (ofl T k).length ∧ ln7 (ofl T k) i = m := by
  have hm : m ∈ ofl T k := by unfold ofl; exact List.mem_filter.2 ⟨List.mem_range.2 h, hT⟩
  obtain ⟨i, hi, e⟩ := List.mem_iff_getElem.1 hm
  exact ⟨i, hi, by unfold ln7; rw [List.getElem?_eq_getElem hi, Option.getD_some, e]⟩
theorem ln7_lt {T : Nat → Bool} {k i j : Nat} (hij : i < j) (hj : j < (ofl T k).length) : ln7 (ofl T k) i < ln7 (ofl T k) j := by
  unfold ln7
  rw [List.getElem?_eq_getElem hj, List.getElem?_eq_getElem (Nat.lt_trans hij hj), Option.getD_some, Option.getD_some]
  have hs : (ofl T k).Pairwise (· < ·) := by unfold ofl; exact List.Pairwise.filter _ List.pairwise_lt_range
  exact List.pairwise_iff_getElem.1 hs i j _ hj hij
theorem ofl_zero {T : Nat → Bool} {k m : Nat} (h : m < k) (hT : T m = true) (hlow : ∀ j, j < m → T j = false) : 0 < (ofl T k).length ∧ ln7 (ofl T k) 0 = m := by
  obtain ⟨i, hi, e⟩ := ln7_at h hT
  have h0 : 0 < (ofl T k).length := by omega
  refine ⟨h0, ?_⟩
  rcases Nat.eq_zero_or_pos i with rfl | hp
  · exact e
  · have h1 := ln7_lt hp hi
    have h2 := (ln7_mem h0).2
    rw [hlow _ (by omega)] at h2
    cases h2
set_option maxHeartbeats 800000 in
theorem pcq (m n : Nat) (hm : m < 16) (hn : n < 16) (w : World) : Calls Try.prog 54 #[.int .i64 (m : Nat), .int .i64 (n : Nat)] w fun e w' => e = .returned (.tuple #[.int .i64 (cmp m n : Nat), .int .i64 0]) ∧ w' = w := by
  have HI := Lib.hid (fun (x : Nat) (hx : x < 16) u => (show Calls Try.prog 93 #[.int .i64 (x : Nat)] u fun e w' => e = .returned (.bool true) ∧ w' = u by have := isop_any (x : Nat) u; rw [decide_eq_true (by omega)] at this; exact this))
  have HX := Lib.hid (fun (y : Nat) (hy : y < 16) => xor_nat m hm y hy)
  obtain ⟨b, hb⟩ : ∃ b, decide (m / 4 % 2 = 1) = b := ⟨_, rfl⟩
  have h4 := bit4 m hm
  rw [hb] at h4
  have HC := Lib.hid (show cmp m n = m ^^^ (if b then acr n else n) by unfold cmp; rw [← hb]; simp)
  clear hb
  cases b
  · have hx := HX.out n hn
    go_enter Try.func54, Try.ntmps54
    go_wp2_with fail
    refine (HI.out m hm _).mono ?_
    rintro e w1 ⟨rfl, hw⟩
    subst w1
    go_wp2_with fail
    refine (HI.out n hn _).mono ?_
    rintro e w1 ⟨rfl, hw⟩
    subst w1
    go_wp2
    go_ret2
    exact ⟨by rw [HC.out]; rfl, rfl⟩
  · have hx := HX.out (acr n) (acr_lt n hn)
    go_enter Try.func54, Try.ntmps54
    go_wp2_with fail
    refine (HI.out m hm _).mono ?_
    rintro e w1 ⟨rfl, hw⟩
    subst w1
    go_wp2_with fail
    refine (HI.out n hn _).mono ?_
    rintro e w1 ⟨rfl, hw⟩
    subst w1
    go_wp2_with fail
    refine (across_any n hn _).mono ?_
    rintro e w1 ⟨rfl, hw⟩
    subst w1
    go_wp2
    go_ret2
    exact ⟨by rw [HC.out]; rfl, rfl⟩
theorem pcomp_q (m n : Nat) (hm : m < 16) (hn : n < 16) (w : World) (k : Nat) : Calls Try.prog 54 #[.int .i64 (m : Nat), .int .i64 (n : Nat)] (w.drewN k) fun e w' => e = .returned (.tuple #[.int .i64 (cmp m n : Nat), .int .i64 0]) ∧ ∃ j, w' = w.drewN j :=
  (pcq m n hm hn (w.drewN k)).mono fun e w' ⟨h1, h2⟩ => ⟨h1, k, h2⟩
/-- What Offset of two grids answers. -/
theorem foff {G K : GD} (okG : G.Ok) (okK : K.Ok) : (Sim G K ∧ ∃ a b, FOut2 G.W G.H G.f K.W K.H K.f a b 0) ∨ (¬ Sim G K ∧ FOut2 G.W G.H G.f K.W K.H K.f 0 0 6) := by
  obtain ⟨a, b, hF⟩ := tk_out G K 0
  rw [ap_zero] at hF
  by_cases h : tk G K 0 = true
  · rw [if_pos h] at hF
    have k := (tk_iff okK 0).1 h
    rw [ap_zero] at k
    exact .inl ⟨k, a, b, hF⟩
  · rw [if_neg h] at hF
    refine .inr ⟨fun k => h ((tk_iff okK 0).2 (by rw [ap_zero]; exact k)), ?_⟩
    have hF2 := hF
    rcases hF2 with ⟨_, _, _, _, _, e⟩ | ⟨_, e1, e2, _⟩
    · exact absurd e (by decide)
    · rw [e1, e2] at hF; exact hF
/-- Offset of two grids in memory. -/
theorem poff_gm {G K : GD} (g : GM G) (k : GM K) {a b' z : Int} (hF : FOut2 G.W G.H G.f K.W K.H K.f a b' z) (b o c b2 o2 d : Nat) (w : World) (la : b < w.heap.size) (lb : b2 < w.heap.size) (hca : ∀ i, i < G.W * G.H → w.cell? ⟨b, o + i, none⟩ = some (.bool (G.f i))) (hcb : ∀ i, i < K.W * K.H → w.cell? ⟨b2, o2 + i, none⟩ = some (.bool (K.f i))) (pa : G.W * G.H ≤ c) (pb : K.W * K.H ≤ d) :
    Calls Try.prog 25 #[.agg #[.int .i64 (G.W : Nat), .int .i64 (G.H : Nat), .slice (some ⟨b, o, none⟩) (G.W * G.H) c], .agg #[.int .i64 (K.W : Nat), .int .i64 (K.H : Nat), .slice (some ⟨b2, o2, none⟩) (K.W * K.H) d]] w fun e w' => e = .returned (.tuple #[.agg #[.int .i64 a, .int .i64 b'], .int .i64 z]) ∧ Below w.heap.size w w' :=
  poff_is hF b o c b2 o2 d w la lb hca hcb pa pb g.ok.w0 g.ok.w1 g.ok.h0 g.ok.h1 k.ok.w0 k.ok.w1 k.ok.h0 k.ok.h1
/-- Has of a grid in memory. -/
theorem phas_at {G : GD} (g : GM G) {m : Nat} (hm : m < 16) {a b' z : Int} (hF : FOut2 G.W G.H G.f (G.ap m).W (G.ap m).H (G.ap m).f a b' z) (b o c : Nat) (w : World) (lb : b < w.heap.size) (hcs : ∀ i, i < G.W * G.H → w.cell? ⟨b, o + i, none⟩ = some (.bool (G.f i))) (hc : G.W * G.H ≤ c) :
    Calls Try.prog 48 #[.agg #[.int .i64 (G.W : Nat), .int .i64 (G.H : Nat), .slice (some ⟨b, o, none⟩) (G.W * G.H) c], .int .i64 (m : Nat)] w fun e w' => e = .returned (.tuple #[.bool (decide (z = 0)), .agg #[.int .i64 a, .int .i64 b'], .int .i64 0]) ∧ Below w.heap.size w w' :=
  phas_ok (P := fun d' => (G.ap m).W * (G.ap m).H ≤ d') G.W G.H b o c _ _ (G.ap m).f m a b' z w hm (by have := g.n; omega) g.sk hF.z
    (fun u hu => papd G g.ok b o c m hm u (fun _ => ⟨b, o, rfl, Nat.lt_of_lt_of_le lb hu.size, fun i hi => (hu.cell (p := ⟨b, o + i, none⟩) lb).trans (hcs i hi)⟩))
    (fun u k d' hu hd' hr => poff_gm g (g.ap m) hF b o c k 0 d' u (Nat.lt_of_lt_of_le lb hu.size) hr.lt (fun i hi => (hu.cell (p := ⟨b, o + i, none⟩) lb).trans (hcs i hi)) (fun i hi => by rw [Nat.zero_add]; exact hr.cell hi) hc hd')
/-- Alike of two grids in memory. -/
theorem palk_at {G K : GD} (g : GM G) (k : GM K) (b o c b2 o2 d : Nat) (w : World) (la : b < w.heap.size) (lb : b2 < w.heap.size) (hca : ∀ i, i < G.W * G.H → w.cell? ⟨b, o + i, none⟩ = some (.bool (G.f i))) (hcb : ∀ i, i < K.W * K.H → w.cell? ⟨b2, o2 + i, none⟩ = some (.bool (K.f i))) (pa : G.W * G.H ≤ c) (pb : K.W * K.H ≤ d) :
    Calls Try.prog 50 #[.agg #[.int .i64 (G.W : Nat), .int .i64 (G.H : Nat), .slice (some ⟨b, o, none⟩) (G.W * G.H) c], .agg #[.int .i64 (K.W : Nat), .int .i64 (K.H : Nat), .slice (some ⟨b2, o2, none⟩) (K.W * K.H) d]] w (LOut w (ofl (tk G K) 16).length (lf (ofl (tk G K) 16)) 0) :=
  (alk_all G K g.ok k.ok b o c b2 o2 d w la lb hca hcb pa pb).1 (g.bk k)
theorem pall_at {G : GD} (g : GM G) (b o c : Nat) (w : World) (la : b < w.heap.size) (hca : ∀ i, i < G.W * G.H → w.cell? ⟨b, o + i, none⟩ = some (.bool (G.f i))) (pa : G.W * G.H ≤ c) :
    Calls Try.prog 46 #[.agg #[.int .i64 (G.W : Nat), .int .i64 (G.H : Nat), .slice (some ⟨b, o, none⟩) (G.W * G.H) c]] w (LOut w (ofl (tk G G) 16).length (lf (ofl (tk G G) 16)) 0) :=
  pall_any _ _ _ _ c w _ _ _ fun u hu => palk_at g g b o c b o c u (Nat.lt_of_lt_of_le la hu.size) (Nat.lt_of_lt_of_le la hu.size) (fun i hi => (hu.cell (p := ⟨b, o + i, none⟩) la).trans (hca i hi)) (fun i hi => (hu.cell (p := ⟨b, o + i, none⟩) la).trans (hca i hi)) pa pa
end Go.Proofs.Ytjbofdgdcnfmoaa
