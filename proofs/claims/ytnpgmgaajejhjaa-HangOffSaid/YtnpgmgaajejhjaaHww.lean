/- Walk of the program. -/
import Derived.Test.YtnpgmgaajejhjaaHpd
import Derived.Test.YtnpgmgaajejhjaaHpz
import Derived.Test.YtnpgmgaajejhjaaHra
import Derived.Deep.RegionLawGrows
namespace Go.Proofs.Ytnpgmgaajejhjaa
open Go.RowKit
set_option maxRecDepth 100000
set_option linter.unusedVariables false
set_option linter.unusedSimpArgs false

theorem lls_off {w : World} {tb N : Nat} {D : Option Addr} {L : Nat → List Nat} (h : LLs w D N L) (hc : w.heap[tb]? = some (.cells #[.slice none 0 0, .slice none 0 0] 98 (0, 0))) (hx : ∃ i, i < N ∧ 0 < (L i).length) (x y : Value) : LLs ((w.setCell ⟨tb, 0, none⟩ x).setCell ⟨tb, 1, none⟩ y) D N L := fun hn => by
  obtain ⟨b, o, e, hlt, hcl⟩ := h hn
  have hsm : ∀ (k : Nat) (v : Value), (#[.slice none 0 0, .slice none 0 0] : Array Value)[k]? = some v → v = .slice none 0 0 := fun k v hv => by
    rcases Nat.lt_or_ge k 2 with c | c
    · rcases (show k = 0 ∨ k = 1 by omega) with c | c <;> rw [c] at hv <;> cases hv <;> rfl
    · rw [Array.getElem?_eq_none (by simpa using c)] at hv; cases hv
  have far : ∀ k, k ≠ tb → ((w.setCell ⟨tb, 0, none⟩ x).setCell ⟨tb, 1, none⟩ y).heap[k]? = w.heap[k]? := fun k hk => (Below.heap_setCell _ _ _ k hk).trans (Below.heap_setCell _ _ _ k hk)
  have hne : b ≠ tb := fun e2 => by
    obtain ⟨i, hi, hp⟩ := hx
    obtain ⟨E, c, h1, _, _⟩ := hcl i hi
    rw [e2, Lib.cell_of_heap hc] at h1
    have h2 := hsm _ _ h1
    rw [Value.slice.injEq] at h2
    omega
  refine ⟨b, o, e, by simpa using hlt, fun i hi => ?_⟩
  obtain ⟨E, c, h1, h2, h3⟩ := hcl i hi
  refine ⟨E, c, (World.cell?_of_block (a := ⟨b, o + i, none⟩) (far b hne)).trans h1, h2, fun hp => ?_⟩
  obtain ⟨b2, o2, e2, hlt2, hcl2⟩ := h3 hp
  have hne2 : b2 ≠ tb := fun e3 => by
    have h4 := hcl2 0 hp
    rw [e3, Lib.cell_of_heap hc] at h4
    cases hsm _ _ h4
  exact ⟨b2, o2, e2, by simpa using hlt2, fun j hj => (World.cell?_of_block (a := ⟨b2, o2 + j, none⟩) (far b2 hne2)).trans (hcl2 j hj)⟩
theorem two_put {w : World} {tb : Nat} {x y : Value} (h : w.heap[tb]? = some (.cells #[x, y] 98 (0, 0))) (a b : Value) : ((w.setCell ⟨tb, 0, none⟩ a).setCell ⟨tb, 1, none⟩ b).heap[tb]? = some (.cells #[a, b] 98 (0, 0)) := setCell_al (va := y) (setCell_al h)
theorem blA {n : Nat} {w u : World} (h : Below n w u) (hn : n ≤ w.heap.size) (o : Obj) : Below n w (u.alloc o) := h.alloc (Nat.le_trans hn h.size) o
theorem blT {n : Nat} {w X u : World} (h : Below n w X) (hn : n ≤ w.heap.size) (k : Below X.heap.size X u) : Below n w u := h.trans (k.mono (Nat.le_trans hn h.size))
theorem alk {X u : World} {g : Nat} {cs : Array Value} (h : Below X.heap.size X u) (hx : X.heap[g]? = some (.cells cs 98 (0, 0))) : u.heap[g]? = some (.cells cs 98 (0, 0)) := (h.block g (Array.getElem?_eq_some_iff.1 hx).1).trans hx
theorem ofl_has {P : Nat → Bool} {N b : Nat} (h : b < N) (hp : P b = true) : 0 < (ofl P N).length := List.length_pos_of_mem (List.mem_filter.2 ⟨List.mem_range.2 h, hp⟩)
theorem lb_some {W H : Nat} (g : Nat → Bool) (hW : 1 ≤ W) (hH : 1 ≤ H) : ∃ i, i < W + H ∧ 0 < (LB W (W + H) g i).length := by
  cases h : ov W g 0 W
  · exact ⟨W, by omega, ofl_has (b := 0) (by omega) (by rw [ov_turn (a := 0) (by omega) (Nat.lt_irrefl W), h]; rfl)⟩
  · exact ⟨0, by omega, ofl_has (b := W) (by omega) h⟩
theorem la_some {W H : Nat} (g : Nat → Bool) (hW : 1 ≤ W) (hH : 1 ≤ H) : ∃ i, i < W + H ∧ 0 < (LA W (W + H) g i).length := by
  cases h : ov W g 0 W
  · exact ⟨0, by omega, ofl_has (b := W) (by omega) (by rw [ov_turn (a := 0) (by omega) (Nat.lt_irrefl W), h]; rfl)⟩
  · exact ⟨W, by omega, ofl_has (b := 0) (by omega) h⟩
/-- The ties lie in one cell. -/
def TC (w : World) (tb N : Nat) (L M : Nat → List Nat) : Prop := ∃ Db cb Da ca, w.heap[tb]? = some (.cells #[.slice Db N cb, .slice Da N ca] 98 (0, 0)) ∧ LLs w Db N L ∧ LLs w Da N M
set_option maxHeartbeats 800000 in
theorem pwalk_err {W H : Int} {A : Option Addr} {N c : Nat} (z : Int) (hN : N ≤ 4200) (hz : chk W H N = z) (hne : (z != 0) = true) (w : World) :
    Calls Try.prog 46 #[.agg #[.int .i64 W, .int .i64 H, .slice A N c]] w (PRet w [] z) := by
  have HK := Lib.hid (fun u => phangs_err (A := A) (c := c) z hN hz hne u)
  have LB0 := Lib.hid (show Below w.heap.size w (w.alloc (.cells #[.int .i64 W, .int .i64 H, (.slice A N c)] 24)) from (Below.refl _ _).alloc (Nat.le_refl _) _)
  clear hz
  go_enter Try.func46, Try.ntmps46
  go_wp2_with fail
  with_reducible refine Calls.mono (HK.out _) ?_
  rintro e w1 ⟨rfl, hb⟩
  have LB1 := Lib.hid (LB0.out.trans (hb.mono LB0.out.size))
  clear hb LB0
  go_wp2
  go_ret2
  exact ⟨none, 0, rfl, cp_nil, ll_nil _ _, LB1.out⟩
set_option maxHeartbeats 800000 in
theorem pwalk_no (W H N : Nat) (hNN : W + H = N) (A : Option Addr) (c : Nat) (g : Nat → Bool) (w : World) (hg : Holds w w.heap.size A (W * H) g) (hW0 : 1 ≤ W) (hW : W ≤ 64) (hH0 : 1 ≤ H) (hH : H ≤ 64) (hh : hgs (ov W g) N = false) : Calls Try.prog 46 #[.agg #[.int .i64 (W : Nat), .int .i64 (H : Nat), .slice A (W * H) c]] w (PRet w [] 20) := by
  have HK := Lib.hid (fun u (h : Below w.heap.size w u) => phangs_core W H N hNN A c g u ((hg.below h).more h.size) hW0 hW hH0 hH false hh)
  have X0 := Lib.hid (Box.new w (W : Nat) (H : Nat) (.slice A (W * H) c))
  have LB0 := Lib.hid (show Below w.heap.size w (w.alloc (.cells #[.int .i64 (W : Nat), .int .i64 (H : Nat), (.slice A (W * H) c)] 24)) from (Below.refl _ _).alloc (Nat.le_refl _) _)
  clear hg hh
  generalize W * H = M at *
  go_enter Try.func46, Try.ntmps46
  go_wp2_with fail
  generalize w.alloc (.cells #[.int .i64 (W : Nat), .int .i64 (H : Nat), .slice A M c] 24) = w0 at *
  obtain ⟨q0, q1, q2, q3, q4, q5, q6⟩ := X0.out.all
  go_wp2_with fail
  clear q0 q1 q2 q3 q4 q5 q6
  with_reducible refine Calls.mono (HK.out _ LB0.out) ?_
  rintro e w1 ⟨rfl, hb⟩
  have X1 := Lib.hid (X0.out.below hb X0.out.lt)
  have LB1 := Lib.hid (LB0.out.trans (hb.mono LB0.out.size))
  clear hb X0 LB0
  obtain ⟨q0, q1, q2, q3, q4, q5, q6⟩ := X1.out.all
  clear q0 q1 q2 q3 q4 q5 q6
  go_wp2
  go_ret2
  exact ⟨none, 0, rfl, cp_nil, ll_nil _ _, LB1.out⟩
set_option maxHeartbeats 3200000 in
theorem pwalk_ok (W H N : Nat) (hNN : W + H = N) (A : Option Addr) (c : Nat) (g : Nat → Bool) (w : World) (hg : Holds w w.heap.size A (W * H) g) (hW0 : 1 ≤ W) (hW : W ≤ 64) (hH0 : 1 ≤ H) (hH : H ≤ 64) (hh : hgs (ov W g) N = true) : Calls Try.prog 46 #[.agg #[.int .i64 (W : Nat), .int .i64 (H : Nat), .slice A (W * H) c]] w (PRet w (wlk (ov W g) N N) 0) := by
  have HK := Lib.hid (fun u (h : Below w.heap.size w u) => phangs_core W H N hNN A c g u ((hg.below h).more h.size) hW0 hW hH0 hH true hh)
  have HT := Lib.hid (fun u (h : Below w.heap.size w u) => ties_any W H A c g u ((hg.below h).more h.size) hW0 hW hH0 hH)
  have hN0 : 0 < N := by omega
  have hN : N ≤ 128 := by omega
  have HF := Lib.hid (fun tt b (ht : tt < N) (hb : b < N) => (up_iff.1 ((hgs_iff hN0).1 hh _ _ ht hb) : 0 ≤ far (ov W g) N tt b))
  have HWY := Lib.hid (fun u Db Da cb ca (h1 : LLs u Db N (LB W N g)) (h2 : LLs u Da N (LA W N g)) a (ha : a < N) => pway_n W N g Db Da cb ca a ((a + 1) % N) u h1 h2 ha (Nat.mod_lt _ hN0) hN fun b hb => HF.out _ b (Nat.mod_lt _ hN0) hb)
  have HLN := Lib.hid (fun k (h : k ≤ N) => wlk_len (R := ov W g) hN0 k h)
  have HWL := Lib.hid (fun k => (show wlk (ov W g) N (k + 1) = wlk (ov W g) N k ++ wal (ov W g) N ((k + 1) % N) k (far (ov W g) N ((k + 1) % N) k).toNat from rfl))
  have HXB := Lib.hid (lb_some g hW0 hH0)
  have HXA := Lib.hid (la_some g hW0 hH0)
  unfold TiR at HT
  have HNE := Lib.hid (show IntKind.i64.wrap ((W : Int) + (H : Int)) = (N : Int) by rw [IntWalk.i64_in _ (by omega)]; omega)
  rw [hNN] at HT HXB HXA
  have X0 := Lib.hid (Box.new w (W : Nat) (H : Nat) (.slice A (W * H) c))
  have LB0 := Lib.hid (show Below w.heap.size w (w.alloc (.cells #[.int .i64 (W : Nat), .int .i64 (H : Nat), (.slice A (W * H) c)] 24)) from (Below.refl _ _).alloc (Nat.le_refl _) _)
  clear hg hh hNN
  generalize W * H = M at *
  go_enter Try.func46, Try.ntmps46
  go_wp2_with fail
  generalize w.alloc (.cells #[.int .i64 (W : Nat), .int .i64 (H : Nat), .slice A M c] 24) = w0 at *
  obtain ⟨q0, q1, q2, q3, q4, q5, q6⟩ := X0.out.all
  go_wp2_with fail
  clear q0 q1 q2 q3 q4 q5 q6
  with_reducible refine Calls.mono (HK.out _ LB0.out) ?_
  rintro e w1 ⟨rfl, hb⟩
  have X1 := Lib.hid (X0.out.below hb X0.out.lt)
  have LB1 := Lib.hid (LB0.out.trans (hb.mono LB0.out.size))
  clear hb X0 LB0
  obtain ⟨q0, q1, q2, q3, q4, q5, q6⟩ := X1.out.all
  go_upto_region 6 with (fail)
  clear q0 q1 q2 q3 q4 q5 q6
  generalize w1 = v0 at *
  go_cut [6, 7] (fun p q wx => ∃ tb, p = .pointer (some ⟨tb, 0, none⟩) ∧ q = .int .i64 (N : Nat) ∧ TC wx tb N (LB W N g) (LA W N g) ∧ Below v0.heap.size v0 wx ∧ v0.heap.size ≤ tb)
  case first =>
    have HS := Lib.hid (fun u (h : Below v0.heap.size v0 u) => (show u.cell? ⟨w.heap.size, 0, none⟩ = some (.int .i64 (W : Nat)) ∧ u.cell? ⟨w.heap.size, 1, none⟩ = some (.int .i64 (H : Nat)) ∧ u.cell? ⟨w.heap.size, 2, none⟩ = some (.slice A M c) from ⟨(X1.out.below h X1.out.lt).c0, (X1.out.below h X1.out.lt).c1, (X1.out.below h X1.out.lt).c2⟩))
    have HC := Lib.hid (fun u (h : Below v0.heap.size v0 u) => HT.out u (LB1.out.trans (h.mono LB1.out.size)))
    have hne := HNE.out
    clear HT HWY HLN HWL HK HF
    obtain ⟨q0, q1, q2, q3, q4, q5, q6⟩ := X1.out.all
    go_region_held3 (fun w' => w'.cell? ⟨w.heap.size, 0, none⟩ = some (.int .i64 (W : Nat)) ∧ w'.cell? ⟨w.heap.size, 1, none⟩ = some (.int .i64 (H : Nat)) ∧ w'.cell? ⟨w.heap.size, 2, none⟩ = some (.slice A M c))
      (exact HS.out _ (by (repeat' (first | assumption | exact Below.refl _ _ | refine Below.drew ?_ | refine blA ?_ (Nat.le_refl _) _ | refine Below.setCell ?_ (by exact Nat.le_refl _) _))))
      ((go_at_call 78
        with_reducible refine Calls.mono (HC.out _ (by (repeat' (first | assumption | exact Below.refl _ _ | refine Below.drew ?_ | refine blA ?_ (Nat.le_refl _) _)))) ?_
        rintro e u1 ⟨Db, cb, Da, ca, rfl, hlb1, hla1, hb1⟩
        have hx1 : Below v0.heap.size v0 u1 := blT (by (repeat' (first | assumption | exact Below.refl _ _ | refine Below.drew ?_ | refine blA ?_ (Nat.le_refl _) _))) (Nat.le_refl _) hb1
        have hlb := Lib.hid hlb1
        have hla := Lib.hid hla1
        clear hlb1 hla1
        try (have kp1 : u1.heap[v0.heap.size]? = some (.cells #[.slice none 0 0, .slice none 0 0] 98 (0, 0)) := alk hb1 (World.alloc_heap_new _ _); have hp1 := Lib.hid kp1; obtain ⟨g0, g1, g2, g3⟩ := al_cells kp1)))
    all_goals
      go_wp2_with fail
      go_meet
      first
      | exact ⟨_, rfl, rfl, ⟨_, _, _, _, World.alloc_heap_new _ _, hlb.out.below ((Below.refl _ _).alloc (Nat.le_refl _) _), hla.out.below ((Below.refl _ _).alloc (Nat.le_refl _) _)⟩, blA hx1 (Nat.le_refl _) _, hx1.size⟩
      | exact ⟨_, rfl, rfl, ⟨_, _, _, _, two_put hp1.out _ _, lls_off hlb.out hp1.out HXB.out _ _, lls_off hla.out hp1.out HXA.out _ _⟩, (hx1.setCell (Nat.le_refl _) _).setCell (Nat.le_refl _) _, Nat.le_refl _⟩
  case rest =>
    obtain ⟨tb, rfl, rfl, ⟨Db, cb, Da, ca, htc, hlb, hla⟩, hb, htb⟩ := hcut
    have LB2 := Lib.hid (LB1.out.trans (hb.mono LB1.out.size))
    have HTC := Lib.hid htc
    have HLB := Lib.hid hlb
    have HLA := Lib.hid hla
    clear hb htc hlb hla HT HK HF HXB HXA HNE X1 LB1
    go_upto_region 8 with (fail)
    have HO0 := Lib.hid (own_one wc (Nat.le_refl _) 0)
    have LW := Lib.hid ((Below.refl wc.heap.size wc).alloc (Nat.le_refl _) (.cells #[.int .i64 ((0 : Nat) : Int)] 3))
    have hs0 := LB2.out.size
    rw [show ((0 : Nat) : Int) = 0 from rfl] at HO0 LW
    generalize wc.alloc (.cells #[.int .i64 0] 3) = w2 at *
    have HO1 := Lib.hid (show L2.Own w2 wc.heap.size (.slice (some ⟨wc.heap.size, 0, none⟩) 1 1) (wlk (ov W g) N 0).length (lf (wlk (ov W g) N 0)) from HO0.out)
    clear HO0
    go_wp2
    go_loopw [8, 29] (fun q i wr => ∃ k : Nat, k ≤ N ∧ i = .int .i64 k ∧ Hid (L2.Own wr wc.heap.size q (wlk (ov W g) N k).length (lf (wlk (ov W g) N k))) ∧ Hid (Below wc.heap.size wc wr)) (fun _ i _ => N - (intOf i).toNat)
    case atStart => exact ⟨0, Nat.zero_le _, rfl, HO1, LW⟩
    case round =>
      obtain ⟨k, hk, rfl, HO, HL⟩ := hrel
      have hs4 := HL.out.size
      clear HO1 LW
      by_cases hlt : k < N
      · have y1 : (k : Int) < (N : Int) := by omega
        have e1 : IntKind.i64.wrap ((k : Int) + 1) = (k : Int) + 1 := IntWalk.i64_in _ (by omega)
        have e2 := mod_step (k := k) hN0
        have e3 : ¬ N = 0 := by omega
        have hd9 : Below wr.heap.size wr wr.drew := (Below.refl _ _).drew
        have hw := HWY.out wr.drew Db Da cb ca (HLB.out.below (HL.out.trans (hd9.mono hs4))) (HLA.out.below (HL.out.trans (hd9.mono hs4))) k hlt
        have HW1 := Lib.hid hw
        have hln := HLN.out k hk
        have hln2 : k * N ≤ 128 * 128 := Nat.mul_le_mul (by omega) hN
        have HE := Lib.hid (HWL.out k)
        have hl3 : (wal (ov W g) N ((k + 1) % N) k (far (ov W g) N ((k + 1) % N) k).toNat).length ≤ 100000 := by
          rw [wal_len]
          have := (far_all (R := ov W g) (Nat.mod_lt (k + 1) hN0)).1 k
          omega
        generalize wal (ov W g) N ((k + 1) % N) k (far (ov W g) N ((k + 1) % N) k).toNat = wy at *
        obtain ⟨tm, htm⟩ : ∃ tm, (k + 1) % N = tm := ⟨_, rfl⟩
        rw [htm] at e2 HW1
        clear htm hw hd9
        have HX := Lib.hid (alk HL.out HTC.out)
        have HK8 := Lib.hid (fun u (h : Below wr.heap.size wr u) => (show u.cell? ⟨tb, 0, none⟩ = some (.slice Db N cb) ∧ u.cell? ⟨tb, 1, none⟩ = some (.slice Da N ca) from ⟨(al_cells (alk h HX.out)).1, (al_cells (alk h HX.out)).2.1⟩))
        have HK9 := Lib.hid (fun u (h : Below wc.heap.size wr u) => (show u.cell? ⟨tb, 0, none⟩ = some (.slice Db N cb) ∧ u.cell? ⟨tb, 1, none⟩ = some (.slice Da N ca) from ⟨(al_cells (alk (HL.out.trans h) HTC.out)).1, (al_cells (alk (HL.out.trans h) HTC.out)).2.1⟩))
        obtain ⟨g0, g1, g2, g3⟩ := al_cells HX.out
        go_wp2
        go_region_held3 (fun w' => w'.cell? ⟨tb, 0, none⟩ = some (.slice Db N cb) ∧ w'.cell? ⟨tb, 1, none⟩ = some (.slice Da N ca))
          (first
            | exact HK9.out _ hb9
            | exact HK8.out _ hb8
            | exact HK8.out _ (Below.refl _ _).drew)
          (first
            | (go_at_call 86
               with_reducible refine Calls.mono HW1.out ?_
               rintro e w5 ⟨D, d, rfl, hd, hll, hb⟩
               have hb8 : Below wr.heap.size wr w5 := (Below.refl _ _).drew.trans hb)
            | (refine stepN rfl (.tmp 32) (.tmp 39) rfl wc.heap.size (by rfl) (L2.Own.below HO.out hb8) (by rfl) hd.1 hll (by omega) hl3 (Nat.le_trans hs4 hb8.size) ?_
               intro v' w6 hown6 hb6
               have hb9 : Below wc.heap.size wr w6 := (hb8.mono hs4).trans hb6))
        have HO6 := Lib.hid (own_both hown6)
        have HB6 := Lib.hid hb9
        clear hb hb8 hb9 hb6 hown6 hd hll HK8 HK9 g0 g1 g2 g3 e1 e2 HX
        go_wp2
        go_roundw
        case rel => exact ⟨k + 1, by omega, by go_num, by rw [HE.out]; exact HO6, Lib.hid (HL.out.trans HB6.out)⟩
        case measure => simp [intOf]; omega
      · have e : k = N := by omega
        have HF := Lib.hid (lr_end HO.out hs0 (LB2.out.trans (HL.out.mono hs0)))
        rw [e] at HF
        clear e
        obtain ⟨A', c', he, h1, h2, h3⟩ := HF.out
        cases he
        go_wp2
        go_ret2
        exact ⟨A', c', rfl, h1, h2, h3⟩
end Go.Proofs.Ytnpgmgaajejhjaa
