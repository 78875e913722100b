/- Split of the program. -/
import Derived.Test.YtchbbphokpmacaaLjo
import Derived.Deep.RegionHeld3
namespace Go.Proofs.Ytchbbphokpmacaa
open Go.RowKit
set_option maxRecDepth 100000
set_option linter.unusedVariables false
set_option linter.unusedSimpArgs false

theorem own_grow {w : World} {base : Nat} {v : Value} {n : Nat} {xs : List Value} {os : Array Obj} (h : w.ownsRow base 3 1 v n xs) : (Go.Sort.grow w os).ownsRow base 3 1 v n xs := by
  refine ⟨h.1, ?_⟩
  rcases h.2 with e0 | ⟨g', cap', cur, e0, h1, h2, h3⟩
  · exact .inl e0
  · refine .inr ⟨g', cap', cur, e0, h1, ?_, h3⟩
    rw [Go.Sort.heap_grow_old _ _ (Array.getElem?_eq_some_iff.1 h2).1]
    exact h2
theorem cat_len {l : List Nat} {P : Nat → Bool} {N : Nat} (hnd : l.Nodup) (hm : ∀ a, a ∈ l ↔ a < N ∧ P a = true) : l.length = (ofl P N).length :=
  ((List.perm_ext_iff_of_nodup hnd (show (ofl P N).Nodup from List.Pairwise.filter _ List.nodup_range)).2 fun a => by rw [hm a, ofl_mem]).length_eq
set_option maxHeartbeats 1600000 in
theorem joined_n (D : Option Addr) (n d : Nat) (L : Nat → List Nat) (P : Nat → Bool) (N : Nat) (w : World) (hl : LLs w D n L) (hn : n ≤ 128) (hN : N ≤ 128) (hnd : (catL L n).Nodup) (hm : ∀ a, a ∈ catL L n ↔ a < N ∧ P a = true) :
    Calls Try.prog 99 #[.slice D n d] w (LRT w (ofl P N)) := by
  have hlen := cat_len hnd hm
  have hle := ofl_len P N
  have HC := Lib.hid (concat_n D n d L w hl hn (by omega))
  have HM := Lib.hid (msort_ofl hnd hm)
  clear hl hnd hm
  generalize catL L n = l at *
  go_enter Try.func99, Try.ntmps99
  go_wp2_with fail
  with_reducible refine Calls.mono HC.out ?_
  rintro e w1 ⟨v, rfl, hown, hb⟩
  have HB := Lib.hid hb
  have hbs := hb.size
  by_cases h0 : l.length = 0
  · have ho0 : (ofl P N).length = 0 := by omega
    have E0 := Lib.hid (show ofl P N = [] from List.length_eq_zero_iff.1 ho0)
    obtain ⟨A, c, e1, h1, _⟩ := hown.out
    rw [e1] at hown
    rw [h0] at e1 hown
    subst e1
    have HCP := Lib.hid (own_cp hown)
    have HS := Lib.hid (Try.slices_Sort_int_none A c w1)
    clear hown h1 hb h0 ho0 hlen hle HC
    go_wp2_with fail
    with_reducible refine Calls.mono HS.out ?_
    rintro e w2 ⟨rfl, rfl⟩
    go_wp2
    go_ret
    rw [E0.out]
    exact ⟨A, c, rfl, HCP.out, fun h => by simp at h, HB.out⟩
  · have hown' : w1.ownsRow w.heap.size 3 1 v l.length ((l.map fun b => ((b : Nat) : Int)).map (Value.int .i64)) := by
      rw [← news_map]; exact hown
    have hv : v ≠ .slice none 0 0 := by
      intro e
      obtain ⟨A, c, e1, _, h2⟩ := hown.out
      rw [e] at e1
      injection e1 with _ e3 _
      omega
    obtain ⟨k, cap, rfl, hk, hkl, hncap, hcm, hlz, hH⟩ := Lib.holds_of_ownsRow (enc := Value.int .i64) hown' hv
    have hS := Try.slices_Sort_int k 0 cap (l.map fun b => ((b : Nat) : Int)) w1 hH hkl (by rw [hlz]; omega)
    rw [hlz, HM.out] at hS
    have HS := Lib.hid hS
    have HO := Lib.hid hown'
    clear hown hown' hb hv hH hS h0 HC hlz
    have HLE := Lib.hid hlen
    have hTN : l.length ≤ N := by omega
    clear hlen hle
    generalize l.length = T at *
    go_wp2_with fail
    with_reducible refine Calls.mono HS.out ?_
    rintro e w2 ⟨rfl, q, os, rfl⟩
    have hO2 := Lib.ownsRow_putRow (q := q) (k := T) (ys := (ofl P N).map fun b => ((b : Nat) : Int)) HO.out (by rw [List.length_map]; exact HLE.out.symm) (Nat.le_refl _)
    rw [List.take_of_length_le (by rw [List.length_map, ← HLE.out]; exact Nat.le_refl _)] at hO2
    have hO3 := own_grow (os := os) hO2
    have hB2 : Below w.heap.size w (Go.Sort.grow (Go.Sort.putRow (Value.int .i64) (Go.Sort.ahead w1 q) k 0 ((ofl P N).map fun b => ((b : Nat) : Int)).toArray) os) := by
      have h1 := Lib.below_putRow (enc := Value.int .i64) (q := q) (d := ((ofl P N).map fun b => ((b : Nat) : Int)).toArray) HB.out hk
      exact ⟨h1.os, h1.tape, h1.output, by have := h1.size; simp; omega, fun j hj => (Go.Sort.heap_grow_old _ _ (Nat.lt_of_lt_of_le hj h1.size)).trans (h1.block j hj)⟩
    have HB2 := Lib.hid hB2
    rw [← news_map, HLE.out] at hO3
    have HO3 := Lib.hid (show L2.Own _ w.heap.size (.slice (some ⟨k, 0, none⟩) (ofl P N).length cap) (ofl P N).length (lf (ofl P N)) from hO3)
    clear hO2 hO3 hB2
    rw [HLE.out]
    generalize Go.Sort.grow (Go.Sort.putRow (Value.int .i64) (Go.Sort.ahead w1 q) k 0 ((ofl P N).map fun b => ((b : Nat) : Int)).toArray) os = w3 at *
    have HFIN := Lib.hid (show LRT w (ofl P N) (.returned (.slice (some ⟨k, 0, none⟩) (ofl P N).length cap)) w3 from ⟨_, cap, rfl, own_cp HO3.out, own_tt HO3.out, HB2.out⟩)
    generalize (ofl P N).length = nn at *
    go_wp2
    go_ret
    exact HFIN.out
/-- The first lists, and the others. -/
theorem lls_take {w : World} {D : Option Addr} {n m : Nat} {L : Nat → List Nat} (h : LLs w D m L) (hn : n ≤ m) : LLs w D n L := fun h0 => by
  obtain ⟨b, o, e, h1, h2⟩ := h (by omega)
  exact ⟨b, o, e, h1, fun i hi => h2 i (by omega)⟩
theorem lls_drop {w : World} {b o n m : Nat} {L : Nat → List Nat} (h : LLs w (some ⟨b, o, none⟩) m L) (hn : n ≤ m) : LLs w (some ⟨b, o + n, none⟩) (m - n) (fun i => L (n + i)) := fun h0 => by
  obtain ⟨b2, o2, e, h1, h2⟩ := h (by omega)
  cases e
  refine ⟨b, o + n, rfl, h1, fun i hi => ?_⟩
  have := h2 (n + i) (by omega)
  rwa [← Nat.add_assoc] at this
theorem mem_catL {L : Nat → List Nat} {k a : Nat} : a ∈ catL L k ↔ ∃ i, i < k ∧ a ∈ L i := by
  unfold catL
  rw [List.mem_flatMap]
  exact ⟨fun ⟨i, hi, h⟩ => ⟨i, List.mem_range.1 hi, h⟩, fun ⟨i, hi, h⟩ => ⟨i, List.mem_range.2 hi, h⟩⟩
theorem cat_nodup {R : Nat → Nat → Bool} {N n s : Nat} (hn : s + n ≤ pno R N) : (catL (fun i => prt R N (s + i)) n).Nodup := by
  unfold catL
  refine List.pairwise_flatMap.2 ⟨fun i hi => ?_, ?_⟩
  · rw [List.mem_range] at hi
    show (prt R N (s + i)).Nodup
    rw [prt_eq (pno_ne (by omega))]
    exact List.Pairwise.filter _ List.nodup_range
  · refine List.Pairwise.imp_of_mem (fun {i j} hi hj hlt x hx y hy e => ?_) List.pairwise_lt_range
    rw [List.mem_range] at hi hj
    subst e
    rw [mem_prt (by omega)] at hx hy
    have := prt_one (R := R) (N := N) (i := s + i) (j := s + j) (by omega) (by omega) hx.2 hy.2
    omega
theorem cat_top {R : Nat → Nat → Bool} {N n : Nat} (hn : n ≤ pno R N) : ∀ a, a ∈ catL (prt R N) n ↔ a < N ∧ topS R N n a = true := by
  intro a
  rw [mem_catL]
  constructor
  · rintro ⟨i, hi, h⟩
    rw [mem_prt (by omega)] at h
    refine ⟨h.1, ?_⟩
    unfold topS
    rw [out_pix h.1 hn, pix_is h.1 (by omega) h.2, decide_eq_false (by omega)]; rfl
  · rintro ⟨ha, h⟩
    unfold topS at h
    rw [out_pix ha hn] at h
    have h2 : pix R N a < n := by simpa using h
    exact ⟨pix R N a, h2, (mem_prt (by omega)).2 ⟨ha, (pix_all ha).2⟩⟩
theorem cat_bot {R : Nat → Nat → Bool} {N n : Nat} (hn : n ≤ pno R N) : ∀ a, a ∈ catL (fun i => prt R N (n + i)) (pno R N - n) ↔ a < N ∧ out R N n a = true := by
  intro a
  rw [mem_catL]
  constructor
  · rintro ⟨i, hi, h⟩
    rw [mem_prt (by omega)] at h
    refine ⟨h.1, ?_⟩
    rw [out_pix h.1 hn, pix_is h.1 (by omega) h.2, decide_eq_true (by omega)]
  · rintro ⟨ha, h⟩
    rw [out_pix ha hn] at h
    have h2 := of_decide_eq_true h
    have h3 := (pix_all (R := R) ha).1
    exact ⟨pix R N a - n, by omega, (mem_prt (by omega)).2 ⟨ha, by rw [show n + (pix R N a - n) = pix R N a by omega]; exact (pix_all ha).2⟩⟩
/-- Two lists and an error came back. -/
def SpE (w : World) (l1 l2 : List Nat) (z : Int) (e : Ending) (w' : World) : Prop :=
  ∃ D1 c1 D2 c2, e = .returned (.tuple #[.slice D1 l1.length c1, .slice D2 l2.length c2, .int .i64 z]) ∧ (Cp D1 l1.length c1 ∧ LL w' D1 l1) ∧ LL w' D2 l2 ∧ Below w.heap.size w w'
theorem psplit_err {W H : Int} {A : Option Addr} {N c : Nat} (n : Int) (z : Int) (hN : N ≤ 4200) (hz : chk W H N = z) (hne : (z != 0) = true) (w : World) :
    Calls Try.prog 47 #[.agg #[.int .i64 W, .int .i64 H, .slice A N c], .int .i64 n] w (SpE w [] [] z) := by
  have HK := Lib.hid (fun u => parts_err (A := A) (c := c) z hN hz hne u)
  have LB0 := Lib.hid (show Below w.heap.size w (w.alloc (.cells #[.int .i64 W, .int .i64 H, (.slice A N c)] 24)) from (Below.refl _ _).alloc (Nat.le_refl _) _)
  clear hz
  go_enter Try.func47, Try.ntmps47
  go_wp2_with fail
  with_reducible refine Calls.mono (HK.out _) ?_
  rintro e w1 ⟨D, d, rfl, _, _, hb⟩
  have LB1 := Lib.hid (LB0.out.trans (hb.mono LB0.out.size))
  clear hb LB0
  go_wp2
  go_ret3
  exact ⟨none, 0, none, 0, rfl, ⟨cp_nil, ll_nil _ _⟩, ll_nil _ _, LB1.out⟩
set_option maxHeartbeats 1600000 in
theorem psplit_no (W H : Nat) (A : Option Addr) (c : Nat) (g : Nat → Bool) (n : Int) (w : World) (hg : Holds w w.heap.size A (W * H) g) (hW0 : 1 ≤ W) (hW : W ≤ 64) (hH0 : 1 ≤ H) (hH : H ≤ 64) (h : n < 0 ∨ ((pno (ov W g) (W + H) : Nat) : Int) < n) :
    Calls Try.prog 47 #[.agg #[.int .i64 (W : Nat), .int .i64 (H : Nat), .slice A (W * H) c], .int .i64 n] w (SpE w [] [] 2) := by
  have HK := Lib.hid (fun u (hb : Below w.heap.size w u) => parts_n W H (W + H) rfl A c g u ((hg.below hb).more hb.size) hW0 hW hH0 hH)
  have LB0 := Lib.hid (show Below w.heap.size w (w.alloc (.cells #[.int .i64 (W : Nat), .int .i64 (H : Nat), (.slice A (W * H) c)] 24)) from (Below.refl _ _).alloc (Nat.le_refl _) _)
  clear hg
  generalize W * H = M at *
  generalize pno (ov W g) (W + H) = m at *
  go_enter Try.func47, Try.ntmps47
  go_wp2_with fail
  with_reducible refine Calls.mono (HK.out _ LB0.out) ?_
  rintro e w1 ⟨D, d, rfl, _, _, hb⟩
  have LB1 := Lib.hid (LB0.out.trans (hb.mono LB0.out.size))
  clear hb LB0 HK
  by_cases h0 : n < 0
  · have y1 : decide (n < 0) = true := by simp; omega
    clear h
    go_wp2
    go_ret3
    exact ⟨none, 0, none, 0, rfl, ⟨cp_nil, ll_nil _ _⟩, ll_nil _ _, LB1.out⟩
  · have y1 : decide (n < 0) = false := by simp; omega
    have y2 : decide ((m : Int) < n) = true := by simp; omega
    have y3 : n > (m : Int) := by omega
    clear h
    go_wp2
    go_ret3
    exact ⟨none, 0, none, 0, rfl, ⟨cp_nil, ll_nil _ _⟩, ll_nil _ _, LB1.out⟩
set_option maxHeartbeats 1600000 in
theorem psplit_n (W H N : Nat) (hNN : W + H = N) (A : Option Addr) (c : Nat) (g : Nat → Bool) (n : Nat) (w : World) (hg : Holds w w.heap.size A (W * H) g) (hW0 : 1 ≤ W) (hW : W ≤ 64) (hH0 : 1 ≤ H) (hH : H ≤ 64) (hn : n ≤ pno (ov W g) N) :
    Calls Try.prog 47 #[.agg #[.int .i64 (W : Nat), .int .i64 (H : Nat), .slice A (W * H) c], .int .i64 (n : Nat)] w (SpE w (ofl (topS (ov W g) N n) N) (ofl (out (ov W g) N n) N) 0) := by
  have hN : N ≤ 128 := by omega
  have hN0 : 0 < N := by omega
  have HK := Lib.hid (fun u (hb : Below w.heap.size w u) => parts_n W H N hNN A c g u ((hg.below hb).more hb.size) hW0 hW hH0 hH)
  generalize hR : ov W g = R at *
  clear hR
  have hm0 := (pno_all R N).1
  have hmp := pno_pos (R := R) hN0
  have HJ1 := Lib.hid (fun u D d (hl : LLs u D n (prt R N)) => joined_n D n d (prt R N) (topS R N n) N u hl (by omega) hN (by have := cat_nodup (R := R) (N := N) (n := n) (s := 0) (by omega); simpa using this) (cat_top hn))
  have HJ2 := Lib.hid (fun u D d (hl : LLs u D (pno R N - n) (fun i => prt R N (n + i))) => joined_n D (pno R N - n) d (fun i => prt R N (n + i)) (out R N n) N u hl (by omega) hN (cat_nodup (R := R) (N := N) (n := pno R N - n) (s := n) (by omega)) (cat_bot hn))
  have LB0 := Lib.hid (show Below w.heap.size w (w.alloc (.cells #[.int .i64 (W : Nat), .int .i64 (H : Nat), (.slice A (W * H) c)] 24)) from (Below.refl _ _).alloc (Nat.le_refl _) _)
  clear hg hNN
  generalize W * H = M at *
  generalize pno R N = m at *
  go_enter Try.func47, Try.ntmps47
  go_wp2_with fail
  with_reducible refine Calls.mono (HK.out _ LB0.out) ?_
  rintro e w1 ⟨D, d, rfl, hcp, hls, hb⟩
  have LB1 := Lib.hid (LB0.out.trans (hb.mono LB0.out.size))
  have HLS := Lib.hid hls
  have hmd : m ≤ d := hcp.2
  clear hb LB0 HK hcp hls
  obtain ⟨b, o, rfl, hbl, _⟩ := HLS.out hmp
  have y1 : decide ((n : Int) < 0) = false := by simp
  have y2 : decide ((m : Int) < (n : Int)) = false := by simp; omega
  have y3 : ¬ ((n : Int) > (m : Int)) := by omega
  have y4 : ¬ ((n : Int) < 0) := by omega
  have y5 : (n : Int) ≤ (m : Int) := by omega
  have y6 : (n : Int) ≤ (d : Int) := by omega
  have y7 : (m : Int) ≤ (d : Int) := by omega
  have C1 := Lib.hid (fun u (h : Below w1.heap.size w1 u) => HJ1.out u (some ⟨b, o, none⟩) d (lls_take (HLS.out.below h) hn))
  by_cases hnd : n = d
  · subst hnd
    have C2 := Lib.hid (fun u (h : Below w1.heap.size w1 u) => (show Calls Try.prog 99 #[.slice (some ⟨b, o, none⟩) 0 0] u (LRT u (ofl (out R N n) N)) from by have h9 := HJ2.out u (some ⟨b, o, none⟩) 0 (fun h0 => by omega); rwa [show m - n = 0 by omega] at h9))
    clear HJ1 HJ2 HLS hbl
    go_wp2
    go_region_held3 (fun _ => True) (exact trivial) (first
      | (go_at_call 99
         with_reducible refine Calls.mono (C1.out _ (Below.refl _ _).drew) ?_
         rintro e u1 ⟨D1, c1, rfl, hc1, ht1, hb1⟩
         have hx1 : Below w1.heap.size w1 u1 := (Below.refl _ _).drew.trans hb1
         have HC1 := Lib.hid hc1
         have HT1 := Lib.hid ht1
         clear hc1 ht1)
      | (go_at_call 99
         with_reducible refine Calls.mono (C2.out _ hx1) ?_
         rintro e u2 ⟨D2, c2, rfl, hc2, ht2, hb2⟩
         have hx2 : Below w1.heap.size w1 u2 := hx1.trans (hb2.mono hx1.size)
         have HT1' := Lib.hid (HT1.out.below hb2)
         have HT2 := Lib.hid ht2
         clear hc2 ht2))
    all_goals
      have LB9 := Lib.hid (LB1.out.trans (hx2.mono LB1.out.size))
      have HFIN := Lib.hid (show SpE w (ofl (topS R N n) N) (ofl (out R N n) N) 0 (.returned (.tuple #[.slice D1 (ofl (topS R N n) N).length c1, .slice D2 (ofl (out R N n) N).length c2, .int .i64 0])) u2 from ⟨D1, c1, D2, c2, rfl, ⟨HC1.out, HT1'.out.ll⟩, HT2.out.ll, LB9.out⟩)
      clear hx1 hx2 hb1 hb2
      generalize (ofl (topS R N n) N).length = t1 at *
      generalize (ofl (out R N n) N).length = t2 at *
      go_wp2
      go_ret3
      exact HFIN.out
  · have C2 := Lib.hid (fun u (h : Below w1.heap.size w1 u) => HJ2.out u (some ⟨b, o + n, none⟩) (d - n) (lls_drop (HLS.out.below h) hn))
    clear HJ1 HJ2 HLS hbl
    go_wp2
    go_region_held3 (fun _ => True) (exact trivial) (first
      | (go_at_call 99
         with_reducible refine Calls.mono (C1.out _ (Below.refl _ _).drew) ?_
         rintro e u1 ⟨D1, c1, rfl, hc1, ht1, hb1⟩
         have hx1 : Below w1.heap.size w1 u1 := (Below.refl _ _).drew.trans hb1
         have HC1 := Lib.hid hc1
         have HT1 := Lib.hid ht1
         clear hc1 ht1)
      | (go_at_call 99
         with_reducible refine Calls.mono (C2.out _ hx1) ?_
         rintro e u2 ⟨D2, c2, rfl, hc2, ht2, hb2⟩
         have hx2 : Below w1.heap.size w1 u2 := hx1.trans (hb2.mono hx1.size)
         have HT1' := Lib.hid (HT1.out.below hb2)
         have HT2 := Lib.hid ht2
         clear hc2 ht2))
    all_goals
      have LB9 := Lib.hid (LB1.out.trans (hx2.mono LB1.out.size))
      have HFIN := Lib.hid (show SpE w (ofl (topS R N n) N) (ofl (out R N n) N) 0 (.returned (.tuple #[.slice D1 (ofl (topS R N n) N).length c1, .slice D2 (ofl (out R N n) N).length c2, .int .i64 0])) u2 from ⟨D1, c1, D2, c2, rfl, ⟨HC1.out, HT1'.out.ll⟩, HT2.out.ll, LB9.out⟩)
      clear hx1 hx2 hb1 hb2
      generalize (ofl (topS R N n) N).length = t1 at *
      generalize (ofl (out R N n) N).length = t2 at *
      go_wp2
      go_ret3
      exact HFIN.out
end Go.Proofs.Ytchbbphokpmacaa
