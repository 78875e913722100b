/- tiesOf of the program, whole. -/
import Derived.Test.YtgmcbdnfgdmmaaaHpw
namespace Go.Proofs.Ytgmcbdnfgdmmaaa
open Go.RowKit
set_option maxRecDepth 100000
set_option linter.unusedVariables false
set_option linter.unusedSimpArgs false

theorem flt_picks {W H : Nat} {P Q : Nat → Bool} (h1 : ∀ b, b < W → Q b = false) (h2 : ∀ b, W ≤ b → b < W + H → Q b = P b) : (pks W H).filter P = ofl Q (W + H) := by
  unfold ofl pks
  rw [List.range_add, List.filter_append]
  have e1 : (List.range W).filter Q = [] := by
    rw [List.filter_eq_nil_iff]
    intro b hb
    rw [h1 b (List.mem_range.1 hb)]
    simp
  rw [e1, List.nil_append]
  refine List.filter_congr fun b hb => ?_
  obtain ⟨y, hy, rfl⟩ := List.mem_map.1 hb
  have := List.mem_range.1 hy
  exact (h2 _ (by omega) (by omega)).symm
theorem flt_ends {W H : Nat} {P Q : Nat → Bool} (h1 : ∀ b, W ≤ b → b < W + H → Q b = false) (h2 : ∀ b, b < W → Q b = P b) : (List.range W).filter P = ofl Q (W + H) := by
  unfold ofl
  rw [List.range_add, List.filter_append]
  have e1 : ((List.range H).map fun x => W + x).filter Q = [] := by
    rw [List.filter_eq_nil_iff]
    intro b hb
    obtain ⟨y, hy, rfl⟩ := List.mem_map.1 hb
    have := List.mem_range.1 hy
    rw [h1 _ (by omega) (by omega)]
    simp
  rw [e1, List.append_nil]
  exact List.filter_congr fun b hb => (h2 b (List.mem_range.1 hb)).symm
theorem ov_turn {W : Nat} {g : Nat → Bool} {a b : Nat} (ha : a < W) (hb : ¬ b < W) : ov W g b a = !ov W g a b := by rw [ov_pe hb ha, ov_ep ha hb]
/-- The threads below a thread, and those above it. -/
def LB (W N : Nat) (g : Nat → Bool) (t : Nat) : List Nat := ofl (fun b => ov W g t b) N
def LA (W N : Nat) (g : Nat → Bool) (t : Nat) : List Nat := ofl (fun a => ov W g a t) N
theorem lb_end {W H : Nat} {g : Nat → Bool} {t : Nat} (ht : t < W) : (pks W H).filter (ov W g t) = LB W (W + H) g t := flt_picks (fun b hb => ov_ee ht hb) fun b _ _ => rfl
theorem la_end {W H : Nat} {g : Nat → Bool} {t : Nat} (ht : t < W) : ((pks W H).filter fun a => !ov W g t a) = LA W (W + H) g t := flt_picks (fun b hb => ov_ee hb ht) fun b h1 _ => ov_turn ht (by omega)
theorem lb_pick {W H : Nat} {g : Nat → Bool} {t : Nat} (ht : ¬ t < W) : (List.range W).filter (ov W g t) = LB W (W + H) g t := flt_ends (fun b h1 _ => ov_pp ht (by omega)) fun b _ => rfl
theorem la_pick {W H : Nat} {g : Nat → Bool} {t : Nat} (ht : ¬ t < W) : ((List.range W).filter fun a => !ov W g t a) = LA W (W + H) g t := flt_ends (fun b h1 _ => ov_pp (by omega) ht) fun b hb => by rw [ov_turn hb ht, Bool.not_not]
theorem Ty.congr {w : World} {base al nb na : Nat} {Lb La Lb' La' : Nat → List Nat} {vb va : Value} {xb xa : List Value} (h : Ty w base al nb na Lb La vb va xb xa) (e1 : ∀ i, i < nb → Lb i = Lb' i) (e2 : ∀ i, i < na → La i = La' i) : Ty w base al nb na Lb' La' vb va xb xa :=
  { h with
    eb := fun i hi => by rw [← e1 i hi]; exact h.eb i hi
    ea := fun i hi => by rw [← e2 i hi]; exact h.ea i hi }
theorem ll_fr {w w' : World} {base al : Nat} {D : Option Addr} {l : List Nat} (h : LL w D l) (hb : base = w.heap.size) (f : Fr base al w w') (hc : w.heap[al]? = some (.cells #[.slice none 0 0, .slice none 0 0] 127 (0, 0))) : LL w' D l := fun hn => by
  obtain ⟨b, o, e, hlt, hcl⟩ := h hn
  have hne : b ≠ al := fun e2 => by
    have h0 := hcl 0 hn
    rw [e2, Lib.cell_of_heap hc] at h0
    rcases Nat.lt_or_ge (o + 0) 2 with c | c
    · rcases (show o + 0 = 0 ∨ o + 0 = 1 by omega) with c | c <;> rw [c] at h0 <;> cases h0
    · rw [Array.getElem?_eq_none (by simpa using c)] at h0; cases h0
  have hbl := f.block b (by omega) hne
  refine ⟨b, o, e, Nat.lt_of_lt_of_le hlt f.size, fun i hi => ?_⟩
  exact (World.cell?_of_block (a := ⟨b, o + i, none⟩) hbl).trans (hcl i hi)
theorem lls_of {w : World} {base n : Nat} {v : Value} {xs : List Value} {L : Nat → List Nat} (h : w.ownsRow base 45 1 v n xs) (he : ∀ i, i < n → Elt w xs i (L i)) : ∃ D c, v = .slice D n c ∧ LLs w D n L := by
  rcases h with ⟨hl, ⟨hv, hn⟩ | ⟨g, cap, cur, hv, hg, hc, hcap, _, hsz, htk⟩⟩
  · exact ⟨none, 0, by rw [hv, hn], fun h => by omega⟩
  · refine ⟨_, _, hv, fun _ => ⟨g, 0, rfl, (Array.getElem?_eq_some_iff.1 hc).1, fun i hi => ?_⟩⟩
    obtain ⟨D, c, h1, h2, h3⟩ := he i hi
    refine ⟨D, c, ?_, h2, h3.ll⟩
    rw [Lib.cell_of_heap hc, Nat.zero_add]
    rw [← htk, List.getElem?_take, if_pos (by omega)] at h1
    simpa using h1
/-- The ties of a grid came back. -/
def TiR (W H : Nat) (g : Nat → Bool) (w : World) (e : Ending) (w' : World) : Prop :=
  ∃ Db cb Da ca, e = .returned (.agg #[.slice Db (W + H) cb, .slice Da (W + H) ca]) ∧ LLs w' Db (W + H) (LB W (W + H) g) ∧ LLs w' Da (W + H) (LA W (W + H) g) ∧ Below w.heap.size w w'
theorem Ty.far {w : World} {base al nb na : Nat} {Lb La : Nat → List Nat} {vb va : Value} {xb xa : List Value} (h : Ty w base al nb na Lb La vb va xb xa) {rs i : Nat} {cs : Array Value} (hr : w.heap[rs]? = some (.cells cs 127 (0, 0))) (h1 : rs < base) (h2 : rs ≠ al) (x : Value) : Ty (w.setCell ⟨rs, i, none⟩ x) base al nb na Lb La vb va xb xa := by
  have far : ∀ k, k ≠ rs → (w.setCell ⟨rs, i, none⟩ x).heap[k]? = w.heap[k]? := fun k hk => Below.heap_setCell w _ _ k hk
  have num : ∀ (b : Nat) (cs : Array Value), w.heap[b]? = some (Obj.cells cs 3 (0, 0)) → (w.setCell ⟨rs, i, none⟩ x).heap[b]? = w.heap[b]? := fun b cs hb => far b (fun e => by rw [e, hr] at hb; cases hb)
  exact ⟨(far al (fun e => h2 e.symm)).trans h.cell, orow_keep h.ob fun k hk _ => far k (by omega), orow_keep h.oa fun k hk _ => far k (by omega), h.ne, fun i hi => elt_keep (h.eb i hi) num, fun i hi => elt_keep (h.ea i hi) num, h.al, by simpa using h.bs⟩
/-- The state of tiesOf. -/
structure Ti (w0 w1 wr : World) (base al W H : Nat) (g : Nat → Bool) (n : Nat) : Prop where
  ty : ∃ vb va xb xa, Ty wr base al n n (LB W (W + H) g) (LA W (W + H) g) vb va xb xa
  fr : Fr base al w1 wr
theorem ti_next {w0 w1 wr w' : World} {base al W H n : Nat} {g : Nat → Bool} {l1 l2 : List Nat} (h : Ti w0 w1 wr base al W H g n) (h1 : l1 = LB W (W + H) g n) (h2 : l2 = LA W (W + H) g n)
    (hf : Fr base al wr w') (hy : ∃ vb va xb xa, Ty w' base al (n + 1) (n + 1) (fun i => if i = n then l1 else LB W (W + H) g i) (fun i => if i = n then l2 else LA W (W + H) g i) vb va xb xa) : Ti w0 w1 w' base al W H g (n + 1) := by
  obtain ⟨vb, va, xb, xa, hy⟩ := hy
  refine ⟨⟨vb, va, xb, xa, hy.congr (fun i _ => ?_) (fun i _ => ?_)⟩, h.fr.trans hf⟩
  · by_cases e : i = n
    · rw [if_pos e, e, h1]
    · rw [if_neg e]
  · by_cases e : i = n
    · rw [if_pos e, e, h2]
    · rw [if_neg e]
set_option maxHeartbeats 3200000 in
theorem ties_any (W H : Nat) (A : Option Addr) (c : Nat) (g : Nat → Bool) (w : World) (hg : Holds w w.heap.size A (W * H) g) (hW0 : 1 ≤ W) (hW : W ≤ 64) (hH0 : 1 ≤ H) (hH : H ≤ 64) :
    Calls Try.prog 118 #[.agg #[.int .i64 (W : Nat), .int .i64 (H : Nat), .slice A (W * H) c]] w (TiR W H g w) := by
  have HT := Lib.hid (fun u => threads_any W H A (W * H) c u hW hH)
  have X0 := Box.new w (W : Nat) (H : Nat) (.slice A (W * H) c)
  have X1 := (X0.alloc (.cells #[.slice none 0 0, .slice none 0 0] 127)).alloc (.cells #[.slice none 0 0, .slice none 0 0] 127)
  have LB0 := (((Below.refl w.heap.size w).alloc (Nat.le_refl _) (.cells #[.int .i64 (W : Nat), .int .i64 (H : Nat), (.slice A (W * H) c)] 24)).alloc (by simp <;> omega) (.cells #[.slice none 0 0, .slice none 0 0] 127)).alloc (by simp <;> omega) (.cells #[.slice none 0 0, .slice none 0 0] 127)
  have AL0 := World.alloc_heap_new ((w.alloc (.cells #[.int .i64 (W : Nat), .int .i64 (H : Nat), (.slice A (W * H) c)] 24)).alloc (.cells #[.slice none 0 0, .slice none 0 0] 127)) (.cells #[.slice none 0 0, .slice none 0 0] 127)
  have HS0 : ((w.alloc (.cells #[.int .i64 (W : Nat), .int .i64 (H : Nat), (.slice A (W * H) c)] 24)).alloc (.cells #[.slice none 0 0, .slice none 0 0] 127)).heap.size = w.heap.size + 2 := by simp
  rw [HS0] at AL0
  have RS0 := World.alloc_heap_new (w.alloc (.cells #[.int .i64 (W : Nat), .int .i64 (H : Nat), (.slice A (W * H) c)] 24)) (.cells #[.slice none 0 0, .slice none 0 0] 127)
  have HX := Lib.hid X1
  have HL := Lib.hid LB0
  have HA := Lib.hid AL0
  have HG := Lib.hid hg
  have RS0 := Lib.hid (show ((w.alloc (.cells #[.int .i64 (W : Nat), .int .i64 (H : Nat), (.slice A (W * H) c)] 24)).alloc (.cells #[.slice none 0 0, .slice none 0 0] 127)).heap[w.heap.size + 1]? = some (.cells #[.slice none 0 0, .slice none 0 0] 127 (0, 0)) by have h := RS0; rwa [show (w.alloc (.cells #[.int .i64 (W : Nat), .int .i64 (H : Nat), (.slice A (W * H) c)] 24)).heap.size = w.heap.size + 1 by simp] at h)
  clear X0 X1 LB0 AL0 HS0 hg
  go_enter Try.func118, Try.ntmps118
  go_upto_region 2 with (fail)
  rw [show w.heap.size + 2 = w.heap.size + 1 + 1 from rfl] at HA
  have HR := Lib.hid ((Below.heap_alloc _ (.cells #[.slice none 0 0, .slice none 0 0] 127) (w.heap.size + 1) (by simp)).trans RS0.out)
  clear RS0
  obtain ⟨al, hal⟩ : ∃ al, w.heap.size + 1 + 1 = al := ⟨_, rfl⟩
  rw [hal] at HA ⊢
  obtain ⟨rs, hrs⟩ : ∃ rs, w.heap.size + 1 = rs := ⟨_, rfl⟩
  rw [hrs] at HR ⊢
  obtain ⟨gb, hgb⟩ : ∃ gb, w.heap.size = gb := ⟨_, rfl⟩
  have HGB := Lib.hid (show w.heap.size = gb ∧ rs = gb + 1 ∧ al = gb + 2 by omega)
  have HX := Lib.hid (show Box (((w.alloc (.cells #[.int .i64 (W : Nat), .int .i64 (H : Nat), (.slice A (W * H) c)] 24)).alloc (.cells #[.slice none 0 0, .slice none 0 0] 127)).alloc (.cells #[.slice none 0 0, .slice none 0 0] 127)) gb (W : Nat) (H : Nat) (.slice A (W * H) c) by rw [← hgb]; exact HX.out)
  rw [hgb]
  clear hal hrs hgb
  generalize ((w.alloc (.cells #[.int .i64 (W : Nat), .int .i64 (H : Nat), (.slice A (W * H) c)] 24)).alloc (.cells #[.slice none 0 0, .slice none 0 0] 127)).alloc (.cells #[.slice none 0 0, .slice none 0 0] 127) = w0 at *
  obtain ⟨q0, q1, q2, q3, q4, q5, q6⟩ := HX.out.all
  go_wp2_with fail
  clear q0 q1 q2 q3 q4 q5 q6
  with_reducible refine Calls.mono (HT.out _) ?_
  rintro e w1 ⟨D1, c1, D2, c2, rfl, hl1, hl2, hb⟩
  have HX1 := Lib.hid (HX.out.below hb HX.out.lt)
  have HA1 := Lib.hid ((hb.block al (Array.getElem?_eq_some_iff.1 HA.out).1).trans HA.out)
  have HR1 := Lib.hid ((hb.block rs (Array.getElem?_eq_some_iff.1 HR.out).1).trans HR.out)
  have HL1 := Lib.hid (HL.out.trans (hb.mono HL.out.size))
  have HE1 := Lib.hid hl1
  have HE2 := Lib.hid hl2
  have halb : al < w1.heap.size := (Array.getElem?_eq_some_iff.1 HA1.out).1
  clear hb hl1 hl2 HX HA HR HL HT
  obtain ⟨base, hbase⟩ : ∃ base, base = w1.heap.size := ⟨_, rfl⟩
  have HBA := Lib.hid hbase
  have hgl : w.heap.size ≤ base := by have := HL1.out.size; omega
  have halb2 : al < base := by omega
  clear hbase halb
  have HT0 := Lib.hid (show Ti w w1 w1 base al W H g 0 from ⟨⟨.slice none 0 0, .slice none 0 0, [], [], HA1.out, World.ownsRow_nil _ _ _ _, World.ownsRow_nil _ _ _ _, (fun b hb => by cases hb), (fun i hi => by omega), (fun i hi => by omega), halb2, Nat.le_of_eq HBA.out⟩, Fr.of ⟨rfl, rfl, rfl, Nat.le_refl _, fun _ _ => rfl⟩⟩)
  have HGR := Lib.hid (fun wr (f : Fr base al w1 wr) => (show Grid wr gb W H A c g from ⟨(f.block gb (by have := HGB.out; omega) (by have := HGB.out; omega)).trans HX1.out, (HG.out.below (f.below HL1.out (by have := HGB.out; omega) hgl)).more (Nat.le_trans HL1.out.size f.size), hW0, hW, hH0, hH⟩))
  have HLE1 := Lib.hid (fun wr (f : Fr base al w1 wr) => ll_fr HE1.out HBA.out f HA1.out)
  have HLE2 := Lib.hid (fun wr (f : Fr base al w1 wr) => ll_fr HE2.out HBA.out f HA1.out)
  have HRS := Lib.hid (fun wr (f : Fr base al w1 wr) => (f.block rs (by have := HGB.out; omega) (by have := HGB.out; omega)).trans HR1.out)
  have HADE := Lib.hid (fun wr k (hk : k < W) (h : Ti w w1 wr base al W H g k) => (show Calls Try.prog 148 #[.int .i64 (k : Nat), .slice D2 H c2, .pointer (some ⟨gb, 0, none⟩), .pointer (some ⟨al, 0, none⟩)] wr fun e w' => e = .returned (.tuple #[]) ∧ Ti w w1 w' base al W H g (k + 1) from by
    obtain ⟨vb, va, xb, xa, hy⟩ := h.ty
    have z := add_any W H A c g gb base al k (LB W (W + H) g) (LA W (W + H) g) vb va xb xa k D2 c2 (pks W H) wr (HGR.out wr h.fr) hy (HLE2.out wr h.fr) (by omega) (fun i hi => by
      rw [pks_len] at hi
      unfold pks
      rw [List.getD_eq_getElem?_getD, List.getElem?_map, List.getElem?_range hi]
      show W + i < W + H
      omega) (by rw [pks_len]; omega) (by rw [pks_len]; omega) (by omega)
    rw [pks_len] at z
    refine z.mono fun e w' hz => ⟨hz.1, ti_next h (lb_end hk) (la_end hk) hz.2.1 hz.2.2⟩))
  have HADP := Lib.hid (fun wr k (hk : W ≤ k) (hk2 : k < W + H) (h : Ti w w1 wr base al W H g k) => (show Calls Try.prog 148 #[.int .i64 (k : Nat), .slice D1 W c1, .pointer (some ⟨gb, 0, none⟩), .pointer (some ⟨al, 0, none⟩)] wr fun e w' => e = .returned (.tuple #[]) ∧ Ti w w1 w' base al W H g (k + 1) from by
    obtain ⟨vb, va, xb, xa, hy⟩ := h.ty
    have z := add_any W H A c g gb base al k (LB W (W + H) g) (LA W (W + H) g) vb va xb xa k D1 c1 (List.range W) wr (HGR.out wr h.fr) hy (HLE1.out wr h.fr) (by omega) (fun i hi => by
      rw [List.length_range] at hi
      rw [List.getD_eq_getElem?_getD, List.getElem?_range hi]
      show i < W + H
      omega) (by rw [List.length_range]; omega) (by rw [List.length_range]; omega) (by omega)
    rw [List.length_range] at z
    refine z.mono fun e w' hz => ⟨hz.1, ti_next h (lb_pick (by omega)) (la_pick (by omega)) hz.2.1 hz.2.2⟩))
  have HC1 := Lib.hid (fun wr (f : Fr base al w1 wr) i (hi : i < W) => (show ∃ b o, D1 = some ⟨b, o, none⟩ ∧ wr.cell? ⟨b, o + i, none⟩ = some (.int .i64 (i : Nat)) from by
    obtain ⟨b, o, e, _, hc⟩ := HLE1.out wr f (by rw [List.length_range]; omega)
    have z := hc i (by rw [List.length_range]; exact hi)
    unfold lf at z
    rw [List.getD_eq_getElem?_getD, List.getElem?_range hi] at z
    exact ⟨b, o, e, z⟩))
  have HC2 := Lib.hid (fun wr (f : Fr base al w1 wr) i (hi : i < H) => (show ∃ b o, D2 = some ⟨b, o, none⟩ ∧ wr.cell? ⟨b, o + i, none⟩ = some (.int .i64 ((W + i : Nat) : Int)) from by
    obtain ⟨b, o, e, _, hc⟩ := HLE2.out wr f (by rw [pks_len]; omega)
    have z := hc i (by rw [pks_len]; exact hi)
    unfold lf pks at z
    rw [List.getD_eq_getElem?_getD, List.getElem?_map, List.getElem?_range hi] at z
    exact ⟨b, o, e, z⟩))
  clear HE1 HE2 HGR HLE1 HLE2 HX1 HG
  go_wp2
  go_loopw [19] (fun i wr => ∃ k : Nat, k ≤ W ∧ i = .int .i64 k ∧ Hid (Ti w w1 wr base al W H g k)) (fun i _ => W - (intOf i).toNat)
  case atStart => exact ⟨0, Nat.zero_le _, rfl, HT0⟩
  case round =>
    obtain ⟨k, hk, rfl, HTk⟩ := hrel
    clear HT0
    by_cases hlt : k < W
    · obtain ⟨b, o, rfl, cc⟩ := HC1.out wr HTk.out.fr k hlt
      have y1 : (0 : Int) ≤ (k : Int) := by omega
      have y2 : (k : Int) < (W : Int) := by omega
      have HK := Lib.hid (HADE.out wr k hlt HTk.out)
      go_wp2_with fail
      with_reducible refine Calls.mono HK.out ?_
      rintro e w2 ⟨rfl, ht⟩
      have HT2 := Lib.hid ht
      clear ht
      go_wp2
      go_roundw
      case rel => exact ⟨k + 1, by omega, by go_num, HT2⟩
      case measure => simp [intOf]; omega
    · have e : k = W := by omega
      have y2 : ¬ (k : Int) < (W : Int) := by omega
      have HT3 := HTk.out
      rw [e] at HT3
      have HT3 : Hid (Ti w w1 wr base al W H g (W + 0)) := Lib.hid HT3
      clear e HTk
      go_wp2
      go_loopw [30] (fun i wr => ∃ y : Nat, y ≤ H ∧ i = .int .i64 y ∧ Hid (Ti w w1 wr base al W H g (W + y))) (fun i _ => H - (intOf i).toNat)
      case atStart => exact ⟨0, Nat.zero_le _, rfl, HT3⟩
      case round =>
        obtain ⟨y, hy, rfl, HTy⟩ := hrel
        clear HT3
        by_cases hlt2 : y < H
        · obtain ⟨b, o, rfl, cc⟩ := HC2.out wr HTy.out.fr y hlt2
          have y3 : (0 : Int) ≤ (y : Int) := by omega
          have y4 : (y : Int) < (H : Int) := by omega
          have HK := Lib.hid (HADP.out wr (W + y) (by omega) (by omega) HTy.out)
          generalize hz : ((W + y : Nat) : Int) = z at *
          go_wp2_with fail
          with_reducible refine Calls.mono HK.out ?_
          rintro e w2 ⟨rfl, ht⟩
          have HT2 := Lib.hid ht
          clear ht
          go_wp2
          go_roundw
          case rel => exact ⟨y + 1, by omega, by go_num, HT2⟩
          case measure => simp [intOf]; omega
        · have e : y = H := by omega
          have y4 : ¬ (y : Int) < (H : Int) := by omega
          rw [e] at HTy
          have HF := HTy.out.fr
          obtain ⟨vb, va, xb, xa, hty⟩ := HTy.out.ty
          have HRW := HRS.out wr HF
          have m1 := hty.far (i := 0) HRW (by have := HGB.out; omega) (by have := HGB.out; omega) vb
          have HRW2 := setCell_al (i := 0) (v := vb) HRW
          have m2 := m1.far (i := 1) HRW2 (by have := HGB.out; omega) (by have := HGB.out; omega) va
          have HLL := Lib.hid (lls_of m2.ob m2.eb)
          have HLA := Lib.hid (lls_of m2.oa m2.ea)
          have HBB := Lib.hid (((HF.below HL1.out (by have := HGB.out; omega) hgl).setCell (p := ⟨rs, 0, none⟩) (by show _ ≤ rs; have := HGB.out; omega) vb).setCell (p := ⟨rs, 1, none⟩) (by show _ ≤ rs; have := HGB.out; omega) va)
          obtain ⟨A1, d1, rfl⟩ := orow_shape m2.ob
          obtain ⟨A2, d2, rfl⟩ := orow_shape m2.oa
          obtain ⟨k0, k1, _, _⟩ := al_cells hty.cell
          obtain ⟨k2, k3, k4, k5⟩ := al_cells HRW
          have hrlt : rs < wr.heap.size := (Array.getElem?_eq_some_iff.1 HRW).1
          clear m1 m2 HRW2 hty HF e HRW
          go_wp2
          refine bodyPost_ret (v := .agg #[.slice A1 (W + H) d1, .slice A2 (W + H) d2]) (by simp [results, Try.results118, go_sem, k0, k1, k2, k3, k4, k5]) rfl ?_
          obtain ⟨Db, cb, eb, hb⟩ := HLL.out
          obtain ⟨Da, ca, ea, ha⟩ := HLA.out
          cases eb
          cases ea
          exact ⟨_, _, _, _, rfl, hb, ha, HBB.out⟩
end Go.Proofs.Ytgmcbdnfgdmmaaa
