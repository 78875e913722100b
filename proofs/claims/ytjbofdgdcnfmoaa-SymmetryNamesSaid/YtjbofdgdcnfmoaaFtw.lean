/- slices.Repeat of two copies; the rows of a plane written twice (twice). -/
import Derived.Test.YtjbofdgdcnfmoaaFmn
import Derived.Laws.CopyOwn
import Derived.Laws.BytesString
import Derived.Deep.RegionLaw
namespace Go.Proofs.Ytjbofdgdcnfmoaa
open Go.RowKit
set_option maxRecDepth 100000
set_option linter.unusedVariables false
set_option linter.unusedSimpArgs false

theorem addr_add0 (k j : Nat) : (⟨k, 0, none⟩ : Addr).add j = ⟨k, j, none⟩ := by
  unfold Addr.add
  split
  · simp_all
  · simp
theorem Try.info9 : (Try.prog.info? 9).map (fun i => (i.zero, i.size, i.bytes)) = some (some (.string ⟨#[]⟩), 1, 16) := by kernel_rfl
theorem Try.size9 : (Try.prog.info? 9).map (·.size) = some 1 := by kernel_rfl
theorem mks_run (N : Nat) (hN : N ≤ 4096) (w : World) :
    (Instr.makeSlice 141 (.int .i64 (N : Nat)) (.int .i64 (N : Nat))).run Try.prog w = .ok (.slice (some ⟨w.heap.size, 0, none⟩) N N) (w.alloc (.cells (madeCells #[.string ⟨#[]⟩] N) 9)) :=
  run_make_row' (P := Try.prog) 141 9 (.string ⟨#[]⟩) 16 Try.underlying141 Try.info9 rfl .i64 .i64 N (by omega) (by omega) w
set_option maxHeartbeats 1600000 in
theorem rep2_any (k h c : Nat) (vs : List Value) (w : World) (hl : vs.length = h) (h0 : 1 ≤ h) (h1 : h ≤ 64) (hk : k < w.heap.size) (hr : ∀ j v, vs[j]? = some v → w.cell? ⟨k, j, none⟩ = some v) (ho : ∀ v ∈ vs, v.oneCell' = true) :
    Calls Try.prog 138 #[.slice (some ⟨k, 0, none⟩) h c, .int .i64 2] w fun e w' => ∃ g, e = .returned (.slice (some ⟨g, 0, none⟩) (2 * h) (2 * h)) ∧ w.heap.size ≤ g ∧ w'.heap[g]? = some (.cells (vs ++ vs).toArray 9 (0, 0)) ∧ Below w.heap.size w w' := by
  have HM := Lib.hid (fun v => (show Calls Try.prog 144 #[.int .u64 (h : Nat), .int .u64 2] v fun e w' => e = .returned (.tuple #[.int .u64 0, .int .u64 ((2 * h : Nat) : Int)]) ∧ w' = v by
    have k1 := TryZ.bits_Mul h 2 (by omega) (by omega) v
    rw [show h * 2 / 18446744073709551616 = 0 by omega, show h * 2 % 18446744073709551616 = 2 * h by omega] at k1
    exact k1))
  obtain ⟨N, hN⟩ : ∃ N, 2 * h = N := ⟨_, rfl⟩
  rw [hN] at HM ⊢
  have hmk := mks_run N (by omega) w
  have y1 : ¬ (9223372036854775807 : Int) < (N : Int) := by omega
  have y2 : (h : Int) < (N : Int) := by omega
  have y3 : (h : Int) ≤ (N : Int) := by omega
  have y4 : (0 : Int) ≤ (h : Int) := by omega
  have y5 : h ≤ N := by omega
  have e1 : IntKind.u64.wrap (h : Int) = (h : Int) := IntWalk.u64_in _ (by omega)
  have e2 : IntKind.i64.wrap (N : Int) = (N : Int) := IntWalk.i64_in _ (by omega)
  have HL := Lib.hid hl
  have HN := Lib.hid hN
  have hgh : (w.alloc (.cells (madeCells #[.string ⟨#[]⟩] N) 9)).heap[w.heap.size]? = some (.cells (madeCells #[.string ⟨#[]⟩] N) 9 (0, 0)) := World.alloc_heap_new w _
  have hbb : Below w.heap.size w (w.alloc (.cells (madeCells #[.string ⟨#[]⟩] N) 9)) := (Below.refl _ _).alloc (Nat.le_refl _) _
  have hcp := run_copy_row (P := Try.prog) (w.alloc (.cells (madeCells #[.string ⟨#[]⟩] N) 9)) 141 141 3 9 w.heap.size 0 N N ⟨k, 0, none⟩ h c _ 9 vs Try.underlying141 Try.size9 hgh (by rw [hl]; show h = min h N; omega) (fun j v hj => by rw [addr_add0]; exact (hbb.cell (p := ⟨k, j, none⟩) hk).trans (hr j v hj)) (by rw [hl, size_madeCells]; omega) ho
  have hg1 := setRow_heap (w.alloc (.cells (madeCells #[.string ⟨#[]⟩] N) 9)) w.heap.size (madeCells #[.string ⟨#[]⟩] N) ((madeCells #[.string ⟨#[]⟩] N).toList.take 0 ++ vs ++ (madeCells #[.string ⟨#[]⟩] N).toList.drop (0 + vs.length)).toArray 9 (0, 0) hgh
  have hb1 := below_setRow hbb (Nat.le_refl _) ((madeCells #[.string ⟨#[]⟩] N).toList.take 0 ++ vs ++ (madeCells #[.string ⟨#[]⟩] N).toList.drop (0 + vs.length)).toArray
  generalize hv1 : (w.alloc (.cells (madeCells #[.string ⟨#[]⟩] N) 9)).setRow w.heap.size ((madeCells #[.string ⟨#[]⟩] N).toList.take 0 ++ vs ++ (madeCells #[.string ⟨#[]⟩] N).toList.drop (0 + vs.length)).toArray = v1 at hcp hg1 hb1
  have hdl : ((madeCells #[.string ⟨#[]⟩] N).toList.drop (0 + vs.length)).length = h := by rw [List.length_drop, Array.length_toList, size_madeCells, hl]; omega
  generalize (madeCells #[.string ⟨#[]⟩] N).toList.drop (0 + vs.length) = tl at hg1 hdl
  rw [List.take_zero, List.nil_append] at hg1
  rw [show goInt vs.length = .int .i64 (h : Nat) by rw [hl]; rfl] at hcp
  have hcp2 := run_copy_row (P := Try.prog) v1.drew 141 141 3 9 w.heap.size h h h ⟨w.heap.size, 0, none⟩ h N _ 9 vs Try.underlying141 Try.size9 hg1 (by rw [hl]; show h = min h h; omega) (fun j v hj => by
    rw [addr_add0]
    rw [Lib.cell_of_heap (show v1.drew.heap[w.heap.size]? = _ from hg1)]
    show (vs ++ tl).toArray[j]? = _
    have hj2 : j < vs.length := (List.getElem?_eq_some_iff.1 hj).1
    rw [List.getElem?_toArray, List.getElem?_append_left hj2, hj]) (by rw [hl, List.size_toArray, List.length_append, hl, hdl]; omega) ho
  have hg2 := setRow_heap v1.drew w.heap.size _ ((vs ++ tl).toArray.toList.take h ++ vs ++ (vs ++ tl).toArray.toList.drop (h + vs.length)).toArray 9 (0, 0) hg1
  have hb2 := below_setRow hb1.drew (Nat.le_refl _) ((vs ++ tl).toArray.toList.take h ++ vs ++ (vs ++ tl).toArray.toList.drop (h + vs.length)).toArray
  have el : (vs ++ tl).toArray.toList.take h ++ vs ++ (vs ++ tl).toArray.toList.drop (h + vs.length) = vs ++ vs := by
    show (vs ++ tl).take h ++ vs ++ (vs ++ tl).drop (h + vs.length) = vs ++ vs
    rw [List.take_left' hl, List.drop_of_length_le (by rw [List.length_append, hl, hdl]; omega), List.append_nil]
  rw [el] at hcp2 hg2 hb2
  rw [show goInt vs.length = .int .i64 (h : Nat) by rw [hl]; rfl] at hcp2
  have HF : Hid ((v1.drew.setRow w.heap.size (vs ++ vs).toArray).heap[w.heap.size]? = some (.cells (vs ++ vs).toArray 9 (0, 0)) ∧ Below w.heap.size w (v1.drew.setRow w.heap.size (vs ++ vs).toArray)) := Lib.hid ⟨hg2, hb2⟩
  have e3 : N - h = h := by omega
  have e4 : IntKind.i64.wrap ((h : Int) + (h : Int)) = (N : Int) := by rw [show (h : Int) + (h : Int) = (N : Int) by omega]; exact e2
  clear hl hN hgh hbb hg1 hb1 hg2 hb2 hv1 hdl el hr
  go_enter Try.func138, Try.ntmps138
  go_wp2_with fail
  refine (HM.out _).mono ?_
  rintro e w1 ⟨rfl, hw1⟩
  subst w1
  go_wp2
  refine wp_loop_rounds 2 ?_
  rw [rounds_succ]
  go_wp2
  go_region_held3 (fun w' => True) (first | trivial | exact True.intro) (fail)
  all_goals
    go_wp2
    rw [rounds_succ]
    go_wp2
    go_ret
    exact ⟨_, rfl, Nat.le_refl _, HF.out.1, HF.out.2⟩
/-- A row of values of the call's own. -/
def VR (w : World) (g : Nat) (t : TypeId) (n : Nat) (F : Nat → Value) : Prop := ∃ cs : Array Value, w.heap[g]? = some (.cells cs t (0, 0)) ∧ n ≤ cs.size ∧ ∀ i, i < n → cs[i]? = some (F i)
section
variable {w w' : World} {g n B : Nat} {t : TypeId} {F : Nat → Value}
theorem VR.lt (h : VR w g t n F) : g < w.heap.size := by obtain ⟨cs, h, _⟩ := h; exact (Array.getElem?_eq_some_iff.1 h).1
theorem VR.cell (h : VR w g t n F) {i : Nat} (hi : i < n) : w.cell? ⟨g, i, none⟩ = some (F i) := by
  obtain ⟨cs, h1, _, h3⟩ := h
  rw [Lib.cell_of_heap h1]
  exact h3 i hi
theorem VR.free (h : VR w g t n F) (i : Nat) : w.frozen? ⟨g, i, none⟩ = false := by
  obtain ⟨cs, h1, _⟩ := h
  exact Lib.frozen_of_heap h1 i
theorem VR.below (h : VR w g t n F) (hb : Below B w w') (hg : g < B) : VR w' g t n F := by
  obtain ⟨cs, h1, h2⟩ := h
  exact ⟨cs, (hb.block g hg).trans h1, h2⟩
theorem VR.alloc (h : VR w g t n F) (o : Obj) : VR (w.alloc o) g t n F := by
  have hl := h.lt
  obtain ⟨cs, h1, h2⟩ := h
  exact ⟨cs, (Below.heap_alloc w o g hl).trans h1, h2⟩
theorem VR.far (h : VR w g t n F) {p : Addr} (hp : g ≠ p.block) (u : Value) : VR (w.setCell p u) g t n F := by
  obtain ⟨cs, h1, h2⟩ := h
  exact ⟨cs, (Below.heap_setCell w p u g hp).trans h1, h2⟩
theorem VR.set_ (h : VR w g t n F) (i : Nat) (v : Value) : VR (w.setCell ⟨g, i, none⟩ v) g t n (fun j => if j = i then v else F j) := by
  obtain ⟨cs, h1, h2, h3⟩ := h
  refine ⟨cs.setIfInBounds i v, by simp [World.setCell, Array.getElem?_modify, h1], by simpa using h2, fun j hj => ?_⟩
  rw [Array.getElem?_setIfInBounds]
  by_cases e : i = j
  · subst e; simp; omega
  · have e' : ¬ j = i := fun h => e h.symm
    simp [e, e', h3 j hj]
theorem VR.congr {F' : Nat → Value} (h : VR w g t n F) (e : ∀ i, i < n → F i = F' i) : VR w g t n F' := by
  obtain ⟨cs, h1, h2, h3⟩ := h
  exact ⟨cs, h1, h2, fun i hi => by rw [h3 i hi, e i hi]⟩
end
theorem VR.made (w : World) (n : Nat) (z : Value) (t : TypeId) : VR (w.alloc (.cells (madeCells #[z] n) t)) w.heap.size t n (fun _ => z) := by
  refine ⟨madeCells #[z] n, World.alloc_heap_new w _, Nat.le_of_eq (size_madeCells _ _).symm, fun i hi => ?_⟩
  simp [madeCells, hi, Nat.mod_one]
theorem fold_push : ∀ (ns : List Int) (a : Array UInt8), ns.foldl (fun r n => r.push (UInt8.ofNat n.toNat)) (⟨a⟩ : ByteArray) = ⟨a ++ (ns.map fun n => UInt8.ofNat n.toNat).toArray⟩ := by
  intro ns
  induction ns with
  | nil => intro a; simp
  | cons n ns ih =>
    intro a
    rw [List.foldl_cons]
    show List.foldl _ (⟨a.push (UInt8.ofNat n.toNat)⟩ : ByteArray) ns = _
    rw [ih]
    simp
/-- A slice of bytes as a string. -/
theorem conv_run (g A : Nat) (l : Nat → Bool) (w : World) (hr : VR w g 5 A (fun i => .int .u8 ((mkc (l i)).toNat : Int))) :
    (convert 122 9 (.slice (some ⟨g, 0, none⟩) A A)).run Try.prog w = .ok (.string ⟨((List.range A).map fun i => mkc (l i)).toArray⟩) w := by
  rw [run_convert_bytes_string w 122 9 5 _ _ _ Try.underlying122 Try.underlying5 Try.underlying9]
  have hl := run_loadCells_list (P := Try.prog) w ⟨g, 0, none⟩ ((List.range A).map fun i => Value.int .u8 ((mkc (l i)).toNat : Int)) (fun j v hj => by
    rw [addr_add0]
    have hj2 : j < A := by have := (List.getElem?_eq_some_iff.1 hj).1; rwa [List.length_map, List.length_range] at this
    rw [List.getElem?_map, List.getElem?_range hj2] at hj
    rw [hr.cell hj2]
    exact hj)
  rw [List.length_map, List.length_range] at hl
  rw [run_bytesToString w ⟨g, 0, none⟩ A A ((List.range A).map fun i => ((mkc (l i)).toNat : Int)) (by rw [List.map_map]; exact hl)]
  congr 2
  show List.foldl _ (⟨#[]⟩ : ByteArray) _ = _
  rw [fold_push]
  congr 1
  rw [List.map_map]
  simp [Function.comp_def]
theorem mky_run (N : Nat) (hN : N ≤ 4096) (w : World) :
    (Instr.makeSlice 122 (.int .i64 (N : Nat)) (.int .i64 (N : Nat))).run Try.prog w = .ok (.slice (some ⟨w.heap.size, 0, none⟩) N N) (w.alloc (.cells (madeCells #[.int .u8 0] N) 5)) :=
  run_make_row' (P := Try.prog) 122 5 (.int .u8 0) 1 Try.underlying122 Try.infoB rfl .i64 .i64 N (by omega) (by omega) w
/-- The first cells of a row of a grid, as bytes. -/
def ln (W A : Nat) (f : Nat → Bool) (y : Nat) : List UInt8 := (List.range A).map fun x => mkc (f (y * W + x))
def tw (W A : Nat) (f : Nat → Bool) (y : Nat) : Value := .string ⟨(ln W A f y ++ ln W A f y).toArray⟩
/-- What lies in 'twice'. -/
structure TS (w wr : World) (W H : Nat) (sa : Value) (A R : Nat) (f : Nat → Bool) (y : Nat) : Prop where
  g : Box wr w.heap.size (W : Nat) (H : Nat) sa
  v : VR wr (w.heap.size + 1) 9 R (fun j => if j < y then tw W A f j else .string ⟨#[]⟩)
  bel : Below w.heap.size w wr
theorem TS.next {w wr w' : World} {W H A R y : Nat} {sa : Value} {f : Nat → Bool} (h : TS w wr W H sa A R f y) (hb : Below wr.heap.size wr w') : TS w w' W H sa A R f y := ⟨h.g.below hb h.g.lt, h.v.below hb h.v.lt, h.bel.trans (hb.mono h.bel.size)⟩
theorem TS.alloc {w wr : World} {W H A R y : Nat} {sa : Value} {f : Nat → Bool} (h : TS w wr W H sa A R f y) (o : Obj) : TS w (wr.alloc o) W H sa A R f y := ⟨h.g.alloc o, h.v.alloc o, blA h.bel (Nat.le_refl _) o⟩
theorem TS.far {w wr : World} {W H A R y : Nat} {sa : Value} {f : Nat → Bool} (h : TS w wr W H sa A R f y) {p : Addr} (hp : w.heap.size + 1 < p.block) (u : Value) : TS w (wr.setCell p u) W H sa A R f y :=
  ⟨h.g.far (by omega) u, h.v.far (by omega) u, h.bel.setCell (by omega) u⟩
theorem TS.put {w wr : World} {W H A R y : Nat} {sa : Value} {f : Nat → Bool} (h : TS w wr W H sa A R f y) : TS w (wr.setCell ⟨w.heap.size + 1, y, none⟩ (tw W A f y)) W H sa A R f (y + 1) :=
  ⟨h.g.far (by simp) _, (h.v.set_ y (tw W A f y)).congr fun j hj => by
    by_cases e : j = y
    · subst e; rw [if_pos rfl, if_pos (by omega)]
    · rw [if_neg e]
      by_cases k : j < y
      · rw [if_pos k, if_pos (by omega)]
      · rw [if_neg k, if_neg (by omega)], h.bel.setCell (Nat.le_succ _) _⟩
set_option maxHeartbeats 3200000 in
theorem twice_any (W H b o d A R : Nat) (f : Nat → Bool) (w : World) (lb : b < w.heap.size) (hcs : ∀ i, i < W * H → w.cell? ⟨b, o + i, none⟩ = some (.bool (f i))) (hW : W ≤ 64) (hH : H ≤ 64) (a0 : 1 ≤ A) (aw : A ≤ W) (r0 : 1 ≤ R) (rh : R ≤ H) :
    Calls Try.prog 121 #[.agg #[.int .i64 (W : Nat), .int .i64 (H : Nat), .slice (some ⟨b, o, none⟩) (W * H) d], .int .i64 (A : Nat), .int .i64 (R : Nat)] w fun e w' => ∃ g, e = .returned (.slice (some ⟨g, 0, none⟩) (2 * R) (2 * R)) ∧ w.heap.size ≤ g ∧ w'.heap[g]? = some (.cells ((List.range R).map (tw W A f) ++ (List.range R).map (tw W A f)).toArray 9 (0, 0)) ∧ Below w.heap.size w w' := by
  have hWH : W * H ≤ 4096 := Nat.mul_le_mul hW hH
  have HCS := Lib.hid (fun v (h : Below w.heap.size w v) i (hi : i < W * H) => (h.cell (p := ⟨b, o + i, none⟩) lb).trans (hcs i hi))
  obtain ⟨N, hN⟩ : ∃ N, W * H = N := ⟨_, rfl⟩
  rw [hN] at HCS hWH ⊢
  have HN := Lib.hid hN
  have hmk := mks_run R (by omega)
  have hmy := mky_run A (by omega)
  have X0 := Lib.hid (Box.new w (W : Nat) (H : Nat) (.slice (some ⟨b, o, none⟩) N d))
  have T0 : Hid (TS w ((w.alloc (.cells #[.int .i64 (W : Nat), .int .i64 (H : Nat), .slice (some ⟨b, o, none⟩) N d] 24)).alloc (.cells (madeCells #[.string ⟨#[]⟩] R) 9)) W H (.slice (some ⟨b, o, none⟩) N d) A R f 0) := Lib.hid (by
    have h := VR.made (w.alloc (.cells #[.int .i64 (W : Nat), .int .i64 (H : Nat), .slice (some ⟨b, o, none⟩) N d] 24)) R (.string ⟨#[]⟩) 9
    rw [World.size_alloc] at h
    exact ⟨X0.out.alloc _, h.congr fun j _ => by rw [if_neg (by omega)], blA (blA (Below.refl _ _) (Nat.le_refl _) _) (Nat.le_refl _) _⟩)
  clear hcs hN X0
  go_enter Try.func121, Try.ntmps121
  go_wp2
  go_loopw [15] (fun v wr => ∃ y : Nat, y ≤ R ∧ v = .int .i64 y ∧ Hid (TS w wr W H (.slice (some ⟨b, o, none⟩) N d) A R f y)) (fun v _ => R - (intOf v).toNat)
  case atStart => exact ⟨0, by omega, rfl, T0⟩
  case round =>
    obtain ⟨y, hy, rfl, HT⟩ := hrel
    by_cases hly : y < R
    · have HB0 := Lib.hid (VR.made wr A (.int .u8 0) 5)
      have HT1 := Lib.hid (HT.out.alloc (.cells (madeCells #[.int .u8 0] A) 5))
      have hgb : w.heap.size + 1 < wr.heap.size := HT.out.v.lt
      obtain ⟨gb, hgb2⟩ : ∃ gb, wr.heap.size = gb := ⟨_, rfl⟩
      go_wp2
      rw [hgb2] at HB0 hgb
      go_loopw [22] (fun v wx => ∃ x : Nat, x ≤ A ∧ v = .int .i64 x ∧ Hid (VR wx gb 5 A (fun j => if j < x then .int .u8 ((mkc (f (y * W + j))).toNat : Int) else .int .u8 0)) ∧ Hid (TS w wx W H (.slice (some ⟨b, o, none⟩) N d) A R f y)) (fun v _ => A - (intOf v).toNat)
      case atStart => exact ⟨0, by omega, rfl, Lib.hid (HB0.out.congr fun j _ => by rw [if_neg (by omega)]), HT1⟩
      case round =>
        obtain ⟨x, hx, rfl, HB, HX⟩ := hrel
        by_cases hlx : x < A
        · have j1 : y * W + x < N := by rw [← HN.out, Nat.mul_comm W H]; have h := Nat.mul_le_mul_right W (show y + 1 ≤ H by omega); rw [Nat.add_mul, Nat.one_mul] at h; omega
          have kc := HCS.out wr HX.out.bel _ j1
          obtain ⟨u, hu⟩ : ∃ u, f (y * W + x) = u := ⟨_, rfl⟩
          rw [hu] at kc
          have HU := Lib.hid hu
          clear hu
          have a5 : IntKind.i64.wrap ((y : Int) * (W : Int)) = ((y * W : Nat) : Int) := by rw [Int.natCast_mul]; exact IntWalk.i64_in _ (by rw [← Int.natCast_mul]; omega)
          obtain ⟨r1, hr1⟩ : ∃ r1, y * W = r1 := ⟨_, rfl⟩
          rw [hr1] at j1 kc a5
          have a7 : IntKind.i64.wrap ((r1 : Int) + (x : Int)) = ((r1 + x : Nat) : Int) := by rw [Int.natCast_add]; exact IntWalk.i64_in _ (by omega)
          clear hr1
          generalize r1 + x = g1 at j1 kc a7
          have b3 : (g1 : Int) < (N : Int) := by omega
          have y3 : (x : Int) < (A : Int) := by omega
          obtain ⟨q0, q1, q2, q3, q4, q5, q6⟩ := HX.out.g.all
          have fz := HB.out.free x
          have ce := HB.out.cell hlx
          rw [if_neg (by omega)] at ce
          have hX1 := Lib.hid (HX.out.far (p := ⟨gb, x, none⟩) hgb (.int .u8 48))
          have hV1 := Lib.hid (HB.out.set_ x (.int .u8 48))
          have kc1 := (World.cell?_of_block (w := wr) (w' := wr.setCell ⟨gb, x, none⟩ (.int .u8 48)) (a := ⟨b, o + g1, none⟩) (Below.heap_setCell wr ⟨gb, x, none⟩ (.int .u8 48) b (show b ≠ gb by omega))).trans kc
          obtain ⟨s0, s1, s2, s3, s4, s5, s6⟩ := hX1.out.g.all
          have fz1 := hV1.out.free x
          have ce1 := hV1.out.cell hlx
          rw [if_pos rfl] at ce1
          cases u
          · go_wp2
            refine ⟨⟨x + 1, by omega, by go_num, Lib.hid (hV1.out.congr fun j hj => ?_), hX1⟩, by simp [intOf]; omega⟩
            by_cases e : j = x
            · subst e; rw [if_pos rfl, if_pos (by omega), HU.out]; rfl
            · rw [if_neg e]
              by_cases k : j < x
              · rw [if_pos k, if_pos (by omega)]
              · rw [if_neg k, if_neg (by omega)]
          · go_wp2
            refine ⟨⟨x + 1, by omega, by go_num, Lib.hid ((hV1.out.set_ x (.int .u8 49)).congr fun j hj => ?_), Lib.hid (hX1.out.far (p := ⟨gb, x, none⟩) hgb (.int .u8 49))⟩, by simp [intOf]; omega⟩
            by_cases e : j = x
            · subst e; rw [if_pos rfl, if_pos (by omega), HU.out]; rfl
            · rw [if_neg e, if_neg e]
              by_cases k : j < x
              · rw [if_pos k, if_pos (by omega)]
              · rw [if_neg k, if_neg (by omega)]
        · have e : x = A := by omega
          subst e
          have hcv : (convert 122 9 (.slice (some ⟨gb, 0, none⟩) x x)).run Try.prog wr = .ok (.string ⟨(ln W x f y).toArray⟩) wr := conv_run gb x (fun i => f (y * W + i)) wr (HB.out.congr fun j hj => if_pos hj)
          have HRp := Lib.hid (fun v => (show Calls Try.prog 137 #[.string ⟨(ln W x f y).toArray⟩, .int .i64 2] v fun e w' => e = .returned (.string ⟨(ln W x f y ++ ln W x f y).toArray⟩) ∧ Below v.heap.size v w' by
            have h := TryZ.strings_Repeat ⟨(ln W x f y).toArray⟩ 2 v (by omega) (by
              show (ln W x f y).toArray.size * 2 ≤ _
              rw [List.size_toArray]; unfold ln; rw [List.length_map, List.length_range]; omega)
            have e : Lib.repeatL (⟨(ln W x f y).toArray⟩ : ByteArray).data.toList 2 = ln W x f y ++ ln W x f y := by
              show Lib.repeatL (ln W x f y) 2 = _
              simp [Lib.repeatL]
            rw [e] at h
            exact h))
          go_wp2_with fail
          refine (HRp.out _).mono ?_
          rintro e w3 ⟨rfl, hb⟩
          have HX3 := Lib.hid (HX.out.next hb)
          clear hb HB HX HB0 HT1
          have y3 : (y : Int) < (R : Int) := by omega
          have fz := HX3.out.v.free y
          have ce := HX3.out.v.cell hly
          go_wp2
          exact ⟨⟨y + 1, by omega, by go_num, Lib.hid HX3.out.put⟩, by simp [intOf]; omega⟩
    · have e : y = R := by omega
      subst e
      go_wp2_with fail
      refine (rep2_any (w.heap.size + 1) y y ((List.range y).map (tw W A f)) _ (by rw [List.length_map, List.length_range]) r0 (by omega) HT.out.v.lt (fun j v hj => ?_) (fun v hv => ?_)).mono ?_
      · have hj2 : j < y := by have := (List.getElem?_eq_some_iff.1 hj).1; rwa [List.length_map, List.length_range] at this
        rw [List.getElem?_map, List.getElem?_range hj2] at hj
        rw [HT.out.v.cell hj2, if_pos hj2]
        exact hj
      · obtain ⟨j, _, rfl⟩ := List.mem_map.1 hv
        rfl
      rintro e w4 ⟨g, rfl, hg, hh, hb⟩
      have hs := HT.out.bel.size
      have HF := Lib.hid (HT.out.bel.trans (hb.mono hs))
      have HH := Lib.hid hh
      clear hb hh
      go_wp2
      go_ret
      exact ⟨g, rfl, by omega, HH.out, HF.out⟩
end Go.Proofs.Ytjbofdgdcnfmoaa
