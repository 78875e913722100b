/- The least of some forms by the program (slices.MinFunc); a form as a grid. -/
import Derived.Test.YtjbofdgdcnfmoaaFcm
import Derived.Test.YtjbofdgdcnfmoaaBef
namespace Go.Proofs.Ytjbofdgdcnfmoaa
open Go.RowKit
set_option maxRecDepth 100000
set_option linter.unusedVariables false
set_option linter.unusedSimpArgs false

/-- A slice of forms. -/
def FRow (w : World) (k n : Nat) (F : Nat → GD) : Prop := ∀ i, i < n → w.cell? ⟨k, i * 3, none⟩ = some (.int .i64 ((F i).W : Nat)) ∧ w.cell? ⟨k, i * 3 + 1, none⟩ = some (.int .i64 ((F i).H : Nat)) ∧ w.cell? ⟨k, i * 3 + 2, none⟩ = some (.string ⟨(fby (F i)).toArray⟩)
theorem FRow.below {w w' : World} {k n B : Nat} {F : Nat → GD} (h : FRow w k n F) (hb : Below B w w') (hk : k < B) : FRow w' k n F := fun i hi => by
  obtain ⟨a, b, c⟩ := h i hi
  exact ⟨(hb.cell (p := ⟨k, i * 3, none⟩) hk).trans a, (hb.cell (p := ⟨k, i * 3 + 1, none⟩) hk).trans b, (hb.cell (p := ⟨k, i * 3 + 2, none⟩) hk).trans c⟩
/-- What lies while the least form is sought. -/
structure MS (w wr : World) (W H : Int) (s : Value) : Prop where
  r : Fb wr w.heap.size 0 0 (.string ⟨#[]⟩)
  m : Fb wr (w.heap.size + 1) W H s
  bel : Below w.heap.size w wr
theorem MS.next {w wr w' : World} {W H : Int} {s : Value} (h : MS w wr W H s) (hb : Below wr.heap.size wr w') : MS w w' W H s := ⟨h.r.below hb h.r.lt, h.m.below hb h.m.lt, h.bel.trans (hb.mono h.bel.size)⟩
theorem MS.put {w wr : World} {W H : Int} {s : Value} (h : MS w wr W H s) (x y : Int) (z : Value) : MS w (((wr.setCell ⟨w.heap.size + 1, 0, none⟩ (.int .i64 x)).setCell ⟨w.heap.size + 1, 1, none⟩ (.int .i64 y)).setCell ⟨w.heap.size + 1, 2, none⟩ z) x y z :=
  ⟨((h.r.far (by simp) _).far (by simp) _).far (by simp) _, h.m.put x y z, ((h.bel.setCell (Nat.le_succ _) _).setCell (Nat.le_succ _) _).setCell (Nat.le_succ _) _⟩
theorem MS.new (w : World) (W H : Int) (s : Value) : MS w ((w.alloc (.cells #[.int .i64 0, .int .i64 0, .string ⟨#[]⟩] 116)).alloc (.cells #[.int .i64 W, .int .i64 H, s] 116)) W H s := by
  have h := Fb.new (w.alloc (.cells #[.int .i64 0, .int .i64 0, .string ⟨#[]⟩] 116)) W H s
  rw [World.size_alloc] at h
  exact ⟨(Fb.new _ _ _ _).alloc _, h, blA (blA (Below.refl _ _) (Nat.le_refl _) _) (Nat.le_refl _) _⟩
set_option maxHeartbeats 1600000 in
theorem minf_any (k c n : Nat) (F : Nat → GD) (w : World) (h0 : 0 < n) (hn : n ≤ 100000) (hl : k < w.heap.size) (hr : FRow w k n F) :
    Calls Try.prog 95 #[.slice (some ⟨k, 0, none⟩) n c, .func (.func 97) #[] #[]] w fun e w' => ∃ j, j < n ∧ e = .returned (fv (F j)) ∧ (∀ i, i < n → ¬ (F i).lt (F j)) ∧ Below w.heap.size w w' := by
  have HR := Lib.hid (fun v (h : Below w.heap.size w v) => hr.below h hl)
  obtain ⟨a0, a1, a2⟩ := hr 0 h0
  have M0 := Lib.hid (MS.new w ((F 0).W : Nat) ((F 0).H : Nat) (.string ⟨(fby (F 0)).toArray⟩))
  have hl1 : k < w.heap.size + 1 := by omega
  have b0 := (Below.refl w.heap.size w).alloc (Nat.le_refl _) (.cells #[.int .i64 0, .int .i64 0, .string ⟨#[]⟩] 116)
  obtain ⟨d0, d1, d2⟩ := HR.out _ b0 0 h0
  clear hr b0
  go_enter Try.func95, Try.ntmps95
  go_wp2
  clear a0 a1 a2 d0 d1 d2
  go_loopw [6] (fun v wr => ∃ i j : Nat, i ≤ n ∧ j < i ∧ v = .int .i64 i ∧ Hid (∀ l, l < i → ¬ (F l).lt (F j)) ∧ Hid (MS w wr ((F j).W : Nat) ((F j).H : Nat) (.string ⟨(fby (F j)).toArray⟩))) (fun v _ => n - (intOf v).toNat)
  case atStart => exact ⟨1, 0, by omega, by omega, rfl, Lib.hid (fun l hl => by have e : l = 0 := (by omega); subst e; exact fun h => h.irr), M0⟩
  case round =>
    obtain ⟨i, j, hi, hj, rfl, hall, HB⟩ := hrel
    by_cases hli : i < n
    · obtain ⟨I, Wf, ii, h0', hbf, hcl⟩ := family wr
      have HCL := Lib.hid hcl
      have HBF := Lib.hid hbf
      have BF := Lib.hid (fun m => HB.out.next (hbf m))
      have p0 := fun m => ((BF.out m).m.all).1
      have p1 := fun m => ((BF.out m).m.all).2.1
      have p2 := fun m => ((BF.out m).m.all).2.2.1
      have o0 := fun m => (HR.out (Wf m) (BF.out m).bel i hli).1
      have o1 := fun m => (HR.out (Wf m) (BF.out m).bel i hli).2.1
      have o2 := fun m => (HR.out (Wf m) (BF.out m).bel i hli).2.2
      obtain ⟨z, hz⟩ : ∃ z, fcmp (F i) (F j) = z := ⟨_, rfl⟩
      have C1 := Lib.hid (fun m => (show Calls Try.prog 97 #[.agg #[.int .i64 ((F i).W : Nat), .int .i64 ((F i).H : Nat), .string ⟨(fby (F i)).toArray⟩], .agg #[.int .i64 ((F j).W : Nat), .int .i64 ((F j).H : Nat), .string ⟨(fby (F j)).toArray⟩]] (Wf m) fun e w' => e = .returned (.int .i64 z) ∧ ∃ m', w' = Wf m' from (compare_any (F i) (F j) (Wf m)).mono fun e w2 h => ⟨by rw [← hz]; exact h.1, HCL.out m _ h.2⟩))
      have hne : Nonempty I := ⟨ii⟩
      have HL := Lib.hid (hz ▸ fcmp_iff (F i) (F j))
      have y3 : (i : Int) < (n : Int) := by omega
      clear hbf hcl hz
      by_cases hlt : z < 0
      · go_wp2_with fail
        refine wp_region_fam Wf ii h0' (by kernel_rfl) (by kernel_rfl) ?_
        clear h0'
        repeat (go_big_quiet_step (first | exact rfl | (go_at_call 97; with_reducible exact C1.out _)))
        refine wpQuiet_nil ?_
        rintro _ ⟨nq, rfl⟩
        have MN := Lib.hid (BF.out nq)
        obtain ⟨e0, e1, e2⟩ := HR.out (Wf nq) MN.out.bel i hli
        obtain ⟨g0, g1, g2, g3, g4, g5⟩ := MN.out.m.all
        clear p0 p1 p2 o0 o1 o2
        go_wp2
        exact ⟨⟨i + 1, i, by omega, by omega, by go_num, Lib.hid (lt_grw (P := fun l => ¬ (F l).lt (F i)) (fun l hl => fun h => hall.out l hl (h.trans (HL.out.1 hlt))) (fun h => h.irr)), Lib.hid (MN.out.put _ _ _)⟩, by simp [intOf]; omega⟩
      · go_wp2_with fail
        refine wp_region_fam Wf ii h0' (by kernel_rfl) (by kernel_rfl) ?_
        clear h0'
        repeat (go_big_quiet_step (first | exact rfl | (go_at_call 97; with_reducible exact C1.out _)))
        refine wpQuiet_nil ?_
        rintro _ ⟨nq, rfl⟩
        have MN := Lib.hid (BF.out nq)
        clear p0 p1 p2 o0 o1 o2
        go_wp2
        exact ⟨⟨i + 1, j, by omega, by omega, by go_num, Lib.hid (lt_grw (P := fun l => ¬ (F l).lt (F j)) hall.out (fun h => by have := HL.out.2 h; omega)), MN⟩, by simp [intOf]; omega⟩
    · have e : i = n := by omega
      subst e
      obtain ⟨g0, g1, g2, g3, g4, g5⟩ := HB.out.m.all
      obtain ⟨r0, r1, r2, r3, r4, r5⟩ := HB.out.r.all
      go_wp2
      obtain ⟨z0, z1, z2, _⟩ := (HB.out.r.put ((F j).W : Nat) ((F j).H : Nat) (.string ⟨(fby (F j)).toArray⟩)).all
      exact bodyPost_ret (v := .agg #[.int .i64 ((F j).W : Nat), .int .i64 ((F j).H : Nat), .string ⟨(fby (F j)).toArray⟩]) (by simp [results, Try.results95, go_sem, z0, z1, z2]) rfl ⟨j, hj, rfl, hall.out, ((HB.out.bel.setCell (Nat.le_refl _) _).setCell (Nat.le_refl _) _).setCell (Nat.le_refl _) _⟩
theorem mkn_run (N : Nat) (hN : N ≤ 4096) (w : World) :
    (Instr.makeSlice 22 (.int .i64 (N : Nat)) (.int .i64 (N : Nat))).run Try.prog w = .ok (.slice (some ⟨w.heap.size, 0, none⟩) N N) (w.alloc (.cells (madeCells #[.bool false] N) 4)) := by
  exact run_make_row' (P := Try.prog) 22 4 (.bool false) 1 Try.underlying22 Try.info4 rfl .i64 .i64 N (by omega) (by omega) w
theorem mkc_one (b : Bool) : ((mkc b).toNat : Int) = if b = true then 49 else 48 := by cases b <;> rfl
set_option maxHeartbeats 1600000 in
/-- A form as a grid. -/
theorem fgrid_any (F : GD) (w : World) (h1 : F.W ≤ 64) (h2 : F.H ≤ 64) : Calls Try.prog 98 #[fv F] w (OkG w F) := by
  obtain ⟨W, H, f⟩ := F
  have hnn : W * H ≤ 4096 := Nat.mul_le_mul h1 h2
  unfold fv
  dsimp only
  have hlen : (⟨(fby ⟨W, H, f⟩).toArray⟩ : ByteArray).size = W * H := by
    show (fby ⟨W, H, f⟩).toArray.size = _
    rw [List.size_toArray, fby_length]
  have HC := Lib.hid (fun i (hi : i < W * H) => (show (⟨(fby ⟨W, H, f⟩).toArray⟩ : ByteArray).data[i]? = some (mkc (f i)) by
    show (fby ⟨W, H, f⟩).toArray[i]? = _
    rw [List.getElem?_toArray]
    unfold fby
    rw [List.getElem?_map, List.getElem?_range hi]
    rfl))
  generalize (⟨(fby ⟨W, H, f⟩).toArray⟩ : ByteArray) = s at *
  generalize hN : W * H = N at *
  have hmk : ∀ v : World, (Instr.makeSlice 22 (.int .i64 (N : Nat)) (.int .i64 (N : Nat))).run Try.prog v = .ok (.slice (some ⟨v.heap.size, 0, none⟩) N N) (v.alloc (.cells (madeCells #[.bool false] N) 4)) := mkn_run N (by omega)
  have A1 := Lib.hid ((Fb.new w (W : Nat) (H : Nat) (.string s)).alloc (.cells #[.int .i64 0, .int .i64 0, .slice none 0 0] 24))
  have B1 := Lib.hid (show Box ((w.alloc (.cells #[.int .i64 (W : Nat), .int .i64 (H : Nat), .string s] 116)).alloc (.cells #[.int .i64 0, .int .i64 0, .slice none 0 0] 24)) (w.heap.size + 1) 0 0 (.slice none 0 0) from by
    have h := Box.new (w.alloc (.cells #[.int .i64 (W : Nat), .int .i64 (H : Nat), .string s] 116)) 0 0 (.slice none 0 0); rwa [World.size_alloc] at h)
  have L1 := Lib.hid (show Below w.heap.size w ((w.alloc (.cells #[.int .i64 (W : Nat), .int .i64 (H : Nat), .string s] 116)).alloc (.cells #[.int .i64 0, .int .i64 0, .slice none 0 0] 24)) from blA (blA (Below.refl _ _) (Nat.le_refl _) _) (Nat.le_refl _) _)
  have hs1 : ((w.alloc (.cells #[.int .i64 (W : Nat), .int .i64 (H : Nat), .string s] 116)).alloc (.cells #[.int .i64 0, .int .i64 0, .slice none 0 0] 24)).heap.size = w.heap.size + 2 := by simp
  have hls : (s.size : Int) = (N : Int) := by rw [hlen]
  have HN := Lib.hid hN
  clear hN
  go_enter Try.func98, Try.ntmps98
  obtain ⟨q0, q1, q2, q3, q4, q5⟩ := A1.out.all
  go_wp2
  clear q0 q1 q2 q3 q4 q5
  generalize ((w.alloc (.cells #[.int .i64 (W : Nat), .int .i64 (H : Nat), .string s] 116)).alloc (.cells #[.int .i64 0, .int .i64 0, .slice none 0 0] 24)) = v0 at *
  go_loopw [11] (fun v wr => ∃ i : Nat, i ≤ N ∧ v = .int .i64 i ∧ Hid (Row wr (w.heap.size + 2) N (fun j => if j < i then f j else false)) ∧ Hid (Fb wr w.heap.size (W : Nat) (H : Nat) (.string s)) ∧ Hid (Box wr (w.heap.size + 1) 0 0 (.slice none 0 0)) ∧ Hid (Below w.heap.size w wr)) (fun v _ => N - (intOf v).toNat)
  case atStart =>
    have hr := Row.made v0 N
    rw [hs1] at hr
    exact ⟨0, by omega, rfl, Lib.hid (hr.congr fun j _ => by rw [if_neg (by omega)]), Lib.hid (A1.out.alloc _), Lib.hid (B1.out.alloc _), Lib.hid (blA L1.out (Nat.le_refl _) _)⟩
  case round =>
    obtain ⟨i, hi, rfl, HR, HA, HB, HL⟩ := hrel
    obtain ⟨q0, q1, q2, q3, q4, q5⟩ := HA.out.all
    by_cases hli : i < N
    · have y3 : (i : Int) < (N : Int) := by omega
      have hc := HC.out i hli
      have fz := HR.out.free i
      have ce := HR.out.cell hli
      have hv : ∀ h : i < s.size, (((s[i]'h).toNat : Int) == 49) = f i := fun h => by
        obtain ⟨h1, h2⟩ := Array.getElem?_eq_some_iff.1 hc
        have e : s[i]'h = mkc (f i) := h2
        rw [e]
        cases f i <;> rfl
      have HV := Lib.hid hv
      clear hc hv
      go_wp2
      refine ⟨⟨i + 1, by omega, by go_num, Lib.hid ((HR.out.set_ i _).congr fun j hj => ?_), Lib.hid (HA.out.far (by simp) _), Lib.hid (HB.out.far (by simp) _), Lib.hid (HL.out.setCell (by simp) _)⟩, by simp [intOf]; omega⟩
      rw [HV.out]
      by_cases e : j = i
      · subst e; rw [if_pos rfl, if_pos (by omega)]
      · rw [if_neg e]
        by_cases k : j < i
        · rw [if_pos k, if_pos (by omega)]
        · rw [if_neg k, if_neg (by omega)]
    · have e : i = N := by omega
      subst e
      obtain ⟨r0, r1, r2, r3, r4, r5, r6⟩ := HB.out.all
      have HN2 := HN.out
      go_wp2
      have Z := box_set3 HB.out (W : Nat) (H : Nat) (.slice (some ⟨w.heap.size + 2, 0, none⟩) i i)
      obtain ⟨z0, z1, z2, _⟩ := Z.all
      refine bodyPost_ret (v := .agg #[.int .i64 (W : Nat), .int .i64 (H : Nat), .slice (some ⟨w.heap.size + 2, 0, none⟩) i i]) (by simp [results, Try.results98, go_sem, z0, z1, z2]) rfl ?_
      have R := ((HR.out.far (p := ⟨w.heap.size + 1, 0, none⟩) (by simp) (.int .i64 (W : Nat))).far (p := ⟨w.heap.size + 1, 1, none⟩) (by simp) (.int .i64 (H : Nat))).far (p := ⟨w.heap.size + 1, 2, none⟩) (by simp) (.slice (some ⟨w.heap.size + 2, 0, none⟩) i i)
      have R2 := R.congr (f' := f) fun j hj => if_pos hj
      subst HN2
      exact ⟨w.heap.size + 2, W * H, rfl, by omega, R2, ((HL.out.setCell (by simp) _).setCell (by simp) _).setCell (by simp) _⟩
end Go.Proofs.Ytjbofdgdcnfmoaa
