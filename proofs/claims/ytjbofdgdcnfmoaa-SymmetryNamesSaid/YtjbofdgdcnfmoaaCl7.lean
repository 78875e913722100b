/- The chapter's examples of layer 7. -/
import Derived.Test.YtjbofdgdcnfmoaaDec
namespace Go.Proofs.Ytjbofdgdcnfmoaa
open Go.RowKit
set_option maxRecDepth 100000
set_option linter.unusedVariables false
set_option linter.unusedSimpArgs false

set_option maxHeartbeats 800000 in
theorem cloth7_any (s : ByteArray) (W H n : Nat) (f : Nat → Bool) (hp : ∀ v, Calls Try.prog 69 #[.string s] v (PG v W H n f)) (w : World) : Calls Try.prog 45 #[.string s] w (CG w W H n f) := by
  have HP := Lib.hid hp
  have L0 := Lib.hid (show Below w.heap.size w (w.alloc (.cells #[.int .i64 0, .int .i64 0, .slice none 0 0] 24)) from (Below.refl _ _).alloc (Nat.le_refl _) _)
  have R0 := Lib.hid (Box.new w 0 0 (.slice none 0 0))
  have hs0 : (w.alloc (.cells #[.int .i64 0, .int .i64 0, .slice none 0 0] 24)).heap.size = w.heap.size + 1 := by simp
  clear hp
  go_enter Try.func45, Try.ntmps45
  go_wp2_with fail
  generalize w.alloc (.cells #[.int .i64 0, .int .i64 0, .slice none 0 0] 24) = v0 at *
  refine (HP.out _).mono ?_
  rintro e w1 ⟨k, rfl, hk, hrow, hb⟩
  have hkl := hrow.lt
  have R1 := Lib.hid ((R0.out.below hb R0.out.lt).alloc (.cells #[.int .i64 W, .int .i64 H, .slice (some ⟨k, 0, none⟩) n n] 24))
  have HW := Lib.hid (hrow.alloc (.cells #[.int .i64 W, .int .i64 H, .slice (some ⟨k, 0, none⟩) n n] 24))
  have LB := Lib.hid ((L0.out.trans (hb.mono L0.out.size)).alloc (Nat.le_trans L0.out.size hb.size) (.cells #[.int .i64 W, .int .i64 H, .slice (some ⟨k, 0, none⟩) n n] 24))
  obtain ⟨q0, q1, q2, q3, q4, q5, q6⟩ := R1.out.all
  obtain ⟨r0, r1, r2, r3, r4, r5, r6⟩ := (Box.new w1 W H (.slice (some ⟨k, 0, none⟩) n n)).all
  have hk2 : w.heap.size < k := by omega
  clear hrow hb
  go_wp2
  refine bodyPost_ret (v := .agg #[.int .i64 W, .int .i64 H, .slice (some ⟨k, 0, none⟩) n n]) (by simp [results, Try.results45, go_sem, q0, q1, q2]) rfl ⟨k, rfl, by omega, ?_, ?_⟩
  · exact ((HW.out.far (by simp; omega) _).far (by simp; omega) _).far (by simp; omega) _
  · exact ((LB.out.setCell (by simp) _).setCell (by simp) _).setCell (by simp) _
theorem c7_ea (w : World) : Calls Try.prog 45 #[.string ⟨#[46, 120, 10, 120, 46, 10]⟩] w (CG w 2 2 4 ea) := cloth7_any _ _ _ _ _ (parse_ea) w
def twl (i : Nat) : Bool := i == 0 || i == 1 || i == 5 || i == 6 || i == 10 || i == 11 || i == 12 || i == 15
theorem parse_twl (w : World) : Calls Try.prog 69 #[.string ⟨#[120, 46, 46, 120, 10, 46, 46, 120, 120, 10, 46, 120, 120, 46, 10, 120, 120, 46, 46, 10]⟩] w (PG w 4 4 16 twl) := by
  refine (parse_ok ⟨#[120, 46, 46, 120, 10, 46, 46, 120, 120, 10, 46, 120, 120, 46, 10, 120, 120, 46, 46, 10]⟩ 4 4 w (by decide) (by omega) (by omega) (by omega) (by omega) (by decide) ⟨by decide, ?_⟩ (fun W' => ?_)).mono fun e w' ⟨k, he, hk, hr, hb⟩ => ⟨k, he, hk, hr.congr ?_, hb⟩
  · have key : ∀ i (h : i < 20), okAt ⟨#[120, 46, 46, 120, 10, 46, 46, 120, 120, 10, 46, 120, 120, 46, 10, 120, 120, 46, 46, 10]⟩ 4 i h := by unfold okAt; decide +kernel
    exact key
  · exact (Try.strings_IndexByte _ 10 W').mono fun e w' h => by
      refine ⟨?_, h.2⟩
      rw [h.1]
      rfl
  · decide
theorem c7_twl (w : World) : Calls Try.prog 45 #[.string ⟨#[120, 46, 46, 120, 10, 46, 46, 120, 120, 10, 46, 120, 120, 46, 10, 120, 120, 46, 46, 10]⟩] w (CG w 4 4 16 twl) := cloth7_any _ _ _ _ _ (parse_twl) w
def xx (i : Nat) : Bool := i == 0 || i == 1 || i == 2 || i == 3
theorem parse_xx (w : World) : Calls Try.prog 69 #[.string ⟨#[120, 120, 10, 120, 120, 10]⟩] w (PG w 2 2 4 xx) := by
  refine (parse_ok ⟨#[120, 120, 10, 120, 120, 10]⟩ 2 2 w (by decide) (by omega) (by omega) (by omega) (by omega) (by decide) ⟨by decide, ?_⟩ (fun W' => ?_)).mono fun e w' ⟨k, he, hk, hr, hb⟩ => ⟨k, he, hk, hr.congr ?_, hb⟩
  · have key : ∀ i (h : i < 6), okAt ⟨#[120, 120, 10, 120, 120, 10]⟩ 2 i h := by unfold okAt; decide +kernel
    exact key
  · exact (Try.strings_IndexByte _ 10 W').mono fun e w' h => by
      refine ⟨?_, h.2⟩
      rw [h.1]
      rfl
  · decide
theorem c7_xx (w : World) : Calls Try.prog 45 #[.string ⟨#[120, 120, 10, 120, 120, 10]⟩] w (CG w 2 2 4 xx) := cloth7_any _ _ _ _ _ (parse_xx) w
def dot (i : Nat) : Bool := false
theorem parse_dot (w : World) : Calls Try.prog 69 #[.string ⟨#[46, 10]⟩] w (PG w 1 1 1 dot) := by
  refine (parse_ok ⟨#[46, 10]⟩ 1 1 w (by decide) (by omega) (by omega) (by omega) (by omega) (by decide) ⟨by decide, ?_⟩ (fun W' => ?_)).mono fun e w' ⟨k, he, hk, hr, hb⟩ => ⟨k, he, hk, hr.congr ?_, hb⟩
  · have key : ∀ i (h : i < 2), okAt ⟨#[46, 10]⟩ 1 i h := by unfold okAt; decide +kernel
    exact key
  · exact (Try.strings_IndexByte _ 10 W').mono fun e w' h => by
      refine ⟨?_, h.2⟩
      rw [h.1]
      rfl
  · decide
theorem c7_dot (w : World) : Calls Try.prog 45 #[.string ⟨#[46, 10]⟩] w (CG w 1 1 1 dot) := cloth7_any _ _ _ _ _ (parse_dot) w
/-- A list of the call's own, at any world behind. -/
structure LV (v : World) (D : Option Addr) (n : Nat) (f : Nat → Int) : Prop where
  h : L2.Holds v v.heap.size D n f
theorem LV.next {v v' : World} {D : Option Addr} {n : Nat} {f : Nat → Int} (h : LV v D n f) (hb : Below v.heap.size v v') : LV v' D n f := ⟨(h.h.below hb).more hb.size⟩
theorem LV.of {v : World} {lo : Nat} {D : Option Addr} {n : Nat} {f : Nat → Int} (h : 0 < n → ∃ k, D = some ⟨k, 0, none⟩ ∧ lo ≤ k ∧ L2.Row v k n f) : LV v D n f :=
  ⟨fun hn => by obtain ⟨k, rfl, _, hr⟩ := h hn; exact hr.holds hr.lt hn⟩
theorem lv_lit (w : World) (l : List Int) (cs : Array Value) (hc : cs = (l.map fun x => Value.int .i64 x).toArray) : LV (w.alloc (.cells cs 3)) (some ⟨w.heap.size, 0, none⟩) l.length (fun i => l.getD i 0) := by
  refine ⟨fun _ => ⟨w.heap.size, 0, rfl, by simp, fun i hi => ?_⟩⟩
  rw [Lib.cell_of_heap (cs := cs) (World.alloc_heap_new w _), hc]
  show ((List.map (fun x => Value.int .i64 x) l).toArray)[0 + i]? = _
  rw [Nat.zero_add, List.getElem?_toArray, List.getElem?_map, List.getElem?_eq_getElem hi]
  simp [List.getD, List.getElem?_eq_getElem hi]
theorem lv_same {v : World} {D E : Option Addr} {n : Nat} {f g : Nat → Int} (hn : n ≤ 5000) (h : LV v D n f) (k : LV v E n g) (c d : Nat) (e : ∀ i, i < n → f i = g i) : Calls Try.prog 53 #[.slice D n c, .slice E n d] v fun e w' => e = .returned (.bool true) ∧ Below v.heap.size v w' := by
  have h1 := L2.rsame_any D E n c d f g v hn h.h k.h
  rwa [decide_eq_true e] at h1
set_option maxHeartbeats 800000 in
theorem twill_any (w : World) : Calls Try.prog 49 #[] w (CG w 4 4 16 twl) := by
  have HP := Lib.hid c7_twl
  have L0 := Lib.hid (show Below w.heap.size w (w.alloc (.cells #[.int .i64 0, .int .i64 0, .slice none 0 0] 24)) from (Below.refl _ _).alloc (Nat.le_refl _) _)
  have R0 := Lib.hid (Box.new w 0 0 (.slice none 0 0))
  have hs0 : (w.alloc (.cells #[.int .i64 0, .int .i64 0, .slice none 0 0] 24)).heap.size = w.heap.size + 1 := by simp
  go_enter Try.func49, Try.ntmps49
  go_wp2_with fail
  generalize w.alloc (.cells #[.int .i64 0, .int .i64 0, .slice none 0 0] 24) = v0 at *
  refine (HP.out _).mono ?_
  rintro e w1 ⟨k, rfl, hk, hrow, hb⟩
  have hkl := hrow.lt
  have R1 := Lib.hid (R0.out.below hb R0.out.lt)
  have HW := Lib.hid hrow
  have LB := Lib.hid (L0.out.trans (hb.mono L0.out.size))
  obtain ⟨q0, q1, q2, q3, q4, q5, q6⟩ := R1.out.all
  have hk2 : w.heap.size < k := by omega
  clear hrow hb
  go_wp2
  have Z := box_set3 R1.out 4 4 (.slice (some ⟨k, 0, none⟩) 16 16)
  obtain ⟨z0, z1, z2, _⟩ := Z.all
  refine bodyPost_ret (v := .agg #[.int .i64 4, .int .i64 4, .slice (some ⟨k, 0, none⟩) 16 16]) (by simp [results, Try.results49, go_sem, z0, z1, z2]) rfl ⟨k, rfl, by omega, ?_, ?_⟩
  · exact ((HW.out.far (by simp; omega) _).far (by simp; omega) _).far (by simp; omega) _
  · exact ((LB.out.setCell (by simp) _).setCell (by simp) _).setCell (by simp) _
theorem okn {W H : Nat} (f : Nat → Bool) (h : (decide (1 ≤ W) && decide (W ≤ 64) && decide (1 ≤ H) && decide (H ≤ 64)) = true) : (⟨W, H, f⟩ : GD).Ok := by
  simp only [Bool.and_eq_true, decide_eq_true_eq] at h
  exact ⟨h.1.1.1, h.1.1.2, h.1.2, h.2⟩
theorem all_ea (v : World) (k : Nat) (hr : Row v k 4 ea) : Calls Try.prog 46 #[.agg #[.int .i64 2, .int .i64 2, .slice (some ⟨k, 0, none⟩) 4 4]] v (LOut v 16 (lf (List.range 16)) 0) :=
  pall_is (G := ⟨2, 2, ea⟩) (okn _ (by decide)) (l := List.range 16) (ofl_dec (okn _ (by decide)) (okn _ (by decide)) (by decide +kernel)) (by decide) k 4 v hr (Nat.le_refl _)
theorem all_tw (v : World) (k : Nat) (hr : Row v k 16 twl) : Calls Try.prog 46 #[.agg #[.int .i64 4, .int .i64 4, .slice (some ⟨k, 0, none⟩) 16 16]] v (LOut v 8 (lf [0, 3, 4, 7, 8, 11, 12, 15]) 0) :=
  pall_is (G := ⟨4, 4, twl⟩) (okn _ (by decide)) (l := [0, 3, 4, 7, 8, 11, 12, 15]) (ofl_dec (okn _ (by decide)) (okn _ (by decide)) (by decide +kernel)) (by decide) k 16 v hr (Nat.le_refl _)
theorem comp14 (w : World) : Calls Try.prog 54 #[.int .i64 1, .int .i64 4] w (NOut 5 0 w) := by have h := pcomp_ok 1 4 (by omega) (by omega) w; rwa [show cmp 1 4 = 5 from by decide] at h
theorem comp41 (w : World) : Calls Try.prog 54 #[.int .i64 4, .int .i64 1] w (NOut 6 0 w) := by have h := pcomp_ok 4 1 (by omega) (by omega) w; rwa [show cmp 4 1 = 6 from by decide] at h
theorem inv5 (w : World) : Calls Try.prog 55 #[.int .i64 5] w (NOut 6 0 w) := by have h := pinv_ok 5 (by omega) w; rwa [show inv 5 = 6 from by decide] at h
theorem least_xx (v : World) (k : Nat) (hr : Row v k 4 xx) : Calls Try.prog 51 #[.agg #[.int .i64 2, .int .i64 2, .slice (some ⟨k, 0, none⟩) 4 4]] v fun e w' => ∃ j d', e = .returned (.tuple #[.agg #[.int .i64 1, .int .i64 1, .slice (some ⟨j, 0, none⟩) 1 d'], .int .i64 8, .int .i64 0]) ∧ Row w' j 1 dot ∧ Below v.heap.size v w' := by
  refine (ple_is (G := ⟨2, 2, xx⟩) (okn _ (by decide)) (best_of (L := fun _ => (1, 0, 1)) (a := 8) (x0 := 0) (y0 := 0) (by decide +kernel)) (by decide) k 4 v hr).mono ?_
  rintro e w' ⟨j, d', h1, h2, h3⟩
  exact ⟨j, d', h1, h2.congr (by decide +kernel), h3⟩
theorem same_dot (v : World) (j k d : Nat) (hr : Row v j 1 dot) (hs : Row v k 1 dot) : Calls Try.prog 39 #[.agg #[.int .i64 1, .int .i64 1, .slice (some ⟨j, 0, none⟩) 1 d], .agg #[.int .i64 1, .int .i64 1, .slice (some ⟨k, 0, none⟩) 1 1]] v fun e w' => e = .returned (.bool true) ∧ Below v.heap.size v w' := by
  have h := same_gd ⟨1, 1, dot⟩ ⟨1, 1, dot⟩ j d k 1 v (by decide) hr hs
  rwa [show sm ⟨1, 1, dot⟩ ⟨1, 1, dot⟩ = true from by decide +kernel] at h
end Go.Proofs.Ytjbofdgdcnfmoaa
