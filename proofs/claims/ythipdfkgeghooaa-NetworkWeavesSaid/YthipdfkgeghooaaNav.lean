/- four, alive, fit of the laws. -/
import Derived.Test.YthipdfkgeghooaaNlw
namespace Go.Proofs.Ythipdfkgeghooaa
open Go.RowKit
set_option maxRecDepth 100000
set_option linter.unusedVariables false
set_option linter.unusedSimpArgs false

/-- The chapter's network. -/
def frb (i : Nat) : Nat := i
theorem four_ok : NOk 8 4 4 frb := ⟨by decide, by decide, by decide, by decide, by decide, by decide, fun i hi => hi⟩
theorem four_nh (w : World) : NH (w.alloc (.cells #[.int .i64 0, .int .i64 1, .int .i64 2, .int .i64 3] 3)) (some ⟨w.heap.size, 0, none⟩) 4 frb := fun _ => ⟨w.heap.size, 0, rfl, by simp, fun i hi => by
  rw [Lib.cell_of_heap (World.alloc_heap_new w _)]
  have : i = 0 ∨ i = 1 ∨ i = 2 ∨ i = 3 := by omega
  rcases this with rfl | rfl | rfl | rfl <;> rfl⟩
theorem four_any (w : World) : Calls Try.prog 27 #[] w fun e w' => ∃ k, e = .returned (.agg #[.int .i64 8, .int .i64 4, .slice (some ⟨k, 0, none⟩) 4 4]) ∧ NH w' (some ⟨k, 0, none⟩) 4 frb ∧ Below w.heap.size w w' := by
  have hb0 := bel_alloc w (.cells #[.int .i64 8, .int .i64 4, .slice (some ⟨w.heap.size + 1, 0, none⟩) 4 4] 24)
  have X1 := (IBox.new w 8 4 (.slice (some ⟨w.heap.size + 1, 0, none⟩) 4 4)).alloc (.cells #[.int .i64 0, .int .i64 1, .int .i64 2, .int .i64 3] 3)
  have HN := Lib.hid (four_nh (w.alloc (.cells #[.int .i64 8, .int .i64 4, .slice (some ⟨w.heap.size + 1, 0, none⟩) 4 4] 24)))
  have hb1 := bel_alloc (w.alloc (.cells #[.int .i64 8, .int .i64 4, .slice (some ⟨w.heap.size + 1, 0, none⟩) 4 4] 24)) (.cells #[.int .i64 0, .int .i64 1, .int .i64 2, .int .i64 3] 3)
  have HB := Lib.hid (hb0.trans (hb1.mono hb0.size))
  have hsz : (w.alloc (.cells #[.int .i64 8, .int .i64 4, .slice (some ⟨w.heap.size + 1, 0, none⟩) 4 4] 24)).heap.size = w.heap.size + 1 := by simp
  rw [hsz] at HN
  obtain ⟨q0, q1, q2, q3, q4, q5, q6⟩ := X1.all
  clear hb0 hb1 X1
  go_enter Try.func27, Try.ntmps27
  go_wp2
  refine bodyPost_ret (v := .agg #[.int .i64 8, .int .i64 4, .slice (some ⟨w.heap.size + 1, 0, none⟩) 4 4]) (by simp [results, Try.results27, go_sem, q0, q1, q2]) rfl ?_
  exact ⟨w.heap.size + 1, rfl, HN.out, HB.out⟩
/-- The points of the example. -/
def apX (i : Nat) : Nat := [0, 4].getD i 0
def apY (i : Nat) : Nat := [0, 2].getD i 0
theorem ap_ok : PtOk 2 apX apY := ⟨by decide, by decide, by decide, by decide, fun i hi => by
    have e : i = 0 := by omega
    rw [e]
    decide⟩
theorem ap_ph (w : World) : PH (w.alloc (.cells #[.int .i64 0, .int .i64 0, .int .i64 4, .int .i64 2] 52)) (w.alloc (.cells #[.int .i64 0, .int .i64 0, .int .i64 4, .int .i64 2] 52)).heap.size (some ⟨w.heap.size, 0, none⟩) 2 (fun i => ((apX i : Nat) : Int)) (fun i => ((apY i : Nat) : Int)) := fun _ => ⟨w.heap.size, 0, rfl, by simp, fun i hi => by
  rw [Lib.cell_of_heap (World.alloc_heap_new w _), Lib.cell_of_heap (World.alloc_heap_new w _)]
  have : i = 0 ∨ i = 1 := by omega
  rcases this with rfl | rfl <;> exact ⟨rfl, rfl⟩⟩
theorem lv_h {w : World} (l : List Int) (cs : Array Value) (hc : cs = (l.map fun x => Value.int .i64 x).toArray) : L2.Holds (w.alloc (.cells cs 3)) (w.alloc (.cells cs 3)).heap.size (some ⟨w.heap.size, 0, none⟩) l.length (fun i => l.getD i 0) := (lv_lit w l cs hc).h
theorem lit1 (w : World) : L2.Holds (w.alloc (.cells #[.int .i64 5, .int .i64 5, .int .i64 5, .int .i64 5] 3)) (w.alloc (.cells #[.int .i64 5, .int .i64 5, .int .i64 5, .int .i64 5] 3)).heap.size (some ⟨w.heap.size, 0, none⟩) 4 (fun i => ([5, 5, 5, 5] : List Int).getD i 0) := lv_h [5, 5, 5, 5] _ rfl
theorem lit2 (w : World) : L2.Holds (w.alloc (.cells #[.int .i64 4, .int .i64 5, .int .i64 6, .int .i64 3] 3)) (w.alloc (.cells #[.int .i64 4, .int .i64 5, .int .i64 6, .int .i64 3] 3)).heap.size (some ⟨w.heap.size, 0, none⟩) 4 (fun i => ([4, 5, 6, 3] : List Int).getD i 0) := lv_h [4, 5, 6, 3] _ rfl
theorem lit3 (w : World) : L2.Holds (w.alloc (.cells #[.int .i64 2, .int .i64 6] 3)) (w.alloc (.cells #[.int .i64 2, .int .i64 6] 3)).heap.size (some ⟨w.heap.size, 0, none⟩) 2 (fun i => ([2, 6] : List Int).getD i 0) := lv_h [2, 6] _ rfl
theorem lit4 (w : World) : L2.Holds (w.alloc (.cells #[.int .i64 0, .int .i64 1, .int .i64 1, .int .i64 2, .int .i64 2] 3)) (w.alloc (.cells #[.int .i64 0, .int .i64 1, .int .i64 1, .int .i64 2, .int .i64 2] 3)).heap.size (some ⟨w.heap.size, 0, none⟩) 5 (fun i => ([0, 1, 1, 2, 2] : List Int).getD i 0) := lv_h [0, 1, 1, 2, 2] _ rfl
theorem ex_line (w : World) (A : Option Addr) (h : PH w w.heap.size A 2 (fun i => ((apX i : Nat) : Int)) (fun i => ((apY i : Nat) : Int))) : Calls Try.prog 23 #[.slice A 2 2] w fun e w' => ∃ k d, e = .returned (.tuple #[.slice (some ⟨k, 0, none⟩) 5 d, .int .i64 0]) ∧ L2.Row w' k 5 (lnf 2 apX apY) ∧ Below w.heap.size w w' :=
  ln_ok A 2 2 apX apY w ap_ok (by decide) (by decide) h
theorem ex_four (w : World) (A : Option Addr) (c : Nat) (h : NH w A 4 frb) : Calls Try.prog 16 #[.agg #[.int .i64 8, .int .i64 4, .slice A 4 c]] w fun e w' => e = .returned (.tuple #[.bool true, .int .i64 0]) ∧ Below w.heap.size w w' := by
  have h1 := pl_ok 8 4 4 A c frb four_ok w h
  rwa [show plB 4 4 frb = true by decide +kernel] at h1
theorem ex_two (w : World) (A : Option Addr) (c : Nat) (h : NH w A 4 frb) : Calls Try.prog 21 #[.agg #[.int .i64 8, .int .i64 4, .slice A 4 c], .int .i64 2] w fun e w' => ∃ D k, e = .returned (.tuple #[.slice D 2 k, .int .i64 0]) ∧ L2.Holds w' w'.heap.size D 2 (cls 4 (frb (2 % 4))) ∧ Below w.heap.size w w' :=
  al_ok 8 4 4 A c frb 2 four_ok (by decide) w h
theorem ex_draw (w : World) (A D : Option Addr) (c d : Nat) (h : NH w A 4 frb) (hD : L2.Holds w w.heap.size D 4 (fun i => ([5, 5, 5, 5] : List Int).getD i 0)) : Calls Try.prog 12 #[.agg #[.int .i64 8, .int .i64 4, .slice A 4 c], .slice D 4 d] w fun e w' => ∃ k, e = .returned (.tuple #[.slice (some ⟨k, 0, none⟩) 4 4, .int .i64 0]) ∧ L2.Row w' k 4 (drf 8 4 4 frb (fun i => ([5, 5, 5, 5] : List Int).getD i 0)) ∧ Below w.heap.size w w' :=
  dr_ok 8 4 4 A c frb four_ok D 4 d _ w h hD (by decide +kernel)
theorem ex_dr : ∀ i, i < 4 → drf 8 4 4 frb (fun i => ([5, 5, 5, 5] : List Int).getD i 0) i = ([4, 5, 6, 3] : List Int).getD i 0 := by decide +kernel
theorem ex_al : ∀ i, i < 2 → cls 4 (frb (2 % 4)) i = ([2, 6] : List Int).getD i 0 := by decide +kernel
theorem ex_ln : ∀ i, i < 5 → lnf 2 apX apY i = ([0, 1, 1, 2, 2] : List Int).getD i 0 := by decide +kernel
set_option maxHeartbeats 3200000 in
theorem alive_any (w : World) : Calls Try.prog 28 #[] w fun e w' => e = .returned (.bool true) ∧ Below w.heap.size w w' := by
  have LB0 := Lib.hid (Below.refl w.heap.size w)
  have z0 : ((0 : Int) == 0) = true := rfl
  go_enter Try.func28, Try.ntmps28
  have HX := Lib.hid (four_any w)
  go_wp2_with fail
  with_reducible refine Calls.mono HX.out ?_
  rintro e w1 ⟨k1, rfl, hr, hb⟩
  clear HX
  have HN := Lib.hid hr
  clear hr
  have LB1 := Lib.hid (LB0.out.trans (hb.mono LB0.out.size))
  clear hb
  have hb := bel_alloc w1 (.cells #[.int .i64 5, .int .i64 5, .int .i64 5, .int .i64 5] 3)
  have HLIT := Lib.hid (lit1 w1)
  have LB2 := Lib.hid (LB1.out.trans (hb.mono LB1.out.size))
  replace HN := Lib.hid ((HN.out.below hb).more hb.size)
  clear hb
  go_wp2_with fail
  generalize hs2 : w1.heap.size = a2 at *
  generalize w1.alloc (.cells #[.int .i64 5, .int .i64 5, .int .i64 5, .int .i64 5] 3) = w2 at *
  have HL := Lib.hid HLIT.out
  clear HLIT
  have HX := Lib.hid (ex_draw w2 _ _ 4 4 HN.out HL.out)
  with_reducible refine Calls.mono HX.out ?_
  rintro e w3 ⟨k2, rfl, hr, hb⟩
  have R1 := Lib.hid (hr.holds hr.lt)
  clear hr HN HL HX
  have LB3 := Lib.hid (LB2.out.trans (hb.mono LB2.out.size))
  clear hb
  have HX := Lib.hid (four_any w3)
  go_wp2_with fail
  with_reducible refine Calls.mono HX.out ?_
  rintro e w4 ⟨k3, rfl, hr, hb⟩
  clear HX
  have HN := Lib.hid hr
  clear hr
  have LB4 := Lib.hid (LB3.out.trans (hb.mono LB3.out.size))
  replace R1 := Lib.hid ((R1.out.below hb).more hb.size)
  clear hb
  have HX := Lib.hid (ex_two w4 _ 4 HN.out)
  go_wp2_with fail
  with_reducible refine Calls.mono HX.out ?_
  rintro e w5 ⟨D2, c2, rfl, hr, hb⟩
  clear HX
  have R2 := Lib.hid hr
  clear hr HN
  have LB5 := Lib.hid (LB4.out.trans (hb.mono LB4.out.size))
  replace R1 := Lib.hid ((R1.out.below hb).more hb.size)
  clear hb
  have hb := bel_alloc w5 (.cells #[.int .i64 0, .int .i64 0, .int .i64 4, .int .i64 2] 52)
  have HLIT := Lib.hid (ap_ph w5)
  have LB6 := Lib.hid (LB5.out.trans (hb.mono LB5.out.size))
  replace R1 := Lib.hid ((R1.out.below hb).more hb.size)
  replace R2 := Lib.hid ((R2.out.below hb).more hb.size)
  clear hb
  go_wp2_with fail
  generalize hs6 : w5.heap.size = a6 at *
  generalize w5.alloc (.cells #[.int .i64 0, .int .i64 0, .int .i64 4, .int .i64 2] 52) = w6 at *
  have HP := Lib.hid HLIT.out
  clear HLIT
  have HX := Lib.hid (ex_line w6 _ HP.out)
  with_reducible refine Calls.mono HX.out ?_
  rintro e w7 ⟨k4, d4, rfl, hr, hb⟩
  have R3 := Lib.hid (hr.holds hr.lt)
  clear hr HP HX
  have LB7 := Lib.hid (LB6.out.trans (hb.mono LB6.out.size))
  replace R1 := Lib.hid ((R1.out.below hb).more hb.size)
  replace R2 := Lib.hid ((R2.out.below hb).more hb.size)
  clear hb
  have HX := Lib.hid (four_any w7)
  go_wp2_with fail
  with_reducible refine Calls.mono HX.out ?_
  rintro e w8 ⟨k5, rfl, hr, hb⟩
  clear HX
  have HN := Lib.hid hr
  clear hr
  have LB8 := Lib.hid (LB7.out.trans (hb.mono LB7.out.size))
  replace R1 := Lib.hid ((R1.out.below hb).more hb.size)
  replace R2 := Lib.hid ((R2.out.below hb).more hb.size)
  replace R3 := Lib.hid ((R3.out.below hb).more hb.size)
  clear hb
  have HX := Lib.hid (ex_four w8 _ 4 HN.out)
  go_wp2_with fail
  with_reducible refine Calls.mono HX.out ?_
  rintro e w9 ⟨rfl, hb⟩
  clear HX
  clear HN
  have LB9 := Lib.hid (LB8.out.trans (hb.mono LB8.out.size))
  replace R1 := Lib.hid ((R1.out.below hb).more hb.size)
  replace R2 := Lib.hid ((R2.out.below hb).more hb.size)
  replace R3 := Lib.hid ((R3.out.below hb).more hb.size)
  clear hb
  have hb := bel_alloc w9 (.cells #[.int .i64 4, .int .i64 5, .int .i64 6, .int .i64 3] 3)
  have HLIT := Lib.hid (lit2 w9)
  have LB10 := Lib.hid (LB9.out.trans (hb.mono LB9.out.size))
  replace R1 := Lib.hid ((R1.out.below hb).more hb.size)
  replace R2 := Lib.hid ((R2.out.below hb).more hb.size)
  replace R3 := Lib.hid ((R3.out.below hb).more hb.size)
  clear hb
  go_wp2_with fail
  generalize hs10 : w9.heap.size = a10 at *
  generalize w9.alloc (.cells #[.int .i64 4, .int .i64 5, .int .i64 6, .int .i64 3] 3) = w10 at *
  have HT := Lib.hid HLIT.out
  clear HLIT
  have HX := Lib.hid (lv_same (n := 4) (by decide) ⟨R1.out⟩ ⟨HT.out⟩ 4 4 ex_dr)
  with_reducible refine Calls.mono HX.out ?_
  rintro e w11 ⟨rfl, hb⟩
  clear HX HT
  have LB11 := Lib.hid (LB10.out.trans (hb.mono LB10.out.size))
  replace R1 := Lib.hid ((R1.out.below hb).more hb.size)
  replace R2 := Lib.hid ((R2.out.below hb).more hb.size)
  replace R3 := Lib.hid ((R3.out.below hb).more hb.size)
  clear hb
  clear R1
  have hb := bel_alloc w11 (.cells #[.int .i64 2, .int .i64 6] 3)
  have HLIT := Lib.hid (lit3 w11)
  have LB12 := Lib.hid (LB11.out.trans (hb.mono LB11.out.size))
  replace R2 := Lib.hid ((R2.out.below hb).more hb.size)
  replace R3 := Lib.hid ((R3.out.below hb).more hb.size)
  clear hb
  go_wp2_with fail
  generalize hs12 : w11.heap.size = a12 at *
  generalize w11.alloc (.cells #[.int .i64 2, .int .i64 6] 3) = w12 at *
  have HT := Lib.hid HLIT.out
  clear HLIT
  have HX := Lib.hid (lv_same (n := 2) (by decide) ⟨R2.out⟩ ⟨HT.out⟩ c2 2 ex_al)
  with_reducible refine Calls.mono HX.out ?_
  rintro e w13 ⟨rfl, hb⟩
  clear HX HT
  have LB13 := Lib.hid (LB12.out.trans (hb.mono LB12.out.size))
  replace R2 := Lib.hid ((R2.out.below hb).more hb.size)
  replace R3 := Lib.hid ((R3.out.below hb).more hb.size)
  clear hb
  clear R2
  have hb := bel_alloc w13 (.cells #[.int .i64 0, .int .i64 1, .int .i64 1, .int .i64 2, .int .i64 2] 3)
  have HLIT := Lib.hid (lit4 w13)
  have LB14 := Lib.hid (LB13.out.trans (hb.mono LB13.out.size))
  replace R3 := Lib.hid ((R3.out.below hb).more hb.size)
  clear hb
  go_wp2_with fail
  generalize hs14 : w13.heap.size = a14 at *
  generalize w13.alloc (.cells #[.int .i64 0, .int .i64 1, .int .i64 1, .int .i64 2, .int .i64 2] 3) = w14 at *
  have HT := Lib.hid HLIT.out
  clear HLIT
  have HX := Lib.hid (lv_same (n := 5) (by decide) ⟨R3.out⟩ ⟨HT.out⟩ d4 5 ex_ln)
  with_reducible refine Calls.mono HX.out ?_
  rintro e w15 ⟨rfl, hb⟩
  clear HX HT
  have LB15 := Lib.hid (LB14.out.trans (hb.mono LB14.out.size))
  replace R3 := Lib.hid ((R3.out.below hb).more hb.size)
  clear hb
  go_wp2
  go_ret
  exact ⟨rfl, LB15.out⟩
/-- A valid network and line. -/
def fitB (S N : Int) (n : Nat) (f : Nat → Int) (m : Nat) (l : Nat → Int) : Bool := !grt n m && decide (nck S N n f = 0) && hts m l
set_option maxHeartbeats 1600000 in
theorem fit_any (S N : Int) (A D : Option Addr) (n c m d : Nat) (f l : Nat → Int) (w : World) (hA : L2.Holds w w.heap.size A n f) (hD : L2.Holds w w.heap.size D m l) :
    Calls Try.prog 29 #[.agg #[.int .i64 S, .int .i64 N, .slice A n c], .slice D m d] w fun e w' => e = .returned (.bool (fitB S N n f m l)) ∧ Below w.heap.size w w' := by
  have HG := Lib.hid (fun u => great_any S N A D n c m d u)
  cases hg : grt n m with
  | true =>
    rw [hg] at HG
    have Hr := Lib.hid (show fitB S N n f m l = false by unfold fitB; rw [hg]; rfl)
    clear hA hD
    have LB0 := Lib.hid (Below.refl w.heap.size w)
    have X1 := IBox.new w S N (.slice A n c)
    have X1 := Lib.hid X1
    have LB0 := Lib.hid (LB0.out.alloc LB0.out.size (.cells #[.int .i64 S, .int .i64 N, .slice A n c] 24))
    go_enter Try.func29, Try.ntmps29
    go_upto_region 1 with (fail)
    generalize w.alloc (.cells #[.int .i64 S, .int .i64 N, .slice A n c] 24) = w0 at *
    obtain ⟨q0, q1, q2, q3, q4, q5, q6⟩ := X1.out.all
    go_wp2_with fail
    clear q0 q1 q2 q3 q4 q5 q6
    with_reducible refine Calls.mono (HG.out _) ?_
    rintro e w1 ⟨rfl, hb⟩
    have LB1 := Lib.hid (LB0.out.trans (hb.mono LB0.out.size))
    clear hb
    go_wp2
    go_ret
    exact ⟨by rw [Hr.out]; rfl, LB1.out⟩
  | false =>
    rw [hg] at HG
    obtain ⟨hn, hm⟩ := grt_no hg
    have HC := Lib.hid (fun u (hu : Below w.heap.size w u) => rnck_any S N A n c f u (by omega) ((hA.below hu).more hu.size))
    have HT := Lib.hid (fun u (hu : Below w.heap.size w u) => hts_any D m d l u (by omega) ((hD.below hu).more hu.size))
    clear hA hD
    by_cases hz : nck S N n f = 0
    · rw [hz] at HC
      have z0 : ((0 : Int) == 0) = true := rfl
      have Hr := Lib.hid (show fitB S N n f m l = hts m l by unfold fitB; rw [hg, decide_eq_true hz]; simp)
      have LB0 := Lib.hid (Below.refl w.heap.size w)
      have X1 := IBox.new w S N (.slice A n c)
      have X1 := Lib.hid X1
      have LB0 := Lib.hid (LB0.out.alloc LB0.out.size (.cells #[.int .i64 S, .int .i64 N, .slice A n c] 24))
      go_enter Try.func29, Try.ntmps29
      go_upto_region 1 with (fail)
      generalize w.alloc (.cells #[.int .i64 S, .int .i64 N, .slice A n c] 24) = w0 at *
      obtain ⟨q0, q1, q2, q3, q4, q5, q6⟩ := X1.out.all
      go_wp2_with fail
      clear q0 q1 q2 q3 q4 q5 q6
      with_reducible refine Calls.mono (HG.out _) ?_
      rintro e w1 ⟨rfl, hb⟩
      have LB1 := Lib.hid (LB0.out.trans (hb.mono LB0.out.size))
      have X1 := Lib.hid (X1.out.below hb X1.out.lt)
      clear hb
      obtain ⟨q0, q1, q2, q3, q4, q5, q6⟩ := X1.out.all
      go_wp2_with fail
      clear q0 q1 q2 q3 q4 q5 q6
      with_reducible refine Calls.mono (HC.out _ LB1.out) ?_
      rintro e w2 ⟨rfl, hb⟩
      have LB2 := Lib.hid (LB1.out.trans (hb.mono LB1.out.size))
      clear hb X1
      go_wp2_with fail
      with_reducible refine Calls.mono (HT.out _ LB2.out) ?_
      rintro e w3 ⟨rfl, kd, rfl⟩
      go_wp2
      go_ret
      exact ⟨by rw [Hr.out]; rfl, Go.Proofs.below_drewN' LB2.out _⟩
    · have hz8 : nck S N n f = 8 := by rcases nck_or S N n f with h | h
                                       · exact absurd h hz
                                       · exact h
      rw [hz8] at HC
      have z8 : ((8 : Int) == 0) = false := rfl
      have Hr := Lib.hid (show fitB S N n f m l = false by unfold fitB; rw [decide_eq_false hz]; simp)
      have LB0 := Lib.hid (Below.refl w.heap.size w)
      have X1 := IBox.new w S N (.slice A n c)
      have X1 := Lib.hid X1
      have LB0 := Lib.hid (LB0.out.alloc LB0.out.size (.cells #[.int .i64 S, .int .i64 N, .slice A n c] 24))
      go_enter Try.func29, Try.ntmps29
      go_upto_region 1 with (fail)
      generalize w.alloc (.cells #[.int .i64 S, .int .i64 N, .slice A n c] 24) = w0 at *
      obtain ⟨q0, q1, q2, q3, q4, q5, q6⟩ := X1.out.all
      go_wp2_with fail
      clear q0 q1 q2 q3 q4 q5 q6
      with_reducible refine Calls.mono (HG.out _) ?_
      rintro e w1 ⟨rfl, hb⟩
      have LB1 := Lib.hid (LB0.out.trans (hb.mono LB0.out.size))
      have X1 := Lib.hid (X1.out.below hb X1.out.lt)
      clear hb
      obtain ⟨q0, q1, q2, q3, q4, q5, q6⟩ := X1.out.all
      go_wp2_with fail
      clear q0 q1 q2 q3 q4 q5 q6
      with_reducible refine Calls.mono (HC.out _ LB1.out) ?_
      rintro e w2 ⟨rfl, hb⟩
      have LB2 := Lib.hid (LB1.out.trans (hb.mono LB1.out.size))
      clear hb X1
      go_wp2
      go_ret
      exact ⟨by rw [Hr.out]; rfl, LB2.out⟩
end Go.Proofs.Ythipdfkgeghooaa
