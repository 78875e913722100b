/- The walk of NetworkRises. -/
import Derived.Test.YthipdfkgeghooaaNav
import Derived.Deep.RegionLawGrows
import Derived.BigRegion
namespace Go.Proofs.Ythipdfkgeghooaa
open Go.RowKit
set_option maxRecDepth 100000
set_option linter.unusedVariables false
set_option linter.unusedSimpArgs false

theorem nst_up {S N r v : Nat} {h : Int} (hN : 1 ≤ N) (hh : (N : Int) ≤ h) (hv : v + N < S) (q : Nst S N r h v) : Nst S N r (h + N) (v + N) := by
  refine ⟨hv, by rw [Nat.add_mod_right]; exact q.2.1, fun s hs hm => ?_⟩
  have e1 : aw ((v + N : Nat) : Int) (h + N) = aw (v : Nat) h := by unfold aw; split <;> split <;> omega
  rw [e1]
  rcases Nat.lt_or_ge s N with h1 | h1
  · have h2 := q.2.2 s hs hm
    have e2 : aw ((s : Nat) : Int) (h + N) = h + N - s := by unfold aw; rw [if_pos (by omega)]
    have e3 : aw ((s : Nat) : Int) h = h - s := by unfold aw; rw [if_pos (by omega)]
    rw [e2]
    rw [e3] at h2
    omega
  · obtain ⟨t, rfl⟩ := Nat.exists_eq_add_of_le h1
    have h2 := q.2.2 t (by omega) (by rw [Nat.add_mod_left] at hm; exact hm)
    have e2 : aw ((N + t : Nat) : Int) (h + N) = aw ((t : Nat) : Int) h := by unfold aw; split <;> split <;> omega
    rw [e2]
    omega
theorem drf_up {S N n : Nat} {b : Nat → Nat} {l : Nat → Int} {x : Nat} (hO : NOk S N n b) (hl : (N : Int) ≤ l x) (hd : drf S N n b l x < (S : Int) - N) : drf S N n b (fun x => l x + N) x = drf S N n b l x + N := by
  have hr : b (x % n) < N := hO.b _ (Nat.mod_lt _ (by have := hO.l0; omega))
  have h1 := nv_nst (h := l x) hO.dv hO.n0 hO.ns hr
  unfold drf at hd ⊢
  have h2 := nv_eq (nst_up hO.n0 hl (by omega) h1)
  rw [h2]
  simp
theorem fit_of {S N : Int} {n m : Nat} {f l : Nat → Int} (h : fitB S N n f m l = true) : n ≤ 100 ∧ m ≤ 100 ∧ nck S N n f = 0 ∧ hts m l = true := by
  unfold fitB at h
  simp at h
  obtain ⟨⟨h1, h2⟩, h3⟩ := h
  obtain ⟨h4, h5⟩ := grt_no h1
  exact ⟨h4, h5, h2, h3⟩
theorem hts_of {m : Nat} {l : Nat → Int} (h : hts m l = true) : 1 ≤ m ∧ m ≤ 64 ∧ ∀ i, i < m → 0 ≤ l i ∧ l i ≤ 1000 := by
  unfold hts at h
  simp at h
  have h1 := of_decide_eq_true h.1
  exact ⟨h1.1, h1.2, upTo_of h.2⟩
theorem hts_mk {m : Nat} {l : Nat → Int} (h0 : 1 ≤ m) (h1 : m ≤ 64) (h : ∀ i, i < m → 0 ≤ l i ∧ l i ≤ 1000) : hts m l = true := by
  unfold hts
  rw [show len64 m = true from decide_eq_true ⟨h0, h1⟩, show upTo 1000 m l = true from decide_eq_true h]
  rfl
set_option maxHeartbeats 3200000 in
theorem rises_no (S N : Int) (A D : Option Addr) (n c m d : Nat) (f l : Nat → Int) (w : World) (hA : L2.Holds w w.heap.size A n f) (hD : L2.Holds w w.heap.size D m l) (hf : fitB S N n f m l = false) :
    Calls Try.prog 7 #[.agg #[.int .i64 S, .int .i64 N, .slice A n c], .slice D m d] w fun e w' => e = .returned (.bool true) ∧ Below w.heap.size w w' := by
  have HA := Lib.hid hA
  have HD := Lib.hid hD
  have HFB := Lib.hid hf
  clear hA hD hf
  have LB0 := Lib.hid (Below.refl w.heap.size w)
  have X1 := IBox.new w S N (.slice A n c)
  have X1 := Lib.hid X1
  have LB0 := Lib.hid (LB0.out.alloc LB0.out.size (.cells #[.int .i64 S, .int .i64 N, .slice A n c] 24))
  have hb := bel_alloc w (.cells #[.int .i64 S, .int .i64 N, .slice A n c] 24)
  replace HA := Lib.hid ((HA.out.below hb).more hb.size)
  replace HD := Lib.hid ((HD.out.below hb).more hb.size)
  clear hb
  go_enter Try.func7, Try.ntmps7
  go_upto_region 1 with (fail)
  generalize w.alloc (.cells #[.int .i64 S, .int .i64 N, .slice A n c] 24) = w0 at *
  have HX := Lib.hid (alive_any w0)
  obtain ⟨q0, q1, q2, q3, q4, q5, q6⟩ := X1.out.all
  go_wp2_with fail
  clear q0 q1 q2 q3 q4 q5 q6
  with_reducible refine Calls.mono HX.out ?_
  clear HX
  rintro e w1 ⟨rfl, hb⟩
  have LB1 := Lib.hid (LB0.out.trans (hb.mono LB0.out.size))
  replace X1 := Lib.hid (X1.out.below hb X1.out.lt)
  replace HA := Lib.hid ((HA.out.below hb).more hb.size)
  replace HD := Lib.hid ((HD.out.below hb).more hb.size)
  clear hb
  have HFT := Lib.hid (fit_any S N A D n c m d f l w1 HA.out HD.out)
  rw [HFB.out] at HFT
  have HX := Lib.hid (HFT.out)
  obtain ⟨q0, q1, q2, q3, q4, q5, q6⟩ := X1.out.all
  go_wp2_with fail
  clear q0 q1 q2 q3 q4 q5 q6
  with_reducible refine Calls.mono HX.out ?_
  clear HX
  rintro e w2 ⟨rfl, hb⟩
  have LB2 := Lib.hid (LB1.out.trans (hb.mono LB1.out.size))
  replace X1 := Lib.hid (X1.out.below hb X1.out.lt)
  replace HA := Lib.hid ((HA.out.below hb).more hb.size)
  replace HD := Lib.hid ((HD.out.below hb).more hb.size)
  clear hb
  go_wp2
  go_ret
  exact ⟨rfl, LB2.out⟩
set_option maxHeartbeats 6400000 in
theorem rises_yes (S N n : Nat) (A : Option Addr) (c : Nat) (b : Nat → Nat) (hO : NOk S N n b) (D : Option Addr) (m d : Nat) (l : Nat → Int) (w : World) (hA : NH w A n b) (hD : L2.Holds w w.heap.size D m l) (hh : hts m l = true) (hfb : fitB (S : Nat) (N : Nat) n (fun i => ((b i : Nat) : Int)) m l = true) :
    Calls Try.prog 7 #[.agg #[.int .i64 (S : Nat), .int .i64 (N : Nat), .slice A n c], .slice D m d] w fun e w' => e = .returned (.bool true) ∧ Below w.heap.size w w' := by
  obtain ⟨hm0, hm1, hml⟩ := hts_of hh
  have HA : Hid (L2.Holds w w.heap.size A n (fun i => ((b i : Nat) : Int))) := Lib.hid hA
  have HD := Lib.hid hD
  have HFB := Lib.hid hfb
  have HO := Lib.hid hO
  have HH := Lib.hid hh
  have HML := Lib.hid hml
  have s40 := hO.s1
  have hNS := hO.ns
  have z0 : ((0 : Int) != 0) = false := rfl
  have zm : ((m : Int) != (m : Int)) = false := by simp
  have w1' : IntKind.i64.wrap ((S : Int) - (N : Int)) = (S : Int) - N := IntWalk.i64_in _ (by omega)
  clear hA hD hfb hh hml hO
  have LB0 := Lib.hid (Below.refl w.heap.size w)
  have X1 := IBox.new w (S : Nat) (N : Nat) (.slice A n c)
  have X1 := Lib.hid X1
  have LB0 := Lib.hid (LB0.out.alloc LB0.out.size (.cells #[.int .i64 (S : Nat), .int .i64 (N : Nat), .slice A n c] 24))
  have hb := bel_alloc w (.cells #[.int .i64 (S : Nat), .int .i64 (N : Nat), .slice A n c] 24)
  replace HA := Lib.hid ((HA.out.below hb).more hb.size)
  replace HD := Lib.hid ((HD.out.below hb).more hb.size)
  clear hb
  go_enter Try.func7, Try.ntmps7
  go_upto_region 1 with (fail)
  generalize w.alloc (.cells #[.int .i64 (S : Nat), .int .i64 (N : Nat), .slice A n c] 24) = w0 at *
  have HX := Lib.hid (alive_any w0)
  obtain ⟨q0, q1, q2, q3, q4, q5, q6⟩ := X1.out.all
  go_wp2_with fail
  clear q0 q1 q2 q3 q4 q5 q6
  with_reducible refine Calls.mono HX.out ?_
  clear HX
  rintro e w1 ⟨rfl, hb⟩
  have LB1 := Lib.hid (LB0.out.trans (hb.mono LB0.out.size))
  replace X1 := Lib.hid (X1.out.below hb X1.out.lt)
  replace HA := Lib.hid ((HA.out.below hb).more hb.size)
  replace HD := Lib.hid ((HD.out.below hb).more hb.size)
  clear hb
  have HFT := Lib.hid (fit_any (S : Nat) (N : Nat) A D n c m d (fun i => ((b i : Nat) : Int)) l w1 HA.out HD.out)
  rw [HFB.out] at HFT
  have HX := Lib.hid (HFT.out)
  obtain ⟨q0, q1, q2, q3, q4, q5, q6⟩ := X1.out.all
  go_wp2_with fail
  clear q0 q1 q2 q3 q4 q5 q6
  with_reducible refine Calls.mono HX.out ?_
  clear HX
  rintro e w2 ⟨rfl, hb⟩
  have LB2 := Lib.hid (LB1.out.trans (hb.mono LB1.out.size))
  replace X1 := Lib.hid (X1.out.below hb X1.out.lt)
  replace HA := Lib.hid ((HA.out.below hb).more hb.size)
  replace HD := Lib.hid ((HD.out.below hb).more hb.size)
  clear hb
  have HX := Lib.hid (dr_ok S N n A c b HO.out D m d l w2 HA.out HD.out HH.out)
  obtain ⟨q0, q1, q2, q3, q4, q5, q6⟩ := X1.out.all
  go_wp2_with fail
  clear q0 q1 q2 q3 q4 q5 q6
  with_reducible refine Calls.mono HX.out ?_
  clear HX
  rintro e w3 ⟨k1, rfl, hr, hb⟩
  have LB3 := Lib.hid (LB2.out.trans (hb.mono LB2.out.size))
  replace X1 := Lib.hid (X1.out.below hb X1.out.lt)
  replace HA := Lib.hid ((HA.out.below hb).more hb.size)
  replace HD := Lib.hid ((HD.out.below hb).more hb.size)
  clear hb
  have R1 := Lib.hid (hr.holds hr.lt)
  clear hr
  obtain ⟨q0, q1, q2, q3, q4, q5, q6⟩ := X1.out.all
  go_wp2
  clear q0 q1 q2 q3 q4 q5 q6
  go_loopw [8, 9] (fun u i wr => ∃ j : Nat, j ≤ m ∧ i = .int .i64 (j : Nat) ∧ Hid (L2.Own wr w3.heap.size u j (fun x => l x + N)) ∧ Hid (Below w3.heap.size w3 wr) ∧ Hid (∀ x, x < j → l x < (S : Int) - N ∧ drf S N n b l x < (S : Int) - N ∧ (N : Int) ≤ l x)) (fun _ i _ => m - (intOf i).toNat)
  case atStart => exact ⟨0, Nat.zero_le _, rfl, Lib.hid (L2.Own.nil _ _ _), Lib.hid (Below.refl _ _), Lib.hid (fun x hx => by omega)⟩
  case round =>
    obtain ⟨j, hj, rfl, HOW, HW, HQ⟩ := hrel
    have Y1 := Lib.hid (X1.out.below HW.out X1.out.lt)
    obtain ⟨q0, q1, q2, q3, q4, q5, q6⟩ := Y1.out.all
    have hsz := HW.out.size
    by_cases hlt : j < m
    · have y1 : (j : Int) < (m : Int) := by omega
      have y2 : (0 : Int) ≤ (j : Int) := by omega
      obtain ⟨b1, o1, rfl, hl1, hc1⟩ := (HD.out.below HW.out) (by omega)
      obtain ⟨b2, o2, e2, hl2, hc2⟩ := (R1.out.below HW.out) (by omega)
      cases e2
      have a0 : wr.cell? ⟨b1, o1 + j, none⟩ = some (.int .i64 (l j)) := hc1 j hlt
      have a1 : wr.cell? ⟨k1, 0 + j, none⟩ = some (.int .i64 (drf S N n b l j)) := hc2 j hlt
      rw [Nat.zero_add] at a1
      have hlj := HML.out j hlt
      have hdj : 0 ≤ drf S N n b l j := by unfold drf; omega
      have HSTEP := Lib.hid (fun (q : l j < (S : Int) - N ∧ drf S N n b l j < (S : Int) - N ∧ (N : Int) ≤ l j) x (hx : x < j + 1) => if e : x = j then (show l x < (S : Int) - N ∧ drf S N n b l x < (S : Int) - N ∧ (N : Int) ≤ l x by rw [e]; exact q) else HQ.out x (by omega))
      have HY : Hid ((fun x => l x + (N : Int)) j = l j + N) := Lib.hid rfl
      clear hc1 hc2
      generalize hlv : l j = lv at *
      generalize hdv : drf S N n b l j = dv at *
      have HLV := Lib.hid (And.intro hlv hdv)
      clear hlv hdv
      by_cases g1 : (S : Int) - N ≤ lv
      · have v1 : decide ((S : Int) - N ≤ lv) = true := decide_eq_true g1
        go_wp2
        go_quiet (fail)
        go_wp2
        go_ret
        exact ⟨rfl, Go.Proofs.below_drewN' (LB3.out.trans (HW.out.mono LB3.out.size)) _⟩
      have v1 : decide ((S : Int) - N ≤ lv) = false := decide_eq_false g1
      by_cases g2 : (S : Int) - N ≤ dv
      · have v2 : decide ((S : Int) - N ≤ dv) = true := decide_eq_true g2
        go_wp2
        go_quiet (fail)
        go_wp2
        go_ret
        exact ⟨rfl, Go.Proofs.below_drewN' (LB3.out.trans (HW.out.mono LB3.out.size)) _⟩
      have v2 : decide ((S : Int) - N ≤ dv) = false := decide_eq_false g2
      have v3 : decide (dv < 0) = false := by simp; exact hdj
      by_cases g3 : lv < (N : Int)
      · have v4 : decide (lv < (N : Int)) = true := decide_eq_true g3
        go_wp2
        go_quiet (fail)
        go_wp2
        go_ret
        exact ⟨rfl, Go.Proofs.below_drewN' (LB3.out.trans (HW.out.mono LB3.out.size)) _⟩
      have v4 : decide (lv < (N : Int)) = false := decide_eq_false g3
      have HN := Lib.hid (HSTEP.out ⟨by omega, by omega, by omega⟩)
      have w7 : IntKind.i64.wrap (lv + (N : Int)) = lv + N := IntWalk.i64_in _ (by omega)
      clear g1 g2 g3 HSTEP
      go_wp2
      go_quiet (fail)
      generalize hwd : World.drewN wr _ = wd
      have HOW2 : Hid (L2.Own wd w3.heap.size u8 j (fun x => l x + N)) := Lib.hid (by rw [← hwd]; exact HOW.out)
      have HW2 : Hid (Below w3.heap.size w3 wd) := Lib.hid (by rw [← hwd]; exact Go.Proofs.below_drewN' HW.out _)
      have a0 : wd.cell? ⟨b1, o1 + j, none⟩ = some (.int .i64 lv) := by rw [← hwd]; exact a0
      have q1 : wd.cell? ⟨w.heap.size, 1, none⟩ = some (.int .i64 (N : Nat)) := by rw [← hwd]; exact q1
      have hsz : w3.heap.size ≤ wd.heap.size := by rw [← hwd]; exact hsz
      clear HOW HW hwd a1 q0 q2 q3 q4 q5 q6 Y1 hl1 hl2 v1 v2 v3 v4
      have HO3 := Lib.hid ((HOW2.out.alloc (.cells #[.int .i64 (lv + N)] 3)).drew)
      have HC1 : Hid (((wd.alloc (.cells #[.int .i64 (lv + (N : Int))] 3)).drew).cell? ⟨wd.heap.size, 0, none⟩ = some (.int .i64 (lv + N))) := Lib.hid (by simp)
      have hbase2 : w3.heap.size ≤ ((wd.alloc (.cells #[.int .i64 (lv + N)] 3)).drew).heap.size := by simp; omega
      have HBN0 := Lib.hid (((Below.refl w3.heap.size wd).alloc hsz (.cells #[.int .i64 (lv + N)] 3)).drew)
      go_wp2
      go_region_law (first
        | (refine step_app3 rfl (.tmp 83) (.tmp 91) rfl w3.heap.size rfl HO3.out (lv + N) wd.heap.size rfl HC1.out HY.out (by omega) hbase2 ?_
           intro v' wn hown' hbn' hk'
           have HON2 := Lib.hid hown'
           have HBN := Lib.hid (HBN0.out.trans hbn')
           clear hown' hbn' hk'))
      all_goals
        have B6 := Lib.hid (HW2.out.trans HBN.out)
        clear a0 q1 hbase2 HBN0 HC1 HO3 HOW2 HBN HY w7
        go_wp2
        go_roundw
        case rel => exact ⟨j + 1, by omega, by go_num, HON2, B6, HN⟩
        case measure => simp [intOf]; omega
    · obtain rfl : j = m := by omega
      have y1 : ¬ (j : Int) < (j : Int) := by omega
      obtain ⟨A8, c8, rfl, -, -⟩ := HOW.out.out
      have HU := Lib.hid (L2.Own.holds HOW.out)
      have HH2 := Lib.hid (hts_mk (l := fun x => l x + (N : Int)) hm0 hm1 (fun x hx => by have := HML.out x hx; have := HQ.out x hx; show 0 ≤ l x + (N : Int) ∧ l x + (N : Int) ≤ 1000; omega))
      have HA2 : Hid (NH wr A n b) := Lib.hid ((HA.out.below HW.out).more hsz)
      have HX := Lib.hid (dr_ok S N n A c b HO.out A8 j c8 (fun x => l x + (N : Int)) wr HA2.out HU.out HH2.out)
      have LBr := Lib.hid (LB3.out.trans (HW.out.mono LB3.out.size))
      have R1 := Lib.hid ((R1.out.below HW.out).more hsz)
      have zj : ((j : Int) != (j : Int)) = false := by simp
      have HEQ := Lib.hid (fun x (hx : x < j) => drf_up HO.out (HQ.out x hx).2.2 (HQ.out x hx).2.1)
      have HDB := Lib.hid (fun x (hx : x < j) => (show 0 ≤ drf S N n b l x ∧ drf S N n b l x < 40 from ⟨by unfold drf; omega, by have := (HQ.out x hx).2.1; omega⟩))
      clear HU HOW HH2 HA2 HW HQ
      go_wp2_with fail
      clear q0 q1 q2 q3 q4 q5 q6
      with_reducible refine Calls.mono HX.out ?_
      clear HX
      rintro e wz ⟨k2, rfl, hr, hb⟩
      have LBz := Lib.hid (LBr.out.trans (hb.mono LBr.out.size))
      have Y2 := Lib.hid (Y1.out.below hb Y1.out.lt)
      have R3 := Lib.hid ((R1.out.below hb).more hb.size)
      have R4 := Lib.hid (hr.holds hr.lt)
      clear hb hr R1 Y1
      go_wp2
      go_loopw [12] (fun i wr => ∃ x : Nat, x ≤ j ∧ i = .int .i64 (x : Nat) ∧ Hid (Below wz.heap.size wz wr)) (fun i _ => j - (intOf i).toNat)
      case atStart => exact ⟨0, Nat.zero_le _, rfl, Lib.hid (Below.refl _ _)⟩
      case round =>
        obtain ⟨x, hx, rfl, HW⟩ := hrel
        by_cases hlx : x < j
        · have y2 : (x : Int) < (j : Int) := by omega
          have y3 : (0 : Int) ≤ (x : Int) := by omega
          obtain ⟨b5, o5, e5, hl5, hc5⟩ := (R3.out.below HW.out) (by omega)
          cases e5
          obtain ⟨b6, o6, e6, hl6, hc6⟩ := (R4.out.below HW.out) (by omega)
          cases e6
          have a0 : wr.cell? ⟨k1, 0 + x, none⟩ = some (.int .i64 (drf S N n b l x)) := hc5 x hlx
          have a1 : wr.cell? ⟨k2, 0 + x, none⟩ = some (.int .i64 (drf S N n b (fun x => l x + (N : Int)) x)) := hc6 x hlx
          rw [HEQ.out x hlx] at a1
          rw [Nat.zero_add] at a0 a1
          have hd := HDB.out x hlx
          have q1 := (Y2.out.below HW.out Y2.out.lt).c1
          have q6 := (Y2.out.below HW.out Y2.out.lt).lt
          clear hc5 hc6
          generalize drf S N n b l x = dv at *
          have w8 : IntKind.i64.wrap (dv + (N : Int)) = dv + N := IntWalk.i64_in _ (by omega)
          have z9 : (dv + (N : Int) != dv + (N : Int)) = false := by simp
          go_wp2
          go_quiet (fail)
          go_wp2
          go_roundw
          case rel => exact ⟨x + 1, by omega, by go_num, Lib.hid (Go.Proofs.below_drewN' HW.out _)⟩
          case measure => simp [intOf]; omega
        · obtain rfl : x = j := by omega
          have y2 : ¬ (x : Int) < (x : Int) := by omega
          go_wp2
          go_ret
          exact ⟨rfl, LBz.out.trans (HW.out.mono LBz.out.size)⟩
theorem rises_any (S N : Int) (A D : Option Addr) (n c m d : Nat) (f l : Nat → Int) (w : World) (hA : L2.Holds w w.heap.size A n f) (hD : L2.Holds w w.heap.size D m l) :
    Calls Try.prog 7 #[.agg #[.int .i64 S, .int .i64 N, .slice A n c], .slice D m d] w fun e w' => e = .returned (.bool true) ∧ Below w.heap.size w w' := by
  cases hf : fitB S N n f m l with
  | false => exact rises_no S N A D n c m d f l w hA hD hf
  | true =>
    obtain ⟨h1, h2, h3, h4⟩ := fit_of hf
    obtain ⟨P, Q, b, rfl, rfl, hO, hb⟩ := nck_ok h3
    have hf2 : fitB (P : Nat) (Q : Nat) n (fun i => ((b i : Nat) : Int)) m l = true := by
      unfold fitB at hf ⊢
      rw [nck_congr hb] at hf
      exact hf
    exact rises_yes P Q n A c b hO D m d l w (hA.congr hb) hD h4 hf2
end Go.Proofs.Ythipdfkgeghooaa
