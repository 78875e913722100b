/- Line of the program. -/
import Derived.Test.YthipdfkgeghooaaNlm
namespace Go.Proofs.Ythipdfkgeghooaa
open Go.RowKit
set_option maxRecDepth 100000
set_option linter.unusedVariables false
set_option linter.unusedSimpArgs false

attribute [local go_sem ↓] apx_eq
/-- 'append(s, y)' at a step of a region that draws its order: what is no row of ints stays. -/
theorem step_app3 {ops : Array Oper} {o : Oper} {a : Act} {w : World} {K : Act → World → Prop} {Q : Exit → Act → World → Prop} {E : Prop} (hgd : o.guard = none) (s x : Operand)
    (ho : o.op = .call { callee := .builtin .append, args := #[s, x], argTypes := #[22, 22] }) (base : Nat) {v : Value} {n : Nat} {f : Nat → Int} (hs : a.eval s = v) (hown : L2.Own w base v n f)
    (y : Int) (g : Nat) (hx : a.eval x = .slice (some ⟨g, 0, none⟩) 1 1) (hc : w.cell? ⟨g, 0, none⟩ = some (.int .i64 y)) (hy : f n = y) (hn : n ≤ 100000) (hb : base ≤ w.heap.size)
    (h : ∀ v' w', L2.Own w' base v' (n + 1) f → Below base w w' → (∀ (p : Nat) (cs : Array Value) (t : TypeId), t ≠ 3 → w.heap[p]? = some (Obj.cells cs t (0, 0)) → w'.heap[p]? = some (Obj.cells cs t (0, 0))) → K (a.put o.dst v') w') : if Region.wanted o (yielded ops a.tmps) = true then Oper.wp Try.prog o a w K Q else E := by
  have hw : Region.wanted o (yielded ops a.tmps) = true := by simp [Region.wanted, hgd]
  rw [if_pos hw]
  obtain ⟨i0, hi, hz0, hz1, hz2⟩ := info_parts L2.TryI.info3
  obtain ⟨v', w', hrun, h1, h2, _, hat⟩ := run_append_own_at (P := Try.prog) w base 22 o.type 3 i0 (.int .i64 0) 1 8 Try.underlying22 hi hz0 hz1 hz2 rfl (by decide) v n _ hown ⟨g, 0, none⟩ 1 1 [.int .i64 y] rfl
    (by intro j u hj; match j, hj with | 0, hj => (simp at hj; subst hj; simpa [Addr.add] using hc)) (ints_oneCell .i64 [y]) (by unfold maxLen; omega) (by omega) hb
  unfold Oper.wp
  simp [execOp, ho, resolve, invoke, builtin, hs, hx, hrun, Result.andThen]
  refine h v' w' ?_ ?_ ?_
  · unfold L2.Own
    rw [L2.news_succ, hy]
    exact h1
  · exact Below.grown (Below.refl _ _) h2 hb fun k hk => (hown.block hk).1
  · intro p cs t ht hp
    refine (h2.block p (Array.getElem?_eq_some_iff.1 hp).1 fun e => ?_).trans hp
    obtain ⟨_, _, cur, h5⟩ := orow_block hown e.symm
    rw [hp] at h5
    cases h5
    exact ht rfl
theorem StR.cell2 {w : World} {g n : Nat} {X Y : Nat → Nat} (h : StR w g n X Y) {i : Nat} (hi : i < n) : w.cell? ⟨g, 2 + i * 2, none⟩ = some (.int .i64 (Px n X (i + 1) : Nat)) ∧ w.cell? ⟨g, 2 + i * 2 + 1, none⟩ = some (.int .i64 (Qx n Y (i + 1) : Nat)) := by
  have := h.cell (i := i + 1) hi
  rwa [show (i + 1) * 2 = 2 + i * 2 by omega] at this
theorem StR.to {B : Nat} {w w' : World} {g n : Nat} {X Y : Nat → Nat} (h : StR w g n X Y) (hb : Below B w w') (hg : g < B) : StR w' g n X Y := by
  obtain ⟨cs, h1, h2⟩ := h
  exact ⟨cs, (hb.block g hg).trans h1, h2⟩
theorem ln_bad (A : Option Addr) (n c : Nat) (X Y : Nat → Int) (w : World) (hn : n ≤ 100000) (h : PH w w.heap.size A n X Y) (hz : ptB n X Y = false) :
    Calls Try.prog 23 #[.slice A n c] w fun e w' => e = .returned (.tuple #[.slice none 0 0, .int .i64 8]) ∧ Below w.heap.size w w' := by
  have HC := Lib.hid (pts_any A n c X Y w hn h)
  rw [hz] at HC
  clear h hz
  go_enter Try.func23, Try.ntmps23
  go_wp2_with (go_at_call 47; with_reducible refine Calls.mono HC.out ?_; rintro e w1 ⟨rfl, hb⟩)
  refine bodyPost_ret (v := .tuple #[.slice none 0 0, .int .i64 8]) (by simp [results, Try.results23, go_sem]) rfl ?_
  exact ⟨rfl, hb⟩
theorem pt_true {n : Nat} {X Y : Nat → Nat} (hp : PtOk n X Y) : ptB n (fun i => ((X i : Nat) : Int)) (fun i => ((Y i : Nat) : Int)) = true := by
  refine decide_eq_true ⟨hp.n0, ?_, fun i hi => ?_⟩
  · have := hp.x0
    show ((X 0 : Nat) : Int) = 0
    omega
  · show ((X i : Nat) : Int) < 64 ∧ 0 ≤ ((Y i : Nat) : Int) ∧ ((Y i : Nat) : Int) ≤ 1000 ∧ (0 < i → ((X (i - 1) : Nat) : Int) < ((X i : Nat) : Int))
    have h1 := hp.xs i hi
    have h2 := hp.ys i hi
    refine ⟨by omega, by omega, by omega, fun h0 => ?_⟩
    have := hp.up (i - 1) (by omega)
    rw [show i - 1 + 1 = i by omega] at this
    omega
set_option maxHeartbeats 3200000 in
theorem ln_ok (A : Option Addr) (n c : Nat) (X Y : Nat → Nat) (w : World) (hp : PtOk n X Y) (hn : n ≤ 100) (hcap : n ≤ c) (h : PH w w.heap.size A n (fun i => ((X i : Nat) : Int)) (fun i => ((Y i : Nat) : Int))) :
    Calls Try.prog 23 #[.slice A n c] w fun e w' => ∃ k d, e = .returned (.tuple #[.slice (some ⟨k, 0, none⟩) (X (n - 1) + 1) d, .int .i64 0]) ∧ L2.Row w' k (X (n - 1) + 1) (lnf n X Y) ∧ Below w.heap.size w w' := by
  have hz := pt_true hp
  have HC := Lib.hid (pts_any A n c _ _ w (by omega) h)
  rw [hz] at HC
  have hn0 := hp.n0
  obtain ⟨b, o, rfl, hl, hc⟩ := h (by omega)
  have HCC := Lib.hid hc
  have HP := Lib.hid hp
  have hx64 := hp.xs (n - 1) (by omega)
  clear h hz hc hp
  have z7 : IntKind.i64.wrap ((n : Int) - 1) = ((n - 1 : Nat) : Int) := by rw [IntWalk.i64_in _ (by omega)]; omega
  have y1 : ((n - 1 : Nat) : Int) < (n : Int) := by omega
  have y2 : (0 : Int) ≤ ((n - 1 : Nat) : Int) := by omega
  go_enter Try.func23, Try.ntmps23
  go_wp2_with (go_at_call 47; with_reducible refine Calls.mono HC.out ?_; rintro e w2 ⟨rfl, hb⟩; have HB := Lib.hid hb; have a0 := (HB.out.cell (p := ⟨b, o + (n - 1) * 2, none⟩) hl).trans (HCC.out (n - 1) (by omega)).1; have a1 := (HB.out.cell (p := ⟨b, o + (n - 1) * 2 + 1, none⟩) hl).trans (HCC.out (n - 1) (by omega)).2; generalize hxl : X (n - 1) = xl at *; generalize hyl : Y (n - 1) = yl at *; generalize hnp : n - 1 = np at *)
  have hb5 := Boxed2.new w2 (xl : Nat) (yl : Nat)
  have HBl := Lib.hid (HB.out.trans ((bel_alloc w2 (.cells #[.int .i64 (xl : Nat), .int .i64 (yl : Nat)] 52)).mono HB.out.size))
  generalize w2.alloc (.cells #[.int .i64 (xl : Nat), .int .i64 (yl : Nat)] 52) = w3 at *
  generalize w2.heap.size = lb at *
  obtain ⟨f0, f1⟩ := hb5
  have HBm := Lib.hid (HBl.out.trans (((bel_alloc w3 (.cells #[.int .i64 ((xl : Int) + 1), .int .i64 (yl : Nat)] 52)).drew).mono HBl.out.size))
  have hnew := Boxed2.new w3 ((xl : Int) + 1) (yl : Nat)
  obtain ⟨c5, w5, hrun, hst, hb5, hc5⟩ := run_stops ((w3.alloc (.cells #[.int .i64 ((xl : Int) + 1), .int .i64 (yl : Nat)] 52)).drew) n b o X Y hn0 (by omega) w3.heap.size (fun i hi => ⟨(HBm.out.cell (p := ⟨b, o + i * 2, none⟩) hl).trans (HCC.out i hi).1, (HBm.out.cell (p := ⟨b, o + i * 2 + 1, none⟩) hl).trans (HCC.out i hi).2⟩) (by rw [hnp, hxl]; simp) (by rw [hnp, hyl]; exact hnew.2)
  have HB5 := Lib.hid (HBm.out.trans (hb5.mono HBm.out.size))
  have hrun2 : (Apx #[41, 41] 41 #[.slice (some ⟨b, o, none⟩) n n, .slice (some ⟨w3.heap.size, 0, none⟩) 1 1]).run Try.prog ((w3.alloc (.cells #[.int .i64 ((xl : Int) + 1), .int .i64 (yl : Nat)] 52)).drew) = _ := hrun
  have wx : IntKind.i64.wrap ((xl : Int) + 1) = (xl : Int) + 1 := IntWalk.i64_in _ (by omega)
  have HST := Lib.hid hst
  clear hst hb5 hrun hnew HBm a0 a1
  have cc1 : (n : Int) ≤ (c : Int) := by omega
  go_region
  have HP2 := Lib.hid (And.intro hxl (And.intro hyl hnp))
  have hgs : w3.heap.size + 1 < w5.heap.size := by have := HST.out.lt; simpa using this
  have HST : Hid (StR w5 (w3.heap.size + 1) n X Y) := Lib.hid (by have := HST.out; simpa using this)
  clear hrun2 f0 f1 wx HBl hxl hyl hnp HC HB
  generalize hgg : w3.heap.size + 1 = g at *
  clear hgg
  have cc2 : (1 : Int) ≤ ((n + 1 : Nat) : Int) := by omega
  have cc3 : ((n + 1 : Nat) : Int) ≤ (c5 : Int) := by omega
  go_wp2
  go_loopw [7, 36] (fun u i wr => ∃ j : Nat, j ≤ n ∧ i = .int .i64 (j : Nat) ∧ Hid (L2.Own wr w5.heap.size u (Px n X j) (lnf n X Y)) ∧ Hid (Below w5.heap.size w5 wr)) (fun _ i _ => n - (intOf i).toNat)
  case atStart => exact ⟨0, Nat.zero_le _, rfl, Lib.hid (by rw [px_lt hn0, HP.out.x0]; exact L2.Own.nil _ _ _), Lib.hid (Below.refl _ _)⟩
  case round =>
    obtain ⟨j, hj, rfl, HO, HW⟩ := hrel
    by_cases hlt : j < n
    · have v1 : (j : Int) < (n : Int) := by omega
      have v2 : (0 : Int) ≤ (j : Int) := by omega
      have v3 : (j : Int) < ((n + 1 : Nat) : Int) := by omega
      have v3' : (j : Int) < (n : Int) + 1 := by omega
      have HS := Lib.hid (HST.out.to HW.out hgs)
      obtain ⟨a0, a1⟩ := HS.out.cell2 hlt
      obtain ⟨a2, a3⟩ := HS.out.cell (Nat.le_of_lt hlt)
      have HU := Lib.hid (px_up HP.out hlt)
      have HQ := Lib.hid (And.intro (qx_le HP.out j) (qx_le HP.out (j + 1)))
      have HLE := Lib.hid (px_le HP.out (show j + 1 ≤ n from hlt))
      have HAT := Lib.hid (fun x => lnf_at (X := X) (Y := Y) HP.out (i := j) (x := x) hlt)
      generalize hP1 : Px n X (j + 1) = p1 at *
      generalize hQ1 : Qx n Y (j + 1) = q1 at *
      generalize hP0 : Px n X j = p0 at *
      generalize hQ0 : Qx n Y j = q0 at *
      have HP1 := Lib.hid (And.intro hP1 (And.intro hQ1 (And.intro hP0 hQ0)))
      clear hP1 hQ1 hP0 hQ0
      have hba := bel_alloc wr (.cells #[.int .i64 (p1 : Nat), .int .i64 (q1 : Nat)] 52)
      have hbx : (wr.alloc (.cells #[.int .i64 (p1 : Nat), .int .i64 (q1 : Nat)] 52)).heap[wr.heap.size]? = some (.cells #[.int .i64 (p1 : Nat), .int .i64 (q1 : Nat)] 52 (0, 0)) := World.alloc_heap_new wr _
      have HO1 := Lib.hid (HO.out.alloc (.cells #[.int .i64 (p1 : Nat), .int .i64 (q1 : Nat)] 52))
      have HW1 := Lib.hid (HW.out.trans (hba.mono HW.out.size))
      have a2 := (hba.cell (p := ⟨g, j * 2, none⟩) HS.out.lt).trans a2
      have hsz : (wr.alloc (.cells #[.int .i64 (p1 : Nat), .int .i64 (q1 : Nat)] 52)).heap.size = wr.heap.size + 1 := by simp
      have HBX := Lib.hid hbx
      clear hbx hba
      go_upto_region 10 with (fail)
      generalize wr.alloc (.cells #[.int .i64 (p1 : Nat), .int .i64 (q1 : Nat)] 52) = w6 at *
      generalize wr.heap.size = tb at *
      go_wp2
      go_loopw [7, 10] (fun u i wq => ∃ x : Nat, p0 ≤ x ∧ x ≤ p1 ∧ i = .int .i64 (x : Nat) ∧ Hid (L2.Own wq w5.heap.size u x (lnf n X Y)) ∧ Hid (Below w5.heap.size w5 wq) ∧ Hid (wq.heap[tb]? = some (.cells #[.int .i64 (p1 : Nat), .int .i64 (q1 : Nat)] 52 (0, 0)))) (fun _ i _ => p1 - (intOf i).toNat)
      case atStart => exact ⟨p0, Nat.le_refl _, Nat.le_of_lt HU.out, rfl, HO1, HW1, HBX⟩
      case round =>
        obtain ⟨x, hx0, hx1, rfl, HO2, HW2, HX2⟩ := hrel
        clear HO1 HW1 HBX
        obtain ⟨wq, rfl⟩ : ∃ wo : World, wo = wr := ⟨_, rfl⟩
        have t0 : wq.cell? ⟨tb, 0, none⟩ = some (.int .i64 (p1 : Nat)) := (Lib.cell_of_heap HX2.out 0).trans rfl
        have t1 : wq.cell? ⟨tb, 1, none⟩ = some (.int .i64 (q1 : Nat)) := (Lib.cell_of_heap HX2.out 1).trans rfl
        have hu := HU.out
        have hle := HLE.out
        by_cases hlx : x < p1
        · have v4 : (x : Int) < (p1 : Int) := by omega
          have HS2 := Lib.hid (HST.out.to HW2.out hgs)
          obtain ⟨s0, s1⟩ := HS2.out.cell (Nat.le_of_lt hlt)
          rw [HP1.out.2.2.1] at s0
          rw [HP1.out.2.2.2] at s1
          have HFQ := Lib.hid (HAT.out x hx0 hlx)
          have HH := Lib.hid (fun u => hgt_any p0 q0 p1 q1 x u hu hx0 hx1 (by omega) HQ.out.1 HQ.out.2)
          have z8 : IntKind.i64.wrap ((x : Int) + 1) = (x : Int) + 1 := IntWalk.i64_in _ (by omega)
          have hx64 : x ≤ 64 := by omega
          obtain ⟨hv, hhv⟩ : ∃ z, hgt p0 q0 p1 q1 x = z := ⟨_, rfl⟩
          simp only [hhv] at HFQ HH
          clear hhv
          have hlb := (Array.getElem?_eq_some_iff.1 HX2.out).1
          go_wp2
          go_region_law (first
            | (go_simp
               with_reducible refine Calls.mono (HH.out _) ?_
               rintro e wb ⟨rfl, hb⟩
               have hbd : Below wq.heap.size wq wb := (Below.refl _ _).drew.trans hb
               have HBb := Lib.hid (HW2.out.trans (hbd.mono HW2.out.size))
               have HXb := Lib.hid ((hbd.block tb hlb).trans HX2.out)
               have HOb := Lib.hid ((HO2.out.below hbd).alloc (.cells #[.int .i64 (hv : Nat)] 3))
               have HCb := Lib.hid ((Lib.cell_of_heap (World.alloc_heap_new wb (.cells #[.int .i64 (hv : Nat)] 3)) 0).trans rfl : (wb.alloc (.cells #[.int .i64 (hv : Nat)] 3)).cell? ⟨wb.heap.size, 0, none⟩ = some (.int .i64 ((hv : Nat) : Int)))
               have hsz2 : w5.heap.size ≤ (wb.alloc (.cells #[.int .i64 (hv : Nat)] 3)).heap.size := by have := HBb.out.size; simp; omega
               clear hb hbd)
            | (refine step_app3 rfl (.tmp 52) (.tmp 60) rfl w5.heap.size rfl HOb.out (hv : Nat) wb.heap.size rfl HCb.out HFQ.out (by omega) hsz2 ?_
               intro v' wn hown' hbn' hk'
               have HON := Lib.hid hown'
               have HXN := Lib.hid (hk' tb _ 52 (by decide) ((Below.heap_alloc wb _ tb (Array.getElem?_eq_some_iff.1 HXb.out).1).trans HXb.out))
               have HBN := Lib.hid ((HBb.out.alloc HBb.out.size (.cells #[.int .i64 (hv : Nat)] 3)).trans hbn')
               clear hown' hbn' hk'))
          all_goals
            clear t0 t1 s0 s1
            go_wp2
            go_roundw
            case rel => exact ⟨x + 1, by omega, by omega, by go_num, HON, HBN, HXN⟩
            case measure => simp [intOf]; omega
        · obtain rfl : x = p1 := by omega
          have v4 : ¬ (x : Int) < (x : Int) := by omega
          go_wp2
          go_roundw
          case rel => exact ⟨j + 1, by omega, by go_num, Lib.hid (by rw [HP1.out.1]; exact HO2.out), HW2⟩
          case measure => simp [intOf]; omega
    · obtain rfl : j = n := by omega
      have v1 : ¬ (j : Int) < (j : Int) := by omega
      have hq := HO.out
      have hpn := px_n j X
      rw [hpn] at hq
      obtain ⟨k, d, hu, hrow⟩ : ∃ k d, u7 = .slice (some ⟨k, 0, none⟩) (X (j - 1) + 1) d ∧ L2.Row wr k (X (j - 1) + 1) (lnf j X Y) := by
        obtain ⟨A', c', e1, _, e2⟩ := hq.out
        obtain ⟨k, e3, _, e4⟩ := e2 (by omega)
        exact ⟨k, c', by rw [e1, e3], e4⟩
      subst hu
      have HR := Lib.hid hrow
      have HBW := Lib.hid (HB5.out.trans (HW.out.mono HB5.out.size))
      clear hq hpn hrow
      go_wp2
      refine bodyPost_ret (v := .tuple #[.slice (some ⟨k, 0, none⟩) (X (j - 1) + 1) d, .int .i64 0]) (by simp [results, Try.results23, go_sem]) rfl ?_
      first | exact ⟨k, ⟨d, rfl⟩, HR.out, HBW.out⟩ | exact ⟨k, d, rfl, HR.out, HBW.out⟩
end Go.Proofs.Ythipdfkgeghooaa
