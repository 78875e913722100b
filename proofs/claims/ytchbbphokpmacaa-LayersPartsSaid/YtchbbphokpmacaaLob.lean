/- The reference of Only: Set, Zero, divided. -/
import Derived.Test.YtchbbphokpmacaaLon
import Derived.Test.YtchbbphokpmacaaLal
import Derived.Deep.RegionLawGrows
namespace Go.Proofs.Ytchbbphokpmacaa
open Go.RowKit
set_option maxRecDepth 100000
set_option linter.unusedVariables false
set_option linter.unusedSimpArgs false

set_option maxHeartbeats 400000 in
theorem set_any (W H : Int) (k n c : Nat) (x y : Int) (u : Bool) (F : Nat → Bool) (w : World) (hr : Row w k n F) (hm : n ≤ 5000) (hW0 : 0 ≤ W) (hW : W ≤ 64) (hx0 : 0 ≤ x) (hx : x < 64) (hy0 : 0 ≤ y) (hy : y < 64) (hi : (y * W + x).toNat < n) :
    Calls Try.prog 107 #[.agg #[.int .i64 W, .int .i64 H, .slice (some ⟨k, 0, none⟩) n c], .int .i64 x, .int .i64 y, .bool u] w fun e w' => e = .returned (.tuple #[]) ∧ Row w' k n (fun j => if j = (y * W + x).toNat then u else F j) ∧ But k w w' := by
  obtain ⟨h1, h2⟩ := mul_bd hW0 hW hy0 hy
  have h3 : y * W + x < (n : Int) := by omega
  have hc := hr.cell hi
  have hf := hr.free (y * W + x).toNat
  have hl := hr.lt
  have HR := Lib.hid hr
  clear hr
  go_enter Try.func107, Try.ntmps107
  go_wp2
  go_end0
  refine ⟨rfl, ?_, ?_⟩
  · exact (HR.out.set_ _ _).alloc _
  · refine ⟨rfl, rfl, rfl, by simp [World.setCell], fun b hb hne => ?_⟩
    rw [Below.heap_alloc _ _ _ (by simpa [World.setCell] using hb), Below.heap_setCell _ _ _ _ hne]

theorem set_nat (W H : Nat) (k c : Nat) (x y : Int) (u : Bool) (F : Nat → Bool) (w : World) (hr : Row w k (W * H) F) (hW : W ≤ 64) (hH : H ≤ 64) (i j : Nat) (hx : x = i) (hy : y = j) (hi : i < W) (hj : j < H) :
    Calls Try.prog 107 #[.agg #[.int .i64 W, .int .i64 H, .slice (some ⟨k, 0, none⟩) (W * H) c], .int .i64 x, .int .i64 y, .bool u] w fun e w' => e = .returned (.tuple #[]) ∧ Row w' k (W * H) (fun l => if l = j * W + i then u else F l) ∧ But k w w' := by
  subst hx hy
  have h1 := ix_bd hi hj
  have h2 : W * H ≤ 4096 := Nat.mul_le_mul hW hH
  have e : ((j : Int) * (W : Int) + (i : Int)).toNat = j * W + i := by
    have : ((j : Int) * (W : Int) + (i : Int)) = ((j * W + i : Nat) : Int) := by simp
    rw [this, Int.toNat_natCast]
  have h := set_any W H k (W * H) c i j u F w hr (by omega) (by omega) (by omega) (by omega) (by omega) (by omega) (by omega) (by rw [e]; exact h1)
  rw [e] at h
  exact h

set_option maxHeartbeats 400000 in
theorem zero_int (Wi Hi : Int) (W H : Nat) (eW : Wi = W) (eH : Hi = H) (hW : W ≤ 64) (hH : H ≤ 64) (w : World) :
    Calls Try.prog 106 #[.int .i64 Wi, .int .i64 Hi] w fun e w' => ∃ k, e = .returned (.agg #[.int .i64 W, .int .i64 H, .slice (some ⟨k, 0, none⟩) (W * H) (W * H)]) ∧ w.heap.size ≤ k ∧ Row w' k (W * H) (fun _ => false) ∧ Below w.heap.size w w' := by
  subst eW eH
  have hN : W * H ≤ 4096 := Nat.mul_le_mul hW hH
  have hNi : (W : Int) * (H : Int) ≤ 4096 := by have := Int.ofNat_le.2 hN; simpa using this
  have hNi0 : 0 ≤ (W : Int) * (H : Int) := by have := Int.natCast_nonneg (W * H); simpa using this
  have hmk := make_run W H hN
  go_enter Try.func106, Try.ntmps106
  go_wp2
  refine bodyPost_ret (v := .agg #[.int .i64 W, .int .i64 H, .slice (some ⟨w.heap.size + 1, 0, none⟩) (W * H) (W * H)]) (by simp [results, Try.results106, go_sem]) rfl ⟨_, rfl, by omega, ?_, ?_⟩
  · have h := Row.made (w.alloc (.cells #[.int .i64 W, .int .i64 H, .slice (some ⟨w.heap.size + 1, 0, none⟩) (W * H) (W * H)] 24)) (W * H)
    simpa using h
  · exact ((Below.refl _ _).alloc (Nat.le_refl _) _).alloc (by simp) _

/-- 'append(s, y)' at a step of a region that draws its order; what lies apart stays. -/
theorem step_appk {ops : Array Oper} {o : Oper} {a : Act} {w : World} {K : Act → World → Prop} {Q : Exit → Act → World → Prop} {E : Prop} (hgd : o.guard = none) (s x : Operand)
    (ho : o.op = .call { callee := .builtin .append, args := #[s, x], argTypes := #[45, 45] }) (base : Nat) {v : Value} {n : Nat} {f : Nat → Int} (hs : a.eval s = v) (hown : L2.Own w base v n f)
    (y : Int) (g : Nat) (hx : a.eval x = .slice (some ⟨g, 0, none⟩) 1 1) (hc : w.cell? ⟨g, 0, none⟩ = some (.int .i64 y)) (hy : f n = y) (hn : n ≤ 100000) (hb : base ≤ w.heap.size)
    (h : ∀ v' w', L2.Own w' base v' (n + 1) f → Below base w w' → (∀ z m g, L2.Own w base z m g → Apt z v → L2.Own w' base z m g ∧ Apt z v') → K (a.put o.dst v') w') : if Region.wanted o (yielded ops a.tmps) = true then Oper.wp Try.prog o a w K Q else E := by
  have hw : Region.wanted o (yielded ops a.tmps) = true := by simp [Region.wanted, hgd]
  rw [if_pos hw]
  obtain ⟨i0, hi, hz0, hz1, hz2⟩ := info_parts L2.TryI.info3
  obtain ⟨v', w', hrun, h1, h2, _, hat⟩ := run_append_own_at (P := Try.prog) w base 45 o.type 3 i0 (.int .i64 0) 1 8 Try.underlying45 hi hz0 hz1 hz2 rfl (by decide) v n _ hown ⟨g, 0, none⟩ 1 1 [.int .i64 y] rfl
    (by intro j u hj; match j, hj with | 0, hj => (simp at hj; subst hj; simpa [Addr.add] using hc)) (ints_oneCell .i64 [y]) (by unfold maxLen; omega) (by omega) hb
  unfold Oper.wp
  simp [execOp, ho, resolve, invoke, builtin, hs, hx, hrun, Result.andThen]
  refine h v' w' ?_ ?_ fun z m g' hz hap => ⟨?_, fun k hk hzk => ?_⟩
  · unfold L2.Own
    rw [L2.news_succ, hy]
    exact h1
  · exact Below.grown (Below.refl _ _) h2 hb fun k hk => (hown.block hk).1
  · unfold L2.Own at hz ⊢
    exact orow_keep hz fun k _ hk => h2.block k (orow_block hz hk).2.1 fun e => hap k e.symm hk
  · rcases hat with e | e
    · exact hap k (by rw [← e]; exact hk) hzk
    · rw [hk] at e
      have := (orow_block hz hzk).2.1
      cases e
      omega
theorem Ly.drew {w : World} {lb base : Nat} {v1 v2 : Value} {l1 l2 : List Nat} (h : Ly w lb base v1 v2 l1 l2) : Ly w.drew lb base v1 v2 l1 l2 := ⟨h.cell, h.o1, h.o2, h.ap, h.lb, h.bs⟩
set_option maxHeartbeats 6400000 in
theorem div_n (W H : Nat) (A : Option Addr) (M c : Nat) (l : List Nat) (D : Option Addr) (d : Nat) (w : World) (hl : LL w D l) (hn : l.length ≤ 128) (hlN : ∀ b, b ∈ l → b < 128) :
    Calls Try.prog 105 #[.agg #[.int .i64 (W : Nat), .int .i64 (H : Nat), .slice A M c], .slice D l.length d] w (LyR w (lEn W l) (lPi W l)) := by
  have HL := Lib.hid hl
  have HLM := Lib.hid (fun k (h : k < l.length) => hlN _ (mem_getD h))
  have HT := Lib.hid (fun k (h : k < l.length) => len_take (W := W) (l := l) (k := k) h)
  clear hl hlN
  obtain ⟨n, hnl⟩ : ∃ n, l.length = n := ⟨_, rfl⟩
  have HNL := Lib.hid hnl
  rw [hnl] at hn HLM HT ⊢
  clear hnl
  have X0 := Lib.hid (Box.new w (W : Nat) (H : Nat) (.slice A M c))
  have LB0 := Lib.hid (show Below w.heap.size w (w.alloc (.cells #[.int .i64 (W : Nat), .int .i64 (H : Nat), (.slice A M c)] 24)) from (Below.refl _ _).alloc (Nat.le_refl _) _)
  have X1 := Lib.hid (X0.out.alloc (.cells #[.slice none 0 0, .slice none 0 0] 92))
  have LB1 := Lib.hid (LB0.out.alloc LB0.out.size (.cells #[.slice none 0 0, .slice none 0 0] 92))
  have X2 := Lib.hid (X1.out.alloc (.cells #[.slice none 0 0, .slice none 0 0] 92))
  have LB2 := Lib.hid (LB1.out.alloc LB1.out.size (.cells #[.slice none 0 0, .slice none 0 0] 92))
  have L0 := Ly.start ((w.alloc (.cells #[.int .i64 (W : Nat), .int .i64 (H : Nat), (.slice A M c)] 24)).alloc (.cells #[.slice none 0 0, .slice none 0 0] 92))
  rw [show ((w.alloc (.cells #[.int .i64 (W : Nat), .int .i64 (H : Nat), (.slice A M c)] 24)).alloc (.cells #[.slice none 0 0, .slice none 0 0] 92)).heap.size = w.heap.size + 2 by simp] at L0
  have L0 := Lib.hid L0
  have hr0 : (((w.alloc (.cells #[.int .i64 (W : Nat), .int .i64 (H : Nat), (.slice A M c)] 24)).alloc (.cells #[.slice none 0 0, .slice none 0 0] 92)).alloc (.cells #[.slice none 0 0, .slice none 0 0] 92)).heap[w.heap.size + 1]? = some (.cells #[.slice none 0 0, .slice none 0 0] 92 (0, 0)) := by
    rw [Below.heap_alloc _ _ _ (by simp)]
    have := World.alloc_heap_new (w.alloc (.cells #[.int .i64 (W : Nat), .int .i64 (H : Nat), (.slice A M c)] 24)) (.cells #[.slice none 0 0, .slice none 0 0] 92)
    rw [World.size_alloc] at this
    exact this
  have HR0 := Lib.hid hr0
  clear X0 LB0 X1 LB1 hr0
  go_enter Try.func105, Try.ntmps105
  go_wp2
  obtain ⟨lb, hlb⟩ : ∃ lb, w.heap.size + 2 = lb := ⟨_, rfl⟩
  obtain ⟨rb, hrb⟩ : ∃ rb, w.heap.size + 1 = rb := ⟨_, rfl⟩
  have hlw : w.heap.size < rb ∧ rb < lb := by omega
  rw [hlb] at L0 ⊢
  rw [hrb] at HR0 ⊢
  clear hlb hrb
  generalize ((w.alloc (.cells #[.int .i64 (W : Nat), .int .i64 (H : Nat), (.slice A M c)] 24)).alloc (.cells #[.slice none 0 0, .slice none 0 0] 92)).alloc (.cells #[.slice none 0 0, .slice none 0 0] 92) = w0 at *
  go_loopw [6] (fun i wr => ∃ (k : Nat) (v1 v2 : Value), k ≤ n ∧ i = .int .i64 k ∧ Hid (Ly wr lb (lb + 1) v1 v2 (lEn W (l.take k)) (lPi W (l.take k))) ∧ Hid (Box wr w.heap.size (W : Nat) (H : Nat) (.slice A M c)) ∧ Hid (Below lb w0 wr) ∧ Hid (Below w.heap.size w wr)) (fun i _ => n - (intOf i).toNat)
  case atStart => exact ⟨0, _, _, Nat.zero_le _, rfl, L0, X2, Lib.hid (Below.refl _ _), LB2⟩
  case round =>
    obtain ⟨k, v1, v2, hk, rfl, HY, HX, HB, HW⟩ := hrel
    clear L0 X2 LB2
    by_cases hlt : k < n
    · have y1 : (k : Int) < (n : Int) := by omega
      have y2 : (0 : Int) ≤ (k : Int) := by omega
      obtain ⟨bl, ol, rfl, hbl, hcl⟩ := (HL.out.below HW.out) (by rw [HNL.out]; omega)
      have c0 := hcl k (by rw [HNL.out]; exact hlt)
      clear hcl
      have hxN := HLM.out k hlt
      have HTk := HT.out k hlt
      have hlx : lf l k = ((l.getD k 0 : Nat) : Int) := rfl
      rw [hlx] at c0
      obtain ⟨x, hx⟩ : ∃ x, l.getD k 0 = x := ⟨_, rfl⟩
      rw [hx] at c0 hxN HTk
      clear hx hlx
      have hl1 := Nat.le_trans (lEn_len W (l.take k)) (List.length_take_le k l)
      have hl2 := Nat.le_trans (lPi_len W (l.take k)) (List.length_take_le k l)
      by_cases hxW : x < W
      · obtain ⟨e1, e2⟩ := HTk.1 hxW
        have d1 : (x : Int) < (W : Int) := by omega
        obtain ⟨I, Wf, i0, h0, hbf, hcf⟩ := family wr
        have hne : Nonempty I := ⟨i0⟩
        obtain ⟨q0, q1, q2, q3, q4, q5, q6⟩ := HX.out.all
        have x1 := fun n' => ((hbf n').cell (p := ⟨bl, ol + k, none⟩) hbl).trans c0
        have x2 := fun n' => ((hbf n').cell (p := ⟨w.heap.size, 0, none⟩) q6).trans q0
        have BF := Lib.hid hbf
        clear hcf hbf q0 q1 q2 q3 q4 q5 q6
        go_wp2
        refine wp_region_fam Wf i0 h0 (by kernel_rfl) (by kernel_rfl) ?_
        clear h0
        repeat (go_big_quiet_step (first | exact rfl))
        refine wpQuiet_nil ?_
        rintro _ ⟨nq, rfl⟩
        have c1 := x1 nq
        have HY5 := Lib.hid (HY.out.below (BF.out nq))
        have HX5 := Lib.hid (HX.out.below (BF.out nq) HX.out.lt)
        have HB5 := Lib.hid (HB.out.trans ((BF.out nq).mono (by have := HY.out.bs; have := HY.out.lb; omega)))
        have HW5 := Lib.hid (HW.out.trans ((BF.out nq).mono HW.out.size))
        have hbl5 : bl < (Wf nq).heap.size := Nat.lt_of_lt_of_le hbl (BF.out nq).size
        clear x1 x2 hne BF c0 HY HX HB HW hbl
        generalize Wf nq = w5 at *
        obtain ⟨q0, q1, q2, q3, q4, q5, q6⟩ := HX5.out.all
        obtain ⟨m0, m1, m2, m3⟩ := HY5.out.cells
        have hbs := HY5.out.bs
        have HYd := Lib.hid ((HY5.out.below (bel_alloc w5 (.cells #[.int .i64 (x : Int)] 3))).drew)
        have HC1 : Hid (((w5.alloc (.cells #[.int .i64 (x : Int)] 3)).drew).cell? ⟨w5.heap.size, 0, none⟩ = some (.int .i64 (x : Int))) := Lib.hid (by simp)
        have hbase2 : lb + 1 ≤ ((w5.alloc (.cells #[.int .i64 (x : Int)] 3)).drew).heap.size := by simp; omega
        have HBN0 := Lib.hid (((Below.refl (lb + 1) w5).alloc hbs (.cells #[.int .i64 (x : Int)] 3)).drew)
        have HO := Lib.hid (own_app HYd.out.o1 x)
        have HQ := Lib.hid (lf_last (lEn W (l.take k)) x)
        have HAPP := Lib.hid (fun (v' : Value) (w' : World) h1 h2 h3 => HYd.out.app1 (x := x) (v' := v') (w' := w') h1 h2 h3)
        have HMID := Lib.hid (fun (w' : World) (hb : Below (lb + 1) ((w5.alloc (.cells #[.int .i64 (x : Int)] 3)).drew) w') => (show w'.cell? ⟨lb, 0, none⟩ = some v1 ∧ w'.frozen? ⟨lb, 0, none⟩ = false from ⟨by rw [Lib.cell_of_heap (HYd.out.mid hb)]; rfl, Lib.frozen_of_heap (HYd.out.mid hb) 0⟩))
        have E1 := Lib.hid e1
        have E2 := Lib.hid e2
        rw [← E1.out, ← E2.out] at HAPP
        rw [← E1.out] at HO HQ
        obtain ⟨n0, hn0⟩ : ∃ y, (lEn W (l.take k)).length = y := ⟨_, rfl⟩
        rw [hn0] at HO HQ HAPP hl1
        have s1 : lb < w5.heap.size := by omega
        have s2 : w.heap.size < w5.heap.size := by omega
        clear e1 e2 HTk hn0 hxW
        obtain ⟨f, hf⟩ : ∃ f, lf (lEn W (l.take (k + 1))) = f := ⟨_, rfl⟩
        rw [hf] at HO HQ HAPP
        clear hf
        go_wp2
        go_region_law (first
          | (refine step_appk rfl (.tmp 21) (.tmp 26) rfl (lb + 1) rfl HO.out (x : Int) w5.heap.size rfl HC1.out HQ.out (by omega) hbase2 ?_
             intro v' wn hown' hbn' hk'
             obtain ⟨A6, d6, rfl⟩ := orow_shape hown'
             have HY6 := Lib.hid (HAPP.out _ _ hown' hbn' hk')
             obtain ⟨m4, m5⟩ := HMID.out wn hbn'
             have HB6 := Lib.hid (HBN0.out.trans hbn')
             clear hown' hbn' hk'))
        all_goals
          have X6 := Lib.hid ((HX5.out.below HB6.out (by omega)).far (p := ⟨lb, 0, none⟩) (by show w.heap.size ≠ lb; omega) (.slice A6 (n0 + 1) d6))
          have B6 := Lib.hid ((HB5.out.trans (HB6.out.mono (by omega))).setCell (p := ⟨lb, 0, none⟩) (by show lb ≤ lb; omega) (.slice A6 (n0 + 1) d6))
          have L6 := Lib.hid ((HW5.out.trans (HB6.out.mono (by omega))).setCell (p := ⟨lb, 0, none⟩) (by show w.heap.size ≤ lb; omega) (.slice A6 (n0 + 1) d6))
          clear q0 q1 q2 q3 q4 q5 q6 m0 m1 m2 m3 m4 m5 c1 s1 s2 hbase2 HBN0 HC1 HO HQ HAPP HMID HB6 HYd HX5 HB5 HW5 HY5
          go_wp2
          go_roundw
          case rel => exact ⟨k + 1, _, _, by omega, by go_num, HY6, X6, B6, L6⟩
          case measure => simp [intOf]; omega
      · obtain ⟨e1, e2⟩ := HTk.2 hxW
        have d1 : ¬ (x : Int) < (W : Int) := by omega
        have d2 : IntKind.i64.wrap ((x : Int) - (W : Int)) = ((x - W : Nat) : Int) := by rw [IntWalk.i64_in _ (by omega)]; omega
        obtain ⟨z, hz⟩ : ∃ z, x - W = z := ⟨_, rfl⟩
        rw [hz] at d2 e2
        obtain ⟨I, Wf, i0, h0, hbf, hcf⟩ := family wr
        have hne : Nonempty I := ⟨i0⟩
        obtain ⟨q0, q1, q2, q3, q4, q5, q6⟩ := HX.out.all
        have x1 := fun n' => ((hbf n').cell (p := ⟨bl, ol + k, none⟩) hbl).trans c0
        have x2 := fun n' => ((hbf n').cell (p := ⟨w.heap.size, 0, none⟩) q6).trans q0
        have BF := Lib.hid hbf
        clear hcf hbf q0 q1 q2 q3 q4 q5 q6
        go_wp2
        refine wp_region_fam Wf i0 h0 (by kernel_rfl) (by kernel_rfl) ?_
        clear h0
        repeat (go_big_quiet_step (first | exact rfl))
        refine wpQuiet_nil ?_
        rintro _ ⟨nq, rfl⟩
        have c1 := x1 nq
        have HY5 := Lib.hid (HY.out.below (BF.out nq))
        have HX5 := Lib.hid (HX.out.below (BF.out nq) HX.out.lt)
        have HB5 := Lib.hid (HB.out.trans ((BF.out nq).mono (by have := HY.out.bs; have := HY.out.lb; omega)))
        have HW5 := Lib.hid (HW.out.trans ((BF.out nq).mono HW.out.size))
        have hbl5 : bl < (Wf nq).heap.size := Nat.lt_of_lt_of_le hbl (BF.out nq).size
        clear x1 x2 hne BF c0 HY HX HB HW hbl
        generalize Wf nq = w5 at *
        obtain ⟨q0, q1, q2, q3, q4, q5, q6⟩ := HX5.out.all
        obtain ⟨m0, m1, m2, m3⟩ := HY5.out.cells
        have hbs := HY5.out.bs
        have HYd := Lib.hid ((HY5.out.below (bel_alloc w5 (.cells #[.int .i64 (z : Int)] 3))).drew)
        have HC1 : Hid (((w5.alloc (.cells #[.int .i64 (z : Int)] 3)).drew).cell? ⟨w5.heap.size, 0, none⟩ = some (.int .i64 (z : Int))) := Lib.hid (by simp)
        have hbase2 : lb + 1 ≤ ((w5.alloc (.cells #[.int .i64 (z : Int)] 3)).drew).heap.size := by simp; omega
        have HBN0 := Lib.hid (((Below.refl (lb + 1) w5).alloc hbs (.cells #[.int .i64 (z : Int)] 3)).drew)
        have HO := Lib.hid (own_app HYd.out.o2 z)
        have HQ := Lib.hid (lf_last (lPi W (l.take k)) z)
        have HAPP := Lib.hid (fun (v' : Value) (w' : World) h1 h2 h3 => HYd.out.app2 (x := z) (v' := v') (w' := w') h1 h2 h3)
        have HMID := Lib.hid (fun (w' : World) (hb : Below (lb + 1) ((w5.alloc (.cells #[.int .i64 (z : Int)] 3)).drew) w') => (show w'.cell? ⟨lb, 1, none⟩ = some v2 ∧ w'.frozen? ⟨lb, 1, none⟩ = false from ⟨by rw [Lib.cell_of_heap (HYd.out.mid hb)]; rfl, Lib.frozen_of_heap (HYd.out.mid hb) 1⟩))
        have E1 := Lib.hid e1
        have E2 := Lib.hid e2
        rw [← E1.out, ← E2.out] at HAPP
        rw [← E2.out] at HO HQ
        obtain ⟨n0, hn0⟩ : ∃ y, (lPi W (l.take k)).length = y := ⟨_, rfl⟩
        rw [hn0] at HO HQ HAPP hl2
        have s1 : lb < w5.heap.size := by omega
        have s2 : w.heap.size < w5.heap.size := by omega
        clear e1 e2 HTk hn0 hxW hz
        obtain ⟨f, hf⟩ : ∃ f, lf (lPi W (l.take (k + 1))) = f := ⟨_, rfl⟩
        rw [hf] at HO HQ HAPP
        clear hf
        go_wp2
        go_region_law (first
          | (refine step_appk rfl (.tmp 30) (.tmp 38) rfl (lb + 1) rfl HO.out (z : Int) w5.heap.size rfl HC1.out HQ.out (by omega) hbase2 ?_
             intro v' wn hown' hbn' hk'
             obtain ⟨A6, d6, rfl⟩ := orow_shape hown'
             have HY6 := Lib.hid (HAPP.out _ _ hown' hbn' hk')
             obtain ⟨m4, m5⟩ := HMID.out wn hbn'
             have HB6 := Lib.hid (HBN0.out.trans hbn')
             clear hown' hbn' hk'))
        all_goals
          have X6 := Lib.hid ((HX5.out.below HB6.out (by omega)).far (p := ⟨lb, 1, none⟩) (by show w.heap.size ≠ lb; omega) (.slice A6 (n0 + 1) d6))
          have B6 := Lib.hid ((HB5.out.trans (HB6.out.mono (by omega))).setCell (p := ⟨lb, 1, none⟩) (by show lb ≤ lb; omega) (.slice A6 (n0 + 1) d6))
          have L6 := Lib.hid ((HW5.out.trans (HB6.out.mono (by omega))).setCell (p := ⟨lb, 1, none⟩) (by show w.heap.size ≤ lb; omega) (.slice A6 (n0 + 1) d6))
          clear q0 q1 q2 q3 q4 q5 q6 m0 m1 m2 m3 m4 m5 c1 s1 s2 hbase2 HBN0 HC1 HO HQ HAPP HMID HB6 HYd HX5 HB5 HW5 HY5
          go_wp2
          go_roundw
          case rel => exact ⟨k + 1, _, _, by omega, by go_num, HY6, X6, B6, L6⟩
          case measure => simp [intOf]; omega
    · have e : k = n := by omega
      have y1 : ¬ (k : Int) < (n : Int) := by omega
      rw [show l.take k = l from List.take_of_length_le (by rw [HNL.out]; omega)] at HY
      have HR := (HB.out.block rb (by omega)).trans HR0.out
      have c1 : wr.cell? ⟨rb, 0, none⟩ = some (.slice none 0 0) := by rw [Lib.cell_of_heap HR]; rfl
      have c2 : wr.cell? ⟨rb, 1, none⟩ = some (.slice none 0 0) := by rw [Lib.cell_of_heap HR]; rfl
      have c3 := Lib.frozen_of_heap HR 0
      have c4 := Lib.frozen_of_heap HR 1
      obtain ⟨m0, m1, m2, m3⟩ := HY.out.cells
      have HYF := Lib.hid (((HY.out.far (p := ⟨rb, 0, none⟩) (by show rb ≠ lb; omega) (by show rb < lb + 1; omega) v1).far (p := ⟨rb, 1, none⟩) (by show rb ≠ lb; omega) (by show rb < lb + 1; omega) v2).out ((HW.out.setCell (p := ⟨rb, 0, none⟩) (by show _ ≤ rb; omega) v1).setCell (p := ⟨rb, 1, none⟩) (by show _ ≤ rb; omega) v2))
      obtain ⟨A1, d1, rfl⟩ := orow_shape HY.out.o1
      obtain ⟨A2, d2, rfl⟩ := orow_shape HY.out.o2
      have hrlt : rb < wr.heap.size := (Array.getElem?_eq_some_iff.1 HR).1
      clear e HR HY
      generalize (lEn W l).length = n1 at *
      generalize (lPi W l).length = n2 at *
      go_wp2
      refine bodyPost_ret (v := .agg #[.slice A1 n1 d1, .slice A2 n2 d2]) (by simp [results, Try.results105, go_sem, m0, m1, m2, m3, c1, c2, c3, c4]) rfl ?_
      exact HYF.out
end Go.Proofs.Ytchbbphokpmacaa
