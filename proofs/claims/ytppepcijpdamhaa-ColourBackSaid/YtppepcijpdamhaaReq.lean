/- Layer 14 of the reference: Equal, Twin, Great. -/
import Derived.Test.YtppepcijpdamhaaRfr
namespace Go.Proofs.Ytppepcijpdamhaa
open Go.RowKit
set_option maxRecDepth 100000
set_option linter.unusedVariables false
set_option linter.unusedSimpArgs false

theorem own_row0 {w : World} {base g n cap : Nat} {f : Nat → Int} (h : w.ownsRow base 3 1 (.slice (some ⟨g, 0, none⟩) n cap) n (L2.news n f)) (hn : 0 < n) : L2.Row w g n f := by
  obtain ⟨k, c, e, _, hr⟩ := L2.Own.row (show L2.Own w base _ n f from h) hn
  cases e
  exact hr
theorem iappend_none (g : Nat) (A : Option Addr) (c : Nat) (ty : TypeId) (w : World) : (Builtin.append_ #[25, 25] ty #[.slice (some ⟨g, 0, none⟩) 0 0, .slice A 0 c]).run Try.prog w = .ok (.slice (some ⟨g, 0, none⟩) 0 0) w := by
  obtain ⟨i0, hi, hz0, hz1, hz2⟩ := info_parts L2.TryI.info3
  cases A <;> simp [Builtin.append_, run_underlying Try.underlying25, sizeOf, typeInfo, hi, Builtin.lenOf, Builtin.firstCells, storeCells, loadCells, loadCellsFrom]

/-- .. at a step of a region that draws its order. -/
theorem istep_none {ops : Array Oper} {o : Oper} {a : Act} {w : World} {K : Act → World → Prop} {Q : Exit → Act → World → Prop} {E : Prop} (hgd : o.guard = none) (s x : Operand)
    (ho : o.op = .call { callee := .builtin .append, args := #[s, x], argTypes := #[25, 25] }) (g : Nat) (A : Option Addr) (c : Nat) (hs : a.eval s = .slice (some ⟨g, 0, none⟩) 0 0) (hx : a.eval x = .slice A 0 c)
    (h : ∀ w', w = w' → K (a.put o.dst (.slice (some ⟨g, 0, none⟩) 0 0)) w') : if Region.wanted o (yielded ops a.tmps) = true then Oper.wp Try.prog o a w K Q else E := by
  have hw : Region.wanted o (yielded ops a.tmps) = true := by simp [Region.wanted, hgd]
  rw [if_pos hw]
  have hr := iappend_none g A c o.type w
  unfold Oper.wp execOp
  simp only [ho, resolve, invoke, builtin, Sem.run_bind, Sem.run_pure, Result.andThen_ok, List.map_toArray, List.map_cons, List.map_nil, hs, hx, hr]
  exact h w rfl

theorem itwin_keep {W2 w' : World} {g : Nat} {W H : Int} {v : Value} (hb : IBox W2 g W H v) (h : Below (g + 1) W2 w') :
    w'.cell? ⟨g, 0, none⟩ = some (.int .i64 W) ∧ w'.cell? ⟨g, 1, none⟩ = some (.int .i64 H) ∧ w'.cell? ⟨g, 2, none⟩ = some v :=
  have hx := hb.below h (by omega)
  ⟨hx.c0, hx.c1, hx.c2⟩

set_option maxHeartbeats 800000 in
theorem itwin_some (W H : Int) (A : Option Addr) (n c : Nat) (f : Nat → Int) (w : World) (hn : n ≤ 4200) (h0 : 0 < n) (hr : L2.Holds w w.heap.size A n f) :
    Calls Try.prog 22 #[.agg #[.int .i64 W, .int .i64 H, .slice A n c]] w fun e w' => ∃ k d, e = .returned (.agg #[.int .i64 W, .int .i64 H, .slice (some ⟨k, 0, none⟩) n d]) ∧ w.heap.size ≤ k ∧ L2.Row w' k n f ∧ Below w.heap.size w w' := by
  obtain ⟨b, o, rfl, hlt, hc⟩ := hr h0
  obtain ⟨i0, hi, hz0, hz1, hz2⟩ := info_parts L2.TryI.info3
  have HC := Lib.hid hc
  clear hc
  have hbox1 := (IBox.new w W H (.slice (some ⟨b, o, none⟩) n c)).alloc (.cells #[.int .i64 0, .int .i64 0, .slice none 0 0] 29)
  have hbox2 := IBox.new (w.alloc (.cells #[.int .i64 W, .int .i64 H, .slice (some ⟨b, o, none⟩) n c] 29)) 0 0 (.slice none 0 0)
  have hbel : Below w.heap.size w ((w.alloc (.cells #[.int .i64 W, .int .i64 H, .slice (some ⟨b, o, none⟩) n c] 29)).alloc (.cells #[.int .i64 0, .int .i64 0, .slice none 0 0] 29)) := ((Below.refl _ _).alloc (Nat.le_refl _) _).alloc (by simp) _
  have hsz : ((w.alloc (.cells #[.int .i64 W, .int .i64 H, .slice (some ⟨b, o, none⟩) n c] 29)).alloc (.cells #[.int .i64 0, .int .i64 0, .slice none 0 0] 29)).heap.size = w.heap.size + 2 := by simp
  go_enter Try.func22, Try.ntmps22
  go_wp2
  simp only [World.size_alloc] at hbox2
  generalize (w.alloc (.cells #[.int .i64 W, .int .i64 H, .slice (some ⟨b, o, none⟩) n c] 29)).alloc (.cells #[.int .i64 0, .int .i64 0, .slice none 0 0] 29) = W2 at *
  have HK := Lib.hid (fun w' (h : Below (w.heap.size + 1) W2 w') => itwin_keep hbox1 h)
  have HN : Hid (∀ w', Below w.heap.size W2 w' → ∀ j u, (L2.news n f)[j]? = some u → w'.cell? (Addr.add ⟨b, o, none⟩ j) = some u) := by
    intro w' hb' j u hj
    obtain ⟨hj', rfl⟩ := L2.news_get hj
    have e : Addr.add ⟨b, o, none⟩ j = ⟨b, o + j, none⟩ := by unfold Addr.add; by_cases h : j = 0 <;> simp [h]
    rw [e]
    exact ((hbel.trans hb').cell (p := ⟨b, o + j, none⟩) hlt).trans (HC.out j hj')
  obtain ⟨q0, q1, q2, q3, q4, q5, q6⟩ := hbox1.all
  have HP := Lib.hid hbox2
  have HB := Lib.hid hbel
  clear hbox1 hbox2 hbel hr
  go_region_held3 (fun w' => w'.cell? ⟨w.heap.size, 0, none⟩ = some (.int .i64 W) ∧ w'.cell? ⟨w.heap.size, 1, none⟩ = some (.int .i64 H) ∧ w'.cell? ⟨w.heap.size, 2, none⟩ = some (.slice (some ⟨b, o, none⟩) n c))
    (first
      | exact HK.out _ (Below.refl _ _).drew
      | exact HK.out _ ((Below.refl _ _).drew.alloc (by simp; omega) _)
      | exact HK.out _ (hbx.mono (by omega))
      | exact HK.out _ ((((hbx.mono (by omega)).setCell (by simp) _).setCell (by simp) _).setCell (by simp) _))
    (first
      | (refine step_append_grows rfl (.tmp 7) (.tmp 9) 25 rfl 3 i0 (.int .i64 0) 1 8 Try.underlying25 hi hz0 hz1 hz2 rfl Nat.one_pos (some ⟨w.heap.size + 2, 0, none⟩) 0 0 [] rfl ?_ rfl ?_ ⟨b, o, none⟩ n c (L2.news n f) rfl ?_ ?_ L2.news_one ?_ ?_ ?_ ?_
         intro h; cases h
         intro _ _ j u h; simp at h
         rw [L2.news_length]; omega
         exact HN.out _ ((Below.refl _ _).drew.alloc (by simp; omega) _)
         omega
         unfold maxLen; omega
         omega
         intro v' w1 hown hgr
         have hbx : Below W2.heap.size W2 w1 := ((Below.refl _ _).drew.alloc (by simp) _).grown hgr (by simp) (by simp)
         obtain ⟨g, cap, hv, hg1, hg2⟩ := hown.form (by omega)
         subst hv
         obtain ⟨p0, p1, p2, p3, p4, p5, p6⟩ := (HP.out.below hbx (by omega)).all))
  simp only [Nat.zero_add, List.nil_append] at hown
  have hrow := own_row0 hown h0
  have hgb : w.heap.size + 2 ≤ g := by simp at hg1; omega
  have hb2 := HB.out.trans (hbx.mono (by omega))
  go_wp2
  refine bodyPost_ret (v := .agg #[.int .i64 W, .int .i64 H, .slice (some ⟨g, 0, none⟩) n cap]) (by simp [results, Try.results22, go_sem, p0, p1, p2]) rfl ⟨g, cap, rfl, by omega, ?_, ?_⟩
  · exact ((hrow.far (by simp; omega) _).far (by simp; omega) _).far (by simp; omega) _
  · exact ((hb2.setCell (by simp) _).setCell (by simp) _).setCell (by simp) _

set_option maxHeartbeats 800000 in
theorem itwin_none (W H : Int) (A : Option Addr) (c : Nat) (w : World) :
    Calls Try.prog 22 #[.agg #[.int .i64 W, .int .i64 H, .slice A 0 c]] w fun e w' => ∃ k, e = .returned (.agg #[.int .i64 W, .int .i64 H, .slice (some ⟨k, 0, none⟩) 0 0]) ∧ Below w.heap.size w w' := by
  have hbox1 := (IBox.new w W H (.slice A 0 c)).alloc (.cells #[.int .i64 0, .int .i64 0, .slice none 0 0] 29)
  have hbox2 := IBox.new (w.alloc (.cells #[.int .i64 W, .int .i64 H, .slice A 0 c] 29)) 0 0 (.slice none 0 0)
  have hbel : Below w.heap.size w ((w.alloc (.cells #[.int .i64 W, .int .i64 H, .slice A 0 c] 29)).alloc (.cells #[.int .i64 0, .int .i64 0, .slice none 0 0] 29)) := ((Below.refl _ _).alloc (Nat.le_refl _) _).alloc (by simp) _
  have hsz : ((w.alloc (.cells #[.int .i64 W, .int .i64 H, .slice A 0 c] 29)).alloc (.cells #[.int .i64 0, .int .i64 0, .slice none 0 0] 29)).heap.size = w.heap.size + 2 := by simp
  go_enter Try.func22, Try.ntmps22
  go_wp2
  simp only [World.size_alloc] at hbox2
  generalize (w.alloc (.cells #[.int .i64 W, .int .i64 H, .slice A 0 c] 29)).alloc (.cells #[.int .i64 0, .int .i64 0, .slice none 0 0] 29) = W2 at *
  have HK := Lib.hid (fun w' (h : Below (w.heap.size + 1) W2 w') => itwin_keep hbox1 h)
  obtain ⟨q0, q1, q2, q3, q4, q5, q6⟩ := hbox1.all
  have HP := Lib.hid hbox2
  have HB := Lib.hid hbel
  clear hbox1 hbox2 hbel
  go_region_held3 (fun w' => w'.cell? ⟨w.heap.size, 0, none⟩ = some (.int .i64 W) ∧ w'.cell? ⟨w.heap.size, 1, none⟩ = some (.int .i64 H) ∧ w'.cell? ⟨w.heap.size, 2, none⟩ = some (.slice A 0 c))
    (first
      | exact HK.out _ (Below.refl _ _).drew
      | exact HK.out _ ((Below.refl _ _).drew.alloc (by simp; omega) _)
      | exact HK.out _ (hbx.mono (by omega))
      | exact HK.out _ ((((hbx.mono (by omega)).setCell (by simp) _).setCell (by simp) _).setCell (by simp) _))
    (first
      | (refine istep_none rfl (.tmp 7) (.tmp 9) rfl (w.heap.size + 2) A c rfl rfl ?_
         intro w1 hw1
         have hbx : Below W2.heap.size W2 w1 := hw1 ▸ ((Below.refl _ _).drew.alloc (by simp) _)
         clear hw1
         obtain ⟨p0, p1, p2, p3, p4, p5, p6⟩ := (HP.out.below hbx (by omega)).all))
  go_wp2
  refine bodyPost_ret (v := .agg #[.int .i64 W, .int .i64 H, .slice (some ⟨w.heap.size + 2, 0, none⟩) 0 0]) (by simp [results, Try.results22, go_sem, p0, p1, p2]) rfl ⟨_, rfl, ?_⟩
  exact (((HB.out.trans (hbx.mono (by omega))).setCell (by simp) _).setCell (by simp) _).setCell (by simp) _
theorem itwin_all {W H : Int} {A : Option Addr} {n c : Nat} {f : Nat → Int} (w : World) (hn : n ≤ 4200) (ha : L2.Holds w w.heap.size A n f) : Calls Try.prog 22 #[.agg #[.int .i64 W, .int .i64 H, .slice A n c]] w (RM w W H n f) := by
  rcases Nat.eq_zero_or_pos n with rfl | h0
  · exact (itwin_none W H A c w).mono fun e w' ⟨k, he, hb⟩ => ⟨_, _, he, L2.Holds.none_, hb⟩
  · exact (itwin_some W H A n c f w hn h0 ha).mono fun e w' ⟨k, d, he, hk, hr, hb⟩ => ⟨_, _, he, hr.holds hr.lt, hb⟩
/-- A grid came back. -/
def TWR (w : World) (W H : Int) (n : Nat) (a : Nat → Bool) (e : Ending) (w' : World) : Prop := ∃ A c, e = .returned (.agg #[.int .i64 W, .int .i64 H, .slice A n c]) ∧ Holds w' w'.heap.size A n a ∧ Below w.heap.size w w'
theorem twin_all {W H : Int} {A : Option Addr} {n c : Nat} {a : Nat → Bool} (w : World) (hn : n ≤ 4200) (ha : Holds w w.heap.size A n a) : Calls Try.prog 12 #[.agg #[.int .i64 W, .int .i64 H, .slice A n c]] w (TWR w W H n a) := by
  rcases Nat.eq_zero_or_pos n with rfl | h0
  · exact (twin_none W H A c w).mono fun e w' ⟨k, he, hb⟩ => ⟨_, _, he, Holds.none_, hb⟩
  · exact (twin_some W H A n c a w hn h0 ha).mono fun e w' ⟨k, d, he, hk, hr, hb⟩ => ⟨_, _, he, hr.holds hr.lt, hb⟩
theorem igreat_any (W H : Int) (A : Option Addr) (n c : Nat) (w : World) : Calls Try.prog 21 #[.agg #[.int .i64 W, .int .i64 H, .slice A n c]] w fun e w' => e = .returned (.bool (decide (4200 < n))) ∧ Below w.heap.size w w' := by
  by_cases h : 4200 < n
  · have HR := Lib.hid (decide_eq_true h)
    have y : (4200 : Int) < (n : Int) := by omega
    clear h
    go_enter Try.func21, Try.ntmps21
    go_wp2
    go_ret
    exact ⟨by rw [HR.out]; rfl, (Below.refl _ _).alloc (Nat.le_refl _) _⟩
  · have HR := Lib.hid (decide_eq_false h)
    have y : ¬ (4200 : Int) < (n : Int) := by omega
    clear h
    go_enter Try.func21, Try.ntmps21
    go_wp2
    go_ret
    exact ⟨by rw [HR.out]; rfl, (Below.refl _ _).alloc (Nat.le_refl _) _⟩
theorem ggreat_any (W H : Int) (A : Option Addr) (n c : Nat) (w : World) : Calls Try.prog 11 #[.agg #[.int .i64 W, .int .i64 H, .slice A n c]] w fun e w' => e = .returned (.bool (decide (4200 < n))) ∧ Below w.heap.size w w' := by
  by_cases h : 4200 < n
  · have HR := Lib.hid (decide_eq_true h)
    have y : (4200 : Int) < (n : Int) := by omega
    clear h
    go_enter Try.func11, Try.ntmps11
    go_wp2
    go_ret
    exact ⟨by rw [HR.out]; rfl, (Below.refl _ _).alloc (Nat.le_refl _) _⟩
  · have HR := Lib.hid (decide_eq_false h)
    have y : ¬ (4200 : Int) < (n : Int) := by omega
    clear h
    go_enter Try.func11, Try.ntmps11
    go_wp2
    go_ret
    exact ⟨by rw [HR.out]; rfl, (Below.refl _ _).alloc (Nat.le_refl _) _⟩
set_option maxHeartbeats 800000 in
theorem requal_s1 (B C : Option Addr) (m d k e : Nat) (a b : Nat → Int) (w : World) (F : Nat → Bool) (hm1 : m ≤ 5000) (hk1 : k ≤ 5000) (ha : L2.Holds w w.heap.size B m a) (hb1 : L2.Holds w w.heap.size C k b) (h1 : m < 1) : Calls Try.prog 18 #[.slice B m d, .slice C k e] w (RG w 0 0 0 F 26) := by
  have HA := Lib.hid (fun u (hb : Below w.heap.size w u) => rfine_any B m d a u (by omega) ((ha.below hb).more hb.size))
  have HB := Lib.hid (fun u (hb : Below w.heap.size w u) => rfine_any C k e b u (by omega) ((hb1.below hb).more hb.size))
  clear ha hb1 HA HB
  have z1 : (m : Int) < 1 := by omega
  have LB0 := Lib.hid (Below.refl w.heap.size w)
  have R0 := Box.new w 0 0 (.slice none 0 0)
  have R0 := Lib.hid R0
  have LB0 := Lib.hid (LB0.out.alloc LB0.out.size (.cells #[.int .i64 0, .int .i64 0, .slice none 0 0] 24))
  go_enter Try.func18, Try.ntmps18
  go_upto_region 1 with (fail)
  generalize w.alloc (.cells #[.int .i64 0, .int .i64 0, .slice none 0 0] 24) = w0 at *
  obtain ⟨s0, s1, s2, s3, s4, s5, s6⟩ := R0.out.all
  go_wp2
  refine bodyPost_ret (v := .tuple #[.agg #[.int .i64 0, .int .i64 0, .slice none 0 0], .int .i64 26]) (by simp [results, Try.results18, go_sem, s0, s1, s2, s3, s4, s5]) rfl ?_
  exact fin_ge _ (Nat.le_refl _) LB0.out
set_option maxHeartbeats 800000 in
theorem requal_s2 (B C : Option Addr) (m d k e : Nat) (a b : Nat → Int) (w : World) (F : Nat → Bool) (hm1 : m ≤ 5000) (hk1 : k ≤ 5000) (ha : L2.Holds w w.heap.size B m a) (hb1 : L2.Holds w w.heap.size C k b) (h1 : ¬ m < 1) (h2 : 64 < m) : Calls Try.prog 18 #[.slice B m d, .slice C k e] w (RG w 0 0 0 F 26) := by
  have HA := Lib.hid (fun u (hb : Below w.heap.size w u) => rfine_any B m d a u (by omega) ((ha.below hb).more hb.size))
  have HB := Lib.hid (fun u (hb : Below w.heap.size w u) => rfine_any C k e b u (by omega) ((hb1.below hb).more hb.size))
  clear ha hb1 HA HB
  have z1 : ¬ (m : Int) < 1 := by omega
  have z2 : (64 : Int) < (m : Int) := by omega
  have LB0 := Lib.hid (Below.refl w.heap.size w)
  have R0 := Box.new w 0 0 (.slice none 0 0)
  have R0 := Lib.hid R0
  have LB0 := Lib.hid (LB0.out.alloc LB0.out.size (.cells #[.int .i64 0, .int .i64 0, .slice none 0 0] 24))
  go_enter Try.func18, Try.ntmps18
  go_upto_region 1 with (fail)
  generalize w.alloc (.cells #[.int .i64 0, .int .i64 0, .slice none 0 0] 24) = w0 at *
  obtain ⟨s0, s1, s2, s3, s4, s5, s6⟩ := R0.out.all
  go_wp2
  refine bodyPost_ret (v := .tuple #[.agg #[.int .i64 0, .int .i64 0, .slice none 0 0], .int .i64 26]) (by simp [results, Try.results18, go_sem, s0, s1, s2, s3, s4, s5]) rfl ?_
  exact fin_ge _ (Nat.le_refl _) LB0.out
set_option maxHeartbeats 800000 in
theorem requal_s3 (B C : Option Addr) (m d k e : Nat) (a b : Nat → Int) (w : World) (F : Nat → Bool) (hm1 : m ≤ 5000) (hk1 : k ≤ 5000) (ha : L2.Holds w w.heap.size B m a) (hb1 : L2.Holds w w.heap.size C k b) (h1 : ¬ m < 1) (h2 : ¬ 64 < m) (h3 : k < 1) : Calls Try.prog 18 #[.slice B m d, .slice C k e] w (RG w 0 0 0 F 26) := by
  have HA := Lib.hid (fun u (hb : Below w.heap.size w u) => rfine_any B m d a u (by omega) ((ha.below hb).more hb.size))
  have HB := Lib.hid (fun u (hb : Below w.heap.size w u) => rfine_any C k e b u (by omega) ((hb1.below hb).more hb.size))
  clear ha hb1 HA HB
  have z1 : ¬ (m : Int) < 1 := by omega
  have z2 : ¬ (64 : Int) < (m : Int) := by omega
  have z3 : (k : Int) < 1 := by omega
  have LB0 := Lib.hid (Below.refl w.heap.size w)
  have R0 := Box.new w 0 0 (.slice none 0 0)
  have R0 := Lib.hid R0
  have LB0 := Lib.hid (LB0.out.alloc LB0.out.size (.cells #[.int .i64 0, .int .i64 0, .slice none 0 0] 24))
  go_enter Try.func18, Try.ntmps18
  go_upto_region 1 with (fail)
  generalize w.alloc (.cells #[.int .i64 0, .int .i64 0, .slice none 0 0] 24) = w0 at *
  obtain ⟨s0, s1, s2, s3, s4, s5, s6⟩ := R0.out.all
  go_wp2
  refine bodyPost_ret (v := .tuple #[.agg #[.int .i64 0, .int .i64 0, .slice none 0 0], .int .i64 26]) (by simp [results, Try.results18, go_sem, s0, s1, s2, s3, s4, s5]) rfl ?_
  exact fin_ge _ (Nat.le_refl _) LB0.out
set_option maxHeartbeats 800000 in
theorem requal_s4 (B C : Option Addr) (m d k e : Nat) (a b : Nat → Int) (w : World) (F : Nat → Bool) (hm1 : m ≤ 5000) (hk1 : k ≤ 5000) (ha : L2.Holds w w.heap.size B m a) (hb1 : L2.Holds w w.heap.size C k b) (h1 : ¬ m < 1) (h2 : ¬ 64 < m) (h3 : ¬ k < 1) (h4 : 64 < k) : Calls Try.prog 18 #[.slice B m d, .slice C k e] w (RG w 0 0 0 F 26) := by
  have HA := Lib.hid (fun u (hb : Below w.heap.size w u) => rfine_any B m d a u (by omega) ((ha.below hb).more hb.size))
  have HB := Lib.hid (fun u (hb : Below w.heap.size w u) => rfine_any C k e b u (by omega) ((hb1.below hb).more hb.size))
  clear ha hb1 HA HB
  have z1 : ¬ (m : Int) < 1 := by omega
  have z2 : ¬ (64 : Int) < (m : Int) := by omega
  have z3 : ¬ (k : Int) < 1 := by omega
  have z4 : (64 : Int) < (k : Int) := by omega
  have LB0 := Lib.hid (Below.refl w.heap.size w)
  have R0 := Box.new w 0 0 (.slice none 0 0)
  have R0 := Lib.hid R0
  have LB0 := Lib.hid (LB0.out.alloc LB0.out.size (.cells #[.int .i64 0, .int .i64 0, .slice none 0 0] 24))
  go_enter Try.func18, Try.ntmps18
  go_upto_region 1 with (fail)
  generalize w.alloc (.cells #[.int .i64 0, .int .i64 0, .slice none 0 0] 24) = w0 at *
  obtain ⟨s0, s1, s2, s3, s4, s5, s6⟩ := R0.out.all
  go_wp2
  refine bodyPost_ret (v := .tuple #[.agg #[.int .i64 0, .int .i64 0, .slice none 0 0], .int .i64 26]) (by simp [results, Try.results18, go_sem, s0, s1, s2, s3, s4, s5]) rfl ?_
  exact fin_ge _ (Nat.le_refl _) LB0.out
set_option maxHeartbeats 800000 in
theorem requal_b1 (B C : Option Addr) (m d k e : Nat) (a b : Nat → Int) (w : World) (F : Nat → Bool) (hm1 : m ≤ 5000) (hk1 : k ≤ 5000) (ha : L2.Holds w w.heap.size B m a) (hb1 : L2.Holds w w.heap.size C k b) (h1 : ¬ m < 1) (h2 : ¬ 64 < m) (h3 : ¬ k < 1) (h4 : ¬ 64 < k) (h5 : fine m a = false) : Calls Try.prog 18 #[.slice B m d, .slice C k e] w (RG w 0 0 0 F 8) := by
  have HA := Lib.hid (fun u (hb : Below w.heap.size w u) => rfine_any B m d a u (by omega) ((ha.below hb).more hb.size))
  have HB := Lib.hid (fun u (hb : Below w.heap.size w u) => rfine_any C k e b u (by omega) ((hb1.below hb).more hb.size))
  rw [h5] at HA
  clear HB
  have z1 : ¬ (m : Int) < 1 := by omega
  have z2 : ¬ (64 : Int) < (m : Int) := by omega
  have z3 : ¬ (k : Int) < 1 := by omega
  have z4 : ¬ (64 : Int) < (k : Int) := by omega
  clear ha hb1
  
  have LB0 := Lib.hid (Below.refl w.heap.size w)
  have R0 := Box.new w 0 0 (.slice none 0 0)
  have R0 := Lib.hid R0
  have LB0 := Lib.hid (LB0.out.alloc LB0.out.size (.cells #[.int .i64 0, .int .i64 0, .slice none 0 0] 24))
  go_enter Try.func18, Try.ntmps18
  go_upto_region 1 with (fail)
  generalize w.alloc (.cells #[.int .i64 0, .int .i64 0, .slice none 0 0] 24) = w0 at *
  go_wp2_with fail
  with_reducible refine Calls.mono (HA.out _ LB0.out) ?_
  rintro e w1 ⟨rfl, hb⟩
  have LB1 := Lib.hid (LB0.out.trans (hb.mono LB0.out.size))
  have R0 := Lib.hid (R0.out.below hb R0.out.lt)
  clear hb LB0 
  obtain ⟨s0, s1, s2, s3, s4, s5, s6⟩ := R0.out.all
  go_wp2
  refine bodyPost_ret (v := .tuple #[.agg #[.int .i64 0, .int .i64 0, .slice none 0 0], .int .i64 8]) (by simp [results, Try.results18, go_sem, s0, s1, s2, s3, s4, s5]) rfl ?_
  exact fin_ge _ (Nat.le_refl _) LB1.out
set_option maxHeartbeats 800000 in
theorem requal_b2 (B C : Option Addr) (m d k e : Nat) (a b : Nat → Int) (w : World) (F : Nat → Bool) (hm1 : m ≤ 5000) (hk1 : k ≤ 5000) (ha : L2.Holds w w.heap.size B m a) (hb1 : L2.Holds w w.heap.size C k b) (h1 : ¬ m < 1) (h2 : ¬ 64 < m) (h3 : ¬ k < 1) (h4 : ¬ 64 < k) (h5 : fine m a = true) (h6 : fine k b = false) : Calls Try.prog 18 #[.slice B m d, .slice C k e] w (RG w 0 0 0 F 8) := by
  have HA := Lib.hid (fun u (hb : Below w.heap.size w u) => rfine_any B m d a u (by omega) ((ha.below hb).more hb.size))
  have HB := Lib.hid (fun u (hb : Below w.heap.size w u) => rfine_any C k e b u (by omega) ((hb1.below hb).more hb.size))
  rw [h5] at HA
  rw [h6] at HB
  have z1 : ¬ (m : Int) < 1 := by omega
  have z2 : ¬ (64 : Int) < (m : Int) := by omega
  have z3 : ¬ (k : Int) < 1 := by omega
  have z4 : ¬ (64 : Int) < (k : Int) := by omega
  clear ha hb1
  
  have LB0 := Lib.hid (Below.refl w.heap.size w)
  have R0 := Box.new w 0 0 (.slice none 0 0)
  have R0 := Lib.hid R0
  have LB0 := Lib.hid (LB0.out.alloc LB0.out.size (.cells #[.int .i64 0, .int .i64 0, .slice none 0 0] 24))
  go_enter Try.func18, Try.ntmps18
  go_upto_region 1 with (fail)
  generalize w.alloc (.cells #[.int .i64 0, .int .i64 0, .slice none 0 0] 24) = w0 at *
  go_wp2_with fail
  with_reducible refine Calls.mono (HA.out _ LB0.out) ?_
  rintro e w1 ⟨rfl, hb⟩
  have LB1 := Lib.hid (LB0.out.trans (hb.mono LB0.out.size))
  have R0 := Lib.hid (R0.out.below hb R0.out.lt)
  clear hb LB0 
  go_wp2_with fail
  with_reducible refine Calls.mono (HB.out _ LB1.out) ?_
  rintro e w2 ⟨rfl, hb⟩
  have LB2 := Lib.hid (LB1.out.trans (hb.mono LB1.out.size))
  have R0 := Lib.hid (R0.out.below hb R0.out.lt)
  clear hb LB1 
  obtain ⟨s0, s1, s2, s3, s4, s5, s6⟩ := R0.out.all
  go_wp2
  refine bodyPost_ret (v := .tuple #[.agg #[.int .i64 0, .int .i64 0, .slice none 0 0], .int .i64 8]) (by simp [results, Try.results18, go_sem, s0, s1, s2, s3, s4, s5]) rfl ?_
  exact fin_ge _ (Nat.le_refl _) LB2.out
theorem side_no {n : Nat} (h : n < 1 ∨ 64 < n) : side n = false := decide_eq_false fun q => by omega
theorem requal_err (B C : Option Addr) (m d k e : Nat) (a b : Nat → Int) (w : World) (F : Nat → Bool) (hm1 : m ≤ 5000) (hk1 : k ≤ 5000) (ha : L2.Holds w w.heap.size B m a) (hb1 : L2.Holds w w.heap.size C k b) {z : Int} (hz : eqE m k a b = z) (hne : z ≠ 0) : Calls Try.prog 18 #[.slice B m d, .slice C k e] w (RG w 0 0 0 F z) := by
  by_cases h1 : m < 1
  · rw [eqE_cnt (by simp [side_no (.inl h1)])] at hz; subst hz
    exact requal_s1 B C m d k e a b w F hm1 hk1 ha hb1 h1
  by_cases h2 : 64 < m
  · rw [eqE_cnt (by simp [side_no (.inr h2)])] at hz; subst hz
    exact requal_s2 B C m d k e a b w F hm1 hk1 ha hb1 h1 h2
  by_cases h3 : k < 1
  · rw [eqE_cnt (by simp [side_no (.inl h3)])] at hz; subst hz
    exact requal_s3 B C m d k e a b w F hm1 hk1 ha hb1 h1 h2 h3
  by_cases h4 : 64 < k
  · rw [eqE_cnt (by simp [side_no (.inr h4)])] at hz; subst hz
    exact requal_s4 B C m d k e a b w F hm1 hk1 ha hb1 h1 h2 h3 h4
  have hs : side (m : Nat) = true ∧ side (k : Nat) = true := ⟨side_nat (by omega) (by omega), side_nat (by omega) (by omega)⟩
  cases h5 : fine m a
  · rw [eqE_bad hs (by simp [h5])] at hz; subst hz
    exact requal_b1 B C m d k e a b w F hm1 hk1 ha hb1 h1 h2 h3 h4 h5
  cases h6 : fine k b
  · rw [eqE_bad hs (by simp [h6])] at hz; subst hz
    exact requal_b2 B C m d k e a b w F hm1 hk1 ha hb1 h1 h2 h3 h4 h5 h6
  rw [eqE_ok hs ⟨h5, h6⟩] at hz
  exact absurd hz.symm hne
set_option maxHeartbeats 3200000 in
theorem requal_ok (B C : Option Addr) (W d H e : Nat) (a b : Nat → Int) (w : World) (W0 : 1 ≤ W) (W1 : W ≤ 64) (H0 : 1 ≤ H) (H1 : H ≤ 64) (ha : L2.Holds w w.heap.size B W a) (hb1 : L2.Holds w w.heap.size C H b) (h3 : fine W a = true) (h4 : fine H b = true) :
    Calls Try.prog 18 #[.slice B W d, .slice C H e] w (RG w (W : Nat) (H : Nat) (W * H) (eqF W a b) 0) := by
  have HA := Lib.hid (fun u (hb : Below w.heap.size w u) => rfine_any B W d a u (by omega) ((ha.below hb).more hb.size))
  have HB := Lib.hid (fun u (hb : Below w.heap.size w u) => rfine_any C H e b u (by omega) ((hb1.below hb).more hb.size))
  rw [h3] at HA
  rw [h4] at HB
  have Ha := Lib.hid ha
  have Hb := Lib.hid hb1
  have z1 : ¬ (W : Int) < 1 := by omega
  have z2 : ¬ (64 : Int) < (W : Int) := by omega
  have z3 : ¬ (H : Int) < 1 := by omega
  have z4 : ¬ (64 : Int) < (H : Int) := by omega
  have HZ := Lib.hid (fun z => zero_int (W : Nat) (H : Nat) W H rfl rfl W1 H1 z)
  have HST := Lib.hid (fun z k c1 x y q (F : Nat → Bool) (hx : x < W) (hy : y < H) (hr : Row z k (W * H) F) => set_nat W H k c1 (x : Nat) (y : Nat) q F z hr W1 H1 x y rfl rfl hx hy)
  have HPA := Lib.hid (fun x y j (hx : x < W) (hj : j < W * H) => plain_at (W := W) (H := H) (x := x) (y := y) (j := j) hx hj)
  have HDB := Lib.hid (fun j (hj : j < W * H) => div_bd (W := W) (H := H) hj)
  obtain ⟨G, hG⟩ : ∃ G : Nat → Nat → Bool, G = fun x y => a x == b y := ⟨_, rfl⟩
  have HG := Lib.hid (fun x y => show G x y = (a x == b y) by rw [hG])
  have HEND := Lib.hid (fun i (hi : i < W * H) => show G (i % W) (i / W) = eqF W a b i by rw [hG]; rfl)
  obtain ⟨F, hF⟩ : ∃ F, eqF W a b = F := ⟨_, rfl⟩
  rw [hF] at HEND ⊢
  clear ha hb1 h3 h4 hG hF
  obtain ⟨N, hNe⟩ : ∃ N, W * H = N := ⟨_, rfl⟩
  simp only [hNe] at HZ HST HPA HDB HEND ⊢
  clear hNe
  have LB0 := Lib.hid (Below.refl w.heap.size w)
  have R0 := Box.new w 0 0 (.slice none 0 0)
  have R0 := Lib.hid R0
  have LB0 := Lib.hid (LB0.out.alloc LB0.out.size (.cells #[.int .i64 0, .int .i64 0, .slice none 0 0] 24))
  go_enter Try.func18, Try.ntmps18
  go_upto_region 1 with (fail)
  generalize w.alloc (.cells #[.int .i64 0, .int .i64 0, .slice none 0 0] 24) = w0 at *
  go_wp2_with fail
  with_reducible refine Calls.mono (HA.out _ LB0.out) ?_
  rintro e w1 ⟨rfl, hb⟩
  have LB1 := Lib.hid (LB0.out.trans (hb.mono LB0.out.size))
  have R0 := Lib.hid (R0.out.below hb R0.out.lt)
  clear hb LB0 
  go_wp2_with fail
  with_reducible refine Calls.mono (HB.out _ LB1.out) ?_
  rintro e w2 ⟨rfl, hb⟩
  have LB2 := Lib.hid (LB1.out.trans (hb.mono LB1.out.size))
  have R0 := Lib.hid (R0.out.below hb R0.out.lt)
  clear hb LB1 
  go_wp2_with fail
  with_reducible refine Calls.mono (HZ.out _) ?_
  rintro e w3 ⟨kb, rfl, hk, hrow, hb⟩
  have hkw : w.heap.size ≤ kb := Nat.le_trans LB2.out.size hk
  have LB3 := Lib.hid (LB2.out.trans (hb.mono LB2.out.size))
  have R0 := Lib.hid (R0.out.below hb R0.out.lt)
  have RK := Lib.hid hrow
  clear hb hrow hk LB2
  have hb := ((Below.refl w3.heap.size w3).alloc (by simp; try omega) (.cells #[.int .i64 (W : Nat), .int .i64 (H : Nat), .slice (some ⟨kb, 0, none⟩) N N] 24))
  have LB4 := Lib.hid (LB3.out.trans (hb.mono LB3.out.size))
  have R0 := Lib.hid (R0.out.below hb R0.out.lt)
  have RK := Lib.hid (RK.out.below hb RK.out.lt)
  have XO := Box.new w3 (W : Nat) (H : Nat) (.slice (some ⟨kb, 0, none⟩) N N)
  have XO := Lib.hid XO
  clear hb LB3
  go_upto_region 6 with (fail)
  obtain ⟨ob, hob⟩ : ∃ z, w3.heap.size = z := ⟨_, rfl⟩
  rw [hob] at XO
  try rw [hob]
  clear hob
  generalize w3.alloc (.cells #[.int .i64 (W : Nat), .int .i64 (H : Nat), .slice (some ⟨kb, 0, none⟩) N N] 24) = w4 at *
  clear HA HB
  have n4 : ob ≠ kb := fun h => RK.out.ne_box XO.out h.symm
  have n5 : w.heap.size ≠ kb := fun h => RK.out.ne_box R0.out h.symm
  have hw4 := LB4.out.size
  have HA4 := Lib.hid (Ha.out.below LB4.out)
  have HB4 := Lib.hid (Hb.out.below LB4.out)
  clear Ha Hb
  have HK := Lib.hid (fun (z : World) (h : But kb w4 z) => (show z.cell? ⟨ob, 0, none⟩ = some (.int .i64 (W : Nat)) ∧ z.cell? ⟨ob, 1, none⟩ = some (.int .i64 (H : Nat)) ∧ z.cell? ⟨ob, 2, none⟩ = some (.slice (some ⟨kb, 0, none⟩) N N) ∧ z.frozen? ⟨ob, 0, none⟩ = false ∧ z.frozen? ⟨ob, 1, none⟩ = false ∧ z.frozen? ⟨ob, 2, none⟩ = false from ⟨(h.box XO.out n4).c0, (h.box XO.out n4).c1, (h.box XO.out n4).c2, (h.box XO.out n4).free 0, (h.box XO.out n4).free 1, (h.box XO.out n4).free 2⟩))
  obtain ⟨s0, s1, s2, s3, s4, s5⟩ := HK.out _ (But.of (Below.refl _ _))
  go_wp2
  clear s0 s1 s2 s3 s4 s5
  go_loopw [7] (fun i wr => ∃ x : Nat, x ≤ W ∧ i = .int .i64 x ∧ Hid (Row wr kb N (cp (fun i => i % W) (fun i => i / W) G x 0)) ∧ Hid (But kb w4 wr)) (fun i _ => W - (intOf i).toNat)
  case atStart => exact ⟨0, Nat.zero_le _, rfl, Lib.hid (by rw [cp_zero]; exact RK.out), Lib.hid (But.of (Below.refl _ _))⟩
  case round =>
    obtain ⟨x, hx, rfl, HR, HU⟩ := hrel
    obtain ⟨s0, s1, s2, s3, s4, s5⟩ := HK.out _ HU.out
    by_cases hlt : x < W
    · have y1 : (x : Int) < (W : Int) := by omega
      have y2 : (0 : Int) ≤ (x : Int) := by omega
      go_wp2
      clear s0 s1 s2 s3 s4 s5
      go_loopw [8] (fun i wr => ∃ y : Nat, y ≤ H ∧ i = .int .i64 y ∧ Hid (Row wr kb N (cp (fun i => i % W) (fun i => i / W) G x y)) ∧ Hid (But kb w4 wr)) (fun i _ => H - (intOf i).toNat)
      case atStart => exact ⟨0, Nat.zero_le _, rfl, HR, HU⟩
      case round =>
        obtain ⟨y, hy, rfl, HR2, HU2⟩ := hrel
        clear HR HU
        obtain ⟨s0, s1, s2, s3, s4, s5⟩ := HK.out _ HU2.out
        by_cases hly : y < H
        · have y3 : (y : Int) < (H : Int) := by omega
          have y4 : (0 : Int) ≤ (y : Int) := by omega
          have HGx := Lib.hid (HG.out x y)
          have HSU := Lib.hid (fun j (hj : j < N) => cp_succ (ax := fun i => i % W) (ay := fun i => i / W) (G := G) (x := x) (y := y) (t := y * W + x) (j := j) (HPA.out x y j hlt hj))
          obtain ⟨ba, oa, ea, la, ca⟩ := (HU2.out.iholds HA4.out hkw hw4) (by omega)
          obtain ⟨bb, ob2, eb, lb, cb⟩ := (HU2.out.iholds HB4.out hkw hw4) (by omega)
          have c0 := ca x hlt
          have c1 := cb y hly
          clear ca cb
          subst ea eb
          obtain ⟨av, hav⟩ : ∃ z, a x = z := ⟨_, rfl⟩
          obtain ⟨bv, hbv⟩ : ∃ z, b y = z := ⟨_, rfl⟩
          rw [hav] at c0 HGx
          rw [hbv] at c1 HGx
          clear hav hbv
          obtain ⟨q, hq⟩ : ∃ z, (av == bv) = z := ⟨_, rfl⟩
          rw [hq] at HGx
          go_wp2
          go_region_law (first
            | (go_simp
               with_reducible refine Calls.mono (HST.out _ kb N x y q _ hlt hly HR2.out.drew) ?_
               rintro e wb ⟨rfl, hr, hb⟩
               have HRb := Lib.hid (hr.congr (f' := cp (fun i => i % W) (fun i => i / W) G x (y + 1)) (fun j hj => by rw [← HSU.out j hj, HGx.out]))
               have HUb := Lib.hid (HU2.out.trans ((But.of (Below.refl _ _).drew).trans hb))
               clear hr hb))
          all_goals
            clear s0 s1 s2 s3 s4 s5 c0 c1 hq
            go_wp2
            go_roundw
            case rel => exact ⟨y + 1, by omega, by go_num, HRb, HUb⟩
            case measure => simp [intOf]; omega
        · have e : y = H := by omega
          have y3 : ¬ (y : Int) < (H : Int) := by omega
          have R3 := Lib.hid (HR2.out.congr (f' := cp (fun i => i % W) (fun i => i / W) G (x + 1) 0) (fun j hj => by rw [e]; exact cp_next (HDB.out j hj)))
          clear e
          go_wp2
          go_roundw
          case rel => exact ⟨x + 1, by omega, by go_num, R3, HU2⟩
          case measure => simp [intOf]; omega
    · have e : x = W := by omega
      have y1 : ¬ (x : Int) < (W : Int) := by omega
      have R3 := Lib.hid (HR.out.congr (f' := F) (fun j hj => by rw [e]; exact (cp_all (ax := fun i => i % W) (ay := fun i => i / W) (G := G) (m := W) (j := j) (Nat.mod_lt _ W0)).trans (HEND.out j hj)))
      have R0r := Lib.hid (HU.out.box R0.out n5)
      have LBr := Lib.hid (HU.out.below LB4.out hkw)
      clear e HR
      obtain ⟨v0, v1, v2, v3, v4, v5, v6⟩ := R0r.out.all
      go_wp2
      refine bodyPost_ret (v := .tuple #[.agg #[.int .i64 (W : Nat), .int .i64 (H : Nat), .slice (some ⟨kb, 0, none⟩) N N], .int .i64 0]) (by simp [results, Try.results18, go_sem, v0, v1, v2, v3, v4, v5]) rfl ?_
      exact fin_gm (Nat.le_refl _) n5.symm R3.out LBr.out
end Go.Proofs.Ytppepcijpdamhaa
