/- The statement FactorNames: its drafts, and its calls one by one. -/
import Derived.Test.YtbafhdinalapoaaDoorFss
import Derived.Test.YtbafhdinalapoaaDoorTwn
namespace Go.Proofs.YtbafhdinalapoaaDoor
open Go.RowKit
set_option linter.unusedVariables false
set_option linter.unusedSimpArgs false
set_option maxRecDepth 100000

open L2 (nd ren Cons mt mxs plc)
set_option maxHeartbeats 3200000 in
theorem rtwin_rows (D : Dr) (hs : D.Small) (g1 : 0 < D.n) (g2 : 0 < D.m) (g3 : 0 < D.k) (w : World) (hd : D.In w w.heap.size) :
    Calls Tryd.prog 14 #[.agg #[.int .i64 D.S, .int .i64 D.T, .slice D.A D.n D.c, .slice D.B D.m D.d, .int .i64 D.W, .int .i64 D.H, .slice D.C D.k D.e]] w fun e w' => ∃ a c b d k e', e = .returned (.agg #[.int .i64 D.S, .int .i64 D.T, .slice (some ⟨a, 0, none⟩) D.n c, .slice (some ⟨b, 0, none⟩) D.m d, .int .i64 D.W, .int .i64 D.H, .slice (some ⟨k, 0, none⟩) D.k e']) ∧ L2.Row w' a D.n D.f ∧ L2.Row w' b D.m D.g ∧ Row w' k D.k D.b ∧ w.heap.size ≤ k ∧ Below w.heap.size w w' := by
  have HD := Lib.hid hd
  obtain ⟨s0, s1, s2⟩ := hs
  obtain ⟨S, T, A, n, c, B, m, d, W, H, C, kk, e', f, g, b⟩ := D
  dsimp only at *
  have X1 := Lib.hid ((DBox.new w ⟨S, T, A, n, c, B, m, d, W, H, C, kk, e', f, g, b⟩).alloc (.cells #[.int .i64 0, .int .i64 0, .slice none 0 0, .slice none 0 0, .int .i64 0, .int .i64 0, .slice none 0 0] 27))
  have X2 := Lib.hid (DBox.new (w.alloc (.cells #[.int .i64 S, .int .i64 T, .slice A n c, .slice B m d, .int .i64 W, .int .i64 H, .slice C kk e'] 27)) Dr.zero)
  have L0 := Lib.hid (show Below w.heap.size w ((w.alloc (.cells #[.int .i64 S, .int .i64 T, .slice A n c, .slice B m d, .int .i64 W, .int .i64 H, .slice C kk e'] 27)).alloc (.cells #[.int .i64 0, .int .i64 0, .slice none 0 0, .slice none 0 0, .int .i64 0, .int .i64 0, .slice none 0 0] 27)) from ((Below.refl _ _).alloc (Nat.le_refl _) _).alloc (by simp) _)
  have hsz : ((w.alloc (.cells #[.int .i64 S, .int .i64 T, .slice A n c, .slice B m d, .int .i64 W, .int .i64 H, .slice C kk e'] 27)).alloc (.cells #[.int .i64 0, .int .i64 0, .slice none 0 0, .slice none 0 0, .int .i64 0, .int .i64 0, .slice none 0 0] 27)).heap.size = w.heap.size + 2 := by simp
  simp only [World.size_alloc] at X2
  clear hd
  go_enter Tryd.func14, Tryd.ntmps14
  go_wp2
  have X2' : Hid (DBox ((w.alloc (.cells #[.int .i64 S, .int .i64 T, .slice A n c, .slice B m d, .int .i64 W, .int .i64 H, .slice C kk e'] 27)).alloc (.cells #[.int .i64 0, .int .i64 0, .slice none 0 0, .slice none 0 0, .int .i64 0, .int .i64 0, .slice none 0 0] 27)) (w.heap.size + 1) Dr.zero) := X2
  clear X2
  generalize (w.alloc (.cells #[.int .i64 S, .int .i64 T, .slice A n c, .slice B m d, .int .i64 W, .int .i64 H, .slice C kk e'] 27)).alloc (.cells #[.int .i64 0, .int .i64 0, .slice none 0 0, .slice none 0 0, .int .i64 0, .int .i64 0, .slice none 0 0] 27) = W2 at *
  have HS : Hid (∀ w', Below (w.heap.size + 1) W2 w' → w'.cell? ⟨w.heap.size, 0, none⟩ = some (.int .i64 S) ∧ w'.cell? ⟨w.heap.size, 1, none⟩ = some (.int .i64 T) ∧ w'.cell? ⟨w.heap.size, 2, none⟩ = some (.slice A n c) ∧ w'.cell? ⟨w.heap.size, 3, none⟩ = some (.slice B m d) ∧ w'.cell? ⟨w.heap.size, 4, none⟩ = some (.int .i64 W) ∧ w'.cell? ⟨w.heap.size, 5, none⟩ = some (.int .i64 H) ∧ w'.cell? ⟨w.heap.size, 6, none⟩ = some (.slice C kk e')) := Lib.hid (fun w' h => by
    have y1 := (X1.out.below h (by omega)).all
    exact ⟨y1.1, y1.2.1, y1.2.2.1, y1.2.2.2.1, y1.2.2.2.2.1, y1.2.2.2.2.2.1, y1.2.2.2.2.2.2.1⟩)
  have HN := Lib.hid (fun v (h : Below W2.heap.size W2 v) => (HD.out.below (L0.out.trans (h.mono L0.out.size))))
  have hM : w.heap.size + 1 ≤ W2.heap.size := by omega
  have hbx : Below W2.heap.size W2 W2.drew := (Below.refl _ _).drew
  have hSu := HS.out _ (hbx.mono hM)
  have hb1 : Below W2.heap.size W2 (W2.alloc (.cells #[] 3)).drew := ((Below.refl _ _).alloc (Nat.le_refl _) _).drew
  have hb2 : Below W2.heap.size W2 ((W2.alloc (.cells #[] 3)).alloc (.cells #[] 3)).drew := (((Below.refl _ _).alloc (Nat.le_refl _) _).alloc (by simp) _).drew
  have hSv := HS.out _ (hb1.mono hM)
  have hSw := HS.out _ (hb2.mono hM)
  go_region_held3 (fun w' => w'.cell? ⟨w.heap.size, 0, none⟩ = some (.int .i64 S) ∧ w'.cell? ⟨w.heap.size, 1, none⟩ = some (.int .i64 T) ∧ w'.cell? ⟨w.heap.size, 2, none⟩ = some (.slice A n c) ∧ w'.cell? ⟨w.heap.size, 3, none⟩ = some (.slice B m d) ∧ w'.cell? ⟨w.heap.size, 4, none⟩ = some (.int .i64 W) ∧ w'.cell? ⟨w.heap.size, 5, none⟩ = some (.int .i64 H) ∧ w'.cell? ⟨w.heap.size, 6, none⟩ = some (.slice C kk e'))
    (first
      | with_reducible exact hSu
      | with_reducible exact hSv
      | with_reducible exact hSw
      | (have hm : Below (w.heap.size + 1) W2 _ := hbx.mono hM
         exact HS.out _ (set7_keep (r := w.heap.size + 1) (Nat.le_refl _) hm)))
    (first
      | (refine step_cat rfl (.tmp 7) (.tmp 9) rfl _ rfl rfl (HN.out _ ?_).th (by omega) ?_
         first | with_reducible exact hb1 | with_reducible exact hb2
         intro ka ca u1 hra hbu
         have hka : 0 < n → W2.heap.size ≤ ka := fun h => Nat.le_trans (by first | with_reducible exact hb1.size | with_reducible exact hb2.size) (hra h).2
         have hra : 0 < n → L2.Row u1 ka n f := fun h => (hra h).1
         have hbx : Below W2.heap.size W2 u1 := (by first | with_reducible exact hb1.trans (hbu.mono hb1.size) | with_reducible exact hb2.trans (hbu.mono hb2.size))
         have hSu := HS.out _ (hbx.mono hM)
         have hSv := HS.out (u1.alloc (.cells #[] 3)) ((hbx.mono hM).alloc (Nat.le_trans hM hbx.size) _))
      | (refine step_cat rfl (.tmp 11) (.tmp 13) rfl _ rfl rfl (HN.out _ ?_).tr (by omega) ?_
         first | with_reducible exact hbx | with_reducible exact hbx.alloc hbx.size _
         intro kb cb u2 hrb hbu
         have hkb : 0 < m → W2.heap.size ≤ kb := fun h => Nat.le_trans (by first | with_reducible exact hbx.size | exact Nat.le_trans hbx.size (by simp)) (hrb h).2
         have hrb : 0 < m → L2.Row u2 kb m g := fun h => (hrb h).1
         have hra : 0 < n → L2.Row u2 ka n f := (by first | with_reducible exact fun h => (hra h).below hbu (hra h).lt | exact fun h => ((hra h).alloc _).below hbu ((hra h).alloc _).lt)
         have hbx : Below W2.heap.size W2 u2 := (by first | with_reducible exact hbx.trans (hbu.mono hbx.size) | exact (hbx.alloc hbx.size _).trans (hbu.mono (Nat.le_trans hbx.size (by simp))))
         have hSu := HS.out _ (hbx.mono hM))
      | (go_at_call 19
         refine (twin_any W H C kk e' b _ (by omega) (((HN.out _ hbx).ti).more (by have := hbx.size; omega))).mono ?_
         rintro e u3 ⟨C', d', rfl, hrc, hbu⟩
         have hrc : 0 < kk → ∃ k, C' = some ⟨k, 0, none⟩ ∧ W2.heap.size ≤ k ∧ Row u3 k kk b := fun h => (hrc h).imp fun k ⟨h1, h2, h3⟩ => ⟨h1, Nat.le_trans hbx.size h2, h3⟩
         have hra : 0 < n → L2.Row u3 ka n f := fun h => (hra h).below hbu (hra h).lt
         have hrb : 0 < m → L2.Row u3 kb m g := fun h => (hrb h).below hbu (hrb h).lt
         have hbx : Below W2.heap.size W2 u3 := hbx.trans (hbu.mono hbx.size)
         have hSu := HS.out _ (hbx.mono hM)
         obtain ⟨z0, z1, z2, z3, z4, z5, z6⟩ := (X2'.out.next hbx).frees
         have tt := (X2'.out.next hbx).all
         simp only [Dr.zero] at tt
         obtain ⟨t0, t1, t2, t3, t4, t5, t6, t7⟩ := tt))
  all_goals
    have HA := Lib.hid hra
    have HB := Lib.hid hrb
    have HCC := Lib.hid hrc
    obtain ⟨kc, rfl, hkc, hrc0⟩ := HCC.out g3
    have HR := Lib.hid hrc0
    clear hrc0
    have HL := Lib.hid (L0.out.trans (hbx.mono L0.out.size))
    have HX := Lib.hid hbx
    clear hra hrb hrc hbx hbu z0 z1 z2 z3 z4 z5 z6 t7 hSu
    go_wp2
    refine bodyPost_ret (v := .agg #[.int .i64 S, .int .i64 T, .slice (some ⟨ka, 0, none⟩) n ca, .slice (some ⟨kb, 0, none⟩) m cb, .int .i64 W, .int .i64 H, .slice (some ⟨kc, 0, none⟩) kk d']) (by simp [results, Tryd.results14, go_sem, t0, t1, t2, t3, t4, t5, t6]) rfl ⟨ka, ca, kb, cb, kc, d', rfl, ?_, ?_, ?_, ?_, ?_⟩
    · exact set7_irow (HA.out g1) (show ka ≠ w.heap.size + 1 by have := hka g1; omega)
    · exact set7_irow (HB.out g2) (show kb ≠ w.heap.size + 1 by have := hkb g2; omega)
    · exact set7_row HR.out (show kc ≠ w.heap.size + 1 by omega)
    · omega
    · exact set7_below (by omega) HL.out

/-- The cells of the first grid. -/
def nf (i : Nat) : Bool := i == 0 || i == 1 || i == 6 || i == 7 || i == 8 || i == 9
def np : PD := ⟨2, 2, 4, 3, fun i => if i < 2 then 0 else 1, fun i => if i = 1 then 1 else 0, fun t s => decide (t = s)⟩
def a10 : Nat → Int := at0 [1, 0]
def trn : PD := np.rnm a10 a10
def tw : PD := ⟨2, 1, 2, 1, fun i => i, fun _ => 0, fun _ _ => true⟩
def sp : PD := ⟨2, 1, 2, 1, fun _ => 0, fun _ => 0, fun _ _ => true⟩
def ot : PD := ⟨2, 2, 4, 3, fun i => if i < 2 then 0 else 1, fun i => if i = 1 then 1 else 0, fun t s => decide (t = 1 ∧ s = 1)⟩
theorem np_eqv : (ofp 4 3 nf).Eqv np := ⟨by decide, by decide, rfl, rfl, by decide, by decide, all2 (by decide)⟩
theorem np_ok : np.Ok := ⟨by decide, by decide, by decide, by decide, by decide, by decide, by decide, by decide, by decide, by decide⟩
theorem tw_ok : tw.Ok := ⟨by decide, by decide, by decide, by decide, by decide, by decide, by decide, by decide, by decide, by decide⟩
theorem sp_ok : sp.Ok := ⟨by decide, by decide, by decide, by decide, by decide, by decide, by decide, by decide, by decide, by decide⟩
theorem ot_ok : ot.Ok := ⟨by decide, by decide, by decide, by decide, by decide, by decide, by decide, by decide, by decide, by decide⟩
theorem np_all : np.All := (all_nd np_ok).2 ⟨by decide, by decide⟩
theorem tw_all : tw.All := (all_nd tw_ok).2 ⟨by decide, by decide⟩
theorem ot_all : ot.All := (all_nd ot_ok).2 ⟨by decide, by decide⟩
theorem sp_not : ¬ sp.All := fun h => absurd ((all_nd sp_ok).1 h) (by decide)
theorem p10 : prm 2 a10 2 = true := by decide
theorem trn_ok : trn.Ok := rnm_ok np_ok p10 p10
/-- A draft of two shafts and two treadles, four ends and three picks came back. -/
def NOut (P : PD) (w : World) (e : Ending) (w' : World) : Prop := ∃ a ca b cb c cc, e = .returned (.tuple #[.agg #[.int .i64 2, .int .i64 2, .slice (some ⟨a, 0, none⟩) 4 ca, .slice (some ⟨b, 0, none⟩) 3 cb, .int .i64 2, .int .i64 2, .slice (some ⟨c, 0, none⟩) 4 cc], .int .i64 0]) ∧ (P.dr a ca b cb c cc).In w' w'.heap.size ∧ Below w.heap.size w w'
theorem nm_of (k : Nat) (w : World) (hE : Env w) (hr : Row w k 12 nf) : Calls Tryd.prog 9 #[.agg #[.int .i64 4, .int .i64 3, .slice (some ⟨k, 0, none⟩) 12 12]] w (NOut np w) := by
  refine (of_ok 4 3 k 0 12 nf w hE (hr.holds hr.lt) (by omega) (by omega) (by omega) (by omega) (by omega) (by decide)).mono fun e w' ⟨a, ca, b, cb, c, cc, he, hrw, hb⟩ => ⟨a, ca, b, cb, c, cc, ?_, (hrw.eqv np_eqv).dr ca cb cc, hb⟩
  rw [he]
  have e1' : (ofp 4 3 nf).T = 2 := by decide
  have e2' : (ofp 4 3 nf).S = 2 := by decide
  rw [e1', e2']
  rfl
theorem parse_n1 (w : World) : Calls Tryd.prog 37 #[.string ⟨#[120, 120, 46, 46, 10, 46, 46, 120, 120, 10, 120, 120, 46, 46, 10]⟩] w (POut w 4 3 12 nf) := by
  refine (parse_ok ⟨#[120, 120, 46, 46, 10, 46, 46, 120, 120, 10, 120, 120, 46, 46, 10]⟩ 4 3 w (by decide) (by omega) (by omega) (by omega) (by omega) (by decide) ⟨by decide, ?_⟩ (fun W' => ?_)).mono fun e w' ⟨k, he, hk, hr, hb⟩ => ⟨k, he, hk, hr.congr ?_, hb⟩
  · have key : ∀ i (h : i < 15), okAt ⟨#[120, 120, 46, 46, 10, 46, 46, 120, 120, 10, 120, 120, 46, 46, 10]⟩ 4 i h := by unfold okAt; decide +kernel
    exact key
  · exact (Tryd.strings_IndexByte _ 10 W').mono fun e w' h => by
      refine ⟨?_, h.2⟩
      rw [h.1]
      rfl
  · decide
theorem two_lit (w : World) (l m : List Int) : L2.Row ((w.alloc (.cells (l.map (Value.int .i64)).toArray 3)).alloc (.cells (m.map (Value.int .i64)).toArray 3)) w.heap.size l.length (at0 l) ∧ L2.Row ((w.alloc (.cells (l.map (Value.int .i64)).toArray 3)).alloc (.cells (m.map (Value.int .i64)).toArray 3)) (w.heap.size + 1) m.length (at0 m) := by
  have h2 := irow_lit (w.alloc (.cells (l.map (Value.int .i64)).toArray 3)) m
  simp only [World.size_alloc] at h2
  exact ⟨(irow_lit w l).alloc _, h2⟩
theorem two_below (w : World) (o p : Obj) : Below w.heap.size w ((w.alloc o).alloc p) := ((Below.refl _ _).alloc (Nat.le_refl _) _).alloc (by simp) _
theorem nm_ren (a ca b cb c cc : Nat) (w : World) (s t : Nat) (hs : s = w.heap.size) (ht : t = w.heap.size + 1) (hd : (np.dr a ca b cb c cc).In w w.heap.size) :
    Calls Tryd.prog 11 #[.agg #[.int .i64 2, .int .i64 2, .slice (some ⟨a, 0, none⟩) 4 ca, .slice (some ⟨b, 0, none⟩) 3 cb, .int .i64 2, .int .i64 2, .slice (some ⟨c, 0, none⟩) 4 cc], .slice (some ⟨s, 0, none⟩) 2 2, .slice (some ⟨t, 0, none⟩) 2 2] ((w.alloc (.cells #[.int .i64 1, .int .i64 0] 3)).alloc (.cells #[.int .i64 1, .int .i64 0] 3)) (NOut trn w) := by
  subst hs ht
  obtain ⟨h1, h2⟩ := two_lit w [1, 0] [1, 0]
  have hb := two_below w (.cells #[.int .i64 1, .int .i64 0] 3) (.cells #[.int .i64 1, .int .i64 0] 3)
  refine (renumber_ok (PD.dr_is np a ca b cb c cc) np_ok (some ⟨w.heap.size, 0, none⟩) (some ⟨w.heap.size + 1, 0, none⟩) 2 2 2 2 a10 a10 p10 p10 ((w.alloc (.cells #[.int .i64 1, .int .i64 0] 3)).alloc (.cells #[.int .i64 1, .int .i64 0] 3)) (hd.next hb) (L2.Row.holds h1 h1.lt) (L2.Row.holds h2 h2.lt)).mono fun e w' ⟨a, ca, b, cb, c, cc, he, hrw, hb2⟩ => ⟨a, ca, b, cb, c, cc, ?_, hrw.dr ca cb cc, hb.trans (hb2.mono hb.size)⟩
  rw [he]
  rfl
theorem M3.congr {w w' : World} {l1 : Nat} {F1 G1 : Nat → Int} {l2 : Nat} {F2 G2 : Nat → Int} {err : Int} {e : Ending} (h : M3 w l1 F1 l2 F2 err e w') (h1 : ∀ i, i < l1 → F1 i = G1 i) (h2 : ∀ i, i < l2 → F2 i = G2 i) : M3 w l1 G1 l2 G2 err e w' := by
  obtain ⟨A1, c1, A2, c2, he, r1, r2, hb⟩ := h
  exact ⟨A1, c1, A2, c2, he, fun h => (r1 h).imp fun k ⟨p, q⟩ => ⟨p, q.congr h1⟩, fun h => (r2 h).imp fun k ⟨p, q⟩ => ⟨p, q.congr h2⟩, hb⟩
theorem nm_m1 (a ca b cb c cc : Nat) (x cx y cy z cz : Nat) (w : World) (hd : (np.dr a ca b cb c cc).In w w.heap.size) (he : (trn.dr x cx y cy z cz).In w w.heap.size) :
    Calls Tryd.prog 12 #[.agg #[.int .i64 2, .int .i64 2, .slice (some ⟨a, 0, none⟩) 4 ca, .slice (some ⟨b, 0, none⟩) 3 cb, .int .i64 2, .int .i64 2, .slice (some ⟨c, 0, none⟩) 4 cc], .agg #[.int .i64 2, .int .i64 2, .slice (some ⟨x, 0, none⟩) 4 cx, .slice (some ⟨y, 0, none⟩) 3 cy, .int .i64 2, .int .i64 2, .slice (some ⟨z, 0, none⟩) 4 cz]] w (M3 w 2 a10 2 a10 0) := by
  obtain ⟨m1, m2, m3, m4⟩ := rnm_mtc np_ok np_all p10 p10
  have h := (dm_case (PD.dr_is np a ca b cb c cc) (PD.dr_is trn x cx y cy z cz) np_ok trn_ok np_all m2).elim (fun h => h.2) (fun h => absurd m1 h.1)
  exact (h w hd he).mono fun e w' k => M3.congr k m3 m4
theorem nm_l1 (a ca b cb c cc : Nat) (w : World) (hd : (np.dr a ca b cb c cc).In w w.heap.size) : Calls Tryd.prog 13 #[.agg #[.int .i64 2, .int .i64 2, .slice (some ⟨a, 0, none⟩) 4 ca, .slice (some ⟨b, 0, none⟩) 3 cb, .int .i64 2, .int .i64 2, .slice (some ⟨c, 0, none⟩) 4 cc]] w (BOut w true 0) := by
  have h := fleast_ok (PD.dr_is np a ca b cb c cc) np_ok w hd
  rw [show np.lst = true by decide] at h
  exact h
theorem nm_l2 (a ca b cb c cc : Nat) (w : World) (hd : (tw.dr a ca b cb c cc).In w w.heap.size) : Calls Tryd.prog 13 #[.agg #[.int .i64 2, .int .i64 1, .slice (some ⟨a, 0, none⟩) 2 ca, .slice (some ⟨b, 0, none⟩) 1 cb, .int .i64 1, .int .i64 2, .slice (some ⟨c, 0, none⟩) 2 cc]] w (BOut w false 0) := by
  have h := fleast_ok (PD.dr_is tw a ca b cb c cc) tw_ok w hd
  rw [show tw.lst = false by decide] at h
  exact h
theorem nm_l3 (a ca b cb c cc : Nat) (w : World) (hd : (sp.dr a ca b cb c cc).In w w.heap.size) : Calls Tryd.prog 13 #[.agg #[.int .i64 2, .int .i64 1, .slice (some ⟨a, 0, none⟩) 2 ca, .slice (some ⟨b, 0, none⟩) 1 cb, .int .i64 1, .int .i64 2, .slice (some ⟨c, 0, none⟩) 2 cc]] w (BOut w false 0) := by
  have h := fleast_ok (PD.dr_is sp a ca b cb c cc) sp_ok w hd
  rw [show sp.lst = false by decide] at h
  exact h
theorem nm_m2 (a ca b cb c cc : Nat) (x cx y cy z cz : Nat) (w : World) (hd : (tw.dr a ca b cb c cc).In w w.heap.size) (he : (sp.dr x cx y cy z cz).In w w.heap.size) :
    Calls Tryd.prog 12 #[.agg #[.int .i64 2, .int .i64 1, .slice (some ⟨a, 0, none⟩) 2 ca, .slice (some ⟨b, 0, none⟩) 1 cb, .int .i64 1, .int .i64 2, .slice (some ⟨c, 0, none⟩) 2 cc], .agg #[.int .i64 2, .int .i64 1, .slice (some ⟨x, 0, none⟩) 2 cx, .slice (some ⟨y, 0, none⟩) 1 cy, .int .i64 1, .int .i64 2, .slice (some ⟨z, 0, none⟩) 2 cz]] w (M3 w 0 (fun _ => 0) 0 (fun _ => 0) 2) :=
  dm_un (PD.dr_is tw a ca b cb c cc) (PD.dr_is sp x cx y cy z cz) tw_ok sp_ok (fun h => sp_not h.2) _ _ w hd he
theorem nm_m3 (a ca b cb c cc : Nat) (x cx y cy z cz : Nat) (w : World) (hd : (np.dr a ca b cb c cc).In w w.heap.size) (he : (tw.dr x cx y cy z cz).In w w.heap.size) :
    Calls Tryd.prog 12 #[.agg #[.int .i64 2, .int .i64 2, .slice (some ⟨a, 0, none⟩) 4 ca, .slice (some ⟨b, 0, none⟩) 3 cb, .int .i64 2, .int .i64 2, .slice (some ⟨c, 0, none⟩) 4 cc], .agg #[.int .i64 2, .int .i64 1, .slice (some ⟨x, 0, none⟩) 2 cx, .slice (some ⟨y, 0, none⟩) 1 cy, .int .i64 1, .int .i64 2, .slice (some ⟨z, 0, none⟩) 2 cz]] w (M3 w 0 (fun _ => 0) 0 (fun _ => 0) 6) := by
  have h := (dm_case (PD.dr_is np a ca b cb c cc) (PD.dr_is tw x cx y cy z cz) np_ok tw_ok np_all tw_all).elim (fun h => absurd h.1.n (by decide)) (fun h => h.2)
  exact (h w hd he).mono fun e w' k => M3.congr k (fun i h => absurd h (by omega)) (fun i h => absurd h (by omega))
theorem nm_m4 (a ca b cb c cc : Nat) (x cx y cy z cz : Nat) (w : World) (hd : (np.dr a ca b cb c cc).In w w.heap.size) (he : (ot.dr x cx y cy z cz).In w w.heap.size) :
    Calls Tryd.prog 12 #[.agg #[.int .i64 2, .int .i64 2, .slice (some ⟨a, 0, none⟩) 4 ca, .slice (some ⟨b, 0, none⟩) 3 cb, .int .i64 2, .int .i64 2, .slice (some ⟨c, 0, none⟩) 4 cc], .agg #[.int .i64 2, .int .i64 2, .slice (some ⟨x, 0, none⟩) 4 cx, .slice (some ⟨y, 0, none⟩) 3 cy, .int .i64 2, .int .i64 2, .slice (some ⟨z, 0, none⟩) 4 cz]] w (M3 w 0 (fun _ => 0) 0 (fun _ => 0) 6) := by
  have hn : ¬ Mtc np ot := fun h => by
    have h1 := h.e.l 0 0 (by decide) (by decide)
    revert h1
    decide
  have h := (dm_case (PD.dr_is np a ca b cb c cc) (PD.dr_is ot x cx y cy z cz) np_ok ot_ok np_all ot_all).elim (fun h => absurd h.1 hn) (fun h => h.2)
  exact (h w hd he).mono fun e w' k => M3.congr k (fun i h => absurd h (by omega)) (fun i h => absurd h (by omega))
theorem nm_m5 (x cx y cy z cz : Nat) (w : World) (he : (np.dr x cx y cy z cz).In w w.heap.size) :
    Calls Tryd.prog 12 #[.agg #[.int .i64 0, .int .i64 0, .slice none 0 0, .slice none 0 0, .int .i64 0, .int .i64 0, .slice none 0 0], .agg #[.int .i64 2, .int .i64 2, .slice (some ⟨x, 0, none⟩) 4 cx, .slice (some ⟨y, 0, none⟩) 3 cy, .int .i64 2, .int .i64 2, .slice (some ⟨z, 0, none⟩) 4 cz]] w (M3 w 0 (fun _ => 0) 0 (fun _ => 0) 8) :=
  fm_err1 Dr.zero (np.dr x cx y cy z cz) _ _ (by decide) (by decide) Dr.zero_small w ⟨fun h => absurd h (by decide), fun h => absurd h (by decide), fun h => absurd h (by decide)⟩
theorem nm_of0 (w : World) : Calls Tryd.prog 9 #[.agg #[.int .i64 0, .int .i64 0, .slice none 0 0]] w (ErrDr w 8) := of_err 0 0 none 0 0 w 8 (by omega) (by decide) (by decide)
theorem nm_cnt0 (w : World) : Calls Tryd.prog 15 #[.agg #[.int .i64 65, .int .i64 1, .slice none 0 0]] w fun e w' => e = .returned (.tuple #[.int .i64 0, .int .i64 0, .int .i64 4]) ∧ Below w.heap.size w w' := count_err 65 1 none 0 0 w 4 (by omega) (by decide) (by decide)
/-- The cells of the grid of 41 ends. -/
def mf (i : Nat) : Bool := (i % 41) / 2 ^ (i / 41) % 2 == 1
theorem mf_c : nd (rc 6 (tnf 41 6 mf)) 41 = 41 := by decide +kernel
theorem mf_r : nd (rc 41 mf) 6 = 6 := by decide +kernel
theorem nm_ofm (k : Nat) (w : World) (hE : Env w) (hr : Row w k 246 mf) : Calls Tryd.prog 9 #[.agg #[.int .i64 41, .int .i64 6, .slice (some ⟨k, 0, none⟩) 246 246]] w (ErrDr w 4) :=
  of_many 41 6 k 0 246 mf w hE (hr.holds hr.lt) (by omega) (by omega) (by omega) (by omega) (by omega) (Or.inl (by rw [mf_c]; omega))
theorem nm_cntm (k : Nat) (w : World) (hr : Row w k 246 mf) : Calls Tryd.prog 15 #[.agg #[.int .i64 41, .int .i64 6, .slice (some ⟨k, 0, none⟩) 246 246]] w fun e w' => e = .returned (.tuple #[.int .i64 41, .int .i64 6, .int .i64 0]) ∧ Below w.heap.size w w' := by
  have h := count_ok 41 6 k 0 246 mf w (hr.holds hr.lt) (by omega) (by omega) (by omega) (by omega) (by omega)
  rw [mf_c, mf_r] at h
  exact h
theorem nm_th (a ca : Nat) (w : World) (hr : L2.Holds w w.heap.size (some ⟨a, 0, none⟩) 4 (fun i => (np.F i : Nat))) : Calls Tryd.prog 16 #[.slice (some ⟨a, 0, none⟩) 4 ca, .slice (some ⟨w.heap.size, 0, none⟩) 4 4] (w.alloc (.cells #[.int .i64 0, .int .i64 0, .int .i64 1, .int .i64 1] 3)) fun e w' => e = .returned (.bool true) ∧ Below w.heap.size w w' := by
  have hb : Below w.heap.size w (w.alloc (.cells #[.int .i64 0, .int .i64 0, .int .i64 1, .int .i64 1] 3)) := (Below.refl _ _).alloc (Nat.le_refl _) _
  have h := irow_lit w [0, 0, 1, 1]
  have h2 := rieq_any (some ⟨a, 0, none⟩) (some ⟨w.heap.size, 0, none⟩) 4 4 ca 4 (fun i => (np.F i : Nat)) (at0 [0, 0, 1, 1]) (w.alloc (.cells #[.int .i64 0, .int .i64 0, .int .i64 1, .int .i64 1] 3)) (by omega) ((hr.below hb).more hb.size) (L2.Row.holds h h.lt)
  rw [show lsm 4 (fun i => (np.F i : Nat)) 4 (at0 [0, 0, 1, 1]) = true by decide] at h2
  exact h2.mono fun e w' ⟨h3, h4⟩ => ⟨h3, hb.trans (h4.mono hb.size)⟩
theorem nm_tr (a ca : Nat) (w : World) (hr : L2.Holds w w.heap.size (some ⟨a, 0, none⟩) 3 (fun i => (np.G i : Nat))) : Calls Tryd.prog 16 #[.slice (some ⟨a, 0, none⟩) 3 ca, .slice (some ⟨w.heap.size, 0, none⟩) 3 3] (w.alloc (.cells #[.int .i64 0, .int .i64 1, .int .i64 0] 3)) fun e w' => e = .returned (.bool true) ∧ Below w.heap.size w w' := by
  have hb : Below w.heap.size w (w.alloc (.cells #[.int .i64 0, .int .i64 1, .int .i64 0] 3)) := (Below.refl _ _).alloc (Nat.le_refl _) _
  have h := irow_lit w [0, 1, 0]
  have h2 := rieq_any (some ⟨a, 0, none⟩) (some ⟨w.heap.size, 0, none⟩) 3 3 ca 3 (fun i => (np.G i : Nat)) (at0 [0, 1, 0]) (w.alloc (.cells #[.int .i64 0, .int .i64 1, .int .i64 0] 3)) (by omega) ((hr.below hb).more hb.size) (L2.Row.holds h h.lt)
  rw [show lsm 3 (fun i => (np.G i : Nat)) 3 (at0 [0, 1, 0]) = true by decide] at h2
  exact h2.mono fun e w' ⟨h3, h4⟩ => ⟨h3, hb.trans (h4.mono hb.size)⟩
theorem nm_10 (A : Option Addr) (ca : Nat) (w : World) (hr : LRow w A 2 a10) : Calls Tryd.prog 16 #[.slice A 2 ca, .slice (some ⟨w.heap.size, 0, none⟩) 2 2] (w.alloc (.cells #[.int .i64 1, .int .i64 0] 3)) fun e w' => e = .returned (.bool true) ∧ Below w.heap.size w w' := by
  have hb : Below w.heap.size w (w.alloc (.cells #[.int .i64 1, .int .i64 0] 3)) := (Below.refl _ _).alloc (Nat.le_refl _) _
  have h := irow_lit w [1, 0]
  have h2 := rieq_any A (some ⟨w.heap.size, 0, none⟩) 2 2 ca 2 a10 a10 (w.alloc (.cells #[.int .i64 1, .int .i64 0] 3)) (by omega) ((hr.holds.below hb).more hb.size) (L2.Row.holds h h.lt)
  rw [show lsm 2 a10 2 a10 = true by decide] at h2
  exact h2.mono fun e w' ⟨h3, h4⟩ => ⟨h3, hb.trans (h4.mono hb.size)⟩
/-- The copy of the first draft. -/
theorem nm_twin (a ca b cb c cc : Nat) (w : World) (hd : (np.dr a ca b cb c cc).In w w.heap.size) :
    Calls Tryd.prog 14 #[.agg #[.int .i64 2, .int .i64 2, .slice (some ⟨a, 0, none⟩) 4 ca, .slice (some ⟨b, 0, none⟩) 3 cb, .int .i64 2, .int .i64 2, .slice (some ⟨c, 0, none⟩) 4 cc]] w fun e w' => ∃ x cx y cy z cz, e = .returned (.agg #[.int .i64 2, .int .i64 2, .slice (some ⟨x, 0, none⟩) 4 cx, .slice (some ⟨y, 0, none⟩) 3 cy, .int .i64 2, .int .i64 2, .slice (some ⟨z, 0, none⟩) 4 cz]) ∧ L2.Row w' x 4 (fun i => (np.F i : Nat)) ∧ L2.Row w' y 3 (fun i => (np.G i : Nat)) ∧ Row w' z 4 (fun i => np.L (i % 2) (i / 2)) ∧ w.heap.size ≤ z ∧ Below w.heap.size w w' :=
  rtwin_rows (np.dr a ca b cb c cc) ((PD.dr_is np a ca b cb c cc).small np_ok) (show 0 < 4 by omega) (show 0 < 3 by omega) (show 0 < 4 by omega) w hd
theorem irow_ne {w : World} {a b n m : Nat} {f : Nat → Int} {g : Nat → Bool} (h : L2.Row w a n f) (k : Row w b m g) : a ≠ b := fun e => by
  subst e
  obtain ⟨cs, h1, _⟩ := h
  obtain ⟨ds, k1, _⟩ := k
  rw [h1] at k1
  cases k1
theorem ot_in {w : World} {x y z : Nat} (cx cy cz : Nat) (h1 : L2.Row w x 4 (fun i => (np.F i : Nat))) (h2 : L2.Row w y 3 (fun i => (np.G i : Nat))) (h3 : Row w z 4 (fun i => np.L (i % 2) (i / 2))) :
    (ot.dr x cx y cy z cz).In (w.setCell ⟨z, 0, none⟩ (.bool false)) (w.setCell ⟨z, 0, none⟩ (.bool false)).heap.size := by
  have k1 : L2.Row (w.setCell ⟨z, 0, none⟩ (.bool false)) x 4 (fun i => (ot.F i : Nat)) := h1.far (irow_ne h1 h3) _
  have k2 : L2.Row (w.setCell ⟨z, 0, none⟩ (.bool false)) y 3 (fun i => (ot.G i : Nat)) := h2.far (irow_ne h2 h3) _
  have k3 : Row (w.setCell ⟨z, 0, none⟩ (.bool false)) z 4 (fun i => ot.L (i % 2) (i / 2)) := (h3.set_ 0 false).congr (by decide)
  exact ⟨L2.Row.holds k1 k1.lt, L2.Row.holds k2 k2.lt, k3.holds k3.lt⟩
end Go.Proofs.YtbafhdinalapoaaDoor
