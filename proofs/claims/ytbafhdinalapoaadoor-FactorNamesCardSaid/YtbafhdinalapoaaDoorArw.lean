/- A draft arranged: the program's arrange. -/
import Derived.Test.YtbafhdinalapoaaDoorPmt
import Derived.Test.YtbafhdinalapoaaDoorAlf
namespace Go.Proofs.YtbafhdinalapoaaDoor
open Go.RowKit
set_option linter.unusedVariables false
set_option linter.unusedSimpArgs false
set_option maxRecDepth 100000

theorem heap4 (w : World) (o1 o2 o3 o4 : Obj) : ((((w.alloc o1).alloc o2).alloc o3).alloc o4).heap[w.heap.size + 1]? = some o2 ∧ ((((w.alloc o1).alloc o2).alloc o3).alloc o4).heap[w.heap.size + 2]? = some o3 ∧ ((((w.alloc o1).alloc o2).alloc o3).alloc o4).heap[w.heap.size + 3]? = some o4 := by
  refine ⟨?_, ?_, ?_⟩ <;> (show ((((w.heap.push o1).push o2).push o3).push o4)[_]? = _; simp [Array.getElem_push])

open L2 (plc)
/-- A list in a variable of its own. -/
theorem box_cell {w w1 : World} {B b : Nat} {v : Value} {t : TypeId} (h : w.heap[b]? = some (.cells #[v] t)) (hb : Below B w w1) (hB : b < B) : w1.cell? ⟨b, 0, none⟩ = some v := by
  have h1 := (hb.block b hB).trans h
  simp [World.cell?, h1]
theorem arr_clo {w : World} {gd gt gs ns nt c1 c2 : Nat} {A1 A2 : Option Addr} {D : Dr} {P : PD} {u v : Nat → Nat} (hb : DBox w gd D) (hd : D.In w w.heap.size) (hI : D.Is P) (hP : P.Ok)
    (ht : w.heap[gt]? = some (.cells #[.slice A2 nt c2] 22)) (hs : w.heap[gs]? = some (.cells #[.slice A1 ns c1] 22)) (ht0 : gt < w.heap.size) (hs0 : gs < w.heap.size)
    (h1 : L2.Holds w w.heap.size A1 ns (fun k => (u k : Nat))) (h2 : L2.Holds w w.heap.size A2 nt (fun k => (v k : Nat))) (hA : Arr P ns nt u v) :
    Gives 69 #[.pointer (some ⟨gd, 0, none⟩), .pointer (some ⟨gt, 0, none⟩), .pointer (some ⟨gs, 0, none⟩)] w nt ns (fun t s => P.L (v t) (u s)) := by
  intro w1 t s hbel ht' hs'
  obtain ⟨q0, q1, q2, q3, q4, q5, q6, q7⟩ := (hb.next hbel).all
  have x1 := box_cell ht hbel ht0
  have x2 := box_cell hs hbel hs0
  have D1 := Lib.hid (hd.next hbel)
  obtain ⟨qa, ra, rfl, hqa, hca⟩ := (h1.below hbel) (by omega)
  obtain ⟨qb, rb, rfl, hqb, hcb⟩ := (h2.below hbel) (by omega)
  have e1 := hca s hs'
  have e2 := hcb t ht'
  have hu := hA.u0 s hs'
  have hv := hA.v0 t ht'
  have p1 := hP.s1
  have p2 := hP.t1
  have p3 := hA.ns1
  have p4 := hA.nt1
  have HL := Lib.hid (hI.b (v t) (u s) hv hu)
  have HW := Lib.hid hI.W
  have HH := Lib.hid hI.H
  have HK := Lib.hid hI.k
  rw [hI.W] at q4
  rw [hI.H] at q5
  rw [hI.k] at q6
  have HC := Lib.hid (fun w' (hb' : Below w1.heap.size w1 w') => dcell_nat P.T P.S D.C D.e (v t : Nat) (u s : Nat) D.b w' (by have := (D1.out.next hb').ti; rw [HK.out] at this; exact this) (by omega) (by omega) (v t) (u s) rfl rfl hv hu)
  rw [HL.out] at HC
  have y1 : (0 : Int) ≤ (t : Int) := by omega
  have y2 : (t : Int) < (nt : Int) := by omega
  have y3 : (0 : Int) ≤ (s : Int) := by omega
  have y4 : (s : Int) < (ns : Int) := by omega
  clear hca hcb hb hd hI hP ht hs h1 h2 hA hbel
  obtain ⟨z, hz⟩ : ∃ z, u s = z := ⟨_, rfl⟩
  obtain ⟨y, hy⟩ : ∃ y, v t = y := ⟨_, rfl⟩
  rw [hz] at *
  rw [hy] at *
  go_enter Tryd.func69, Tryd.ntmps69
  go_wp2
  go_still_tail 10, (by kernel_rfl)
  change wpList _ _ _ _ _ w1.drew
  go_wp2_with (go_at_call 55; refine (HC.out _ ?_).mono ?_; exact (Below.refl _ _).drew; rintro e w2 ⟨rfl, hb2⟩)
  go_ret
  exact ⟨rfl, (Below.refl _ _).drew.trans hb2⟩

/-- A rearranged draft came back, in rows of the call's own. -/
def ArrOut (w : World) (Q : PD) (e : Ending) (w' : World) : Prop :=
  ∃ a ca b cb c cc, e = .returned (.agg #[.int .i64 (Q.S : Nat), .int .i64 (Q.T : Nat), .slice (some ⟨a, 0, none⟩) Q.n ca, .slice (some ⟨b, 0, none⟩) Q.m cb, .int .i64 (Q.T : Nat), .int .i64 (Q.S : Nat), .slice (some ⟨c, 0, none⟩) (Q.T * Q.S) cc]) ∧ Rows3 w' w.heap.size Q a b c ∧ Below w.heap.size w w'

set_option maxHeartbeats 6400000 in
theorem arrange_any {D : Dr} {P : PD} (hI : D.Is P) (hP : P.Ok) (ns nt : Nat) (us vs : Nat → Nat) (hA : Arr P ns nt us vs) (A1 A2 : Option Addr) (c1 c2 : Nat) (w : World) (hd : D.In w w.heap.size)
    (h1 : L2.Holds w w.heap.size A1 ns (fun k => (us k : Nat))) (h2 : L2.Holds w w.heap.size A2 nt (fun k => (vs k : Nat))) :
    Calls Tryd.prog 40 #[.agg #[.int .i64 D.S, .int .i64 D.T, .slice D.A D.n D.c, .slice D.B D.m D.d, .int .i64 D.W, .int .i64 D.H, .slice D.C D.k D.e], .slice A1 ns c1, .slice A2 nt c2] w (ArrOut w (P.arr ns nt us vs)) := by
  have hmf := mk_fn
  have HD := Lib.hid hd
  have HI := Lib.hid hI
  have HP := Lib.hid hP
  have HA := Lib.hid hA
  have H1 := Lib.hid h1
  have H2 := Lib.hid h2
  have hOk := hA.ok hP
  have z1 : 1 ≤ ns := hOk.s0
  have z2 : 1 ≤ nt := hOk.t0
  have z3 := hA.ns1
  have z4 := hA.nt1
  obtain ⟨S, T, A, n, c, B, m, d, W, H, C, kk, e', f, g, b⟩ := D
  obtain ⟨eS, eT, en, em, eW, eH, ek, ef, eg, eb⟩ := hI
  obtain ⟨p1, p2, p3, p4, p5, p6, p7, p8, pf, pg⟩ := hP
  dsimp only at *
  subst eS eT en em eW eH ek
  have EF := Lib.hid ef
  have EG := Lib.hid eg
  clear ef eg eb hd pf pg hA h1 h2 hOk
  have X0 := Lib.hid ((((DBox.new w (⟨P.S, P.T, A, P.n, c, B, P.m, d, P.T, P.S, C, P.T * P.S, e', f, g, b⟩ : Dr)).alloc (.cells #[.slice A1 ns c1] 22)).alloc (.cells #[.slice A2 nt c2] 22)).alloc (.cells #[.int .i64 0, .int .i64 0, .slice none 0 0, .slice none 0 0, .int .i64 0, .int .i64 0, .slice none 0 0] 27))
  have Z0 := Lib.hid (DBox.new (((w.alloc (.cells #[.int .i64 P.S, .int .i64 P.T, .slice A P.n c, .slice B P.m d, .int .i64 P.T, .int .i64 P.S, .slice C (P.T * P.S) e'] 27)).alloc (.cells #[.slice A1 ns c1] 22)).alloc (.cells #[.slice A2 nt c2] 22)) Dr.zero)
  have V := Lib.hid (heap4 w (.cells #[.int .i64 P.S, .int .i64 P.T, .slice A P.n c, .slice B P.m d, .int .i64 P.T, .int .i64 P.S, .slice C (P.T * P.S) e'] 27) (.cells #[.slice A1 ns c1] 22) (.cells #[.slice A2 nt c2] 22) (.cells #[.int .i64 0, .int .i64 0, .slice none 0 0, .slice none 0 0, .int .i64 0, .int .i64 0, .slice none 0 0] 27))
  have L0 := Lib.hid (show Below w.heap.size w ((((w.alloc (.cells #[.int .i64 P.S, .int .i64 P.T, .slice A P.n c, .slice B P.m d, .int .i64 P.T, .int .i64 P.S, .slice C (P.T * P.S) e'] 27)).alloc (.cells #[.slice A1 ns c1] 22)).alloc (.cells #[.slice A2 nt c2] 22)).alloc (.cells #[.int .i64 0, .int .i64 0, .slice none 0 0, .slice none 0 0, .int .i64 0, .int .i64 0, .slice none 0 0] 27)) from ((((Below.refl _ _).alloc (Nat.le_refl _) _).alloc (by simp) _).alloc (by simp; omega) _).alloc (by simp; omega) _)
  have S0 := Lib.hid (show ((((w.alloc (.cells #[.int .i64 P.S, .int .i64 P.T, .slice A P.n c, .slice B P.m d, .int .i64 P.T, .int .i64 P.S, .slice C (P.T * P.S) e'] 27)).alloc (.cells #[.slice A1 ns c1] 22)).alloc (.cells #[.slice A2 nt c2] 22)).alloc (.cells #[.int .i64 0, .int .i64 0, .slice none 0 0, .slice none 0 0, .int .i64 0, .int .i64 0, .slice none 0 0] 27)).heap.size = w.heap.size + 4 by simp)
  simp only [World.size_alloc] at Z0
  have Z0' : Hid (DBox ((((w.alloc (.cells #[.int .i64 P.S, .int .i64 P.T, .slice A P.n c, .slice B P.m d, .int .i64 P.T, .int .i64 P.S, .slice C (P.T * P.S) e'] 27)).alloc (.cells #[.slice A1 ns c1] 22)).alloc (.cells #[.slice A2 nt c2] 22)).alloc (.cells #[.int .i64 0, .int .i64 0, .slice none 0 0, .slice none 0 0, .int .i64 0, .int .i64 0, .slice none 0 0] 27)) (w.heap.size + 3) Dr.zero) := Z0
  clear Z0
  go_enter Tryd.func40, Tryd.ntmps40
  go_wp2
  generalize (((w.alloc (.cells #[.int .i64 P.S, .int .i64 P.T, .slice A P.n c, .slice B P.m d, .int .i64 P.T, .int .i64 P.S, .slice C (P.T * P.S) e'] 27)).alloc (.cells #[.slice A1 ns c1] 22)).alloc (.cells #[.slice A2 nt c2] 22)).alloc (.cells #[.int .i64 0, .int .i64 0, .slice none 0 0, .slice none 0 0, .int .i64 0, .int .i64 0, .slice none 0 0] 27) = w0 at *
  have hM : w.heap.size + 3 ≤ w0.heap.size := by have := S0.out; omega
  have HS : Hid (∀ w', Below (w.heap.size + 3) w0 w' → (fun w' => w'.cell? ⟨w.heap.size + 1, 0, none⟩ = some (.slice A1 ns c1) ∧ w'.cell? ⟨w.heap.size + 2, 0, none⟩ = some (.slice A2 nt c2) ∧ w'.cell? ⟨w.heap.size, 2, none⟩ = some (.slice A P.n c) ∧ w'.cell? ⟨w.heap.size, 3, none⟩ = some (.slice B P.m d)) w') := Lib.hid (fun w' h => by
    have y1 := (X0.out.below h (by omega)).all
    exact ⟨box_cell V.out.1 h (by omega), box_cell V.out.2.1 h (by omega), y1.2.2.1, y1.2.2.2.1⟩)
  have HTh := Lib.hid (fun v (h : Below w0.heap.size w0 v) => places_any A A1 P.n ns c c1 f (fun k => (us k : Nat)) v ((HD.out.th.below (L0.out.trans (h.mono L0.out.size))).more (Nat.le_trans L0.out.size h.size)) ((H1.out.below (L0.out.trans (h.mono L0.out.size))).more (Nat.le_trans L0.out.size h.size)) (by omega) (by omega))
  have HTr := Lib.hid (fun v' (h : Below w0.heap.size w0 v') => places_any B A2 P.m nt d c2 g (fun k => (vs k : Nat)) v' ((HD.out.tr.below (L0.out.trans (h.mono L0.out.size))).more (Nat.le_trans L0.out.size h.size)) ((H2.out.below (L0.out.trans (h.mono L0.out.size))).more (Nat.le_trans L0.out.size h.size)) (by omega) (by omega))
  have HBd := Lib.hid (fun v' (h : Below w0.heap.size w0 v') => dbuild_any nt ns (by omega) (by omega) (by omega) (by omega) 69 #[.pointer (some ⟨w.heap.size, 0, none⟩), .pointer (some ⟨w.heap.size + 2, 0, none⟩), .pointer (some ⟨w.heap.size + 1, 0, none⟩)] _ v'
    (arr_clo (D := ⟨P.S, P.T, A, P.n, c, B, P.m, d, P.T, P.S, C, P.T * P.S, e', f, g, b⟩) (X0.out.below h X0.out.lt) ((HD.out.below (L0.out.trans (h.mono L0.out.size))).more (Nat.le_trans L0.out.size h.size)) HI.out HP.out ((h.block _ (by have := S0.out; omega)).trans V.out.2.1) ((h.block _ (by have := S0.out; omega)).trans V.out.1) (by have := S0.out; have := h.size; omega) (by have := S0.out; have := h.size; omega)
      ((H1.out.below (L0.out.trans (h.mono L0.out.size))).more (Nat.le_trans L0.out.size h.size)) ((H2.out.below (L0.out.trans (h.mono L0.out.size))).more (Nat.le_trans L0.out.size h.size)) HA.out) (Go.Proofs.enters_of Tryd.func69 (by kernel_rfl) rfl))
  have hbx : Below w0.heap.size w0 w0.drew := (Below.refl _ _).drew
  have hSu := HS.out _ (hbx.mono hM)
  go_region_held3 (fun w' => w'.cell? ⟨w.heap.size + 1, 0, none⟩ = some (.slice A1 ns c1) ∧ w'.cell? ⟨w.heap.size + 2, 0, none⟩ = some (.slice A2 nt c2) ∧ w'.cell? ⟨w.heap.size, 2, none⟩ = some (.slice A P.n c) ∧ w'.cell? ⟨w.heap.size, 3, none⟩ = some (.slice B P.m d))
    (first
      | with_reducible exact hSu
      | (have hm : Below (w.heap.size + 3) w0 u := hbx.mono hM
         exact HS.out _ (set7_keep (r := w.heap.size + 3) (Nat.le_refl _) hm)))
    (first
      | (go_at_call 68
         with_reducible refine Calls.mono (HTh.out _ hbx) ?_
         rintro e u ⟨k1, rfl, hkk1, hrk1, hbu⟩
         have hrk1 := Lib.hid hrk1
         try have hrk2 := Lib.hid (hrk2.out.below hbu hrk2.out.lt)
         have hkk1 : w0.heap.size ≤ k1 := Nat.le_trans hbx.size hkk1
         have hbx := hbx.trans (hbu.mono hbx.size)
         have hSu := HS.out _ (hbx.mono hM))
      | (go_at_call 68
         with_reducible refine Calls.mono (HTr.out _ hbx) ?_
         rintro e u ⟨k2, rfl, hkk2, hrk2, hbu⟩
         have hrk2 := Lib.hid hrk2
         try have hrk1 := Lib.hid (hrk1.out.below hbu hrk1.out.lt)
         have hkk2 : w0.heap.size ≤ k2 := Nat.le_trans hbx.size hkk2
         have hbx := hbx.trans (hbu.mono hbx.size)
         have hSu := HS.out _ (hbx.mono hM))
      | (go_at_call 53
         with_reducible refine Calls.mono (HBd.out _ hbx) ?_
         rintro e u ⟨kb, rfl, hkb, hrb, hbu⟩
         have hrk1 := hrk1.out.below hbu hrk1.out.lt
         have hrk2 := hrk2.out.below hbu hrk2.out.lt
         have hkb : w0.heap.size ≤ kb := Nat.le_trans hbx.size hkb
         have hbx := hbx.trans (hbu.mono hbx.size)
         have hSu := HS.out _ (hbx.mono hM)
         obtain ⟨z0, z1, z2, z3, z4, z5, z6⟩ := (Z0'.out.next hbx).frees
         have tt := (Z0'.out.next hbx).all
         simp only [Dr.zero] at tt
         obtain ⟨t0, t1, t2, t3, t4, t5, t6, t7⟩ := tt))
  all_goals
    have hrows : Rows3 u (w.heap.size + 4) (P.arr ns nt us vs) k1 k2 kb := ⟨by have := S0.out; omega, by have := S0.out; omega, by have := S0.out; omega, hrk1.congr fun i hi => by
        obtain ⟨j, e, _, _⟩ := plc_nat (HA.out.f i hi)
        show plc _ (f i) ns = ((plc _ _ ns).toNat : Nat)
        rw [EF.out i hi, e]; rfl, hrk2.congr fun i hi => by
        obtain ⟨j, e, _, _⟩ := plc_nat (HA.out.g i hi)
        show plc _ (g i) nt = ((plc _ _ nt).toNat : Nat)
        rw [EG.out i hi, e]; rfl, hrb⟩
    have HR3 := Lib.hid hrows
    have HB3 := Lib.hid (L0.out.trans (hbx.mono L0.out.size))
    clear hrows hrk1 hrk2 hrb hbx hbu z0 z1 z2 z3 z4 z5 z6 t7 hSu
    go_wp2
    refine bodyPost_ret (v := .agg #[.int .i64 ns, .int .i64 nt, .slice (some ⟨k1, 0, none⟩) P.n P.n, .slice (some ⟨k2, 0, none⟩) P.m P.m, .int .i64 nt, .int .i64 ns, .slice (some ⟨kb, 0, none⟩) (nt * ns) (nt * ns)]) (by simp [results, Tryd.results40, go_sem, t0, t1, t2, t3, t4, t5, t6]) rfl ⟨k1, P.n, k2, P.m, kb, nt * ns, rfl, ?_, ?_⟩
    · exact (set7_rows (by omega) HR3.out).lower (by omega)
    · exact set7_below (by omega) HB3.out
end Go.Proofs.YtbafhdinalapoaaDoor
