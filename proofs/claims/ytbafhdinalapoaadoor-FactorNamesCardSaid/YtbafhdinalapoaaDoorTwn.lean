/- The reference's copy of a draft. -/
import Derived.Test.YtbafhdinalapoaaDoorDb
namespace Go.Proofs.YtbafhdinalapoaaDoor
open Go.RowKit
set_option linter.unusedVariables false
set_option linter.unusedSimpArgs false
set_option maxRecDepth 100000

/-- The draft, with its elements elsewhere. -/
def Dr.at_ (D : Dr) (A : Option Addr) (c : Nat) (B : Option Addr) (d : Nat) (C : Option Addr) (e : Nat) : Dr := ⟨D.S, D.T, A, D.n, c, B, D.m, d, D.W, D.H, C, D.k, e, D.f, D.g, D.b⟩

theorem set7_irow {w2 : World} {x r n : Nat} {F : Nat → Int} {a b c d e f g : Value} (h : L2.Row w2 x n F) (hr : x ≠ r) : L2.Row (((((((w2.setCell ⟨r, 0, none⟩ a).setCell ⟨r, 1, none⟩ b).setCell ⟨r, 2, none⟩ c).setCell ⟨r, 3, none⟩ d).setCell ⟨r, 4, none⟩ e).setCell ⟨r, 5, none⟩ f).setCell ⟨r, 6, none⟩ g) x n F :=
  ((((((h.far hr _).far hr _).far hr _).far hr _).far hr _).far hr _).far hr _
theorem set7_row {w2 : World} {x r n : Nat} {F : Nat → Bool} {a b c d e f g : Value} (h : Row w2 x n F) (hr : x ≠ r) : Row (((((((w2.setCell ⟨r, 0, none⟩ a).setCell ⟨r, 1, none⟩ b).setCell ⟨r, 2, none⟩ c).setCell ⟨r, 3, none⟩ d).setCell ⟨r, 4, none⟩ e).setCell ⟨r, 5, none⟩ f).setCell ⟨r, 6, none⟩ g) x n F :=
  ((((((h.far hr _).far hr _).far hr _).far hr _).far hr _).far hr _).far hr _

set_option maxHeartbeats 3200000 in
theorem rtwin_any (D : Dr) (hs : D.Small) (w : World) (hd : D.In w w.heap.size) :
    Calls Tryd.prog 14 #[.agg #[.int .i64 D.S, .int .i64 D.T, .slice D.A D.n D.c, .slice D.B D.m D.d, .int .i64 D.W, .int .i64 D.H, .slice D.C D.k D.e]] w fun e w' => ∃ A c B d C e', e = .returned (.agg #[.int .i64 D.S, .int .i64 D.T, .slice A D.n c, .slice B D.m d, .int .i64 D.W, .int .i64 D.H, .slice C D.k e']) ∧ (D.at_ A c B d C e').In w' w'.heap.size ∧ Below w.heap.size w w' := by
  have HD := Lib.hid hd
  obtain ⟨s0, s1, s2⟩ := hs
  obtain ⟨S, T, A, n, c, B, m, d, W, H, C, kk, e', f, g, b⟩ := D
  dsimp only at *
  have X1 := Lib.hid ((DBox.new w ⟨S, T, A, n, c, B, m, d, W, H, C, kk, e', f, g, b⟩).alloc (.cells #[.int .i64 0, .int .i64 0, .slice none 0 0, .slice none 0 0, .int .i64 0, .int .i64 0, .slice none 0 0] 27))
  have X2 := Lib.hid (DBox.new (w.alloc (.cells #[.int .i64 S, .int .i64 T, .slice A n c, .slice B m d, .int .i64 W, .int .i64 H, .slice C kk e'] 27)) Dr.zero)
  have L0 := Lib.hid (show Below w.heap.size w ((w.alloc (.cells #[.int .i64 S, .int .i64 T, .slice A n c, .slice B m d, .int .i64 W, .int .i64 H, .slice C kk e'] 27)).alloc (.cells #[.int .i64 0, .int .i64 0, .slice none 0 0, .slice none 0 0, .int .i64 0, .int .i64 0, .slice none 0 0] 27)) from ((Below.refl _ _).alloc (Nat.le_refl _) _).alloc (by simp) _)
  have hsz : ((w.alloc (.cells #[.int .i64 S, .int .i64 T, .slice A n c, .slice B m d, .int .i64 W, .int .i64 H, .slice C kk e'] 27)).alloc (.cells #[.int .i64 0, .int .i64 0, .slice none 0 0, .slice none 0 0, .int .i64 0, .int .i64 0, .slice none 0 0] 27)).heap.size = w.heap.size + 2 := by simp
  simp only [World.size_alloc] at X2
  clear hd
  go_enter Tryd.func14, Tryd.ntmps14
  go_wp2
  have X2' : Hid (DBox ((w.alloc (.cells #[.int .i64 S, .int .i64 T, .slice A n c, .slice B m d, .int .i64 W, .int .i64 H, .slice C kk e'] 27)).alloc (.cells #[.int .i64 0, .int .i64 0, .slice none 0 0, .slice none 0 0, .int .i64 0, .int .i64 0, .slice none 0 0] 27)) (w.heap.size + 1) Dr.zero) := X2
  clear X2
  generalize (w.alloc (.cells #[.int .i64 S, .int .i64 T, .slice A n c, .slice B m d, .int .i64 W, .int .i64 H, .slice C kk e'] 27)).alloc (.cells #[.int .i64 0, .int .i64 0, .slice none 0 0, .slice none 0 0, .int .i64 0, .int .i64 0, .slice none 0 0] 27) = W2 at *
  have HS : Hid (∀ w', Below (w.heap.size + 1) W2 w' → w'.cell? ⟨w.heap.size, 0, none⟩ = some (.int .i64 S) ∧ w'.cell? ⟨w.heap.size, 1, none⟩ = some (.int .i64 T) ∧ w'.cell? ⟨w.heap.size, 2, none⟩ = some (.slice A n c) ∧ w'.cell? ⟨w.heap.size, 3, none⟩ = some (.slice B m d) ∧ w'.cell? ⟨w.heap.size, 4, none⟩ = some (.int .i64 W) ∧ w'.cell? ⟨w.heap.size, 5, none⟩ = some (.int .i64 H) ∧ w'.cell? ⟨w.heap.size, 6, none⟩ = some (.slice C kk e')) := Lib.hid (fun w' h => by
    have y1 := (X1.out.below h (by omega)).all
    exact ⟨y1.1, y1.2.1, y1.2.2.1, y1.2.2.2.1, y1.2.2.2.2.1, y1.2.2.2.2.2.1, y1.2.2.2.2.2.2.1⟩)
  have HN := Lib.hid (fun v (h : Below W2.heap.size W2 v) => (HD.out.below (L0.out.trans (h.mono L0.out.size))))
  have hM : w.heap.size + 1 ≤ W2.heap.size := by omega
  have hbx : Below W2.heap.size W2 W2.drew := (Below.refl _ _).drew
  have hSu := HS.out _ (hbx.mono hM)
  have hb1 : Below W2.heap.size W2 (W2.alloc (.cells #[] 3)).drew := ((Below.refl _ _).alloc (Nat.le_refl _) _).drew
  have hb2 : Below W2.heap.size W2 ((W2.alloc (.cells #[] 3)).alloc (.cells #[] 3)).drew := (((Below.refl _ _).alloc (Nat.le_refl _) _).alloc (by simp) _).drew
  have hSv := HS.out _ (hb1.mono hM)
  have hSw := HS.out _ (hb2.mono hM)
  go_region_held3 (fun w' => w'.cell? ⟨w.heap.size, 0, none⟩ = some (.int .i64 S) ∧ w'.cell? ⟨w.heap.size, 1, none⟩ = some (.int .i64 T) ∧ w'.cell? ⟨w.heap.size, 2, none⟩ = some (.slice A n c) ∧ w'.cell? ⟨w.heap.size, 3, none⟩ = some (.slice B m d) ∧ w'.cell? ⟨w.heap.size, 4, none⟩ = some (.int .i64 W) ∧ w'.cell? ⟨w.heap.size, 5, none⟩ = some (.int .i64 H) ∧ w'.cell? ⟨w.heap.size, 6, none⟩ = some (.slice C kk e'))
    (first
      | with_reducible exact hSu
      | with_reducible exact hSv
      | with_reducible exact hSw
      | (have hm : Below (w.heap.size + 1) W2 _ := hbx.mono hM
         exact HS.out _ (set7_keep (r := w.heap.size + 1) (Nat.le_refl _) hm)))
    (first
      | (refine step_cat rfl (.tmp 7) (.tmp 9) rfl _ rfl rfl (HN.out _ ?_).th (by omega) ?_
         first | with_reducible exact hb1 | with_reducible exact hb2
         intro ka ca u1 hra hbu
         have hka : 0 < n → W2.heap.size ≤ ka := fun h => Nat.le_trans (by first | with_reducible exact hb1.size | with_reducible exact hb2.size) (hra h).2
         have hra : 0 < n → L2.Row u1 ka n f := fun h => (hra h).1
         have hbx : Below W2.heap.size W2 u1 := (by first | with_reducible exact hb1.trans (hbu.mono hb1.size) | with_reducible exact hb2.trans (hbu.mono hb2.size))
         have hSu := HS.out _ (hbx.mono hM)
         have hSv := HS.out (u1.alloc (.cells #[] 3)) ((hbx.mono hM).alloc (Nat.le_trans hM hbx.size) _))
      | (refine step_cat rfl (.tmp 11) (.tmp 13) rfl _ rfl rfl (HN.out _ ?_).tr (by omega) ?_
         first | with_reducible exact hbx | with_reducible exact hbx.alloc hbx.size _
         intro kb cb u2 hrb hbu
         have hkb : 0 < m → W2.heap.size ≤ kb := fun h => Nat.le_trans (by first | with_reducible exact hbx.size | exact Nat.le_trans hbx.size (by simp)) (hrb h).2
         have hrb : 0 < m → L2.Row u2 kb m g := fun h => (hrb h).1
         have hra : 0 < n → L2.Row u2 ka n f := (by first | with_reducible exact fun h => (hra h).below hbu (hra h).lt | exact fun h => ((hra h).alloc _).below hbu ((hra h).alloc _).lt)
         have hbx : Below W2.heap.size W2 u2 := (by first | with_reducible exact hbx.trans (hbu.mono hbx.size) | exact (hbx.alloc hbx.size _).trans (hbu.mono (Nat.le_trans hbx.size (by simp))))
         have hSu := HS.out _ (hbx.mono hM))
      | (go_at_call 19
         refine (twin_any W H C kk e' b _ (by omega) (((HN.out _ hbx).ti).more (by have := hbx.size; omega))).mono ?_
         rintro e u3 ⟨C', d', rfl, hrc, hbu⟩
         have hrc : 0 < kk → ∃ k, C' = some ⟨k, 0, none⟩ ∧ W2.heap.size ≤ k ∧ Row u3 k kk b := fun h => (hrc h).imp fun k ⟨h1, h2, h3⟩ => ⟨h1, Nat.le_trans hbx.size h2, h3⟩
         have hra : 0 < n → L2.Row u3 ka n f := fun h => (hra h).below hbu (hra h).lt
         have hrb : 0 < m → L2.Row u3 kb m g := fun h => (hrb h).below hbu (hrb h).lt
         have hbx : Below W2.heap.size W2 u3 := hbx.trans (hbu.mono hbx.size)
         have hSu := HS.out _ (hbx.mono hM)
         obtain ⟨z0, z1, z2, z3, z4, z5, z6⟩ := (X2'.out.next hbx).frees
         have tt := (X2'.out.next hbx).all
         simp only [Dr.zero] at tt
         obtain ⟨t0, t1, t2, t3, t4, t5, t6, t7⟩ := tt))
  all_goals
    have HA := Lib.hid hra
    have HB := Lib.hid hrb
    have HCC := Lib.hid hrc
    have HL := Lib.hid (L0.out.trans (hbx.mono L0.out.size))
    have HX := Lib.hid hbx
    clear hra hrb hrc hbx hbu z0 z1 z2 z3 z4 z5 z6 t7 hSu
    go_wp2
    refine bodyPost_ret (v := .agg #[.int .i64 S, .int .i64 T, .slice (some ⟨ka, 0, none⟩) n ca, .slice (some ⟨kb, 0, none⟩) m cb, .int .i64 W, .int .i64 H, .slice C' kk d']) (by simp [results, Tryd.results14, go_sem, t0, t1, t2, t3, t4, t5, t6]) rfl ⟨_, _, _, _, _, _, rfl, ⟨?_, ?_, ?_⟩, ?_⟩
    · intro h
      have h2 := hka h
      have key : ∀ v, L2.Row v ka n f → L2.Holds v v.heap.size (some ⟨ka, 0, none⟩) n f := fun v hv => hv.holds hv.lt
      exact key _ (set7_irow (HA.out h) (show ka ≠ w.heap.size + 1 by omega)) h
    · intro h
      have h2 := hkb h
      have key : ∀ v, L2.Row v kb m g → L2.Holds v v.heap.size (some ⟨kb, 0, none⟩) m g := fun v hv => hv.holds hv.lt
      exact key _ (set7_irow (HB.out h) (show kb ≠ w.heap.size + 1 by omega)) h
    · intro h
      obtain ⟨k, rfl, h2, h1⟩ := HCC.out h
      have key : ∀ v, Row v k kk b → Holds v v.heap.size (some ⟨k, 0, none⟩) kk b := fun v hv => hv.holds hv.lt
      exact key _ (set7_row h1 (show k ≠ w.heap.size + 1 by omega)) h
    · exact set7_below (by omega) HL.out
end Go.Proofs.YtbafhdinalapoaaDoor
