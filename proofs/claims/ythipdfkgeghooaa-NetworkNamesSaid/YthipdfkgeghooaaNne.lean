/- Written examples of NetworkNames. -/
import Derived.Test.YthipdfkgeghooaaNri
import Derived.Test.YthipdfkgeghooaaNlw
namespace Go.Proofs.Ythipdfkgeghooaa
open Go.RowKit
set_option maxRecDepth 100000
set_option linter.unusedVariables false
set_option linter.unusedSimpArgs false

theorem nl_a1 (w : World) : L2.Holds (w.alloc (.cells #[.int .i64 1001] 3)) (w.alloc (.cells #[.int .i64 1001] 3)).heap.size (some ⟨w.heap.size, 0, none⟩) 1 (fun i => ([1001] : List Int).getD i 0) := lv_h [1001] _ rfl
theorem nl_a2 (w : World) : L2.Holds (w.alloc (.cells #[.int .i64 (-1)] 3)) (w.alloc (.cells #[.int .i64 (-1)] 3)).heap.size (some ⟨w.heap.size, 0, none⟩) 1 (fun i => ([-1] : List Int).getD i 0) := lv_h [-1] _ rfl
theorem nl_a3 (w : World) : L2.Holds (w.alloc (.cells #[.int .i64 1000, .int .i64 0, .int .i64 4] 3)) (w.alloc (.cells #[.int .i64 1000, .int .i64 0, .int .i64 4] 3)).heap.size (some ⟨w.heap.size, 0, none⟩) 3 (fun i => ([1000, 0, 4] : List Int).getD i 0) := lv_h [1000, 0, 4] _ rfl
theorem nl_a4 (w : World) : L2.Holds (w.alloc (.cells #[.int .i64 1] 3)) (w.alloc (.cells #[.int .i64 1] 3)).heap.size (some ⟨w.heap.size, 0, none⟩) 1 (fun i => ([1] : List Int).getD i 0) := lv_h [1] _ rfl
theorem nl_a5 (w : World) : L2.Holds (w.alloc (.cells #[.int .i64 0, .int .i64 1, .int .i64 2, .int .i64 4] 3)) (w.alloc (.cells #[.int .i64 0, .int .i64 1, .int .i64 2, .int .i64 4] 3)).heap.size (some ⟨w.heap.size, 0, none⟩) 4 (fun i => ([0, 1, 2, 4] : List Int).getD i 0) := lv_h [0, 1, 2, 4] _ rfl
theorem nl_a6 (w : World) : L2.Holds (w.alloc (.cells #[.int .i64 8] 3)) (w.alloc (.cells #[.int .i64 8] 3)).heap.size (some ⟨w.heap.size, 0, none⟩) 1 (fun i => ([8] : List Int).getD i 0) := lv_h [8] _ rfl
theorem nl_a7 (w : World) : L2.Holds (w.alloc (.cells #[.int .i64 0, .int .i64 1, .int .i64 2] 3)) (w.alloc (.cells #[.int .i64 0, .int .i64 1, .int .i64 2] 3)).heap.size (some ⟨w.heap.size, 0, none⟩) 3 (fun i => ([0, 1, 2] : List Int).getD i 0) := lv_h [0, 1, 2] _ rfl
theorem nl_a8 (w : World) : L2.Holds (w.alloc (.cells #[.int .i64 0, .int .i64 1] 3)) (w.alloc (.cells #[.int .i64 0, .int .i64 1] 3)).heap.size (some ⟨w.heap.size, 0, none⟩) 2 (fun i => ([0, 1] : List Int).getD i 0) := lv_h [0, 1] _ rfl
theorem nl_b1 (w : World) : L2.Holds (w.alloc (.cells #[.int .i64 3, .int .i64 7] 3)) (w.alloc (.cells #[.int .i64 3, .int .i64 7] 3)).heap.size (some ⟨w.heap.size, 0, none⟩) 2 (fun i => ([3, 7] : List Int).getD i 0) := lv_h [3, 7] _ rfl
theorem nl_b2 (w : World) : L2.Holds (w.alloc (.cells #[.int .i64 4, .int .i64 1, .int .i64 2] 3)) (w.alloc (.cells #[.int .i64 4, .int .i64 1, .int .i64 2] 3)).heap.size (some ⟨w.heap.size, 0, none⟩) 3 (fun i => ([4, 1, 2] : List Int).getD i 0) := lv_h [4, 1, 2] _ rfl
theorem nl_b3 (w : World) : L2.Holds (w.alloc (.cells #[.int .i64 3, .int .i64 2, .int .i64 0] 3)) (w.alloc (.cells #[.int .i64 3, .int .i64 2, .int .i64 0] 3)).heap.size (some ⟨w.heap.size, 0, none⟩) 3 (fun i => ([3, 2, 0] : List Int).getD i 0) := lv_h [3, 2, 0] _ rfl
theorem nl_p1 (w : World) : PH (w.alloc (.cells #[.int .i64 1, .int .i64 0] 52)) (w.alloc (.cells #[.int .i64 1, .int .i64 0] 52)).heap.size (some ⟨w.heap.size, 0, none⟩) 1 (fun i => ([1] : List Int).getD i 0) (fun i => ([0] : List Int).getD i 0) := fun _ => ⟨w.heap.size, 0, rfl, by simp, fun i hi => by
  rw [Lib.cell_of_heap (World.alloc_heap_new w _), Lib.cell_of_heap (World.alloc_heap_new w _)]
  have : i = 0 := by omega
  subst this 
  exact ⟨rfl, rfl⟩⟩
theorem nl_p2 (w : World) : PH (w.alloc (.cells #[.int .i64 0, .int .i64 0, .int .i64 0, .int .i64 1] 52)) (w.alloc (.cells #[.int .i64 0, .int .i64 0, .int .i64 0, .int .i64 1] 52)).heap.size (some ⟨w.heap.size, 0, none⟩) 2 (fun i => ([0, 0] : List Int).getD i 0) (fun i => ([0, 1] : List Int).getD i 0) := fun _ => ⟨w.heap.size, 0, rfl, by simp, fun i hi => by
  rw [Lib.cell_of_heap (World.alloc_heap_new w _), Lib.cell_of_heap (World.alloc_heap_new w _)]
  have : i = 0 ∨ i = 1 := by omega
  rcases this with rfl | rfl <;> exact ⟨rfl, rfl⟩⟩
theorem nl_p3 (w : World) : PH (w.alloc (.cells #[.int .i64 0, .int .i64 0, .int .i64 64, .int .i64 0] 52)) (w.alloc (.cells #[.int .i64 0, .int .i64 0, .int .i64 64, .int .i64 0] 52)).heap.size (some ⟨w.heap.size, 0, none⟩) 2 (fun i => ([0, 64] : List Int).getD i 0) (fun i => ([0, 0] : List Int).getD i 0) := fun _ => ⟨w.heap.size, 0, rfl, by simp, fun i hi => by
  rw [Lib.cell_of_heap (World.alloc_heap_new w _), Lib.cell_of_heap (World.alloc_heap_new w _)]
  have : i = 0 ∨ i = 1 := by omega
  rcases this with rfl | rfl <;> exact ⟨rfl, rfl⟩⟩
theorem nl_p4 (w : World) : PH (w.alloc (.cells #[.int .i64 0, .int .i64 1001] 52)) (w.alloc (.cells #[.int .i64 0, .int .i64 1001] 52)).heap.size (some ⟨w.heap.size, 0, none⟩) 1 (fun i => ([0] : List Int).getD i 0) (fun i => ([1001] : List Int).getD i 0) := fun _ => ⟨w.heap.size, 0, rfl, by simp, fun i hi => by
  rw [Lib.cell_of_heap (World.alloc_heap_new w _), Lib.cell_of_heap (World.alloc_heap_new w _)]
  have : i = 0 := by omega
  subst this 
  exact ⟨rfl, rfl⟩⟩
def bX (i : Nat) : Nat := ([0, 2] : List Nat).getD i 0
def bY (i : Nat) : Nat := ([3, 0] : List Nat).getD i 0
theorem nl_p5 (w : World) : PH (w.alloc (.cells #[.int .i64 0, .int .i64 3, .int .i64 2, .int .i64 0] 52)) (w.alloc (.cells #[.int .i64 0, .int .i64 3, .int .i64 2, .int .i64 0] 52)).heap.size (some ⟨w.heap.size, 0, none⟩) 2 (fun i => ((bX i : Nat) : Int)) (fun i => ((bY i : Nat) : Int)) := fun _ => ⟨w.heap.size, 0, rfl, by simp, fun i hi => by
  rw [Lib.cell_of_heap (World.alloc_heap_new w _), Lib.cell_of_heap (World.alloc_heap_new w _)]
  have : i = 0 ∨ i = 1 := by omega
  rcases this with rfl | rfl <;> exact ⟨rfl, rfl⟩⟩
theorem frb_nck : nck 8 4 4 (fun i => ((frb i : Nat) : Int)) = 0 := by decide +kernel
theorem xa_no (w : World) (A : Option Addr) (c : Nat) (x : Int) (hx : x < 0 ∨ 64 ≤ x) (h : NH w A 4 frb) : Calls Try.prog 21 #[.agg #[.int .i64 8, .int .i64 4, .slice A 4 c], .int .i64 x] w fun e w' => e = .returned (.tuple #[.slice none 0 0, .int .i64 2]) ∧ Below w.heap.size w w' :=
  al_arg 8 4 A 4 c (fun i => ((frb i : Nat) : Int)) x w (by decide) h frb_nck hx
theorem xa_63 (w : World) (A : Option Addr) (c : Nat) (h : NH w A 4 frb) : Calls Try.prog 21 #[.agg #[.int .i64 8, .int .i64 4, .slice A 4 c], .int .i64 63] w fun e w' => ∃ D k, e = .returned (.tuple #[.slice D 2 k, .int .i64 0]) ∧ L2.Holds w' w'.heap.size D 2 (cls 4 (frb (63 % 4))) ∧ Below w.heap.size w w' :=
  al_ok 8 4 4 A c frb 63 four_ok (by decide) w h
theorem xd_no (w : World) (A D : Option Addr) (c m d : Nat) (l : Nat → Int) (hm : m ≤ 100000) (hh : hts m l = false) (h : NH w A 4 frb) (hD : L2.Holds w w.heap.size D m l) : Calls Try.prog 12 #[.agg #[.int .i64 8, .int .i64 4, .slice A 4 c], .slice D m d] w fun e w' => e = .returned (.tuple #[.slice none 0 0, .int .i64 8]) ∧ Below w.heap.size w w' :=
  dr_l 8 4 A 4 c (fun i => ((frb i : Nat) : Int)) D m d l w (by decide) hm h hD frb_nck hh
theorem xd_ok (w : World) (A D : Option Addr) (c d : Nat) (h : NH w A 4 frb) (hD : L2.Holds w w.heap.size D 3 (fun i => ([1000, 0, 4] : List Int).getD i 0)) : Calls Try.prog 12 #[.agg #[.int .i64 8, .int .i64 4, .slice A 4 c], .slice D 3 d] w fun e w' => ∃ k, e = .returned (.tuple #[.slice (some ⟨k, 0, none⟩) 3 3, .int .i64 0]) ∧ L2.Row w' k 3 (drf 8 4 4 frb (fun i => ([1000, 0, 4] : List Int).getD i 0)) ∧ Below w.heap.size w w' :=
  dr_ok 8 4 4 A c frb four_ok D 3 d _ w h hD (by decide +kernel)
theorem xl_ok (w : World) (A : Option Addr) (h : PH w w.heap.size A 2 (fun i => ((bX i : Nat) : Int)) (fun i => ((bY i : Nat) : Int))) : Calls Try.prog 23 #[.slice A 2 2] w fun e w' => ∃ k d, e = .returned (.tuple #[.slice (some ⟨k, 0, none⟩) 3 d, .int .i64 0]) ∧ L2.Row w' k 3 (lnf 2 bX bY) ∧ Below w.heap.size w w' :=
  ln_ok A 2 2 bX bY w ⟨by decide, by decide, by decide, by decide, fun i hi => by
    have e : i = 0 := by omega
    rw [e]
    decide⟩ (by decide) (by decide) h
theorem xt_no (w : World) (D : Option Addr) (d : Nat) (m : Int) (hm : m < 1 ∨ 40 < m) (hD : L2.Holds w w.heap.size D 1 (fun i => ([1] : List Int).getD i 0)) : Calls Try.prog 25 #[.slice D 1 d, .int .i64 m] w fun e w' => e = .returned (.tuple #[.slice none 0 0, .int .i64 2]) ∧ Below w.heap.size w w' :=
  (tl_arg D 1 d _ m w (by decide) hD (by decide +kernel) hm).mono fun e w' q => ⟨q.1, bel_refl q.2⟩
theorem xo_no (w : World) (A D : Option Addr) (c m d : Nat) (l : Nat → Nat) (hm : m ≤ 400) (hl : L2.lchk m (fun i => ((l i : Nat) : Int)) = 0) (ho : onB 8 4 4 frb m l = false) (h : NH w A 4 frb) (hD : L2.Holds w w.heap.size D m (fun i => ((l i : Nat) : Int))) : Calls Try.prog 14 #[.agg #[.int .i64 8, .int .i64 4, .slice A 4 c], .slice D m d] w fun e w' => e = .returned (.tuple #[.bool false, .int .i64 0]) ∧ Below w.heap.size w w' := by
  have h1 := on_ok 8 4 4 A c frb four_ok D m d l hm w h hD hl
  rwa [ho] at h1
theorem xp_1 (w : World) (A : Option Addr) (c : Nat) (h : L2.Holds w w.heap.size A 3 (fun i => ([0, 1, 2] : List Int).getD i 0)) : Calls Try.prog 16 #[.agg #[.int .i64 8, .int .i64 4, .slice A 3 c]] w fun e w' => e = .returned (.tuple #[.bool false, .int .i64 0]) ∧ Below w.heap.size w w' := by
  have h1 := pl_ok 8 4 3 A c frb ⟨by decide, by decide, by decide, by decide, by decide, by decide, fun i hi => by show i < 4; omega⟩ w (h.congr fun i hi => by
    have : i = 0 ∨ i = 1 ∨ i = 2 := by omega
    rcases this with rfl | rfl | rfl <;> rfl)
  rwa [show plB 4 3 frb = false by decide +kernel] at h1
theorem xp_2 (w : World) (A : Option Addr) (c : Nat) (h : L2.Holds w w.heap.size A 2 (fun i => ([0, 1] : List Int).getD i 0)) : Calls Try.prog 16 #[.agg #[.int .i64 3, .int .i64 3, .slice A 2 c]] w fun e w' => e = .returned (.tuple #[.bool false, .int .i64 0]) ∧ Below w.heap.size w w' := by
  have h1 := pl_ok 3 3 2 A c frb ⟨by decide, by decide, by decide, by decide, by decide, by decide, fun i hi => by show i < 3; omega⟩ w (h.congr fun i hi => by
    have : i = 0 ∨ i = 1 := by omega
    rcases this with rfl | rfl <;> rfl)
  rwa [show plB 3 2 frb = false by decide +kernel] at h1
theorem xc_four (w : World) (A : Option Addr) (c : Nat) (h : NH w A 4 frb) : Calls Try.prog 18 #[.agg #[.int .i64 8, .int .i64 4, .slice A 4 c]] w fun e w' => e = .returned (.int .i64 0) ∧ Below w.heap.size w w' := by
  have h1 := nck_any 8 4 A 4 c (fun i => ((frb i : Nat) : Int)) w (by decide) h
  rwa [frb_nck] at h1
theorem xs_1 : ∀ i, i < 2 → cls 4 (frb (63 % 4)) i = ([3, 7] : List Int).getD i 0 := by decide +kernel
theorem xs_2 : ∀ i, i < 3 → drf 8 4 4 frb (fun i => ([1000, 0, 4] : List Int).getD i 0) i = ([4, 1, 2] : List Int).getD i 0 := by decide +kernel
theorem xs_3 : ∀ i, i < 3 → lnf 2 bX bY i = ([3, 2, 0] : List Int).getD i 0 := by decide +kernel
/-- The networks that are not valid. -/
def NetsAt (w : World) (k : Nat) : Prop := ∀ i, i < 9 → ∃ S N A n c f, w.cell? ⟨k, i * 3, none⟩ = some (.int .i64 S) ∧ w.cell? ⟨k, i * 3 + 1, none⟩ = some (.int .i64 N) ∧ w.cell? ⟨k, i * 3 + 2, none⟩ = some (.slice A n c) ∧ L2.Holds w w.heap.size A n f ∧ n ≤ 100 ∧ nck S N n f = 8 ∧ k < w.heap.size
set_option maxHeartbeats 1600000 in
theorem nets_ok (w : World) (m : Array Value) (hm : madeCells #[.int .i64 0] 65 = m) : NetsAt ((((((((w.alloc (.cells #[.int .i64 0] 3)).alloc (.cells #[.int .i64 0] 3)).alloc (.cells #[.int .i64 0] 3)).alloc (.cells #[.int .i64 0] 3)).alloc (.cells #[.int .i64 4] 3)).alloc (.cells #[.int .i64 (-1)] 3)).alloc (.cells m 3)).alloc (.cells #[.int .i64 0, .int .i64 0, .slice none 0 0, .int .i64 8, .int .i64 3, .slice (some ⟨w.heap.size, 0, none⟩) 1 1, .int .i64 41, .int .i64 41, .slice (some ⟨w.heap.size + 1, 0, none⟩) 1 1, .int .i64 8, .int .i64 0, .slice (some ⟨w.heap.size + 2, 0, none⟩) 1 1, .int .i64 8, .int .i64 16, .slice (some ⟨w.heap.size + 3, 0, none⟩) 1 1, .int .i64 8, .int .i64 4, .slice none 0 0, .int .i64 8, .int .i64 4, .slice (some ⟨w.heap.size + 4, 0, none⟩) 1 1, .int .i64 8, .int .i64 4, .slice (some ⟨w.heap.size + 5, 0, none⟩) 1 1, .int .i64 8, .int .i64 4, .slice (some ⟨w.heap.size + 6, 0, none⟩) 65 65] 24)) (w.heap.size + 7) ∧ Below w.heap.size w ((((((((w.alloc (.cells #[.int .i64 0] 3)).alloc (.cells #[.int .i64 0] 3)).alloc (.cells #[.int .i64 0] 3)).alloc (.cells #[.int .i64 0] 3)).alloc (.cells #[.int .i64 4] 3)).alloc (.cells #[.int .i64 (-1)] 3)).alloc (.cells m 3)).alloc (.cells #[.int .i64 0, .int .i64 0, .slice none 0 0, .int .i64 8, .int .i64 3, .slice (some ⟨w.heap.size, 0, none⟩) 1 1, .int .i64 41, .int .i64 41, .slice (some ⟨w.heap.size + 1, 0, none⟩) 1 1, .int .i64 8, .int .i64 0, .slice (some ⟨w.heap.size + 2, 0, none⟩) 1 1, .int .i64 8, .int .i64 16, .slice (some ⟨w.heap.size + 3, 0, none⟩) 1 1, .int .i64 8, .int .i64 4, .slice none 0 0, .int .i64 8, .int .i64 4, .slice (some ⟨w.heap.size + 4, 0, none⟩) 1 1, .int .i64 8, .int .i64 4, .slice (some ⟨w.heap.size + 5, 0, none⟩) 1 1, .int .i64 8, .int .i64 4, .slice (some ⟨w.heap.size + 6, 0, none⟩) 65 65] 24)) := by
  obtain ⟨w1, e1⟩ : ∃ x, x = w.alloc (.cells #[.int .i64 0] 3) := ⟨_, rfl⟩
  have s1 : w1.heap.size = w.heap.size + 1 := by rw [e1]; simp
  have g1 : LV w1 (some ⟨w.heap.size, 0, none⟩) 1 (fun i => ([0] : List Int).getD i 0) := by rw [e1]; exact lv_lit w [0] _ rfl
  have b1 : Below w.heap.size w w1 := by rw [e1]; exact bel_alloc _ _
  obtain ⟨w2, e2⟩ : ∃ x, x = w1.alloc (.cells #[.int .i64 0] 3) := ⟨_, rfl⟩
  have s2 : w2.heap.size = w.heap.size + 2 := by rw [e2]; simp; omega
  have g2 : LV w2 (some ⟨w1.heap.size, 0, none⟩) 1 (fun i => ([0] : List Int).getD i 0) := by rw [e2]; exact lv_lit w1 [0] _ rfl
  have b2 : Below w1.heap.size w1 w2 := by rw [e2]; exact bel_alloc _ _
  obtain ⟨w3, e3⟩ : ∃ x, x = w2.alloc (.cells #[.int .i64 0] 3) := ⟨_, rfl⟩
  have s3 : w3.heap.size = w.heap.size + 3 := by rw [e3]; simp; omega
  have g3 : LV w3 (some ⟨w2.heap.size, 0, none⟩) 1 (fun i => ([0] : List Int).getD i 0) := by rw [e3]; exact lv_lit w2 [0] _ rfl
  have b3 : Below w2.heap.size w2 w3 := by rw [e3]; exact bel_alloc _ _
  obtain ⟨w4, e4⟩ : ∃ x, x = w3.alloc (.cells #[.int .i64 0] 3) := ⟨_, rfl⟩
  have s4 : w4.heap.size = w.heap.size + 4 := by rw [e4]; simp; omega
  have g4 : LV w4 (some ⟨w3.heap.size, 0, none⟩) 1 (fun i => ([0] : List Int).getD i 0) := by rw [e4]; exact lv_lit w3 [0] _ rfl
  have b4 : Below w3.heap.size w3 w4 := by rw [e4]; exact bel_alloc _ _
  obtain ⟨w5, e5⟩ : ∃ x, x = w4.alloc (.cells #[.int .i64 4] 3) := ⟨_, rfl⟩
  have s5 : w5.heap.size = w.heap.size + 5 := by rw [e5]; simp; omega
  have g5 : LV w5 (some ⟨w4.heap.size, 0, none⟩) 1 (fun i => ([4] : List Int).getD i 0) := by rw [e5]; exact lv_lit w4 [4] _ rfl
  have b5 : Below w4.heap.size w4 w5 := by rw [e5]; exact bel_alloc _ _
  obtain ⟨w6, e6⟩ : ∃ x, x = w5.alloc (.cells #[.int .i64 (-1)] 3) := ⟨_, rfl⟩
  have s6 : w6.heap.size = w.heap.size + 6 := by rw [e6]; simp; omega
  have g6 : LV w6 (some ⟨w5.heap.size, 0, none⟩) 1 (fun i => ([-1] : List Int).getD i 0) := by rw [e6]; exact lv_lit w5 [-1] _ rfl
  have b6 : Below w5.heap.size w5 w6 := by rw [e6]; exact bel_alloc _ _
  obtain ⟨w7, e7⟩ : ∃ x, x = w6.alloc (.cells m 3) := ⟨_, rfl⟩
  have s7 : w7.heap.size = w.heap.size + 7 := by rw [e7]; simp; omega
  have g7 : LV w7 (some ⟨w6.heap.size, 0, none⟩) 65 (fun _ => 0) := by rw [e7, ← hm]; exact ⟨((L2.RowL.made w6 65).row).holds (by simp)⟩
  have b7 : Below w6.heap.size w6 w7 := by rw [e7]; exact bel_alloc _ _
  obtain ⟨w8, e8⟩ : ∃ x, x = w7.alloc (.cells #[.int .i64 0, .int .i64 0, .slice none 0 0, .int .i64 8, .int .i64 3, .slice (some ⟨w.heap.size, 0, none⟩) 1 1, .int .i64 41, .int .i64 41, .slice (some ⟨w.heap.size + 1, 0, none⟩) 1 1, .int .i64 8, .int .i64 0, .slice (some ⟨w.heap.size + 2, 0, none⟩) 1 1, .int .i64 8, .int .i64 16, .slice (some ⟨w.heap.size + 3, 0, none⟩) 1 1, .int .i64 8, .int .i64 4, .slice none 0 0, .int .i64 8, .int .i64 4, .slice (some ⟨w.heap.size + 4, 0, none⟩) 1 1, .int .i64 8, .int .i64 4, .slice (some ⟨w.heap.size + 5, 0, none⟩) 1 1, .int .i64 8, .int .i64 4, .slice (some ⟨w.heap.size + 6, 0, none⟩) 65 65] 24) := ⟨_, rfl⟩
  have s8 : w8.heap.size = w.heap.size + 8 := by rw [e8]; simp; omega
  have b8 : Below w7.heap.size w7 w8 := by rw [e8]; exact bel_alloc _ _
  have G1 := (((((((g1).next b2).next b3).next b4).next b5).next b6).next b7).next b8
  rw [show w.heap.size = w.heap.size from rfl] at G1
  have G2 := ((((((g2).next b3).next b4).next b5).next b6).next b7).next b8
  rw [s1] at G2
  have G3 := (((((g3).next b4).next b5).next b6).next b7).next b8
  rw [s2] at G3
  have G4 := ((((g4).next b5).next b6).next b7).next b8
  rw [s3] at G4
  have G5 := (((g5).next b6).next b7).next b8
  rw [s4] at G5
  have G6 := ((g6).next b7).next b8
  rw [s5] at G6
  have G7 := (g7).next b8
  rw [s6] at G7
  have B1 := b1
  have B2 := B1.trans (b2.mono B1.size)
  have B3 := B2.trans (b3.mono B2.size)
  have B4 := B3.trans (b4.mono B3.size)
  have B5 := B4.trans (b5.mono B4.size)
  have B6 := B5.trans (b6.mono B5.size)
  have B7 := B6.trans (b7.mono B6.size)
  have B8 := B7.trans (b8.mono B7.size)
  rw [← e1, ← e2, ← e3, ← e4, ← e5, ← e6, ← e7, ← e8]
  refine ⟨fun i hi => ?_, B8⟩
  have hw : w8.heap[w.heap.size + 7]? = some (.cells #[.int .i64 0, .int .i64 0, .slice none 0 0, .int .i64 8, .int .i64 3, .slice (some ⟨w.heap.size, 0, none⟩) 1 1, .int .i64 41, .int .i64 41, .slice (some ⟨w.heap.size + 1, 0, none⟩) 1 1, .int .i64 8, .int .i64 0, .slice (some ⟨w.heap.size + 2, 0, none⟩) 1 1, .int .i64 8, .int .i64 16, .slice (some ⟨w.heap.size + 3, 0, none⟩) 1 1, .int .i64 8, .int .i64 4, .slice none 0 0, .int .i64 8, .int .i64 4, .slice (some ⟨w.heap.size + 4, 0, none⟩) 1 1, .int .i64 8, .int .i64 4, .slice (some ⟨w.heap.size + 5, 0, none⟩) 1 1, .int .i64 8, .int .i64 4, .slice (some ⟨w.heap.size + 6, 0, none⟩) 65 65] 24 (0, 0)) := by rw [← s7, e8]; exact World.alloc_heap_new w7 _
  have hk : w.heap.size + 7 < w8.heap.size := by omega
  rw [Lib.cell_of_heap hw, Lib.cell_of_heap hw, Lib.cell_of_heap hw]
  have hc : i = 0 ∨ i = 1 ∨ i = 2 ∨ i = 3 ∨ i = 4 ∨ i = 5 ∨ i = 6 ∨ i = 7 ∨ i = 8 := by omega
  rcases hc with rfl | rfl | rfl | rfl | rfl | rfl | rfl | rfl | rfl
  · exact ⟨_, _, _, _, _, fun _ => 0, rfl, rfl, rfl, fun h => absurd h (Nat.lt_irrefl 0), by decide, by decide +kernel, hk⟩
  · exact ⟨_, _, _, _, _, _, rfl, rfl, rfl, G1.h, by decide, by decide +kernel, hk⟩
  · exact ⟨_, _, _, _, _, _, rfl, rfl, rfl, G2.h, by decide, by decide +kernel, hk⟩
  · exact ⟨_, _, _, _, _, _, rfl, rfl, rfl, G3.h, by decide, by decide +kernel, hk⟩
  · exact ⟨_, _, _, _, _, _, rfl, rfl, rfl, G4.h, by decide, by decide +kernel, hk⟩
  · exact ⟨_, _, _, _, _, fun _ => 0, rfl, rfl, rfl, fun h => absurd h (Nat.lt_irrefl 0), by decide, by decide +kernel, hk⟩
  · exact ⟨_, _, _, _, _, _, rfl, rfl, rfl, G5.h, by decide, by decide +kernel, hk⟩
  · exact ⟨_, _, _, _, _, _, rfl, rfl, rfl, G6.h, by decide, by decide +kernel, hk⟩
  · exact ⟨_, _, _, _, _, _, rfl, rfl, rfl, G7.h, by decide, by decide +kernel, hk⟩
end Go.Proofs.Ythipdfkgeghooaa
