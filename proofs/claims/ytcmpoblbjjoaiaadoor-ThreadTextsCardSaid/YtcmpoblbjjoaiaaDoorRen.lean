/- Renumber, the program's (a map in a closure) and the reference's. -/
import Derived.Test.YtcmpoblbjjoaiaaDoorNum
import Derived.Test.YtcmpoblbjjoaiaaDoorRev
namespace Go.Proofs.YtcmpoblbjjoaiaaDoor
open Go.RowKit Go.Maps
set_option linter.unusedVariables false
set_option linter.unusedSimpArgs false
set_option maxRecDepth 100000

set_option maxHeartbeats 800000 in
/-- 'build' with a function value that may write: 'Inv x' holds of the world behind x calls. -/
theorem build_inv (n : Nat) (hN : n ≤ 4096) (g : Nat) (lb : Array Value) (F : Nat → Int) (w : World) (Inv : Nat → World → Prop) (hst : ∀ x w1 w2, Inv x w1 → Below w.heap.size w1 w2 → Inv x w2)
    (hG : ∀ w1 x, Inv x w1 → w.heap.size < w1.heap.size → x < n → Calls Tryd.prog g (#[.int .i64 x] ++ lb) w1 fun e w' => e = .returned (.int .i64 (F x)) ∧ Inv (x + 1) w' ∧ w1.heap.size ≤ w'.heap.size ∧ w'.heap[w.heap.size]? = w1.heap[w.heap.size]?)
    (h0 : Inv 0 w) (eg : ∀ args w, (callFunc g args).run Tryd.prog w = .ok (.enter g args) w) :
    Calls Tryd.prog 31 #[.int .i64 n, .func (.func g) #[] lb] w fun e w' =>
      ∃ k, e = .returned (.slice (some ⟨k, 0, none⟩) n n) ∧ w.heap.size ≤ k ∧ Row w' k n F ∧ Inv n w' := by
  have hmk := make_run n hN
  have HG := Lib.hid hG
  have HS := Lib.hid hst
  have HI := Lib.hid (hst 0 w _ h0 ((Below.refl _ _).alloc (Nat.le_refl _) (.cells (madeCells #[.int .i64 0] n) 3)))
  clear hG hst h0
  go_enter Tryd.func31, Tryd.ntmps31
  go_wp2
  go_loopw [10] (fun i wr => ∃ k : Nat, k ≤ n ∧ i = .int .i64 k ∧ Row wr w.heap.size n (part F k) ∧ Hid (Inv k wr)) (fun i _ => n - (intOf i).toNat)
  case atStart => exact ⟨0, Nat.zero_le _, rfl, by rw [part_zero]; exact Row.made w n, HI⟩
  case round =>
    obtain ⟨k, hk, rfl, hrow, hinv⟩ := hrel
    by_cases hlt : k < n
    · go_wp2_with (go_at_fn g; refine (HG.out _ k hinv.out hrow.lt hlt).mono ?_; rintro e w1 ⟨rfl, hi1, hz1, hb1⟩; have hrow3 : Row w1 w.heap.size n (part F k) := ⟨hrow.choose, hb1.trans hrow.choose_spec.1, hrow.choose_spec.2⟩; have hcl := hrow3.cell hlt; have hfr := hrow3.free k; have HI1 := Lib.hid hi1; clear hi1 hb1)
      go_roundw
      case rel => exact ⟨k + 1, by omega, by go_num, by have h := hrow3.set_ k (F k); rw [part_succ F k] at h; exact h, Lib.hid (HS.out _ _ _ HI1.out ((Below.refl _ _).setCell (by simp) _))⟩
      case measure => simp [intOf]; omega
    · have e : k = n := by omega
      subst e
      go_wp2
      go_ret
      exact ⟨_, rfl, Nat.le_refl _, hrow.congr fun i hi => by simp [part, hi], hinv.out⟩

/-- What the closure of 'convert' finds, behind k elements. -/
structure CS (W : World) (B b1 b2 : Nat) (A : Option Addr) (n c : Nat) (f : Nat → Int) (k : Nat) (w : World) : Prop where
  num : NumSt w B f k
  bel : Below W.heap.size W w
  l : w.cell? ⟨b1, 0, none⟩ = some (.slice A n c)
  to : w.cell? ⟨b2, 0, none⟩ = some (.func (.func 42) #[.map (some B)] #[])
  hB : W.heap.size ≤ B
  n1 : B < b1
  n2 : b1 < b2
  n3 : b2 < w.heap.size
theorem CS.keep {W : World} {B b1 b2 : Nat} {A : Option Addr} {n c : Nat} {f : Nat → Int} {k : Nat} {w1 w2 : World} (h : CS W B b1 b2 A n c f k w1) (hb : Below (b2 + 1) w1 w2) : CS W B b1 b2 A n c f k w2 := by
  have n1 := h.n1
  have n2 := h.n2
  have hB := h.hB
  exact ⟨h.num.block (hb.block B (by omega)), h.bel.trans (hb.mono (by omega)), (hb.cell (p := ⟨b1, 0, none⟩) (by simp; omega)).trans h.l, (hb.cell (p := ⟨b2, 0, none⟩) (by simp)).trans h.to, hB, n1, n2, Nat.lt_of_lt_of_le h.n3 hb.size⟩

set_option maxHeartbeats 800000 in
theorem conv_clo {W : World} {B b1 b2 : Nat} {A : Option Addr} {n c : Nat} {f : Nat → Int} (hn : n ≤ 400) (hr : Holds W W.heap.size A n f) (hv : ∀ i, i < n → 0 ≤ f i ∧ f i < 400) (w1 : World) (x : Nat) (h : CS W B b1 b2 A n c f x w1) (hz : b2 + 1 < w1.heap.size) (hx : x < n) :
    Calls Tryd.prog 57 (#[.int .i64 x] ++ #[.pointer (some ⟨b2, 0, none⟩), .pointer (some ⟨b1, 0, none⟩)]) w1 fun e w' => e = .returned (.int .i64 (ren f x)) ∧ CS W B b1 b2 A n c f (x + 1) w' ∧ w1.heap.size ≤ w'.heap.size ∧ w'.heap[b2 + 1]? = w1.heap[b2 + 1]? := by
  obtain ⟨b, o, rfl, hlt, hc⟩ := (hr.below h.bel) (by omega)
  have c1 := hc x hx
  have q1 := h.l
  have q2 := h.to
  obtain ⟨u, hu⟩ : ∃ u, f x = u := ⟨_, rfl⟩
  have hv1 := hv x hx
  rw [hu] at c1 hv1
  have HN := Lib.hid (number_any B x f u w1.drew (by omega) h.num hu hv1.1 hv1.2)
  have H := Lib.hid h
  have y1 : (x : Int) < (n : Int) := by omega
  clear hc hr hv hu h
  go_enter Tryd.func57, Tryd.ntmps57
  go_wp2
  go_still_tail 5, (by kernel_rfl)
  change wpList _ _ _ _ _ w1.drew
  go_wp2_with fail
  refine HN.out.mono ?_
  rintro e w2 ⟨rfl, hnum, hg⟩
  have HU := Lib.hid hnum
  have HG := Lib.hid hg
  clear hnum hg
  go_wp2
  go_ret
  have h := H.out
  have n1 := h.n1
  have n2 := h.n2
  have n3 := h.n3
  have hB := h.hB
  have hg : w1.drew.grownBy w2 (some B) := HG.out
  have hs : w1.heap.size ≤ w2.heap.size := hg.size
  have hk : ∀ k, k < w1.heap.size → k ≠ B → w2.heap[k]? = w1.heap[k]? := fun k hk hne => hg.block k hk (by simpa using hne)
  refine ⟨rfl, ⟨HU.out, ?_, ?_, ?_, hB, n1, n2, by omega⟩, hs, hk _ hz (by omega)⟩
  · refine h.bel.trans ⟨hg.os, hg.tape, hg.output, hs, fun k hk' => hk k (Nat.lt_of_lt_of_le hk' h.bel.size) (by omega)⟩
  · exact (World.cell?_of_block (a := ⟨b1, 0, none⟩) (hk b1 (by omega) (by omega))).trans h.l
  · exact (World.cell?_of_block (a := ⟨b2, 0, none⟩) (hk b2 n3 (by omega))).trans h.to

theorem lchk_zero {n : Nat} {f : Nat → Int} (h : lchk n f = 0) : ∀ i, i < n → 0 ≤ f i ∧ f i < 400 := by
  unfold lchk at h
  split at h
  · cases h
  · split at h
    · rename_i h1; exact of_decide_eq_true h1
    · cases h

set_option maxHeartbeats 800000 in
theorem convert_any {W : World} {B : Nat} {A : Option Addr} {n c : Nat} {f : Nat → Int} (hn : n ≤ 400) (hr : Holds W W.heap.size A n f) (hv : ∀ i, i < n → 0 ≤ f i ∧ f i < 400) (w : World) (hnum : NumSt w B f 0) (hbel : Below W.heap.size W w) (hB : W.heap.size ≤ B) :
    Calls Tryd.prog 47 #[.slice A n c, .func (.func 42) #[.map (some B)] #[]] w fun e w' => ∃ k, e = .returned (.slice (some ⟨k, 0, none⟩) n n) ∧ W.heap.size ≤ k ∧ Row w' k n (ren f) ∧ Below W.heap.size W w' := by
  have hmf := mk_fn
  have hlt := hnum.lt
  have H0 := Lib.hid (⟨(hnum.block (Below.heap_alloc w _ B hlt)).block (Below.heap_alloc _ _ B (by simp; omega)), (hbel.alloc hbel.size _).alloc (by simp; exact Nat.le_succ_of_le hbel.size) _,
    by rw [World.cell?_of_block (a := ⟨w.heap.size, 0, none⟩) (Below.heap_alloc _ _ _ (by simp))]; simp only [World.cell?, heap_alloc_new]; rfl,
    by simp only [World.cell?]; rw [show w.heap.size + 1 = (w.alloc (.cells #[.slice A n c] 22)).heap.size by simp, heap_alloc_new]; rfl, hB, hlt, Nat.lt_succ_self _, by simp⟩ :
    CS W B w.heap.size (w.heap.size + 1) A n c f 0 ((w.alloc (.cells #[.slice A n c] 22)).alloc (.cells #[.func (.func 42) #[.map (some B)] #[]] 52)))
  have HC := Lib.hid (fun w1 x h hz hx => conv_clo (W := W) (B := B) (b1 := w.heap.size) (b2 := w.heap.size + 1) (c := c) hn hr hv w1 x h hz hx)
  have q1 := H0.out.l
  clear hr hv hnum
  go_enter Tryd.func47, Tryd.ntmps47
  go_wp2_with fail
  refine (build_inv n (by omega) 57 _ (ren f) _ (CS W B w.heap.size (w.heap.size + 1) A n c f) (fun x w1 w2 h hb => h.keep (by simpa using hb)) (fun w1 x h hz hx => by simpa using HC.out w1 x h (by simpa using hz) hx) H0.out (Go.Proofs.enters_of Tryd.func57 (by kernel_rfl) rfl)).mono ?_
  rintro e w2 ⟨k, rfl, hk, hrow, hcs⟩
  have HF := Lib.hid hcs.bel
  have hk2 : W.heap.size ≤ k := by have := hbel.size; simp at hk; omega
  clear hcs hbel
  have HR := Lib.hid hrow
  clear hrow hk
  go_wp2
  go_ret
  exact ⟨k, rfl, hk2, HR.out, HF.out⟩

set_option maxHeartbeats 400000 in
theorem renumber_err (A : Option Addr) (n c : Nat) (f F : Nat → Int) (w : World) (err : Int) (hn : n ≤ 420) (hr : Holds w w.heap.size A n f) (hx : lchk n f = err) (hne : (err != 0) = true) :
    Calls Tryd.prog 29 #[.slice A n c] w (LOut w 0 F err) := by
  have HC := Lib.hid (chk_is c hn hx w hr)
  clear hx hr
  go_enter Tryd.func29, Tryd.ntmps29
  go_wp2_with fail
  refine HC.out.mono ?_
  rintro e w1 ⟨rfl, hb⟩
  have HF := Lib.hid hb
  clear hb
  go_wp2
  go_ret2
  exact LOut.err HF.out

set_option maxHeartbeats 400000 in
theorem renumber_ok (A : Option Addr) (n c : Nat) (f : Nat → Int) (w : World) (hr : Holds w w.heap.size A n f) (hx : lchk n f = 0) :
    Calls Tryd.prog 29 #[.slice A n c] w (LOut w n (ren f) 0) := by
  have hmf := mk_fn
  have hmm := @run_makeMap Tryd.prog
  have hn := lchk_le hx
  have HR := Lib.hid hr
  have HV := Lib.hid (lchk_zero hx)
  have HC := Lib.hid (chk_is c (by omega) hx w hr)
  clear hx hr
  go_enter Tryd.func29, Tryd.ntmps29
  go_wp2_with fail
  refine HC.out.mono ?_
  rintro e w1 ⟨rfl, hb⟩
  have HB := Lib.hid hb
  clear hb
  go_wp2_with fail
  refine (convert_any (W := w) hn HR.out HV.out _ (NumSt.zero w1 f) (HB.out.alloc HB.out.size _) HB.out.size).mono ?_
  rintro e w2 ⟨k, rfl, hk, hrow, hb2⟩
  have HF := Lib.hid (LOut.row (c := n) hk hrow hb2)
  clear hk hrow hb2
  go_wp2
  go_ret2
  exact HF.out
end Go.Proofs.YtcmpoblbjjoaiaaDoor
