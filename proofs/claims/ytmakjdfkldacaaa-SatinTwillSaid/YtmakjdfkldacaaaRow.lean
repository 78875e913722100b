/- rowOf and Row: the row of some runs, by contracts. -/
import Derived.Test.YtmakjdfkldacaaaVar
import Derived.Test.YtmakjdfkldacaaaCa
import Derived.Test.YtmakjdfkldacaaaStm
import Derived.Test.YtmakjdfkldacaaaGa
namespace Go.Proofs.Ytmakjdfkldacaaa
open Go.RowKit
set_option maxRecDepth 100000
set_option linter.unusedVariables false
set_option linter.unusedSimpArgs false

/-- append of one cell to a row of bools, where the region draws no order. -/
theorem bapp1 {ops : Array Oper} {rest : List Oper} {o : Oper} {a : Act} {Q : Exit → Act → World → Prop} (w : World) (hgd : o.guard = none) (s x : Operand)
    (ho : o.op = .call { callee := .builtin .append, args := #[s, x], argTypes := #[22, 22] }) (base : Nat) {v : Value} {n : Nat} {f : Nat → Bool} (hs : a.eval s = v) (hown : BOwn w base v n f)
    (y : Bool) (hx : a.eval x = .slice (some ⟨w.heap.size, 0, none⟩) 1 1) (hy : f n = y) (hn : n ≤ 100000) (hb : base ≤ w.heap.size)
    (h : ∀ v' w', BOwn w' base v' (n + 1) f → Below base w w' → wpList Try.prog ops Q rest (a.put o.dst v') w') :
    wpList Try.prog ops Q (o :: rest) a (w.alloc (.cells #[.bool y] 4)) := by
  obtain ⟨i0, hi, hz0, hz1, hz2⟩ := info_parts Try.info4
  refine wpList_append_own _ hgd s x 22 ho base 4 i0 (.bool false) 1 1 Try.underlying22 hi hz0 hz1 hz2 rfl (by decide) v n _ hs (hown.alloc _) ⟨w.heap.size, 0, none⟩ 1 1 [.bool y] hx rfl (cell_one_new _ _ _) (by intro u hu; simp at hu; subst hu; rfl)
    (by unfold maxLen; omega) (by omega) (by simp; omega) ?_
  intro v' w' ho' hg _
  refine h v' w' ?_ ?_
  · unfold BOwn
    rw [bnews_succ, hy]
    exact ho'
  · refine Below.grown ((Below.refl _ _).alloc hb _) hg (by simp; omega) fun k hk => (hown.block hk).1
theorem BOwn.nil (w : World) (base : Nat) (f : Nat → Bool) : BOwn w base (.slice none 0 0) 0 f := World.ownsRow_nil _ _ _ _
theorem BOwn.bel {w w' : World} {base n : Nat} {v : Value} {f : Nat → Bool} (h : BOwn w base v n f) (hb : Below w.heap.size w w') : BOwn w' base v n f := h.keep fun k _ hk => hb.block k hk
/-- What lies while a row is laid: the result's variable, and all that was there. -/
structure RS (w wr : World) : Prop where
  box : Box wr w.heap.size 0 0 (.slice none 0 0)
  bel : Below w.heap.size w wr
theorem RS.new (w : World) : RS w (w.alloc (.cells #[.int .i64 0, .int .i64 0, .slice none 0 0] 24)) := ⟨Box.new w 0 0 _, (Below.refl _ _).alloc (Nat.le_refl _) _⟩
theorem RS.sz {w wr : World} (h : RS w wr) : w.heap.size + 1 ≤ wr.heap.size := h.box.lt
theorem RS.step {w wr w' : World} (h : RS w wr) (hb : Below (w.heap.size + 1) wr w') : RS w w' := ⟨h.box.below hb (by omega), h.bel.trans (hb.mono (by omega))⟩
/-- A grid of one row came back. -/
def RowG (w : World) (N : Nat) (F : Nat → Bool) (e : Ending) (w' : World) : Prop := ∃ k d, e = .returned (.agg #[.int .i64 (N : Nat), .int .i64 1, .slice (some ⟨k, 0, none⟩) N d]) ∧ w.heap.size ≤ k ∧ Row w' k N F ∧ Below w.heap.size w w'
theorem rowg_end {w wr : World} {N : Nat} {F : Nat → Bool} {l : Value} (hN : 0 < N) (h : BOwn wr (w.heap.size + 1) l N F) (hs : RS w wr) : ∃ k d, l = .slice (some ⟨k, 0, none⟩) N d ∧ ∀ a b c : Value, RowG w N F (.returned (.agg #[.int .i64 (N : Nat), .int .i64 1, .slice (some ⟨k, 0, none⟩) N d])) (((wr.setCell ⟨w.heap.size, 0, none⟩ a).setCell ⟨w.heap.size, 1, none⟩ b).setCell ⟨w.heap.size, 2, none⟩ c) := by
  obtain ⟨A, c, rfl, h1⟩ := h.out
  obtain ⟨k, rfl, h2, h3⟩ := h1 hN
  exact ⟨k, c, rfl, fun x y z => ⟨k, c, rfl, by omega, ((h3.far (p := ⟨w.heap.size, 0, none⟩) (by simp; omega) x).far (p := ⟨w.heap.size, 1, none⟩) (by simp; omega) y).far (p := ⟨w.heap.size, 2, none⟩) (by simp; omega) z, (((hs.bel.setCell (by simp) _).setCell (by simp) _).setCell (by simp) _)⟩⟩
set_option maxHeartbeats 1600000 in
theorem prow_any {f : Nat → Int} {n : Nat} (hv : VR f n) (A : Option Addr) (c : Nat) (w : World) (hr : L2.Holds w w.heap.size A n f) : Calls Try.prog 44 #[.slice A n c] w (RowG w (sm f n) (rowf f n)) := by
  have n2 := hv.n2
  have n3 := hv.nle
  have s2 := hv.sge
  obtain ⟨b, o, rfl, hb, hc⟩ := li_cells hr (by omega)
  have HV := Lib.hid hv
  have HC := Lib.hid (fun u (h : Below w.heap.size w u) i (hi : i < n) => (h.cell (p := ⟨b, o + i, none⟩) hb).trans (hc i hi))
  clear hc hr hv
  have R0 := Lib.hid (RS.new w)
  go_enter Try.func44, Try.ntmps44
  go_wp2
  go_loopw [3, 8] (fun l i wr => ∃ k : Nat, k ≤ n ∧ i = .int .i64 k ∧ Hid (BOwn wr (w.heap.size + 1) l (sm f k) (rowf f n)) ∧ Hid (RS w wr)) (fun _ i _ => n - (intOf i).toNat)
  case atStart => exact ⟨0, by omega, rfl, Lib.hid (BOwn.nil _ _ _), R0⟩
  case round =>
    obtain ⟨k, hk, rfl, HO, HS⟩ := hrel
    by_cases hlk : k < n
    · have x1 : (k : Int) < (n : Int) := by omega
      have c1 := HC.out _ HS.out.bel k hlk
      have g1 := HV.out.ge k hlk
      have g2 := HV.out.one hlk
      have HK := Lib.hid (fun j (h : j < (f k).toNat) => rowf_at (f := f) (N := n) (k := k) (i := sm f k + j) hlk (by omega) (by show _ < sm f k + (f k).toNat; omega))
      have HN := Lib.hid (show sm f (k + 1) = sm f k + (f k).toNat from rfl)
      obtain ⟨y, hy⟩ := Int.eq_ofNat_of_zero_le (show 0 ≤ f k by omega)
      rw [hy] at c1 g1 g2 HK HN
      clear hy
      try simp only [Int.ofNat_eq_natCast, Int.toNat_natCast] at c1 g1 g2 HK HN
      have hs64 : sm f k ≤ 64 := by omega
      have y64 : y ≤ 64 := by omega
      generalize sm f k = s at *
      have e1 := tm2 k
      obtain ⟨p, hp⟩ : ∃ p : Nat, k % 2 = p := ⟨_, rfl⟩
      rw [hp] at e1 HK
      have p2 : p = 0 ∨ p = 1 := by omega
      clear hp
      go_wp2
      go_loopw [3, 14] (fun l i wr => ∃ j : Nat, j ≤ y ∧ i = .int .i64 j ∧ Hid (BOwn wr (w.heap.size + 1) l (s + j) (rowf f n)) ∧ Hid (RS w wr)) (fun _ i _ => y - (intOf i).toNat)
      case atStart => exact ⟨0, by omega, rfl, HO, HS⟩
      case round =>
        obtain ⟨j, hj, rfl, HO2, HS2⟩ := hrel
        by_cases hlj : j < y
        · have x2 : (j : Int) < (y : Int) := by omega
          have HY := Lib.hid (HK.out j hlj)
          have hsz := HS2.out.sz
          rcases p2 with rfl | rfl
          · go_wp2_with (at_builtin; refine bapp1 _ rfl _ _ (by rfl) (w.heap.size + 1) (by rfl) HO2.out true (by rfl) HY.out (by omega) hsz ?_; intro v' w5 hown5 hb5; have HO5 := Lib.hid hown5; have HB5 := Lib.hid hb5; clear hown5 hb5)
            exact ⟨⟨j + 1, by omega, by go_num, HO5, Lib.hid (HS2.out.step HB5.out)⟩, by simp [intOf]; omega⟩
          · go_wp2_with (at_builtin; refine bapp1 _ rfl _ _ (by rfl) (w.heap.size + 1) (by rfl) HO2.out false (by rfl) HY.out (by omega) hsz ?_; intro v' w5 hown5 hb5; have HO5 := Lib.hid hown5; have HB5 := Lib.hid hb5; clear hown5 hb5)
            exact ⟨⟨j + 1, by omega, by go_num, HO5, Lib.hid (HS2.out.step HB5.out)⟩, by simp [intOf]; omega⟩
        · have e : j = y := by omega
          subst e
          have x2 : ¬ (j : Int) < (j : Int) := by omega
          go_wp2
          exact ⟨⟨k + 1, by omega, by go_num, by rw [HN.out]; exact HO2, HS2⟩, by simp [intOf]; omega⟩
    · have e : k = n := by omega
      subst e
      have x1 : ¬ (k : Int) < (k : Int) := by omega
      obtain ⟨r, d, rfl, HF⟩ := rowg_end (by omega) HO.out HS.out
      have HF := Lib.hid HF
      generalize sm f k = N at *
      obtain ⟨q0, q1, q2, q3, q4, q5, q6⟩ := HS.out.box.all
      go_wp2
      refine bodyPost_ret (v := .agg #[.int .i64 (N : Nat), .int .i64 1, .slice (some ⟨r, 0, none⟩) N d]) (by simp [results, Try.results44, go_sem, q0, q1, q2]) rfl ?_
      exact HF.out _ _ _
/-- A list of bools came back. -/
def BRet (w : World) (N : Nat) (F : Nat → Bool) (e : Ending) (w' : World) : Prop := ∃ k d, e = .returned (.slice (some ⟨k, 0, none⟩) N d) ∧ w.heap.size ≤ k ∧ Row w' k N F ∧ Below w.heap.size w w'
theorem bret_end {w wr : World} {N : Nat} {F : Nat → Bool} {l : Value} (hN : 0 < N) (h : BOwn wr w.heap.size l N F) (hs : Below w.heap.size w wr) : BRet w N F (.returned l) wr := by
  obtain ⟨A, c, rfl, h1⟩ := h.out
  obtain ⟨k, rfl, h2, h3⟩ := h1 hN
  exact ⟨k, c, rfl, h2, h3, hs⟩
set_option maxHeartbeats 1600000 in
theorem rrow_any {f : Nat → Int} {n : Nat} (hv : VR f n) (A : Option Addr) (c : Nat) (w : World) (hr : L2.Holds w w.heap.size A n f) : Calls Try.prog 38 #[.slice A n c] w (BRet w (sm f n) (rowf f n)) := by
  have n2 := hv.n2
  have n3 := hv.nle
  have s2 := hv.sge
  obtain ⟨b, o, rfl, hb, hc⟩ := li_cells hr (by omega)
  have HV := Lib.hid hv
  have HC := Lib.hid (fun u (h : Below w.heap.size w u) i (hi : i < n) => (h.cell (p := ⟨b, o + i, none⟩) hb).trans (hc i hi))
  clear hc hr hv
  go_enter Try.func38, Try.ntmps38
  go_wp2
  go_loopw [3, 4] (fun l i wr => ∃ k : Nat, k ≤ n ∧ i = .int .i64 k ∧ Hid (BOwn wr w.heap.size l (sm f k) (rowf f n)) ∧ Hid (Below w.heap.size w wr)) (fun _ i _ => n - (intOf i).toNat)
  case atStart => exact ⟨0, by omega, rfl, Lib.hid (BOwn.nil _ _ _), Lib.hid (Below.refl _ _)⟩
  case round =>
    obtain ⟨k, hk, rfl, HO, HS⟩ := hrel
    by_cases hlk : k < n
    · have x1 : (k : Int) < (n : Int) := by omega
      have HC1 := Lib.hid (fun u (h : Below w.heap.size w u) => HC.out u h k hlk)
      have g1 := HV.out.ge k hlk
      have g2 := HV.out.one hlk
      have HK := Lib.hid (fun j (h : j < (f k).toNat) => rowf_at (f := f) (N := n) (k := k) (i := sm f k + j) hlk (by omega) (by show _ < sm f k + (f k).toNat; omega))
      have HN := Lib.hid (show sm f (k + 1) = sm f k + (f k).toNat from rfl)
      obtain ⟨y, hy⟩ := Int.eq_ofNat_of_zero_le (show 0 ≤ f k by omega)
      rw [hy] at HC1 g1 g2 HK HN
      clear hy
      try simp only [Int.ofNat_eq_natCast, Int.toNat_natCast] at HC1 g1 g2 HK HN
      have hs64 : sm f k ≤ 64 := by omega
      have y64 : y ≤ 64 := by omega
      generalize sm f k = s at *
      have e1 := tm2 k
      obtain ⟨p, hp⟩ : ∃ p : Nat, k % 2 = p := ⟨_, rfl⟩
      rw [hp] at e1 HK
      have p2 : p = 0 ∨ p = 1 := by omega
      clear hp
      go_wp2
      go_loopw [3, 5] (fun l i wr => ∃ j : Nat, j ≤ y ∧ i = .int .i64 j ∧ Hid (BOwn wr w.heap.size l (s + j) (rowf f n)) ∧ Hid (Below w.heap.size w wr)) (fun _ i _ => y - (intOf i).toNat)
      case atStart => exact ⟨0, by omega, rfl, HO, HS⟩
      case round =>
        obtain ⟨j, hj, rfl, HO2, HS2⟩ := hrel
        have c1 := HC1.out _ HS2.out
        by_cases hlj : j < y
        · have x2 : (j : Int) < (y : Int) := by omega
          have HY := Lib.hid (HK.out j hlj)
          have hsz := HS2.out.size
          rcases p2 with rfl | rfl
          · go_wp2_with (at_builtin; refine bapp1 _ rfl _ _ (by rfl) w.heap.size (by rfl) HO2.out true (by rfl) HY.out (by omega) hsz ?_; intro v' w5 hown5 hb5; have HO5 := Lib.hid hown5; have HB5 := Lib.hid hb5; clear hown5 hb5)
            exact ⟨⟨j + 1, by omega, by go_num, HO5, Lib.hid (HS2.out.trans HB5.out)⟩, by simp [intOf]; omega⟩
          · go_wp2_with (at_builtin; refine bapp1 _ rfl _ _ (by rfl) w.heap.size (by rfl) HO2.out false (by rfl) HY.out (by omega) hsz ?_; intro v' w5 hown5 hb5; have HO5 := Lib.hid hown5; have HB5 := Lib.hid hb5; clear hown5 hb5)
            exact ⟨⟨j + 1, by omega, by go_num, HO5, Lib.hid (HS2.out.trans HB5.out)⟩, by simp [intOf]; omega⟩
        · have e : j = y := by omega
          subst e
          have x2 : ¬ (j : Int) < (j : Int) := by omega
          go_wp2
          exact ⟨⟨k + 1, by omega, by go_num, by rw [HN.out]; exact HO2, HS2⟩, by simp [intOf]; omega⟩
    · have e : k = n := by omega
      subst e
      have x1 : ¬ (k : Int) < (k : Int) := by omega
      have HF := Lib.hid (bret_end (by omega) HO.out HS.out)
      go_wp2
      go_ret
      exact HF.out
end Go.Proofs.Ytmakjdfkldacaaa
