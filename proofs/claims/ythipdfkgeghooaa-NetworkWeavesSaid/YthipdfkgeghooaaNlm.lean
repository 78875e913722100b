/- The line of some points: arithmetic; the stops (the points and one behind them). -/
import Derived.Test.YthipdfkgeghooaaNpo
import Derived.Deep.AppendSrc
import Derived.BigRegion
namespace Go.Proofs.Ythipdfkgeghooaa
open Go.RowKit
set_option maxRecDepth 100000
set_option linter.unusedVariables false
set_option linter.unusedSimpArgs false

/-- The stops: the points, and a level step behind the last one. -/
def Px (n : Nat) (X : Nat → Nat) (i : Nat) : Nat := if i < n then X i else X (n - 1) + 1
def Qx (n : Nat) (Y : Nat → Nat) (i : Nat) : Nat := if i < n then Y i else Y (n - 1)
theorem px_lt {n : Nat} {X : Nat → Nat} {i : Nat} (h : i < n) : Px n X i = X i := if_pos h
theorem qx_lt {n : Nat} {Y : Nat → Nat} {i : Nat} (h : i < n) : Qx n Y i = Y i := if_pos h
theorem px_n (n : Nat) (X : Nat → Nat) : Px n X n = X (n - 1) + 1 := if_neg (Nat.lt_irrefl n)
theorem px_up {n : Nat} {X Y : Nat → Nat} (h : PtOk n X Y) {i : Nat} (hi : i < n) : Px n X i < Px n X (i + 1) := by
  rcases Nat.lt_or_ge (i + 1) n with h1 | h1
  · rw [px_lt hi, px_lt h1]; exact h.up i h1
  · obtain rfl : i + 1 = n := by omega
    rw [px_lt hi, px_n]; simp
theorem px_mono {n : Nat} {X Y : Nat → Nat} (h : PtOk n X Y) {i : Nat} : ∀ {j : Nat}, i ≤ j → j ≤ n → Px n X i ≤ Px n X j := by
  intro j hij
  induction j with
  | zero => intro _; obtain rfl : i = 0 := by omega
            exact Nat.le_refl _
  | succ j ih =>
    intro hj
    rcases Nat.eq_or_lt_of_le hij with rfl | h1
    · exact Nat.le_refl _
    · have := ih (by omega) (by omega)
      have := px_up h (show j < n by omega)
      omega
theorem px_le {n : Nat} {X Y : Nat → Nat} (h : PtOk n X Y) {i : Nat} (hi : i ≤ n) : Px n X i ≤ 64 := by
  have h1 := px_mono h hi (Nat.le_refl n)
  have h2 := h.xs (n - 1) (by have := h.n0; omega)
  rw [px_n] at h1
  omega
theorem qx_le {n : Nat} {X Y : Nat → Nat} (h : PtOk n X Y) (i : Nat) : Qx n Y i ≤ 1000 := by
  unfold Qx
  split
  · exact h.ys i (by assumption)
  · exact h.ys (n - 1) (by have := h.n0; omega)
/-- The height at x by the first k steps. -/
def lnk (P Q : Nat → Nat) : Nat → Nat → Nat
  | 0, _ => 0
  | k + 1, x => if P k ≤ x then hgt (P k) (Q k) (P (k + 1)) (Q (k + 1)) x else lnk P Q k x
theorem lnk_at {P Q : Nat → Nat} {i x : Nat} : ∀ {k : Nat}, i < k → (∀ j, j < k → i < j → x < P j) → P i ≤ x → lnk P Q k x = hgt (P i) (Q i) (P (i + 1)) (Q (i + 1)) x
  | 0, h, _, _ => by omega
  | k + 1, h, h1, h2 => by
    unfold lnk
    by_cases e : i = k
    · subst e; rw [if_pos h2]
    · have := h1 k (by omega) (by omega)
      rw [if_neg (by omega)]
      exact lnk_at (by omega) (fun j hj hi => h1 j (by omega) hi) h2
/-- The line of some points. -/
def lnf (n : Nat) (X Y : Nat → Nat) (x : Nat) : Int := ((lnk (Px n X) (Qx n Y) n x : Nat) : Int)
theorem lnf_at {n : Nat} {X Y : Nat → Nat} (h : PtOk n X Y) {i x : Nat} (hi : i < n) (h1 : Px n X i ≤ x) (h2 : x < Px n X (i + 1)) : lnf n X Y x = ((hgt (Px n X i) (Qx n Y i) (Px n X (i + 1)) (Qx n Y (i + 1)) x : Nat) : Int) := by
  unfold lnf
  rw [lnk_at hi (fun j hj hij => Nat.lt_of_lt_of_le h2 (px_mono h (show i + 1 ≤ j from hij) (by omega))) h1]
theorem lnf_pt {n : Nat} {X Y : Nat → Nat} (h : PtOk n X Y) {i : Nat} (hi : i < n) : lnf n X Y (X i) = ((Y i : Nat) : Int) := by
  have hu := px_up h hi
  have e := px_lt (X := X) hi
  rw [lnf_at h (x := X i) hi (by rw [e]; exact Nat.le_refl _) (by rw [← e]; exact hu)]
  rw [← e, hgt_left hu, qx_lt hi]
theorem lnf_line {n : Nat} {X Y : Nat → Nat} (h : PtOk n X Y) : LineR n X Y (lnf n X Y) := by
  have hn := h.n0
  refine ⟨fun i hi x h1 h2 => ?_, lnf_pt h (by omega)⟩
  have hu := h.up i hi
  rcases Nat.lt_or_ge x (X (i + 1)) with h3 | h3
  · rw [lnf_at h (i := i) (by omega) (by rw [px_lt (by omega)]; exact h1) (by rw [px_lt hi]; exact h3), px_lt (by omega), px_lt hi, qx_lt (by omega), qx_lt hi]
  · obtain rfl : x = X (i + 1) := by omega
    rw [lnf_pt h hi, hgt_right hu]
theorem Try.info52 : (Try.prog.info? 52).map (fun i => (i.zero, i.size, i.bytes)) = some (some (.agg #[.int .i64 0, .int .i64 0]), 2, 16) := by kernel_rfl
/-- The stops lie in a row of the call's own. -/
def StR (w : World) (g n : Nat) (X Y : Nat → Nat) : Prop := ∃ cs : Array Value, w.heap[g]? = some (.cells cs 52 (0, 0)) ∧ ∀ i, i ≤ n → cs[i * 2]? = some (.int .i64 (Px n X i : Nat)) ∧ cs[i * 2 + 1]? = some (.int .i64 (Qx n Y i : Nat))
theorem StR.below {w w' : World} {g n : Nat} {X Y : Nat → Nat} (h : StR w g n X Y) (hb : Below w.heap.size w w') : StR w' g n X Y := by
  obtain ⟨cs, h1, h2⟩ := h
  exact ⟨cs, (hb.block g (Array.getElem?_eq_some_iff.1 h1).1).trans h1, h2⟩
theorem StR.lt {w : World} {g n : Nat} {X Y : Nat → Nat} (h : StR w g n X Y) : g < w.heap.size := by
  obtain ⟨cs, h1, _⟩ := h
  exact (Array.getElem?_eq_some_iff.1 h1).1
theorem StR.cell {w : World} {g n : Nat} {X Y : Nat → Nat} (h : StR w g n X Y) {i : Nat} (hi : i ≤ n) : w.cell? ⟨g, i * 2, none⟩ = some (.int .i64 (Px n X i : Nat)) ∧ w.cell? ⟨g, i * 2 + 1, none⟩ = some (.int .i64 (Qx n Y i : Nat)) := by
  obtain ⟨cs, h1, h2⟩ := h
  exact ⟨(Lib.cell_of_heap h1 _).trans (h2 i hi).1, (Lib.cell_of_heap h1 _).trans (h2 i hi).2⟩
def Apx (l : Array TypeId) (t : TypeId) (v : Array Value) : Sem Value := Builtin.append_ l t v
theorem apx_eq (l : Array TypeId) (t : TypeId) (v : Array Value) : Builtin.append_ l t v = Apx l t v := rfl
/-- The cells of a list of points. -/
def pcs (n : Nat) (X Y : Nat → Nat) : List Value := (List.range n).flatMap fun i => [.int .i64 (X i : Nat), .int .i64 (Y i : Nat)]
theorem pcs_succ (n : Nat) (X Y : Nat → Nat) : pcs (n + 1) X Y = pcs n X Y ++ [.int .i64 (X n : Nat), .int .i64 (Y n : Nat)] := by
  unfold pcs; rw [List.range_succ, List.flatMap_append]; rfl
theorem pcs_len (n : Nat) (X Y : Nat → Nat) : (pcs n X Y).length = n * 2 := by
  induction n with
  | zero => rfl
  | succ n ih => rw [pcs_succ, List.length_append, ih]; simp; omega
theorem pcs_get {X Y : Nat → Nat} : ∀ {n i : Nat}, i < n → (pcs n X Y)[i * 2]? = some (.int .i64 (X i : Nat)) ∧ (pcs n X Y)[i * 2 + 1]? = some (.int .i64 (Y i : Nat))
  | 0, i, h => by omega
  | n + 1, i, h => by
    rw [pcs_succ]
    rcases Nat.lt_or_ge i n with h1 | h1
    · rw [List.getElem?_append_left (by rw [pcs_len]; omega), List.getElem?_append_left (by rw [pcs_len]; omega)]
      exact pcs_get h1
    · obtain rfl : i = n := by omega
      rw [List.getElem?_append_right (by rw [pcs_len]; omega), List.getElem?_append_right (by rw [pcs_len]; omega), pcs_len]
      simp
theorem pcs_inv {n j : Nat} {X Y : Nat → Nat} {u : Value} (h : (pcs n X Y)[j]? = some u) : j / 2 < n ∧ ((j % 2 = 0 ∧ u = .int .i64 (X (j / 2) : Nat)) ∨ (j % 2 = 1 ∧ u = .int .i64 (Y (j / 2) : Nat))) := by
  have hj : j < n * 2 := by
    have := (List.getElem?_eq_some_iff.1 h).1
    rwa [pcs_len] at this
  have h1 : j / 2 < n := by omega
  have h2 := pcs_get (X := X) (Y := Y) h1
  refine ⟨h1, ?_⟩
  rcases Nat.mod_two_eq_zero_or_one j with e | e
  · rw [show j / 2 * 2 = j by omega] at h2
    exact .inl ⟨e, by rw [h] at h2; exact Option.some.inj h2.1⟩
  · rw [show j / 2 * 2 + 1 = j by omega] at h2
    exact .inr ⟨e, by rw [h] at h2; exact Option.some.inj h2.2⟩
/-- 'append(points[:n:n], Point{..})'. -/
theorem run_stops (w : World) (n : Nat) (b o : Nat) (X Y : Nat → Nat) (hn : 1 ≤ n) (hn2 : n ≤ 1000) (ad : Nat) (hc : ∀ i, i < n → w.cell? ⟨b, o + i * 2, none⟩ = some (.int .i64 (X i : Nat)) ∧ w.cell? ⟨b, o + i * 2 + 1, none⟩ = some (.int .i64 (Y i : Nat)))
    (ha : w.cell? ⟨ad, 0, none⟩ = some (.int .i64 ((X (n - 1) + 1 : Nat) : Int))) (ha2 : w.cell? ⟨ad, 1, none⟩ = some (.int .i64 (Y (n - 1) : Nat))) :
    ∃ c w', (Builtin.append_ #[41, 41] 41 #[.slice (some ⟨b, o, none⟩) n n, .slice (some ⟨ad, 0, none⟩) 1 1]).run Try.prog w = .ok (.slice (some ⟨w.heap.size, 0, none⟩) (n + 1) c) w' ∧ StR w' w.heap.size n X Y ∧ Below w.heap.size w w' ∧ n + 1 ≤ c := by
  obtain ⟨i0, hi, hz0, hz1, hz2⟩ := info_parts Try.info52
  have e1 : ∀ (b o j : Nat), Addr.add ⟨b, o, none⟩ j = ⟨b, o + j, none⟩ := fun b o j => by unfold Addr.add; by_cases h : j = 0 <;> simp [h]
  have hrun := run_append_grow (P := Try.prog) (w := w) 41 41 52 i0 (.agg #[.int .i64 0, .int .i64 0]) Try.underlying41 hi hz0 ⟨b, o, none⟩ n n (pcs n X Y) (by rw [hz1, pcs_len])
    (fun j u hu => by
      obtain ⟨h1, h2⟩ := pcs_inv hu
      rw [e1]
      rcases h2 with ⟨h2, rfl⟩ | ⟨h2, rfl⟩
      · have := (hc _ h1).1
        rwa [show o + j / 2 * 2 = o + j by omega] at this
      · have := (hc _ h1).2
        rwa [show o + j / 2 * 2 + 1 = o + j by omega] at this)
    ⟨ad, 0, none⟩ 1 1 [.int .i64 ((X (n - 1) + 1 : Nat) : Int), .int .i64 (Y (n - 1) : Nat)] (by rw [hz1]; rfl)
    (fun j u hj => by
      rw [e1]
      match j, hj with
      | 0, hj => simp at hj; subst hj; simpa using ha
      | 1, hj => simp at hj; subst hj; simpa using ha2)
    (by omega) (by omega) (growslice_fits (by omega) (by rw [hz2]; omega))
  refine ⟨_, _, hrun, ⟨_, World.alloc_heap_new _ _, fun i hi => ?_⟩, ?_, grownCap_ge _ _ _ _⟩
  · have hl := pcs_len n X Y
    rcases Nat.lt_or_ge i n with h1 | h1
    · rw [px_lt h1, qx_lt h1]
      obtain ⟨g1, g2⟩ := pcs_get (X := X) (Y := Y) h1
      constructor
      · rw [Array.getElem?_append_left (by simp [pcs_len]; omega), Array.getElem?_append_left (by simp [pcs_len]; omega), List.getElem?_toArray]; exact g1
      · rw [Array.getElem?_append_left (by simp [pcs_len]; omega), Array.getElem?_append_left (by simp [pcs_len]; omega), List.getElem?_toArray]; exact g2
    · obtain rfl : i = n := by omega
      rw [px_n, show Qx i Y i = Y (i - 1) from if_neg (Nat.lt_irrefl _)]
      constructor
      · rw [Array.getElem?_append_left (by simp [pcs_len]), Array.getElem?_append_right (by simp [pcs_len])]; simp [pcs_len]
      · rw [Array.getElem?_append_left (by simp [pcs_len]), Array.getElem?_append_right (by simp [pcs_len])]; simp [pcs_len]
  · exact ((Below.refl w.heap.size w).drew).alloc (Nat.le_refl _) _
end Go.Proofs.Ythipdfkgeghooaa
