/- DeleteFunc with the function value of Parts. -/
import Derived.Test.YtgmcbdnfgdmmaaaLsh
import Derived.Test.YtgmcbdnfgdmmaaaLpo
import Derived.Lib.OwnBridge
namespace Go.Proofs.Ytgmcbdnfgdmmaaa
open Go.RowKit
set_option maxRecDepth 100000
set_option linter.unusedVariables false
set_option linter.unusedSimpArgs false

/-- An index came back, or -1, and nothing has turned. -/
def Idq (w : World) (n : Nat) (P : Nat → Bool) (e : Ending) (w' : World) : Prop := (∃ r : Int, e = .returned (.int .i64 r) ∧ decide (0 ≤ r) = anyP n P) ∧ w' = w
theorem index_q (D : Option Addr) (n c : Nat) (f : Nat → Int) (v : Int) (w : World) (hn : n ≤ 30000) (hr : L2.Holds w w.heap.size D n f) :
    Calls Try.prog 154 #[.slice D n c, .int .i64 v] w (Idq w n (fun i => f i == v)) := by
  have HR := Lib.hid hr
  clear hr
  go_enter Try.func154, Try.ntmps154
  go_wp2
  go_loop [8] (fun i => ∃ k : Nat, k ≤ n ∧ i = .int .i64 k ∧ Hid (anyP k (fun i => f i == v) = false)) (fun i => n - (intOf i).toNat)
  case atStart => exact ⟨0, Nat.zero_le _, rfl, Lib.hid rfl⟩
  case round =>
    obtain ⟨k, hk, rfl, hall⟩ := hrel
    by_cases hlt : k < n
    · obtain ⟨b, o, rfl, hbl, hc⟩ := HR.out (by omega)
      have c1 := hc k hlt
      clear hc
      have y1 : (0 : Int) ≤ (k : Int) := by omega
      have y2 : (k : Int) < (n : Int) := by omega
      obtain ⟨u, hu⟩ : ∃ u, f k = u := ⟨_, rfl⟩
      rw [hu] at c1
      have HU := Lib.hid hu
      clear hu
      by_cases e : v = u
      · have E := Lib.hid (show decide ((0 : Int) ≤ (k : Nat)) = anyP n (fun i => f i == v) from by
          rw [anyP_hit hlt (P := fun i => f i == v) (by show (f k == v) = true; rw [HU.out, e]; exact beq_self_eq_true _)]
          exact decide_eq_true (by omega))
        subst e
        have z : (v == v) = true := by simp
        go_wp2
        go_ret
        exact ⟨⟨_, rfl, E.out⟩, rfl⟩
      · have E := Lib.hid (show anyP (k + 1) (fun i => f i == v) = false by rw [anyP_succ, hall.out, Bool.false_or]; show (f k == v) = false; rw [HU.out, beq_eq_false_iff_ne]; exact fun h => e h.symm)
        have z : (v == u) = false := by rw [beq_eq_false_iff_ne]; exact e
        clear e
        go_wp2
        go_round
        case rel => exact ⟨k + 1, by omega, by go_num, E⟩
        case measure => simp [intOf]; omega
    · have e : k = n := by omega
      subst e
      have E := Lib.hid (show decide ((0 : Int) ≤ -1) = anyP k (fun i => f i == v) from by rw [hall.out]; rfl)
      go_wp2
      go_ret
      exact ⟨⟨_, rfl, E.out⟩, rfl⟩
theorem contains_q (D : Option Addr) (n c : Nat) (f : Nat → Int) (v : Int) (w : World) (hn : n ≤ 30000) (hr : L2.Holds w w.heap.size D n f) :
    Calls Try.prog 124 #[.slice D n c, .int .i64 v] w fun e w' => e = .returned (.bool (anyP n (fun i => f i == v))) ∧ w' = w := by
  have HI := Lib.hid (index_q D n c f v w hn hr)
  clear hr
  go_enter Try.func124, Try.ntmps124
  go_wp2_with fail
  with_reducible refine Calls.mono HI.out ?_
  rintro e w1 ⟨⟨r, rfl, hd⟩, rfl⟩
  have HD := Lib.hid hd
  clear hd
  go_wp2
  go_ret
  exact ⟨ret_bool HD.out, rfl⟩
/-- The function value of Parts: is it in the part? -/
theorem parts1_q (pb : Nat) (D : Option Addr) (n c : Nat) (f : Nat → Int) (v : Int) (w : World) (hn : n ≤ 30000) (hp : w.cell? ⟨pb, 0, none⟩ = some (.slice D n c)) (hr : L2.Holds w w.heap.size D n f) :
    Calls Try.prog 141 #[.int .i64 v, .pointer (some ⟨pb, 0, none⟩)] w fun e w' => e = .returned (.bool (anyP n (fun i => f i == v))) ∧ w' = w := by
  have HI := Lib.hid (contains_q D n c f v w hn hr)
  clear hr
  go_enter Try.func141, Try.ntmps141
  go_wp2_with fail
  with_reducible refine Calls.mono HI.out ?_
  rintro e w1 ⟨rfl, rfl⟩
  go_wp2
  go_ret
  exact ⟨rfl, rfl⟩
/-- All blocks but one stay. -/
structure Oth (k : Nat) (w w' : World) : Prop where
  os : w'.os = w.os
  tape : w'.tape = w.tape
  output : w'.output = w.output
  size : w'.heap.size = w.heap.size
  block : ∀ b, b ≠ k → w'.heap[b]? = w.heap[b]?
theorem Oth.below {k B : Nat} {w0 w w' : World} (h : Oth k w w') (hb : Below B w0 w) (hk : B ≤ k) : Below B w0 w' :=
  ⟨h.os.trans hb.os, h.tape.trans hb.tape, h.output.trans hb.output, Nat.le_trans hb.size (Nat.le_of_eq h.size.symm), fun b hlt => (h.block b (by omega)).trans (hb.block b hlt)⟩
/-- A list of naturals by its members. -/
def hasL (pt : List Nat) (b : Nat) : Bool := pt.contains b
theorem anyP_has (pt : List Nat) (b : Nat) : anyP pt.length (fun i => lf pt i == ((b : Nat) : Int)) = hasL pt b := by
  unfold anyP hasL
  rw [Bool.eq_iff_iff, List.any_eq_true, List.contains_iff_mem]
  constructor
  · rintro ⟨i, hi, e⟩
    rw [List.mem_range] at hi
    have e2 : lf pt i = ((b : Nat) : Int) := by simpa using e
    unfold lf at e2
    have e3 : pt.getD i 0 = b := by omega
    rw [← e3]; exact mem_getD hi
  · intro h
    obtain ⟨i, hi, e⟩ := List.mem_iff_getElem.1 h
    refine ⟨i, List.mem_range.2 hi, ?_⟩
    have e3 : pt.getD i 0 = b := by rw [List.getD_eq_getElem?_getD, List.getElem?_eq_getElem hi]; exact e
    unfold lf
    rw [e3]; simp
theorem news_map (l : List Nat) : L2.news l.length (lf l) = (l.map fun b => ((b : Nat) : Int)).map (Value.int .i64) := by
  unfold L2.news
  refine List.ext_getElem (by simp) fun i h1 h2 => ?_
  have hi : i < l.length := by simpa using h1
  simp only [List.getElem_map, List.getElem_range]
  unfold lf
  rw [List.getD_eq_getElem?_getD, List.getElem?_eq_getElem hi]; rfl
theorem del_any (w : World) (base k cap : Nat) (l pt : List Nat) (pb : Nat) (Dp : Option Addr) (cp : Nat) (hown : L2.Own w base (.slice (some ⟨k, 0, none⟩) l.length cap) l.length (lf l)) (hn : pt.length ≤ 30000)
    (hp : w.cell? ⟨pb, 0, none⟩ = some (.slice Dp pt.length cp)) (hpb : pb < w.heap.size) (hne : pb ≠ k) (hpt : LL w Dp pt) (hpk : 0 < pt.length → ∃ b, Dp = some ⟨b, 0, none⟩ ∧ b ≠ k) :
    Calls Try.prog 140 #[.slice (some ⟨k, 0, none⟩) l.length cap, .func (.func 141) #[] #[.pointer (some ⟨pb, 0, none⟩)]] w fun e w' => e = .returned (.slice (some ⟨k, 0, none⟩) (l.filter fun b => !hasL pt b).length cap) ∧
      L2.Own w' base (.slice (some ⟨k, 0, none⟩) (l.filter fun b => !hasL pt b).length cap) (l.filter fun b => !hasL pt b).length (lf (l.filter fun b => !hasL pt b)) ∧ Oth k w w' := by
  have hown' : w.ownsRow base 3 1 (.slice (some ⟨k, 0, none⟩) l.length cap) l.length ((l.map fun b => ((b : Nat) : Int)).map (Value.int .i64)) := by
    rw [← news_map]; exact hown
  obtain ⟨g, cap', e1, hg, hgl, hncap, hcm, hlen, hH⟩ := Lib.holds_of_ownsRow (enc := Value.int .i64) hown' (by intro h; cases h)
  injection e1 with e2 _ e3
  injection e2 with e2
  injection e2 with e2
  subst e2 e3
  have eg : ∀ args w, (callFunc 141 args).run Try.prog w = .ok (.enter 141 args) w := Go.Proofs.enters_of Try.func141 (by kernel_rfl) rfl
  have hP : ∀ (W : World) (x : Int), W.cell? ⟨pb, 0, none⟩ = some (.slice Dp pt.length cp) → L2.Holds W W.heap.size Dp pt.length (lf pt) → FnGives Try.prog 141 #[.pointer (some ⟨pb, 0, none⟩)] #[.int .i64 x] (.bool (anyP pt.length (fun i => lf pt i == x))) W := fun W x h1 h2 =>
    (parts1_q pb Dp pt.length cp (lf pt) x W hn h1 h2).mono fun e w' h => ⟨h.1, 0, h.2⟩
  have hd : ((l.map fun b => ((b : Nat) : Int)).toArray).size = l.length := by simp
  have hcon := Try.slices_DeleteFunc (Value.int .i64) (fun _ => rfl) (fun x => anyP pt.length (fun i => lf pt i == x)) 141 #[.pointer (some ⟨pb, 0, none⟩)] eg 0 Try.zeroValue3 k 0 cap (l.map fun b => ((b : Nat) : Int)).toArray w
    (fun W x hb => hP W x ((hb.cell (p := ⟨pb, 0, none⟩) hpb).trans hp) ((hpt.below hb)))
    (fun n os dk x _ => hP _ x (by
        unfold sortWorld
        rw [Go.Sort.cell?_grow _ _ _ (by show pb < (Go.Sort.putRow _ _ _ _ _).heap.size; rw [Go.Sort.size_putRow]; exact hpb), Go.Sort.cell?_putRow_other _ _ k 0 _ _ (Or.inl hne)]
        exact hp) (fun h0 => by
        obtain ⟨b, o, e, hb, hc⟩ := hpt h0
        obtain ⟨b2, e2, hbk⟩ := hpk h0
        rw [e] at e2
        injection e2 with e2
        injection e2 with e2 e4
        subst e2
        subst e4
        refine ⟨b, 0, e, ?_, fun i hi => ?_⟩
        · unfold sortWorld
          have h1 : (Go.Sort.putRow (Value.int .i64) (Go.Sort.ahead w n) k 0 dk).heap.size = w.heap.size := by rw [Go.Sort.size_putRow]; rfl
          have h2 : (Go.Sort.putRow (Value.int .i64) (Go.Sort.ahead w n) k 0 dk).heap.size ≤ (Go.Sort.grow (Go.Sort.putRow (Value.int .i64) (Go.Sort.ahead w n) k 0 dk) os).heap.size := by simp
          omega
        · unfold sortWorld
          rw [Go.Sort.cell?_grow _ _ _ (by show b < (Go.Sort.putRow _ _ _ _ _).heap.size; rw [Go.Sort.size_putRow]; exact hb), Go.Sort.cell?_putRow_other _ _ k 0 _ _ (Or.inl hbk)]
          exact hc i hi))
    hH (by rw [hd]; unfold maxLen at hcm; omega) (by rw [hd]; exact hncap)
  rw [hd] at hcon
  have hfil : ((l.map fun b => ((b : Nat) : Int)).toArray.toList.filter fun x => !anyP pt.length (fun i => lf pt i == x)) = (l.filter fun b => !hasL pt b).map fun b => ((b : Nat) : Int) := by
    rw [List.filter_map]
    congr 1
    refine List.filter_congr fun a _ => ?_
    show (!anyP pt.length (fun i => lf pt i == ((a : Nat) : Int))) = _
    rw [anyP_has]
  rw [hfil, List.length_map] at hcon
  refine hcon.mono ?_
  rintro e w' ⟨rfl, q, rfl⟩
  have hle : (l.filter fun b => !hasL pt b).length ≤ l.length := List.length_filter_le _ _
  have hO := Lib.ownsRow_putRow (q := q) (k := (l.filter fun b => !hasL pt b).length) (ys := ((l.filter fun b => !hasL pt b).map fun b => ((b : Nat) : Int)) ++ List.replicate (l.length - (l.filter fun b => !hasL pt b).length) 0) hown' (by simp; omega) hle
  rw [List.take_left' (by simp)] at hO
  refine ⟨rfl, ?_, ?_⟩
  · unfold L2.Own
    rw [news_map]
    exact hO
  · refine ⟨rfl, rfl, rfl, by rw [Go.Sort.size_putRow]; rfl, fun b hbk => ?_⟩
    unfold Go.Sort.putRow Go.Sort.mapBlock
    show (Array.modify _ _ _)[b]? = _
    rw [Array.getElem?_modify, if_neg (fun e => hbk e.symm)]
    rfl
end Go.Proofs.Ytgmcbdnfgdmmaaa
