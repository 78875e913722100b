/- Layer 14: what Parse reads; the program's Parse. -/
import Derived.Test.YtppepcijpdamhaaCtt
import Derived.Test.YtppepcijpdamhaaCvw
namespace Go.Proofs.Ytppepcijpdamhaa
open Go.RowKit
set_option maxRecDepth 100000
set_option linter.unusedVariables false
set_option linter.unusedSimpArgs false

/-- The block g is a variable that holds a string. -/
def TBox (w : World) (g : Nat) (v : Value) : Prop := w.heap[g]? = some (.cells #[v] 9 (0, 0))
section
variable {w w' : World} {B g : Nat} {v : Value}
theorem TBox.lt (h : TBox w g v) : g < w.heap.size := by
  rcases Nat.lt_or_ge g w.heap.size with hlt | hge
  · exact hlt
  · unfold TBox at h; rw [Array.getElem?_eq_none hge] at h; cases h
theorem TBox.below (h : TBox w g v) (hb : Below B w w') (hg : g < B) : TBox w' g v := (hb.block g hg).trans h
theorem TBox.alloc (h : TBox w g v) (o : Obj) : TBox (w.alloc o) g v := (Below.heap_alloc w o g h.lt).trans h
theorem TBox.far (h : TBox w g v) {p : Addr} (hp : g ≠ p.block) (u : Value) : TBox (w.setCell p u) g v := (Below.heap_setCell w p u g hp).trans h
theorem TBox.new (w : World) (v : Value) : TBox (w.alloc (.cells #[v] 9)) w.heap.size v := by
  show (w.heap.push _)[w.heap.size]? = _
  rw [Array.getElem?_push, if_pos rfl]
theorem TBox.all (h : TBox w g v) : w.cell? ⟨g, 0, none⟩ = some v ∧ w.frozen? ⟨g, 0, none⟩ = false ∧ g < w.heap.size :=
  ⟨by unfold TBox at h; simp [World.cell?, h], by unfold TBox at h; simp [World.frozen?, h], h.lt⟩
end
/-- The block g is a variable that holds a number. -/
def NBox (w : World) (g : Nat) (v : Value) : Prop := w.heap[g]? = some (.cells #[v] 3 (0, 0))
section
variable {w w' : World} {B g : Nat} {v : Value}
theorem NBox.lt (h : NBox w g v) : g < w.heap.size := by
  rcases Nat.lt_or_ge g w.heap.size with hlt | hge
  · exact hlt
  · unfold NBox at h; rw [Array.getElem?_eq_none hge] at h; cases h
theorem NBox.below (h : NBox w g v) (hb : Below B w w') (hg : g < B) : NBox w' g v := (hb.block g hg).trans h
theorem NBox.alloc (h : NBox w g v) (o : Obj) : NBox (w.alloc o) g v := (Below.heap_alloc w o g h.lt).trans h
theorem NBox.far (h : NBox w g v) {p : Addr} (hp : g ≠ p.block) (u : Value) : NBox (w.setCell p u) g v := (Below.heap_setCell w p u g hp).trans h
theorem NBox.new (w : World) (v : Value) : NBox (w.alloc (.cells #[v] 3)) w.heap.size v := by
  show (w.heap.push _)[w.heap.size]? = _
  rw [Array.getElem?_push, if_pos rfl]
theorem NBox.all (h : NBox w g v) : w.cell? ⟨g, 0, none⟩ = some v ∧ w.frozen? ⟨g, 0, none⟩ = false ∧ g < w.heap.size :=
  ⟨by unfold NBox at h; simp [World.cell?, h], by unfold NBox at h; simp [World.frozen?, h], h.lt⟩
end
/-- e is where the first line feed stands, or the length. -/
structure First (s : ByteArray) (e : Nat) : Prop where
  le : e ≤ s.size
  no : ∀ i (h : i < s.size), i < e → (s[i]'h).toNat ≠ 10
  yes : ∀ h : e < s.size, (s[e]'h).toNat = 10

theorem first_list (l : List UInt8) : ∃ e, e ≤ l.length ∧ (∀ i (h : i < l.length), i < e → (l[i]'h).toNat ≠ 10) ∧ (∀ h : e < l.length, (l[e]'h).toNat = 10) ∧
    ((e < l.length ∧ Lib.indexByte l 10 = (e : Int)) ∨ (e = l.length ∧ Lib.indexByte l 10 = -1)) := by
  induction l with
  | nil => exact ⟨0, Nat.le_refl _, fun i h => absurd h (by simp), fun h => absurd h (by simp), .inr ⟨rfl, rfl⟩⟩
  | cons b l ih =>
    by_cases hb : b = 10
    · subst hb
      exact ⟨0, Nat.zero_le _, fun i h hi => absurd hi (by omega), fun _ => rfl, .inl ⟨by simp, by simp [Lib.indexByte]⟩⟩
    · obtain ⟨e, h1, h2, h3, h4⟩ := ih
      have hn : b.toNat ≠ 10 := fun h => hb (by
        have : b.toNat = (10 : UInt8).toNat := h
        exact UInt8.toNat_inj.1 this)
      refine ⟨e + 1, by simp only [List.length_cons]; omega, ?_, ?_, ?_⟩
      · intro i h hi
        cases i with
        | zero => exact hn
        | succ i => exact h2 i (by simpa using h) (by omega)
      · intro h
        exact h3 (by simpa using h)
      · have hf : (b == 10) = false := by simp [hb]
        rcases h4 with ⟨h5, h6⟩ | ⟨h5, h6⟩
        · have h7 : ((e : Int) == -1) = false := by first | (simp; done) | (simp; omega)
          exact .inl ⟨by simp only [List.length_cons]; omega, by simp [Lib.indexByte, hf, h6, h7]⟩
        · exact .inr ⟨by simp only [List.length_cons]; omega, by simp [Lib.indexByte, hf, h6]⟩

theorem first_any (s : ByteArray) : ∃ e, First s e ∧ ((e < s.size ∧ Lib.indexByte s.data.toList 10 = (e : Int)) ∨ (e = s.size ∧ Lib.indexByte s.data.toList 10 = -1)) := by
  obtain ⟨e, h1, h2, h3, h4⟩ := first_list s.data.toList
  have hl : s.data.toList.length = s.size := Array.length_toList
  refine ⟨e, ⟨by omega, fun i h hi => ?_, fun h => ?_⟩, by rw [hl] at h4; exact h4⟩
  · exact h2 i (by omega) hi
  · exact h3 (by omega)

/-- The byte at a place, as a number. -/
def byt (s : ByteArray) (i : Nat) : Int := if h : i < s.size then ((s[i]'h).toNat : Int) else 0
theorem byt_at {s : ByteArray} {i : Nat} (h : i < s.size) : byt s i = ((s[i]'h).toNat : Int) := dif_pos h
theorem byt_bd (s : ByteArray) (i : Nat) : 0 ≤ byt s i ∧ byt s i ≤ 255 := by
  unfold byt
  split
  · rename_i h
    have := UInt8.toNat_lt (s[i]'h)
    omega
  · omega
/-- The byte at i is what a text with lines of e letters has there. -/
def okC (s : ByteArray) (e i : Nat) : Prop := if i % (e + 1) = e then byt s i = 10 else 97 ≤ byt s i ∧ byt s i ≤ 112
def GoodC (s : ByteArray) (e q : Nat) : Prop := q * (e + 1) = s.size ∧ ∀ i, i < s.size → okC s e i
/-- The colours that Parse reads. -/
def pxF (s : ByteArray) (e q : Nat) : Nat → Int := fun l => byt s ((q - 1 - l / e) * (e + 1) + l % e) - 97
theorem rowsI_get (W H : Nat) (f : Nat → Int) (k i : Nat) (hi : i < k * (W + 1)) :
    (rowsI W H f k)[i]? = some (if i % (W + 1) = W then 10 else ltr (f ((H - 1 - i / (W + 1)) * W + i % (W + 1)))) := by
  induction k with
  | zero => simp at hi
  | succ k ih =>
    rw [rowsI_succ]
    by_cases h : i < k * (W + 1)
    · rw [List.getElem?_append_left (by rw [rowsI_length]; exact h), ih h]
    · rw [List.getElem?_append_right (by rw [rowsI_length]; omega), rowsI_length]
      rw [Nat.add_mul, Nat.one_mul] at hi
      have hd : i / (W + 1) = k := by
        rw [Nat.div_eq_iff (by omega)]
        omega
      have hm : i % (W + 1) = i - k * (W + 1) := by
        have := Nat.div_add_mod i (W + 1)
        rw [hd, Nat.mul_comm] at this
        omega
      rw [hd, hm]
      have hr' : i - k * (W + 1) < W + 1 := by omega
      generalize i - k * (W + 1) = r at *
      rw [rowI]
      by_cases hr : r = W
      · rw [if_pos hr, List.getElem?_append_right (by rw [cellsI_length]; omega), cellsI_length, hr]; simp
      · rw [if_neg hr, List.getElem?_append_left (by rw [cellsI_length]; omega)]
        unfold cellsI
        rw [List.getElem?_map, List.getElem?_range (by omega)]
        rfl
theorem pxF_at {s : ByteArray} {e q d r : Nat} (hr : r < e) (hd : d < q) : pxF s e q ((q - 1 - d) * e + r) = byt s (d * (e + 1) + r) - 97 := by
  unfold pxF
  rw [(co (q - 1 - d) hr).1, (co (q - 1 - d) hr).2, show q - 1 - (q - 1 - d) = d by omega]
theorem byt_list {s : ByteArray} {i : Nat} (h : i < s.size) : s.data.toList[i]? = some (s[i]'h) := by
  have hl : s.data.toList.length = s.size := Array.length_toList
  rw [List.getElem?_eq_getElem (by omega)]
  rfl
theorem u8_of {u : UInt8} {v : Int} (h : (u.toNat : Int) = 97 + v) (h0 : 0 ≤ v) (h1 : v ≤ 15) : u = ltr v := by
  refine UInt8.toNat_inj.1 ?_
  have := ltr_nat h0 h1
  omega
theorem qlt {q : Nat} (hq : 1 ≤ q) (d : Nat) : q - 1 - d < q := by omega
/-- The text of what is read is the string exactly if it is a text. -/
theorem good_iff {s : ByteArray} {e q : Nat} (he : 1 ≤ e) (hq : 1 ≤ q) : (fine (e * q) (pxF s e q) = true ∧ rowsI e q (pxF s e q) q = s.data.toList) ↔ GoodC s e q := by
  have hl : s.data.toList.length = s.size := Array.length_toList
  constructor
  · rintro ⟨h1, h2⟩
    have hsz : q * (e + 1) = s.size := by rw [← hl, ← h2, rowsI_length]
    refine ⟨hsz, fun i hi => ?_⟩
    have h3 := rowsI_get e q (pxF s e q) q i (by omega)
    rw [h2, byt_list hi] at h3
    have h3 := Option.some.inj h3
    have hd : i / (e + 1) < q := Nat.div_lt_of_lt_mul (by rw [Nat.mul_comm]; omega)
    unfold okC
    by_cases hm : i % (e + 1) = e
    · rw [if_pos hm] at h3 ⊢
      rw [byt_at hi, h3]; rfl
    · rw [if_neg hm] at h3 ⊢
      have hr : i % (e + 1) < e := by have := Nat.mod_lt i (show 0 < e + 1 by omega); omega
      have hlt : (q - 1 - i / (e + 1)) * e + i % (e + 1) < e * q := ix_bd hr (qlt hq _)
      obtain ⟨b0, b1⟩ := fine_of h1 _ hlt
      have hn := ltr_nat b0 b1
      rw [byt_at hi, h3]
      omega
  · rintro ⟨hsz, hok⟩
    have hpos : ∀ d r, r < e → d < q → d * (e + 1) + r < s.size ∧ 97 ≤ byt s (d * (e + 1) + r) ∧ byt s (d * (e + 1) + r) ≤ 112 := by
      intro d r hr hd
      have h4 : d * (e + 1) + r < s.size := by
        have := Nat.mul_le_mul_right (e + 1) (show d + 1 ≤ q by omega)
        rw [Nat.add_mul, Nat.one_mul] at this
        omega
      have h5 := hok _ h4
      unfold okC at h5
      have hm : (d * (e + 1) + r) % (e + 1) = r := (co (W := e + 1) d (by omega)).2
      rw [hm, if_neg (by omega)] at h5
      exact ⟨h4, h5⟩
    have hf : ∀ l, l < e * q → 0 ≤ pxF s e q l ∧ pxF s e q l ≤ 15 := by
      intro l hlt
      obtain ⟨_, h5, h6⟩ := hpos (q - 1 - l / e) (l % e) (Nat.mod_lt _ he) (qlt hq _)
      unfold pxF
      omega
    refine ⟨fine_yes hf, List.ext_getElem? fun i => ?_⟩
    by_cases hi : i < s.size
    · rw [rowsI_get e q _ q i (by omega), byt_list hi]
      have hd : i / (e + 1) < q := Nat.div_lt_of_lt_mul (by rw [Nat.mul_comm]; omega)
      have h5 := hok i hi
      unfold okC at h5
      by_cases hm : i % (e + 1) = e
      · rw [if_pos hm] at h5 ⊢
        rw [byt_at hi] at h5
        congr 1
        refine UInt8.toNat_inj.1 ?_
        have : (10 : UInt8).toNat = 10 := rfl
        omega
      · rw [if_neg hm] at h5 ⊢
        have hr : i % (e + 1) < e := by have := Nat.mod_lt i (show 0 < e + 1 by omega); omega
        rw [pxF_at hr hd]
        have hid : i / (e + 1) * (e + 1) + i % (e + 1) = i := by rw [Nat.mul_comm, Nat.div_add_mod]
        rw [hid]
        rw [byt_at hi] at h5 ⊢
        congr 1
        exact (u8_of (by omega) (by omega) (by omega)).symm
    · rw [List.getElem?_eq_none (by rw [rowsI_length]; omega), List.getElem?_eq_none (by omega)]
theorem idx_any (s : ByteArray) (v : Int) (h : Lib.indexByte s.data.toList 10 = v) (w : World) : Calls Try.prog 61 #[.string s, .int .u8 10] w fun e w' => e = .returned (.int .i64 v) ∧ Below w.heap.size w w' :=
  (Try.strings_IndexByte s 10 w).mono fun e w' ⟨h1, h2⟩ => ⟨by rw [h1]; exact ret_i64 h, by rw [h2]; exact Below.refl _ _⟩
/-- What Parse's function value reads. -/
theorem parse_clo {w : World} {tb hb wb e q : Nat} {s : ByteArray} (x1 : TBox w tb (.string s)) (x2 : NBox w hb (.int .i64 (q : Nat))) (x3 : NBox w wb (.int .i64 (e : Nat))) (he : e ≤ 64) (hq : q ≤ 64) (hs : q * (e + 1) ≤ s.size) :
    GivesI 62 #[.pointer (some ⟨tb, 0, none⟩), .pointer (some ⟨hb, 0, none⟩), .pointer (some ⟨wb, 0, none⟩)] w e q (fun x y => byt s ((q - 1 - y) * (e + 1) + x) - 97) := by
  intro w1 x y hbel hx hy
  obtain ⟨q0, q1, q2⟩ := (x1.below hbel x1.lt).all
  obtain ⟨r0, r1, r2⟩ := (x2.below hbel x2.lt).all
  obtain ⟨t0, t1, t2⟩ := (x3.below hbel x3.lt).all
  show Calls _ _ _ _ (fun e' w2 => e' = .returned (.int .i64 (byt s ((q - 1 - y) * (e + 1) + x) - 97)) ∧ Below w1.heap.size w1 w2)
  have hp : (q - 1 - y) * (e + 1) + x < s.size := by
    have := Nat.mul_le_mul_right (e + 1) (show q - 1 - y + 1 ≤ q by omega)
    rw [Nat.add_mul, Nat.one_mul] at this
    omega
  have hm : (q - 1 - y) * (e + 1) ≤ 64 * 65 := Nat.mul_le_mul (by omega) (by omega)
  have e1 : IntKind.i64.wrap ((q : Int) - 1) = (q : Int) - 1 := IntWalk.i64_in _ (by omega)
  have e2 : IntKind.i64.wrap ((q : Int) - 1 - (y : Int)) = (q : Int) - 1 - (y : Int) := IntWalk.i64_in _ (by omega)
  have e3 : IntKind.i64.wrap (((q : Int) - 1 - (y : Int)) * ((e : Int) + 1)) = (((q - 1 - y) * (e + 1) : Nat) : Int) := by
    have h : ((q : Int) - 1 - (y : Int)) * ((e : Int) + 1) = (((q - 1 - y) * (e + 1) : Nat) : Int) := by
      rw [Int.natCast_mul]
      have : (q : Int) - 1 - (y : Int) = ((q - 1 - y : Nat) : Int) := by omega
      rw [this]; simp
    rw [h]; exact IntWalk.i64_in _ (by omega)
  have e0 : IntKind.i64.wrap ((e : Int) + 1) = (e : Int) + 1 := IntWalk.i64_in _ (by omega)
  obtain ⟨m, hmm⟩ : ∃ z, (q - 1 - y) * (e + 1) = z := ⟨_, rfl⟩
  rw [hmm] at e3 hp hm ⊢
  clear hmm
  have e4 : IntKind.i64.wrap ((m : Int) + (x : Int)) = ((m + x : Nat) : Int) := by rw [IntWalk.i64_in _ (by omega)]; omega
  obtain ⟨p, hpp⟩ : ∃ z, m + x = z := ⟨_, rfl⟩
  rw [hpp] at e4 hp ⊢
  clear hpp
  have hbt := byt_at hp
  obtain ⟨b0, b1⟩ := byt_bd s p
  obtain ⟨bv, hbv⟩ : ∃ z, byt s p = z := ⟨_, rfl⟩
  rw [hbv] at hbt b0 b1 ⊢
  have e5 : IntKind.i32.wrap bv = bv := IntWalk.i32_in _ (by omega)
  have e6 : IntKind.i32.wrap (bv - 97) = bv - 97 := IntWalk.i32_in _ (by omega)
  have e7 : IntKind.i64.wrap (bv - 97) = bv - 97 := IntWalk.i64_in _ (by omega)
  have hbt2 := hbt.symm
  clear hbv hbt
  go_enter Try.func62, Try.ntmps62
  go_wp2
  go_ret
  exact ⟨rfl, Below.refl _ _⟩
set_option maxHeartbeats 800000 in
theorem pparse_w (s : ByteArray) (v : Int) (F : Nat → Int) (w : World) (h : Lib.indexByte s.data.toList 10 = v) (hv : side v = false) : Calls Try.prog 33 #[.string s] w (RI w 0 0 0 F 12) := by
  have HI := Lib.hid (fun u => idx_any s v h u)
  have HS := Lib.hid (fun u => side_any v u)
  rw [hv] at HS
  clear h hv
  have LB0 := Lib.hid (Below.refl w.heap.size w)
  have X1 := TBox.new w (.string s)
  have X1 := Lib.hid X1
  have LB0 := Lib.hid (LB0.out.alloc LB0.out.size (.cells #[.string s] 9))
  have X1 := Lib.hid (X1.out.alloc (.cells #[.int .i64 0, .int .i64 0, .slice none 0 0] 29))
  have R0 := IBox.new (w.alloc (.cells #[.string s] 9)) 0 0 (.slice none 0 0)
  rw [show ((w.alloc (.cells #[.string s] 9))).heap.size = w.heap.size + 1 by simp] at R0
  have R0 := Lib.hid R0
  have LB0 := Lib.hid (LB0.out.alloc LB0.out.size (.cells #[.int .i64 0, .int .i64 0, .slice none 0 0] 29))
  go_enter Try.func33, Try.ntmps33
  go_upto_region 1 with (fail)
  generalize (w.alloc (.cells #[.string s] 9)).alloc (.cells #[.int .i64 0, .int .i64 0, .slice none 0 0] 29) = w0 at *
  obtain ⟨q0, q1, q2⟩ := X1.out.all
  go_wp2_with fail
  clear q0 q1 q2
  with_reducible refine Calls.mono (HI.out _) ?_
  rintro e w1 ⟨rfl, hb⟩
  have LB1 := Lib.hid (LB0.out.trans (hb.mono LB0.out.size))
  have X1 := Lib.hid (X1.out.below hb X1.out.lt)
  have R0 := Lib.hid (R0.out.below hb R0.out.lt)
  clear hb LB0 
  obtain ⟨rb, hrb⟩ : ∃ z, w.heap.size + 1 = z := ⟨_, rfl⟩
  have hrw : w.heap.size ≤ rb := by omega
  rw [hrb] at R0 ⊢
  clear hrb
  have hb := ((Below.refl w1.heap.size w1).alloc (by simp; try omega) (.cells #[.int .i64 v] 3))
  have LB2 := Lib.hid (LB1.out.trans (hb.mono LB1.out.size))
  have X1 := Lib.hid (X1.out.below hb X1.out.lt)
  have R0 := Lib.hid (R0.out.below hb R0.out.lt)
  have XW := NBox.new w1 (.int .i64 v)
  have XW := Lib.hid XW
  clear hb LB1
  go_upto_region 2 with (fail)
  obtain ⟨wb, hwb⟩ : ∃ z, w1.heap.size = z := ⟨_, rfl⟩
  rw [hwb] at XW
  try rw [hwb]
  clear hwb
  generalize w1.alloc (.cells #[.int .i64 v] 3) = w2 at *
  obtain ⟨q0, q1, q2⟩ := XW.out.all
  obtain ⟨q3, q4, q5⟩ := X1.out.all
  go_wp2_with fail
  clear q0 q1 q2 q3 q4 q5
  with_reducible refine Calls.mono (HS.out _) ?_
  rintro e w3 ⟨rfl, hb⟩
  have LB3 := Lib.hid (LB2.out.trans (hb.mono LB2.out.size))
  have X1 := Lib.hid (X1.out.below hb X1.out.lt)
  have R0 := Lib.hid (R0.out.below hb R0.out.lt)
  have XW := Lib.hid (XW.out.below hb XW.out.lt)
  clear hb LB2 
  obtain ⟨s0, s1, s2, s3, s4, s5, s6⟩ := R0.out.all
  go_wp2
  refine bodyPost_ret (v := .tuple #[.agg #[.int .i64 0, .int .i64 0, .slice none 0 0], .int .i64 12]) (by simp [results, Try.results33, go_sem, s0, s1, s2, s3, s4, s5]) rfl ?_
  exact fin_ie _ hrw LB3.out
set_option maxHeartbeats 800000 in
theorem pparse_h (s : ByteArray) (e q : Nat) (F : Nat → Int) (w : World) (h : Lib.indexByte s.data.toList 10 = (e : Int)) (he : 1 ≤ e) (he1 : e ≤ 64) (hs : s.size ≤ 5000) (hq : s.size / (e + 1) = q) (hv : side (q : Nat) = false) : Calls Try.prog 33 #[.string s] w (RI w 0 0 0 F 12) := by
  have HI := Lib.hid (fun u => idx_any s e h u)
  have HS := Lib.hid (fun u => side_any (e : Nat) u)
  rw [side_nat he he1] at HS
  have HS2 := Lib.hid (fun u => side_any (q : Nat) u)
  rw [hv] at HS2
  have eqw : wrap64 (q : Int) = (q : Int) := IntWalk.wrap64_in _ (by have := Nat.div_le_self s.size (e + 1); omega)
  have ez : ¬ e + 1 = 0 := by omega
  have e0 : IntKind.i64.wrap ((e : Int) + 1) = (e : Int) + 1 := IntWalk.i64_in _ (by omega)
  have eq' : (s.size : Int) / ((e : Int) + 1) = (q : Int) := by rw [← hq]; simp
  have eq : (s.size : Int).tdiv ((e : Int) + 1) = (q : Int) := by rw [Int.tdiv_eq_ediv_of_nonneg (by omega)]; exact eq'
  clear h hv hq
  have LB0 := Lib.hid (Below.refl w.heap.size w)
  have X1 := TBox.new w (.string s)
  have X1 := Lib.hid X1
  have LB0 := Lib.hid (LB0.out.alloc LB0.out.size (.cells #[.string s] 9))
  have X1 := Lib.hid (X1.out.alloc (.cells #[.int .i64 0, .int .i64 0, .slice none 0 0] 29))
  have R0 := IBox.new (w.alloc (.cells #[.string s] 9)) 0 0 (.slice none 0 0)
  rw [show ((w.alloc (.cells #[.string s] 9))).heap.size = w.heap.size + 1 by simp] at R0
  have R0 := Lib.hid R0
  have LB0 := Lib.hid (LB0.out.alloc LB0.out.size (.cells #[.int .i64 0, .int .i64 0, .slice none 0 0] 29))
  go_enter Try.func33, Try.ntmps33
  go_upto_region 1 with (fail)
  generalize (w.alloc (.cells #[.string s] 9)).alloc (.cells #[.int .i64 0, .int .i64 0, .slice none 0 0] 29) = w0 at *
  obtain ⟨q0, q1, q2⟩ := X1.out.all
  go_wp2_with fail
  clear q0 q1 q2
  with_reducible refine Calls.mono (HI.out _) ?_
  rintro e w1 ⟨rfl, hb⟩
  have LB1 := Lib.hid (LB0.out.trans (hb.mono LB0.out.size))
  have X1 := Lib.hid (X1.out.below hb X1.out.lt)
  have R0 := Lib.hid (R0.out.below hb R0.out.lt)
  clear hb LB0 
  obtain ⟨rb, hrb⟩ : ∃ z, w.heap.size + 1 = z := ⟨_, rfl⟩
  have hrw : w.heap.size ≤ rb := by omega
  rw [hrb] at R0 ⊢
  clear hrb
  have hb := ((Below.refl w1.heap.size w1).alloc (by simp; try omega) (.cells #[.int .i64 (e : Nat)] 3))
  have LB2 := Lib.hid (LB1.out.trans (hb.mono LB1.out.size))
  have X1 := Lib.hid (X1.out.below hb X1.out.lt)
  have R0 := Lib.hid (R0.out.below hb R0.out.lt)
  have XW := NBox.new w1 (.int .i64 (e : Nat))
  have XW := Lib.hid XW
  clear hb LB1
  go_upto_region 2 with (fail)
  obtain ⟨wb, hwb⟩ : ∃ z, w1.heap.size = z := ⟨_, rfl⟩
  rw [hwb] at XW
  try rw [hwb]
  clear hwb
  generalize w1.alloc (.cells #[.int .i64 (e : Nat)] 3) = w2 at *
  obtain ⟨q0, q1, q2⟩ := XW.out.all
  obtain ⟨q3, q4, q5⟩ := X1.out.all
  go_wp2_with fail
  clear q0 q1 q2 q3 q4 q5
  with_reducible refine Calls.mono (HS.out _) ?_
  rintro e w3 ⟨rfl, hb⟩
  have LB3 := Lib.hid (LB2.out.trans (hb.mono LB2.out.size))
  have X1 := Lib.hid (X1.out.below hb X1.out.lt)
  have R0 := Lib.hid (R0.out.below hb R0.out.lt)
  have XW := Lib.hid (XW.out.below hb XW.out.lt)
  clear hb LB2 
  obtain ⟨q0, q1, q2⟩ := XW.out.all
  obtain ⟨q3, q4, q5⟩ := X1.out.all
  go_wp2_with fail
  clear q0 q1 q2 q3 q4 q5
  with_reducible refine Calls.mono (HS2.out _) ?_
  rintro e w4 ⟨rfl, hb⟩
  have LB4 := Lib.hid (LB3.out.trans (hb.mono LB3.out.size))
  have X1 := Lib.hid (X1.out.below hb X1.out.lt)
  have R0 := Lib.hid (R0.out.below hb R0.out.lt)
  have XW := Lib.hid (XW.out.below hb XW.out.lt)
  clear hb LB3 
  obtain ⟨s0, s1, s2, s3, s4, s5, s6⟩ := R0.out.all
  go_wp2
  refine bodyPost_ret (v := .tuple #[.agg #[.int .i64 0, .int .i64 0, .slice none 0 0], .int .i64 12]) (by simp [results, Try.results33, go_sem, s0, s1, s2, s3, s4, s5]) rfl ?_
  exact fin_ie _ hrw LB4.out
set_option maxHeartbeats 1600000 in
theorem pparse_nf (s : ByteArray) (e q : Nat) (w : World) (h : Lib.indexByte s.data.toList 10 = (e : Int)) (he : 1 ≤ e) (he1 : e ≤ 64) (hs : s.size ≤ 5000) (hq : s.size / (e + 1) = q) (q0 : 1 ≤ q) (q1 : q ≤ 64) (F : Nat → Int) (hf : fine (e * q) (pxF s e q) = false) : Calls Try.prog 33 #[.string s] w (RI w 0 0 0 F 12) := by
  have HI := Lib.hid (fun u => idx_any s e h u)
  have HS := Lib.hid (fun u => side_any (e : Nat) u)
  rw [side_nat he he1] at HS
  have HS2 := Lib.hid (fun u => side_any (q : Nat) u)
  rw [side_nat q0 q1] at HS2
  have hqs : q * (e + 1) ≤ s.size := by rw [← hq]; exact Nat.div_mul_le_self _ _
  have HT := Lib.hid (fun u g1 g2 g3 (x1 : TBox u g1 (.string s)) (x2 : NBox u g2 (.int .i64 (q : Nat))) (x3 : NBox u g3 (.int .i64 (e : Nat))) =>
    vimg_any e q he he1 q0 q1 62 _ _ u (parse_clo x1 x2 x3 he1 q1 hqs) (Go.Proofs.enters_of Try.func62 (by kernel_rfl) rfl))
  have hmf := mk_fn
  have eqw : wrap64 (q : Int) = (q : Int) := IntWalk.wrap64_in _ (by have := Nat.div_le_self s.size (e + 1); omega)
  have ez : ¬ e + 1 = 0 := by omega
  have e0 : IntKind.i64.wrap ((e : Int) + 1) = (e : Int) + 1 := IntWalk.i64_in _ (by omega)
  have eq' : (s.size : Int) / ((e : Int) + 1) = (q : Int) := by rw [← hq]; simp
  have eq : (s.size : Int).tdiv ((e : Int) + 1) = (q : Int) := by rw [Int.tdiv_eq_ediv_of_nonneg (by omega)]; exact eq'
  have hic : ick (e : Nat) (q : Nat) (e * q) (pxF s e q) = 8 := ick_no (fun z => by rw [hf] at z; cases z.2.2.2.2.2)
  have HTX := Lib.hid (fun u k c (hr : L2.Row u k (e * q) (pxF s e q)) => ptext_err (e : Nat) (q : Nat) (some ⟨k, 0, none⟩) (e * q) c (pxF s e q) u (hr.holds hr.lt) (by rw [hic]; decide))
  simp only [hic] at HTX
  clear h hq hf hic hqs
  have LB0 := Lib.hid (Below.refl w.heap.size w)
  have X1 := TBox.new w (.string s)
  have X1 := Lib.hid X1
  have LB0 := Lib.hid (LB0.out.alloc LB0.out.size (.cells #[.string s] 9))
  have X1 := Lib.hid (X1.out.alloc (.cells #[.int .i64 0, .int .i64 0, .slice none 0 0] 29))
  have R0 := IBox.new (w.alloc (.cells #[.string s] 9)) 0 0 (.slice none 0 0)
  rw [show ((w.alloc (.cells #[.string s] 9))).heap.size = w.heap.size + 1 by simp] at R0
  have R0 := Lib.hid R0
  have LB0 := Lib.hid (LB0.out.alloc LB0.out.size (.cells #[.int .i64 0, .int .i64 0, .slice none 0 0] 29))
  go_enter Try.func33, Try.ntmps33
  go_upto_region 1 with (fail)
  generalize (w.alloc (.cells #[.string s] 9)).alloc (.cells #[.int .i64 0, .int .i64 0, .slice none 0 0] 29) = w0 at *
  obtain ⟨q0, q1, q2⟩ := X1.out.all
  go_wp2_with fail
  clear q0 q1 q2
  with_reducible refine Calls.mono (HI.out _) ?_
  rintro e w1 ⟨rfl, hb⟩
  have LB1 := Lib.hid (LB0.out.trans (hb.mono LB0.out.size))
  have X1 := Lib.hid (X1.out.below hb X1.out.lt)
  have R0 := Lib.hid (R0.out.below hb R0.out.lt)
  clear hb LB0 
  obtain ⟨rb, hrb⟩ : ∃ z, w.heap.size + 1 = z := ⟨_, rfl⟩
  have hrw : w.heap.size ≤ rb := by omega
  rw [hrb] at R0 ⊢
  clear hrb
  have hb := ((Below.refl w1.heap.size w1).alloc (by simp; try omega) (.cells #[.int .i64 (e : Nat)] 3))
  have LB2 := Lib.hid (LB1.out.trans (hb.mono LB1.out.size))
  have X1 := Lib.hid (X1.out.below hb X1.out.lt)
  have R0 := Lib.hid (R0.out.below hb R0.out.lt)
  have XW := NBox.new w1 (.int .i64 (e : Nat))
  have XW := Lib.hid XW
  clear hb LB1
  go_upto_region 2 with (fail)
  obtain ⟨wb, hwb⟩ : ∃ z, w1.heap.size = z := ⟨_, rfl⟩
  rw [hwb] at XW
  try rw [hwb]
  clear hwb
  generalize w1.alloc (.cells #[.int .i64 (e : Nat)] 3) = w2 at *
  obtain ⟨q0, q1, q2⟩ := XW.out.all
  obtain ⟨q3, q4, q5⟩ := X1.out.all
  go_wp2_with fail
  clear q0 q1 q2 q3 q4 q5
  with_reducible refine Calls.mono (HS.out _) ?_
  rintro e w3 ⟨rfl, hb⟩
  have LB3 := Lib.hid (LB2.out.trans (hb.mono LB2.out.size))
  have X1 := Lib.hid (X1.out.below hb X1.out.lt)
  have R0 := Lib.hid (R0.out.below hb R0.out.lt)
  have XW := Lib.hid (XW.out.below hb XW.out.lt)
  clear hb LB2 
  obtain ⟨q0, q1, q2⟩ := XW.out.all
  obtain ⟨q3, q4, q5⟩ := X1.out.all
  go_wp2_with fail
  clear q0 q1 q2 q3 q4 q5
  with_reducible refine Calls.mono (HS2.out _) ?_
  rintro e w4 ⟨rfl, hb⟩
  have LB4 := Lib.hid (LB3.out.trans (hb.mono LB3.out.size))
  have X1 := Lib.hid (X1.out.below hb X1.out.lt)
  have R0 := Lib.hid (R0.out.below hb R0.out.lt)
  have XW := Lib.hid (XW.out.below hb XW.out.lt)
  clear hb LB3 
  obtain ⟨q0, q1, q2⟩ := X1.out.all
  obtain ⟨q3, q4, q5⟩ := XW.out.all
  have hb := ((Below.refl w4.heap.size w4).alloc (by simp; try omega) (.cells #[.int .i64 (q : Nat)] 3))
  have LB5 := Lib.hid (LB4.out.trans (hb.mono LB4.out.size))
  have X1 := Lib.hid (X1.out.below hb X1.out.lt)
  have R0 := Lib.hid (R0.out.below hb R0.out.lt)
  have XW := Lib.hid (XW.out.below hb XW.out.lt)
  have XH := NBox.new w4 (.int .i64 (q : Nat))
  have XH := Lib.hid XH
  clear hb LB4
  go_upto_region 5 with (fail)
  obtain ⟨hb2, hhb2⟩ : ∃ z, w4.heap.size = z := ⟨_, rfl⟩
  rw [hhb2] at XH
  try rw [hhb2]
  clear hhb2
  generalize w4.alloc (.cells #[.int .i64 (q : Nat)] 3) = w5 at *
  clear q0 q1 q2 q3 q4 q5
  have HR := Lib.hid (HT.out _ _ _ _ X1.out XH.out XW.out)
  have hrs := R0.out.lt
  obtain ⟨q0, q1, q2⟩ := X1.out.all
  obtain ⟨q3, q4, q5⟩ := XW.out.all
  obtain ⟨q6, q7, q8⟩ := XH.out.all
  go_wp2_with fail
  clear q0 q1 q2 q3 q4 q5 q6 q7 q8
  with_reducible refine Calls.mono HR.out ?_
  rintro e1 w6 ⟨k2, c2, rfl, hk, hrow, hb⟩
  have LB6 := Lib.hid (LB5.out.trans (hb.mono LB5.out.size))
  have X1 := Lib.hid (X1.out.below hb X1.out.lt)
  have R0 := Lib.hid (R0.out.below hb R0.out.lt)
  have XW := Lib.hid (XW.out.below hb XW.out.lt)
  have XH := Lib.hid (XH.out.below hb XH.out.lt)
  have RW := Lib.hid (show L2.Row w6 k2 (e * q) (pxF s e q) from hrow)
  have hk2 : rb < k2 := by omega
  clear hb hrow hk
  have hb := ((Below.refl w6.heap.size w6).alloc (by simp; try omega) (.cells #[.int .i64 (e : Nat), .int .i64 (q : Nat), .slice (some ⟨k2, 0, none⟩) (e * q) c2] 29))
  have LB7 := Lib.hid (LB6.out.trans (hb.mono LB6.out.size))
  have X1 := Lib.hid (X1.out.below hb X1.out.lt)
  have R0 := Lib.hid (R0.out.below hb R0.out.lt)
  have XW := Lib.hid (XW.out.below hb XW.out.lt)
  have XH := Lib.hid (XH.out.below hb XH.out.lt)
  have RW := Lib.hid (RW.out.below hb RW.out.lt)
  have XI := IBox.new w6 (e : Nat) (q : Nat) (.slice (some ⟨k2, 0, none⟩) (e * q) c2)
  have XI := Lib.hid XI
  clear hb LB6
  go_upto_region 6 with (fail)
  obtain ⟨ib, hib⟩ : ∃ z, w6.heap.size = z := ⟨_, rfl⟩
  rw [hib] at XI
  try rw [hib]
  clear hib
  generalize w6.alloc (.cells #[.int .i64 (e : Nat), .int .i64 (q : Nat), .slice (some ⟨k2, 0, none⟩) (e * q) c2] 29) = w7 at *
  obtain ⟨q0, q1, q2, q3, q4, q5, q6⟩ := XI.out.all
  obtain ⟨q7, q8, q9⟩ := X1.out.all
  go_wp2_with fail
  clear q0 q1 q2 q3 q4 q5 q6 q7 q8 q9
  with_reducible refine Calls.mono (HTX.out _ _ _ RW.out) ?_
  rintro e w8 ⟨rfl, hb⟩
  have LB8 := Lib.hid (LB7.out.trans (hb.mono LB7.out.size))
  have X1 := Lib.hid (X1.out.below hb X1.out.lt)
  have R0 := Lib.hid (R0.out.below hb R0.out.lt)
  have XW := Lib.hid (XW.out.below hb XW.out.lt)
  have XH := Lib.hid (XH.out.below hb XH.out.lt)
  have RW := Lib.hid (RW.out.below hb RW.out.lt)
  have XI := Lib.hid (XI.out.below hb XI.out.lt)
  clear hb LB7 
  obtain ⟨s0, s1, s2, s3, s4, s5, s6⟩ := R0.out.all
  go_wp2
  refine bodyPost_ret (v := .tuple #[.agg #[.int .i64 0, .int .i64 0, .slice none 0 0], .int .i64 12]) (by simp [results, Try.results33, go_sem, s0, s1, s2, s3, s4, s5]) rfl ?_
  exact fin_ie _ hrw LB8.out
set_option maxHeartbeats 1600000 in
theorem pparse_ne (s : ByteArray) (e q : Nat) (w : World) (h : Lib.indexByte s.data.toList 10 = (e : Int)) (he : 1 ≤ e) (he1 : e ≤ 64) (hs : s.size ≤ 5000) (hq : s.size / (e + 1) = q) (q0 : 1 ≤ q) (q1 : q ≤ 64) (F : Nat → Int) (hf : fine (e * q) (pxF s e q) = true) (hne : rowsI e q (pxF s e q) q ≠ s.data.toList) : Calls Try.prog 33 #[.string s] w (RI w 0 0 0 F 12) := by
  have HI := Lib.hid (fun u => idx_any s e h u)
  have HS := Lib.hid (fun u => side_any (e : Nat) u)
  rw [side_nat he he1] at HS
  have HS2 := Lib.hid (fun u => side_any (q : Nat) u)
  rw [side_nat q0 q1] at HS2
  have hqs : q * (e + 1) ≤ s.size := by rw [← hq]; exact Nat.div_mul_le_self _ _
  have HT := Lib.hid (fun u g1 g2 g3 (x1 : TBox u g1 (.string s)) (x2 : NBox u g2 (.int .i64 (q : Nat))) (x3 : NBox u g3 (.int .i64 (e : Nat))) =>
    vimg_any e q he he1 q0 q1 62 _ _ u (parse_clo x1 x2 x3 he1 q1 hqs) (Go.Proofs.enters_of Try.func62 (by kernel_rfl) rfl))
  have hmf := mk_fn
  have eqw : wrap64 (q : Int) = (q : Int) := IntWalk.wrap64_in _ (by have := Nat.div_le_self s.size (e + 1); omega)
  have ez : ¬ e + 1 = 0 := by omega
  have e0 : IntKind.i64.wrap ((e : Int) + 1) = (e : Int) + 1 := IntWalk.i64_in _ (by omega)
  have eq' : (s.size : Int) / ((e : Int) + 1) = (q : Int) := by rw [← hq]; simp
  have eq : (s.size : Int).tdiv ((e : Int) + 1) = (q : Int) := by rw [Int.tdiv_eq_ediv_of_nonneg (by omega)]; exact eq'
  have HTX := Lib.hid (fun u k c (hr : L2.Row u k (e * q) (pxF s e q)) => ptext_ok e q (some ⟨k, 0, none⟩) c (pxF s e q) u (hr.holds hr.lt) he he1 q0 q1 hf)
  obtain ⟨lt, hlt⟩ : ∃ z, rowsI e q (pxF s e q) q = z := ⟨_, rfl⟩
  rw [hlt] at HTX hne
  have y1 : (lt == s.toList) = false := by rw [ByteArray.toList_eq, beq_eq_false_iff_ne]; exact hne
  have y2 : ((0 : Int) != 0) = false := rfl
  clear h hq hf hqs hne hlt
  have LB0 := Lib.hid (Below.refl w.heap.size w)
  have X1 := TBox.new w (.string s)
  have X1 := Lib.hid X1
  have LB0 := Lib.hid (LB0.out.alloc LB0.out.size (.cells #[.string s] 9))
  have X1 := Lib.hid (X1.out.alloc (.cells #[.int .i64 0, .int .i64 0, .slice none 0 0] 29))
  have R0 := IBox.new (w.alloc (.cells #[.string s] 9)) 0 0 (.slice none 0 0)
  rw [show ((w.alloc (.cells #[.string s] 9))).heap.size = w.heap.size + 1 by simp] at R0
  have R0 := Lib.hid R0
  have LB0 := Lib.hid (LB0.out.alloc LB0.out.size (.cells #[.int .i64 0, .int .i64 0, .slice none 0 0] 29))
  go_enter Try.func33, Try.ntmps33
  go_upto_region 1 with (fail)
  generalize (w.alloc (.cells #[.string s] 9)).alloc (.cells #[.int .i64 0, .int .i64 0, .slice none 0 0] 29) = w0 at *
  obtain ⟨q0, q1, q2⟩ := X1.out.all
  go_wp2_with fail
  clear q0 q1 q2
  with_reducible refine Calls.mono (HI.out _) ?_
  rintro e w1 ⟨rfl, hb⟩
  have LB1 := Lib.hid (LB0.out.trans (hb.mono LB0.out.size))
  have X1 := Lib.hid (X1.out.below hb X1.out.lt)
  have R0 := Lib.hid (R0.out.below hb R0.out.lt)
  clear hb LB0 
  obtain ⟨rb, hrb⟩ : ∃ z, w.heap.size + 1 = z := ⟨_, rfl⟩
  have hrw : w.heap.size ≤ rb := by omega
  rw [hrb] at R0 ⊢
  clear hrb
  have hb := ((Below.refl w1.heap.size w1).alloc (by simp; try omega) (.cells #[.int .i64 (e : Nat)] 3))
  have LB2 := Lib.hid (LB1.out.trans (hb.mono LB1.out.size))
  have X1 := Lib.hid (X1.out.below hb X1.out.lt)
  have R0 := Lib.hid (R0.out.below hb R0.out.lt)
  have XW := NBox.new w1 (.int .i64 (e : Nat))
  have XW := Lib.hid XW
  clear hb LB1
  go_upto_region 2 with (fail)
  obtain ⟨wb, hwb⟩ : ∃ z, w1.heap.size = z := ⟨_, rfl⟩
  rw [hwb] at XW
  try rw [hwb]
  clear hwb
  generalize w1.alloc (.cells #[.int .i64 (e : Nat)] 3) = w2 at *
  obtain ⟨q0, q1, q2⟩ := XW.out.all
  obtain ⟨q3, q4, q5⟩ := X1.out.all
  go_wp2_with fail
  clear q0 q1 q2 q3 q4 q5
  with_reducible refine Calls.mono (HS.out _) ?_
  rintro e w3 ⟨rfl, hb⟩
  have LB3 := Lib.hid (LB2.out.trans (hb.mono LB2.out.size))
  have X1 := Lib.hid (X1.out.below hb X1.out.lt)
  have R0 := Lib.hid (R0.out.below hb R0.out.lt)
  have XW := Lib.hid (XW.out.below hb XW.out.lt)
  clear hb LB2 
  obtain ⟨q0, q1, q2⟩ := XW.out.all
  obtain ⟨q3, q4, q5⟩ := X1.out.all
  go_wp2_with fail
  clear q0 q1 q2 q3 q4 q5
  with_reducible refine Calls.mono (HS2.out _) ?_
  rintro e w4 ⟨rfl, hb⟩
  have LB4 := Lib.hid (LB3.out.trans (hb.mono LB3.out.size))
  have X1 := Lib.hid (X1.out.below hb X1.out.lt)
  have R0 := Lib.hid (R0.out.below hb R0.out.lt)
  have XW := Lib.hid (XW.out.below hb XW.out.lt)
  clear hb LB3 
  obtain ⟨q0, q1, q2⟩ := X1.out.all
  obtain ⟨q3, q4, q5⟩ := XW.out.all
  have hb := ((Below.refl w4.heap.size w4).alloc (by simp; try omega) (.cells #[.int .i64 (q : Nat)] 3))
  have LB5 := Lib.hid (LB4.out.trans (hb.mono LB4.out.size))
  have X1 := Lib.hid (X1.out.below hb X1.out.lt)
  have R0 := Lib.hid (R0.out.below hb R0.out.lt)
  have XW := Lib.hid (XW.out.below hb XW.out.lt)
  have XH := NBox.new w4 (.int .i64 (q : Nat))
  have XH := Lib.hid XH
  clear hb LB4
  go_upto_region 5 with (fail)
  obtain ⟨hb2, hhb2⟩ : ∃ z, w4.heap.size = z := ⟨_, rfl⟩
  rw [hhb2] at XH
  try rw [hhb2]
  clear hhb2
  generalize w4.alloc (.cells #[.int .i64 (q : Nat)] 3) = w5 at *
  clear q0 q1 q2 q3 q4 q5
  have HR := Lib.hid (HT.out _ _ _ _ X1.out XH.out XW.out)
  have hrs := R0.out.lt
  obtain ⟨q0, q1, q2⟩ := X1.out.all
  obtain ⟨q3, q4, q5⟩ := XW.out.all
  obtain ⟨q6, q7, q8⟩ := XH.out.all
  go_wp2_with fail
  clear q0 q1 q2 q3 q4 q5 q6 q7 q8
  with_reducible refine Calls.mono HR.out ?_
  rintro e1 w6 ⟨k2, c2, rfl, hk, hrow, hb⟩
  have LB6 := Lib.hid (LB5.out.trans (hb.mono LB5.out.size))
  have X1 := Lib.hid (X1.out.below hb X1.out.lt)
  have R0 := Lib.hid (R0.out.below hb R0.out.lt)
  have XW := Lib.hid (XW.out.below hb XW.out.lt)
  have XH := Lib.hid (XH.out.below hb XH.out.lt)
  have RW := Lib.hid (show L2.Row w6 k2 (e * q) (pxF s e q) from hrow)
  have hk2 : rb < k2 := by omega
  clear hb hrow hk
  have hb := ((Below.refl w6.heap.size w6).alloc (by simp; try omega) (.cells #[.int .i64 (e : Nat), .int .i64 (q : Nat), .slice (some ⟨k2, 0, none⟩) (e * q) c2] 29))
  have LB7 := Lib.hid (LB6.out.trans (hb.mono LB6.out.size))
  have X1 := Lib.hid (X1.out.below hb X1.out.lt)
  have R0 := Lib.hid (R0.out.below hb R0.out.lt)
  have XW := Lib.hid (XW.out.below hb XW.out.lt)
  have XH := Lib.hid (XH.out.below hb XH.out.lt)
  have RW := Lib.hid (RW.out.below hb RW.out.lt)
  have XI := IBox.new w6 (e : Nat) (q : Nat) (.slice (some ⟨k2, 0, none⟩) (e * q) c2)
  have XI := Lib.hid XI
  clear hb LB6
  go_upto_region 6 with (fail)
  obtain ⟨ib, hib⟩ : ∃ z, w6.heap.size = z := ⟨_, rfl⟩
  rw [hib] at XI
  try rw [hib]
  clear hib
  generalize w6.alloc (.cells #[.int .i64 (e : Nat), .int .i64 (q : Nat), .slice (some ⟨k2, 0, none⟩) (e * q) c2] 29) = w7 at *
  obtain ⟨q0, q1, q2, q3, q4, q5, q6⟩ := XI.out.all
  obtain ⟨q7, q8, q9⟩ := X1.out.all
  go_wp2_with fail
  clear q0 q1 q2 q3 q4 q5 q6 q7 q8 q9
  with_reducible refine Calls.mono (HTX.out _ _ _ RW.out) ?_
  rintro e w8 ⟨rfl, hb⟩
  have LB8 := Lib.hid (LB7.out.trans (hb.mono LB7.out.size))
  have X1 := Lib.hid (X1.out.below hb X1.out.lt)
  have R0 := Lib.hid (R0.out.below hb R0.out.lt)
  have XW := Lib.hid (XW.out.below hb XW.out.lt)
  have XH := Lib.hid (XH.out.below hb XH.out.lt)
  have RW := Lib.hid (RW.out.below hb RW.out.lt)
  have XI := Lib.hid (XI.out.below hb XI.out.lt)
  clear hb LB7 
  obtain ⟨q0, q1, q2⟩ := X1.out.all
  obtain ⟨q3, q4, q5, q6, q7, q8, q9⟩ := XI.out.all
  obtain ⟨s0, s1, s2, s3, s4, s5, s6⟩ := R0.out.all
  go_wp2
  refine bodyPost_ret (v := .tuple #[.agg #[.int .i64 0, .int .i64 0, .slice none 0 0], .int .i64 12]) (by simp [results, Try.results33, go_sem, s0, s1, s2, s3, s4, s5]) rfl ?_
  exact fin_ie _ hrw LB8.out
set_option maxHeartbeats 1600000 in
theorem pparse_eq (s : ByteArray) (e q : Nat) (w : World) (h : Lib.indexByte s.data.toList 10 = (e : Int)) (he : 1 ≤ e) (he1 : e ≤ 64) (hs : s.size ≤ 5000) (hq : s.size / (e + 1) = q) (q0 : 1 ≤ q) (q1 : q ≤ 64) (hf : fine (e * q) (pxF s e q) = true) (hne : rowsI e q (pxF s e q) q = s.data.toList) : Calls Try.prog 33 #[.string s] w (RI w (e : Nat) (q : Nat) (e * q) (pxF s e q) 0) := by
  have HI := Lib.hid (fun u => idx_any s e h u)
  have HS := Lib.hid (fun u => side_any (e : Nat) u)
  rw [side_nat he he1] at HS
  have HS2 := Lib.hid (fun u => side_any (q : Nat) u)
  rw [side_nat q0 q1] at HS2
  have hqs : q * (e + 1) ≤ s.size := by rw [← hq]; exact Nat.div_mul_le_self _ _
  have HT := Lib.hid (fun u g1 g2 g3 (x1 : TBox u g1 (.string s)) (x2 : NBox u g2 (.int .i64 (q : Nat))) (x3 : NBox u g3 (.int .i64 (e : Nat))) =>
    vimg_any e q he he1 q0 q1 62 _ _ u (parse_clo x1 x2 x3 he1 q1 hqs) (Go.Proofs.enters_of Try.func62 (by kernel_rfl) rfl))
  have hmf := mk_fn
  have eqw : wrap64 (q : Int) = (q : Int) := IntWalk.wrap64_in _ (by have := Nat.div_le_self s.size (e + 1); omega)
  have ez : ¬ e + 1 = 0 := by omega
  have e0 : IntKind.i64.wrap ((e : Int) + 1) = (e : Int) + 1 := IntWalk.i64_in _ (by omega)
  have eq' : (s.size : Int) / ((e : Int) + 1) = (q : Int) := by rw [← hq]; simp
  have eq : (s.size : Int).tdiv ((e : Int) + 1) = (q : Int) := by rw [Int.tdiv_eq_ediv_of_nonneg (by omega)]; exact eq'
  have HTX := Lib.hid (fun u k c (hr : L2.Row u k (e * q) (pxF s e q)) => ptext_ok e q (some ⟨k, 0, none⟩) c (pxF s e q) u (hr.holds hr.lt) he he1 q0 q1 hf)
  obtain ⟨lt, hlt⟩ : ∃ z, rowsI e q (pxF s e q) q = z := ⟨_, rfl⟩
  rw [hlt] at HTX hne
  have y1 : (lt == s.toList) = true := by rw [ByteArray.toList_eq, hne]; simp
  have y2 : ((0 : Int) != 0) = false := rfl
  clear h hq hf hqs hne hlt
  have LB0 := Lib.hid (Below.refl w.heap.size w)
  have X1 := TBox.new w (.string s)
  have X1 := Lib.hid X1
  have LB0 := Lib.hid (LB0.out.alloc LB0.out.size (.cells #[.string s] 9))
  have X1 := Lib.hid (X1.out.alloc (.cells #[.int .i64 0, .int .i64 0, .slice none 0 0] 29))
  have R0 := IBox.new (w.alloc (.cells #[.string s] 9)) 0 0 (.slice none 0 0)
  rw [show ((w.alloc (.cells #[.string s] 9))).heap.size = w.heap.size + 1 by simp] at R0
  have R0 := Lib.hid R0
  have LB0 := Lib.hid (LB0.out.alloc LB0.out.size (.cells #[.int .i64 0, .int .i64 0, .slice none 0 0] 29))
  go_enter Try.func33, Try.ntmps33
  go_upto_region 1 with (fail)
  generalize (w.alloc (.cells #[.string s] 9)).alloc (.cells #[.int .i64 0, .int .i64 0, .slice none 0 0] 29) = w0 at *
  obtain ⟨q0, q1, q2⟩ := X1.out.all
  go_wp2_with fail
  clear q0 q1 q2
  with_reducible refine Calls.mono (HI.out _) ?_
  rintro e w1 ⟨rfl, hb⟩
  have LB1 := Lib.hid (LB0.out.trans (hb.mono LB0.out.size))
  have X1 := Lib.hid (X1.out.below hb X1.out.lt)
  have R0 := Lib.hid (R0.out.below hb R0.out.lt)
  clear hb LB0 
  obtain ⟨rb, hrb⟩ : ∃ z, w.heap.size + 1 = z := ⟨_, rfl⟩
  have hrw : w.heap.size ≤ rb := by omega
  rw [hrb] at R0 ⊢
  clear hrb
  have hb := ((Below.refl w1.heap.size w1).alloc (by simp; try omega) (.cells #[.int .i64 (e : Nat)] 3))
  have LB2 := Lib.hid (LB1.out.trans (hb.mono LB1.out.size))
  have X1 := Lib.hid (X1.out.below hb X1.out.lt)
  have R0 := Lib.hid (R0.out.below hb R0.out.lt)
  have XW := NBox.new w1 (.int .i64 (e : Nat))
  have XW := Lib.hid XW
  clear hb LB1
  go_upto_region 2 with (fail)
  obtain ⟨wb, hwb⟩ : ∃ z, w1.heap.size = z := ⟨_, rfl⟩
  rw [hwb] at XW
  try rw [hwb]
  clear hwb
  generalize w1.alloc (.cells #[.int .i64 (e : Nat)] 3) = w2 at *
  obtain ⟨q0, q1, q2⟩ := XW.out.all
  obtain ⟨q3, q4, q5⟩ := X1.out.all
  go_wp2_with fail
  clear q0 q1 q2 q3 q4 q5
  with_reducible refine Calls.mono (HS.out _) ?_
  rintro e w3 ⟨rfl, hb⟩
  have LB3 := Lib.hid (LB2.out.trans (hb.mono LB2.out.size))
  have X1 := Lib.hid (X1.out.below hb X1.out.lt)
  have R0 := Lib.hid (R0.out.below hb R0.out.lt)
  have XW := Lib.hid (XW.out.below hb XW.out.lt)
  clear hb LB2 
  obtain ⟨q0, q1, q2⟩ := XW.out.all
  obtain ⟨q3, q4, q5⟩ := X1.out.all
  go_wp2_with fail
  clear q0 q1 q2 q3 q4 q5
  with_reducible refine Calls.mono (HS2.out _) ?_
  rintro e w4 ⟨rfl, hb⟩
  have LB4 := Lib.hid (LB3.out.trans (hb.mono LB3.out.size))
  have X1 := Lib.hid (X1.out.below hb X1.out.lt)
  have R0 := Lib.hid (R0.out.below hb R0.out.lt)
  have XW := Lib.hid (XW.out.below hb XW.out.lt)
  clear hb LB3 
  obtain ⟨q0, q1, q2⟩ := X1.out.all
  obtain ⟨q3, q4, q5⟩ := XW.out.all
  have hb := ((Below.refl w4.heap.size w4).alloc (by simp; try omega) (.cells #[.int .i64 (q : Nat)] 3))
  have LB5 := Lib.hid (LB4.out.trans (hb.mono LB4.out.size))
  have X1 := Lib.hid (X1.out.below hb X1.out.lt)
  have R0 := Lib.hid (R0.out.below hb R0.out.lt)
  have XW := Lib.hid (XW.out.below hb XW.out.lt)
  have XH := NBox.new w4 (.int .i64 (q : Nat))
  have XH := Lib.hid XH
  clear hb LB4
  go_upto_region 5 with (fail)
  obtain ⟨hb2, hhb2⟩ : ∃ z, w4.heap.size = z := ⟨_, rfl⟩
  rw [hhb2] at XH
  try rw [hhb2]
  clear hhb2
  generalize w4.alloc (.cells #[.int .i64 (q : Nat)] 3) = w5 at *
  clear q0 q1 q2 q3 q4 q5
  have HR := Lib.hid (HT.out _ _ _ _ X1.out XH.out XW.out)
  have hrs := R0.out.lt
  obtain ⟨q0, q1, q2⟩ := X1.out.all
  obtain ⟨q3, q4, q5⟩ := XW.out.all
  obtain ⟨q6, q7, q8⟩ := XH.out.all
  go_wp2_with fail
  clear q0 q1 q2 q3 q4 q5 q6 q7 q8
  with_reducible refine Calls.mono HR.out ?_
  rintro e1 w6 ⟨k2, c2, rfl, hk, hrow, hb⟩
  have LB6 := Lib.hid (LB5.out.trans (hb.mono LB5.out.size))
  have X1 := Lib.hid (X1.out.below hb X1.out.lt)
  have R0 := Lib.hid (R0.out.below hb R0.out.lt)
  have XW := Lib.hid (XW.out.below hb XW.out.lt)
  have XH := Lib.hid (XH.out.below hb XH.out.lt)
  have RW := Lib.hid (show L2.Row w6 k2 (e * q) (pxF s e q) from hrow)
  have hk2 : rb < k2 := by omega
  clear hb hrow hk
  have hb := ((Below.refl w6.heap.size w6).alloc (by simp; try omega) (.cells #[.int .i64 (e : Nat), .int .i64 (q : Nat), .slice (some ⟨k2, 0, none⟩) (e * q) c2] 29))
  have LB7 := Lib.hid (LB6.out.trans (hb.mono LB6.out.size))
  have X1 := Lib.hid (X1.out.below hb X1.out.lt)
  have R0 := Lib.hid (R0.out.below hb R0.out.lt)
  have XW := Lib.hid (XW.out.below hb XW.out.lt)
  have XH := Lib.hid (XH.out.below hb XH.out.lt)
  have RW := Lib.hid (RW.out.below hb RW.out.lt)
  have XI := IBox.new w6 (e : Nat) (q : Nat) (.slice (some ⟨k2, 0, none⟩) (e * q) c2)
  have XI := Lib.hid XI
  clear hb LB6
  go_upto_region 6 with (fail)
  obtain ⟨ib, hib⟩ : ∃ z, w6.heap.size = z := ⟨_, rfl⟩
  rw [hib] at XI
  try rw [hib]
  clear hib
  generalize w6.alloc (.cells #[.int .i64 (e : Nat), .int .i64 (q : Nat), .slice (some ⟨k2, 0, none⟩) (e * q) c2] 29) = w7 at *
  obtain ⟨q0, q1, q2, q3, q4, q5, q6⟩ := XI.out.all
  obtain ⟨q7, q8, q9⟩ := X1.out.all
  go_wp2_with fail
  clear q0 q1 q2 q3 q4 q5 q6 q7 q8 q9
  with_reducible refine Calls.mono (HTX.out _ _ _ RW.out) ?_
  rintro e w8 ⟨rfl, hb⟩
  have LB8 := Lib.hid (LB7.out.trans (hb.mono LB7.out.size))
  have X1 := Lib.hid (X1.out.below hb X1.out.lt)
  have R0 := Lib.hid (R0.out.below hb R0.out.lt)
  have XW := Lib.hid (XW.out.below hb XW.out.lt)
  have XH := Lib.hid (XH.out.below hb XH.out.lt)
  have RW := Lib.hid (RW.out.below hb RW.out.lt)
  have XI := Lib.hid (XI.out.below hb XI.out.lt)
  clear hb LB7 
  obtain ⟨q0, q1, q2⟩ := X1.out.all
  obtain ⟨q3, q4, q5, q6, q7, q8, q9⟩ := XI.out.all
  obtain ⟨s0, s1, s2, s3, s4, s5, s6⟩ := R0.out.all
  go_wp2
  refine bodyPost_ret (v := .tuple #[.agg #[.int .i64 (e : Nat), .int .i64 (q : Nat), .slice (some ⟨k2, 0, none⟩) (e * q) c2], .int .i64 0]) (by simp [results, Try.results33, go_sem, s0, s1, s2, s3, s4, s5]) rfl ?_
  exact fin_im hrw hk2 RW.out LB8.out
end Go.Proofs.Ytppepcijpdamhaa
