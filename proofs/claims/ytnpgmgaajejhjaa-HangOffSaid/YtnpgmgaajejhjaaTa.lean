/- Merged: Shelf Ixb Lines Tx Parse. -/
import Derived.Shelf.Small.Strs
import Derived.Shelf.Strings.Search1
import Derived.Test.YtnpgmgaajejhjaaProg
import Derived.Test.YtnpgmgaajejhjaaGa
import Derived.Test.YtnpgmgaajejhjaaGb
import Derived.Deep.RegionHeld3

/- The shelf's IndexByte, laid at this translation. -/
namespace Go.Proofs
open Go.Shelf
def Try.lays137_ren : Go.Shelf.Ren := ⟨fun | 137 => 93 | 217 => 118 | 266 => 125 | n => n, fun | 9 => 9 | 5 => 5 | 3 => 3 | n => n, fun | n => n⟩
theorem Try.lays137 : Go.Proofs.Lays.n137 Try.prog Try.lays137_ren := {
  mixed := by kernel_rfl
  f137 := Try.func93.trans (congrArg some (by kernel_rfl))
  f217 := Try.func118.trans (congrArg some (by kernel_rfl))
  f266 := Try.func125.trans (congrArg some (by kernel_rfl))
  t3 := Try.underlying3
  a3 := Try.isAgg3
  z3 := Try.sizeOf3
  v3 := Try.zeroValue3
  t5 := Try.underlying5
  a5 := Try.isAgg5
  z5 := Try.sizeOf5
  v5 := Try.zeroValue5
  t9 := Try.underlying9
  a9 := Try.isAgg9
  z9 := Try.sizeOf9
  v9 := Try.zeroValue9 }
open Go.RowKit in
theorem Try.strings_IndexByte (s : ByteArray) (c : Int) (w : World) :
    Calls Try.prog 93 #[.string s, .int .u8 c] w fun e w' => e = .returned (.int .i64 (Lib.indexByte s.data.toList c.toNat.toUInt8)) ∧ w' = w := Any.strings_IndexByte Try.lays137 s c w
end Go.Proofs

/- Whether a string has lines of one length: by the program. -/
namespace Go.Proofs.Ytnpgmgaajejhjaa
open Go.RowKit
set_option maxRecDepth 100000
set_option linter.unusedVariables false
set_option linter.unusedSimpArgs false

/-- The byte at i is what a text with lines of w characters has there. -/
def okAt (s : ByteArray) (w i : Nat) (h : i < s.size) : Prop := if i % (w + 1) = w then (s[i]'h).toNat = 10 else (s[i]'h).toNat = 120 ∨ (s[i]'h).toNat = 46
def Lines (s : ByteArray) (w : Nat) : Prop := s.size % (w + 1) = 0 ∧ ∀ i (h : i < s.size), okAt s w i h
def Says (p : Prop) (w : World) (e : Ending) (w' : World) : Prop := ∃ b : Bool, e = .returned (.bool b) ∧ (b = true ↔ p) ∧ w' = w
theorem says_no {p : Prop} {w : World} (h : ¬ p) : Says p w (.returned (.bool false)) w := ⟨false, rfl, ⟨(fun h' => by cases h'), (fun h' => absurd h' h)⟩, rfl⟩
theorem says_yes {p : Prop} {w : World} (h : p) : Says p w (.returned (.bool true)) w := ⟨true, rfl, ⟨fun _ => h, fun _ => rfl⟩, rfl⟩

set_option maxHeartbeats 800000 in
theorem lines_any (s : ByteArray) (w : Nat) (W : World) (hs : s.size ≤ 5000) (h0 : 1 ≤ w) (h1 : w ≤ 64) :
    Calls Try.prog 94 #[.string s, .int .i64 w] W (Says (Lines s w) W) := by
  by_cases hm : s.size % (w + 1) = 0
  · have hmi : (s.size : Int) % ((w : Int) + 1) = 0 := by have := congrArg (fun n : Nat => (n : Int)) hm; simpa using this
    have hmb : ((s.size : Int) % ((w : Int) + 1) != 0) = false := by simp [hmi]
    have HM := Lib.hid hm
    clear hm hmi
    go_enter Try.func94, Try.ntmps94
    go_wp2
    go_loop [14] (fun i => ∃ k : Nat, k ≤ s.size ∧ i = .int .i64 k ∧ Hid (∀ i (h : i < s.size), i < k → okAt s w i h)) (fun i => s.size - (intOf i).toNat)
    case atStart => exact ⟨0, Nat.zero_le _, rfl, fun i _ hi => absurd hi (by omega)⟩
    case round =>
      obtain ⟨k, hk, rfl, hall⟩ := hrel
      by_cases hlt : k < s.size
      · by_cases he : k % (w + 1) = w
        · have hei : ((k : Int) % ((w : Int) + 1) == (w : Int)) = true := by
            have := congrArg (fun n : Nat => (n : Int)) he; simpa using this
          have HE := Lib.hid he
          clear he
          go_wp2
          · have h : (((s[k]'hlt).toNat : Int) != 10) = true := by assumption
            go_ret
            refine says_no fun L => ?_
            have g := L.2 k hlt
            unfold okAt at g
            rw [if_pos HE.out] at g
            simp [g] at h
          · have h : (((s[k]'hlt).toNat : Int) != 10) = false := by assumption
            refine ⟨⟨k + 1, by omega, by go_num, fun i hi hi' => ?_⟩, by simp [intOf]; omega⟩
            rcases Nat.lt_succ_iff_lt_or_eq.1 hi' with h' | rfl
            · exact hall.out i hi h'
            · unfold okAt
              rw [if_pos HE.out]
              simp at h; omega
        · have hei : ((k : Int) % ((w : Int) + 1) == (w : Int)) = false := by
            have : ((k % (w + 1) : Nat) : Int) ≠ (w : Int) := fun h => he (by exact_mod_cast h)
            simpa using this
          have HE := Lib.hid he
          clear he
          go_wp2
          · have h : ((s[k]'hlt).toNat : Int) = 120 := by assumption
            refine ⟨⟨k + 1, by omega, by go_num, fun i hi hi' => ?_⟩, by simp [intOf]; omega⟩
            rcases Nat.lt_succ_iff_lt_or_eq.1 hi' with h' | rfl
            · exact hall.out i hi h'
            · unfold okAt
              rw [if_neg HE.out]
              exact .inl (by omega)
          · have h : (((s[k]'hlt).toNat : Int) != 120) = true ∧ (((s[k]'hlt).toNat : Int) != 46) = true := by assumption
            go_ret
            refine says_no fun L => ?_
            have g := L.2 k hlt
            unfold okAt at g
            rw [if_neg HE.out] at g
            rcases g with g | g <;> simp [g] at h
          · have h : (((s[k]'hlt).toNat : Int) != 120) = false ∨ (((s[k]'hlt).toNat : Int) != 46) = false := by assumption
            refine ⟨⟨k + 1, by omega, by go_num, fun i hi hi' => ?_⟩, by simp [intOf]; omega⟩
            rcases Nat.lt_succ_iff_lt_or_eq.1 hi' with h' | rfl
            · exact hall.out i hi h'
            · unfold okAt
              rw [if_neg HE.out]
              rcases h with h | h <;> simp at h <;> omega
      · have e : k = s.size := by omega
        subst e
        go_wp2
        go_ret
        exact says_yes ⟨HM.out, fun i hi => hall.out i hi hi⟩
  · have hmi : ¬ (s.size : Int) % ((w : Int) + 1) = 0 := fun h => hm (by
      have e : ((s.size % (w + 1) : Nat) : Int) = (s.size : Int) % ((w : Int) + 1) := by simp
      omega)
    have hmb : ((s.size : Int) % ((w : Int) + 1) != 0) = true := by simp [hmi]
    have HM := Lib.hid hm
    clear hm hmi
    go_enter Try.func94, Try.ntmps94
    go_wp2
    go_ret
    exact says_no fun L => HM.out L.1
end Go.Proofs.Ytnpgmgaajejhjaa


/- The program's Parse. -/
namespace Go.Proofs.Ytnpgmgaajejhjaa
open Go.RowKit
set_option maxRecDepth 100000
set_option linter.unusedVariables false
set_option linter.unusedSimpArgs false

def bitS (s : ByteArray) (i : Nat) : Bool := if h : i < s.size then (s[i]'h).toNat == 120 else false
/-- A captured string in a variable of its own. -/
def StrAt (w : World) (g : Nat) (s : ByteArray) : Prop := w.cell? ⟨g, 0, none⟩ = some (.string s) ∧ g < w.heap.size
theorem StrAt.below {w w' : World} {g : Nat} {s : ByteArray} (h : StrAt w g s) (hb : Below w.heap.size w w') : StrAt w' g s :=
  ⟨(hb.cell (p := ⟨g, 0, none⟩) h.2).trans h.1, Nat.lt_of_lt_of_le h.2 hb.size⟩

theorem text_ix {w h x y n : Nat} (hx : x < w) (hy : y < h) (hn : h * (w + 1) = n) : (h - 1 - y) * (w + 1) + x < n := by
  have e : (h - 1 - y) * (w + 1) + (w + 1) ≤ h * (w + 1) := by
    have := Nat.mul_le_mul_right (w + 1) (show h - 1 - y + 1 ≤ h by omega)
    rw [Nat.add_mul, Nat.one_mul] at this
    exact this
  omega

set_option maxHeartbeats 400000 in
theorem parse_clo {W : World} {gs gh gw w h : Nat} {s : ByteArray} (ns : StrAt W gs s) (nh : Num W gh h) (nw : Num W gw w) (w1 : w ≤ 64) (h1 : h ≤ 64) (hn : h * (w + 1) = s.size) :
    Gives 95 #[.pointer (some ⟨gs, 0, none⟩), .pointer (some ⟨gh, 0, none⟩), .pointer (some ⟨gw, 0, none⟩)] W w h (fun x y => bitS s ((h - 1 - y) * (w + 1) + x)) := by
  intro W1 x y hb hx hy
  obtain ⟨q0, q1⟩ := ns.below hb
  obtain ⟨q2, q3⟩ := nh.below hb
  obtain ⟨q4, q5⟩ := nw.below hb
  have hi := text_ix hx hy hn
  have hbd : (h - 1 - y) * (w + 1) ≤ 64 * 65 := Nat.mul_le_mul (by omega) (by omega)
  have e1 : ((h : Int) - 1 - (y : Int)) * ((w : Int) + 1) = (((h - 1 - y) * (w + 1) : Nat) : Int) := by
    have a1 : (h : Int) - 1 - (y : Int) = ((h - 1 - y : Nat) : Int) := by omega
    have a2 : (w : Int) + 1 = ((w + 1 : Nat) : Int) := by omega
    rw [a1, a2, Int.natCast_mul]
  obtain ⟨p, hp⟩ : ∃ p, (h - 1 - y) * (w + 1) = p := ⟨_, rfl⟩
  rw [hp] at e1 hi hbd
  have HP := Lib.hid hp
  clear hp
  have hb0 : bitS s (p + x) = (((s[p + x]'hi).toNat : Int) == 120) := by
    unfold bitS
    rw [dif_pos hi, Bool.eq_iff_iff]
    simp
    omega
  have HB := Lib.hid hb0
  clear hb0 ns nh nw hn
  have hii : (p : Int) + (x : Int) < (s.size : Int) := by omega
  have e2 : ((p : Int) + (x : Int)).toNat = p + x := by omega
  go_enter Try.func95, Try.ntmps95
  go_wp2
  go_ret
  exact ⟨ret_bool (by show _ = bitS s ((h - 1 - y) * (w + 1) + x); rw [HP.out]; exact HB.out.symm), Below.refl _ _⟩

/-- Parse's parameter in its box, the result's box and the first number, behind the first call. -/
theorem parse_start (w : World) (s : ByteArray) (i : Int) :
    StrAt (((w.alloc (.cells #[.string s] 9)).alloc (.cells #[.int .i64 0, .int .i64 0, .slice none 0 0] 24)).alloc (.cells #[.int .i64 i] 3)) w.heap.size s ∧
    Box (((w.alloc (.cells #[.string s] 9)).alloc (.cells #[.int .i64 0, .int .i64 0, .slice none 0 0] 24)).alloc (.cells #[.int .i64 i] 3)) (w.heap.size + 1) 0 0 (.slice none 0 0) ∧
    Num (((w.alloc (.cells #[.string s] 9)).alloc (.cells #[.int .i64 0, .int .i64 0, .slice none 0 0] 24)).alloc (.cells #[.int .i64 i] 3)) (w.heap.size + 2) i ∧
    Below w.heap.size w (((w.alloc (.cells #[.string s] 9)).alloc (.cells #[.int .i64 0, .int .i64 0, .slice none 0 0] 24)).alloc (.cells #[.int .i64 i] 3)) ∧
    (((w.alloc (.cells #[.string s] 9)).alloc (.cells #[.int .i64 0, .int .i64 0, .slice none 0 0] 24)).alloc (.cells #[.int .i64 i] 3)).heap.size = w.heap.size + 3 := by
  have h1 : StrAt (w.alloc (.cells #[.string s] 9)) w.heap.size s := ⟨by simp, by simp⟩
  have h1' := (h1.below ((Below.refl _ _).alloc (Nat.le_refl _) (.cells #[.int .i64 0, .int .i64 0, .slice none 0 0] 24))).below ((Below.refl _ _).alloc (Nat.le_refl _) (.cells #[.int .i64 i] 3))
  have h2 := (Box.new (w.alloc (.cells #[.string s] 9)) 0 0 (.slice none 0 0)).alloc (.cells #[.int .i64 i] 3)
  have h3 := Num.new ((w.alloc (.cells #[.string s] 9)).alloc (.cells #[.int .i64 0, .int .i64 0, .slice none 0 0] 24)) i
  simp only [World.size_alloc] at h2 h3
  exact ⟨h1', h2, h3, (((Below.refl _ _).alloc (Nat.le_refl _) _).alloc (by simp) _).alloc (by simp; omega) _, by simp⟩

theorem lines_yes (s : ByteArray) (w : Nat) (W : World) (hs : s.size ≤ 5000) (h0 : 1 ≤ w) (h1 : w ≤ 64) (hL : Lines s w) :
    Calls Try.prog 94 #[.string s, .int .i64 w] W fun e w' => e = .returned (.bool true) ∧ w' = W :=
  (lines_any s w W hs h0 h1).mono fun e w' ⟨b, he, hb, hw⟩ => ⟨by rw [he, hb.2 hL], hw⟩
theorem lines_no (s : ByteArray) (w : Nat) (W : World) (hs : s.size ≤ 5000) (h0 : 1 ≤ w) (h1 : w ≤ 64) (hL : ¬ Lines s w) :
    Calls Try.prog 94 #[.string s, .int .i64 w] W fun e w' => e = .returned (.bool false) ∧ w' = W :=
  (lines_any s w W hs h0 h1).mono fun e w' ⟨b, he, hb, hw⟩ => ⟨by
    cases b
    · exact he
    · exact absurd (hb.1 rfl) hL, hw⟩

set_option maxHeartbeats 800000 in
theorem parse_ok (s : ByteArray) (w h : Nat) (W : World) (hs : s.size ≤ 5000) (w0 : 1 ≤ w) (w1 : w ≤ 64) (h0 : 1 ≤ h) (h1 : h ≤ 64) (hn : h * (w + 1) = s.size) (hL : Lines s w)
    (hI : ∀ W', Calls Try.prog 93 #[.string s, .int .u8 10] W' fun e w' => e = .returned (.int .i64 (w : Int)) ∧ w' = W') :
    Calls Try.prog 60 #[.string s] W (OkGrid W w h fun i => bitS s ((h - 1 - i / w) * (w + 1) + i % w)) := by
  have hmf := mk_fn
  have HI := Lib.hid hI
  have HL := Lib.hid hL
  have HN := Lib.hid hn
  have S0 := Lib.hid (parse_start W s w)
  have ez : ¬ w + 1 = 0 := by omega
  have eq : (s.size : Int).tdiv ((w : Int) + 1) = (h : Int) := by
    have e1 : (s.size : Int) = (h : Int) * ((w : Int) + 1) := by rw [← hn, Int.natCast_mul]; simp
    rw [e1, Int.mul_tdiv_cancel _ (by omega)]
  have eq' : (s.size : Int) / ((w : Int) + 1) = (h : Int) := by
    have e1 : (s.size : Int) = (h : Int) * ((w : Int) + 1) := by rw [← hn, Int.natCast_mul]; simp
    rw [e1, Int.mul_ediv_cancel _ (by omega)]
  clear hI hL hn
  go_enter Try.func60, Try.ntmps60
  go_wp2_with fail
  refine (HI.out _).mono ?_
  rintro e w2 ⟨rfl, rfl⟩
  have i1 : (1 : Int) ≤ (w : Int) := by omega
  have i2 : (w : Int) ≤ 64 := by omega
  have i3 : (h : Int) ≤ 64 := by omega
  have dz : decide ((64 : Int) < (h : Int)) = false := by simp; omega
  go_wp2_with fail
  have S := S0.out
  generalize ((W.alloc (.cells #[.string s] 9)).alloc (.cells #[.int .i64 0, .int .i64 0, .slice none 0 0] 24)).alloc (.cells #[.int .i64 (w : Int)] 3) = W3 at *
  obtain ⟨a1, a2, a3, a4, a5⟩ := S
  refine (lines_yes s w _ hs w0 w1 HL.out).mono ?_
  rintro e w2 ⟨rfl, rfl⟩
  obtain ⟨q0, q1⟩ := a1
  obtain ⟨q2, q3⟩ := a3
  have HA2 := Lib.hid a2
  have HA4 := Lib.hid a4
  have HA5 := Lib.hid a5
  clear a2 a4 a5
  go_wp2_with fail
  have hb0 := (Below.refl w2.heap.size w2).alloc (Nat.le_refl _) (.cells #[.int .i64 (h : Int)] 3)
  refine (build_any w h w0 w1 h0 h1 95 _ _ _ (parse_clo (StrAt.below ⟨q0, q1⟩ hb0) (Num.new w2 h) (Num.below ⟨q2, q3⟩ hb0) w1 h1 HN.out) (Go.Proofs.enters_of Try.func95 (by kernel_rfl) rfl)).mono ?_
  rintro e w3 ⟨k, rfl, hk, hrow, hb3⟩
  have hbel := hb0.trans (hb3.mono hb0.size)
  have hbox := HA2.out.below hbel HA2.out.lt
  have hsz := HA5.out
  have hsz0 := hb0.size
  have hbelW := HA4.out.trans (hbel.mono HA4.out.size)
  clear hb0 hb3 hbel q0 q1 q2 q3
  obtain ⟨p0, p1, p2, p3, p4, p5, p6⟩ := hbox.all
  clear hbox
  have HZ := Lib.hid hsz
  have hkr : W.heap.size + 1 < k := by omega
  clear hsz
  go_wp2
  refine bodyPost_ret (v := .tuple #[.agg #[.int .i64 w, .int .i64 h, .slice (some ⟨k, 0, none⟩) (w * h) (w * h)], .int .i64 0]) (by simp [results, Try.results60, go_sem, p0, p1, p2]) rfl ?_
  exact fin_ok (by omega) hkr (hrow.congr fun i hi => rfl) hbelW

set_option maxHeartbeats 800000 in
theorem parse_bad2 (s : ByteArray) (w : Nat) (W : World) (hs : s.size ≤ 5000) (w0 : 1 ≤ w) (w1 : w ≤ 64) (hL : ¬ Lines s w)
    (hI : ∀ W', Calls Try.prog 93 #[.string s, .int .u8 10] W' fun e w' => e = .returned (.int .i64 (w : Int)) ∧ w' = W') :
    Calls Try.prog 60 #[.string s] W (ErrGrid W 12) := by
  have HI := Lib.hid hI
  have S0 := Lib.hid (parse_start W s (w : Int))
  clear hI
  have HL := Lib.hid hL
  clear hL
  have i1 : (1 : Int) ≤ (w : Int) := by omega
  have i2 : (w : Int) ≤ 64 := by omega
  go_enter Try.func60, Try.ntmps60
  go_wp2_with fail
  refine (HI.out _).mono ?_
  rintro e w2 ⟨rfl, rfl⟩
  go_wp2_with fail
  have S := S0.out
  clear S0
  generalize ((W.alloc (.cells #[.string s] 9)).alloc (.cells #[.int .i64 0, .int .i64 0, .slice none 0 0] 24)).alloc (.cells #[.int .i64 (w : Int)] 3) = W3 at *
  obtain ⟨a1, a2, a3, a4, a5⟩ := S
  refine (lines_no s w _ hs w0 w1 HL.out).mono ?_
  rintro e w2 ⟨rfl, rfl⟩
  obtain ⟨p0, p1, p2, p3, p4, p5, p6⟩ := a2.all
  have HB := Lib.hid a4
  clear a1 a2 a3 a4 a5
  go_wp2
  refine bodyPost_ret (v := .tuple #[.agg #[.int .i64 0, .int .i64 0, .slice none 0 0], .int .i64 12]) (by simp [results, Try.results60, go_sem, p0, p1, p2]) rfl ?_
  exact fin_err (by omega) HB.out

set_option maxHeartbeats 800000 in
theorem parse_bad3 (s : ByteArray) (w h : Nat) (W : World) (hs : s.size ≤ 5000) (w0 : 1 ≤ w) (w1 : w ≤ 64) (hL : Lines s w) (hn : h * (w + 1) = s.size) (hh : 64 < h)
    (hI : ∀ W', Calls Try.prog 93 #[.string s, .int .u8 10] W' fun e w' => e = .returned (.int .i64 (w : Int)) ∧ w' = W') :
    Calls Try.prog 60 #[.string s] W (ErrGrid W 12) := by
  have HI := Lib.hid hI
  have S0 := Lib.hid (parse_start W s (w : Int))
  clear hI
  have HL := Lib.hid hL
  have i1 : (1 : Int) ≤ (w : Int) := by omega
  have i2 : (w : Int) ≤ 64 := by omega
  have e1 : (s.size : Int) = (h : Int) * ((w : Int) + 1) := by rw [← hn, Int.natCast_mul]; simp
  have ez : ¬ w + 1 = 0 := by omega
  have eq : (s.size : Int).tdiv ((w : Int) + 1) = (h : Int) := by rw [e1, Int.mul_tdiv_cancel _ (by omega)]
  have eq' : (s.size : Int) / ((w : Int) + 1) = (h : Int) := by rw [e1, Int.mul_ediv_cancel _ (by omega)]
  have hh2 : (h : Int) ≤ 5000 := by have := Nat.le_mul_of_pos_right h (show 0 < w + 1 by omega); omega
  have dz : decide ((64 : Int) < (h : Int)) = true := by simp; omega
  have i3 : (64 : Int) < (h : Int) := by omega
  clear hL hn e1
  go_enter Try.func60, Try.ntmps60
  go_wp2_with fail
  refine (HI.out _).mono ?_
  rintro e w2 ⟨rfl, rfl⟩
  go_wp2_with fail
  have S := S0.out
  clear S0
  generalize ((W.alloc (.cells #[.string s] 9)).alloc (.cells #[.int .i64 0, .int .i64 0, .slice none 0 0] 24)).alloc (.cells #[.int .i64 (w : Int)] 3) = W3 at *
  obtain ⟨a1, a2, a3, a4, a5⟩ := S
  refine (lines_yes s w _ hs w0 w1 HL.out).mono ?_
  rintro e w2 ⟨rfl, rfl⟩
  obtain ⟨q0, q1⟩ := a1
  obtain ⟨q2, q3⟩ := a3
  have hb0 := (Below.refl w2.heap.size w2).alloc (Nat.le_refl _) (.cells #[.int .i64 (h : Int)] 3)
  have HB := Lib.hid a4
  obtain ⟨p0, p1, p2, p3, p4, p5, p6⟩ := a2.all
  clear a2 a4 a5 hb0
  go_wp2
  have hx : W.heap.size + 1 < (((w2.setCell ⟨W.heap.size + 1, 0, none⟩ (.int .i64 0)).setCell ⟨W.heap.size + 1, 1, none⟩ (.int .i64 0)).setCell ⟨W.heap.size + 1, 2, none⟩ (.slice none 0 0)).heap.size := by simpa using p6
  have hy := fun i => World.cell?_alloc_lt (((w2.setCell ⟨W.heap.size + 1, 0, none⟩ (.int .i64 0)).setCell ⟨W.heap.size + 1, 1, none⟩ (.int .i64 0)).setCell ⟨W.heap.size + 1, 2, none⟩ (.slice none 0 0)) (.cells #[.int .i64 (h : Int)] 3) ⟨W.heap.size + 1, i, none⟩ hx
  refine bodyPost_ret (v := .tuple #[.agg #[.int .i64 0, .int .i64 0, .slice none 0 0], .int .i64 12]) (by simp [results, Try.results60, go_sem, hy, p0, p1, p2]) rfl ⟨rfl, ?_⟩
  exact ((((HB.out.setCell (by simp) _).setCell (by simp) _).setCell (by simp) _).alloc (by have := HB.out.size; simp; omega) _)

set_option maxHeartbeats 800000 in
theorem parse_bad1 (s : ByteArray) (w : Int) (W : World) (hw : w < 1 ∨ 64 < w)
    (hI : ∀ W', Calls Try.prog 93 #[.string s, .int .u8 10] W' fun e w' => e = .returned (.int .i64 w) ∧ w' = W') :
    Calls Try.prog 60 #[.string s] W (ErrGrid W 12) := by
  have HI := Lib.hid hI
  have S0 := Lib.hid (parse_start W s w)
  clear hI
  have HW := Lib.hid hw
  clear hw
  go_enter Try.func60, Try.ntmps60
  go_wp2_with fail
  refine (HI.out _).mono ?_
  rintro e w2 ⟨rfl, rfl⟩
  have S := S0.out
  clear S0
  obtain ⟨a1, a2, a3, a4, a5⟩ := S
  have HB := Lib.hid a4
  obtain ⟨p0, p1, p2, p3, p4, p5, p6⟩ := a2.all
  clear a1 a2 a3 a4 a5
  rcases HW.out with hw | hw
  · go_wp2
    refine bodyPost_ret (v := .tuple #[.agg #[.int .i64 0, .int .i64 0, .slice none 0 0], .int .i64 12]) (by simp [results, Try.results60, go_sem]) rfl ⟨rfl, ?_⟩
    exact HB.out
  · have hw' : ¬ w < 1 := by omega
    go_wp2
    refine bodyPost_ret (v := .tuple #[.agg #[.int .i64 0, .int .i64 0, .slice none 0 0], .int .i64 12]) (by simp [results, Try.results60, go_sem]) rfl ⟨rfl, ?_⟩
    exact HB.out
end Go.Proofs.Ytnpgmgaajejhjaa
