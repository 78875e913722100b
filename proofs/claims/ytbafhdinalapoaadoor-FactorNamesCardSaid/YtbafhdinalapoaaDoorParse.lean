/- The program's Parse. -/
import Derived.Test.YtbafhdinalapoaaDoorLines
import Derived.Test.YtbafhdinalapoaaDoorGa
namespace Go.Proofs.YtbafhdinalapoaaDoor
open Go.RowKit
set_option linter.unusedVariables false
set_option linter.unusedSimpArgs false

def bitS (s : ByteArray) (i : Nat) : Bool := if h : i < s.size then (s[i]'h).toNat == 120 else false
/-- A captured string in a variable of its own. -/
def StrAt (w : World) (g : Nat) (s : ByteArray) : Prop := w.cell? ⟨g, 0, none⟩ = some (.string s) ∧ g < w.heap.size
theorem StrAt.below {w w' : World} {g : Nat} {s : ByteArray} (h : StrAt w g s) (hb : Below w.heap.size w w') : StrAt w' g s :=
  ⟨(hb.cell (p := ⟨g, 0, none⟩) h.2).trans h.1, Nat.lt_of_lt_of_le h.2 hb.size⟩

theorem text_ix {w h x y n : Nat} (hx : x < w) (hy : y < h) (hn : h * (w + 1) = n) : (h - 1 - y) * (w + 1) + x < n := by
  have e : (h - 1 - y) * (w + 1) + (w + 1) ≤ h * (w + 1) := by
    have := Nat.mul_le_mul_right (w + 1) (show h - 1 - y + 1 ≤ h by omega)
    rw [Nat.add_mul, Nat.one_mul] at this
    exact this
  omega

set_option maxHeartbeats 400000 in
theorem parse_clo {W : World} {gs gh gw w h : Nat} {s : ByteArray} (ns : StrAt W gs s) (nh : Num W gh h) (nw : Num W gw w) (w1 : w ≤ 64) (h1 : h ≤ 64) (hn : h * (w + 1) = s.size) :
    Gives 65 #[.pointer (some ⟨gs, 0, none⟩), .pointer (some ⟨gh, 0, none⟩), .pointer (some ⟨gw, 0, none⟩)] W w h (fun x y => bitS s ((h - 1 - y) * (w + 1) + x)) := by
  intro W1 x y hb hx hy
  obtain ⟨q0, q1⟩ := ns.below hb
  obtain ⟨q2, q3⟩ := nh.below hb
  obtain ⟨q4, q5⟩ := nw.below hb
  have hi := text_ix hx hy hn
  have hbd : (h - 1 - y) * (w + 1) ≤ 64 * 65 := Nat.mul_le_mul (by omega) (by omega)
  have e1 : ((h : Int) - 1 - (y : Int)) * ((w : Int) + 1) = (((h - 1 - y) * (w + 1) : Nat) : Int) := by
    have a1 : (h : Int) - 1 - (y : Int) = ((h - 1 - y : Nat) : Int) := by omega
    have a2 : (w : Int) + 1 = ((w + 1 : Nat) : Int) := by omega
    rw [a1, a2, Int.natCast_mul]
  obtain ⟨p, hp⟩ : ∃ p, (h - 1 - y) * (w + 1) = p := ⟨_, rfl⟩
  rw [hp] at e1 hi hbd
  have HP := Lib.hid hp
  clear hp
  have hb0 : bitS s (p + x) = (((s[p + x]'hi).toNat : Int) == 120) := by
    unfold bitS
    rw [dif_pos hi, Bool.eq_iff_iff]
    simp
    omega
  have HB := Lib.hid hb0
  clear hb0 ns nh nw hn
  have hii : (p : Int) + (x : Int) < (s.size : Int) := by omega
  have e2 : ((p : Int) + (x : Int)).toNat = p + x := by omega
  go_enter Tryd.func65, Tryd.ntmps65
  go_wp2
  go_ret
  exact ⟨ret_bool (by show _ = bitS s ((h - 1 - y) * (w + 1) + x); rw [HP.out]; exact HB.out.symm), Below.refl _ _⟩

/-- Parse's parameter in its box, the result's box and the first number, behind the first call. -/
theorem parse_start (w : World) (s : ByteArray) (i : Int) :
    StrAt (((w.alloc (.cells #[.string s] 9)).alloc (.cells #[.int .i64 0, .int .i64 0, .slice none 0 0] 25)).alloc (.cells #[.int .i64 i] 3)) w.heap.size s ∧
    Box (((w.alloc (.cells #[.string s] 9)).alloc (.cells #[.int .i64 0, .int .i64 0, .slice none 0 0] 25)).alloc (.cells #[.int .i64 i] 3)) (w.heap.size + 1) 0 0 (.slice none 0 0) ∧
    Num (((w.alloc (.cells #[.string s] 9)).alloc (.cells #[.int .i64 0, .int .i64 0, .slice none 0 0] 25)).alloc (.cells #[.int .i64 i] 3)) (w.heap.size + 2) i ∧
    Below w.heap.size w (((w.alloc (.cells #[.string s] 9)).alloc (.cells #[.int .i64 0, .int .i64 0, .slice none 0 0] 25)).alloc (.cells #[.int .i64 i] 3)) ∧
    (((w.alloc (.cells #[.string s] 9)).alloc (.cells #[.int .i64 0, .int .i64 0, .slice none 0 0] 25)).alloc (.cells #[.int .i64 i] 3)).heap.size = w.heap.size + 3 := by
  have h1 : StrAt (w.alloc (.cells #[.string s] 9)) w.heap.size s := ⟨by simp, by simp⟩
  have h1' := (h1.below ((Below.refl _ _).alloc (Nat.le_refl _) (.cells #[.int .i64 0, .int .i64 0, .slice none 0 0] 25))).below ((Below.refl _ _).alloc (Nat.le_refl _) (.cells #[.int .i64 i] 3))
  have h2 := (Box.new (w.alloc (.cells #[.string s] 9)) 0 0 (.slice none 0 0)).alloc (.cells #[.int .i64 i] 3)
  have h3 := Num.new ((w.alloc (.cells #[.string s] 9)).alloc (.cells #[.int .i64 0, .int .i64 0, .slice none 0 0] 25)) i
  simp only [World.size_alloc] at h2 h3
  exact ⟨h1', h2, h3, (((Below.refl _ _).alloc (Nat.le_refl _) _).alloc (by simp) _).alloc (by simp; omega) _, by simp⟩

theorem lines_yes (s : ByteArray) (w : Nat) (W : World) (hs : s.size ≤ 5000) (h0 : 1 ≤ w) (h1 : w ≤ 64) (hL : Lines s w) :
    Calls Tryd.prog 64 #[.string s, .int .i64 w] W fun e w' => e = .returned (.bool true) ∧ w' = W :=
  (lines_any s w W hs h0 h1).mono fun e w' ⟨b, he, hb, hw⟩ => ⟨by rw [he, hb.2 hL], hw⟩
theorem lines_no (s : ByteArray) (w : Nat) (W : World) (hs : s.size ≤ 5000) (h0 : 1 ≤ w) (h1 : w ≤ 64) (hL : ¬ Lines s w) :
    Calls Tryd.prog 64 #[.string s, .int .i64 w] W fun e w' => e = .returned (.bool false) ∧ w' = W :=
  (lines_any s w W hs h0 h1).mono fun e w' ⟨b, he, hb, hw⟩ => ⟨by
    cases b
    · exact he
    · exact absurd (hb.1 rfl) hL, hw⟩

set_option maxHeartbeats 800000 in
theorem parse_ok (s : ByteArray) (w h : Nat) (W : World) (hs : s.size ≤ 5000) (w0 : 1 ≤ w) (w1 : w ≤ 64) (h0 : 1 ≤ h) (h1 : h ≤ 64) (hn : h * (w + 1) = s.size) (hL : Lines s w)
    (hI : ∀ W', Calls Tryd.prog 63 #[.string s, .int .u8 10] W' fun e w' => e = .returned (.int .i64 (w : Int)) ∧ w' = W') :
    Calls Tryd.prog 37 #[.string s] W (OkGrid W w h fun i => bitS s ((h - 1 - i / w) * (w + 1) + i % w)) := by
  have hmf := mk_fn
  have HI := Lib.hid hI
  have HL := Lib.hid hL
  have HN := Lib.hid hn
  have S0 := Lib.hid (parse_start W s w)
  have ez : ¬ w + 1 = 0 := by omega
  have eq : (s.size : Int).tdiv ((w : Int) + 1) = (h : Int) := by
    have e1 : (s.size : Int) = (h : Int) * ((w : Int) + 1) := by rw [← hn, Int.natCast_mul]; simp
    rw [e1, Int.mul_tdiv_cancel _ (by omega)]
  have eq' : (s.size : Int) / ((w : Int) + 1) = (h : Int) := by
    have e1 : (s.size : Int) = (h : Int) * ((w : Int) + 1) := by rw [← hn, Int.natCast_mul]; simp
    rw [e1, Int.mul_ediv_cancel _ (by omega)]
  clear hI hL hn
  go_enter Tryd.func37, Tryd.ntmps37
  go_wp2_with fail
  refine (HI.out _).mono ?_
  rintro e w2 ⟨rfl, rfl⟩
  have i1 : (1 : Int) ≤ (w : Int) := by omega
  have i2 : (w : Int) ≤ 64 := by omega
  have i3 : (h : Int) ≤ 64 := by omega
  have dz : decide ((64 : Int) < (h : Int)) = false := by simp; omega
  go_wp2_with fail
  have S := S0.out
  generalize ((W.alloc (.cells #[.string s] 9)).alloc (.cells #[.int .i64 0, .int .i64 0, .slice none 0 0] 25)).alloc (.cells #[.int .i64 (w : Int)] 3) = W3 at *
  obtain ⟨a1, a2, a3, a4, a5⟩ := S
  refine (lines_yes s w _ hs w0 w1 HL.out).mono ?_
  rintro e w2 ⟨rfl, rfl⟩
  obtain ⟨q0, q1⟩ := a1
  obtain ⟨q2, q3⟩ := a3
  have HA2 := Lib.hid a2
  have HA4 := Lib.hid a4
  have HA5 := Lib.hid a5
  clear a2 a4 a5
  go_wp2_with fail
  have hb0 := (Below.refl w2.heap.size w2).alloc (Nat.le_refl _) (.cells #[.int .i64 (h : Int)] 3)
  refine (build_any w h w0 w1 h0 h1 65 _ _ _ (parse_clo (StrAt.below ⟨q0, q1⟩ hb0) (Num.new w2 h) (Num.below ⟨q2, q3⟩ hb0) w1 h1 HN.out) (Go.Proofs.enters_of Tryd.func65 (by kernel_rfl) rfl)).mono ?_
  rintro e w3 ⟨k, rfl, hk, hrow, hb3⟩
  have hbel := hb0.trans (hb3.mono hb0.size)
  have hbox := HA2.out.below hbel HA2.out.lt
  have hsz := HA5.out
  have hsz0 := hb0.size
  have hbelW := HA4.out.trans (hbel.mono HA4.out.size)
  clear hb0 hb3 hbel q0 q1 q2 q3
  obtain ⟨p0, p1, p2, p3, p4, p5, p6⟩ := hbox.all
  clear hbox
  have HZ := Lib.hid hsz
  have hkr : W.heap.size + 1 < k := by omega
  clear hsz
  go_wp2
  refine bodyPost_ret (v := .tuple #[.agg #[.int .i64 w, .int .i64 h, .slice (some ⟨k, 0, none⟩) (w * h) (w * h)], .int .i64 0]) (by simp [results, Tryd.results37, go_sem, p0, p1, p2]) rfl ?_
  exact fin_ok (by omega) hkr (hrow.congr fun i hi => rfl) hbelW

set_option maxHeartbeats 800000 in
theorem parse_bad2 (s : ByteArray) (w : Nat) (W : World) (hs : s.size ≤ 5000) (w0 : 1 ≤ w) (w1 : w ≤ 64) (hL : ¬ Lines s w)
    (hI : ∀ W', Calls Tryd.prog 63 #[.string s, .int .u8 10] W' fun e w' => e = .returned (.int .i64 (w : Int)) ∧ w' = W') :
    Calls Tryd.prog 37 #[.string s] W (ErrGrid W 12) := by
  have HI := Lib.hid hI
  have S0 := Lib.hid (parse_start W s (w : Int))
  clear hI
  have HL := Lib.hid hL
  clear hL
  have i1 : (1 : Int) ≤ (w : Int) := by omega
  have i2 : (w : Int) ≤ 64 := by omega
  go_enter Tryd.func37, Tryd.ntmps37
  go_wp2_with fail
  refine (HI.out _).mono ?_
  rintro e w2 ⟨rfl, rfl⟩
  go_wp2_with fail
  have S := S0.out
  clear S0
  generalize ((W.alloc (.cells #[.string s] 9)).alloc (.cells #[.int .i64 0, .int .i64 0, .slice none 0 0] 25)).alloc (.cells #[.int .i64 (w : Int)] 3) = W3 at *
  obtain ⟨a1, a2, a3, a4, a5⟩ := S
  refine (lines_no s w _ hs w0 w1 HL.out).mono ?_
  rintro e w2 ⟨rfl, rfl⟩
  obtain ⟨p0, p1, p2, p3, p4, p5, p6⟩ := a2.all
  have HB := Lib.hid a4
  clear a1 a2 a3 a4 a5
  go_wp2
  refine bodyPost_ret (v := .tuple #[.agg #[.int .i64 0, .int .i64 0, .slice none 0 0], .int .i64 12]) (by simp [results, Tryd.results37, go_sem, p0, p1, p2]) rfl ?_
  exact fin_err (by omega) HB.out

set_option maxHeartbeats 800000 in
theorem parse_bad3 (s : ByteArray) (w h : Nat) (W : World) (hs : s.size ≤ 5000) (w0 : 1 ≤ w) (w1 : w ≤ 64) (hL : Lines s w) (hn : h * (w + 1) = s.size) (hh : 64 < h)
    (hI : ∀ W', Calls Tryd.prog 63 #[.string s, .int .u8 10] W' fun e w' => e = .returned (.int .i64 (w : Int)) ∧ w' = W') :
    Calls Tryd.prog 37 #[.string s] W (ErrGrid W 12) := by
  have HI := Lib.hid hI
  have S0 := Lib.hid (parse_start W s (w : Int))
  clear hI
  have HL := Lib.hid hL
  have i1 : (1 : Int) ≤ (w : Int) := by omega
  have i2 : (w : Int) ≤ 64 := by omega
  have e1 : (s.size : Int) = (h : Int) * ((w : Int) + 1) := by rw [← hn, Int.natCast_mul]; simp
  have ez : ¬ w + 1 = 0 := by omega
  have eq : (s.size : Int).tdiv ((w : Int) + 1) = (h : Int) := by rw [e1, Int.mul_tdiv_cancel _ (by omega)]
  have eq' : (s.size : Int) / ((w : Int) + 1) = (h : Int) := by rw [e1, Int.mul_ediv_cancel _ (by omega)]
  have hh2 : (h : Int) ≤ 5000 := by have := Nat.le_mul_of_pos_right h (show 0 < w + 1 by omega); omega
  have dz : decide ((64 : Int) < (h : Int)) = true := by simp; omega
  have i3 : (64 : Int) < (h : Int) := by omega
  clear hL hn e1
  go_enter Tryd.func37, Tryd.ntmps37
  go_wp2_with fail
  refine (HI.out _).mono ?_
  rintro e w2 ⟨rfl, rfl⟩
  go_wp2_with fail
  have S := S0.out
  clear S0
  generalize ((W.alloc (.cells #[.string s] 9)).alloc (.cells #[.int .i64 0, .int .i64 0, .slice none 0 0] 25)).alloc (.cells #[.int .i64 (w : Int)] 3) = W3 at *
  obtain ⟨a1, a2, a3, a4, a5⟩ := S
  refine (lines_yes s w _ hs w0 w1 HL.out).mono ?_
  rintro e w2 ⟨rfl, rfl⟩
  obtain ⟨q0, q1⟩ := a1
  obtain ⟨q2, q3⟩ := a3
  have hb0 := (Below.refl w2.heap.size w2).alloc (Nat.le_refl _) (.cells #[.int .i64 (h : Int)] 3)
  have HB := Lib.hid a4
  obtain ⟨p0, p1, p2, p3, p4, p5, p6⟩ := a2.all
  clear a2 a4 a5 hb0
  go_wp2
  have hx : W.heap.size + 1 < (((w2.setCell ⟨W.heap.size + 1, 0, none⟩ (.int .i64 0)).setCell ⟨W.heap.size + 1, 1, none⟩ (.int .i64 0)).setCell ⟨W.heap.size + 1, 2, none⟩ (.slice none 0 0)).heap.size := by simpa using p6
  have hy := fun i => World.cell?_alloc_lt (((w2.setCell ⟨W.heap.size + 1, 0, none⟩ (.int .i64 0)).setCell ⟨W.heap.size + 1, 1, none⟩ (.int .i64 0)).setCell ⟨W.heap.size + 1, 2, none⟩ (.slice none 0 0)) (.cells #[.int .i64 (h : Int)] 3) ⟨W.heap.size + 1, i, none⟩ hx
  refine bodyPost_ret (v := .tuple #[.agg #[.int .i64 0, .int .i64 0, .slice none 0 0], .int .i64 12]) (by simp [results, Tryd.results37, go_sem, hy, p0, p1, p2]) rfl ⟨rfl, ?_⟩
  exact ((((HB.out.setCell (by simp) _).setCell (by simp) _).setCell (by simp) _).alloc (by have := HB.out.size; simp; omega) _)

set_option maxHeartbeats 800000 in
theorem parse_bad1 (s : ByteArray) (w : Int) (W : World) (hw : w < 1 ∨ 64 < w)
    (hI : ∀ W', Calls Tryd.prog 63 #[.string s, .int .u8 10] W' fun e w' => e = .returned (.int .i64 w) ∧ w' = W') :
    Calls Tryd.prog 37 #[.string s] W (ErrGrid W 12) := by
  have HI := Lib.hid hI
  have S0 := Lib.hid (parse_start W s w)
  clear hI
  have HW := Lib.hid hw
  clear hw
  go_enter Tryd.func37, Tryd.ntmps37
  go_wp2_with fail
  refine (HI.out _).mono ?_
  rintro e w2 ⟨rfl, rfl⟩
  have S := S0.out
  clear S0
  obtain ⟨a1, a2, a3, a4, a5⟩ := S
  have HB := Lib.hid a4
  obtain ⟨p0, p1, p2, p3, p4, p5, p6⟩ := a2.all
  clear a1 a2 a3 a4 a5
  rcases HW.out with hw | hw
  · go_wp2
    refine bodyPost_ret (v := .tuple #[.agg #[.int .i64 0, .int .i64 0, .slice none 0 0], .int .i64 12]) (by simp [results, Tryd.results37, go_sem]) rfl ⟨rfl, ?_⟩
    exact HB.out
  · have hw' : ¬ w < 1 := by omega
    go_wp2
    refine bodyPost_ret (v := .tuple #[.agg #[.int .i64 0, .int .i64 0, .slice none 0 0], .int .i64 12]) (by simp [results, Tryd.results37, go_sem]) rfl ⟨rfl, ?_⟩
    exact HB.out
end Go.Proofs.YtbafhdinalapoaaDoor
