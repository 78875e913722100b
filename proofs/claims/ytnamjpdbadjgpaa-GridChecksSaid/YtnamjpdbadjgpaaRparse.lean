/- The reference's Parse. -/
import Derived.Test.YtnamjpdbadjgpaaRcnt
import Derived.Test.YtnamjpdbadjgpaaParseany
import Derived.Test.YtnamjpdbadjgpaaCo
namespace Go.Proofs.Ytnamjpdbadjgpaa
open Go.RowKit
set_option linter.unusedVariables false
set_option linter.unusedSimpArgs false

/-- e is where the first line feed stands, or the length. -/
structure First (s : ByteArray) (e : Nat) : Prop where
  le : e ≤ s.size
  no : ∀ i (h : i < s.size), i < e → (s[i]'h).toNat ≠ 10
  yes : ∀ h : e < s.size, (s[e]'h).toNat = 10

theorem first_list (l : List UInt8) : ∃ e, e ≤ l.length ∧ (∀ i (h : i < l.length), i < e → (l[i]'h).toNat ≠ 10) ∧ (∀ h : e < l.length, (l[e]'h).toNat = 10) ∧
    ((e < l.length ∧ Lib.indexByte l 10 = (e : Int)) ∨ (e = l.length ∧ Lib.indexByte l 10 = -1)) := by
  induction l with
  | nil => exact ⟨0, Nat.le_refl _, fun i h => absurd h (by simp), fun h => absurd h (by simp), .inr ⟨rfl, rfl⟩⟩
  | cons b l ih =>
    by_cases hb : b = 10
    · subst hb
      exact ⟨0, Nat.zero_le _, fun i h hi => absurd hi (by omega), fun _ => rfl, .inl ⟨by simp, by simp [Lib.indexByte]⟩⟩
    · obtain ⟨e, h1, h2, h3, h4⟩ := ih
      have hn : b.toNat ≠ 10 := fun h => hb (by
        have : b.toNat = (10 : UInt8).toNat := h
        exact UInt8.toNat_inj.1 this)
      refine ⟨e + 1, by simp only [List.length_cons]; omega, ?_, ?_, ?_⟩
      · intro i h hi
        cases i with
        | zero => exact hn
        | succ i => exact h2 i (by simpa using h) (by omega)
      · intro h
        exact h3 (by simpa using h)
      · have hf : (b == 10) = false := by simp [hb]
        rcases h4 with ⟨h5, h6⟩ | ⟨h5, h6⟩
        · have h7 : ((e : Int) == -1) = false := by first | (simp; done) | (simp; omega)
          exact .inl ⟨by simp only [List.length_cons]; omega, by simp [Lib.indexByte, hf, h6, h7]⟩
        · exact .inr ⟨by simp only [List.length_cons]; omega, by simp [Lib.indexByte, hf, h6]⟩

theorem first_any (s : ByteArray) : ∃ e, First s e ∧ ((e < s.size ∧ Lib.indexByte s.data.toList 10 = (e : Int)) ∨ (e = s.size ∧ Lib.indexByte s.data.toList 10 = -1)) := by
  obtain ⟨e, h1, h2, h3, h4⟩ := first_list s.data.toList
  have hl : s.data.toList.length = s.size := Array.length_toList
  refine ⟨e, ⟨by omega, fun i h hi => ?_, fun h => ?_⟩, by rw [hl] at h4; exact h4⟩
  · exact h2 i (by omega) hi
  · exact h3 (by omega)

set_option maxHeartbeats 1600000 in
theorem rparse_bad (s : ByteArray) (e0 : Nat) (W : World) (hs : s.size ≤ 5000) (hF : First s e0)
    (h : e0 < 1 ∨ (¬ e0 < 1 ∧ 64 < e0) ∨ (¬ e0 < 1 ∧ ¬ 64 < e0 ∧ ¬ s.size % (e0 + 1) = 0) ∨ (¬ e0 < 1 ∧ ¬ 64 < e0 ∧ s.size % (e0 + 1) = 0 ∧ 64 < s.size / (e0 + 1))) :
    Calls Try.prog 30 #[.string s] W (ErrGrid W 12) := by
  have hle := hF.le
  have HF := Lib.hid hF
  have HH := Lib.hid h
  clear hF h
  have B0 := Lib.hid ((Below.refl W.heap.size W).alloc (Nat.le_refl _) (.cells #[.int .i64 0, .int .i64 0, .slice none 0 0] 24))
  have X0 := Lib.hid (Box.new W 0 0 (.slice none 0 0))
  go_enter Try.func30, Try.ntmps30
  go_wp2
  go_loop [4] (fun i => ∃ k : Nat, k ≤ e0 ∧ i = .int .i64 k) (fun i => e0 - (intOf i).toNat)
  case atStart => exact ⟨0, Nat.zero_le _, rfl⟩
  case round =>
    obtain ⟨k, hk, rfl⟩ := hrel
    by_cases hlt : k < e0
    · have hks : k < s.size := by omega
      have hn := HF.out.no k hks hlt
      have h1 : (((s[k]'hks).toNat : Int) != 10) = true := by simp; omega
      clear hn
      go_wp2
      exact ⟨⟨k + 1, by omega, by go_num⟩, by simp [intOf]; omega⟩
    · have e : e0 = k := by omega
      subst e
      have hend : s.size ≤ e0 ∨ ∃ h : e0 < s.size, (((s[e0]'h).toNat : Int) != 10) = false := by
        rcases Nat.eq_or_lt_of_le hle with h | h
        · exact .inl (by omega)
        · exact .inr ⟨h, by simp [HF.out.yes h]⟩
      have ez : ¬ e0 + 1 = 0 := by omega
      obtain ⟨m, hm⟩ : ∃ m, s.size % (e0 + 1) = m := ⟨_, rfl⟩
      obtain ⟨q, hq⟩ : ∃ q, s.size / (e0 + 1) = q := ⟨_, rfl⟩
      have hqb : q ≤ 5000 := by rw [← hq]; exact Nat.le_trans (Nat.div_le_self _ _) hs
      have em : (s.size : Int) % ((e0 : Int) + 1) = (m : Int) := by rw [← hm]; simp
      have eq' : (s.size : Int) / ((e0 : Int) + 1) = (q : Int) := by rw [← hq]; simp
      have eq : (s.size : Int).tdiv ((e0 : Int) + 1) = (q : Int) := by rw [Int.tdiv_eq_ediv_of_nonneg (by omega)]; exact eq'
      obtain ⟨p0, p1, p2, p3, p4, p5, p6⟩ := X0.out.all
      have H' := HH.out
      rw [hm, hq] at H'
      clear hm hq HH HF hlt hk
      rcases H' with h | ⟨h1, h⟩ | ⟨h1, h2, h⟩ | ⟨h1, h2, h3, h⟩
      all_goals
        rcases hend with he | ⟨hel, he⟩
        all_goals
          first
            | have hd : ((m : Int) != 0) = true := by simp; omega
            | have hd : ((m : Int) != 0) = false := by simp; omega
            | skip
          first
            | have dz : decide ((64 : Int) < (q : Int)) = true := by simp; omega
            | have dz : decide ((64 : Int) < (q : Int)) = false := by simp; omega
            | skip
          go_wp2
          refine bodyPost_ret (v := .tuple #[.agg #[.int .i64 0, .int .i64 0, .slice none 0 0], .int .i64 12]) (by simp [results, Try.results30, go_sem, p0, p1, p2]) rfl ?_
          exact ⟨rfl, B0.out⟩

/-- Where the cell l of a grid with sides e and q stands in its text. -/
def pos (e q l : Nat) : Nat := (q - 1 - l / e) * (e + 1) + l % e
def pf (s : ByteArray) (e q j : Nat) (l : Nat) : Bool := decide (pos e q l < j) && bitS s (pos e q l)

theorem pos_eq {e q l d r : Nat} (hl : l < e * q) (hr : r < e) (hd : d < q) : pos e q l = d * (e + 1) + r ↔ l = (q - 1 - d) * e + r := by
  have he : 0 < e := by omega
  have m1 : l % e < e + 1 := Nat.lt_succ_of_lt (Nat.mod_lt _ he)
  have m2 : r < e + 1 := by omega
  have l1 : l / e < q := Nat.div_lt_of_lt_mul hl
  have l2 : l / e * e + l % e = l := by rw [Nat.mul_comm, Nat.div_add_mod]
  unfold pos
  constructor
  · intro h
    obtain ⟨a1, a2⟩ := co (q - 1 - l / e) m1
    obtain ⟨b1, b2⟩ := co d m2
    rw [h] at a1 a2
    rw [b1] at a1
    rw [b2] at a2
    have : l / e = q - 1 - d := by omega
    rw [← l2, this, ← a2]
  · rintro rfl
    obtain ⟨a1, a2⟩ := co (q - 1 - d) hr
    rw [a1, a2]
    have : q - 1 - (q - 1 - d) = d := by omega
    rw [this]
theorem pos_lt {e q l : Nat} (hl : l < e * q) : pos e q l < q * (e + 1) := by
  have he : 0 < e := by rcases Nat.eq_zero_or_pos e with h | h
                        · subst h; simp at hl
                        · exact h
  have l1 : l / e < q := Nat.div_lt_of_lt_mul hl
  have m1 : l % e < e := Nat.mod_lt _ he
  unfold pos
  generalize l / e = a at *
  generalize l % e = b at *
  have : (q - 1 - a + 1) * (e + 1) ≤ q * (e + 1) := Nat.mul_le_mul_right _ (by omega)
  rw [Nat.succ_mul] at this
  omega
theorem pf_zero (s : ByteArray) (e q l : Nat) : pf s e q 0 l = false := by simp [pf]
theorem pf_keep {s : ByteArray} {e q j l : Nat} (h : bitS s j = false) : pf s e q (j + 1) l = pf s e q j l := by
  unfold pf
  by_cases hp : pos e q l = j
  · rw [hp, h]; simp
  · have : (pos e q l < j + 1) ↔ (pos e q l < j) := by omega
    simp [this]
theorem pf_set {s : ByteArray} {e q d r l : Nat} (hl : l < e * q) (hr : r < e) (hd : d < q) (h : bitS s (d * (e + 1) + r) = true) :
    (if l = (q - 1 - d) * e + r then true else pf s e q (d * (e + 1) + r) l) = pf s e q (d * (e + 1) + r + 1) l := by
  have hp := pos_eq hl hr hd
  by_cases e1 : l = (q - 1 - d) * e + r
  · rw [if_pos e1]
    unfold pf
    rw [hp.2 e1, h]
    simp
  · rw [if_neg e1]
    unfold pf
    have hne : ¬ pos e q l = d * (e + 1) + r := fun h => e1 (hp.1 h)
    have : (pos e q l < d * (e + 1) + r + 1) ↔ (pos e q l < d * (e + 1) + r) := by omega
    simp [this]
theorem pf_all {s : ByteArray} {e q l : Nat} (hl : l < e * q) (hn : q * (e + 1) = s.size) : pf s e q s.size l = bitS s ((q - 1 - l / e) * (e + 1) + l % e) := by
  have := pos_lt hl
  unfold pf
  rw [decide_eq_true (by omega)]
  rfl

/-- What the loop of Parse keeps. -/
structure PR (W wr : World) (s : ByteArray) (e q k b j : Nat) : Prop where
  res : Box wr W.heap.size 0 0 (.slice none 0 0)
  g : Box wr b e q (.slice (some ⟨k, 0, none⟩) (e * q) (e * q))
  row : Row wr k (e * q) (pf s e q j)
  bel : Below W.heap.size W wr
  r0 : W.heap.size < k
  r1 : k < b
theorem PR.drewN {W wr : World} {s : ByteArray} {e q k b j : Nat} (h : PR W wr s e q k b j) (n : Nat) : PR W (wr.drewN n) s e q k b j :=
  ⟨h.res, h.g, h.row, Go.Proofs.below_drewN' h.bel n, h.r0, h.r1⟩
theorem PR.step {W wr : World} {s : ByteArray} {e q k b j : Nat} (h : PR W wr s e q k b j) (hb : bitS s j = false) : PR W wr s e q k b (j + 1) :=
  ⟨h.res, h.g, h.row.congr fun l _ => (pf_keep hb).symm, h.bel, h.r0, h.r1⟩
theorem PR.put {W wr w' : World} {s : ByteArray} {e q k b d r : Nat} (h : PR W wr s e q k b (d * (e + 1) + r)) (hr : r < e) (hd : d < q) (hbit : bitS s (d * (e + 1) + r) = true)
    (hrow : Row w' k (e * q) (fun l => if l = (q - 1 - d) * e + r then true else pf s e q (d * (e + 1) + r) l)) (hb : But k wr w') : PR W w' s e q k b (d * (e + 1) + r + 1) :=
  ⟨hb.box h.res (by have := h.r0; omega), hb.box h.g (by have := h.r1; omega), hrow.congr fun l hl => pf_set hl hr hd hbit, hb.below h.bel (by have := h.r0; omega), h.r0, h.r1⟩
theorem bit_of {s : ByteArray} {j : Nat} (h : j < s.size) : bitS s j = ((s[j]'h).toNat == 120) := by
  unfold bitS
  rw [dif_pos h]

set_option maxRecDepth 100000 in
set_option maxHeartbeats 3200000 in
theorem rparse_good (s : ByteArray) (e0 q : Nat) (W : World) (hs : s.size ≤ 5000) (hF : First s e0) (h1 : 1 ≤ e0) (h2 : e0 ≤ 64) (h3 : 1 ≤ q) (h4 : q ≤ 64) (hn : q * (e0 + 1) = s.size) :
    Calls Try.prog 30 #[.string s] W fun x w' =>
      ((∀ i (h : i < s.size), okAt s e0 i h) ∧ OkGrid W e0 q (fun i => bitS s ((q - 1 - i / e0) * (e0 + 1) + i % e0)) x w') ∨ ((¬ ∀ i (h : i < s.size), okAt s e0 i h) ∧ ErrGrid W 12 x w') := by
  have hle := hF.le
  have HF := Lib.hid hF
  have HN := Lib.hid hn
  have hs0 : 1 ≤ s.size := by rw [← hn]; exact Nat.mul_pos h3 (by omega)
  have he0 : e0 < s.size := by rw [← hn]; have := Nat.mul_le_mul_right (e0 + 1) h3; omega
  have em : (s.size : Int) % ((e0 : Int) + 1) = 0 := by
    have : s.size % (e0 + 1) = 0 := by rw [← hn]; simp
    have := congrArg (fun n : Nat => (n : Int)) this; simpa using this
  have hd : ((s.size : Int) % ((e0 : Int) + 1) != 0) = false := by simp [em]
  have e1 : (s.size : Int) = (q : Int) * ((e0 : Int) + 1) := by rw [← hn, Int.natCast_mul]; simp
  have eq : (s.size : Int).tdiv ((e0 : Int) + 1) = (q : Int) := by rw [e1, Int.mul_tdiv_cancel _ (by omega)]
  have eq' : (s.size : Int) / ((e0 : Int) + 1) = (q : Int) := by rw [e1, Int.mul_ediv_cancel _ (by omega)]
  have dz : decide ((64 : Int) < (q : Int)) = false := by simp; omega
  have ez : ¬ e0 + 1 = 0 := by omega
  clear hF hn e1 em
  have B0 := Lib.hid ((Below.refl W.heap.size W).alloc (Nat.le_refl _) (.cells #[.int .i64 0, .int .i64 0, .slice none 0 0] 24))
  have X0 := Lib.hid (Box.new W 0 0 (.slice none 0 0))
  go_enter Try.func30, Try.ntmps30
  go_wp2
  go_loop [4] (fun i => ∃ k : Nat, k ≤ e0 ∧ i = .int .i64 k) (fun i => e0 - (intOf i).toNat)
  case atStart => exact ⟨0, Nat.zero_le _, rfl⟩
  case round =>
    obtain ⟨k, hk, rfl⟩ := hrel
    by_cases hlt : k < e0
    · have hks : k < s.size := by omega
      have hn := HF.out.no k hks hlt
      have h1 : (((s[k]'hks).toNat : Int) != 10) = true := by simp; omega
      clear hn
      go_wp2
      exact ⟨⟨k + 1, by omega, by go_num⟩, by simp [intOf]; omega⟩
    · have e : e0 = k := by omega
      subst e
      have hend : (((s[e0]'he0).toNat : Int) != 10) = false := by simp [HF.out.yes he0]
      obtain ⟨p0, p1, p2, p3, p4, p5, p6⟩ := X0.out.all
      clear hlt hk
      go_wp2_with fail
      refine (zero_int _ _ e0 q rfl rfl h2 h4 _).mono ?_
      rintro e w1 ⟨kk, rfl, hkk, hrow, hb⟩
      clear p0 p1 p2 p3 p4 p5 p6
      have R0 := Lib.hid (⟨(X0.out.below hb X0.out.lt).alloc _, Box.new w1 e0 q _, (hrow.alloc _).congr fun l _ => (pf_zero s e0 q l).symm, (B0.out.trans (hb.mono B0.out.size)).alloc (Nat.le_trans B0.out.size hb.size) _, by simp at hkk; omega, hrow.lt⟩ :
        PR W (w1.alloc (.cells #[.int .i64 e0, .int .i64 q, .slice (some ⟨kk, 0, none⟩) (e0 * q) (e0 * q)] 24)) s e0 q kk w1.heap.size 0)
      clear hkk hrow hb
      go_wp2
      go_loopw [6] (fun i wr => ∃ j : Nat, j ≤ s.size ∧ i = .int .i64 j ∧ Hid (∀ i (h : i < s.size), i < j → okAt s e0 i h) ∧ PR W wr s e0 q kk w1.heap.size j) (fun i _ => s.size - (intOf i).toNat)
      case atStart => exact ⟨0, Nat.zero_le _, rfl, fun i h hi => absurd hi (by omega), R0.out⟩
      case round =>
        obtain ⟨j, hj, rfl, hall, R⟩ := hrel
        obtain ⟨p0, p1, p2, p3, p4, p5, p6⟩ := R.res.all
        obtain ⟨g0, g1, g2, g3, g4, g5, g6⟩ := R.g.all
        have R1 := Lib.hid R
        clear R
        by_cases hlt : j < s.size
        · obtain ⟨d, hd'⟩ : ∃ d, j / (e0 + 1) = d := ⟨_, rfl⟩
          obtain ⟨r, hr'⟩ : ∃ r, j % (e0 + 1) = r := ⟨_, rfl⟩
          have hjd : j = d * (e0 + 1) + r := by rw [← hd', ← hr', Nat.mul_comm, Nat.div_add_mod]
          have hr : r < e0 + 1 := by rw [← hr']; exact Nat.mod_lt _ (by omega)
          have hdq : d < q := by rw [← hd']; exact Nat.div_lt_of_lt_mul (by rw [Nat.mul_comm, HN.out]; exact hlt)
          have ed' : (j : Int) / ((e0 : Int) + 1) = (d : Int) := by rw [← hd']; simp
          have ed : (j : Int).tdiv ((e0 : Int) + 1) = (d : Int) := by rw [Int.tdiv_eq_ediv_of_nonneg (by omega)]; exact ed'
          have er : (j : Int) % ((e0 : Int) + 1) = (r : Int) := by rw [← hr']; simp
          have hok : okAt s e0 j hlt ↔ if r = e0 then (s[j]'hlt).toNat = 10 else (s[j]'hlt).toNat = 120 ∨ (s[j]'hlt).toNat = 46 := by unfold okAt; rw [hr']
          have hbit := bit_of hlt
          have HOK := Lib.hid hok
          have HB := Lib.hid hbit
          have HJ := Lib.hid hjd
          clear hok hbit hjd hd' hr'
          by_cases c1 : (s[j]'hlt).toNat = 10
          · have b1 : (((s[j]'hlt).toNat : Int) == 10) = true := by simp [c1]
            have b2 : (((s[j]'hlt).toNat : Int) != 10) = false := by simp [c1]
            have b3 : (((s[j]'hlt).toNat : Int) == 120) = false := by simp [c1]
            have hb0 : bitS s j = false := by rw [HB.out, c1]; rfl
            by_cases c2 : r = e0
            · have b4 : ((r : Int) == (e0 : Int)) = true := by simp [c2]
              have hk : okAt s e0 j hlt := HOK.out.2 (by rw [if_pos c2]; exact c1)
              have HK := Lib.hid hk
              have HC := Lib.hid hb0
              clear c1 c2 hk hb0
              go_wp2
              go_quiet (fail)
              go_wp2
              refine ⟨⟨j + 1, by omega, by go_num, fun i h hi => ?_, (R1.out.step HC.out).drewN _⟩, by simp [intOf]; omega⟩
              rcases Nat.lt_succ_iff_lt_or_eq.1 hi with h' | rfl
              · exact hall.out i h h'
              · exact HK.out
            · have b4 : ((r : Int) == (e0 : Int)) = false := by simp; omega
              have hk : ¬ okAt s e0 j hlt := fun h => by
                have h := HOK.out.1 h
                rw [if_neg c2] at h
                omega
              have HK := Lib.hid hk
              clear c1 c2 hk hb0
              go_wp2
              go_quiet (fail)
              go_wp2
              refine bodyPost_ret (v := .tuple #[.agg #[.int .i64 0, .int .i64 0, .slice none 0 0], .int .i64 12]) (by simp [results, Try.results30, go_sem, p0, p1, p2]) rfl (.inr ⟨fun h => HK.out (h j hlt), fin_err (Nat.le_refl _) (R1.out.drewN _).bel⟩)
          · have b1 : (((s[j]'hlt).toNat : Int) == 10) = false := by simp; omega
            have b2 : (((s[j]'hlt).toNat : Int) != 10) = true := by simp; omega
            by_cases c2 : r = e0
            · have b4 : ((r : Int) == (e0 : Int)) = true := by simp [c2]
              have hk : ¬ okAt s e0 j hlt := fun h => by
                have h := HOK.out.1 h
                rw [if_pos c2] at h
                omega
              have HK := Lib.hid hk
              clear c1 c2 hk
              go_wp2
              go_quiet (fail)
              go_wp2
              refine bodyPost_ret (v := .tuple #[.agg #[.int .i64 0, .int .i64 0, .slice none 0 0], .int .i64 12]) (by simp [results, Try.results30, go_sem, p0, p1, p2]) rfl (.inr ⟨fun h => HK.out (h j hlt), fin_err (Nat.le_refl _) (R1.out.drewN _).bel⟩)
            · have b4 : ((r : Int) == (e0 : Int)) = false := by simp; omega
              have hre : r < e0 := by omega
              by_cases c3 : (s[j]'hlt).toNat = 120
              · have b5 : (((s[j]'hlt).toNat : Int) == 120) = true := by simp [c3]
                have b6 : (((s[j]'hlt).toNat : Int) != 120) = false := by simp [c3]
                have hk : okAt s e0 j hlt := HOK.out.2 (by rw [if_neg c2]; exact .inl c3)
                have hb0 : bitS s j = true := by rw [HB.out, c3]; rfl
                have HK := Lib.hid hk
                have HC := Lib.hid hb0
                clear c1 c2 c3 hk hb0
                go_wp2
                go_quiet (fail)
                go_wp2_with fail
                refine (set_nat e0 q kk (e0 * q) r ((q : Int) - 1 - (d : Int)) true _ _ (R1.out.drewN _).row h2 h4 r (q - 1 - d) rfl (by omega) hre (by omega)).mono ?_
                rintro e w2 ⟨rfl, hrow, hbut⟩
                have R2 : PR W w2 s e0 q kk w1.heap.size (j + 1) := by
                  have J := HJ.out
                  have R3 := R1.out.drewN nq
                  have C := HC.out
                  rw [J] at R3 C hrow ⊢
                  exact R3.put hre hdq C hrow hbut
                have R2 := Lib.hid R2
                clear hrow hbut p0 p1 p2 p3 p4 p5 p6 g0 g1 g2 g3 g4 g5 g6
                go_wp2
                refine ⟨⟨j + 1, by omega, by go_num, fun i h hi => ?_, R2.out⟩, by simp [intOf]; omega⟩
                rcases Nat.lt_succ_iff_lt_or_eq.1 hi with h' | rfl
                · exact hall.out i h h'
                · exact HK.out
              · have b5 : (((s[j]'hlt).toNat : Int) == 120) = false := by simp; omega
                have b6 : (((s[j]'hlt).toNat : Int) != 120) = true := by simp; omega
                have hb0 : bitS s j = false := by rw [HB.out]; simp [c3]
                have HC := Lib.hid hb0
                by_cases c4 : (s[j]'hlt).toNat = 46
                · have b7 : (((s[j]'hlt).toNat : Int) != 46) = false := by simp [c4]
                  have hk : okAt s e0 j hlt := HOK.out.2 (by rw [if_neg c2]; exact .inr c4)
                  have HK := Lib.hid hk
                  clear c1 c2 c3 c4 hk hb0
                  go_wp2
                  go_quiet (fail)
                  go_wp2
                  refine ⟨⟨j + 1, by omega, by go_num, fun i h hi => ?_, (R1.out.step HC.out).drewN _⟩, by simp [intOf]; omega⟩
                  rcases Nat.lt_succ_iff_lt_or_eq.1 hi with h' | rfl
                  · exact hall.out i h h'
                  · exact HK.out
                · have b7 : (((s[j]'hlt).toNat : Int) != 46) = true := by simp; omega
                  have hk : ¬ okAt s e0 j hlt := fun h => by
                    have h := HOK.out.1 h
                    rw [if_neg c2] at h
                    omega
                  have HK := Lib.hid hk
                  clear c1 c2 c3 c4 hk hb0
                  go_wp2
                  go_quiet (fail)
                  go_wp2
                  refine bodyPost_ret (v := .tuple #[.agg #[.int .i64 0, .int .i64 0, .slice none 0 0], .int .i64 12]) (by simp [results, Try.results30, go_sem, p0, p1, p2]) rfl (.inr ⟨fun h => HK.out (h j hlt), fin_err (Nat.le_refl _) (R1.out.drewN _).bel⟩)
        · have e : j = s.size := by omega
          subst e
          go_wp2
          refine bodyPost_ret (v := .tuple #[.agg #[.int .i64 e0, .int .i64 q, .slice (some ⟨kk, 0, none⟩) (e0 * q) (e0 * q)], .int .i64 0]) (by simp [results, Try.results30, go_sem, p0, p1, p2]) rfl (.inl ⟨fun i h => hall.out i h h, ?_⟩)
          exact fin_ok (Nat.le_refl _) R1.out.r0 (R1.out.row.congr fun l hl => pf_all hl HN.out) R1.out.bel
end Go.Proofs.Ytnamjpdbadjgpaa
