/- GridChecks for all grids and every string. -/
import Derived.Test.YtnamjpdbadjgpaaChkw
namespace Go.Proofs.Ytnamjpdbadjgpaa
open Go.RowKit
set_option linter.unusedVariables false
set_option linter.unusedSimpArgs false

theorem first_of {s : ByteArray} {P : Nat} (h : Lib.indexByte s.data.toList 10 = (P : Int)) : First s P ∧ P < s.size := by
  obtain ⟨e, hF, ⟨h1, h2⟩ | ⟨h1, h2⟩⟩ := first_any s
  · have : e = P := by omega
    subst this
    exact ⟨hF, h1⟩
  · omega
theorem rparse_text (s : ByteArray) (P Q : Nat) (hs : s.size ≤ 5000) (ht : Txt s P Q) (w : World) : Calls Try.prog 30 #[.string s] w (OkGrid w P Q fun i => bitS s ((Q - 1 - i / P) * (P + 1) + i % P)) := by
  obtain ⟨a1, a2, a3, a4, a5, a6, a7⟩ := ht
  refine (rparse_good s P Q w hs (first_of a7).1 a1 a2 a3 a4 a5).mono ?_
  rintro e w' (⟨-, h⟩ | ⟨h, -⟩)
  · exact h
  · exact absurd a6.2 h
theorem rparse_none (s : ByteArray) (hs : s.size ≤ 5000) (ht : ∀ P Q, ¬ Txt s P Q) (w : World) : Calls Try.prog 30 #[.string s] w (ErrGrid w 12) := by
  obtain ⟨e, hF, hI⟩ := first_any s
  by_cases c1 : e < 1
  · exact rparse_bad s e w hs hF (.inl c1)
  by_cases c2 : 64 < e
  · exact rparse_bad s e w hs hF (.inr (.inl ⟨c1, c2⟩))
  by_cases c3 : s.size % (e + 1) = 0
  · by_cases c4 : 64 < s.size / (e + 1)
    · exact rparse_bad s e w hs hF (.inr (.inr (.inr ⟨c1, c2, c3, c4⟩)))
    · have hn : s.size / (e + 1) * (e + 1) = s.size := Nat.div_mul_cancel (Nat.dvd_of_mod_eq_zero c3)
      have hle := hF.le
      have hq : 1 ≤ s.size / (e + 1) := by
        rcases Nat.eq_zero_or_pos (s.size / (e + 1)) with h | h
        · rw [h, Nat.zero_mul] at hn; omega
        · exact h
      have he : e < s.size := by
        have := Nat.mul_le_mul_right (e + 1) hq
        omega
      have hI' : Lib.indexByte s.data.toList 10 = (e : Int) := by
        rcases hI with ⟨_, h⟩ | ⟨h, _⟩
        · exact h
        · omega
      refine (rparse_good s e (s.size / (e + 1)) w hs hF (by omega) (by omega) hq (by omega) hn).mono ?_
      rintro x w' (⟨h, -⟩ | ⟨-, h⟩)
      · exact absurd ⟨by omega, by omega, hq, by omega, hn, ⟨c3, h⟩, hI'⟩ (ht e (s.size / (e + 1)))
      · exact h
  · exact rparse_bad s e w hs hF (.inr (.inr (.inl ⟨c1, c2, c3⟩)))
theorem rsame_any (W H X Y : Int) (A D : Option Addr) (n m c d : Nat) (f g : Nat → Bool) (w : World) (hn : n ≤ 5000) (hr : Holds w w.heap.size A n f) (hs : Holds w w.heap.size D m g) :
    Calls Try.prog 32 #[.agg #[.int .i64 W, .int .i64 H, .slice A n c], .agg #[.int .i64 X, .int .i64 Y, .slice D m d]] w fun e w' => e = .returned (.bool (decide (W = X ∧ H = Y ∧ n = m ∧ ∀ i, i < n → f i = g i))) ∧ Below w.heap.size w w' := by
  by_cases h : W = X ∧ H = Y ∧ n = m
  · obtain ⟨rfl, rfl, rfl⟩ := h
    have e : decide (W = W ∧ H = H ∧ n = n ∧ ∀ i, i < n → f i = g i) = decide (∀ i, i < n → f i = g i) := by simp
    rw [e]
    exact rsame_loop W H W H A D n c d f g w hn rfl rfl hr hs
  · have e : decide (W = X ∧ H = Y ∧ n = m ∧ ∀ i, i < n → f i = g i) = false := decide_eq_false fun h' => h ⟨h'.1, h'.2.1, h'.2.2.1⟩
    rw [e]
    exact rsame_no0 W H X Y A D n m c d w h

theorem both_any (W H : Int) (A : Option Addr) (n c : Nat) (f : Nat → Bool) (w : World) (hn : n ≤ 4200) (hr : Holds w w.heap.size A n f) : ∃ (cn ce te : Int) (ts : ByteArray),
    (∀ v, Below w.heap.size w v → Calls Try.prog 25 #[.agg #[.int .i64 W, .int .i64 H, .slice A n c]] v fun e w' => e = .returned (.tuple #[.int .i64 cn, .int .i64 ce]) ∧ Below v.heap.size v w') ∧
    (∀ v, Below w.heap.size w v → Calls Try.prog 26 #[.agg #[.int .i64 W, .int .i64 H, .slice A n c]] v fun e w' => e = .returned (.tuple #[.int .i64 cn, .int .i64 ce]) ∧ Below v.heap.size v w') ∧
    (∀ v, Below w.heap.size w v → Calls Try.prog 27 #[.agg #[.int .i64 W, .int .i64 H, .slice A n c]] v fun e w' => e = .returned (.tuple #[.string ts, .int .i64 te]) ∧ Below v.heap.size v w') ∧
    (∀ v, Below w.heap.size w v → Calls Try.prog 28 #[.agg #[.int .i64 W, .int .i64 H, .slice A n c]] v fun e w' => e = .returned (.tuple #[.string ts, .int .i64 te]) ∧ Below v.heap.size v w') := by
  by_cases h0 : chk W H n = 0
  · obtain ⟨P, Q, rfl, rfl, rfl, a1, a2, a3, a4⟩ := chk_nat h0
    have hh := fun v (b : Below w.heap.size w v) => ((hr.below b).more b.size)
    exact ⟨_, _, _, _, fun v b => count_ok P Q A c f v (hh v b) a1 a2 a3 a4, fun v b => rcount_ok P Q A c f v (hh v b) a1 a2 a3 a4, fun v b => text_ok P Q A c f v (hh v b) a1 a2 a3 a4, fun v b => rtext_ok P Q A c f v (hh v b) a1 a2 a3 a4⟩
  · have hne : (chk W H n != 0) = true := by simp [h0]
    exact ⟨_, _, _, _, fun v b => count_err W H A n c v _ hn rfl hne, fun v b => rcount_err W H A n c v _ hn rfl hne, fun v b => text_err W H A n c v _ hn rfl hne, fun v b => rtext_err W H A n c v _ hn rfl hne⟩

set_option maxRecDepth 100000 in
set_option maxHeartbeats 1000000 in
theorem checks_great1 (W H X Y : Int) (A D : Option Addr) (n c m d : Nat) (s : ByteArray) (w : World)
    (HG1 : ∀ v, Calls Try.prog 24 #[.agg #[.int .i64 W, .int .i64 H, .slice A n c]] v fun e w' => e = .returned (.bool true) ∧ Below v.heap.size v w') :
    Calls Try.prog 4 #[.agg #[.int .i64 W, .int .i64 H, .slice A n c], .agg #[.int .i64 X, .int .i64 Y, .slice D m d], .string s] w fun e w' => e = .returned (.bool true) ∧ Below w.heap.size w w' := by
  have HG1 := Lib.hid HG1
  have L0 := Lib.hid (LB.start w W H X Y A D n c m d)
  go_enter Try.func4, Try.ntmps4
  obtain ⟨pz0, pz1, pz2, pz3, pz4, pz5, pz6⟩ := L0.out.a.all
  obtain ⟨py0, py1, py2, py3, py4, py5, py6⟩ := L0.out.b.all
  go_wp2_with fail
  refine (HG1.out _).mono ?_
  rintro e u1 ⟨rfl, hb⟩
  have L1 := Lib.hid (L0.out.next hb)
  clear hb L0 pz0 pz1 pz2 pz3 pz4 pz5 pz6 py0 py1 py2 py3 py4 py5 py6
  go_wp2_with fail
  refine bodyPost_ret (v := .bool true) (by simp [results, Try.results4, go_sem]) rfl ⟨rfl, L1.out.bel⟩
set_option maxRecDepth 100000 in
set_option maxHeartbeats 1000000 in
theorem checks_great2 (W H X Y : Int) (A D : Option Addr) (n c m d : Nat) (s : ByteArray) (w : World)
    (HG1 : ∀ v, Calls Try.prog 24 #[.agg #[.int .i64 W, .int .i64 H, .slice A n c]] v fun e w' => e = .returned (.bool false) ∧ Below v.heap.size v w')
    (HG2 : ∀ v, Calls Try.prog 24 #[.agg #[.int .i64 X, .int .i64 Y, .slice D m d]] v fun e w' => e = .returned (.bool true) ∧ Below v.heap.size v w') :
    Calls Try.prog 4 #[.agg #[.int .i64 W, .int .i64 H, .slice A n c], .agg #[.int .i64 X, .int .i64 Y, .slice D m d], .string s] w fun e w' => e = .returned (.bool true) ∧ Below w.heap.size w w' := by
  have HG1 := Lib.hid HG1
  have HG2 := Lib.hid HG2
  have L0 := Lib.hid (LB.start w W H X Y A D n c m d)
  go_enter Try.func4, Try.ntmps4
  obtain ⟨pz0, pz1, pz2, pz3, pz4, pz5, pz6⟩ := L0.out.a.all
  obtain ⟨py0, py1, py2, py3, py4, py5, py6⟩ := L0.out.b.all
  go_wp2_with fail
  refine (HG1.out _).mono ?_
  rintro e u1 ⟨rfl, hb⟩
  have L1 := Lib.hid (L0.out.next hb)
  clear hb L0 pz0 pz1 pz2 pz3 pz4 pz5 pz6 py0 py1 py2 py3 py4 py5 py6
  obtain ⟨pz0, pz1, pz2, pz3, pz4, pz5, pz6⟩ := L1.out.a.all
  obtain ⟨py0, py1, py2, py3, py4, py5, py6⟩ := L1.out.b.all
  go_wp2_with fail
  refine (HG2.out _).mono ?_
  rintro e u2 ⟨rfl, hb⟩
  have L2 := Lib.hid (L1.out.next hb)
  clear hb L1 pz0 pz1 pz2 pz3 pz4 pz5 pz6 py0 py1 py2 py3 py4 py5 py6
  go_wp2_with fail
  refine bodyPost_ret (v := .bool true) (by simp [results, Try.results4, go_sem]) rfl ⟨rfl, L2.out.bel⟩
set_option maxRecDepth 100000 in
set_option maxHeartbeats 1000000 in
theorem checks_long (W H X Y : Int) (A D : Option Addr) (n c m d : Nat) (s : ByteArray) (w : World) (hb63 : s.size < 2 ^ 63) (hl : 5000 < s.size)
    (HG1 : ∀ v, Calls Try.prog 24 #[.agg #[.int .i64 W, .int .i64 H, .slice A n c]] v fun e w' => e = .returned (.bool false) ∧ Below v.heap.size v w')
    (HG2 : ∀ v, Calls Try.prog 24 #[.agg #[.int .i64 X, .int .i64 Y, .slice D m d]] v fun e w' => e = .returned (.bool false) ∧ Below v.heap.size v w') :
    Calls Try.prog 4 #[.agg #[.int .i64 W, .int .i64 H, .slice A n c], .agg #[.int .i64 X, .int .i64 Y, .slice D m d], .string s] w fun e w' => e = .returned (.bool true) ∧ Below w.heap.size w w' := by
  have HG1 := Lib.hid HG1
  have HG2 := Lib.hid HG2
  have hd : decide ((5000 : Int) < (s.size : Int)) = true := by simp; omega
  have L0 := Lib.hid (LB.start w W H X Y A D n c m d)
  go_enter Try.func4, Try.ntmps4
  obtain ⟨pz0, pz1, pz2, pz3, pz4, pz5, pz6⟩ := L0.out.a.all
  obtain ⟨py0, py1, py2, py3, py4, py5, py6⟩ := L0.out.b.all
  go_wp2_with fail
  refine (HG1.out _).mono ?_
  rintro e u1 ⟨rfl, hb⟩
  have L1 := Lib.hid (L0.out.next hb)
  clear hb L0 pz0 pz1 pz2 pz3 pz4 pz5 pz6 py0 py1 py2 py3 py4 py5 py6
  obtain ⟨pz0, pz1, pz2, pz3, pz4, pz5, pz6⟩ := L1.out.a.all
  obtain ⟨py0, py1, py2, py3, py4, py5, py6⟩ := L1.out.b.all
  go_wp2_with fail
  refine (HG2.out _).mono ?_
  rintro e u2 ⟨rfl, hb⟩
  have L2 := Lib.hid (L1.out.next hb)
  clear hb L1 pz0 pz1 pz2 pz3 pz4 pz5 pz6 py0 py1 py2 py3 py4 py5 py6
  go_wp2_with fail
  refine bodyPost_ret (v := .bool true) (by simp [results, Try.results4, go_sem]) rfl ⟨rfl, L2.out.bel⟩
theorem checks_any (W H X Y : Int) (A D : Option Addr) (n c m d : Nat) (f g : Nat → Bool) (s : ByteArray) (w : World) (hr : Holds w w.heap.size A n f) (hs : Holds w w.heap.size D m g) (hb63 : s.size < 2 ^ 63) :
    Calls Try.prog 4 #[.agg #[.int .i64 W, .int .i64 H, .slice A n c], .agg #[.int .i64 X, .int .i64 Y, .slice D m d], .string s] w fun e w' => e = .returned (.bool true) ∧ Below w.heap.size w w' := by
  by_cases hn : 4200 < n
  · exact checks_great1 W H X Y A D n c m d s w fun v => great_yes W H A n c v hn
  by_cases hm : 4200 < m
  · exact checks_great2 W H X Y A D n c m d s w (fun v => great_no W H A n c v (by omega)) fun v => great_yes X Y D m d v hm
  by_cases hl : 5000 < s.size
  · exact checks_long W H X Y A D n c m d s w hb63 hl (fun v => great_no W H A n c v (by omega)) fun v => great_no X Y D m d v (by omega)
  obtain ⟨cn, ce, te, ts, C1, C2, T1, T2⟩ := both_any W H A n c f w (by omega) hr
  have h1 := fun v (b : Below w.heap.size w v) => ((hr.below b).more b.size)
  have h2 := fun v (b : Below w.heap.size w v) => ((hs.below b).more b.size)
  by_cases hT : ∃ P Q, Txt s P Q
  · obtain ⟨P, Q, hT⟩ := hT
    exact checks_text W H X Y A D n c m d s ts cn ce te (chk W H n) (decide (W = X ∧ H = Y ∧ n = m ∧ ∀ i, i < n → f i = g i)) P Q _ w (by omega)
      (fun v => great_no W H A n c v (by omega)) (fun v => great_no X Y D m d v (by omega)) C1 C2 T1 T2 (fun v => chk_any W H A n c v (by omega)) (fun v => rchk_any W H A n c v (by omega))
      (fun v b => same_any W H X Y A D n m c d f g v (by omega) (h1 v b) (h2 v b)) (fun v b => rsame_any W H X Y A D n m c d f g v (by omega) (h1 v b) (h2 v b))
      (fun v => parse_text s P Q hT v) (fun v => rparse_text s P Q (by omega) hT v)
      (fun v k l R1 R2 => rsame_eq P Q _ _ (P * Q) _ _ _ v (prod_le hT.2.1 hT.2.2.2.1) (R1.holds R1.lt) (R2.holds R2.lt))
  · have hT' := fun P Q h => hT ⟨P, Q, h⟩
    exact checks_none W H X Y A D n c m d s ts cn ce te (chk W H n) (decide (W = X ∧ H = Y ∧ n = m ∧ ∀ i, i < n → f i = g i)) w (by omega)
      (fun v => great_no W H A n c v (by omega)) (fun v => great_no X Y D m d v (by omega)) C1 C2 T1 T2 (fun v => chk_any W H A n c v (by omega)) (fun v => rchk_any W H A n c v (by omega))
      (fun v b => same_any W H X Y A D n m c d f g v (by omega) (h1 v b) (h2 v b)) (fun v b => rsame_any W H X Y A D n m c d f g v (by omega) (h1 v b) (h2 v b))
      (fun v => parse_none s v (by omega) hT') (fun v => rparse_none s (by omega) hT' v)
      (fun v => rsame_eq 0 0 none none 0 0 0 (fun _ => false) v (by omega) Holds.none_ Holds.none_)
end Go.Proofs.Ytnamjpdbadjgpaa
