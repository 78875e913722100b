/- The reference's Plain, Draw, Twin. -/
import Derived.Test.YthipdfkgeghooaaNrr
namespace Go.Proofs.Ythipdfkgeghooaa
open Go.RowKit
set_option maxRecDepth 100000
set_option linter.unusedVariables false
set_option linter.unusedSimpArgs false

set_option maxHeartbeats 3200000 in
theorem rpl_ok (S N n : Nat) (A : Option Addr) (c : Nat) (b : Nat → Nat) (hO : NOk S N n b) (w : World) (hb : NH w A n b) :
    Calls Try.prog 17 #[.agg #[.int .i64 (S : Nat), .int .i64 (N : Nat), .slice A n c]] w fun e w' => e = .returned (.tuple #[.bool (plB N n b), .int .i64 0]) ∧ Below w.heap.size w w' := by
  have HC := Lib.hid (fun u (hu : Below w.heap.size w u) => rnck_any (S : Nat) (N : Nat) A n c (fun i => ((b i : Nat) : Int)) u (by have := hO.l1; omega) ((hb.below hu).more hu.size))
  rw [nck_zero hO (fun _ _ => rfl)] at HC
  have z0 : ((0 : Int) != 0) = false := rfl
  have HBB := Lib.hid hb
  have h64 := hO.l1
  have hn0 := hO.l0
  clear hO hb
  have LB0 := Lib.hid (Below.refl w.heap.size w)
  have X1 := IBox.new w (S : Nat) (N : Nat) (.slice A n c)
  have X1 := Lib.hid X1
  have LB0 := Lib.hid (LB0.out.alloc LB0.out.size (.cells #[.int .i64 (S : Nat), .int .i64 (N : Nat), .slice A n c] 24))
  go_enter Try.func17, Try.ntmps17
  go_upto_region 1 with (fail)
  generalize w.alloc (.cells #[.int .i64 (S : Nat), .int .i64 (N : Nat), .slice A n c] 24) = w0 at *
  obtain ⟨q0, q1, q2, q3, q4, q5, q6⟩ := X1.out.all
  go_wp2_with fail
  clear q0 q1 q2 q3 q4 q5 q6
  with_reducible refine Calls.mono (HC.out _ LB0.out) ?_
  rintro e w1 ⟨rfl, hb⟩
  have LB1 := Lib.hid (LB0.out.trans (hb.mono LB0.out.size))
  have X1 := Lib.hid (X1.out.below hb X1.out.lt)
  clear hb LB0
  go_wp2
  go_loopw [4] (fun i wr => ∃ j : Nat, j ≤ n ∧ i = .int .i64 (j : Nat) ∧ Hid (∀ x, x < j → ¬ b x % 2 = b ((x + 1) % n) % 2) ∧ wr = w1) (fun i _ => n - (intOf i).toNat)
  case atStart => exact ⟨0, Nat.zero_le _, rfl, Lib.hid (fun x hx => by omega), rfl⟩
  case round =>
    obtain ⟨j, hj, rfl, HA, rfl⟩ := hrel
    obtain ⟨q0, q1, q2, q3, q4, q5, q6⟩ := X1.out.all
    by_cases hlt : j < n
    · have y1 : (j : Int) < (n : Int) := by omega
      have y2 : (0 : Int) ≤ (j : Int) := by omega
      have y3 : (0 : Int) < (n : Int) := by omega
      obtain ⟨bb, oo, rfl, hbl, hbc⟩ := HBB.out hn0
      have a0 : wr.cell? ⟨bb, oo, none⟩ = some (.int .i64 ((b 0 : Nat) : Int)) := (LB1.out.cell (p := ⟨bb, oo, none⟩) hbl).trans (hbc 0 hn0)
      have a1 : wr.cell? ⟨bb, oo + j, none⟩ = some (.int .i64 ((b j : Nat) : Int)) := (LB1.out.cell (p := ⟨bb, oo + j, none⟩) hbl).trans (hbc j hlt)
      have HNX := Lib.hid (show (j + 1 < n → b ((j + 1) % n) = b (j + 1)) ∧ (¬ j + 1 < n → b ((j + 1) % n) = b 0) from ⟨fun h => by rw [Nat.mod_eq_of_lt h], fun h => by rw [show j + 1 = n by omega, Nat.mod_self]⟩)
      have z9 : IntKind.i64.wrap ((j : Int) + 1) = (j : Int) + 1 := IntWalk.i64_in _ (by omega)
      have HOKS := Lib.hid (fun (q : ¬ b j % 2 = b ((j + 1) % n) % 2) x (hx : x < j + 1) => if e : x = j then (show ¬ b x % 2 = b ((x + 1) % n) % 2 by rw [e]; exact q) else HA.out x (by omega))
      have HNO := Lib.hid (fun (q : b j % 2 = b ((j + 1) % n) % 2) => (show plB N n b = false by unfold plB; rw [show alt n b = false from decide_eq_false fun h => h j hlt q]; rfl))
      by_cases hnx : j + 1 < n
      · have y4 : (j : Int) + 1 < (n : Int) := by omega
        have y5 : (0 : Int) ≤ (j : Int) + 1 := by omega
        have a2 : wr.cell? ⟨bb, oo + (j + 1), none⟩ = some (.int .i64 ((b (j + 1) : Nat) : Int)) := (LB1.out.cell (p := ⟨bb, oo + (j + 1), none⟩) hbl).trans (hbc (j + 1) hnx)
        rw [HNX.out.1 hnx] at HOKS HNO
        clear hbc HNX
        generalize b (j + 1) = t at *
        generalize b j = r at *
        generalize b 0 = s at *
        have t1 : ((r : Nat) : Int).tmod 2 = ((r % 2 : Nat) : Int) := rfl
        have t2 : ((t : Nat) : Int).tmod 2 = ((t % 2 : Nat) : Int) := rfl
        by_cases he : r % 2 = t % 2
        · have HN := Lib.hid (HNO.out he)
          have y9 : (((r % 2 : Nat) : Int) == ((t % 2 : Nat) : Int)) = true := by simp; omega
          clear he HNO HOKS
          go_wp2
          refine bodyPost_ret (v := .tuple #[.bool false, .int .i64 0]) (by simp [results, Try.results17, go_sem]) rfl ?_
          exact ⟨by rw [HN.out], LB1.out⟩
        · have HN := Lib.hid (HOKS.out he)
          have y9 : (((r % 2 : Nat) : Int) == ((t % 2 : Nat) : Int)) = false := by simp; omega
          clear he HNO HOKS
          go_wp2
          go_roundw
          case rel => exact ⟨j + 1, by omega, by go_num, HN, trivial⟩
          case measure => simp [intOf]; omega
      · have y4 : ¬ (j : Int) + 1 < (n : Int) := by omega
        rw [HNX.out.2 hnx] at HOKS HNO
        clear hbc HNX
        generalize b j = r at *
        generalize b 0 = t at *
        have t1 : ((r : Nat) : Int).tmod 2 = ((r % 2 : Nat) : Int) := rfl
        have t2 : ((t : Nat) : Int).tmod 2 = ((t % 2 : Nat) : Int) := rfl
        by_cases he : r % 2 = t % 2
        · have HN := Lib.hid (HNO.out he)
          have y9 : (((r % 2 : Nat) : Int) == ((t % 2 : Nat) : Int)) = true := by simp; omega
          clear he HNO HOKS
          go_wp2
          refine bodyPost_ret (v := .tuple #[.bool false, .int .i64 0]) (by simp [results, Try.results17, go_sem]) rfl ?_
          exact ⟨by rw [HN.out], LB1.out⟩
        · have HN := Lib.hid (HOKS.out he)
          have y9 : (((r % 2 : Nat) : Int) == ((t % 2 : Nat) : Int)) = false := by simp; omega
          clear he HNO HOKS
          go_wp2
          go_roundw
          case rel => exact ⟨j + 1, by omega, by go_num, HN, trivial⟩
          case measure => simp [intOf]; omega
    · obtain rfl : j = n := by omega
      have y1 : ¬ (j : Int) < (j : Int) := by omega
      have t1 : ((N : Nat) : Int).tmod 2 = ((N % 2 : Nat) : Int) := rfl
      have HAL := Lib.hid (show alt j b = true from decide_eq_true HA.out)
      by_cases he : N % 2 = 0
      · have y2 : (((N % 2 : Nat) : Int) == 0) = true := by simp; omega
        have HE := Lib.hid (show plB N j b = true by unfold plB; rw [HAL.out, decide_eq_true he]; rfl)
        generalize N % 2 = nm at *
        clear he
        go_wp2
        refine bodyPost_ret (v := .tuple #[.bool true, .int .i64 0]) (by simp [results, Try.results17, go_sem]) rfl ?_
        exact ⟨by rw [HE.out], LB1.out⟩
      · have y2 : (((N % 2 : Nat) : Int) == 0) = false := by simp; omega
        have HE := Lib.hid (show plB N j b = false by unfold plB; rw [HAL.out, decide_eq_false he]; rfl)
        generalize N % 2 = nm at *
        clear he
        go_wp2
        refine bodyPost_ret (v := .tuple #[.bool false, .int .i64 0]) (by simp [results, Try.results17, go_sem]) rfl ?_
        exact ⟨by rw [HE.out], LB1.out⟩
/-- The best shaft among those from t on, or none yet. -/
def Bst (S N r : Nat) (h : Int) (t : Nat) (v : Int) : Prop :=
  (v = -1 ∧ ∀ s, t ≤ s → s < S → ¬ s % N = r) ∨ ∃ bs : Nat, v = ((bs : Nat) : Int) ∧ t ≤ bs ∧ bs < S ∧ bs % N = r ∧ ∀ s, t ≤ s → s < S → s % N = r → aw ((bs : Nat) : Int) h < aw ((s : Nat) : Int) h ∨ (aw ((bs : Nat) : Int) h = aw ((s : Nat) : Int) h ∧ bs ≤ s)
theorem Bst.none_ {S N r : Nat} {h : Int} : Bst S N r h S (-1) := .inl ⟨rfl, fun s h1 h2 => by omega⟩
theorem Bst.no {S N r t : Nat} {h v : Int} (b : Bst S N r h (t + 1) v) (hq : ¬ t % N = r) : Bst S N r h t v := by
  rcases b with ⟨rfl, b⟩ | ⟨bs, rfl, b1, b2, b3, b4⟩
  · exact .inl ⟨rfl, fun s h1 h2 => by
      by_cases e : s = t
      · rw [e]; exact hq
      · exact b s (by omega) h2⟩
  · exact .inr ⟨bs, rfl, by omega, b2, b3, fun s h1 h2 h3 => by
      by_cases e : s = t
      · rw [e] at h3; exact absurd h3 hq
      · exact b4 s (by omega) h2 h3⟩
theorem Bst.first {S N r t : Nat} {h : Int} (b : Bst S N r h (t + 1) (-1)) (ht : t < S) (hq : t % N = r) : Bst S N r h t ((t : Nat) : Int) := by
  rcases b with ⟨_, b⟩ | ⟨bs, b0, _⟩
  · exact .inr ⟨t, rfl, Nat.le_refl _, ht, hq, fun s h1 h2 h3 => by
      by_cases e : s = t
      · rw [e]; exact .inr ⟨rfl, Nat.le_refl _⟩
      · exact absurd h3 (b s (by omega) h2)⟩
  · omega
theorem Bst.better {S N r t bs : Nat} {h : Int} (b : Bst S N r h (t + 1) ((bs : Nat) : Int)) (ht : t < S) (hq : t % N = r) (hle : aw ((t : Nat) : Int) h ≤ aw ((bs : Nat) : Int) h) : Bst S N r h t ((t : Nat) : Int) := by
  rcases b with ⟨b0, _⟩ | ⟨b', b0, b1, b2, b3, b4⟩
  · omega
  · obtain rfl : bs = b' := by omega
    exact .inr ⟨t, rfl, Nat.le_refl _, ht, hq, fun s h1 h2 h3 => by
      by_cases e : s = t
      · rw [e]; exact .inr ⟨rfl, Nat.le_refl _⟩
      · have := b4 s (by omega) h2 h3
        omega⟩
theorem Bst.worse {S N r t bs : Nat} {h : Int} (b : Bst S N r h (t + 1) ((bs : Nat) : Int)) (hq : ¬ aw ((t : Nat) : Int) h ≤ aw ((bs : Nat) : Int) h) : Bst S N r h t ((bs : Nat) : Int) := by
  rcases b with ⟨b0, _⟩ | ⟨b', b0, b1, b2, b3, b4⟩
  · omega
  · obtain rfl : bs = b' := by omega
    exact .inr ⟨bs, rfl, by omega, b2, b3, fun s h1 h2 h3 => by
      by_cases e : s = t
      · rw [e]; exact .inl (by omega)
      · exact b4 s (by omega) h2 h3⟩
theorem Bst.all {S N r : Nat} {h v : Int} (b : Bst S N r h 0 v) (hr : r < N) (hS : N ≤ S) : v = ((nv S N r h : Nat) : Int) := by
  rcases b with ⟨_, b⟩ | ⟨bs, rfl, b1, b2, b3, b4⟩
  · exact absurd (Nat.mod_eq_of_lt hr) (b r (Nat.zero_le _) (by omega))
  · rw [nv_eq (v := bs) ⟨b2, b3, fun s h1 h2 => b4 s (Nat.zero_le _) h1 h2⟩]
set_option maxHeartbeats 800000 in
theorem rdr_l (S N : Int) (A : Option Addr) (n c : Nat) (f : Nat → Int) (D : Option Addr) (m d : Nat) (l : Nat → Int) (w : World) (hn : n ≤ 100000) (hm : m ≤ 100000) (hf : L2.Holds w w.heap.size A n f) (hl : L2.Holds w w.heap.size D m l) (hz : nck S N n f = 0) (hh : hts m l = false) :
    Calls Try.prog 13 #[.agg #[.int .i64 S, .int .i64 N, .slice A n c], .slice D m d] w fun e w' => e = .returned (.tuple #[.slice none 0 0, .int .i64 8]) ∧ Below w.heap.size w w' := by
  have HC := Lib.hid (fun u (hu : Below w.heap.size w u) => rnck_any S N A n c f u hn ((hf.below hu).more hu.size))
  have HT := Lib.hid (fun u (hu : Below w.heap.size w u) => hts_any D m d l u hm ((hl.below hu).more hu.size))
  rw [hz] at HC
  rw [hh] at HT
  clear hf hz hl hh
  have z0 : ((0 : Int) != 0) = false := rfl
  have LB0 := Lib.hid (Below.refl w.heap.size w)
  have X1 := IBox.new w S N (.slice A n c)
  have X1 := Lib.hid X1
  have LB0 := Lib.hid (LB0.out.alloc LB0.out.size (.cells #[.int .i64 S, .int .i64 N, .slice A n c] 24))
  go_enter Try.func13, Try.ntmps13
  go_upto_region 1 with (fail)
  generalize w.alloc (.cells #[.int .i64 S, .int .i64 N, .slice A n c] 24) = w0 at *
  obtain ⟨q0, q1, q2, q3, q4, q5, q6⟩ := X1.out.all
  go_wp2_with fail
  clear q0 q1 q2 q3 q4 q5 q6
  with_reducible refine Calls.mono (HC.out _ LB0.out) ?_
  rintro e w1 ⟨rfl, hb⟩
  have LB1 := Lib.hid (LB0.out.trans (hb.mono LB0.out.size))
  have X1 := Lib.hid (X1.out.below hb X1.out.lt)
  clear hb LB0
  go_wp2_with (go_at_call 42; with_reducible refine Calls.mono (HT.out _ LB1.out) ?_; rintro e w2 ⟨rfl, kd, rfl⟩)
  refine bodyPost_ret (v := .tuple #[.slice none 0 0, .int .i64 8]) (by simp [results, Try.results13, go_sem]) rfl ?_
  exact ⟨rfl, Go.Proofs.below_drewN' LB1.out _⟩
set_option maxHeartbeats 3200000 in
theorem rdr_ok (S N n : Nat) (A : Option Addr) (c : Nat) (b : Nat → Nat) (hO : NOk S N n b) (D : Option Addr) (m d : Nat) (l : Nat → Int) (w : World) (hb : NH w A n b) (hl : L2.Holds w w.heap.size D m l) (hh : hts m l = true) :
    Calls Try.prog 13 #[.agg #[.int .i64 (S : Nat), .int .i64 (N : Nat), .slice A n c], .slice D m d] w fun e w' => ∃ A' c', e = .returned (.tuple #[.slice A' m c', .int .i64 0]) ∧ L2.Holds w' w'.heap.size A' m (drf S N n b l) ∧ Below w.heap.size w w' := by
  have HC := Lib.hid (fun u (hu : Below w.heap.size w u) => rnck_any (S : Nat) (N : Nat) A n c (fun i => ((b i : Nat) : Int)) u (by have := hO.l1; omega) ((hb.below hu).more hu.size))
  rw [nck_zero hO (fun _ _ => rfl)] at HC
  have HIS := Lib.hid (fun u x s (hu : Below w.heap.size w u) => is_any S N n A c b x s u hO.n0 hO.l0 hO.l1 ((hb.below hu).more hu.size))
  have z0 : ((0 : Int) != 0) = false := rfl
  have h1 : len64 m = true ∧ upTo 1000 m l = true := by unfold hts at hh; simpa using hh
  have hm1 := of_decide_eq_true h1.1
  have HU := Lib.hid (upTo_of h1.2)
  have HT := Lib.hid (fun u (hu : Below w.heap.size w u) => hts_any D m d l u (by omega) ((hl.below hu).more hu.size))
  rw [hh] at HT
  have HL := Lib.hid hl
  have HO := Lib.hid hO
  have s40 := hO.s1
  have s1 : 1 ≤ S := by have := hO.n0; have := hO.ns; omega
  clear hO hb hl hh h1
  have z7 : IntKind.i64.wrap ((S : Int) - 1) = (S : Int) - 1 := IntWalk.i64_in _ (by omega)
  have LB0 := Lib.hid (Below.refl w.heap.size w)
  have X1 := IBox.new w (S : Nat) (N : Nat) (.slice A n c)
  have X1 := Lib.hid X1
  have LB0 := Lib.hid (LB0.out.alloc LB0.out.size (.cells #[.int .i64 (S : Nat), .int .i64 (N : Nat), .slice A n c] 24))
  go_enter Try.func13, Try.ntmps13
  go_upto_region 1 with (fail)
  generalize w.alloc (.cells #[.int .i64 (S : Nat), .int .i64 (N : Nat), .slice A n c] 24) = w0 at *
  obtain ⟨q0, q1, q2, q3, q4, q5, q6⟩ := X1.out.all
  go_wp2_with fail
  clear q0 q1 q2 q3 q4 q5 q6
  with_reducible refine Calls.mono (HC.out _ LB0.out) ?_
  rintro e w1 ⟨rfl, hb⟩
  have LB1 := Lib.hid (LB0.out.trans (hb.mono LB0.out.size))
  have X1 := Lib.hid (X1.out.below hb X1.out.lt)
  clear hb LB0
  go_wp2_with (go_at_call 42; with_reducible refine Calls.mono (HT.out _ LB1.out) ?_; rintro e w2 ⟨rfl, kd, rfl⟩)
  have LB2 := Lib.hid (Go.Proofs.below_drewN' LB1.out kd)
  have X2 : Hid (IBox (w1.drewN kd) w.heap.size (S : Nat) (N : Nat) (.slice A n c)) := Lib.hid X1.out
  generalize w1.drewN kd = w3 at *
  clear LB1 X1
  go_loopw [6, 7] (fun u i wr => ∃ j : Nat, j ≤ m ∧ i = .int .i64 (j : Nat) ∧ Hid (IBox wr w.heap.size (S : Nat) (N : Nat) (.slice A n c)) ∧ Hid (L2.Own wr (w.heap.size + 1) u j (drf S N n b l)) ∧ Hid (Below w.heap.size w wr)) (fun _ i _ => m - (intOf i).toNat)
  case atStart => exact ⟨0, Nat.zero_le _, rfl, X2, Lib.hid (L2.Own.nil _ _ _), LB2⟩
  case round =>
    obtain ⟨j, hj, rfl, HX, HO2, HW⟩ := hrel
    clear X2 LB2
    obtain ⟨q0, q1, q2, q3, q4, q5, q6⟩ := HX.out.all
    by_cases hlt : j < m
    · have y1 : (j : Int) < (m : Int) := by omega
      have y2 : (0 : Int) ≤ (j : Int) := by omega
      obtain ⟨db, dof, rfl, hdl, hdc⟩ := HL.out (by omega)
      have hu := HU.out j hlt
      have HIS := Lib.hid (fun u s (hu : Below w.heap.size w u) => HIS.out u j s hu)
      have hOx := HO.out
      have hrr : b (j % n) < N := hOx.b _ (Nat.mod_lt _ (by have := hOx.l0; omega))
      have HFIN := Lib.hid (fun v (q : Bst S N (b (j % n)) (l j) 0 v) => (show drf S N n b l j = v from (q.all hrr hOx.ns).symm))
      have HLJ := Lib.hid (hdc j hlt)
      clear hdc hOx hrr
      generalize b (j % n) = r at *
      generalize l j = h at *
      go_wp2
      clear q0 q1 q2 q3 q4 q5 q6
      go_loopw [8, 9] (fun v i wq => ∃ (t : Nat) (bv : Int), t ≤ S ∧ i = .int .i64 ((t : Int) - 1) ∧ v = .int .i64 bv ∧ Hid (Bst S N r h t bv) ∧ Hid (IBox wq w.heap.size (S : Nat) (N : Nat) (.slice A n c)) ∧ Hid (L2.Own wq (w.heap.size + 1) u6 j (drf S N n b l)) ∧ Hid (Below w.heap.size w wq)) (fun _ i _ => (intOf i + 1).toNat)
      case atStart => exact ⟨S, -1, Nat.le_refl _, by go_num, rfl, Lib.hid Bst.none_, HX, HO2, HW⟩
      case round =>
        obtain ⟨t, bv, ht, rfl, rfl, HBS, HX, HO2, HW⟩ := hrel
        cases t with
        | zero =>
          have y3 : decide ((0 : Int) ≤ ((0 : Nat) : Int) - 1) = false := rfl
          have HF := Lib.hid (HFIN.out bv HBS.out)
          have hj64 : j ≤ 100000 := by omega
          go_wp2_with (at_builtin; refine L2.app1 _ rfl _ _ rfl (w.heap.size + 1) rfl HO2.out _ rfl HF.out (by omega) (by have := HX.out.lt; omega) ?_; intro v' w5 O5 B5)
          have HX5 := Lib.hid (HX.out.below B5 (by omega))
          have HW5 := Lib.hid (HW.out.trans (B5.mono (by omega)))
          go_roundw
          case rel => exact ⟨j + 1, by omega, by go_num, HX5, Lib.hid O5, HW5⟩
          case measure => simp [intOf]; omega
        | succ t =>
          rw [show (((t + 1 : Nat) : Int) - 1) = (t : Int) by omega]
          have hts : t < S := ht
          have y3 : decide ((0 : Int) ≤ (t : Int)) = true := by simp
          have z8 : IntKind.i64.wrap ((t : Int) - 1) = (t : Int) - 1 := IntWalk.i64_in _ (by omega)
          have HC1 := Lib.hid (fun u (hu : Below wr.heap.size wr u) => HIS.out u t (HW.out.trans (hu.mono HW.out.size)))
          have a0 := (HW.out.cell (p := ⟨db, dof + j, none⟩) hdl).trans HLJ.out
          have HSS := Lib.hid (fun (u : World) (hu : Below wr.heap.size wr u) => (And.intro ((hu.cell (p := ⟨db, dof + j, none⟩) (Nat.lt_of_lt_of_le hdl HW.out.size)).trans a0) (And.intro (HX.out.below hu HX.out.lt).c0 (And.intro (HX.out.below hu HX.out.lt).c1 (HX.out.below hu HX.out.lt).c2))))
          have HA1 := Lib.hid (fun u => away_any ((t : Nat) : Int) h u (by omega) (by omega))
          clear a0
          cases hq : isB S N r t
          · rw [hq] at HC1
            have HN := Lib.hid (HBS.out.no (fun e => by rw [show isB S N r t = true from decide_eq_true ⟨hts, e⟩] at hq; cases hq))
            clear hq
            obtain ⟨I, Wf, i0, h0f, hbf, hcf⟩ := family wr
            have C1 := Lib.hid (fun n' => (HC1.out (Wf n') (hbf n')).mono fun e w2 h => (⟨h.1, hcf n' _ h.2⟩ : _ ∧ ∃ m, w2 = Wf m))
            have xx := fun n' => HSS.out (Wf n') (hbf n')
            have x0 := fun n' => (xx n').1
            have x1 := fun n' => (xx n').2.1
            have x2 := fun n' => (xx n').2.2.1
            have x3 := fun n' => (xx n').2.2.2
            have BF := Lib.hid hbf
            clear hbf hcf xx
            go_wp2
            refine wp_region_fam Wf i0 h0f (by kernel_rfl) (by kernel_rfl) ?_
            clear h0f
            try dsimp only [List.append]
            repeat (go_big_quiet_step (first | exact rfl | (go_at_call 43; with_reducible exact C1.out _)))
            refine wpQuiet_nil ?_
            rintro _ ⟨nq, rfl⟩
            have HBp := Lib.hid (BF.out nq)
            clear x0 x1 x2 x3 C1 BF
            go_wp2
            go_roundw
            case rel => exact ⟨t, bv, by omega, by go_num, rfl, HN, Lib.hid (HX.out.below HBp.out HX.out.lt), Lib.hid (HO2.out.below HBp.out), Lib.hid (HW.out.trans (HBp.out.mono HW.out.size))⟩
            case measure => first | (simp [intOf]; done) | (simp [intOf]; omega)
          · rw [hq] at HC1
            have he := (of_decide_eq_true hq).2
            rcases HBS.out with ⟨rfl, hn⟩ | ⟨bs, rfl, hb1, hb2, hb3, hb4⟩
            · have HN := Lib.hid (Bst.first (S := S) (N := N) (r := r) (h := h) (.inl ⟨rfl, hn⟩) hts he)
              clear hq he hn HBS
              obtain ⟨I, Wf, i0, h0f, hbf, hcf⟩ := family wr
              have C1 := Lib.hid (fun n' => (HC1.out (Wf n') (hbf n')).mono fun e w2 h => (⟨h.1, hcf n' _ h.2⟩ : _ ∧ ∃ m, w2 = Wf m))
              have xx := fun n' => HSS.out (Wf n') (hbf n')
              have x0 := fun n' => (xx n').1
              have x1 := fun n' => (xx n').2.1
              have x2 := fun n' => (xx n').2.2.1
              have x3 := fun n' => (xx n').2.2.2
              have BF := Lib.hid hbf
              clear hbf hcf xx
              go_wp2
              refine wp_region_fam Wf i0 h0f (by kernel_rfl) (by kernel_rfl) ?_
              clear h0f
              try dsimp only [List.append]
              repeat (go_big_quiet_step (first | exact rfl | (go_at_call 43; with_reducible exact C1.out _)))
              refine wpQuiet_nil ?_
              rintro _ ⟨nq, rfl⟩
              have HBp := Lib.hid (BF.out nq)
              clear x0 x1 x2 x3 C1 BF
              go_wp2
              go_roundw
              case rel => exact ⟨t, (t : Int), by omega, by go_num, rfl, HN, Lib.hid (HX.out.below HBp.out HX.out.lt), Lib.hid (HO2.out.below HBp.out), Lib.hid (HW.out.trans (HBp.out.mono HW.out.size))⟩
              case measure => first | (simp [intOf]; done) | (simp [intOf]; omega)
            · have y4 : decide ((bs : Int) < 0) = false := by simp
              have HA2 := Lib.hid (fun u => away_any ((bs : Nat) : Int) h u (by omega) (by omega))
              have HYES := Lib.hid (fun q => HBS.out.better hts he q)
              have HNOT := Lib.hid (fun q => HBS.out.worse (bs := bs) q)
              clear hq he hb3 hb4 HBS
              generalize aw ((t : Nat) : Int) h = at1 at *
              generalize aw ((bs : Nat) : Int) h = ab at *
              by_cases g1 : at1 ≤ ab
              · have y5 : decide (at1 ≤ ab) = true := decide_eq_true g1
                have HN := Lib.hid (HYES.out g1)
                clear g1 HYES HNOT
                obtain ⟨I, Wf, i0, h0f, hbf, hcf⟩ := family wr
                have C1 := Lib.hid (fun n' => (HC1.out (Wf n') (hbf n')).mono fun e w2 h => (⟨h.1, hcf n' _ h.2⟩ : _ ∧ ∃ m, w2 = Wf m))
                have C2 := Lib.hid (fun n' => (HA1.out (Wf n')).mono fun e w2 h => (⟨h.1, n', h.2⟩ : _ ∧ ∃ m, w2 = Wf m))
                have C3 := Lib.hid (fun n' => (HA2.out (Wf n')).mono fun e w2 h => (⟨h.1, n', h.2⟩ : _ ∧ ∃ m, w2 = Wf m))
                have xx := fun n' => HSS.out (Wf n') (hbf n')
                have x0 := fun n' => (xx n').1
                have x1 := fun n' => (xx n').2.1
                have x2 := fun n' => (xx n').2.2.1
                have x3 := fun n' => (xx n').2.2.2
                have BF := Lib.hid hbf
                clear hbf hcf xx
                go_wp2
                refine wp_region_fam Wf i0 h0f (by kernel_rfl) (by kernel_rfl) ?_
                clear h0f
                try dsimp only [List.append]
                repeat (go_big_quiet_step (first | exact rfl | (go_at_call 43; with_reducible exact C1.out _) | (go_at_call 30; first | with_reducible exact C2.out _ | with_reducible exact C3.out _)))
                refine wpQuiet_nil ?_
                rintro _ ⟨nq, rfl⟩
                have HBp := Lib.hid (BF.out nq)
                clear x0 x1 x2 x3 C1 BF
                go_wp2
                go_roundw
                case rel => exact ⟨t, (t : Int), by omega, by go_num, rfl, HN, Lib.hid (HX.out.below HBp.out HX.out.lt), Lib.hid (HO2.out.below HBp.out), Lib.hid (HW.out.trans (HBp.out.mono HW.out.size))⟩
                case measure => first | (simp [intOf]; done) | (simp [intOf]; omega)
              · have y5 : decide (at1 ≤ ab) = false := decide_eq_false g1
                have HN := Lib.hid (HNOT.out g1)
                clear g1 HYES HNOT
                obtain ⟨I, Wf, i0, h0f, hbf, hcf⟩ := family wr
                have C1 := Lib.hid (fun n' => (HC1.out (Wf n') (hbf n')).mono fun e w2 h => (⟨h.1, hcf n' _ h.2⟩ : _ ∧ ∃ m, w2 = Wf m))
                have C2 := Lib.hid (fun n' => (HA1.out (Wf n')).mono fun e w2 h => (⟨h.1, n', h.2⟩ : _ ∧ ∃ m, w2 = Wf m))
                have C3 := Lib.hid (fun n' => (HA2.out (Wf n')).mono fun e w2 h => (⟨h.1, n', h.2⟩ : _ ∧ ∃ m, w2 = Wf m))
                have xx := fun n' => HSS.out (Wf n') (hbf n')
                have x0 := fun n' => (xx n').1
                have x1 := fun n' => (xx n').2.1
                have x2 := fun n' => (xx n').2.2.1
                have x3 := fun n' => (xx n').2.2.2
                have BF := Lib.hid hbf
                clear hbf hcf xx
                go_wp2
                refine wp_region_fam Wf i0 h0f (by kernel_rfl) (by kernel_rfl) ?_
                clear h0f
                try dsimp only [List.append]
                repeat (go_big_quiet_step (first | exact rfl | (go_at_call 43; with_reducible exact C1.out _) | (go_at_call 30; first | with_reducible exact C2.out _ | with_reducible exact C3.out _)))
                refine wpQuiet_nil ?_
                rintro _ ⟨nq, rfl⟩
                have HBp := Lib.hid (BF.out nq)
                clear x0 x1 x2 x3 C1 BF
                go_wp2
                go_roundw
                case rel => exact ⟨t, (bs : Int), by omega, by go_num, rfl, HN, Lib.hid (HX.out.below HBp.out HX.out.lt), Lib.hid (HO2.out.below HBp.out), Lib.hid (HW.out.trans (HBp.out.mono HW.out.size))⟩
                case measure => first | (simp [intOf]; done) | (simp [intOf]; omega)
    · obtain rfl : j = m := by omega
      have y1 : ¬ (j : Int) < (j : Int) := by omega
      obtain ⟨D', k', rfl, e1, e2⟩ := HO2.out.out
      have HH := Lib.hid (L2.Own.holds HO2.out)
      go_wp2
      refine bodyPost_ret (v := .tuple #[.slice D' j k', .int .i64 0]) (by simp [results, Try.results13, go_sem]) rfl ?_
      first | exact ⟨D', ⟨k', rfl⟩, HH.out, HW.out⟩ | exact ⟨D', k', rfl, HH.out, HW.out⟩
end Go.Proofs.Ythipdfkgeghooaa
