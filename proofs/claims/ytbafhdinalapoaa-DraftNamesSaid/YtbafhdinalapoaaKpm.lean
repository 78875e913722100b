/- DraftKept: what pruning and renumbering keep. -/
import Derived.Test.YtbafhdinalapoaaPrn
import Derived.Test.YtbafhdinalapoaaRnw
import Derived.Test.YtbafhdinalapoaaFa
namespace Go.Proofs.Ytbafhdinalapoaa
open Go.RowKit
set_option linter.unusedVariables false
set_option linter.unusedSimpArgs false
set_option maxRecDepth 100000

open L2 (plc fst nd ren fst_at)
theorem kc_whole {f : Nat → Int} {m N : Nat} (h : ∀ v : Nat, v < N → fst f v m < m) : kc f m N = N ∧ ∀ k, k < N → kf f m N k = k := by
  induction N with
  | zero => exact ⟨rfl, fun k hk => absurd hk (Nat.not_lt_zero _)⟩
  | succ N ih =>
    obtain ⟨h1, h2⟩ := ih fun v hv => h v (by omega)
    have e1 : kc f m (N + 1) = kc f m N + if fst f N m < m then 1 else 0 := rfl
    refine ⟨by rw [e1, if_pos (h N (by omega)), h1], fun k hk => ?_⟩
    have e2 : kf f m (N + 1) k = if k = kc f m N then (N : Int) else kf f m N k := rfl
    rw [e2, h1]
    by_cases e : k = N
    · rw [if_pos e, e]
    · rw [if_neg e]; exact h2 k (by omega)
theorem kf_inj {f : Nat → Int} {m N i j : Nat} (hi : i < kc f m N) (hj : j < kc f m N) (e : kf f m N i = kf f m N j) : i = j := by
  have hp := List.pairwise_iff_getElem.1 (kl_props f m N).1
  have hl := kl_len f m N
  have gi : (kl f m N)[i]'(by omega) = kf f m N i := by have := kl_get f m N i hi; rw [List.getElem?_eq_getElem (by omega)] at this; injection this
  have gj : (kl f m N)[j]'(by omega) = kf f m N j := by have := kl_get f m N j hj; rw [List.getElem?_eq_getElem (by omega)] at this; injection this
  rcases Nat.lt_trichotomy i j with h | h | h
  · have := hp i j (by omega) (by omega) h; omega
  · exact h
  · have := hp j i (by omega) (by omega) h; omega
/-- All shafts and treadles are used. -/
structure PD.Whole (Q : PD) : Prop where
  f : ∀ s, s < Q.S → ∃ i, i < Q.n ∧ Q.F i = s
  g : ∀ t, t < Q.T → ∃ i, i < Q.m ∧ Q.G i = t
theorem prune_whole {P : PD} (hP : P.Ok) : P.prune.Whole := by
  constructor
  · intro s hs
    obtain ⟨v, hv, e, h⟩ := kf_spec (f := P.thr) (m := P.n) (N := P.S) hs
    have h2 := fst_at P.thr v P.n h
    have h3 : P.F (fst P.thr v P.n) = v := by have : ((P.F (fst P.thr v P.n) : Nat) : Int) = v := h2; omega
    refine ⟨fst P.thr v P.n, h, ?_⟩
    obtain ⟨j, e1, hj, e2⟩ := plc_nat ((prune_arr hP).f _ h)
    show (plc _ _ _).toNat = s
    rw [e1]
    show j = s
    refine kf_inj (f := P.thr) (m := P.n) (N := P.S) hj hs ?_
    obtain ⟨v', _, e', _⟩ := kf_spec (f := P.thr) (m := P.n) (N := P.S) hj
    have e3 : (kf P.thr P.n P.S j).toNat = P.F (fst P.thr v P.n) := e2
    rw [h3, e'] at e3
    rw [e', e]
    have : v' = v := by simpa using e3
    rw [this]
  · intro t ht
    obtain ⟨v, hv, e, h⟩ := kf_spec (f := P.trd) (m := P.m) (N := P.T) ht
    have h2 := fst_at P.trd v P.m h
    have h3 : P.G (fst P.trd v P.m) = v := by have : ((P.G (fst P.trd v P.m) : Nat) : Int) = v := h2; omega
    refine ⟨fst P.trd v P.m, h, ?_⟩
    obtain ⟨j, e1, hj, e2⟩ := plc_nat ((prune_arr hP).g _ h)
    show (plc _ _ _).toNat = t
    rw [e1]
    show j = t
    refine kf_inj (f := P.trd) (m := P.m) (N := P.T) hj ht ?_
    obtain ⟨v', _, e', _⟩ := kf_spec (f := P.trd) (m := P.m) (N := P.T) hj
    have e3 : (kf P.trd P.m P.T j).toNat = P.G (fst P.trd v P.m) := e2
    rw [h3, e'] at e3
    rw [e', e]
    have : v' = v := by simpa using e3
    rw [this]
theorem plc_id {N x : Nat} {u : Nat → Nat} (hu : ∀ k, k < N → u k = k) (hx : x < N) : plc (fun k => (u k : Nat)) (x : Int) N = (x : Nat) := by
  obtain ⟨j, e, hj, e2⟩ := plc_nat (u := u) ⟨x, hx, hu x hx⟩
  rw [e]
  rw [hu j hj] at e2
  rw [e2]
/-- A draft that uses all is its own pruned draft. -/
theorem prune_same {Q : PD} (hQ : Q.Ok) (h : Q.Whole) : Q.prune.Eqv Q := by
  have k1 := kc_whole (f := Q.thr) (m := Q.n) (N := Q.S) fun v hv => by
    obtain ⟨i, hi, e⟩ := h.f v hv
    exact fst_lt_of hi (by show ((Q.F i : Nat) : Int) = _; rw [e])
  have k2 := kc_whole (f := Q.trd) (m := Q.m) (N := Q.T) fun v hv => by
    obtain ⟨i, hi, e⟩ := h.g v hv
    exact fst_lt_of hi (by show ((Q.G i : Nat) : Int) = _; rw [e])
  have hu : ∀ k, k < Q.S → Q.us k = k := fun k hk => by show (kf _ _ _ _).toNat = _; rw [k1.2 k hk]; rfl
  have hv : ∀ k, k < Q.T → Q.vs k = k := fun k hk => by show (kf _ _ _ _).toNat = _; rw [k2.2 k hk]; rfl
  refine ⟨k1.1, k2.1, rfl, rfl, fun i hi => ?_, fun i hi => ?_, fun t s ht hs => ?_⟩
  · show (plc (fun k => (Q.us k : Nat)) (Q.F i : Nat) (kc Q.thr Q.n Q.S)).toNat = Q.F i
    rw [k1.1, plc_id hu (hQ.f i hi)]; rfl
  · show (plc (fun k => (Q.vs k : Nat)) (Q.G i : Nat) (kc Q.trd Q.m Q.T)).toNat = Q.G i
    rw [k2.1, plc_id hv (hQ.g i hi)]; rfl
  · have ht' : t < Q.T := by have := k2.1; change t < kc Q.trd Q.m Q.T at ht; omega
    have hs' : s < Q.S := by have := k1.1; change s < kc Q.thr Q.n Q.S at hs; omega
    show Q.L (Q.vs t) (Q.us s) = Q.L t s
    rw [hu s hs', hv t ht']
theorem cnt_whole {d : Nat → Nat} {m : Nat} : ∀ T, (∀ t, t < T → ∃ j, j < m ∧ d j = t) → cnt d m T = T
  | 0, _ => rfl
  | T + 1, h => by
    have h1 : cnt d m (T + 1) = cnt d m T + if decide (∃ j, j < m ∧ d j = T) then 1 else 0 := rfl
    rw [h1, cnt_whole T fun t ht => h t (by omega), if_pos (by simpa using h T (by omega))]
theorem whole_nd {Q : PD} (hQ : Q.Ok) (h : Q.Whole) : nd (fun i => (Q.F i : Nat)) Q.n = Q.S ∧ nd (fun i => (Q.G i : Nat)) Q.m = Q.T :=
  ⟨by rw [nd_cnt Q.F Q.n Q.S hQ.f, cnt_whole _ h.f], by rw [nd_cnt Q.G Q.m Q.T hQ.g, cnt_whole _ h.g]⟩
theorem rnm_ok {P : PD} (hP : P.Ok) {a b : Nat → Int} (ha : prm P.S a P.S = true) (hb : prm P.T b P.T = true) : (P.rnm a b).Ok := by
  refine ⟨hP.s0, hP.s1, hP.t0, hP.t1, hP.n0, hP.n1, hP.m0, hP.m1, fun i hi => ?_, fun i hi => ?_⟩
  · have := prm_in ha (hP.f i hi)
    show (a (P.F i)).toNat < P.S
    omega
  · have := prm_in hb (hP.g i hi)
    show (b (P.G i)).toNat < P.T
    omega
theorem rnm_weave {P : PD} (hP : P.Ok) {a b : Nat → Int} (ha : prm P.S a P.S = true) (hb : prm P.T b P.T = true) {x y : Nat} (hx : x < P.n) (hy : y < P.m) :
    (P.rnm a b).L ((P.rnm a b).G y) ((P.rnm a b).F x) = P.L (P.G y) (P.F x) := by
  have h1 := prm_in ha (hP.f x hx)
  have h2 := prm_in hb (hP.g y hy)
  show P.L (plc b ((b (P.G y)).toNat : Nat) P.T).toNat (plc a ((a (P.F x)).toNat : Nat) P.S).toNat = _
  rw [Int.toNat_of_nonneg h1.1, Int.toNat_of_nonneg h2.1, prm_plc ha (hP.f x hx), prm_plc hb (hP.g y hy)]
  rfl
theorem rnm_back {P : PD} (hP : P.Ok) {a b : Nat → Int} (ha : prm P.S a P.S = true) (hb : prm P.T b P.T = true) :
    ((P.rnm a b).rnm (fun v => plc a (v : Nat) P.S) (fun v => plc b (v : Nat) P.T)).Eqv P := by
  refine ⟨rfl, rfl, rfl, rfl, fun i hi => ?_, fun i hi => ?_, fun t s ht hs => ?_⟩
  · have h1 := prm_in ha (hP.f i hi)
    show (plc a (((a (P.F i)).toNat : Nat) : Int) P.S).toNat = P.F i
    rw [Int.toNat_of_nonneg h1.1, prm_plc ha (hP.f i hi)]; rfl
  · have h1 := prm_in hb (hP.g i hi)
    show (plc b (((b (P.G i)).toNat : Nat) : Int) P.T).toNat = P.G i
    rw [Int.toNat_of_nonneg h1.1, prm_plc hb (hP.g i hi)]; rfl
  · have hs' : s < P.S := hs
    have ht' : t < P.T := ht
    have h1 := prm_in ha hs'
    have h2 := prm_in hb ht'
    show P.L (plc b (((plc (fun v : Nat => plc b (v : Nat) P.T) (t : Nat) P.T).toNat : Nat) : Int) P.T).toNat (plc a (((plc (fun v : Nat => plc a (v : Nat) P.S) (s : Nat) P.S).toNat : Nat) : Int) P.S).toNat = P.L t s
    rw [prm_back ha hs', prm_back hb ht', Int.toNat_of_nonneg h1.1, Int.toNat_of_nonneg h2.1, prm_plc ha hs', prm_plc hb ht']
    rfl
/-- The drawdown. -/
def PD.wv (P : PD) (i : Nat) : Bool := P.L (P.G (i / P.n)) (P.F (i % P.n))
theorem prune_wv {P : PD} (hP : P.Ok) {i : Nat} (hi : i < P.n * P.m) : P.prune.wv i = P.wv i :=
  (prune_arr hP).weave (Nat.mod_lt _ (show 0 < P.n by have := hP.n0; omega)) (Nat.div_lt_of_lt_mul hi)
theorem rnm_wv {P : PD} (hP : P.Ok) {a b : Nat → Int} (ha : prm P.S a P.S = true) (hb : prm P.T b P.T = true) {i : Nat} (hi : i < P.n * P.m) : (P.rnm a b).wv i = P.wv i :=
  rnm_weave hP ha hb (Nat.mod_lt _ (show 0 < P.n by have := hP.n0; omega)) (Nat.div_lt_of_lt_mul hi)
theorem prune1 {D : Dr} {P Q : PD} (hI : D.Is P) (hP : P.Ok) (hQ : P.prune = Q) (w : World) (hd : D.In w w.heap.size) :
    Calls Try.prog 15 #[.agg #[.int .i64 D.S, .int .i64 D.T, .slice D.A D.n D.c, .slice D.B D.m D.d, .int .i64 D.W, .int .i64 D.H, .slice D.C D.k D.e]] w fun e w' => ∃ a ca b cb c cc, e = .returned (.tuple #[.agg #[.int .i64 Q.S, .int .i64 Q.T, .slice (some ⟨a, 0, none⟩) Q.n ca, .slice (some ⟨b, 0, none⟩) Q.m cb, .int .i64 Q.T, .int .i64 Q.S, .slice (some ⟨c, 0, none⟩) (Q.T * Q.S) cc], .int .i64 0]) ∧ (Q.dr a ca b cb c cc).In w' w'.heap.size ∧ Below w.heap.size w w' := by
  subst hQ
  exact (prune_ok hI hP w hd).mono fun e w' ⟨a, ca, b, cb, c, cc, he, hr, hb⟩ => ⟨a, ca, b, cb, c, cc, he, hr.dr ca cb cc, hb⟩
theorem prune2 {P Q : PD} (hP : P.Ok) (hQ : P.prune = Q) (a2 ca2 b2 cb2 c2 cc2 : Nat) (w : World) (hd : (P.dr a2 ca2 b2 cb2 c2 cc2).In w w.heap.size) :
    Calls Try.prog 15 #[.agg #[.int .i64 P.S, .int .i64 P.T, .slice (some ⟨a2, 0, none⟩) P.n ca2, .slice (some ⟨b2, 0, none⟩) P.m cb2, .int .i64 P.T, .int .i64 P.S, .slice (some ⟨c2, 0, none⟩) (P.T * P.S) cc2]] w fun e w' => ∃ a ca b cb c cc, e = .returned (.tuple #[.agg #[.int .i64 Q.S, .int .i64 Q.T, .slice (some ⟨a, 0, none⟩) Q.n ca, .slice (some ⟨b, 0, none⟩) Q.m cb, .int .i64 Q.T, .int .i64 Q.S, .slice (some ⟨c, 0, none⟩) (Q.T * Q.S) cc], .int .i64 0]) ∧ (Q.dr a ca b cb c cc).In w' w'.heap.size ∧ Below w.heap.size w w' :=
  prune1 (P.dr_is a2 ca2 b2 cb2 c2 cc2) hP hQ w hd
theorem weaveQ {P Q : PD} (hQ : Q.Ok) (hn : Q.n = P.n) (hm : Q.m = P.m) (hW : ∀ i, i < P.n * P.m → Q.wv i = P.wv i) (a ca b cb c cc : Nat) (w : World) (hd : (Q.dr a ca b cb c cc).In w w.heap.size) :
    Calls Try.prog 14 #[.agg #[.int .i64 Q.S, .int .i64 Q.T, .slice (some ⟨a, 0, none⟩) Q.n ca, .slice (some ⟨b, 0, none⟩) Q.m cb, .int .i64 Q.T, .int .i64 Q.S, .slice (some ⟨c, 0, none⟩) (Q.T * Q.S) cc]] w (OkGrid w P.n P.m P.wv) := by
  refine (weave_ok (Q.dr_is a ca b cb c cc) hQ w hd).mono fun e w' ⟨k, he, hk, hr, hb⟩ => ?_
  rw [hn, hm] at he hr
  exact ⟨k, he, hk, hr.congr fun i hi => by rw [← hW i hi]; unfold PD.wv; rw [hn], hb⟩
theorem weaveD {D : Dr} {P : PD} (hI : D.Is P) (hP : P.Ok) (w : World) (hd : D.In w w.heap.size) : Calls Try.prog 14 #[.agg #[.int .i64 D.S, .int .i64 D.T, .slice D.A D.n D.c, .slice D.B D.m D.d, .int .i64 D.W, .int .i64 D.H, .slice D.C D.k D.e]] w (OkGrid w P.n P.m P.wv) := weave_ok hI hP w hd
theorem rdsame_eqv {P Q : PD} (hP : P.Ok) (hQ : Q.Ok) (h : P.Eqv Q) (a ca b cb c cc a2 ca2 b2 cb2 c2 cc2 : Nat) (w : World) (h1 : (P.dr a2 ca2 b2 cb2 c2 cc2).In w w.heap.size) (h2 : (Q.dr a ca b cb c cc).In w w.heap.size) :
    Calls Try.prog 30 #[.agg #[.int .i64 P.S, .int .i64 P.T, .slice (some ⟨a2, 0, none⟩) P.n ca2, .slice (some ⟨b2, 0, none⟩) P.m cb2, .int .i64 P.T, .int .i64 P.S, .slice (some ⟨c2, 0, none⟩) (P.T * P.S) cc2], .agg #[.int .i64 Q.S, .int .i64 Q.T, .slice (some ⟨a, 0, none⟩) Q.n ca, .slice (some ⟨b, 0, none⟩) Q.m cb, .int .i64 Q.T, .int .i64 Q.S, .slice (some ⟨c, 0, none⟩) (Q.T * Q.S) cc]] w fun e w' => e = .returned (.bool true) ∧ Below w.heap.size w w' := by
  have h' := rdsame_any (P.dr a2 ca2 b2 cb2 c2 cc2) (Q.dr a ca b cb c cc) w ((P.dr_is a2 ca2 b2 cb2 c2 cc2).small hP) h1 h2
  have e : dsm (P.dr a2 ca2 b2 cb2 c2 cc2) (Q.dr a ca b cb c cc) = true := (dsm_is (P.dr_is _ _ _ _ _ _) (Q.dr_is _ _ _ _ _ _) hP).2 h
  rw [e] at h'
  exact h'
theorem rdsame_eqD {D : Dr} {P Q : PD} (hI : D.Is P) (hP : P.Ok) (hQ : Q.Ok) (h : Q.Eqv P) (a ca b cb c cc : Nat) (w : World) (h1 : (Q.dr a ca b cb c cc).In w w.heap.size) (h2 : D.In w w.heap.size) :
    Calls Try.prog 30 #[.agg #[.int .i64 Q.S, .int .i64 Q.T, .slice (some ⟨a, 0, none⟩) Q.n ca, .slice (some ⟨b, 0, none⟩) Q.m cb, .int .i64 Q.T, .int .i64 Q.S, .slice (some ⟨c, 0, none⟩) (Q.T * Q.S) cc], .agg #[.int .i64 D.S, .int .i64 D.T, .slice D.A D.n D.c, .slice D.B D.m D.d, .int .i64 D.W, .int .i64 D.H, .slice D.C D.k D.e]] w fun e w' => e = .returned (.bool true) ∧ Below w.heap.size w w' := by
  have h' := rdsame_any (Q.dr a ca b cb c cc) D w ((Q.dr_is a ca b cb c cc).small hQ) h1 h2
  have e : dsm (Q.dr a ca b cb c cc) D = true := (dsm_is (Q.dr_is _ _ _ _ _ _) hI hQ).2 h
  rw [e] at h'
  exact h'
theorem numbT {Q : PD} (hQ : Q.Ok) (h : Q.Whole) (a ca b cb c cc : Nat) (w : World) (h1 : (Q.dr a ca b cb c cc).In w w.heap.size) :
    Calls Try.prog 39 #[.slice (some ⟨a, 0, none⟩) Q.n ca] w fun e w' => ∃ A' c', e = .returned (.tuple #[.slice A' Q.n c', .int .i64 Q.S]) ∧ Below w.heap.size w w' :=
  (L2.numbered_any (some ⟨a, 0, none⟩) Q.n ca (fun i => (Q.F i : Nat)) w (by have := hQ.n1; omega) h1.th).mono fun e w' ⟨A', c', he, _, _, hb⟩ => ⟨A', c', by rw [he, (whole_nd hQ h).1], hb⟩
theorem numbR {Q : PD} (hQ : Q.Ok) (h : Q.Whole) (a ca b cb c cc : Nat) (w : World) (h1 : (Q.dr a ca b cb c cc).In w w.heap.size) :
    Calls Try.prog 39 #[.slice (some ⟨b, 0, none⟩) Q.m cb] w fun e w' => ∃ A' c', e = .returned (.tuple #[.slice A' Q.m c', .int .i64 Q.T]) ∧ Below w.heap.size w w' :=
  (L2.numbered_any (some ⟨b, 0, none⟩) Q.m cb (fun i => (Q.G i : Nat)) w (by have := hQ.m1; omega) h1.tr).mono fun e w' ⟨A', c', he, _, _, hb⟩ => ⟨A', c', by rw [he, (whole_nd hQ h).2], hb⟩
theorem ren1 {D : Dr} {P N : PD} (hI : D.Is P) (hP : P.Ok) {a b : Nat → Int} (hN : P.rnm a b = N) (A1 A2 : Option Addr) (n1 n2 c1 c2 : Nat) (ha : prm n1 a P.S = true) (hb : prm n2 b P.T = true) (w : World) (hd : D.In w w.heap.size) (h1 : L2.Holds w w.heap.size A1 n1 a) (h2 : L2.Holds w w.heap.size A2 n2 b) :
    Calls Try.prog 16 #[.agg #[.int .i64 D.S, .int .i64 D.T, .slice D.A D.n D.c, .slice D.B D.m D.d, .int .i64 D.W, .int .i64 D.H, .slice D.C D.k D.e], .slice A1 n1 c1, .slice A2 n2 c2] w fun e w' => ∃ a ca b cb c cc, e = .returned (.tuple #[.agg #[.int .i64 N.S, .int .i64 N.T, .slice (some ⟨a, 0, none⟩) N.n ca, .slice (some ⟨b, 0, none⟩) N.m cb, .int .i64 N.T, .int .i64 N.S, .slice (some ⟨c, 0, none⟩) (N.T * N.S) cc], .int .i64 0]) ∧ (N.dr a ca b cb c cc).In w' w'.heap.size ∧ Below w.heap.size w w' := by
  subst hN
  exact (renumber_ok hI hP A1 A2 n1 n2 c1 c2 a b ha hb w hd h1 h2).mono fun e w' ⟨a, ca, b, cb, c, cc, he, hr, hb⟩ => ⟨a, ca, b, cb, c, cc, he, hr.dr ca cb cc, hb⟩
theorem ren2 {P N : PD} (hP : P.Ok) {a b : Nat → Int} (hN : P.rnm a b = N) (a2 ca2 b2 cb2 c2 cc2 : Nat) (A1 A2 : Option Addr) (n1 n2 d1 d2 : Nat) (ha : prm n1 a P.S = true) (hb : prm n2 b P.T = true) (w : World) (hd : (P.dr a2 ca2 b2 cb2 c2 cc2).In w w.heap.size) (h1 : L2.Holds w w.heap.size A1 n1 a) (h2 : L2.Holds w w.heap.size A2 n2 b) :
    Calls Try.prog 16 #[.agg #[.int .i64 P.S, .int .i64 P.T, .slice (some ⟨a2, 0, none⟩) P.n ca2, .slice (some ⟨b2, 0, none⟩) P.m cb2, .int .i64 P.T, .int .i64 P.S, .slice (some ⟨c2, 0, none⟩) (P.T * P.S) cc2], .slice A1 n1 d1, .slice A2 n2 d2] w fun e w' => ∃ a ca b cb c cc, e = .returned (.tuple #[.agg #[.int .i64 N.S, .int .i64 N.T, .slice (some ⟨a, 0, none⟩) N.n ca, .slice (some ⟨b, 0, none⟩) N.m cb, .int .i64 N.T, .int .i64 N.S, .slice (some ⟨c, 0, none⟩) (N.T * N.S) cc], .int .i64 0]) ∧ (N.dr a ca b cb c cc).In w' w'.heap.size ∧ Below w.heap.size w w' :=
  ren1 (P.dr_is a2 ca2 b2 cb2 c2 cc2) hP hN A1 A2 n1 n2 d1 d2 ha hb w hd h1 h2
end Go.Proofs.Ytbafhdinalapoaa
