/- Layer 13 of the program: Part, IndexFunc over grids, lists of grids that a call makes. -/
import Derived.Test.YtngjcekjboedjaaKfp
namespace Go.Proofs.Ytngjcekjboedjaa
open Go.RowKit
set_option maxRecDepth 100000
set_option linter.unusedVariables false
set_option linter.unusedSimpArgs false

set_option maxHeartbeats 400000 in
theorem part_clo {w : World} {gb W H c : Nat} {A : Option Addr} {f : Nat → Bool} (h : Grid w gb W H A c f) {g1 g2 x0 y0 pw ph : Nat} (n1 : Num w g1 x0) (n2 : Num w g2 y0) (hx0 : x0 + pw ≤ W) (hy0 : y0 + ph ≤ H) :
    Gives 134 #[.pointer (some ⟨gb, 0, none⟩), .pointer (some ⟨g1, 0, none⟩), .pointer (some ⟨g2, 0, none⟩)] w pw ph (fun x y => f ((y0 + y) * W + (x0 + x))) := by
  intro w1 x y hb hx hy
  have h1 := h.below hb
  obtain ⟨q0, q1, q2, q3, q4, q5, q6⟩ := h1.box.all
  obtain ⟨w0, w1', h0, h1'⟩ : 1 ≤ W ∧ W ≤ 64 ∧ 1 ≤ H ∧ H ≤ 64 := ⟨h.w0, h.w1, h.h0, h.h1⟩
  obtain ⟨r1, r2⟩ := n1.below hb
  obtain ⟨r3, r4⟩ := n2.below hb
  have HC := Lib.hid (cell_nat W H A c ((x0 : Int) + (x : Int)) ((y0 : Int) + (y : Int)) f w1 h1.cells h.w1 h.h1 (x0 + x) (y0 + y) (by omega) (by omega) (by omega) (by omega))
  go_enter Try.func134, Try.ntmps134
  go_wp2_with (go_at_call 82; refine HC.out.mono ?_; rintro e w2 ⟨rfl, hb2⟩)
  go_ret
  exact ⟨rfl, hb2⟩
set_option maxHeartbeats 400000 in
theorem within_yes (s n size : Int) (w : World) (hs : size ≤ 64) (h0 : 0 ≤ s) (h1 : 1 ≤ n) (h2 : n ≤ size - s) :
    Calls Try.prog 133 #[.int .i64 s, .int .i64 n, .int .i64 size] w fun e w' => e = .returned (.bool true) ∧ w' = w := by
  go_enter Try.func133, Try.ntmps133
  go_wp2
  go_ret
  exact ⟨ret_bool (by first | rfl | (simp; omega)), rfl⟩
set_option maxHeartbeats 800000 in
theorem part_ok (W H : Nat) (A : Option Addr) (c : Nat) (x y pw ph : Nat) (w : World) (hW0 : 1 ≤ W) (hW : W ≤ 64) (hH0 : 1 ≤ H) (hH : H ≤ 64) (f : Nat → Bool) (hr : Holds w w.heap.size A (W * H) f) (h2 : 1 ≤ pw) (h3 : x + pw ≤ W) (h4 : 1 ≤ ph) (h5 : y + ph ≤ H) :
    Calls Try.prog 100 #[.agg #[.int .i64 W, .int .i64 H, .slice A (W * H) c], .int .i64 x, .int .i64 y, .int .i64 pw, .int .i64 ph] w (OkGrid w pw ph fun i => f ((y + i / pw) * W + (x + i % pw))) := by
  have hmf := mk_fn
  have HR := Lib.hid hr
  clear hr
  go_enter Try.func100, Try.ntmps100
  go_wp2_with fail
  refine (chk_valid A c _ hW0 hW hH0 hH).mono ?_
  rintro e w1 ⟨rfl, hb1⟩
  obtain ⟨hbox1, n1, n2, hbox2, hbel1, hsz1⟩ := after4 hb1
  clear hb1
  obtain ⟨q0, q1, q2, q3, q4, q5, q6⟩ := hbox1.all
  obtain ⟨r1, r2⟩ := n1
  obtain ⟨r3, r4⟩ := n2
  go_wp2_with fail
  refine (within_yes _ _ _ _ (by omega) (by omega) (by omega) (by omega)).mono ?_
  rintro e w1 ⟨rfl, rfl⟩
  go_wp2_with fail
  refine (within_yes _ _ _ _ (by omega) (by omega) (by omega) (by omega)).mono ?_
  rintro e w1 ⟨rfl, rfl⟩
  go_wp2_with fail
  refine (build_any pw ph h2 (by omega) h4 (by omega) 134 _ _ _ (part_clo ⟨hbox1, (HR.out.below hbel1).more hbel1.size, hW0, hW, hH0, hH⟩ ⟨r1, r2⟩ ⟨r3, r4⟩ h3 h5) (Go.Proofs.enters_of Try.func134 (by kernel_rfl) rfl)).mono ?_
  rintro e w2 ⟨k, rfl, hk, hrow, hb2⟩
  have hbox3 := hbox2.below hb2 (by omega)
  obtain ⟨p0, p1, p2, p3, p4, p5, p6⟩ := hbox3.all
  go_wp2
  refine bodyPost_ret (v := .tuple #[.agg #[.int .i64 pw, .int .i64 ph, .slice (some ⟨k, 0, none⟩) (pw * ph) (pw * ph)], .int .i64 0]) (by simp [results, Try.results100, go_sem, p0, p1, p2]) rfl ?_
  exact fin_ok (by omega) (by omega) (hrow.congr fun i hi => rfl) (hbel1.trans (hb2.mono hbel1.size))
/-- A function value of one grid answers Q i at the grid number i. -/
def GivesG (g : FuncId) (lb : Array Value) (w0 : World) (m : Nat) (G : Nat → GV) (Q : Nat → Bool) : Prop :=
  ∀ (w : World) (i : Nat), Below w0.heap.size w0 w → i < m → Calls Try.prog g (#[.agg #[.int .i64 (G i).W, .int .i64 (G i).H, .slice (G i).A (G i).n (G i).c]] ++ lb) w fun e w' => e = .returned (.bool (Q i)) ∧ Below w.heap.size w w'
/-- The first index, or -1. -/
def fx (Q : Nat → Bool) (m : Nat) : Int := if fst Q m < m then (fst Q m : Nat) else -1
theorem fx_hit {Q : Nat → Bool} {m k : Nat} (hk : k < m) (h0 : ∀ j, j < k → Q j = false) (h1 : Q k = true) : fx Q m = (k : Nat) := by
  unfold fx; rw [fst_uniq (Nat.le_of_lt hk) h0 (fun _ => h1), if_pos hk]
theorem fx_no {Q : Nat → Bool} {m : Nat} (h0 : ∀ j, j < m → Q j = false) : fx Q m = -1 := by
  unfold fx; rw [fst_uniq (Nat.le_refl m) h0 (fun h => absurd h (Nat.lt_irrefl m)), if_neg (Nat.lt_irrefl m)]
theorem indexg_any (D : Option Addr) (m c : Nat) (G : Nat → GV) (g : FuncId) (lb : Array Value) (Q : Nat → Bool) (w : World) (hm : m ≤ 30000) (hr : GLs w D m G) (hG : GivesG g lb w m G Q)
    (eg : ∀ args w, (callFunc g args).run Try.prog w = .ok (.enter g args) w) :
    Calls Try.prog 101 #[.slice D m c, .func (.func g) #[] lb] w fun e w' => e = .returned (.int .i64 (fx Q m)) ∧ Below w.heap.size w w' := by
  have HR := Lib.hid hr
  have HG := Lib.hid hG
  clear hr hG
  go_enter Try.func101, Try.ntmps101
  go_wp2
  go_loopw [8] (fun i wr => ∃ k : Nat, k ≤ m ∧ i = .int .i64 k ∧ Hid (∀ j, j < k → Q j = false) ∧ Hid (Below w.heap.size w wr)) (fun i _ => m - (intOf i).toNat)
  case atStart => exact ⟨0, Nat.zero_le _, rfl, Lib.hid (fun j h => by omega), Lib.hid (Below.refl _ _)⟩
  case round =>
    obtain ⟨k, hk, rfl, hall, hbel⟩ := hrel
    by_cases hlt : k < m
    · obtain ⟨b, o, e, hbl, hc⟩ := (HR.out.below hbel.out) (by omega)
      obtain ⟨c1, c2, c3, _⟩ := hc k hlt
      clear hc
      subst e
      have hbs := hbel.out.size
      have y1 : (0 : Int) ≤ (k : Int) := by omega
      have y2 : (k : Int) < (m : Int) := by omega
      have HGk := Lib.hid (HG.out wr k hbel.out hlt)
      generalize (G k).W = gw at *
      generalize (G k).H = gh at *
      generalize (G k).A = ga at *
      generalize (G k).n = gn at *
      generalize (G k).c = gc at *
      have HH := Lib.hid (fun (h : Q k = true) => fx_hit hlt hall.out h)
      have HS := Lib.hid (fun (h : Q k = false) j (hj : j < k + 1) => if e : j = k then (show Q j = false by rw [e]; exact h) else hall.out j (by omega))
      obtain ⟨q, hq⟩ : ∃ q, Q k = q := ⟨_, rfl⟩
      rw [hq] at HGk HH HS
      clear hq
      cases q
      · go_wp2_with (go_at_fn g; (with_reducible refine Calls.mono HGk.out ?_); rintro e w1 ⟨rfl, hb1⟩; have HB1 := Lib.hid (hbel.out.trans (hb1.mono hbel.out.size)); clear hb1)
        go_roundw
        case rel => exact ⟨k + 1, by omega, by go_num, Lib.hid (HS.out (by trivial)), HB1⟩
        case measure => simp [intOf]; omega
      · go_wp2_with (go_at_fn g; (with_reducible refine Calls.mono HGk.out ?_); rintro e w1 ⟨rfl, hb1⟩; have HB1 := Lib.hid (hbel.out.trans (hb1.mono hbel.out.size)); clear hb1)
        go_ret
        exact ⟨by rw [HH.out (by trivial)]; rfl, HB1.out⟩
    · have e : k = m := by omega
      subst e
      have E := Lib.hid (fx_no hall.out)
      go_wp2
      go_ret
      exact ⟨by rw [E.out]; rfl, hbel.out⟩
/-- The function value of Units: is a grid the part in the variable pb? -/
theorem units_clo {w0 : World} {m pb n d : Nat} {G : Nat → GV} {W H : Int} {D : Option Addr} {a : Nat → Bool} (hG : ∀ u, Below w0.heap.size w0 u → ∀ i, i < m → Holds u u.heap.size (G i).A (G i).n (G i).f) (hn : ∀ i, i < m → (G i).n ≤ 5000) (hx : Box w0 pb W H (.slice D n d)) (ha : Holds w0 w0.heap.size D n a) :
    GivesG 102 #[.pointer (some ⟨pb, 0, none⟩)] w0 m G (fun i => decide ((G i).W = W ∧ (G i).H = H ∧ (G i).n = n ∧ ∀ j, j < (G i).n → (G i).f j = a j)) := by
  intro w i hb hi
  have h1 := hG w hb i hi
  have h2 := hn i hi
  have X := hx.below hb hx.lt
  have HS := Lib.hid (fun u (hu : Below w.heap.size w u) => same_any (G i).W (G i).H W H (G i).A D (G i).n n (G i).c d (G i).f a u h2 ((h1.below hu).more hu.size) (((ha.below hb).more hb.size |>.below hu).more hu.size))
  have hb2 := bel_alloc w (.cells #[.int .i64 (G i).W, .int .i64 (G i).H, .slice (G i).A (G i).n (G i).c] 24)
  have LB := Lib.hid hb2
  have X2 := Lib.hid (X.below hb2 X.lt)
  have Y := Lib.hid (Box.new w (G i).W (G i).H (.slice (G i).A (G i).n (G i).c))
  obtain ⟨q0, q1, q2, q3, q4, q5, q6⟩ := X2.out.all
  obtain ⟨r0, r1, r2, r3, r4, r5, r6⟩ := Y.out.all
  clear h1 h2 hb2 X hb
  show Calls Try.prog 102 _ w fun e w' => e = .returned (.bool (decide ((G i).W = W ∧ (G i).H = H ∧ (G i).n = n ∧ ∀ j, j < (G i).n → (G i).f j = a j))) ∧ Below w.heap.size w w'
  generalize decide ((G i).W = W ∧ (G i).H = H ∧ (G i).n = n ∧ ∀ j, j < (G i).n → (G i).f j = a j) = bq at *
  generalize (G i).W = gw at *
  generalize (G i).H = gh at *
  generalize (G i).A = ga at *
  generalize (G i).n = gn at *
  generalize (G i).c = gc at *
  go_enter Try.func102, Try.ntmps102
  go_wp2_with fail
  with_reducible refine Calls.mono (HS.out _ LB.out) ?_
  rintro e w1 ⟨rfl, hb1⟩
  have LB1 := Lib.hid (LB.out.trans (hb1.mono LB.out.size))
  clear hb1
  go_wp2
  go_ret
  exact ⟨rfl, LB1.out⟩
end Go.Proofs.Ytngjcekjboedjaa
