/- choicesAt and Choices of the program. -/
import Derived.Test.YtmcdfnhpaneanaaPfi
import Derived.Deep.RegionHeld3
namespace Go.Proofs.Ytmcdfnhpaneanaa
open Go.RowKit
set_option maxRecDepth 100000
set_option linter.unusedVariables false
set_option linter.unusedSimpArgs false

theorem FolR.one {W H : Nat} {f K : Nat → Int} {t : Nat} {c : Int} {w w' : World} {e : Ending} (h : FolR W H f K t c w e w') :
    ∃ A n c' bv, e = .returned (.tuple #[.slice A n c', .bool bv]) ∧ ((bv = true ∧ ∃ k, Fol W H f K t c k) ∨ (bv = false ∧ NoFol W H f K t c)) ∧ Below w.heap.size w w' := by
  rcases h with ⟨k, kb, kc, rfl, h1, _, h2, _⟩ | ⟨rfl, h1, h2⟩
  · exact ⟨_, _, _, true, rfl, .inl ⟨rfl, k, h1⟩, h2⟩
  · exact ⟨_, _, _, false, rfl, .inr ⟨rfl, h1⟩, h2⟩
/-- A list came back. -/
def LisR (l : List Nat) (w : World) (e : Ending) (w' : World) : Prop :=
  ∃ A c, e = .returned (.slice A l.length c) ∧ (0 < l.length → ∃ k, A = some ⟨k, 0, none⟩ ∧ L2.Row w' k l.length (lf l)) ∧ Below w.heap.size w w'
theorem own_app {w : World} {base : Nat} {v : Value} {l : List Nat} (h : L2.Own w base v l.length (lf l)) (x : Nat) : L2.Own w base v l.length (lf (l ++ [x])) := h.congr fun i hi => lf_app hi
set_option maxHeartbeats 1600000 in
theorem chat_any (W H : Nat) (A : Option Addr) (c : Nat) (f p : Nat → Int) (t : Nat) (w : World) (hW0 : 1 ≤ W) (hW : W ≤ 64) (hH0 : 1 ≤ H) (hH : H ≤ 64) (hf : L2.Holds w w.heap.size A (W * H) f)
    (hp : Pos W H f) (ht : t < W + H) (hs : Fst W H f p) :
    Calls Try.prog 61 #[.agg #[.int .i64 (W : Nat), .int .i64 (H : Nat), .slice A (W * H) c], .int .i64 (t : Nat)] w (LisR (chl W H f t 16) w) := by
  have HN := Lib.hid (fun u => none_any W H A (W * H) c u hW0 hW hH0 hH)
  have HF := Lib.hid (fun u (hb : Below w.heap.size w u) B (hB : L2.Holds u u.heap.size B (W + H) non) (kc d : Nat) (hd : d ≤ 15) => (follow_h W H A B c kc f non t (d : Nat) u hW0 hW hH0 hH ((hf.below hb).more hb.size) hp hB ht rfl (by omega) (by omega) non_closed non_rng).mono fun e w' h => h.one)
  have HY := Lib.hid (fun d (h : ∃ k, Fol W H f non t (d : Nat) k) => chl_yes (cho_yes (c := d) (by obtain ⟨k, hk⟩ := h; exact hk.cho hp ht (by omega) hs)))
  have HZ := Lib.hid (fun d (h : NoFol W H f non t (d : Nat)) => chl_no (cho_no (c := d) h.cho))
  have HLE := Lib.hid (fun n => chl_len (W := W) (H := H) (f := f) (t := t) n)
  clear hf hp hs
  have LB0 := Lib.hid (Below.refl w.heap.size w)
  have X1 := IBox.new w (W : Nat) (H : Nat) (.slice A (W * H) c)
  have X1 := Lib.hid X1
  have LB0 := Lib.hid (LB0.out.alloc LB0.out.size (.cells #[.int .i64 (W : Nat), .int .i64 (H : Nat), .slice A (W * H) c] 24))
  go_enter Try.func61, Try.ntmps61
  go_upto_region 1 with (fail)
  generalize w.alloc (.cells #[.int .i64 (W : Nat), .int .i64 (H : Nat), .slice A (W * H) c] 24) = w0 at *
  have hsz0 : w.heap.size + 1 ≤ w0.heap.size := X1.out.lt
  have HO0 := Lib.hid (show L2.Own w0 (w.heap.size + 1) (.slice none 0 0) (chl W H f t 0).length (lf (chl W H f t 0)) from L2.Own.nil _ _ _)
  go_wp2
  go_loopw [5, 9] (fun vo i wr => ∃ (d : Nat), d ≤ 16 ∧ i = .int .i64 (d : Nat) ∧ Hid (L2.Own wr (w.heap.size + 1) vo (chl W H f t d).length (lf (chl W H f t d))) ∧ Hid (IBox wr w.heap.size (W : Nat) (H : Nat) (.slice A (W * H) c)) ∧ Hid (Below w.heap.size w wr)) (fun _ i _ => 16 - (intOf i).toNat)
  case atStart => exact ⟨0, by omega, rfl, HO0, X1, LB0⟩
  case round =>
    obtain ⟨d, hd, rfl, HO, HX, HB⟩ := hrel
    clear X1 LB0 HO0
    by_cases hlt : d < 16
    · have y1 : (d : Int) < 16 := by omega
      have HL := Lib.hid (fun u (h : Below wr.heap.size wr u) => (HX.out.below h HX.out.lt).all)
      have HC := Lib.hid (fun u B kc (hb : Below wr.heap.size wr u) (hB : L2.Holds u u.heap.size B (W + H) non) => HF.out u (HB.out.trans (hb.mono HB.out.size)) B hB kc d (by omega))
      obtain ⟨vo, hvo⟩ : ∃ z, u5 = z := ⟨_, rfl⟩
      subst hvo
      obtain ⟨q0, q1, q2, q3, q4, q5, q6⟩ := HX.out.all
      go_wp2
      clear q0 q1 q2 q3 q4 q5 q6
      go_region_held3 (fun u => u.cell? ⟨w.heap.size, 0, none⟩ = some (.int .i64 (W : Nat)) ∧ u.cell? ⟨w.heap.size, 1, none⟩ = some (.int .i64 (H : Nat)) ∧ u.cell? ⟨w.heap.size, 2, none⟩ = some (.slice A (W * H) c))
        (exact (fun h => ⟨h.1, h.2.1, h.2.2.1⟩) (HL.out _ (by first | assumption | exact (Below.refl _ _).drew)))
        (first
          | (go_at_call 55
             with_reducible refine Calls.mono (HN.out _) ?_
             rintro e ua ⟨kn, rfl, hrow, hba⟩
             have hxa : Below wr.heap.size wr ua := (show Below wr.heap.size wr _ from by first | assumption | exact (Below.refl _ _).drew).trans (hba.mono (show Below wr.heap.size wr _ from by first | assumption | exact (Below.refl _ _).drew).size)
             have HRA := Lib.hid hrow)
          | (go_at_call 81
             with_reducible refine Calls.mono (HC.out _ _ _ (by assumption) (HRA.out.holds HRA.out.lt)) ?_
             rintro e ub ⟨An, nn, cn, bv, rfl, hout, hbb⟩
             have hxb : Below wr.heap.size wr ub := (show Below wr.heap.size wr _ from by assumption).trans (hbb.mono (show Below wr.heap.size wr _ from by assumption).size)
             have HOUT := Lib.hid hout))
      have HX5 := Lib.hid (HX.out.below hxb HX.out.lt)
      have HB5 := Lib.hid (HB.out.trans (hxb.mono HB.out.size))
      have HO5 := Lib.hid (HO.out.below hxb)
      clear hba hxa hbb hxb HRA HL HC HX HB HO hrow hout
      rcases HOUT.out with ⟨rfl, hy⟩ | ⟨rfl, hn⟩
      · have HE := Lib.hid (HY.out d hy)
        have HW := Lib.hid (own_app HO5.out d)
        have hlen := HLE.out d
        have HLF := Lib.hid (lf_last (chl W H f t d) d)
        have hsz5 : w.heap.size + 1 ≤ ub.heap.size := HX5.out.lt
        clear hy HOUT HO5
        obtain ⟨n0, hn0⟩ : ∃ z, (chl W H f t d).length = z := ⟨_, rfl⟩
        rw [hn0] at HW hlen HLF
        have HN0 := Lib.hid hn0
        clear hn0
        go_wp2_with (at_builtin; refine L2.app1 _ rfl _ _ (by rfl) (w.heap.size + 1) (by rfl) HW.out (d : Int) (by rfl) HLF.out (by omega) hsz5 ?_; intro v' w6 hown6 hb6; have HO6 := Lib.hid hown6; have HB6 := Lib.hid hb6; clear hown6 hb6)
        go_roundw
        case rel => exact ⟨d + 1, by omega, by go_num, Lib.hid (by rw [HE.out, List.length_append, List.length_singleton, HN0.out]; exact HO6.out), Lib.hid (HX5.out.below HB6.out (by omega)), Lib.hid (HB5.out.trans (HB6.out.mono (by omega)))⟩
        case measure => simp [intOf]; omega
      · have HE := Lib.hid (HZ.out d hn)
        clear hn HOUT
        go_wp2
        go_roundw
        case rel => exact ⟨d + 1, by omega, by go_num, Lib.hid (by rw [HE.out]; exact HO5.out), HX5, HB5⟩
        case measure => simp [intOf]; omega
    · have e : d = 16 := by omega
      subst e
      obtain ⟨A9, c9, e9, _, hr9⟩ := HO.out.out
      have HR9 := Lib.hid hr9
      subst e9
      go_wp2
      go_ret
      exact ⟨A9, c9, rfl, fun h => by obtain ⟨k, e1, _, hr⟩ := HR9.out h; exact ⟨k, e1, hr⟩, HB.out⟩
end Go.Proofs.Ytmcdfnhpaneanaa
