/- Apart of the program. -/
import Derived.Test.YtgmcbdnfgdmmaaaHpy
namespace Go.Proofs.Ytgmcbdnfgdmmaaa
open Go.RowKit
set_option maxRecDepth 100000
set_option linter.unusedVariables false
set_option linter.unusedSimpArgs false

theorem mks_run (N : Nat) (hN : N ≤ 4096) (w : World) :
    (Instr.makeSlice 110 (.int .i64 (N : Nat)) (.int .i64 (N : Nat))).run Try.prog w = .ok (.slice (some ⟨w.heap.size, 0, none⟩) N N) (w.alloc (.cells (madeCells #[.slice none 0 0] N) 45)) :=
  run_make_row' (P := Try.prog) 110 45 (.slice none 0 0) 24 Try.underlying110 Try.info51 rfl .i64 .i64 N (by omega) (by omega) w
theorem papart_err {W H : Int} {A : Option Addr} {N c : Nat} (z : Int) (hN : N ≤ 4200) (hz : chk W H N = z) (hne : (z != 0) = true) (w : World) :
    Calls Try.prog 84 #[.agg #[.int .i64 W, .int .i64 H, .slice A N c]] w (PRet w [] z) := by
  have HK := Lib.hid (fun u => chk_err (A := A) (c := c) hN hz u)
  have LB0 := Lib.hid (show Below w.heap.size w (w.alloc (.cells #[.int .i64 W, .int .i64 H, (.slice A N c)] 24)) from (Below.refl _ _).alloc (Nat.le_refl _) _)
  clear hz
  go_enter Try.func84, Try.ntmps84
  go_wp2_with fail
  with_reducible refine Calls.mono (HK.out _) ?_
  rintro e w1 ⟨rfl, hb⟩
  have LB1 := Lib.hid (LB0.out.trans (hb.mono LB0.out.size))
  clear hb LB0
  go_wp2
  go_ret2
  exact ⟨none, 0, rfl, cp_nil, ll_nil _ _, LB1.out⟩
theorem vr_tt {w : World} {sb n i : Nat} {F : Nat → Value} {D : Option Addr} {l : List Nat} {x : Value} (hv : VR w sb 45 n F) (h : TT w D l) : TT (w.setCell ⟨sb, i, none⟩ x) D l := by
  obtain ⟨cs, h1, _⟩ := hv
  exact h.keep fun b cs2 hb => Below.heap_setCell w _ _ b (fun e => by have e' : b = sb := e; rw [e', h1] at hb; cases hb)
/-- What the sets so far are. -/
def Sets (w : World) (L : Nat → List Nat) (F : Nat → Value) (k : Nat) : Prop := ∀ t, t < k → ∃ D c, F t = .slice D (L t).length c ∧ Cp D (L t).length c ∧ TT w D (L t)
set_option maxHeartbeats 1600000 in
theorem papart_core (W H N : Nat) (hNN : W + H = N) (A : Option Addr) (c : Nat) (g : Nat → Bool) (w : World) (hg : Holds w w.heap.size A (W * H) g) (hW0 : 1 ≤ W) (hW : W ≤ 64) (hH0 : 1 ≤ H) (hH : H ≤ 64) (q : Bool) (hq : hgs (ov W g) N = q) (res : List Nat) (hres : res = if q then [] else ofl (up (ov W g) N (t0 (ov W g) N)) N) : Calls Try.prog 84 #[.agg #[.int .i64 (W : Nat), .int .i64 (H : Nat), .slice A (W * H) c]] w (PRet w res 0) := by
  have HRES := Lib.hid hres
  clear hres
  have HK := Lib.hid (fun u => chk_valid A c u hW0 hW hH0 hH)
  have HTI := Lib.hid (fun u (h : Below w.heap.size w u) => ties_any W H A c g u ((hg.below h).more h.size) hW0 hW hH0 hH)
  unfold TiR at HTI
  rw [hNN] at HTI
  have hN2 : 2 ≤ N := by omega
  have hN : N ≤ 128 := by omega
  have HRE := Lib.hid (fun u D d t (hl : LLs u D N (LA W N g)) (ht : t < N) => reached_t (ov W g) N D d (LA W N g) (fun _ _ => rfl) t u hl ht hN)
  have HLE := Lib.hid (fun u D d L (hl : LLs u D N L) (hc : Cp D N d) => least_n N D d L u hl hc hN2 hN)
  have hmk := mks_run N (by omega)
  have HQ := Lib.hid (show ∀ L0, L0 = (ofl (up (ov W g) N (t0 (ov W g) N)) N).length → ((L0 : Int) == (N : Int)) = q from fun L0 h => by rw [← hq]; exact hgs_int h.symm)
  have X0 := Lib.hid (Box.new w (W : Nat) (H : Nat) (.slice A (W * H) c))
  have LB0 := Lib.hid (show Below w.heap.size w (w.alloc (.cells #[.int .i64 (W : Nat), .int .i64 (H : Nat), (.slice A (W * H) c)] 24)) from (Below.refl _ _).alloc (Nat.le_refl _) _)
  clear hg hNN hq
  generalize W * H = M at *
  go_enter Try.func84, Try.ntmps84
  go_wp2_with fail
  generalize w.alloc (.cells #[.int .i64 (W : Nat), .int .i64 (H : Nat), .slice A M c] 24) = w0 at *
  obtain ⟨q0, q1, q2, q3, q4, q5, q6⟩ := X0.out.all
  go_wp2_with fail
  clear q0 q1 q2 q3 q4 q5 q6
  with_reducible refine Calls.mono (HK.out _) ?_
  rintro e w1 ⟨rfl, hb⟩
  have X1 := Lib.hid (X0.out.below hb X0.out.lt)
  have LB1 := Lib.hid (LB0.out.trans (hb.mono LB0.out.size))
  clear hb X0 LB0
  obtain ⟨q0, q1, q2, q3, q4, q5, q6⟩ := X1.out.all
  go_wp2_with fail
  clear q0 q1 q2 q3 q4 q5 q6
  with_reducible refine Calls.mono (HTI.out _ LB1.out) ?_
  rintro e w2 ⟨Db, cb, Da, ca, rfl, hlb, hla, hb⟩
  have LB2 := Lib.hid (LB1.out.trans (hb.mono LB1.out.size))
  have HLA := Lib.hid hla
  clear hb hlb hla X1 LB1 HTI
  have hfd := fun (u : World) => (show (Instr.field 127 (.agg #[.slice Db N cb, .slice Da N ca]) 1).run Try.prog u = .ok (.slice Da N ca) u from by kernel_rfl)
  have HV0 := Lib.hid (VR.made w2 N (.slice none 0 0) 45)
  have LB3 := Lib.hid (LB2.out.alloc LB2.out.size (.cells (madeCells #[.slice none 0 0] N) 45))
  have HLA3 := Lib.hid (HLA.out.below ((Below.refl w2.heap.size w2).alloc (Nat.le_refl _) (.cells (madeCells #[.slice none 0 0] N) 45)))
  have hsb : w.heap.size ≤ w2.heap.size := LB2.out.size
  have HB2 := Lib.hid ((Below.refl w2.heap.size w2).alloc (Nat.le_refl _) (.cells (madeCells #[.slice none 0 0] N) 45))
  go_wp2
  clear hmk
  obtain ⟨sb, hsbe⟩ : ∃ sb, w2.heap.size = sb := ⟨_, rfl⟩
  have HSB := Lib.hid hsbe
  rw [hsbe] at HV0 hsb HB2 ⊢
  clear hsbe
  generalize w2.alloc (.cells (madeCells #[.slice none 0 0] N) 45) = w3 at *
  go_loopw [22] (fun i wr => ∃ (k : Nat) (F : Nat → Value), k ≤ N ∧ i = .int .i64 k ∧ Hid (VR wr sb 45 N F) ∧ Hid (Sets wr (fun t => ofl (up (ov W g) N t) N) F k) ∧ Hid (Below sb w2 wr) ∧ Hid (Below w.heap.size w wr)) (fun i _ => N - (intOf i).toNat)
  case atStart => exact ⟨0, _, Nat.zero_le _, rfl, HV0, Lib.hid (fun t ht => by omega), HB2, LB3⟩
  case round =>
    obtain ⟨k, F, hk, rfl, HV, HS, HB, HL⟩ := hrel
    clear HV0 LB3 HLA3 HB2
    have HLAk := Lib.hid (HLA.out.below (by rw [HSB.out]; exact HB.out))
    by_cases hlt : k < N
    · have y1 : (k : Int) < (N : Int) := by omega
      have y2 : (0 : Int) ≤ (k : Int) := by omega
      have HREk := Lib.hid (HRE.out wr Da ca k HLAk.out hlt)
      go_wp2_with fail
      with_reducible refine Calls.mono HREk.out ?_
      rintro e w5 ⟨E, ce, rfl, hce, htt, hb⟩
      have HV5 := Lib.hid (HV.out.below hb HV.out.lt)
      have HS5 := Lib.hid (show Sets w5 (fun t => ofl (up (ov W g) N t) N) F k from fun t ht => by obtain ⟨D, c, h1, h2, h3⟩ := HS.out t ht; exact ⟨D, c, h1, h2, h3.below hb⟩)
      have HB5 := Lib.hid (HB.out.trans (hb.mono (by have := HV.out.lt; omega)))
      have HL5 := Lib.hid (HL.out.trans (hb.mono HL.out.size))
      have HTT := Lib.hid htt
      have HCE := Lib.hid hce
      clear hb htt hce HV HS HB HL HLAk HREk
      have c1 := HV5.out.cell hlt
      have c2 := HV5.out.free k
      obtain ⟨Lk, hLk⟩ : ∃ x, (ofl (up (ov W g) N k) N).length = x := ⟨_, rfl⟩
      have HLk := Lib.hid hLk
      rw [hLk] at HCE ⊢
      clear hLk
      have HV6 := Lib.hid (HV5.out.set_ k (.slice E Lk ce))
      have HS6 := Lib.hid (show Sets (w5.setCell ⟨sb, k, none⟩ (.slice E Lk ce)) (fun t => ofl (up (ov W g) N t) N) (fun j => if j = k then .slice E Lk ce else F j) (k + 1) from fun t ht => by
        by_cases e : t = k
        · rw [e]
          exact ⟨E, ce, (by show (if k = k then _ else _) = Value.slice E (ofl (up (ov W g) N k) N).length ce; rw [if_pos rfl, HLk.out]), (by show Cp E (ofl (up (ov W g) N k) N).length ce; rw [HLk.out]; exact HCE.out), vr_tt HV5.out HTT.out⟩
        · obtain ⟨D, c, h1, h2, h3⟩ := HS5.out t (by omega)
          exact ⟨D, c, (by show (if t = k then _ else F t) = _; rw [if_neg e]; exact h1), h2, vr_tt HV5.out h3⟩)
      have HB6 := Lib.hid (HB5.out.setCell (p := ⟨sb, k, none⟩) (Nat.le_refl _) (.slice E Lk ce))
      have HL6 := Lib.hid (HL5.out.setCell (p := ⟨sb, k, none⟩) (by exact hsb) (.slice E Lk ce))
      clear HV5 HS5 HB5 HL5
      go_wp2
      go_roundw
      case rel => exact ⟨k + 1, _, by omega, by go_num, HV6, HS6, HB6, HL6⟩
      case measure => simp [intOf]; omega
    · have e : k = N := by omega
      have y1 : ¬ (k : Int) < (N : Int) := by omega
      have HSN := HS.out
      rw [e] at HSN
      have HLS := Lib.hid (show LLs wr (some ⟨sb, 0, none⟩) N (fun t => ofl (up (ov W g) N t) N) from fun _ => ⟨sb, 0, rfl, HV.out.lt, fun i hi => by
        obtain ⟨D, c, h1, h2, h3⟩ := HSN i hi
        exact ⟨D, c, by rw [Nat.zero_add, HV.out.cell hi, h1], h2, h3.ll⟩⟩)
      have HLEk := Lib.hid (HLE.out wr (some ⟨sb, 0, none⟩) N _ HLS.out ⟨(fun h => by cases h), Nat.le_refl _⟩)
      clear HSN HS HLS HV e
      go_wp2_with fail
      with_reducible refine Calls.mono HLEk.out ?_
      rintro e w6 ⟨E, ce, rfl, hce, hll, hb⟩
      have HL6 := Lib.hid (HL.out.trans (hb.mono HL.out.size))
      have HCE := Lib.hid (show Cp E (ofl (up (ov W g) N (t0 (ov W g) N)) N).length ce from hce)
      have HLL := Lib.hid (show LL w6 E (ofl (up (ov W g) N (t0 (ov W g) N)) N) from hll)
      have HQ2 := Lib.hid (HQ.out _ rfl)
      clear hb hce hll HL HLEk
      obtain ⟨x, hx⟩ : ∃ x, (ofl (up (ov W g) N (fm (fun t => (ofl (up (ov W g) N t) N).length) (N - 1))) N).length = x := ⟨_, rfl⟩
      have HX := Lib.hid (show (ofl (up (ov W g) N (t0 (ov W g) N)) N).length = x from hx)
      rw [hx]
      rw [HX.out] at HQ2
      clear hx
      cases q
      · have z1 := HQ2.out
        go_wp2
        go_ret2
        rw [show res = ofl (up (ov W g) N (t0 (ov W g) N)) N from HRES.out]
        exact ⟨E, ce, by rw [HX.out]; rfl, HCE.out, HLL.out, HL6.out⟩
      · have z1 := HQ2.out
        go_wp2
        go_ret2
        rw [show res = [] from HRES.out]
        exact ⟨none, 0, rfl, cp_nil, ll_nil _ _, HL6.out⟩
end Go.Proofs.Ytgmcbdnfgdmmaaa
