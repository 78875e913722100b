/- plane: the function's call. -/
import Derived.RangeFuncFrom
import Derived.Test.YtjbofdgdcnfmoaaPln
namespace Go.Proofs.Ytjbofdgdcnfmoaa
open Go.RowKit Go.Shelf
set_option maxRecDepth 100000
set_option linter.unusedVariables false
set_option linter.unusedSimpArgs false
attribute [local go_sem] Oper.semAt_some
theorem own_pos {w : World} {base size k : Nat} {e : TypeId} {v : Value} {xs : List Value} (h : w.ownsRow base e size v k xs) (hk : 0 < k) : ∃ g c, v = .slice (some ⟨g, 0, none⟩) k c ∧ k ≤ c ∧ base ≤ g := by
  rcases h.2 with ⟨_, h1⟩ | ⟨g, c, cur, h1, h2, _, h3, _⟩
  · omega
  · exact ⟨g, c, h1, h3, h2⟩
set_option maxHeartbeats 1600000 in
theorem plane_any (w : World) (W H b off cap : Nat) (f : Nat → Bool) (hW0 : 1 ≤ W) (hW : W ≤ 64) (hH0 : 1 ≤ H) (hH : H ≤ 64) (hcap : W * H ≤ cap) (hc : ∀ i, i < W * H → w.cell? ⟨b, off + i, none⟩ = some (.bool (f i))) (hb : b < w.heap.size) :
    Calls Try.prog 113 #[.agg #[.int .i64 (W : Nat), .int .i64 (H : Nat), .slice (some ⟨b, off, none⟩) (W * H) cap]] w fun e w' => ∃ g t k d, e = .returned (.func (.func 132) #[] #[.pointer (some ⟨g, 0, none⟩), .pointer (some ⟨t, 0, none⟩)]) ∧
      PL w' w.heap.size g t W H k d (.slice (some ⟨b, off, none⟩) (W * H) cap) f ∧ Below w.heap.size w w' := by
  have hWH : W * H ≤ 4096 := Nat.mul_le_mul hW hH
  have hmf := mk_fn
  have hmk := mk2_run W H (by omega)
  have e1 : IntKind.i64.wrap (2 * ((W : Int) * (H : Int))) = 2 * ((W : Int) * (H : Int)) := by
    rw [← Int.natCast_mul]; exact IntWalk.i64_in _ (by omega)
  obtain ⟨i0, hi, hz0, hz1, hz2⟩ := info_parts Try.info4
  refine (callsIn_wide (n := 4)).1 ?_
  refine callsIn_of_wp_marks Try.func113 rfl trivial ?_ rfl
  simp only [Try.ntmps113, List.size_toArray, List.length_cons, List.length_nil, Nat.reduceAdd, Nat.reduceSub, Array.replicate_succ, Array.replicate_zero, List.push_toArray, List.append_toArray, List.nil_append, List.cons_append]
  gi_wp2_with (refine ⟨trivial, ?_⟩; gi_at_call 131; refine (callsIn_wide.2 (chunk_any _ _ _ W _ hW0)).mono ?_; rintro e w' ⟨rfl, rfl⟩)
  have hfree : ∀ X, Below w.heap.size w X → ∀ (x : Fin H) j u, (news W (fun i => f (x.1 * W + i)))[j]? = some u → X.cell? (Addr.add ⟨b, off + x.1 * W, none⟩ j) = some u := by
    intro X hX x j u hj
    obtain ⟨h1, rfl⟩ := news_get hj
    have h4 : x.1 * W + W ≤ W * H := by rw [← Nat.succ_mul, Nat.mul_comm W H]; exact Nat.mul_le_mul_right W x.2
    rw [Addr.add_lit, Nat.add_assoc]
    exact (hX.cell (p := ⟨b, off + (x.1 * W + j), none⟩) hb).trans (hc _ (by omega))
  generalize hU : World.alloc _ (Obj.cells #[Value.int IntKind.i64 ↑W] 3) = wU
  have hPI : PI w wU w.heap.size W H b off cap f [] wU := by
    subst hU
    have bO := (((((Box.new w (W : Nat) (H : Nat) (.slice (some ⟨b, off, none⟩) (W * H) cap)).alloc (.cells (madeCells #[.bool false] (2 * (W * H))) 4)).alloc (.cells #[.slice (some ⟨w.heap.size + 1, 0, none⟩) 0 (2 * (W * H))] 22)).alloc (.cells #[.slice (some ⟨b, off, none⟩) (W * H) cap] 22)).alloc (.cells #[.int .i64 (W : Nat)] 3))
    refine ⟨⟨.slice (some ⟨w.heap.size + 1, 0, none⟩) 0 (2 * (W * H)), ?_, ?_, trivial⟩, bO, ?_, ?_, ?_⟩
    · exact ((by simpa using Boxed.new ((w.alloc (.cells #[.int .i64 (W : Nat), .int .i64 (H : Nat), .slice (some ⟨b, off, none⟩) (W * H) cap] 24)).alloc (.cells (madeCells #[.bool false] (2 * (W * H))) 4)) 22 (.slice (some ⟨w.heap.size + 1, 0, none⟩) 0 (2 * (W * H))) : Boxed _ (w.heap.size + 2) 22 _).alloc _).alloc _
    · have h := World.ownsRow_made (size := 1) (e := 4) (base := w.heap.size + 1) (w.alloc (.cells #[.int .i64 (W : Nat), .int .i64 (H : Nat), .slice (some ⟨b, off, none⟩) (W * H) cap] 24)) (madeCells #[.bool false] (2 * (W * H))) (2 * (W * H)) (by simp) (by unfold maxLen; omega) (by simp [size_madeCells])
      have h' := ((h.alloc (.cells #[.slice (some ⟨w.heap.size + 1, 0, none⟩) 0 (2 * (W * H))] 22)).alloc (.cells #[.slice (some ⟨b, off, none⟩) (W * H) cap] 22)).alloc (.cells #[.int .i64 (W : Nat)] 3)
      simpa [rws] using h'
    · refine (Boxed.alloc ?_ _)
      simpa using Boxed.new (((w.alloc (.cells #[.int .i64 (W : Nat), .int .i64 (H : Nat), .slice (some ⟨b, off, none⟩) (W * H) cap] 24)).alloc (.cells (madeCells #[.bool false] (2 * (W * H))) 4)).alloc (.cells #[.slice (some ⟨w.heap.size + 1, 0, none⟩) 0 (2 * (W * H))] 22)) 22 (.slice (some ⟨b, off, none⟩) (W * H) cap)
    · simpa using Boxed.new ((((w.alloc (.cells #[.int .i64 (W : Nat), .int .i64 (H : Nat), .slice (some ⟨b, off, none⟩) (W * H) cap] 24)).alloc (.cells (madeCells #[.bool false] (2 * (W * H))) 4)).alloc (.cells #[.slice (some ⟨w.heap.size + 1, 0, none⟩) 0 (2 * (W * H))] 22)).alloc (.cells #[.slice (some ⟨b, off, none⟩) (W * H) cap] 22)) 3 (.int .i64 (W : Nat))
    · exact (((((Below.refl _ w).alloc (Nat.le_refl _) _).alloc (by simp) _).alloc (by simp; omega) _).alloc (by simp; omega) _).alloc (by simp; omega) _
  have hsz : wU.heap.size = w.heap.size + 5 := by rw [← hU]; simp
  clear hU
  have hn0 : ∀ p, PB w.heap.size p → p < wU.heap.size := by
    rintro p (h | rfl | rfl) <;> omega
  refine wpIn_rangeFunc_ownF (F := Fence.wide) rfl (by omega) (gf := 143) (lb := #[.pointer (some ⟨w.heap.size + 3, 0, none⟩), .pointer (some ⟨w.heap.size + 4, 0, none⟩)]) rfl trivial (enters_of Try.func143 (by kernel_rfl) rfl)
    (chunk_stops Fence.wide 3 trivial rfl (by omega) (PB w.heap.size) (w.heap.size + 3) (w.heap.size + 4) b off W H cap hW0 hW hH hcap (.inl hb) (.inr (.inl rfl)) (.inr (.inr rfl)) wU hn0 hPI.b2.cell hPI.b3.cell)
    (fun h k => KB.t h k) (fun X l o o' hl h h1 h2 => KB.b (w := wU) hn0 X l o o' hl h h1 h2) (Below.refl _ _) (fun _ => rfl)
    (PI w wU w.heap.size W H b off cap f) (fun _ _ _ => False) (pi_own w wU w.heap.size W H b off cap f (Nat.le_refl _) _ (by omega)) (fun _ _ _ _ _ hs _ _ => hs) hPI
    (fun x => { tmps := #[.agg #[.int .i64 (W : Nat), .int .i64 (H : Nat), .slice (some ⟨b, off, none⟩) (W * H) cap], .pointer (some ⟨w.heap.size, 0, none⟩), .nilFunc, .pointer (some ⟨w.heap.size + 2, 0, none⟩), .slice (some ⟨b, off + x.1 * W, none⟩) W W, .pointer (some ⟨w.heap.size, 2, none⟩), .slice (some ⟨b, off, none⟩) (W * H) cap, .int .i64 ((W : Int) * (H : Int)), .int .i64 (2 * ((W : Int) * (H : Int))), .slice (some ⟨w.heap.size + 1, 0, none⟩) 0 (2 * (W * H)), .pointer (some ⟨w.heap.size, 2, none⟩), .slice (some ⟨b, off, none⟩) (W * H) cap, .pointer (some ⟨w.heap.size, 0, none⟩), .int .i64 (W : Nat), .func (.func 143) #[] #[.pointer (some ⟨w.heap.size + 3, 0, none⟩), .pointer (some ⟨w.heap.size + 4, 0, none⟩)], .slice (some ⟨b, off + x.1 * W, none⟩) W W, undef, undef, undef, undef, undef, undef, undef], defers := [] }) ?assign ?body ?done ?stop
  case assign =>
    intro l x X K hK
    gi_wp2
    exact hK
  case body =>
    rintro l pre x X ⟨⟨v, hv, hrow, _⟩, hgx, h2, h3, hbel⟩ hlt
    have hlen : (rws W f pre).length ≤ 8192 := by
      rw [rws_len]
      exact Nat.mul_le_mul (show pre.length ≤ 64 by omega) (show 2 * W ≤ 128 by omega)
    have hko : KeepsOthers X X := KeepsOthers.refl X
    have hkb : KB (PB w.heap.size) X X := KB.refl _ _
    have hcv := hv.cell
    gi_wp2_with (gi_at_builtin; refine wpListIn_append_own _ rfl _ _ 22 rfl (w.heap.size + 1) 4 i0 (.bool false) 1 1 Try.underlying22 hi hz0 hz1 hz2 rfl (by decide) _ _ _ rfl hrow ⟨b, off + x.1 * W, none⟩ W W (news W (fun i => f (x.1 * W + i))) rfl (by simp [news_length]) (hfree _ hbel x) news_one (by unfold maxLen; omega) (by omega) (by have := h3.lt; omega) ?_; intro v' w1 hown hg _; obtain ⟨g', c', rfl, _, _⟩ := own_pos hown (by omega); obtain ⟨hv1, hv, hrow, hgx, h2, h3, hbel, hko', hkb'⟩ := ap_step (by have := h3.lt; omega) hv hrow hgx h2 h3 hbel hown hg; have hko := hko.trans hko'; have hkb := hkb.t hkb'; have hc1 := hv1.cell; have hf1 := hv1.frozen; have hc2 := hv.cell)
    have er : rws W f (pre ++ [x]) = rws W f pre ++ news W (fun i => f (x.1 * W + i)) ++ news W (fun i => f (x.1 * W + i)) := by rw [rws_snoc, List.append_assoc]
    have el : (rws W f (pre ++ [x])).length = (rws W f pre).length + W + W := by rw [er, List.length_append, List.length_append, news_length]
    exact ⟨hko, hkb, ⟨⟨_, hv, by rw [el, er]; exact hrow, trivial⟩, hgx, h2, h3, hbel⟩⟩
  case done =>
    rintro D ys X hD rfl ⟨⟨v, hv, hrow, _⟩, hgx, h2, h3, hbel⟩ hK
    have hcv := hv.cell
    have er : rws W f (List.finRange H) = news (H * (2 * W)) (tw2 W f) := by
      have h := rws_fr W hW0 f H (Nat.le_refl H)
      rwa [fr_all] at h
    rw [er, news_length] at hrow
    have hp0 : 0 < H * (2 * W) := Nat.mul_pos (by omega) (by omega)
    obtain ⟨k, d, rfl, hd, hk⟩ := own_pos hrow hp0
    gi_wp2
    have hbK : Below wU.heap.size X (X.putObj D (.deferred none)) := belowK_b (w := wU) (Nat.le_refl _) X D _ _ hD hK rfl rfl
    refine ⟨by simp, .inl ⟨_, _, rfl, run_takeDeferred hK, ?_⟩⟩
    refine ⟨_, results_tmp rfl _ _ _, w.heap.size, w.heap.size + 2, k, d, rfl, ⟨?_, ?_, ?_, hd, Nat.le_refl _, by omega, by omega, ?_⟩, ?_⟩
    · exact (hbK.block _ (by omega)).trans hgx
    · exact (hbK.cell (p := ⟨w.heap.size + 2, 0, none⟩) (by show w.heap.size + 2 < wU.heap.size; omega)).trans hcv
    · exact Row.of_own (ownsRow_putObj hrow _ hK rfl) hp0
    · exact Nat.lt_of_lt_of_le hv.lt hbK.size
    · exact hbel.trans (hbK.mono (by omega))
  case stop =>
    rintro D c pre X _ _ h _
    exact h.elim
end Go.Proofs.Ytjbofdgdcnfmoaa
