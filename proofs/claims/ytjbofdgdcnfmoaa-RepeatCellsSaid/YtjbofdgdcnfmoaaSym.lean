/- A grid without memory, and the four operations on it; what lies while operations are applied. -/
import Derived.Test.YtjbofdgdcnfmoaaOps
import Derived.Test.YtjbofdgdcnfmoaaRmir
import Derived.Test.YtjbofdgdcnfmoaaRturn
import Derived.Test.YtjbofdgdcnfmoaaRefa
import Derived.Test.YtjbofdgdcnfmoaaTwin
import Derived.Maps.AppendAt
import Derived.Lib.SliceRun
namespace Go.Proofs.Ytjbofdgdcnfmoaa
open Go.RowKit
set_option maxRecDepth 100000
set_option linter.unusedVariables false
set_option linter.unusedSimpArgs false

/-- A grid without its memory. -/
structure GD where
  (W H : Nat)
  (f : Nat → Bool)
structure GD.Ok (g : GD) : Prop where
  w0 : 1 ≤ g.W
  w1 : g.W ≤ 64
  h0 : 1 ≤ g.H
  h1 : g.H ≤ 64
def GD.m0 (g : GD) : GD := ⟨g.W, g.H, fun i => g.f (i / g.W * g.W + (g.W - 1 - i % g.W))⟩
def GD.m1 (g : GD) : GD := ⟨g.W, g.H, fun i => g.f ((g.H - 1 - i / g.W) * g.W + i % g.W)⟩
def GD.tn (g : GD) : GD := ⟨g.H, g.W, fun i => g.f (i % g.H * g.W + i / g.H)⟩
def GD.nt (g : GD) : GD := ⟨g.W, g.H, fun i => !g.f i⟩
def GD.c (F : GD → GD) (b : Bool) (g : GD) : GD := if b = true then F g else g
/-- The grid with an operation applied, of which the four parts are told. -/
def GD.apb (g : GD) (b1 b2 b4 b8 : Bool) : GD := (((g.c GD.m0 b1).c GD.m1 b2).c GD.tn b4).c GD.nt b8
theorem GD.Ok.tn {g : GD} (h : g.Ok) : g.tn.Ok := ⟨h.h0, h.h1, h.w0, h.w1⟩
theorem GD.Ok.m0 {g : GD} (h : g.Ok) : g.m0.Ok := ⟨h.w0, h.w1, h.h0, h.h1⟩
theorem GD.Ok.m1 {g : GD} (h : g.Ok) : g.m1.Ok := ⟨h.w0, h.w1, h.h0, h.h1⟩
theorem GD.Ok.nt {g : GD} (h : g.Ok) : g.nt.Ok := ⟨h.w0, h.w1, h.h0, h.h1⟩
theorem GD.Ok.apb {g : GD} (h : g.Ok) (b1 b2 b4 b8 : Bool) : (g.apb b1 b2 b4 b8).Ok := by
  cases b1 <;> cases b2 <;> cases b4 <;> cases b8 <;> exact ⟨by first | exact h.w0 | exact h.h0, by first | exact h.w1 | exact h.h1, by first | exact h.h0 | exact h.w0, by first | exact h.h1 | exact h.w1⟩
/-- A row of the call's own, of any capacity. -/
def COut (w : World) (n : Nat) (f : Nat → Bool) (e : Ending) (w' : World) : Prop := ∃ k d, e = .returned (.slice (some ⟨k, 0, none⟩) n d) ∧ n ≤ d ∧ w.heap.size ≤ k ∧ Row w' k n f ∧ Below w.heap.size w w'
set_option maxHeartbeats 1600000 in
theorem clone_any (b o n c : Nat) (f : Nat → Bool) (w : World) (h0 : 0 < n) (hn : n ≤ 5000) (hr : Holds w w.heap.size (some ⟨b, o, none⟩) n f) :
    Calls Try.prog 117 #[.slice (some ⟨b, o, none⟩) n c] w (COut w n f) := by
  have A := Lib.hid (show ∀ j, j < n → w.cell? ⟨b, o + j, none⟩ = some (.bool (f j)) by
    obtain ⟨b', o', e, _, h⟩ := hr h0
    cases e
    exact h)
  clear hr
  obtain ⟨i0, hi, hz0, hz1, hz2⟩ := info_parts Try.info4
  have q22 : ∀ (w : World) (a : Option Addr) (n c n' c' : Nat), (binOp .eql 22 (.slice a n c) (.slice none n' c')).run Try.prog w = .ok (.bool a.isNone) w := fun w a n c n' c' => Lib.run_eql_slice_nil w _ _ a n c n' c' Try.underlying22
  go_enter Try.func117, Try.ntmps117
  go_wp2_with (at_builtin; refine wpList_append_own _ rfl _ _ 22 rfl w.heap.size 4 i0 (.bool false) 1 1 Try.underlying22 hi hz0 hz1 hz2 rfl (by decide) _ _ _ rfl (World.ownsRow_made w #[] 0 (Nat.le_refl _) (Nat.zero_le _) rfl) ⟨b, o, none⟩ n c (news n f) rfl ?qc1 ?qc2 ?qc3 ?qc4 ?qc5 ?qc6 ?_)
  case qc1 => simp [news_length]
  case qc2 =>
    intro j u hj
    obtain ⟨h1, rfl⟩ := news_get hj
    rw [Addr.add_lit]
    refine Lib.cell?_alloc_some _ ?_
    exact A.out j h1
  case qc3 => exact news_one
  case qc4 => unfold maxLen; omega
  case qc5 => omega
  case qc6 => simp
  intro v' w1 hown hgrow hnil
  try simp only [Nat.zero_add] at hown
  obtain ⟨g, cap, rfl, hgl, hcap⟩ : ∃ g cap, v' = .slice (some ⟨g, 0, none⟩) n cap ∧ w.heap.size ≤ g ∧ n ≤ cap := by
    rcases hown.2 with ⟨_, h1⟩ | ⟨g, cap, cur, h1, h2, h3, h4, _⟩
    · omega
    · exact ⟨g, cap, h1, h2, h4⟩
  have hrow : Row w1 g n f := Row.of_own (by simpa using hown) h0
  have hb : Below w.heap.size w w1 := ((Below.refl _ w).alloc (Nat.le_refl _) _).grown hgrow (by simp) (by intro k hk; simp [Value.ownBlock] at hk; omega)
  go_wp2
  go_ret
  exact ⟨g, cap, rfl, hcap, hgl, hrow, hb⟩
end Go.Proofs.Ytjbofdgdcnfmoaa
