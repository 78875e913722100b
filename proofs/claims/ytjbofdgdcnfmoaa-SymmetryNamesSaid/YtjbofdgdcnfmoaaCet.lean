/- Cell and Spread of both sides; what a walk with results keeps. -/
import Derived.Test.YtjbofdgdcnfmoaaCa
import Derived.Test.YtjbofdgdcnfmoaaCb
import Derived.Test.YtjbofdgdcnfmoaaGb
namespace Go.Proofs.Ytjbofdgdcnfmoaa
open Go.RowKit
set_option maxRecDepth 100000
set_option linter.unusedVariables false
set_option linter.unusedSimpArgs false

/-- A slice that a call has made, or of no elements. -/
structure WS (v : World) (lo : Nat) (D : Option Addr) (n : Nat) (f : Nat → Bool) : Prop where
  h : 0 < n → ∃ k, D = some ⟨k, 0, none⟩ ∧ lo ≤ k ∧ Row v k n f
theorem WS.next {v v' : World} {lo : Nat} {D : Option Addr} {n : Nat} {f : Nat → Bool} (h : WS v lo D n f) (hb : Below v.heap.size v v') : WS v' lo D n f := ⟨fun hn => (h.h hn).imp fun _ ⟨a, b, c⟩ => ⟨a, b, c.below hb c.lt⟩⟩
theorem WS.holds {v : World} {lo : Nat} {D : Option Addr} {n : Nat} {f : Nat → Bool} (h : WS v lo D n f) : Holds v v.heap.size D n f := fun hn => by
  obtain ⟨k, rfl, _, hr⟩ := h.h hn
  exact hr.holds hr.lt hn
theorem twin_ws (W H : Int) (A : Option Addr) (n c : Nat) (f : Nat → Bool) (w : World) (hn : n ≤ 4200) (hr : Holds w w.heap.size A n f) :
    Calls Try.prog 33 #[.agg #[.int .i64 W, .int .i64 H, .slice A n c]] w fun e w' => ∃ D d, e = .returned (.agg #[.int .i64 W, .int .i64 H, .slice D n d]) ∧ WS w' w.heap.size D n f ∧ Below w.heap.size w w' := by
  rcases Nat.eq_zero_or_pos n with rfl | h0
  · exact (twin_none W H A c w).mono fun e w' ⟨k, he, hb⟩ => ⟨_, _, he, ⟨fun h => absurd h (by omega)⟩, hb⟩
  · exact (twin_some W H A n c f w hn h0 hr).mono fun e w' ⟨k, d, he, hk, hrow, hb⟩ => ⟨_, _, he, ⟨fun _ => ⟨k, rfl, hk, hrow⟩⟩, hb⟩
theorem rsame_se (W H : Int) (A D : Option Addr) (n c d : Nat) (f : Nat → Bool) (w : World) (hn : n ≤ 5000) (h1 : Holds w w.heap.size A n f) (h2 : Holds w w.heap.size D n f) :
    Calls Try.prog 39 #[.agg #[.int .i64 W, .int .i64 H, .slice A n c], .agg #[.int .i64 W, .int .i64 H, .slice D n d]] w fun e w' => e = .returned (.bool true) ∧ Below w.heap.size w w' :=
  (rsame_loop W H W H A D n c d f f w hn rfl rfl h1 h2).mono fun e w' ⟨a, b⟩ => ⟨by rw [a]; exact ret_bool (by simp), b⟩
/-- A call hands back a grid of its own, and an error. -/
def RG (v : World) (U V : Int) (N : Nat) (F : Nat → Bool) (z : Int) (e : Ending) (w' : World) : Prop :=
  ∃ D d, e = .returned (.tuple #[.agg #[.int .i64 U, .int .i64 V, .slice D N d], .int .i64 z]) ∧ WS w' v.heap.size D N F ∧ Below v.heap.size v w'
theorem OkGrid.rg {w w' : World} {W H : Nat} {F : Nat → Bool} {e : Ending} (h : OkGrid w W H F e w') : RG w W H (W * H) F 0 e w' := by
  obtain ⟨k, h1, h2, h3, h4⟩ := h
  exact ⟨_, _, h1, ⟨fun _ => ⟨k, rfl, h2, h3⟩⟩, h4⟩
theorem SpG.rg {w w' : World} {W H : Nat} {F : Nat → Bool} {e : Ending} (h : SpG w W H F e w') : RG w W H (W * H) F 0 e w' := by
  obtain ⟨k, c, h1, h2, h3, h4⟩ := h
  exact ⟨_, _, h1, ⟨fun _ => ⟨k, rfl, h2, h3⟩⟩, h4⟩
theorem ErrGrid.rg {w w' : World} {z : Int} {e : Ending} (h : ErrGrid w z e w') : RG w 0 0 0 (fun _ => false) z e w' := ⟨none, 0, h.1, ⟨fun h => absurd h (by omega)⟩, h.2⟩
theorem cell_two (W H : Int) (A : Option Addr) (n c : Nat) (f : Nat → Bool) (w : World) (hr : Holds w w.heap.size A n f) (hn : n ≤ 4200) (hc : n ≤ c) : ∃ (U V : Int) (N : Nat) (F : Nat → Bool) (z : Int), N ≤ 5000 ∧ ∀ v, Below w.heap.size w v →
    Calls Try.prog 34 #[.agg #[.int .i64 W, .int .i64 H, .slice A n c]] v (RG v U V N F z) ∧ Calls Try.prog 35 #[.agg #[.int .i64 W, .int .i64 H, .slice A n c]] v (RG v U V N F z) := by
  by_cases hx : chk W H n = 0
  · obtain ⟨W', H', rfl, rfl, h1, h2, h3, h4, rfl⟩ := chk_nat hx
    obtain ⟨P, Q, R, hL⟩ := IsL.ex W' H' f h1 h3
    have h5 : P * R ≤ 4096 := Nat.mul_le_mul (Nat.le_trans hL.aw h2) (Nat.le_trans hL.ch h4)
    exact ⟨_, _, _, _, _, (show P * R ≤ 5000 by omega), fun v hv => ⟨(pcell_at hL A c v ((hr.below hv).more hv.size) hc h2 h3 h4).mono fun _ _ h => h.rg, (rcell_at hL A c v ((hr.below hv).more hv.size) h2 h3 h4).mono fun _ _ h => h.rg⟩⟩
  · exact ⟨_, _, _, _, _, Nat.zero_le _, fun v hv => ⟨(pcell_err W H A n c v hn _ rfl (by simpa using hx)).mono fun _ _ h => h.rg, (rcell_err W H A n c v hn _ rfl (by simpa using hx)).mono fun _ _ h => h.rg⟩⟩
theorem spread_two (W H : Int) (A : Option Addr) (n c : Nat) (f : Nat → Bool) (b u v : Int) (w : World) (hr : Holds w w.heap.size A n f) (hn : n ≤ 4200) : ∃ (U V : Int) (N : Nat) (F : Nat → Bool) (z : Int), N ≤ 5000 ∧ ∀ x, Below w.heap.size w x →
    Calls Try.prog 21 #[.agg #[.int .i64 W, .int .i64 H, .slice A n c], .int .i64 b, .int .i64 u, .int .i64 v] x (RG x U V N F z) ∧ Calls Try.prog 36 #[.agg #[.int .i64 W, .int .i64 H, .slice A n c], .int .i64 b, .int .i64 u, .int .i64 v] x (RG x U V N F z) := by
  by_cases hx : chk W H n = 0
  · obtain ⟨W', H', rfl, rfl, h1, h2, h3, h4, rfl⟩ := chk_nat hx
    by_cases b0 : b < 0
    · exact ⟨_, _, _, _, _, Nat.zero_le _, fun x hv => ⟨(psp_b0 W' H' A c b u v x h1 h2 h3 h4 b0).mono fun _ _ h => h.rg, (rsp_b0 W' H' A c b u v x h1 h2 h3 h4 b0).mono fun _ _ h => h.rg⟩⟩
    by_cases b1 : (W' : Int) ≤ b
    · exact ⟨_, _, _, _, _, Nat.zero_le _, fun x hv => ⟨(psp_b1 W' H' A c b u v x h1 h2 h3 h4 (by omega) b1).mono fun _ _ h => h.rg, (rsp_b1 W' H' A c b u v x h1 h2 h3 h4 (by omega) b1).mono fun _ _ h => h.rg⟩⟩
    by_cases u0 : u < 1
    · exact ⟨_, _, _, _, _, Nat.zero_le _, fun x hv => ⟨(psp_u0 W' H' A c b u v x h1 h2 h3 h4 (by omega) (by omega) u0).mono fun _ _ h => h.rg, (rsp_u0 W' H' A c b u v x h1 h2 h3 h4 (by omega) (by omega) u0).mono fun _ _ h => h.rg⟩⟩
    by_cases v0 : v < 1
    · exact ⟨_, _, _, _, _, Nat.zero_le _, fun x hv => ⟨(psp_v0 W' H' A c b u v x h1 h2 h3 h4 (by omega) (by omega) (by omega) v0).mono fun _ _ h => h.rg, (rsp_v0 W' H' A c b u v x h1 h2 h3 h4 (by omega) (by omega) (by omega) v0).mono fun _ _ h => h.rg⟩⟩
    by_cases u1 : 64 < u
    · exact ⟨_, _, _, _, _, Nat.zero_le _, fun x hv => ⟨(psp_u1 W' H' A c b u v x h1 h2 h3 h4 (by omega) (by omega) (by omega) (by omega) u1).mono fun _ _ h => h.rg, (rsp_u1 W' H' A c b u v x h1 h2 h3 h4 (by omega) (by omega) (by omega) (by omega) u1).mono fun _ _ h => h.rg⟩⟩
    by_cases v1 : 64 < v
    · exact ⟨_, _, _, _, _, Nat.zero_le _, fun x hv => ⟨(psp_v1 W' H' A c b u v x h1 h2 h3 h4 (by omega) (by omega) (by omega) (by omega) (by omega) v1).mono fun _ _ h => h.rg, (rsp_v1 W' H' A c b u v x h1 h2 h3 h4 (by omega) (by omega) (by omega) (by omega) (by omega) v1).mono fun _ _ h => h.rg⟩⟩
    obtain ⟨b', rfl⟩ := Int.eq_ofNat_of_zero_le (show 0 ≤ b by omega)
    obtain ⟨u', rfl⟩ := Int.eq_ofNat_of_zero_le (show 0 ≤ u by omega)
    obtain ⟨v', rfl⟩ := Int.eq_ofNat_of_zero_le (show 0 ≤ v by omega)
    obtain ⟨bb, o, rfl, hb, hcs⟩ := hr.some_ (mul_ge h1 h3)
    have h5 : u' * v' ≤ 4096 := Nat.mul_le_mul (show u' ≤ 64 by omega) (show v' ≤ 64 by omega)
    exact ⟨_, _, _, _, _, (show u' * v' ≤ 5000 by omega), fun x hv => ⟨(psp_ok W' H' bb o c f b' u' v' x (Nat.lt_of_lt_of_le hb hv.size) (fun i hi => (hv.cell (p := ⟨bb, o + i, none⟩) hb).trans (hcs i hi)) h1 h2 h3 h4 (by omega) (by omega) (by omega) (by omega) (by omega)).mono fun _ _ h => h.rg,
      (rsp_ok W' H' (some ⟨bb, o, none⟩) c f b' u' v' x ((hr.below hv).more hv.size) h1 h2 h3 h4 (by omega) (by omega) (by omega) (by omega) (by omega)).mono fun _ _ h => h.rg⟩⟩
  · exact ⟨_, _, _, _, _, Nat.zero_le _, fun x hv => ⟨(psp_err W H A n c b u v x hn _ rfl (by simpa using hx)).mono fun _ _ h => h.rg, (rsp_err W H A n c b u v x hn _ rfl (by simpa using hx)).mono fun _ _ h => h.rg⟩⟩
/-- What lies while a result's cells are turned over. -/
structure FS (w wr : World) (g3 g7 g8 : Nat) (W H : Int) (A : Option Addr) (n c : Nat) (D : Option Addr) (d : Nat) (f : Nat → Bool) (U V : Int) (N k dd : Nat) (F : Nat → Bool) : Prop where
  gx : Box wr g3 W H (.slice A n c)
  wx : Box wr g7 W H (.slice D n d)
  cx : Box wr g8 U V (.slice (some ⟨k, 0, none⟩) N dd)
  row : Row wr k N F
  was : 0 < n → ∃ q, D = some ⟨q, 0, none⟩ ∧ q ≠ k ∧ Row wr q n f
  bel : Below w.heap.size w wr
  k0 : w.heap.size ≤ k
  n3 : g3 ≠ k
  n7 : g7 ≠ k
  n8 : g8 ≠ k
theorem FS.put {w wr : World} {g3 g7 g8 : Nat} {W H : Int} {A : Option Addr} {n c : Nat} {D : Option Addr} {d : Nat} {f : Nat → Bool} {U V : Int} {N k dd : Nat} {F : Nat → Bool} (h : FS w wr g3 g7 g8 W H A n c D d f U V N k dd F) (x : Nat) (b : Bool) :
    FS w (wr.setCell ⟨k, x, none⟩ (.bool b)).drew g3 g7 g8 W H A n c D d f U V N k dd (fun j => if j = x then b else F j) :=
  ⟨(h.gx.far h.n3 _).drew, (h.wx.far h.n7 _).drew, (h.cx.far h.n8 _).drew, (h.row.set_ x b).drew, fun hn => (h.was hn).imp fun _ ⟨p, q, r⟩ => ⟨p, q, (r.far q _).drew⟩, (h.bel.setCell h.k0 _).drew, h.k0, h.n3, h.n7, h.n8⟩
theorem FS.holds {w wr : World} {g3 g7 g8 : Nat} {W H : Int} {A : Option Addr} {n c : Nat} {D : Option Addr} {d : Nat} {f : Nat → Bool} {U V : Int} {N k dd : Nat} {F : Nat → Bool} (h : FS w wr g3 g7 g8 W H A n c D d f U V N k dd F) : Holds wr wr.heap.size D n f := fun hn => by
  obtain ⟨q, rfl, _, hr⟩ := h.was hn
  exact hr.holds hr.lt hn
end Go.Proofs.Ytjbofdgdcnfmoaa
