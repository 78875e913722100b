/- What the library's variables hold, in a later world; strconv.Itoa, strconv.Atoi, the program's 'word' and 'element'. -/
import Derived.Test.YtcmpoblbjjoaiaaDoorBase
import Derived.Test.YtcmpoblbjjoaiaaDoorShelf
import Derived.Test.YtcmpoblbjjoaiaaDoorWrd
import Derived.Lib.AppendIntMem
import Derived.Lib.AtoiErrMem
namespace Go.Proofs.YtcmpoblbjjoaiaaDoor
open Go.RowKit
set_option linter.unusedVariables false
set_option linter.unusedSimpArgs false
set_option maxRecDepth 100000

theorem gT : Tryd.prog.globalNamed "internal/strconv.uint64pow10" = some 3 := by kernel_rfl
theorem gS : Tryd.prog.globalNamed "strconv.ErrSyntax" = some 1 := by kernel_rfl
theorem gR : Tryd.prog.globalNamed "strconv.ErrRange" = some 2 := by kernel_rfl

theorem var_below {P : Program} {B g : Nat} {w w' : World} {n : String} {cs : Array Value} (h : Below B w w') (hg : P.globalNamed n = some g) (hgB : g < B) (hv : w.var? P n = some cs) : w'.var? P n = some cs := by
  unfold World.var? at hv ⊢
  rw [hg] at hv ⊢
  simp only [Option.bind_some] at hv ⊢
  rw [h.block g hgB]
  exact hv

/-- The library's variables, as the row lists them. -/
structure Env (w : World) : Prop where
  lo : 5 < w.heap.size
  len : ∃ m, w.cell? ⟨0, 0, none⟩ = some (.int .i64 m)
  tab : Lib.TabIs Tryd.prog w "internal/strconv.uint64pow10" .u64 Lib.pow10Tab
  syn : ∃ tp p, w.var? Tryd.prog "strconv.ErrSyntax" = some #[.iface tp p]
  rng : ∃ tp p, w.var? Tryd.prog "strconv.ErrRange" = some #[.iface tp p]
theorem Env.below {B : Nat} {w w' : World} (h : Env w) (hB : 5 < B) (hb : Below B w w') : Env w' := by
  obtain ⟨m, hm⟩ := h.len
  obtain ⟨t1, p1, h1⟩ := h.syn
  obtain ⟨t2, p2, h2⟩ := h.rng
  exact ⟨Nat.lt_of_lt_of_le h.lo hb.size, ⟨m, (hb.cell (p := ⟨0, 0, none⟩) (by simp; omega)).trans hm⟩, var_below hb gT (by omega) h.tab, ⟨t1, p1, var_below hb gS (by omega) h1⟩, ⟨t2, p2, var_below hb gR (by omega) h2⟩⟩
theorem Env.next {w w' : World} (h : Env w) (hb : Below w.heap.size w w') : Env w' := h.below h.lo hb

theorem itoa_env (z : Int) (n : Nat) (hz : z = n) (hn : n ≤ 100000) (w : World) (h : Env w) : Calls Tryd.prog 53 #[.int .i64 z] w fun e w' => e = .returned (.string ⟨(dd n).toArray⟩) ∧ Below w.heap.size w w' := by
  subst hz
  refine (Tryd.strconv_Itoa n (by omega) (by omega) w h.tab).mono ?_
  rintro e w' ⟨he, k, os, hw⟩
  refine ⟨by rw [he, Lib.itoa_nonneg]; rfl, ?_⟩
  rw [hw]
  exact Lib.below_grow _ _ (Nat.le_refl _) _ _

set_option maxHeartbeats 400000 in
theorem word_any (v : Nat) (hv : v ≤ 1000) (w : World) (h : Env w) : Calls Tryd.prog 44 #[.int .i64 v] w fun e w' => e = .returned (.string ⟨(dd (v + 1)).toArray⟩) ∧ Below w.heap.size w w' := by
  have HI := Lib.hid (itoa_env ((v : Int) + 1) (v + 1) (by omega) (by omega) w h)
  go_enter Tryd.func44, Tryd.ntmps44
  go_wp2_with fail
  refine HI.out.mono ?_
  rintro e w' ⟨rfl, hb⟩
  go_wp2
  go_ret
  exact ⟨rfl, hb⟩

/-- strconv.Atoi: the number and no error, or an error. -/
def AtOut (l : List UInt8) (w : World) (e : Ending) (w' : World) : Prop :=
  (∃ v : Int, Lib.atoiAll l = .ok v ∧ e = .returned (.tuple #[.int .i64 v, .nilIface]) ∧ Below w.heap.size w w') ∨
  ((∀ v : Int, Lib.atoiAll l ≠ .ok v) ∧ ∃ z N, e = .returned (.tuple #[.int .i64 z, .iface 96 (.pointer (some ⟨N, 0, none⟩))]) ∧ Below w.heap.size w w')
theorem atoi_env (s : ByteArray) (hs : s.size ≤ 1000000) (w : World) (h : Env w) : Calls Tryd.prog 51 #[.string s] w (AtOut s.data.toList w) := by
  unfold AtOut
  rcases ha : Lib.atoiAll s.data.toList with v | _ | _
  · refine (Tryd.strconv_Atoi_ok s (by omega) v ha w).mono fun e w' ⟨he, hw⟩ => .inl ⟨v, rfl, he, ?_⟩
    rcases hw with rfl | ⟨t, rfl⟩
    · exact Below.refl _ _
    · exact Lib.bytesWorld_below _ _ _
  · obtain ⟨tp, p, hv⟩ := h.syn
    exact (Any.strconv_Atoi_syntax_var Tryd.laysC172 s (by omega) ha tp p w hv).mono fun e w' ⟨N, he, _, _, hb⟩ => .inr ⟨(fun v hv => by cases hv), 0, N, he, hb⟩
  · obtain ⟨tp, p, hv⟩ := h.rng
    exact (Any.strconv_Atoi_range_var Tryd.laysC172 s (by omega) ha tp p w hv).mono fun e w' ⟨N, he, _, _, hb⟩ => .inr ⟨(fun v hv => by cases hv), _, N, he, hb⟩

theorem bytes_toList (s : ByteArray) : s.toList = s.data.toList := by
  exact ByteArray.toList_eq s

/-- The element that a word writes, or none. -/
def ElOut (l : List UInt8) (w : World) (e : Ending) (w' : World) : Prop :=
  ((∃ v : Nat, wd l = some v ∧ e = .returned (.tuple #[.int .i64 v, .bool true])) ∨ (wd l = none ∧ e = .returned (.tuple #[.int .i64 0, .bool false]))) ∧ Below w.heap.size w w'

set_option maxHeartbeats 1600000 in
theorem element_any (s : ByteArray) (hs : s.size ≤ 1000000) (w : World) (h : Env w) : Calls Tryd.prog 41 #[.string s] w (ElOut s.data.toList w) := by
  have HE := Lib.hid h
  have HA := Lib.hid (atoi_env s hs w h)
  obtain ⟨l, hl⟩ : ∃ l, s.data.toList = l := ⟨_, rfl⟩
  rw [hl] at HA ⊢
  have HL := Lib.hid hl
  clear h hl
  go_enter Tryd.func41, Tryd.ntmps41
  go_wp2_with fail
  refine HA.out.mono ?_
  rintro e w1 (⟨v, hv, rfl, hb⟩ | ⟨hv, z, N, rfl, hb⟩)
  · have HB := Lib.hid hb
    have HV := Lib.hid hv
    have HE1 := Lib.hid (HE.out.next hb)
    clear hb hv
    by_cases g1 : v < 1
    · have d1 : decide (v < 1) = true := by simp [g1]
      have HW : Hid (wd l = none) := Lib.hid (by
        cases hw : wd l with
        | none => rfl
        | some u =>
          obtain ⟨h1, h2⟩ := wd_spec hw
          have := dd_atoi (n := u + 1) (by omega)
          rw [h2, HV.out] at this
          injection this
          omega)
      clear g1
      go_wp2
      go_ret2
      exact ⟨.inr ⟨HW.out, rfl⟩, HB.out⟩
    · have d1 : decide (v < 1) = false := by simp [g1]
      by_cases g2 : 400 < v
      · have d2 : decide (400 < v) = true := by simp [g2]
        have HW : Hid (wd l = none) := Lib.hid (by
          cases hw : wd l with
          | none => rfl
          | some u =>
            obtain ⟨h1, h2⟩ := wd_spec hw
            have := dd_atoi (n := u + 1) (by omega)
            rw [h2, HV.out] at this
            injection this
            omega)
        clear g1 g2
        go_wp2
        go_ret2
        exact ⟨.inr ⟨HW.out, rfl⟩, HB.out⟩
      · have d2 : decide (400 < v) = false := by simp [g2]
        obtain ⟨u, rfl⟩ : ∃ u : Nat, v = (u : Int) + 1 := ⟨(v - 1).toNat, by omega⟩
        have hu : u < 400 := by omega
        have e1 : (u : Int) + 1 - 1 = u := by omega
        have HWd := Lib.hid (word_any u (by omega) w1 HE1.out)
        by_cases g3 : dd (u + 1) = l
        · have z3 : (dd (u + 1) == s.toList) = true := by
            rw [bytes_toList, HL.out, g3]; simp
          have HW := Lib.hid (wd_of hu g3)
          clear g1 g2 g3
          go_wp2_with fail
          refine HWd.out.mono ?_
          rintro e w2 ⟨rfl, hb⟩
          have HB2 := Lib.hid (HB.out.trans (hb.mono HB.out.size))
          clear hb
          go_wp2
          go_ret2
          exact ⟨.inl ⟨u, HW.out, rfl⟩, HB2.out⟩
        · have z3 : (dd (u + 1) == s.toList) = false := by
            rw [bytes_toList, HL.out]; simpa using g3
          have HW : Hid (wd l = none) := Lib.hid (by
            cases hw : wd l with
            | none => rfl
            | some x =>
              obtain ⟨h1, h2⟩ := wd_spec hw
              have := dd_atoi (n := x + 1) (by omega)
              rw [h2, HV.out] at this
              injection this
              obtain rfl : u = x := by omega
              exact absurd h2 g3)
          clear g1 g2 g3
          go_wp2_with fail
          refine HWd.out.mono ?_
          rintro e w2 ⟨rfl, hb⟩
          have HB2 := Lib.hid (HB.out.trans (hb.mono HB.out.size))
          clear hb
          go_wp2
          go_ret2
          exact ⟨.inr ⟨HW.out, rfl⟩, HB2.out⟩
  · have HW : Hid (wd l = none) := Lib.hid (by
      cases hw : wd l with
      | none => rfl
      | some u =>
        obtain ⟨h1, h2⟩ := wd_spec hw
        have := dd_atoi (n := u + 1) (by omega)
        rw [h2] at this
        exact absurd this (hv _))
    have HB := Lib.hid hb
    clear hb hv
    go_wp2
    go_ret2
    exact ⟨.inr ⟨HW.out, rfl⟩, HB.out⟩
end Go.Proofs.YtcmpoblbjjoaiaaDoor
