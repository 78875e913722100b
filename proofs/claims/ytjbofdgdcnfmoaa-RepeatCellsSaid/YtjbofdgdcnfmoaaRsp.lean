/- Spread by the reference; both sides of it. -/
import Derived.Test.YtjbofdgdcnfmoaaSpr
namespace Go.Proofs.Ytjbofdgdcnfmoaa
open Go.RowKit
set_option maxRecDepth 100000
set_option linter.unusedVariables false
set_option linter.unusedSimpArgs false

set_option maxHeartbeats 1600000 in
theorem rsp_ok (W H : Nat) (D : Option Addr) (c : Nat) (f : Nat → Bool) (b U V : Nat) (w : World) (hr : Holds w w.heap.size D (W * H) f) (hW0 : 1 ≤ W) (hW : W ≤ 64) (hH0 : 1 ≤ H) (hH : H ≤ 64) (hb : b < W) (hU0 : 1 ≤ U) (hU : U ≤ 64) (hV0 : 1 ≤ V) (hV : V ≤ 64) :
    Calls Try.prog 36 #[.agg #[.int .i64 (W : Nat), .int .i64 (H : Nat), .slice D (W * H) c], .int .i64 (b : Nat), .int .i64 (U : Nat), .int .i64 (V : Nat)] w (OkGrid w U V fun i => spf W H f b (i % U) (i / U)) := by
  have HR := Lib.hid hr
  clear hr
  go_enter Try.func36, Try.ntmps36
  go_wp2_with fail
  refine (rchk_valid D c _ hW0 hW hH0 hH).mono ?_
  rintro e w1 ⟨rfl, hb1⟩
  obtain ⟨hbox1, hbox2, hbel1, hsz1⟩ := after2 hb1
  clear hb1
  have L1 := Lib.hid hbel1
  have R1 := Lib.hid hbox2
  have X1 := Lib.hid hbox1
  clear hbel1 hbox2
  obtain ⟨q0, q1, q2, q3, q4, q5, q6⟩ := hbox1.all
  go_wp2_with fail
  clear hbox1 q0 q1 q2 q3 q4 q5 q6
  refine (zero_int _ _ U V (rfl) (rfl) (by omega) (by omega) _).mono ?_
  rintro e w3 ⟨k, rfl, hk, hrow, hb⟩
  have hs3 := hb.size
  have R0 := Lib.hid (⟨(X1.out.below hb X1.out.lt).alloc _, (R1.out.below hb R1.out.lt).alloc _, Box.new w3 U V _, (hrow.alloc _).congr (fun i _ => by rw [cp_zero]),
    HR.out.below ((L1.out.trans (hb.mono L1.out.size)).alloc (Nat.le_trans L1.out.size hb.size) _), (L1.out.trans (hb.mono L1.out.size)).alloc (Nat.le_trans L1.out.size hb.size) _, by omega, by omega, hrow.lt⟩ :
    DR w (w3.alloc (.cells #[.int .i64 U, .int .i64 V, .slice (some ⟨k, 0, none⟩) (U * V) (U * V)] 24)) W H D c f (w.heap.size + 1) w3.heap.size k U V (cp (· % U) (· / U) (fun x y => spf W H f b x y) 0 0))
  clear R1 L1 X1 hb hrow
  have R00 := R0.out
  obtain ⟨q0, q1, q2, q3, q4, q5⟩ := R00.six
  clear R00
  go_wp2
  clear q0 q1 q2 q3 q4 q5
  go_loopw [11] (fun i wr => ∃ x : Nat, x ≤ U ∧ i = .int .i64 x ∧ Hid (DR w wr W H D c f (w.heap.size + 1) w3.heap.size k U V (cp (· % U) (· / U) (fun x y => spf W H f b x y) x 0))) (fun i _ => U - (intOf i).toNat)
  case atStart => exact ⟨0, Nat.zero_le _, rfl, R0⟩
  case round =>
    obtain ⟨x, hx, rfl, R1⟩ := hrel
    obtain ⟨wo, rfl⟩ : ∃ wo : World, wo = wr := ⟨_, rfl⟩
    by_cases hlx : x < U
    · go_wp2
      go_loopw [12] (fun i wr => ∃ y : Nat, y ≤ V ∧ i = .int .i64 y ∧ Hid (DR w wr W H D c f (w.heap.size + 1) w3.heap.size k U V (cp (· % U) (· / U) (fun x y => spf W H f b x y) x y))) (fun i _ => V - (intOf i).toNat)
      case atStart => exact ⟨0, Nat.zero_le _, rfl, R1⟩
      case round =>
        obtain ⟨y, hy, rfl, R2⟩ := hrel
        by_cases hly : y < V
        · obtain ⟨q0, q1, q2, q3, q4, q5⟩ := R2.out.six
          have e1 : (y : Int).tdiv (H : Int) = ((y / H : Nat) : Int) := by rw [Int.tdiv_eq_ediv_of_nonneg (by omega), Int.natCast_ediv]
          have e2 : ¬ (H : Int) = 0 := by omega
          have e10 : ¬ H = 0 := by omega
          have m4 : y / H ≤ y := Nat.div_le_self _ _
          have m5 : b * (y / H) ≤ 4096 := Nat.mul_le_mul (show b ≤ 64 by omega) (show y / H ≤ 64 by omega)
          have e3 : (b : Int) * ((y / H : Nat) : Int) = ((b * (y / H) : Nat) : Int) := by rw [Int.natCast_mul]
          have HT := Lib.hid (show spf W H f b x y = f (((y : Int) % (H : Int)) * W + ((x : Int) - ((b * (y / H) : Nat) : Int)) % (W : Int)).toNat by
            unfold spf
            have n1 := Int.emod_nonneg ((x : Int) - ((b * (y / H) : Nat) : Int)) (show (W : Int) ≠ 0 by omega)
            obtain ⟨m, hm⟩ := Int.eq_ofNat_of_zero_le n1
            rw [hm, show ((y : Int) % (H : Int)) = ((y % H : Nat) : Int) by omega, ← Int.natCast_mul]
            congr 1)
          have HK := Lib.hid (fun w' (h : Below wr.heap.size wr w') => (R2.out.next h).six)
          have HA := fun w' (h : Below wr.heap.size wr w') => at6_any W H D c f ((x : Int) - ((b * (y / H) : Nat) : Int)) y w' ((R2.out.next h).cells.more (Nat.le_trans R2.out.bel.size h.size)) hW0 hW hH0 hH (by omega) (by omega) (by omega) (by omega)
          rw [← HT.out] at HA
          have HA := Lib.hid HA
          have HG := Lib.hid (show (fun x y => spf W H f b x y) x y = spf W H f b x y from rfl)
          clear HT
          generalize b * (y / H) = P at *
          generalize y / H = Q at *
          have e5 : IntKind.i64.wrap ((b : Int) * (Q : Int)) = (P : Int) := by rw [e3]; exact IntWalk.i64_in _ (by omega)
          have e8 : IntKind.i64.wrap (Q : Int) = (Q : Int) := IntWalk.i64_in _ (by omega)
          have e9 : IntKind.i64.wrap (P : Int) = (P : Int) := IntWalk.i64_in _ (by omega)
          have e6 : IntKind.i64.wrap ((x : Int) - (P : Int)) = (x : Int) - (P : Int) := IntWalk.i64_in _ (by omega)
          go_wp2
          go_region_held3 (fun w' => w'.cell? ⟨w.heap.size, 0, none⟩ = some (.int .i64 W) ∧ w'.cell? ⟨w.heap.size, 1, none⟩ = some (.int .i64 H) ∧ w'.cell? ⟨w.heap.size, 2, none⟩ = some (.slice D (W * H) c) ∧ w'.cell? ⟨w3.heap.size, 0, none⟩ = some (.int .i64 U) ∧ w'.cell? ⟨w3.heap.size, 1, none⟩ = some (.int .i64 V) ∧ w'.cell? ⟨w3.heap.size, 2, none⟩ = some (.slice (some ⟨k, 0, none⟩) (U * V) (U * V)))
            (first
              | exact hS3
              | exact HK.out _ hb2'
              | exact HK.out _ (Below.refl _ _).drew)
            (first
              | (go_at_call 81
                 with_reducible refine (HA.out _ (Below.refl _ _).drew).mono ?_
                 rintro e w5 ⟨rfl, hb2⟩
                 have hb2' : Below wr.heap.size wr w5 := (Below.refl _ _).drew.trans hb2)
              | (go_at_call 80
                 refine (set_nat U V k (U * V) x y _ _ _ (R2.out.next hb2').row (by omega) (by omega) x y rfl rfl hlx hly).mono ?_
                 rintro e w4 ⟨rfl, hr3, hb3⟩
                 have hR3 := Lib.hid ((R2.out.next hb2').but hb3 hr3)
                 have hS3 := hR3.out.six))
          all_goals
            go_wp2
            exact ⟨⟨y + 1, by omega, by go_num, Lib.hid (hR3.out.congr fun i hi => cp_succ (plain_at hlx hi))⟩, by simp [intOf]; omega⟩
        · have e : y = V := by omega
          subst e
          go_wp2
          exact ⟨⟨x + 1, by omega, by go_num, Lib.hid (R2.out.congr fun i hi => cp_next (div_bd hi))⟩, by simp [intOf]; omega⟩
    · have e : x = U := by omega
      subst e
      obtain ⟨q0, q1, q2, q3, q4, q5⟩ := R1.out.six
      obtain ⟨p0, p1, p2, p3, p4, p5, p6⟩ := R1.out.res.all
      go_wp2
      refine bodyPost_ret (v := .tuple #[.agg #[.int .i64 x, .int .i64 V, .slice (some ⟨k, 0, none⟩) (x * V) (x * V)], .int .i64 0]) (by simp [results, Try.results36, go_sem, p0, p1, p2]) rfl ?_
      have s1 := R1.out.s1
      exact fin_ok (by omega) (by omega) (R1.out.row.congr fun i hi => cp_all (Nat.mod_lt _ (by omega))) R1.out.bel
end Go.Proofs.Ytjbofdgdcnfmoaa
