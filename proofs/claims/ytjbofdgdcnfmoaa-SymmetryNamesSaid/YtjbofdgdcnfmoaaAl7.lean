/- The chapter's examples of layer 7 hold: alive. -/
import Derived.Test.YtjbofdgdcnfmoaaCl7
namespace Go.Proofs.Ytjbofdgdcnfmoaa
open Go.RowKit
set_option maxRecDepth 100000
set_option linter.unusedVariables false
set_option linter.unusedSimpArgs false

set_option maxHeartbeats 3200000 in
theorem alive7_any (w : World) : Calls Try.prog 56 #[] w fun e w' => e = .returned (.bool true) ∧ Below w.heap.size w w' := by
  have LB0 := Lib.hid (Below.refl w.heap.size w)
  go_enter Try.func56, Try.ntmps56
  go_wp2_with fail
  refine (c7_ea _).mono ?_
  rintro e w1 ⟨ka, rfl, hk, hrow, hb⟩
  have Cka1 := Lib.hid (hrow)
  clear hk hrow
  have LB1 := Lib.hid (LB0.out.trans (hb.mono LB0.out.size))
  clear hb LB0
  go_wp2_with fail
  refine (all_ea _ ka Cka1.out).mono ?_
  rintro e w2 ⟨E1, e1, rfl, hr, hb⟩
  clear hr
  have LB2 := Lib.hid (LB1.out.trans (hb.mono LB1.out.size))
  have Cka2 := Lib.hid (Cka1.out.below hb Cka1.out.lt)
  clear hb LB1 Cka1
  clear Cka2
  go_wp2_with fail
  refine (twill_any _).mono ?_
  rintro e w3 ⟨kb, rfl, hk, hrow, hb⟩
  have Ckb3 := Lib.hid (hrow)
  clear hk hrow
  have LB3 := Lib.hid (LB2.out.trans (hb.mono LB2.out.size))
  clear hb LB2
  go_wp2_with fail
  refine (all_tw _ kb Ckb3.out).mono ?_
  rintro e w4 ⟨E2, e2, rfl, hr, hb⟩
  have La4 := Lib.hid (LV.of hr)
  clear hr
  have LB4 := Lib.hid (LB3.out.trans (hb.mono LB3.out.size))
  have Ckb4 := Lib.hid (Ckb3.out.below hb Ckb3.out.lt)
  clear hb LB3 Ckb3
  clear Ckb4
  go_wp2_with fail
  refine (comp14 _).mono ?_
  rintro e w5 ⟨rfl, hb⟩
  have LB5 := Lib.hid (LB4.out.trans (hb.mono LB4.out.size))
  have La5 := Lib.hid (La4.out.next hb)
  clear hb LB4 La4
  go_wp2_with fail
  refine (comp41 _).mono ?_
  rintro e w6 ⟨rfl, hb⟩
  have LB6 := Lib.hid (LB5.out.trans (hb.mono LB5.out.size))
  have La6 := Lib.hid (La5.out.next hb)
  clear hb LB5 La5
  go_wp2_with fail
  refine (inv5 _).mono ?_
  rintro e w7 ⟨rfl, hb⟩
  have LB7 := Lib.hid (LB6.out.trans (hb.mono LB6.out.size))
  have La7 := Lib.hid (La6.out.next hb)
  clear hb LB6 La6
  go_wp2_with fail
  refine (c7_xx _).mono ?_
  rintro e w8 ⟨kc, rfl, hk, hrow, hb⟩
  have Ckc8 := Lib.hid (hrow)
  clear hk hrow
  have LB8 := Lib.hid (LB7.out.trans (hb.mono LB7.out.size))
  have La8 := Lib.hid (La7.out.next hb)
  clear hb LB7 La7
  go_wp2_with fail
  refine (least_xx _ kc Ckc8.out).mono ?_
  rintro e w9 ⟨j, d1, rfl, hrow, hb⟩
  have hba := (show Below _ _ (w9.alloc (.cells #[.int .i64 1, .int .i64 1, .slice (some ⟨j, 0, none⟩) 1 d1] 24)) from hb.trans (((Below.refl _ _).alloc (Nat.le_refl _) _).mono hb.size))
  have Vb9 := Lib.hid (Box.new w9 1 1 (.slice (some ⟨j, 0, none⟩) 1 d1))
  have Rb9 := Lib.hid (hrow.alloc (.cells #[.int .i64 1, .int .i64 1, .slice (some ⟨j, 0, none⟩) 1 d1] 24))
  clear hb hrow
  have LB9 := Lib.hid (LB8.out.trans (hba.mono LB8.out.size))
  have La9 := Lib.hid (La8.out.next hba)
  have Ckc9 := Lib.hid (Ckc8.out.below hba Ckc8.out.lt)
  clear hba LB8 La8 Ckc8
  clear Ckc9
  go_upto_region 7 with fail
  obtain ⟨gv, hgv⟩ : ∃ gv, w9.heap.size = gv := ⟨_, rfl⟩
  simp only [hgv] at Vb9 ⊢
  obtain ⟨u0, hu0⟩ : ∃ u0, w9.alloc (.cells #[.int .i64 1, .int .i64 1, .slice (some ⟨j, 0, none⟩) 1 d1] 24) = u0 := ⟨_, rfl⟩
  simp only [hu0] at Vb9 Rb9 La9 LB9 ⊢
  clear hu0 hgv
  have HS : Hid (∀ w', Below u0.heap.size u0 w' → w'.cell? ⟨gv, 0, none⟩ = some (.int .i64 1) ∧ w'.cell? ⟨gv, 1, none⟩ = some (.int .i64 1) ∧ w'.cell? ⟨gv, 2, none⟩ = some (.slice (some ⟨j, 0, none⟩) 1 d1)) := Lib.hid (fun w' h => ⟨(Vb9.out.below h Vb9.out.lt).c0, (Vb9.out.below h Vb9.out.lt).c1, (Vb9.out.below h Vb9.out.lt).c2⟩)
  have hz1 := Lib.hid (Below.refl u0.heap.size u0).drew
  have hz2 := Lib.hid (fun o => ((Below.refl u0.heap.size u0).alloc (Nat.le_refl _) o).drew)
  have HA := Lib.hid (show Calls Try.prog 53 #[.slice E2 8 e2, .slice (some ⟨u0.heap.size, 0, none⟩) 8 8] (u0.alloc (.cells #[.int .i64 0, .int .i64 3, .int .i64 4, .int .i64 7, .int .i64 8, .int .i64 11, .int .i64 12, .int .i64 15] 3)).drew fun e w' => e = .returned (.bool true) ∧ Below (u0.alloc (.cells #[.int .i64 0, .int .i64 3, .int .i64 4, .int .i64 7, .int .i64 8, .int .i64 11, .int .i64 12, .int .i64 15] 3)).heap.size (u0.alloc (.cells #[.int .i64 0, .int .i64 3, .int .i64 4, .int .i64 7, .int .i64 8, .int .i64 11, .int .i64 12, .int .i64 15] 3)).drew w' from
    lv_same (by omega) (La9.out.next (hz2.out _)) ((lv_lit u0 [0, 3, 4, 7, 8, 11, 12, 15] #[.int .i64 0, .int .i64 3, .int .i64 4, .int .i64 7, .int .i64 8, .int .i64 11, .int .i64 12, .int .i64 15] rfl).next (Below.refl _ _).drew) e2 8 (by decide))
  have hbz := Lib.hid (hz2.out (.cells #[.int .i64 0, .int .i64 3, .int .i64 4, .int .i64 7, .int .i64 8, .int .i64 11, .int .i64 12, .int .i64 15] 3))
  have hsz : u0.heap.size ≤ (u0.alloc (.cells #[.int .i64 0, .int .i64 3, .int .i64 4, .int .i64 7, .int .i64 8, .int .i64 11, .int .i64 12, .int .i64 15] 3)).heap.size := by simp
  go_region_held3 (fun w' => w'.cell? ⟨gv, 0, none⟩ = some (.int .i64 1) ∧ w'.cell? ⟨gv, 1, none⟩ = some (.int .i64 1) ∧ w'.cell? ⟨gv, 2, none⟩ = some (.slice (some ⟨j, 0, none⟩) 1 d1))
    (first
      | with_reducible exact HS.out _ hb9
      | with_reducible exact HS.out _ hb8
      | with_reducible exact HS.out _ hb7
      | exact HS.out _ (hz2.out _)
      | exact HS.out _ hz1.out)
    (first
      | (go_at_call 53
         with_reducible refine Calls.mono HA.out ?_
         rintro e u1 ⟨rfl, hb⟩
         have hb7 := hbz.out.trans (hb.mono hsz))
      | (go_at_call 45
         with_reducible refine Calls.mono (c7_dot _) ?_
         rintro e u2 ⟨kd, rfl, hk, hrow, hbk⟩
         have hb8 := hb7.trans (hbk.mono hb7.size)
         have HRd := Lib.hid hrow)
      | (go_at_call 39
         with_reducible refine Calls.mono (same_dot _ j kd d1 (Rb9.out.below hb8 Rb9.out.lt) HRd.out) ?_
         rintro e u3 ⟨rfl, hbs⟩
         have hb9 := hb8.trans (hbs.mono hb8.size)))
  all_goals
    go_wp2
    go_ret
    exact ⟨rfl, LB9.out.trans (hb9.mono LB9.out.size)⟩
end Go.Proofs.Ytjbofdgdcnfmoaa
