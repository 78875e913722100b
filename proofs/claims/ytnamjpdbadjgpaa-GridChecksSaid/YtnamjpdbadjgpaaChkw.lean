/- The walk of the statement GridChecks. -/
import Derived.Test.YtnamjpdbadjgpaaGv
import Derived.Test.YtnamjpdbadjgpaaEq
import Derived.Test.YtnamjpdbadjgpaaRparse
import Derived.Test.YtnamjpdbadjgpaaBackw
import Derived.Test.YtnamjpdbadjgpaaFam
namespace Go.Proofs.Ytnamjpdbadjgpaa
open Go.RowKit
set_option linter.unusedVariables false
set_option linter.unusedSimpArgs false

set_option maxRecDepth 100000 in
set_option maxHeartbeats 8000000 in
theorem checks_text (W H X Y : Int) (A D : Option Addr) (n c m d : Nat) (s ts : ByteArray) (cn ce te ke : Int) (u : Bool) (P Q : Nat) (F : Nat → Bool) (w : World) (hs : s.size ≤ 5000)
    (HG1 : ∀ v, Calls Try.prog 24 #[.agg #[.int .i64 W, .int .i64 H, .slice A n c]] v fun e w' => e = .returned (.bool false) ∧ Below v.heap.size v w')
    (HG2 : ∀ v, Calls Try.prog 24 #[.agg #[.int .i64 X, .int .i64 Y, .slice D m d]] v fun e w' => e = .returned (.bool false) ∧ Below v.heap.size v w')
    (HC1 : ∀ v, Below w.heap.size w v → Calls Try.prog 25 #[.agg #[.int .i64 W, .int .i64 H, .slice A n c]] v fun e w' => e = .returned (.tuple #[.int .i64 cn, .int .i64 ce]) ∧ Below v.heap.size v w')
    (HC2 : ∀ v, Below w.heap.size w v → Calls Try.prog 26 #[.agg #[.int .i64 W, .int .i64 H, .slice A n c]] v fun e w' => e = .returned (.tuple #[.int .i64 cn, .int .i64 ce]) ∧ Below v.heap.size v w')
    (HT1 : ∀ v, Below w.heap.size w v → Calls Try.prog 27 #[.agg #[.int .i64 W, .int .i64 H, .slice A n c]] v fun e w' => e = .returned (.tuple #[.string ts, .int .i64 te]) ∧ Below v.heap.size v w')
    (HT2 : ∀ v, Below w.heap.size w v → Calls Try.prog 28 #[.agg #[.int .i64 W, .int .i64 H, .slice A n c]] v fun e w' => e = .returned (.tuple #[.string ts, .int .i64 te]) ∧ Below v.heap.size v w')
    (HK1 : ∀ v, Calls Try.prog 20 #[.agg #[.int .i64 W, .int .i64 H, .slice A n c]] v fun e w' => e = .returned (.int .i64 ke) ∧ Below v.heap.size v w')
    (HK2 : ∀ v, Calls Try.prog 31 #[.agg #[.int .i64 W, .int .i64 H, .slice A n c]] v fun e w' => e = .returned (.int .i64 ke) ∧ Below v.heap.size v w')
    (HS1 : ∀ v, Below w.heap.size w v → Calls Try.prog 21 #[.agg #[.int .i64 W, .int .i64 H, .slice A n c], .agg #[.int .i64 X, .int .i64 Y, .slice D m d]] v fun e w' => e = .returned (.bool u) ∧ Below v.heap.size v w')
    (HS2 : ∀ v, Below w.heap.size w v → Calls Try.prog 32 #[.agg #[.int .i64 W, .int .i64 H, .slice A n c], .agg #[.int .i64 X, .int .i64 Y, .slice D m d]] v fun e w' => e = .returned (.bool u) ∧ Below v.heap.size v w')
    (HP1 : ∀ v, Calls Try.prog 29 #[.string s] v (OkGrid v P Q F))
    (HP2 : ∀ v, Calls Try.prog 30 #[.string s] v (OkGrid v P Q F))
    (HE : ∀ v k l, Row v k (P * Q) F → Row v l (P * Q) F → Calls Try.prog 32 #[.agg #[.int .i64 P, .int .i64 Q, .slice (some ⟨k, 0, none⟩) (P * Q) (P * Q)], .agg #[.int .i64 P, .int .i64 Q, .slice (some ⟨l, 0, none⟩) (P * Q) (P * Q)]] v fun e w' => e = .returned (.bool true) ∧ Below v.heap.size v w') :
    Calls Try.prog 4 #[.agg #[.int .i64 W, .int .i64 H, .slice A n c], .agg #[.int .i64 X, .int .i64 Y, .slice D m d], .string s] w fun e w' => e = .returned (.bool true) ∧ Below w.heap.size w w' := by
  have HG1 := Lib.hid HG1
  have HG2 := Lib.hid HG2
  have HC1 := Lib.hid HC1
  have HC2 := Lib.hid HC2
  have HT1 := Lib.hid HT1
  have HT2 := Lib.hid HT2
  have HK1 := Lib.hid HK1
  have HK2 := Lib.hid HK2
  have HS1 := Lib.hid HS1
  have HS2 := Lib.hid HS2
  have HP1 := Lib.hid HP1
  have HP2 := Lib.hid HP2
  have HE := Lib.hid HE
  have hd : decide ((5000 : Int) < (s.size : Int)) = false := by simp; omega
  have z1 : (cn == cn) = true := by simp
  have z2 : (ce == ce) = true := by simp
  have z3 : (te == te) = true := by simp
  have z4 : (ke == ke) = true := by simp
  have z5 : (u == u) = true := by cases u <;> rfl
  have L0 := Lib.hid (LB.start w W H X Y A D n c m d)
  go_enter Try.func4, Try.ntmps4
  obtain ⟨pz0, pz1, pz2, pz3, pz4, pz5, pz6⟩ := L0.out.a.all
  obtain ⟨py0, py1, py2, py3, py4, py5, py6⟩ := L0.out.b.all
  go_wp2_with fail
  refine (HG1.out _).mono ?_
  rintro e u1 ⟨rfl, hb⟩
  have L1 := Lib.hid (L0.out.next hb)
  clear hb L0 pz0 pz1 pz2 pz3 pz4 pz5 pz6 py0 py1 py2 py3 py4 py5 py6
  obtain ⟨pz0, pz1, pz2, pz3, pz4, pz5, pz6⟩ := L1.out.a.all
  obtain ⟨py0, py1, py2, py3, py4, py5, py6⟩ := L1.out.b.all
  go_wp2_with fail
  refine (HG2.out _).mono ?_
  rintro e u2 ⟨rfl, hb⟩
  have L2 := Lib.hid (L1.out.next hb)
  clear hb L1 pz0 pz1 pz2 pz3 pz4 pz5 pz6 py0 py1 py2 py3 py4 py5 py6
  obtain ⟨pz0, pz1, pz2, pz3, pz4, pz5, pz6⟩ := L2.out.a.all
  go_wp2_with fail
  refine (HC1.out _ L2.out.bel).mono ?_
  rintro e u3 ⟨rfl, hb⟩
  have L3 := Lib.hid (L2.out.next hb)
  clear hb L2 pz0 pz1 pz2 pz3 pz4 pz5 pz6
  obtain ⟨pz0, pz1, pz2, pz3, pz4, pz5, pz6⟩ := L3.out.a.all
  go_wp2_with fail
  refine (HC2.out _ L3.out.bel).mono ?_
  rintro e u4 ⟨rfl, hb⟩
  have L4 := Lib.hid (L3.out.next hb)
  clear hb L3 pz0 pz1 pz2 pz3 pz4 pz5 pz6
  obtain ⟨pz0, pz1, pz2, pz3, pz4, pz5, pz6⟩ := L4.out.a.all
  go_wp2_with fail
  refine (HT1.out _ L4.out.bel).mono ?_
  rintro e u5 ⟨rfl, hb⟩
  have L5 := Lib.hid (L4.out.next hb)
  clear hb L4 pz0 pz1 pz2 pz3 pz4 pz5 pz6
  obtain ⟨pz0, pz1, pz2, pz3, pz4, pz5, pz6⟩ := L5.out.a.all
  go_wp2_with fail
  refine (HT2.out _ L5.out.bel).mono ?_
  rintro e u6 ⟨rfl, hb⟩
  have L6 := Lib.hid (L5.out.next hb)
  clear hb L5 pz0 pz1 pz2 pz3 pz4 pz5 pz6
  go_wp2_with fail
  refine (HP1.out _).mono ?_
  rintro e u7 ⟨k7, rfl, hk, hrow, hb⟩
  have L7 := Lib.hid ((L6.out.next hb).alloc (.cells #[.int .i64 P, .int .i64 Q, .slice (some ⟨k7, 0, none⟩) (P * Q) (P * Q)] 24))
  have Gp7 := Lib.hid (Gv.new P Q hrow)
  clear hk hrow hb L6 
  go_wp2_with fail
  refine (HP2.out _).mono ?_
  rintro e u8 ⟨k8, rfl, hk, hrow, hb⟩
  have L8 := Lib.hid ((L7.out.next hb).alloc (.cells #[.int .i64 P, .int .i64 Q, .slice (some ⟨k8, 0, none⟩) (P * Q) (P * Q)] 24))
  have Gp8 := Lib.hid ((Gp7.out.next hb).alloc (.cells #[.int .i64 P, .int .i64 Q, .slice (some ⟨k8, 0, none⟩) (P * Q) (P * Q)] 24))
  have Gq8 := Lib.hid (Gv.new P Q hrow)
  clear hk hrow hb L7 Gp7 
  have HK : Hid (∀ w', Below (u8.alloc (.cells #[.int .i64 P, .int .i64 Q, .slice (some ⟨k8, 0, none⟩) (P * Q) (P * Q)] 24)).heap.size (u8.alloc (.cells #[.int .i64 P, .int .i64 Q, .slice (some ⟨k8, 0, none⟩) (P * Q) (P * Q)] 24)) w' → w'.cell? ⟨w.heap.size, 0, none⟩ = some (.int .i64 W) ∧ w'.cell? ⟨w.heap.size, 1, none⟩ = some (.int .i64 H) ∧ w'.cell? ⟨w.heap.size, 2, none⟩ = some (.slice A n c) ∧ w'.cell? ⟨(w.heap.size + 1), 0, none⟩ = some (.int .i64 X) ∧ w'.cell? ⟨(w.heap.size + 1), 1, none⟩ = some (.int .i64 Y) ∧ w'.cell? ⟨(w.heap.size + 1), 2, none⟩ = some (.slice D m d) ∧ w'.cell? ⟨u7.heap.size, 0, none⟩ = some (.int .i64 P) ∧ w'.cell? ⟨u7.heap.size, 1, none⟩ = some (.int .i64 Q) ∧ w'.cell? ⟨u7.heap.size, 2, none⟩ = some (.slice (some ⟨k7, 0, none⟩) (P * Q) (P * Q)) ∧ w'.cell? ⟨u8.heap.size, 0, none⟩ = some (.int .i64 P) ∧ w'.cell? ⟨u8.heap.size, 1, none⟩ = some (.int .i64 Q) ∧ w'.cell? ⟨u8.heap.size, 2, none⟩ = some (.slice (some ⟨k8, 0, none⟩) (P * Q) (P * Q))) := fun w' hb => ⟨((L8.out.next hb).a).c0, ((L8.out.next hb).a).c1, ((L8.out.next hb).a).c2, ((L8.out.next hb).b).c0, ((L8.out.next hb).b).c1, ((L8.out.next hb).b).c2, ((Gp8.out.next hb).box).c0, ((Gp8.out.next hb).box).c1, ((Gp8.out.next hb).box).c2, ((Gq8.out.next hb).box).c0, ((Gq8.out.next hb).box).c1, ((Gq8.out.next hb).box).c2⟩
  have HL : Hid (∀ w', Below (u8.alloc (.cells #[.int .i64 P, .int .i64 Q, .slice (some ⟨k8, 0, none⟩) (P * Q) (P * Q)] 24)).heap.size (u8.alloc (.cells #[.int .i64 P, .int .i64 Q, .slice (some ⟨k8, 0, none⟩) (P * Q) (P * Q)] 24)) w' → Below w.heap.size w w') := fun w' hb => L8.out.bel.trans (hb.mono L8.out.bel.size)
  go_wp2
  obtain ⟨I, Wf, i0, h0, hbf, hcl⟩ := family (u8.alloc (.cells #[.int .i64 P, .int .i64 Q, .slice (some ⟨k8, 0, none⟩) (P * Q) (P * Q)] 24))
  have hcl := Lib.hid hcl
  have c00 := fun n => (HK.out (Wf n) (hbf n)).1
  have c01 := fun n => (HK.out (Wf n) (hbf n)).2.1
  have c02 := fun n => (HK.out (Wf n) (hbf n)).2.2.1
  have c10 := fun n => (HK.out (Wf n) (hbf n)).2.2.2.1
  have c11 := fun n => (HK.out (Wf n) (hbf n)).2.2.2.2.1
  have c12 := fun n => (HK.out (Wf n) (hbf n)).2.2.2.2.2.1
  have c20 := fun n => (HK.out (Wf n) (hbf n)).2.2.2.2.2.2.1
  have c21 := fun n => (HK.out (Wf n) (hbf n)).2.2.2.2.2.2.2.1
  have c22 := fun n => (HK.out (Wf n) (hbf n)).2.2.2.2.2.2.2.2.1
  have c30 := fun n => (HK.out (Wf n) (hbf n)).2.2.2.2.2.2.2.2.2.1
  have c31 := fun n => (HK.out (Wf n) (hbf n)).2.2.2.2.2.2.2.2.2.2.1
  have c32 := fun n => (HK.out (Wf n) (hbf n)).2.2.2.2.2.2.2.2.2.2.2
  have BF := Lib.hid (fun n => HL.out (Wf n) (hbf n))
  have K1 := Lib.hid (fun n => (HK1.out (Wf n)).mono fun e w2 h => (⟨h.1, hcl.out n _ h.2⟩ : _ ∧ ∃ m, w2 = Wf m))
  have K2 := Lib.hid (fun n => (HK2.out (Wf n)).mono fun e w2 h => (⟨h.1, hcl.out n _ h.2⟩ : _ ∧ ∃ m, w2 = Wf m))
  have S1 := Lib.hid (fun n => (HS1.out (Wf n) (BF.out n)).mono fun e w2 h => (⟨h.1, hcl.out n _ h.2⟩ : _ ∧ ∃ m, w2 = Wf m))
  have S2 := Lib.hid (fun n => (HS2.out (Wf n) (BF.out n)).mono fun e w2 h => (⟨h.1, hcl.out n _ h.2⟩ : _ ∧ ∃ m, w2 = Wf m))
  have E1 := Lib.hid (fun n => (HE.out (Wf n) _ _ (Gp8.out.next (hbf n)).row (Gq8.out.next (hbf n)).row).mono fun e w2 h => (⟨h.1, hcl.out n _ h.2⟩ : _ ∧ ∃ m, w2 = Wf m))
  clear hbf
  refine wp_region_fam Wf i0 h0 (by kernel_rfl) (by kernel_rfl) ?_
  clear h0
  have hne : Nonempty I := ⟨i0⟩
  repeat (go_big_quiet_step (first | exact rfl | (go_at_call 20; exact K1.out _) | (go_at_call 31; exact K2.out _) | (go_at_call 21; exact S1.out _) | (go_at_call 32; with_reducible exact S2.out _) | (go_at_call 32; with_reducible exact E1.out _)))
  refine wpQuiet_nil ?_
  rintro _ ⟨nq, rfl⟩
  go_wp2
  refine bodyPost_ret (v := .bool true) (by simp [results, Try.results4, go_sem]) rfl ⟨rfl, BF.out nq⟩
set_option maxRecDepth 100000 in
set_option maxHeartbeats 8000000 in
theorem checks_none (W H X Y : Int) (A D : Option Addr) (n c m d : Nat) (s ts : ByteArray) (cn ce te ke : Int) (u : Bool) (w : World) (hs : s.size ≤ 5000)
    (HG1 : ∀ v, Calls Try.prog 24 #[.agg #[.int .i64 W, .int .i64 H, .slice A n c]] v fun e w' => e = .returned (.bool false) ∧ Below v.heap.size v w')
    (HG2 : ∀ v, Calls Try.prog 24 #[.agg #[.int .i64 X, .int .i64 Y, .slice D m d]] v fun e w' => e = .returned (.bool false) ∧ Below v.heap.size v w')
    (HC1 : ∀ v, Below w.heap.size w v → Calls Try.prog 25 #[.agg #[.int .i64 W, .int .i64 H, .slice A n c]] v fun e w' => e = .returned (.tuple #[.int .i64 cn, .int .i64 ce]) ∧ Below v.heap.size v w')
    (HC2 : ∀ v, Below w.heap.size w v → Calls Try.prog 26 #[.agg #[.int .i64 W, .int .i64 H, .slice A n c]] v fun e w' => e = .returned (.tuple #[.int .i64 cn, .int .i64 ce]) ∧ Below v.heap.size v w')
    (HT1 : ∀ v, Below w.heap.size w v → Calls Try.prog 27 #[.agg #[.int .i64 W, .int .i64 H, .slice A n c]] v fun e w' => e = .returned (.tuple #[.string ts, .int .i64 te]) ∧ Below v.heap.size v w')
    (HT2 : ∀ v, Below w.heap.size w v → Calls Try.prog 28 #[.agg #[.int .i64 W, .int .i64 H, .slice A n c]] v fun e w' => e = .returned (.tuple #[.string ts, .int .i64 te]) ∧ Below v.heap.size v w')
    (HK1 : ∀ v, Calls Try.prog 20 #[.agg #[.int .i64 W, .int .i64 H, .slice A n c]] v fun e w' => e = .returned (.int .i64 ke) ∧ Below v.heap.size v w')
    (HK2 : ∀ v, Calls Try.prog 31 #[.agg #[.int .i64 W, .int .i64 H, .slice A n c]] v fun e w' => e = .returned (.int .i64 ke) ∧ Below v.heap.size v w')
    (HS1 : ∀ v, Below w.heap.size w v → Calls Try.prog 21 #[.agg #[.int .i64 W, .int .i64 H, .slice A n c], .agg #[.int .i64 X, .int .i64 Y, .slice D m d]] v fun e w' => e = .returned (.bool u) ∧ Below v.heap.size v w')
    (HS2 : ∀ v, Below w.heap.size w v → Calls Try.prog 32 #[.agg #[.int .i64 W, .int .i64 H, .slice A n c], .agg #[.int .i64 X, .int .i64 Y, .slice D m d]] v fun e w' => e = .returned (.bool u) ∧ Below v.heap.size v w')
    (HP1 : ∀ v, Calls Try.prog 29 #[.string s] v (ErrGrid v 12))
    (HP2 : ∀ v, Calls Try.prog 30 #[.string s] v (ErrGrid v 12))
    (HE : ∀ v, Calls Try.prog 32 #[.agg #[.int .i64 0, .int .i64 0, .slice none 0 0], .agg #[.int .i64 0, .int .i64 0, .slice none 0 0]] v fun e w' => e = .returned (.bool true) ∧ Below v.heap.size v w') :
    Calls Try.prog 4 #[.agg #[.int .i64 W, .int .i64 H, .slice A n c], .agg #[.int .i64 X, .int .i64 Y, .slice D m d], .string s] w fun e w' => e = .returned (.bool true) ∧ Below w.heap.size w w' := by
  have HG1 := Lib.hid HG1
  have HG2 := Lib.hid HG2
  have HC1 := Lib.hid HC1
  have HC2 := Lib.hid HC2
  have HT1 := Lib.hid HT1
  have HT2 := Lib.hid HT2
  have HK1 := Lib.hid HK1
  have HK2 := Lib.hid HK2
  have HS1 := Lib.hid HS1
  have HS2 := Lib.hid HS2
  have HP1 := Lib.hid HP1
  have HP2 := Lib.hid HP2
  have HE := Lib.hid HE
  have hd : decide ((5000 : Int) < (s.size : Int)) = false := by simp; omega
  have z1 : (cn == cn) = true := by simp
  have z2 : (ce == ce) = true := by simp
  have z3 : (te == te) = true := by simp
  have z4 : (ke == ke) = true := by simp
  have z5 : (u == u) = true := by cases u <;> rfl
  have L0 := Lib.hid (LB.start w W H X Y A D n c m d)
  go_enter Try.func4, Try.ntmps4
  obtain ⟨pz0, pz1, pz2, pz3, pz4, pz5, pz6⟩ := L0.out.a.all
  obtain ⟨py0, py1, py2, py3, py4, py5, py6⟩ := L0.out.b.all
  go_wp2_with fail
  refine (HG1.out _).mono ?_
  rintro e u1 ⟨rfl, hb⟩
  have L1 := Lib.hid (L0.out.next hb)
  clear hb L0 pz0 pz1 pz2 pz3 pz4 pz5 pz6 py0 py1 py2 py3 py4 py5 py6
  obtain ⟨pz0, pz1, pz2, pz3, pz4, pz5, pz6⟩ := L1.out.a.all
  obtain ⟨py0, py1, py2, py3, py4, py5, py6⟩ := L1.out.b.all
  go_wp2_with fail
  refine (HG2.out _).mono ?_
  rintro e u2 ⟨rfl, hb⟩
  have L2 := Lib.hid (L1.out.next hb)
  clear hb L1 pz0 pz1 pz2 pz3 pz4 pz5 pz6 py0 py1 py2 py3 py4 py5 py6
  obtain ⟨pz0, pz1, pz2, pz3, pz4, pz5, pz6⟩ := L2.out.a.all
  go_wp2_with fail
  refine (HC1.out _ L2.out.bel).mono ?_
  rintro e u3 ⟨rfl, hb⟩
  have L3 := Lib.hid (L2.out.next hb)
  clear hb L2 pz0 pz1 pz2 pz3 pz4 pz5 pz6
  obtain ⟨pz0, pz1, pz2, pz3, pz4, pz5, pz6⟩ := L3.out.a.all
  go_wp2_with fail
  refine (HC2.out _ L3.out.bel).mono ?_
  rintro e u4 ⟨rfl, hb⟩
  have L4 := Lib.hid (L3.out.next hb)
  clear hb L3 pz0 pz1 pz2 pz3 pz4 pz5 pz6
  obtain ⟨pz0, pz1, pz2, pz3, pz4, pz5, pz6⟩ := L4.out.a.all
  go_wp2_with fail
  refine (HT1.out _ L4.out.bel).mono ?_
  rintro e u5 ⟨rfl, hb⟩
  have L5 := Lib.hid (L4.out.next hb)
  clear hb L4 pz0 pz1 pz2 pz3 pz4 pz5 pz6
  obtain ⟨pz0, pz1, pz2, pz3, pz4, pz5, pz6⟩ := L5.out.a.all
  go_wp2_with fail
  refine (HT2.out _ L5.out.bel).mono ?_
  rintro e u6 ⟨rfl, hb⟩
  have L6 := Lib.hid (L5.out.next hb)
  clear hb L5 pz0 pz1 pz2 pz3 pz4 pz5 pz6
  go_wp2_with fail
  refine (HP1.out _).mono ?_
  rintro e v0 ⟨rfl, hb⟩
  have M0 := Lib.hid ((L6.out.next hb).alloc (.cells #[.int .i64 0, .int .i64 0, .slice none 0 0] 24))
  have X0 := Lib.hid (Box.new v0 0 0 (.slice none 0 0))
  clear hb L6
  go_wp2_with fail
  refine (HP2.out _).mono ?_
  rintro e v1 ⟨rfl, hb⟩
  have M1 := Lib.hid ((M0.out.next hb).alloc (.cells #[.int .i64 0, .int .i64 0, .slice none 0 0] 24))
  have X1 := Lib.hid ((X0.out.below hb X0.out.lt).alloc (.cells #[.int .i64 0, .int .i64 0, .slice none 0 0] 24))
  have Y1 := Lib.hid (Box.new v1 0 0 (.slice none 0 0))
  clear hb M0 X0
  have HK : Hid (∀ w', Below (v1.alloc (.cells #[.int .i64 0, .int .i64 0, .slice none 0 0] 24)).heap.size (v1.alloc (.cells #[.int .i64 0, .int .i64 0, .slice none 0 0] 24)) w' → w'.cell? ⟨w.heap.size, 0, none⟩ = some (.int .i64 W) ∧ w'.cell? ⟨w.heap.size, 1, none⟩ = some (.int .i64 H) ∧ w'.cell? ⟨w.heap.size, 2, none⟩ = some (.slice A n c) ∧ w'.cell? ⟨(w.heap.size + 1), 0, none⟩ = some (.int .i64 X) ∧ w'.cell? ⟨(w.heap.size + 1), 1, none⟩ = some (.int .i64 Y) ∧ w'.cell? ⟨(w.heap.size + 1), 2, none⟩ = some (.slice D m d) ∧ w'.cell? ⟨v0.heap.size, 0, none⟩ = some (.int .i64 0) ∧ w'.cell? ⟨v0.heap.size, 1, none⟩ = some (.int .i64 0) ∧ w'.cell? ⟨v0.heap.size, 2, none⟩ = some (.slice none 0 0) ∧ w'.cell? ⟨v1.heap.size, 0, none⟩ = some (.int .i64 0) ∧ w'.cell? ⟨v1.heap.size, 1, none⟩ = some (.int .i64 0) ∧ w'.cell? ⟨v1.heap.size, 2, none⟩ = some (.slice none 0 0)) := fun w' hb => ⟨((M1.out.next hb).a).c0, ((M1.out.next hb).a).c1, ((M1.out.next hb).a).c2, ((M1.out.next hb).b).c0, ((M1.out.next hb).b).c1, ((M1.out.next hb).b).c2, (X1.out.below hb X1.out.lt).c0, (X1.out.below hb X1.out.lt).c1, (X1.out.below hb X1.out.lt).c2, (Y1.out.below hb Y1.out.lt).c0, (Y1.out.below hb Y1.out.lt).c1, (Y1.out.below hb Y1.out.lt).c2⟩
  have HL : Hid (∀ w', Below (v1.alloc (.cells #[.int .i64 0, .int .i64 0, .slice none 0 0] 24)).heap.size (v1.alloc (.cells #[.int .i64 0, .int .i64 0, .slice none 0 0] 24)) w' → Below w.heap.size w w') := fun w' hb => M1.out.bel.trans (hb.mono M1.out.bel.size)
  go_wp2
  obtain ⟨I, Wf, i0, h0, hbf, hcl⟩ := family (v1.alloc (.cells #[.int .i64 0, .int .i64 0, .slice none 0 0] 24))
  have hcl := Lib.hid hcl
  have c00 := fun n => (HK.out (Wf n) (hbf n)).1
  have c01 := fun n => (HK.out (Wf n) (hbf n)).2.1
  have c02 := fun n => (HK.out (Wf n) (hbf n)).2.2.1
  have c10 := fun n => (HK.out (Wf n) (hbf n)).2.2.2.1
  have c11 := fun n => (HK.out (Wf n) (hbf n)).2.2.2.2.1
  have c12 := fun n => (HK.out (Wf n) (hbf n)).2.2.2.2.2.1
  have c20 := fun n => (HK.out (Wf n) (hbf n)).2.2.2.2.2.2.1
  have c21 := fun n => (HK.out (Wf n) (hbf n)).2.2.2.2.2.2.2.1
  have c22 := fun n => (HK.out (Wf n) (hbf n)).2.2.2.2.2.2.2.2.1
  have c30 := fun n => (HK.out (Wf n) (hbf n)).2.2.2.2.2.2.2.2.2.1
  have c31 := fun n => (HK.out (Wf n) (hbf n)).2.2.2.2.2.2.2.2.2.2.1
  have c32 := fun n => (HK.out (Wf n) (hbf n)).2.2.2.2.2.2.2.2.2.2.2
  have BF := Lib.hid (fun n => HL.out (Wf n) (hbf n))
  have K1 := Lib.hid (fun n => (HK1.out (Wf n)).mono fun e w2 h => (⟨h.1, hcl.out n _ h.2⟩ : _ ∧ ∃ m, w2 = Wf m))
  have K2 := Lib.hid (fun n => (HK2.out (Wf n)).mono fun e w2 h => (⟨h.1, hcl.out n _ h.2⟩ : _ ∧ ∃ m, w2 = Wf m))
  have S1 := Lib.hid (fun n => (HS1.out (Wf n) (BF.out n)).mono fun e w2 h => (⟨h.1, hcl.out n _ h.2⟩ : _ ∧ ∃ m, w2 = Wf m))
  have S2 := Lib.hid (fun n => (HS2.out (Wf n) (BF.out n)).mono fun e w2 h => (⟨h.1, hcl.out n _ h.2⟩ : _ ∧ ∃ m, w2 = Wf m))
  have E1 := Lib.hid (fun n => (HE.out (Wf n)).mono fun e w2 h => (⟨h.1, hcl.out n _ h.2⟩ : _ ∧ ∃ m, w2 = Wf m))
  clear hbf
  refine wp_region_fam Wf i0 h0 (by kernel_rfl) (by kernel_rfl) ?_
  clear h0
  have hne : Nonempty I := ⟨i0⟩
  repeat (go_big_quiet_step (first | exact rfl | (go_at_call 20; exact K1.out _) | (go_at_call 31; exact K2.out _) | (go_at_call 21; exact S1.out _) | (go_at_call 32; with_reducible exact S2.out _) | (go_at_call 32; with_reducible exact E1.out _)))
  refine wpQuiet_nil ?_
  rintro _ ⟨nq, rfl⟩
  go_wp2
  refine bodyPost_ret (v := .bool true) (by simp [results, Try.results4, go_sem]) rfl ⟨rfl, BF.out nq⟩
end Go.Proofs.Ytnamjpdbadjgpaa
