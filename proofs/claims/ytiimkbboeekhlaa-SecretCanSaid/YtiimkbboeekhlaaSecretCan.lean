/- The walk of 'SecretCan'. -/
import Derived.Test.YtiimkbboeekhlaaSecL
namespace Go.Proofs.Ytiimkbboeekhlaa
open Go.RowKit
set_option linter.unusedVariables false

/-- An operation that is wanted, by an equation on its run. -/
theorem can_execG {P : Program} {ops : Array Oper} {rest : List Oper} {o : Oper} {a : Act} {w w' : World} {Q : Exit → Act → World → Prop} (v : Value) (hr : (execOp a.eval o).run P w = .ok (.value v) w') (hw : Region.wanted o (yielded ops a.tmps) = true)
    (h : wpList P ops Q rest (a.put o.dst v) w') : wpList P ops Q (o :: rest) a w :=
  wpList_step fun _ hK => by
    rw [if_pos hw]
    unfold Oper.wp
    simp only [hr]
    exact hK _ _ h
theorem can_exec_bin {P : Program} {o : Oper} {ev : Operand → Value} {w : World} (op : BinOp) (t : TypeId) (x y : Operand) (u : TypeId) (ho : o.op = .binOp op t x y u) (vx vy v : Value) (hx : ev x = vx) (hy : ev y = vy) (hq : (eqGuard op t x y vx vy).run P w = .ok () w) (hr : (binOp op t vx vy).run P w = .ok v w) :
    (execOp ev o).run P w = .ok (.value v) w := by
  unfold execOp
  simp only [ho, hx, hy, hq, hr, Sem.run_bind, Sem.run_pure, Result.andThen_ok]

/-- '1 << p', and a sum, of numbers that are small, by equations on their runs. -/
theorem shl_one (p M : Nat) (hp : p ≤ 16) (hM : M = 2 ^ p) (w : World) : (binOp .shl 3 (.int .i64 1) (.int .i64 (p : Int))).run Try.prog w = .ok (.int .i64 (M : Int)) w := by
  have h : ∀ q : Nat, q ≤ 16 → (binOp .shl 3 (.int .i64 1) (.int .i64 (q : Int))).run Try.prog w = .ok (.int .i64 ((2 ^ q : Nat) : Int)) w := by
    intro q hq
    have h2 : ((2 ^ q : Nat) : Int) = (2 : Int) ^ q := by simp
    have h3 : 2 ^ q ≤ 2 ^ 16 := Nat.pow_le_pow_right (by omega) hq
    obtain ⟨m, hm⟩ : ∃ m, m = 2 ^ q := ⟨_, rfl⟩
    rw [← hm] at h2 h3
    go_simp
    rw [← h2]
    exact IntWalk.i64_in _ (by omega)
  rw [hM]
  exact h p hp
theorem add_i64 (x M s : Nat) (hs : s = x + M) (h : s < 1000000) (w : World) : (binOp .add 3 (.int .i64 (x : Int)) (.int .i64 (M : Int))).run Try.prog w = .ok (.int .i64 (s : Int)) w := by
  have e : IntKind.i64.wrap ((x : Int) + (M : Int)) = (s : Int) := by
    rw [hs]
    exact IntWalk.i64_in _ (by omega)
  go_simp

set_option maxHeartbeats 2000000 in
set_option maxRecDepth 100000 in
theorem can_a1 (x y z : Nat) (w : World) (hx : x < 65536) (hy : y < 65536) (hz : z < 65536) (h1 : x ≤ y) (h2 : y < x + 2 ^ placeN x) (h3 : canN y z = false) :
    Calls Try.prog 3 #[.int .u16 (x : Int), .int .u16 (y : Int), .int .u16 (z : Int)] w fun e w' => e = .returned (.bool true) ∧ Fr No w w' := by
  have hab := canN_above x y
  have hpl := fun X => place_ok_any x X hx
  have hp16 := (placeN_is x).le
  have cxy : canN x y = true := by rw [hab, decide_eq_true h1, decide_eq_true h2]; rfl
  have Hxx : Hid (∀ X, Calls Try.prog 5 #[.int .i64 (x : Int), .int .i64 (x : Int)] X fun ex w' => ex = .returned (.bool true) ∧ Fr No X w') := Lib.hid (fun X => by
    have := can_num x x X (by omega) (by omega)
    rwa [show canN x x = true from canN_refl x] at this)
  have Hxy : Hid (∀ X, Calls Try.prog 5 #[.int .i64 (x : Int), .int .i64 (y : Int)] X fun ex w' => ex = .returned (.bool true) ∧ Fr No X w') := Lib.hid (fun X => by
    have := can_num x y X (by omega) (by omega)
    rwa [show canN x y = true from cxy] at this)
  have Hyz : Hid (∀ X, Calls Try.prog 5 #[.int .i64 (y : Int), .int .i64 (z : Int)] X fun ex w' => ex = .returned (.bool false) ∧ Fr No X w') := Lib.hid (fun X => by
    have := can_num y z X (by omega) (by omega)
    rwa [show canN y z = false from h3] at this)
  have Hox : Hid (∀ X, Calls Try.prog 5 #[.int .i64 0, .int .i64 (x : Int)] X fun ex w' => ex = .returned (.bool true) ∧ Fr No X w') := Lib.hid (fun X => by
    have := can_num 0 x X (by omega) (by omega)
    rwa [show canN 0 x = true from canN_zero hx] at this)
  obtain ⟨p, hp⟩ : ∃ p, p = placeN x := ⟨_, rfl⟩
  obtain ⟨M, hM⟩ : ∃ M, M = 2 ^ p := ⟨_, rfl⟩
  rw [← hp] at hpl hp16 hab
  rw [← hp, ← hM] at h2
  have hM2 : M ≤ 65536 := by rw [hM]; exact Nat.pow_le_pow_right (by omega) hp16
  obtain ⟨s, hs⟩ : ∃ s, s = x + M := ⟨_, rfl⟩
  have HSH := Lib.hid (shl_one p M hp16 hM)
  have HAD := Lib.hid (add_i64 x M s hs (by omega))
  have ex : IntKind.i64.wrap (x : Int) = (x : Int) := IntWalk.i64_in _ (by omega)
  have ey : IntKind.i64.wrap (y : Int) = (y : Int) := IntWalk.i64_in _ (by omega)
  have ez : IntKind.i64.wrap (z : Int) = (z : Int) := IntWalk.i64_in _ (by omega)
  have t1 : (x : Int) ≤ (y : Int) := by omega
  have t2 : (y : Int) < (s : Int) := by omega
  have HPL := Lib.hid hpl
  clear hs hab hM hp hp16 hM2 hx hy hz h1 cxy hpl h2 h3
  go_enter Try.func3, Try.ntmps3
  go_wp2_with fail
  refine (HPL.out _).mono ?_
  rintro e w0 ⟨rfl, hF⟩
  have F0 := Lib.hid hF
  clear hF
  go_wp2_with (first
    | (refine can_execG (.int .i64 (M : Int)) (can_exec_bin .shl 3 (.const (.int .i64 1)) (.tmp 26) 3 rfl _ _ _ rfl rfl (by kernel_rfl) (HSH.out _)) rfl ?_)
    | (refine can_execG (.int .i64 (s : Int)) (can_exec_bin .add 3 (.tmp 25) (.tmp 27) 3 rfl _ _ _ rfl rfl (by kernel_rfl) (HAD.out _)) rfl ?_))
  refine (Hxx.out _).mono ?_
  rintro e w1 ⟨rfl, hF⟩
  have F1 := Lib.hid (F0.out.trans hF)
  clear hF
  go_wp2_with fail
  refine (Hxy.out _).mono ?_
  rintro e w2 ⟨rfl, hF⟩
  have F2 := Lib.hid (F1.out.trans hF)
  clear hF
  go_wp2_with fail
  refine (Hxy.out _).mono ?_
  rintro e w3 ⟨rfl, hF⟩
  have F3 := Lib.hid (F2.out.trans hF)
  clear hF
  go_wp2_with fail
  refine (Hyz.out _).mono ?_
  rintro e w4 ⟨rfl, hF⟩
  have F4 := Lib.hid (F3.out.trans hF)
  clear hF
  go_wp2_with fail
  refine (Hox.out _).mono ?_
  rintro e w5 ⟨rfl, hF⟩
  have F5 := Lib.hid (F4.out.trans hF)
  clear hF
  go_wp2_with fail
  refine (shown4_any _).mono ?_
  rintro e w6 ⟨rfl, hF⟩
  have F6 := Lib.hid (F5.out.trans hF)
  clear hF
  go_wp2
  go_ret
  exact ⟨rfl, F6.out⟩

set_option maxHeartbeats 2000000 in
set_option maxRecDepth 100000 in
theorem can_a2 (x y z : Nat) (w : World) (hx : x < 65536) (hy : y < 65536) (hz : z < 65536) (h1 : x ≤ y) (h2 : y < x + 2 ^ placeN x) (h3 : canN y z = true) :
    Calls Try.prog 3 #[.int .u16 (x : Int), .int .u16 (y : Int), .int .u16 (z : Int)] w fun e w' => e = .returned (.bool true) ∧ Fr No w w' := by
  have hab := canN_above x y
  have hpl := fun X => place_ok_any x X hx
  have hp16 := (placeN_is x).le
  have cxy : canN x y = true := by rw [hab, decide_eq_true h1, decide_eq_true h2]; rfl
  have Hxx : Hid (∀ X, Calls Try.prog 5 #[.int .i64 (x : Int), .int .i64 (x : Int)] X fun ex w' => ex = .returned (.bool true) ∧ Fr No X w') := Lib.hid (fun X => by
    have := can_num x x X (by omega) (by omega)
    rwa [show canN x x = true from canN_refl x] at this)
  have Hxy : Hid (∀ X, Calls Try.prog 5 #[.int .i64 (x : Int), .int .i64 (y : Int)] X fun ex w' => ex = .returned (.bool true) ∧ Fr No X w') := Lib.hid (fun X => by
    have := can_num x y X (by omega) (by omega)
    rwa [show canN x y = true from cxy] at this)
  have Hyz : Hid (∀ X, Calls Try.prog 5 #[.int .i64 (y : Int), .int .i64 (z : Int)] X fun ex w' => ex = .returned (.bool true) ∧ Fr No X w') := Lib.hid (fun X => by
    have := can_num y z X (by omega) (by omega)
    rwa [show canN y z = true from h3] at this)
  have Hxz : Hid (∀ X, Calls Try.prog 5 #[.int .i64 (x : Int), .int .i64 (z : Int)] X fun ex w' => ex = .returned (.bool true) ∧ Fr No X w') := Lib.hid (fun X => by
    have := can_num x z X (by omega) (by omega)
    rwa [show canN x z = true from canN_trans cxy h3] at this)
  have Hox : Hid (∀ X, Calls Try.prog 5 #[.int .i64 0, .int .i64 (x : Int)] X fun ex w' => ex = .returned (.bool true) ∧ Fr No X w') := Lib.hid (fun X => by
    have := can_num 0 x X (by omega) (by omega)
    rwa [show canN 0 x = true from canN_zero hx] at this)
  obtain ⟨p, hp⟩ : ∃ p, p = placeN x := ⟨_, rfl⟩
  obtain ⟨M, hM⟩ : ∃ M, M = 2 ^ p := ⟨_, rfl⟩
  rw [← hp] at hpl hp16 hab
  rw [← hp, ← hM] at h2
  have hM2 : M ≤ 65536 := by rw [hM]; exact Nat.pow_le_pow_right (by omega) hp16
  obtain ⟨s, hs⟩ : ∃ s, s = x + M := ⟨_, rfl⟩
  have HSH := Lib.hid (shl_one p M hp16 hM)
  have HAD := Lib.hid (add_i64 x M s hs (by omega))
  have ex : IntKind.i64.wrap (x : Int) = (x : Int) := IntWalk.i64_in _ (by omega)
  have ey : IntKind.i64.wrap (y : Int) = (y : Int) := IntWalk.i64_in _ (by omega)
  have ez : IntKind.i64.wrap (z : Int) = (z : Int) := IntWalk.i64_in _ (by omega)
  have t1 : (x : Int) ≤ (y : Int) := by omega
  have t2 : (y : Int) < (s : Int) := by omega
  have HPL := Lib.hid hpl
  clear hs hab hM hp hp16 hM2 hx hy hz h1 cxy hpl h2 h3
  go_enter Try.func3, Try.ntmps3
  go_wp2_with fail
  refine (HPL.out _).mono ?_
  rintro e w0 ⟨rfl, hF⟩
  have F0 := Lib.hid hF
  clear hF
  go_wp2_with (first
    | (refine can_execG (.int .i64 (M : Int)) (can_exec_bin .shl 3 (.const (.int .i64 1)) (.tmp 26) 3 rfl _ _ _ rfl rfl (by kernel_rfl) (HSH.out _)) rfl ?_)
    | (refine can_execG (.int .i64 (s : Int)) (can_exec_bin .add 3 (.tmp 25) (.tmp 27) 3 rfl _ _ _ rfl rfl (by kernel_rfl) (HAD.out _)) rfl ?_))
  refine (Hxx.out _).mono ?_
  rintro e w1 ⟨rfl, hF⟩
  have F1 := Lib.hid (F0.out.trans hF)
  clear hF
  go_wp2_with fail
  refine (Hxy.out _).mono ?_
  rintro e w2 ⟨rfl, hF⟩
  have F2 := Lib.hid (F1.out.trans hF)
  clear hF
  go_wp2_with fail
  refine (Hxy.out _).mono ?_
  rintro e w3 ⟨rfl, hF⟩
  have F3 := Lib.hid (F2.out.trans hF)
  clear hF
  go_wp2_with fail
  refine (Hyz.out _).mono ?_
  rintro e w4 ⟨rfl, hF⟩
  have F4 := Lib.hid (F3.out.trans hF)
  clear hF
  go_wp2_with fail
  refine (Hxz.out _).mono ?_
  rintro e w5 ⟨rfl, hF⟩
  have F5 := Lib.hid (F4.out.trans hF)
  clear hF
  go_wp2_with fail
  refine (Hox.out _).mono ?_
  rintro e w6 ⟨rfl, hF⟩
  have F6 := Lib.hid (F5.out.trans hF)
  clear hF
  go_wp2_with fail
  refine (shown4_any _).mono ?_
  rintro e w7 ⟨rfl, hF⟩
  have F7 := Lib.hid (F6.out.trans hF)
  clear hF
  go_wp2
  go_ret
  exact ⟨rfl, F7.out⟩

set_option maxHeartbeats 2000000 in
set_option maxRecDepth 100000 in
theorem can_b (x y z : Nat) (w : World) (hx : x < 65536) (hy : y < 65536) (hz : z < 65536) (h1 : x ≤ y) (h2 : x + 2 ^ placeN x ≤ y) :
    Calls Try.prog 3 #[.int .u16 (x : Int), .int .u16 (y : Int), .int .u16 (z : Int)] w fun e w' => e = .returned (.bool true) ∧ Fr No w w' := by
  have hab := canN_above x y
  have hpl := fun X => place_ok_any x X hx
  have hp16 := (placeN_is x).le
  have cxy : canN x y = false := by rw [hab, decide_eq_false (show ¬ y < x + 2 ^ placeN x by omega)]; simp
  have Hxx : Hid (∀ X, Calls Try.prog 5 #[.int .i64 (x : Int), .int .i64 (x : Int)] X fun ex w' => ex = .returned (.bool true) ∧ Fr No X w') := Lib.hid (fun X => by
    have := can_num x x X (by omega) (by omega)
    rwa [show canN x x = true from canN_refl x] at this)
  have Hxy : Hid (∀ X, Calls Try.prog 5 #[.int .i64 (x : Int), .int .i64 (y : Int)] X fun ex w' => ex = .returned (.bool false) ∧ Fr No X w') := Lib.hid (fun X => by
    have := can_num x y X (by omega) (by omega)
    rwa [show canN x y = false from cxy] at this)
  have Hox : Hid (∀ X, Calls Try.prog 5 #[.int .i64 0, .int .i64 (x : Int)] X fun ex w' => ex = .returned (.bool true) ∧ Fr No X w') := Lib.hid (fun X => by
    have := can_num 0 x X (by omega) (by omega)
    rwa [show canN 0 x = true from canN_zero hx] at this)
  obtain ⟨p, hp⟩ : ∃ p, p = placeN x := ⟨_, rfl⟩
  obtain ⟨M, hM⟩ : ∃ M, M = 2 ^ p := ⟨_, rfl⟩
  rw [← hp] at hpl hp16 hab
  rw [← hp, ← hM] at h2
  have hM2 : M ≤ 65536 := by rw [hM]; exact Nat.pow_le_pow_right (by omega) hp16
  obtain ⟨s, hs⟩ : ∃ s, s = x + M := ⟨_, rfl⟩
  have HSH := Lib.hid (shl_one p M hp16 hM)
  have HAD := Lib.hid (add_i64 x M s hs (by omega))
  have ex : IntKind.i64.wrap (x : Int) = (x : Int) := IntWalk.i64_in _ (by omega)
  have ey : IntKind.i64.wrap (y : Int) = (y : Int) := IntWalk.i64_in _ (by omega)
  have ez : IntKind.i64.wrap (z : Int) = (z : Int) := IntWalk.i64_in _ (by omega)
  have t1 : (x : Int) ≤ (y : Int) := by omega
  have t2 : decide (y < s) = false := decide_eq_false (by omega)
  have HPL := Lib.hid hpl
  clear hs hab hM hp hp16 hM2 hx hy hz h1 cxy hpl h2
  go_enter Try.func3, Try.ntmps3
  go_wp2_with fail
  refine (HPL.out _).mono ?_
  rintro e w0 ⟨rfl, hF⟩
  have F0 := Lib.hid hF
  clear hF
  go_wp2_with (first
    | (refine can_execG (.int .i64 (M : Int)) (can_exec_bin .shl 3 (.const (.int .i64 1)) (.tmp 26) 3 rfl _ _ _ rfl rfl (by kernel_rfl) (HSH.out _)) rfl ?_)
    | (refine can_execG (.int .i64 (s : Int)) (can_exec_bin .add 3 (.tmp 25) (.tmp 27) 3 rfl _ _ _ rfl rfl (by kernel_rfl) (HAD.out _)) rfl ?_))
  refine (Hxx.out _).mono ?_
  rintro e w1 ⟨rfl, hF⟩
  have F1 := Lib.hid (F0.out.trans hF)
  clear hF
  go_wp2_with fail
  refine (Hxy.out _).mono ?_
  rintro e w2 ⟨rfl, hF⟩
  have F2 := Lib.hid (F1.out.trans hF)
  clear hF
  go_wp2_with fail
  refine (Hxy.out _).mono ?_
  rintro e w3 ⟨rfl, hF⟩
  have F3 := Lib.hid (F2.out.trans hF)
  clear hF
  go_wp2_with fail
  refine (Hox.out _).mono ?_
  rintro e w4 ⟨rfl, hF⟩
  have F4 := Lib.hid (F3.out.trans hF)
  clear hF
  go_wp2_with fail
  refine (shown4_any _).mono ?_
  rintro e w5 ⟨rfl, hF⟩
  have F5 := Lib.hid (F4.out.trans hF)
  clear hF
  go_wp2
  go_ret
  exact ⟨rfl, F5.out⟩

set_option maxHeartbeats 2000000 in
set_option maxRecDepth 100000 in
theorem can_c (x y z : Nat) (w : World) (hx : x < 65536) (hy : y < 65536) (hz : z < 65536) (h1 : y < x) :
    Calls Try.prog 3 #[.int .u16 (x : Int), .int .u16 (y : Int), .int .u16 (z : Int)] w fun e w' => e = .returned (.bool true) ∧ Fr No w w' := by
  have hab := canN_above x y
  have hpl := fun X => place_ok_any x X hx
  have hp16 := (placeN_is x).le
  have cxy : canN x y = false := by rw [hab, decide_eq_false (show ¬ x ≤ y by omega)]; rfl
  have Hxx : Hid (∀ X, Calls Try.prog 5 #[.int .i64 (x : Int), .int .i64 (x : Int)] X fun ex w' => ex = .returned (.bool true) ∧ Fr No X w') := Lib.hid (fun X => by
    have := can_num x x X (by omega) (by omega)
    rwa [show canN x x = true from canN_refl x] at this)
  have Hxy : Hid (∀ X, Calls Try.prog 5 #[.int .i64 (x : Int), .int .i64 (y : Int)] X fun ex w' => ex = .returned (.bool false) ∧ Fr No X w') := Lib.hid (fun X => by
    have := can_num x y X (by omega) (by omega)
    rwa [show canN x y = false from cxy] at this)
  have Hox : Hid (∀ X, Calls Try.prog 5 #[.int .i64 0, .int .i64 (x : Int)] X fun ex w' => ex = .returned (.bool true) ∧ Fr No X w') := Lib.hid (fun X => by
    have := can_num 0 x X (by omega) (by omega)
    rwa [show canN 0 x = true from canN_zero hx] at this)
  obtain ⟨p, hp⟩ : ∃ p, p = placeN x := ⟨_, rfl⟩
  obtain ⟨M, hM⟩ : ∃ M, M = 2 ^ p := ⟨_, rfl⟩
  rw [← hp] at hpl hp16 hab
  have hM2 : M ≤ 65536 := by rw [hM]; exact Nat.pow_le_pow_right (by omega) hp16
  obtain ⟨s, hs⟩ : ∃ s, s = x + M := ⟨_, rfl⟩
  have HSH := Lib.hid (shl_one p M hp16 hM)
  have HAD := Lib.hid (add_i64 x M s hs (by omega))
  have ex : IntKind.i64.wrap (x : Int) = (x : Int) := IntWalk.i64_in _ (by omega)
  have ey : IntKind.i64.wrap (y : Int) = (y : Int) := IntWalk.i64_in _ (by omega)
  have ez : IntKind.i64.wrap (z : Int) = (z : Int) := IntWalk.i64_in _ (by omega)
  have t1 : ¬ (x : Int) ≤ (y : Int) := by omega
  have HPL := Lib.hid hpl
  clear hs hab hM hp hp16 hM2 hx hy hz h1 cxy hpl
  go_enter Try.func3, Try.ntmps3
  go_wp2_with fail
  refine (HPL.out _).mono ?_
  rintro e w0 ⟨rfl, hF⟩
  have F0 := Lib.hid hF
  clear hF
  go_wp2_with fail
  refine (Hxx.out _).mono ?_
  rintro e w1 ⟨rfl, hF⟩
  have F1 := Lib.hid (F0.out.trans hF)
  clear hF
  go_wp2_with fail
  refine (Hxy.out _).mono ?_
  rintro e w2 ⟨rfl, hF⟩
  have F2 := Lib.hid (F1.out.trans hF)
  clear hF
  go_wp2_with fail
  refine (Hxy.out _).mono ?_
  rintro e w3 ⟨rfl, hF⟩
  have F3 := Lib.hid (F2.out.trans hF)
  clear hF
  go_wp2_with fail
  refine (Hox.out _).mono ?_
  rintro e w4 ⟨rfl, hF⟩
  have F4 := Lib.hid (F3.out.trans hF)
  clear hF
  go_wp2_with fail
  refine (shown4_any _).mono ?_
  rintro e w5 ⟨rfl, hF⟩
  have F5 := Lib.hid (F4.out.trans hF)
  clear hF
  go_wp2
  go_ret
  exact ⟨rfl, F5.out⟩

theorem can_walk (x y z : Nat) (w : World) (hx : (x : Int) ≤ 65535) (hy : (y : Int) ≤ 65535) (hz : (z : Int) ≤ 65535) :
    Calls Try.prog 3 #[.int .u16 (x : Int), .int .u16 (y : Int), .int .u16 (z : Int)] w fun e w' => e = .returned (.bool true) ∧ Fr No w w' := by
  by_cases h1 : x ≤ y
  · by_cases h2 : y < x + 2 ^ placeN x
    · cases h3 : canN y z with
      | false => exact can_a1 x y z w (by omega) (by omega) (by omega) h1 h2 h3
      | true => exact can_a2 x y z w (by omega) (by omega) (by omega) h1 h2 h3
    · exact can_b x y z w (by omega) (by omega) (by omega) h1 (by omega)
  · exact can_c x y z w (by omega) (by omega) (by omega) (by omega)
end Go.Proofs.Ytiimkbboeekhlaa
