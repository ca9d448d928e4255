/- Whether a message has fields of its own alone; whether it may be. -/
import Derived.Test.YtpdnbjaamgfemaaWpH
namespace Go.Proofs.Ytpdnbjaamgfemaa
open Go.RowKit
set_option linter.unusedVariables false
set_option maxRecDepth 100000

/-! ### '==' of two messages -/
def eqM (x y : Msg) : Bool := x.k == y.k && ((x.c : Int) == (y.c : Int) && ((x.i : Int) == (y.i : Int) && ((x.a : Int) == (y.a : Int) && (x.h == y.h && (x.e == y.e && x.n == y.n)))))
theorem eq_step2 {d : Nat} {xs ys : Array Value} {f : Field} {fs : List Field} {w : World} {t o : Nat} {v u : Value} {r b : Bool} (hf : (f.name == "_", f.type, f.offset) = (false, t, o)) (hp : (part t xs o).run Try.prog w = .ok v w) (hq : (part t ys o).run Try.prog w = .ok u w) (he : (Op.equalIn d t v u).run Try.prog w = .ok r w)
    (hr : (Op.eqFields d xs ys fs).run Try.prog w = .ok b w) : (Op.eqFields d xs ys (f :: fs)).run Try.prog w = .ok (r && b) w := by
  have h1 : (f.name == "_") = false := congrArg Prod.fst hf
  have h2 : f.type = t := congrArg (fun x => x.2.1) hf
  have h3 : f.offset = o := congrArg (fun x => x.2.2) hf
  have h4 : f.name ≠ "_" := by simpa using h1
  rw [Op.eqFields, if_pos h4, h2, h3]
  cases r <;> simp [hp, hq, he, hr]
theorem eq_int2 {t : TypeId} {k k' : IntKind} (ht : Try.prog.underlying t = some (.int k')) (a b : Int) (w : World) : (Op.equalIn 9999 t (.int k a) (.int k b)).run Try.prog w = .ok (a == b) w := by
  rw [run_equalIn_int w 9998 t k k' a b ht]
theorem eqFields_two (x y : Msg) (hx : x.h.length = 32) (hy : y.h.length = 32) {t : TypeId} (ht : MT t) (w : World) : (Op.eqFields 9999 (cellsM x).toArray (cellsM y).toArray (Try.prog.fieldsOf t).toList).run Try.prog w = .ok (eqM x y) w := by
  have c36 : ∀ m : Msg, m.h.length = 32 → (cellsM m)[36]? = some (.int .i64 m.e) := fun m h => by
    have e1 : (m.h.map u8v).length = 32 := by rw [List.length_map]; exact h
    simp [cellsM, e1]
  have c37 : ∀ m : Msg, m.h.length = 32 → (cellsM m)[37]? = some (.int .i64 m.n) := fun m h => by
    have e1 : (m.h.map u8v).length = 32 := by rw [List.length_map]; exact h
    simp [cellsM, e1]
  have hh : (Op.equalIn 9999 25 (.agg (x.h.map u8v).toArray) (.agg (y.h.map u8v).toArray)).run Try.prog w = .ok (x.h == y.h) w :=
    run_equalIn_bytes w 9997 25 5 32 Try.underlying25 Try.underlying5 sizeByte x.h y.h hx hy
  obtain ⟨f0, l0, e0, h0, r0⟩ := List.map_eq_cons_iff.1 ht.fields
  obtain ⟨f1, l1, rfl, h1, r1⟩ := List.map_eq_cons_iff.1 r0
  obtain ⟨f2, l2, rfl, h2, r2⟩ := List.map_eq_cons_iff.1 r1
  obtain ⟨f3, l3, rfl, h3, r3⟩ := List.map_eq_cons_iff.1 r2
  obtain ⟨f4, l4, rfl, h4, r4⟩ := List.map_eq_cons_iff.1 r3
  obtain ⟨f5, l5, rfl, h5, r5⟩ := List.map_eq_cons_iff.1 r4
  obtain ⟨f6, l6, rfl, h6, r6⟩ := List.map_eq_cons_iff.1 r5
  obtain rfl : l6 = [] := List.map_eq_nil_iff.1 r6
  rw [e0]
  unfold eqM
  refine eq_step2 h0 (part_int Try.underlying3 (by rfl) w) (part_int Try.underlying3 (by rfl) w) (eq_int2 Try.underlying3 _ _ w) ?_
  refine eq_step2 h1 (part_int Try.underlying22 (by rfl) w) (part_int Try.underlying22 (by rfl) w) (eq_int2 Try.underlying22 _ _ w) ?_
  refine eq_step2 h2 (part_int Try.underlying23 (by rfl) w) (part_int Try.underlying23 (by rfl) w) (eq_int2 Try.underlying23 _ _ w) ?_
  refine eq_step2 h3 (part_int Try.underlying23 (by rfl) w) (part_int Try.underlying23 (by rfl) w) (eq_int2 Try.underlying23 _ _ w) ?_
  refine eq_step2 h4 (part_hash x hx w) (part_hash y hy w) hh ?_
  refine eq_step2 h5 (part_int Try.underlying3 (c36 x hx) w) (part_int Try.underlying3 (c36 y hy) w) (eq_int2 Try.underlying3 _ _ w) ?_
  have h7 := eq_step2 (fs := []) h6 (part_int Try.underlying3 (c37 x hx) w) (part_int Try.underlying3 (c37 y hy) w) (eq_int2 Try.underlying3 _ _ w) (b := true) rfl
  rw [Bool.and_true] at h7
  exact h7
theorem eql_two (x y : Msg) (hx : x.h.length = 32) (hy : y.h.length = 32) (w : World) : (binOp .eql 27 (vM x) (vM y)).run Try.prog w = .ok (.bool (eqM x y)) w := by
  rw [mt_msg.eq, eqFields_two x y hx hy mt_msg]
  rfl

/-! ### What is left without the fields that a kind has -/
def bareM (k : Int) : Msg := ⟨k, 0, 0, 0, zeroH, 0, 0⟩
theorem own_math (m : Msg) (h1 : 1 ≤ m.k) (h2 : m.k ≤ 9) : ∃ M, stepsF numE hshE (fieldsL m.k) (m, ()) = .ok (M, ()) ∧ eqM M (bareM m.k) = restOk m ∧ M.k = m.k := by
  obtain ⟨k, c, i, a, h, e, n⟩ := m
  have w0 : IntKind.i64.wrap 0 = 0 := by decide
  have w1 : IntKind.u32.wrap 0 = 0 := by decide
  have b0 : ∀ x : Nat, ((x : Int) == 0) = (x == 0) := fun x => by rw [Bool.eq_iff_iff]; simp
  dsimp only at h1 h2
  rcases kinds h1 h2 with rfl | rfl | rfl | rfl | rfl | rfl | rfl | rfl | rfl
  all_goals
    refine ⟨_, rfl, ?_, rfl⟩
    simp [eqM, bareM, restOk, inB, fieldsB, Fd.put, w0, w1, b0, Bool.and_assoc]

theorem build_one (k : Int) (w : World) : (Instr.build 27 #[(0, .int .i64 k)]).run Try.prog w = .ok (vM (bareM k)) w := by kernel_rfl
theorem fieldsL_len (k : Int) : (fieldsL k).length ≤ 5 := by
  unfold fieldsL
  repeat' split
  all_goals decide

def ownM (m : Msg) : Bool := decide (1 ≤ m.k ∧ m.k ≤ 9) && restOk m

set_option maxHeartbeats 1000000 in
theorem own_any (m : Msg) (ok : m.Ok) (w : World) : Calls Try.prog 25 #[vM m] w fun ex w' => ex = .returned (.bool (ownM m)) ∧ Fr No w w' := by
  obtain ⟨p, hp⟩ : ∃ p, p = w.heap.size := ⟨_, rfl⟩
  obtain ⟨W0, hW0⟩ : ∃ W, W = w.alloc (.cells (cellsM m).toArray 27) := ⟨_, rfl⟩
  have hB := Blk.new w 27 (cellsM m)
  rw [← hW0, ← hp] at hB
  have hF0 : Fr No w W0 := by rw [hW0]; exact (Fr.refl No w).alloc _
  have HF := Lib.hid (fieldsof_any p p m W0 hB hB.lt)
  have HB := Lib.hid hB
  have HF0 := Lib.hid hF0
  have HP := Lib.hid hp
  have HW := Lib.hid hW0
  have OK := Lib.hid ok
  obtain ⟨y, hy⟩ : ∃ y, y = ownM m := ⟨_, rfl⟩
  rw [← hy]
  have HY := Lib.hid hy
  clear hB hF0 hp hW0 ok hy
  go_enter Try.func25, Try.ntmps25
  go_wp2_with fail
  rw [← HP.out, ← HW.out]
  refine HF.out.mono ?_
  rintro ex w1 ⟨v, rfl, hF1, (⟨h1, h2, hL⟩ | ⟨hn, rfl⟩)⟩
  · obtain ⟨M, hM, hE, hK⟩ := own_math m h1 h2
    have hc := carry_any (car_e p p (Nat.le_refl p)) (w := w1) (m := m) (s := ()) (j := 0) hL (by have := fieldsL_len m.k; omega) OK.out (HB.out.fr hF1 id) trivial
    rw [hM] at hc
    have HC := Lib.hid hc
    have HO : Hid (eqM M (bareM m.k) = y) := Lib.hid (by rw [hE, HY.out, ownM, decide_eq_true ⟨h1, h2⟩, Bool.true_and])
    have HKM := Lib.hid hK
    obtain ⟨g, n, rfl⟩ : ∃ g n : Nat, v = .slice (some ⟨g, 0, none⟩) n n := by
      obtain ⟨g, bs, hv, _⟩ := hL
      exact ⟨g, _, hv⟩
    have HF1 := Lib.hid hF1
    clear hL hM hE hc hF1 h1 h2 HF hK
    go_wp2_with (refine wpList_execG (.bool false) (exec_bin .eql 58 (.tmp 5) (.const (.slice none 0 0)) 58 rfl _ _ _ rfl rfl (by kernel_rfl) (by kernel_rfl)) rfl ?_)
    refine HC.out.mono ?_
    rintro ex w2 ⟨rfl, okM, -, hk, hb⟩
    have HX := Lib.hid (msg_load hb okM.h mt_msg)
    have hcell : w2.cell? ⟨p, 0, none⟩ = some (.int .i64 m.k) := by rw [← HKM.out]; exact msg_k hb
    have HQ : Hid (∀ X, (binOp .eql 27 (vM M) (vM (bareM m.k))).run Try.prog X = .ok (.bool y) X) := Lib.hid (fun X => by rw [eql_two M (bareM m.k) okM.h (by rfl) X, HO.out])
    have HR : Hid (Fr No w w2) := Lib.hid ((HF0.out.trans HF1.out).trans' hk.fr (fun i hi hs => absurd hi (by have : p ≤ i := hs; have := HP.out; omega)))
    obtain ⟨K, hK⟩ : ∃ K, K = m.k := ⟨_, rfl⟩
    rw [← hK] at hcell HQ
    clear okM hk hb HC HO hK HY HB HKM HF0 HF1 OK
    go_wp2_with (first
      | (refine wpList_load_eq rfl 27 _ rfl (.pointer (some ⟨p, 0, none⟩)) (vM M) rfl HX.out ?_)
      | (refine wpList_execG (vM (bareM K)) (exec_build 27 #[(0, .tmp 13)] rfl #[(0, .int .i64 K)] (by simp [go_sem]) _ (build_one K _)) rfl ?_)
      | (refine wpList_execG (.bool y) (exec_bin .eql 27 (.tmp 11) (.tmp 14) 27 rfl (vM M) (vM (bareM K)) _ rfl rfl (by kernel_rfl) (HQ.out _)) rfl ?_))
    go_ret
    exact ⟨rfl, HR.out⟩
  · have HR : Hid (Fr No w w1) := Lib.hid (HF0.out.trans hF1)
    obtain rfl : y = false := by rw [HY.out, ownM, decide_eq_false hn, Bool.false_and]
    clear hF1 hn HF HY
    go_wp2_with (refine wpList_execG (.bool true) (exec_bin .eql 58 (.tmp 5) (.const (.slice none 0 0)) 58 rfl _ _ _ rfl rfl (by kernel_rfl) (by kernel_rfl)) rfl ?_)
    go_ret
    exact ⟨rfl, HR.out⟩
end Go.Proofs.Ytpdnbjaamgfemaa
