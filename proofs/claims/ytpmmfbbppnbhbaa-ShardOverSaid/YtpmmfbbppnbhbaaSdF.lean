/- What a task's steps do: a lock, the deed. -/
import Derived.Test.YtpmmfbbppnbhbaaSdE
import Derived.Test.YtpmmfbbppnbhbaaTake
namespace Go.Proofs.Ytpmmfbbppnbhbaa
open Go.RowKit
set_option linter.unusedVariables false
set_option maxRecDepth 100000

theorem wp_append10 {P : Program} {o : Oper} {a : Act} {w w' : World} {K : Act → World → Prop} {Q : Exit → Act → World → Prop} (s x : Operand) (t : TypeId) (ho : o.op = .call { callee := .builtin .append, args := #[s, x], argTypes := #[t, t] }) (vs vx v : Value) (hs : a.eval s = vs) (hx : a.eval x = vx)
    (hr : (Builtin.append_ #[t, t] o.type #[vs, vx]).run P w = .ok v w') (h : K (a.put o.dst v) w') : o.wp P a w K Q := by
  unfold Oper.wp execOp
  simp only [ho, resolve, invoke, builtin, Sem.run_bind, Sem.run_pure, Result.andThen_ok, List.map_toArray, List.map_cons, List.map_nil, hs, hx, hr]
  exact h

set_option maxHeartbeats 1000000 in
theorem lock_held {p k q x : Nat} {w : World} (hc : w.cell? ⟨p, 1 + k, none⟩ = some (.pointer (some ⟨x, 0, none⟩))) :
    Calls Try.prog 47 #[.agg #[.pointer (some ⟨p, 1 + k, none⟩), .pointer (some ⟨q, 0, none⟩)]] w fun e w' => e = .returned (.int .i64 100) ∧ Fr No w w' := by
  obtain ⟨o, ho⟩ : ∃ o, o = 1 + k := ⟨_, rfl⟩
  rw [← ho] at hc ⊢
  clear ho
  have hlt := lt_cell hc
  go_enter Try.func47, Try.ntmps47
  go_wp2
  go_ret
  exact ⟨rfl, (Fr.refl No w).alloc _⟩
set_option maxHeartbeats 1000000 in
theorem lock_free {p k q : Nat} {w : World} (hc : w.cell? ⟨p, 1 + k, none⟩ = some (.pointer none)) (hf : w.frozen? ⟨p, 1 + k, none⟩ = false) :
    Calls Try.prog 47 #[.agg #[.pointer (some ⟨p, 1 + k, none⟩), .pointer (some ⟨q, 0, none⟩)]] w fun e w' => e = .returned (.int .i64 0) ∧ ∃ o, w' = (w.setCell ⟨p, 1 + k, none⟩ (.pointer (some ⟨q, 0, none⟩))).alloc o := by
  obtain ⟨o, ho⟩ : ∃ o, o = 1 + k := ⟨_, rfl⟩
  rw [← ho] at hc hf ⊢
  clear ho
  have hlt := lt_cell hc
  go_enter Try.func47, Try.ntmps47
  go_wp2
  go_ret
  exact ⟨rfl, _, rfl⟩

section
variable {O I : Nat → Prop} {w : World} {p : Nat} {s : Bs} {td : Nat → List Sp} {B T r : Nat} {q : Nat → Nat} {tv dv : Value}
set_option maxHeartbeats 1000000 in
theorem listF_any (h : BkAt O p s td w B T r q tv dv I) {b : Nat} (hb : w.cell? ⟨b, 0, none⟩ = some (.pointer (some ⟨p, 0, none⟩))) :
    Calls Try.prog 36 #[.pointer (some ⟨b, 0, none⟩)] w fun e w' => ∃ g c, e = .returned (.tuple #[.int .i64 0, .slice (some ⟨g, 0, none⟩) s.p.b.length c]) ∧ w.heap.size ≤ g ∧ g < w'.heap.size ∧ Rw w' g s.p.b ∧ Fr No w w' := by
  have HB := Lib.hid (balances10_any h)
  obtain ⟨n, hn⟩ : ∃ n, n = s.p.b.length := ⟨_, rfl⟩
  obtain ⟨l, hl⟩ : ∃ l, l = s.p.b := ⟨_, rfl⟩
  rw [← hn, ← hl] at HB
  rw [← hn, ← hl]
  clear h hn hl
  go_enter Try.func36, Try.ntmps36
  go_wp2_with fail
  refine HB.out.mono ?_
  rintro x w1 ⟨g, c, rfl, h1, h2, h3, h4⟩
  have H1 := Lib.hid h1
  have H2 := Lib.hid h2
  have H3 := Lib.hid h3
  have H4 := Lib.hid h4
  clear h1 h2 h3 h4
  go_wp2
  go_ret2
  exact ⟨g, c, rfl, H1.out, H2.out, H3.out, H4.out⟩
end
end Go.Proofs.Ytpmmfbbppnbhbaa
