/- The document's bank: any step; what its cells tell a law. -/
import Derived.Test.YtldcglmpnildiaaSkJ
import Derived.Test.YtldcglmpnildiaaSdL
namespace Go.Proofs.Ytldcglmpnildiaa
open Go.RowKit
set_option linter.unusedVariables false
set_option maxRecDepth 100000

theorem rstep_any {w : World} {S : Nat → Prop} (hS : ∀ k, S k → k < w.heap.size) (s : Bs) (L : List Value) (V : s.Inv) (h : DB S s L w) (hsm : s.Small) (i : Int) : Calls Try.prog 13 #[.agg L.toArray, .int .i64 i] w fun e w' =>
    ∃ L', e = .returned (.tuple #[.agg L'.toArray, .int .i64 (s.stepE i)]) ∧ DB S (s.stepS i) L' w' ∧ Fr No w w' := by
  cases hg : s.goes i with
  | false =>
    have e1 : s.stepE i = 3 := by unfold Bs.stepE; rw [hg]; rfl
    have e2 : s.stepS i = s := by unfold Bs.stepS; rw [if_neg (by rw [e1]; decide)]
    rw [e1, e2]
    exact rstep_none s L V h i hg
  | true =>
    obtain ⟨k, rfl, hk, ho⟩ := Bs.goes_nat hg
    rcases Bs.step_case V hk ho with ⟨hw, _, _, _⟩ | ⟨hw, ha, _, he, hs⟩ | ⟨hw, ha, _, he, hs⟩
    · exact rstep_lock hS s L V h k hk ho hw
    · rw [he, hs]
      cases hl : (s.tk k).lists with
      | true => exact rstep_list hS s L V h k hk ho hw ha hl
      | false => exact rstep_move hS s L V h k hk ho hw ha hl (hsm k)
    · rw [he, hs]
      exact rstep_free hS s L V h k hk ho hw ha
theorem small_step10 {s : Bs} (h : s.Small) (a : Int) : (s.stepS a).Small := by
  refine h.of fun i => .inl ?_
  have e := congrArg (fun l => (List.getD l i Tk.zero.st).n) (Bs.sts_step (s := s) a)
  have g : ∀ u : Bs, (u.sts.getD i Tk.zero.st).n = (u.tk i).n := fun u => by
    unfold Bs.sts Bs.tk
    rw [List.getD_eq_getElem?_getD, List.getD_eq_getElem?_getD, List.getElem?_map]
    cases u.t[i]? <;> rfl
  simp only [g] at e
  exact e
theorem neq_i10 (x : Int) (w : World) : (binOp .neq 3 (.int .i64 x) (.int .i64 x)).run Try.prog w = .ok (.bool false) w := by simp [go_sem]
theorem neq_e10 (x : Int) (w : World) : (binOp .neq 42 (.int .i64 x) (.int .i64 x)).run Try.prog w = .ok (.bool false) w := by simp [go_sem]
theorem neq_b10 (x : Bool) (w : World) : (binOp .neq 4 (.bool x) (.bool x)).run Try.prog w = .ok (.bool false) w := by
  cases x <;> simp [go_sem]
theorem eq_z10 (w : World) : (binOp .eql 3 (.int .i64 0) (.int .i64 0)).run Try.prog w = .ok (.bool true) w := by simp [go_sem]
theorem told_len10 {O : Nat → Prop} {p : Nat} {s : Bs} {w : World} (h : Bk O p s w) {i : Nat} (hi : i < s.t.length) : (s.tk i).told.length ≤ 32 := by
  obtain ⟨V, hlt, B, T, r, q, tv, dv, I, hb⟩ := h
  obtain ⟨d, st, to, _, _, _, ht⟩ := hb.task i hi
  rcases ht with ⟨e, _⟩ | ⟨g, c, _, _, _, h2, _⟩
  · rw [e]; simp
  · exact h2
theorem eq_m10 (w : World) : (binOp .eql 3 (.int .i64 (-1)) (.int .i64 (-1))).run Try.prog w = .ok (.bool true) w := by simp [go_sem]
section
variable {S O : Nat → Prop} {s : Bs} {L : List Value} {w w' : World}
theorem DB.grow (h : DB S s L w) (f : Fr S w w') : DB (Up S w w') s L w' := by
  obtain ⟨pa, pc, ta, tc, da, dc, ps, k⟩ := h
  exact ⟨pa, pc, ta, tc, da, dc, ps, fun Z g => k Z (f.trans' g (fun i hi e => e.elim id (fun e => by omega)))⟩
theorem up_lt' {T : Nat → Prop} (hS : ∀ k, S k → k < w.heap.size) (f : Fr T w w') : ∀ k, Up S w w' k → k < w'.heap.size := fun k e => e.elim (fun e => by have := hS k e; have := f.size; omega) (·.2)
/-- Who acted, as the law compares. -/
theorem DB.doneAt (h : DB S s L w) (V : s.p.Wf) : ∃ da dc, L[70]? = some (.slice da s.done.length dc) ∧ ∀ X, Fr No w X → ∀ i, i < s.done.length → ∃ a, da = some a ∧ X.cell? (a.add i) = some (.int .i64 (s.done.getD i 0 : Int)) := by
  obtain ⟨pa, pc, ta, tc, da, dc, ps, k⟩ := h
  have hk := k w (Fr.refl _ _)
  refine ⟨da, dc, by rw [hk.cells]; exact cellsK_hi V.hl 5, fun X f i hi => ?_⟩
  obtain ⟨g, hg, hc⟩ := (hk.no f).done i _ (cellsD_at hi)
  exact ⟨_, hg, by rw [Addr.add_lit, Nat.zero_add]; exact hc⟩
theorem DB.holdAt (h : DB S s L w) (V : s.p.Wf) {j : Nat} (hj : j < 4) : L[66 + j]? = some (.int .i64 (s.hold j)) := by
  obtain ⟨pa, pc, ta, tc, da, dc, ps, k⟩ := h
  exact (k w (Fr.refl _ _)).hcell V hj
/-- The tasks, as the law compares. -/
theorem DB.taskAt (h : DB S s L w) (V : s.p.Wf) : ∃ ta tc, L[65]? = some (.slice ta s.t.length tc) ∧ ∀ i, i < s.t.length → ∃ g tov, ta = some ⟨g, 0, none⟩ ∧ ∀ X, Fr No w X → OutN (s.tk i).told tov X ∧ ∀ j u, j < 12 → (cellsX (s.tk i) tov)[j]? = some u → X.cell? ⟨g, i * 12 + j, none⟩ = some u := by
  obtain ⟨pa, pc, ta, tc, da, dc, ps, k⟩ := h
  have hk := k w (Fr.refl _ _)
  refine ⟨ta, tc, hk.cellT V, fun i hi => ?_⟩
  obtain ⟨g, tov, hg, hps, _⟩ := hk.cell hi
  refine ⟨g, tov, hg, fun X f => ⟨(hk.no f).told (s.tk i, tov) (List.mem_of_getElem? hps), fun j u hj hu => ?_⟩⟩
  obtain ⟨g2, hg2, hc⟩ := (hk.no f).row (i * 12 + j) u (by rw [flatX_at ps i j _ hps hj]; exact hu)
  rw [hg] at hg2
  injection hg2 with hg2
  injection hg2 with hg2
  subst hg2
  exact hc
theorem DB.purAt (h : DB S s L w) (V : s.p.Wf) : ∃ pa pc, L[0]? = some (.slice pa s.p.b.length pc) ∧ ∀ X, Fr No w X → Nums X pa s.p.b.length (fun i => s.p.b.getD i 0) := by
  obtain ⟨pa, pc, ta, tc, da, dc, ps, k⟩ := h
  have hk := k w (Fr.refl _ _)
  refine ⟨pa, pc, by rw [hk.cells, cellsK_lo V.hl (by omega)]; rfl, fun X f i hi => ?_⟩
  obtain ⟨r, hr, hc⟩ := (hk.no f).pur.row i hi
  exact ⟨_, hr, by rw [Addr.add_lit, Nat.zero_add]; exact hc, by have h1 := Ps.bal_le hi; have h2 := V.top; show s.p.bal i < _; omega⟩
end
end Go.Proofs.Ytldcglmpnildiaa
