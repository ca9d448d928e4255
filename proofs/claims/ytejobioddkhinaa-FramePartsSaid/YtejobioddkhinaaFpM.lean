/- For the walk of 'FrameParts': frames that stand one behind the other, plain; a list of texts that a law makes. -/
import Derived.Test.YtejobioddkhinaaFbM
import Derived.Laws.AppendOwn
import Derived.OwnWalk
namespace Go.Proofs.Ytejobioddkhinaa
open Go.RowKit
set_option linter.unusedVariables false
set_option maxRecDepth 100000

def flat (xs : List (List UInt8)) : List UInt8 := xs.flatMap putV
def OkL (xs : List (List UInt8)) : Prop := ∀ x ∈ xs, 1 ≤ x.length ∧ x.length ≤ 300
theorem flat_cons (x : List UInt8) (xs : List (List UInt8)) : flat (x :: xs) = putV x ++ flat xs := by simp [flat]
theorem flat_snoc (x : List UInt8) (xs : List (List UInt8)) : flat (xs ++ [x]) = flat xs ++ putV x := by simp [flat]
theorem flat_le : ∀ (xs : List (List UInt8)), OkL xs → (flat xs).length ≤ 302 * xs.length
  | [], _ => by simp [flat]
  | x :: xs, h => by
    have h1 := h x (List.mem_cons_self ..)
    have h2 := flat_le xs (fun y hy => h y (List.mem_cons_of_mem _ hy))
    rw [flat_cons, List.length_append, putV_some h1.1 (by omega), List.length_append, List.length_cons]
    have e2 : (two8 x.length).length = 2 := rfl
    omega
theorem lenH_append {r : List UInt8} (h : 2 ≤ r.length) (s : List UInt8) : lenH (r ++ s) = lenH r := by
  match r, h with
  | a :: b :: t, _ => rfl
theorem lenH_short {r : List UInt8} (h : ¬ 2 ≤ r.length) : lenH r = -1 := by
  match r, h with
  | [], _ => rfl
  | [a], _ => rfl
  | a :: b :: t, h => exact absurd (by simp) h
theorem lenH_flat {x : List UInt8} {xs : List (List UInt8)} (h : OkL (x :: xs)) : lenH (flat (x :: xs)) = (x.length : Int) := by
  have h1 := h x (List.mem_cons_self ..)
  rw [flat_cons, putV_some h1.1 (by omega), List.append_assoc]
  exact lenH_two _ (by omega) _

theorem part_good {r s : List UInt8} {ys : List (List UInt8)} (h : r ++ s = flat ys) (ok : OkL ys) : badF r = false := by
  by_cases h2 : 2 ≤ r.length
  · have hl := lenH_append h2 s
    match ys, ok with
    | [], _ =>
      obtain rfl : r = [] := (List.append_eq_nil_iff.1 h).1
      exact absurd h2 (by decide)
    | y :: ys, ok =>
      have h1 := ok y (List.mem_cons_self ..)
      rw [h, lenH_flat ok] at hl
      unfold badF
      exact decide_eq_false (by omega)
  · unfold badF
    rw [lenH_short h2]
    rfl
theorem part_next {r s : List UInt8} {ys : List (List UInt8)} (h : r ++ s = flat ys) (ok : OkL ys) (hf : isF r = true) : ∃ y zs, ys = y :: zs ∧ textF r = y ∧ restF r ++ s = flat zs := by
  obtain ⟨h1, h2, h3⟩ := (isF_iff r).1 hf
  have h2r : 2 ≤ r.length := by omega
  have hl := lenH_append h2r s
  match ys, ok with
  | [], _ =>
    obtain rfl : r = [] := (List.append_eq_nil_iff.1 h).1
    exact absurd h2r (by decide)
  | y :: zs, ok =>
    have hy := ok y (List.mem_cons_self ..)
    rw [h, lenH_flat ok] at hl
    obtain ⟨f1, f2, f3⟩ := frame_first hy.1 (by omega) (flat zs)
    have e : putV y ++ flat zs = r ++ s := by rw [h, flat_cons]
    rw [e] at f1 f2 f3
    have hls := lenH_append h2r s
    refine ⟨y, zs, rfl, ?_, ?_⟩
    · rw [textF, if_pos f1, hls] at f2
      rw [textF, if_pos hf, ← f2, List.drop_append_of_le_length (by omega), List.take_append_of_le_length (by rw [List.length_drop]; omega)]
    · rw [restF, if_pos f1, hls] at f3
      rw [restF, if_pos hf, ← f3, List.drop_append_of_le_length (by omega)]
theorem part_end {r : List UInt8} {ys : List (List UInt8)} (h : r = flat ys) (ok : OkL ys) (hf : isF r = false) : ys = [] ∧ r = [] := by
  match ys, ok with
  | [], _ => exact ⟨rfl, by rw [h]; rfl⟩
  | y :: zs, ok =>
    have hy := ok y (List.mem_cons_self ..)
    obtain ⟨f1, _, _⟩ := frame_first hy.1 (by omega) (flat zs)
    rw [← flat_cons, ← h, hf] at f1
    cases f1

theorem drew_fr8 (S : Nat → Prop) (w : World) : Fr S w w.drew := (Fr.refl S w).drew

/-! ### A list of texts that a law makes -/
def strV (x : List UInt8) : Value := .string (str x)
def Own (B : Nat) (v : Value) (xs : List (List UInt8)) (w : World) : Prop := w.ownsRow B 9 1 v xs.length (xs.map strV)
def lenV : Value → Nat
  | .slice _ n _ => n
  | _ => 0
section
variable {B : Nat} {v : Value} {xs : List (List UInt8)} {w w' : World}
theorem Own.lenV (h : Own B v xs w) : lenV v = xs.length := by
  rcases h.2 with ⟨rfl, h0⟩ | ⟨g, cap, cur, rfl, _⟩
  · exact h0.symm
  · rfl
theorem Own.slice (h : Own B v xs w) : ∃ a cap, v = .slice a xs.length cap := by
  rcases h.2 with ⟨rfl, h0⟩ | ⟨g, cap, cur, rfl, _⟩
  · exact ⟨none, 0, by rw [h0]⟩
  · exact ⟨_, _, rfl⟩
theorem Own.low (h : Own B v xs w) {k : Nat} (hk : v.ownBlock = some k) : B ≤ k ∧ k < w.heap.size ∧ ∃ cs, Blk w k 9 cs := by
  rcases h.2 with ⟨rfl, _⟩ | ⟨g, cap, cur, rfl, hb, hg, _⟩
  · cases hk
  · obtain rfl : g = k := by simpa [Value.ownBlock] using hk
    exact ⟨hb, (Array.getElem?_eq_some_iff.1 hg).1, cur.toList, by unfold Blk; simpa using hg⟩
theorem Own.keep (h : Own B v xs w) (hk : ∀ k cs, v.ownBlock = some k → Blk w k 9 cs → Blk w' k 9 cs) : Own B v xs w' := by
  refine ⟨h.1, ?_⟩
  rcases h.2 with hn | ⟨g, cap, cur, rfl, hb, hg, hr⟩
  · exact .inl hn
  · refine .inr ⟨g, cap, cur, rfl, hb, ?_, hr⟩
    have := hk g cur.toList rfl (by unfold Blk; simpa using hg)
    unfold Blk at this
    simpa using this
theorem Own.fr {S : Nat → Prop} (h : Own B v xs w) (hF : Fr S w w') (hS : ∀ k, v.ownBlock = some k → ¬ S k) : Own B v xs w' := h.keep (fun k cs hk hb => hb.fr hF (hS k hk))
theorem Own.ksp {C : Nat} (h : Own B v xs w) (hK : KSp C w w') : Own B v xs w' := h.keep (fun k cs _ hb => hK.blk k cs hb)
theorem Own.cell (h : Own B v xs w) {i : Nat} {x : List UInt8} (hx : xs[i]? = some x) : ∃ g cap, v = .slice (some ⟨g, 0, none⟩) xs.length cap ∧ w.cell? ⟨g, i, none⟩ = some (.string (str x)) := by
  have hi := (List.getElem?_eq_some_iff.1 hx).1
  rcases h.2 with ⟨rfl, h0⟩ | ⟨g, cap, cur, rfl, hb, hg, h1, h2, h3, h4⟩
  · omega
  · refine ⟨g, cap, rfl, ?_⟩
    rw [cell_of_row w g i cur 9 (0, 0) hg]
    have e : (xs.map strV)[i]? = some (strV x) := by rw [List.getElem?_map, hx]; rfl
    rw [← h4, List.getElem?_take_of_lt (by omega)] at e
    rw [← Array.getElem?_toList]
    exact e
theorem infoStr : (Try.prog.info? 9).map (fun i => (i.zero, i.size, i.bytes)) = some (some (.string ⟨#[]⟩), 1, 16) := by kernel_rfl
theorem own_app (h : Own B v xs w) (hB : B ≤ w.heap.size) (hl : xs.length ≤ 1000) (t : List UInt8) (ad : Addr) (hc : w.cell? ad = some (.string (str t))) (c : Nat) (ty : TypeId) :
    ∃ v' w', (Builtin.append_ #[22, 22] ty #[v, .slice (some ad) 1 c]).run Try.prog w = .ok v' w' ∧ Own B v' (xs ++ [t]) w' ∧ Fr (fun k => v.ownBlock = some k) w w' := by
  obtain ⟨i0, hi, hz0, hz1, hz2⟩ := info_parts infoStr
  have hadd0 : ∀ j u, [Value.string (str t)][j]? = some u → w.cell? (ad.add j) = some u := by
    intro j u hu
    cases j with
    | zero =>
      have e : ad.add 0 = ad := by cases ad; unfold Addr.add; split <;> simp_all
      rw [e, hc]
      simpa using hu
    | succ j => simp at hu
  obtain ⟨v', w', h1, h2, h3, _⟩ := run_append_own w B 22 ty 9 i0 (.string ⟨#[]⟩) 1 16 Try.underlying22 hi hz0 hz1 hz2 rfl (by decide) v xs.length (xs.map strV) h ad 1 c [.string (str t)] rfl hadd0 (by intro u hu; simp at hu; subst hu; rfl) (by unfold maxLen; omega) (by omega) hB
  refine ⟨v', w', h1, ?_, Fr.of_grown h3 (fun k hk => hk)⟩
  unfold Own
  rw [List.length_append, List.map_append]
  exact h2
end
theorem sp_app {C p : Nat} {r : List UInt8} {B : Nat} {v : Value} {xs : List (List UInt8)} {w w' : World} (h : Sp C p r w) (ho : Own B v xs w) (hF : Fr (fun k => v.ownBlock = some k) w w') : Sp C p r w' := by
  cases hv : v.ownBlock with
  | none => exact h.fr (hF.mono (fun k _ hk => by rw [hv] at hk; cases hk))
  | some b =>
    obtain ⟨_, _, cs, hb⟩ := ho.low hv
    exact h.other hb rfl (hF.mono (fun k _ hk => by rw [hv] at hk; exact (Option.some.inj hk).symm))
theorem own_new (B : Nat) (w : World) (hB : B ≤ w.heap.size) : Own B (.slice (some ⟨w.heap.size, 0, none⟩) 0 0) [] (w.alloc (.cells #[] 9)) :=
  ⟨rfl, .inr ⟨w.heap.size, 0, #[], rfl, hB, heap_alloc_new w _, Nat.le_refl _, Nat.zero_le _, rfl, rfl⟩⟩
theorem exec_append {P : Program} {o : Oper} {ev : Operand → Value} {w w' : World} (s x : Operand) (t : TypeId) (ho : o.op = .call { callee := .builtin .append, args := #[s, x], argTypes := #[t, t] }) (vs vx v : Value) (hs : ev s = vs) (hx : ev x = vx) (hr : (Builtin.append_ #[t, t] o.type #[vs, vx]).run P w = .ok v w') : (execOp ev o).run P w = .ok (.value v) w' := by
  unfold execOp
  rw [ho]
  subst hs hx
  simp [resolve, invoke, builtin, hr]
theorem wp_append {P : Program} {o : Oper} {a : Act} {w w' : World} {K : Act → World → Prop} {Q : Exit → Act → World → Prop} (s x : Operand) (t : TypeId) (ho : o.op = .call { callee := .builtin .append, args := #[s, x], argTypes := #[t, t] }) (vs vx v : Value) (hs : a.eval s = vs) (hx : a.eval x = vx)
    (hr : (Builtin.append_ #[t, t] o.type #[vs, vx]).run P w = .ok v w') (h : K (a.put o.dst v) w') : o.wp P a w K Q := by
  unfold Oper.wp
  rw [exec_append s x t ho vs vx v hs hx hr]
  exact h
end Go.Proofs.Ytejobioddkhinaa
