/- What a task still has to do, step by step: the document's words. -/
import Derived.Test.YtpmmfbbppnbhbaaSdQ
import Derived.Test.YtpmmfbbppnbhbaaSdP
namespace Go.Proofs.Ytpmmfbbppnbhbaa
set_option linter.unusedVariables false
set_option maxRecDepth 100000

/-- A step of a task. -/
inductive Sp | lock (k : Nat) | act | fin
  deriving DecidableEq
namespace Bs
/-- The locks of those that f tells. -/
def locksF (f : Nat → Bool) : List Sp := (if f 0 then [.lock 0] else []) ++ ((if f 1 then [.lock 1] else []) ++ ((if f 2 then [.lock 2] else []) ++ (if f 3 then [.lock 3] else [])))
def todo (s : Bs) (i : Nat) : List Sp := if (s.tk i).over then [] else locksF (s.lacks i) ++ ((if (s.tk i).acted then [] else [.act]) ++ [.fin])
theorem locksF_ext {f g : Nat → Bool} (h : ∀ k, k < 4 → f k = g k) : locksF f = locksF g := by
  unfold locksF
  rw [h 0 (by omega), h 1 (by omega), h 2 (by omega), h 3 (by omega)]
theorem locksF_none {f : Nat → Bool} (h : ∀ k, k < 4 → f k = false) : locksF f = [] := by
  unfold locksF
  rw [h 0 (by omega), h 1 (by omega), h 2 (by omega), h 3 (by omega)]
  rfl
theorem locksF_head {f g : Nat → Bool} {k : Nat} (hk : k < 4) (hf : f k = true) (hb : ∀ j, j < k → f j = false) (hg : ∀ j, j < 4 → g j = if j = k then false else f j) : locksF f = .lock k :: locksF g := by
  unfold locksF
  rw [hg 0 (by omega), hg 1 (by omega), hg 2 (by omega), hg 3 (by omega)]
  have hc : k = 0 ∨ k = 1 ∨ k = 2 ∨ k = 3 := by omega
  rcases hc with rfl | rfl | rfl | rfl
  · simp [hf]
  · simp [hf, hb 0 (by omega)]
  · simp [hf, hb 0 (by omega), hb 1 (by omega)]
  · simp [hf, hb 0 (by omega), hb 1 (by omega), hb 2 (by omega)]

theorem todo_over {s : Bs} {i : Nat} (h : (s.tk i).over = true) : s.todo i = [] := by unfold todo; rw [h]; rfl
theorem todo_len {s : Bs} {i : Nat} : (s.todo i).length ≤ 6 := by
  unfold todo locksF
  split
  · simp
  · simp only [List.length_append]
    split <;> split <;> split <;> split <;> split <;> simp
theorem todo_ne {s : Bs} {i : Nat} (h : (s.tk i).over = false) : s.todo i ≠ [] := by
  unfold todo
  rw [h]
  simp

/-! ### A lock -/
section
variable {s : Bs} {i k : Nat}
theorem lacks_lock (V : s.Inv) (hk : k < 4) (j : Nat) : (s.lock1 i k).lacks i j = if j = k then false else s.lacks i j := by
  have e : (s.lock1 i k).hold j = if j = k then (i : Int) else s.hold j := hold_set _ _ _ _ (by rw [V.hl]; exact hk) j
  unfold lacks
  rw [e]
  show ((s.tk i).need j && _) = _
  by_cases h : j = k
  · rw [if_pos h, if_pos h]; simp
  · rw [if_neg h, if_neg h]
theorem lacks_lock' (V : s.Inv) (hk : k < 4) (hf : s.hold k < 0) {m : Nat} (hm : m ≠ i) (j : Nat) : (s.lock1 i k).lacks m j = s.lacks m j := by
  have e : (s.lock1 i k).hold j = if j = k then (i : Int) else s.hold j := hold_set _ _ _ _ (by rw [V.hl]; exact hk) j
  unfold lacks
  rw [e]
  show ((s.tk m).need j && _) = _
  by_cases h : j = k
  · rw [if_pos h]
    subst h
    congr 1
    rw [decide_eq_true (by omega), decide_eq_true (by omega)]
  · rw [if_neg h]
theorem todo_lock (V : s.Inv) (ho : (s.tk i).over = false) (hw : s.wants i < 4) : s.todo i = .lock (s.wants i) :: (s.lock1 i (s.wants i)).todo i := by
  have ho' : ((s.lock1 i (s.wants i)).tk i).over = false := ho
  unfold todo
  rw [ho', ho]
  simp only [Bool.false_eq_true, if_false]
  rw [locksF_head hw (wants_lacks hw) (fun j hj => wants_below hj) (fun j hj => lacks_lock V hw j)]
  rfl
theorem todo_lock' (V : s.Inv) (hk : k < 4) (hf : s.hold k < 0) {m : Nat} (hm : m ≠ i) : (s.lock1 i k).todo m = s.todo m := by
  unfold todo
  rw [locksF_ext (fun j _ => lacks_lock' V hk hf hm j)]
  rfl
/-! ### The act -/
theorem todo_act (hw : s.wants i = 4) (ho : (s.tk i).over = false) (ha : (s.tk i).acted = false) : s.todo i = [.act, .fin] := by
  unfold todo
  rw [ho, ha, locksF_none (fun k hk => lacks_not.2 (wants_four.1 hw k hk))]
  rfl
theorem act_tk (hi : i < s.t.length) (j : Nat) : (s.act1 i).tk j = if j = i then (s.act1 i).tk i else s.tk j := by
  obtain ⟨x, hx, _⟩ := act_t s i
  have et : ∀ j, (s.act1 i).tk j = if j = i then x else s.tk j := fun j => by
    unfold tk
    rw [hx]
    exact Ps.getD_set _ _ _ _ _ hi
  rw [et j, et i, if_pos rfl]
theorem act_hold (k : Nat) : (s.act1 i).hold k = s.hold k := by
  obtain ⟨x, _, _, _, _, _, _, _, h, _⟩ := act_t s i
  unfold hold
  rw [h]
theorem act_need (hi : i < s.t.length) (j k : Nat) : ((s.act1 i).tk j).need k = (s.tk j).need k := by
  obtain ⟨x, hx, h1, h2, h3, h4, _⟩ := act_t s i
  have et : (s.act1 i).tk j = if j = i then x else s.tk j := by
    unfold tk
    rw [hx]
    exact Ps.getD_set _ _ _ _ _ hi
  rw [et]
  split
  · rename_i e; subst e; unfold Tk.need; rw [h1, h2, h4]
  · rfl
theorem lacks_act (hi : i < s.t.length) (j k : Nat) : (s.act1 i).lacks j k = s.lacks j k := by
  unfold lacks
  rw [act_hold, act_need hi]
theorem todo_act' (hi : i < s.t.length) {m : Nat} (hm : m ≠ i) : (s.act1 i).todo m = s.todo m := by
  unfold todo
  rw [locksF_ext (fun j _ => lacks_act hi m j), act_tk hi m, if_neg hm]
theorem todo_acted (hi : i < s.t.length) (hw : s.wants i = 4) (ho : (s.tk i).over = false) : (s.act1 i).todo i = [.fin] := by
  obtain ⟨x, hx, h1, h2, h3, h4, h5, h6, _⟩ := act_t s i
  have et : (s.act1 i).tk i = x := by
    unfold tk
    rw [hx, Ps.getD_set _ _ _ _ _ hi, if_pos rfl]
  unfold todo
  rw [locksF_ext (fun j _ => lacks_act hi i j), et, h5, h6, ho, locksF_none (fun k hk => lacks_not.2 (wants_four.1 hw k hk))]
  rfl
/-! ### The end -/
theorem todo_fin (hw : s.wants i = 4) (ho : (s.tk i).over = false) (ha : (s.tk i).acted = true) : s.todo i = [.fin] := by
  unfold todo
  rw [ho, ha, locksF_none (fun k hk => lacks_not.2 (wants_four.1 hw k hk))]
  rfl
theorem free_tk (hi : i < s.t.length) (j : Nat) : (s.free1 i).tk j = if j = i then { s.tk i with over := true } else s.tk j := tk_set _ _ _ _ hi j
theorem todo_freed (hi : i < s.t.length) : (s.free1 i).todo i = [] := todo_over (by rw [free_tk hi, if_pos rfl])
theorem todo_free' (hi : i < s.t.length) {m : Nat} (hm : m ≠ i) : (s.free1 i).todo m = s.todo m := by
  have e : ∀ k, (s.free1 i).lacks m k = s.lacks m k := fun k => by
    have e1 : (s.free1 i).hold k = if s.hold k = (i : Int) then -1 else s.hold k := hold_free i _ _ _ k
    unfold lacks
    rw [e1, free_tk hi, if_neg hm]
    by_cases h : s.hold k = (i : Int)
    · rw [if_pos h, h, decide_eq_true (by omega), decide_eq_true (by omega)]
    · rw [if_neg h]
  unfold todo
  rw [locksF_ext (fun j _ => e j), free_tk hi, if_neg hm]
/-! ### A task that begins -/
theorem todo_add' {x : Tk} {m : Nat} (hm : m ≠ s.t.length) : (s.add1 x).todo m = s.todo m := by
  have e : (s.add1 x).tk m = s.tk m := by rw [tk_add, if_neg hm]
  unfold todo lacks
  rw [e]
  rfl
theorem todo_new (V : s.Inv) {x : Tk} (ho : x.over = false) (ha : x.acted = false) : (s.add1 x).todo s.t.length = locksF x.need ++ [.act, .fin] := by
  have e : (s.add1 x).tk s.t.length = x := by rw [tk_add, if_pos rfl]
  have e2 : ∀ k, k < 4 → (s.add1 x).lacks s.t.length k = x.need k := fun k hk => by
    unfold lacks
    rw [e]
    have h1 : (s.add1 x).hold k = s.hold k := rfl
    rw [h1, decide_eq_true, Bool.and_true]
    intro h2
    have := (V.who k hk (by omega)).1
    omega
  unfold todo
  rw [locksF_ext e2, e, ho, ha]
  rfl
end
/-! ### One step -/
theorem step_case {s : Bs} (V : s.Inv) {i : Nat} (hi : i < s.t.length) (ho : (s.tk i).over = false) :
    (s.wants i < 4 ∧ (s.tk i).acted = false ∧ s.todo i = .lock (s.wants i) :: (s.lock1 i (s.wants i)).todo i ∧ s.stepE (i : Int) = (if 0 ≤ s.hold (s.wants i) then 100 else 0)) ∨
    (s.wants i = 4 ∧ (s.tk i).acted = false ∧ s.todo i = [.act, .fin] ∧ s.stepE (i : Int) = 0 ∧ s.stepS (i : Int) = s.act1 i) ∨
    (s.wants i = 4 ∧ (s.tk i).acted = true ∧ s.todo i = [.fin] ∧ s.stepE (i : Int) = 0 ∧ s.stepS (i : Int) = s.free1 i) := by
  have hg := goes_of hi ho
  have h4 := wants_le s i
  by_cases hw : s.wants i < 4
  · left
    refine ⟨hw, ?_, todo_lock V ho hw, ?_⟩
    · cases ha : (s.tk i).acted
      · rfl
      · have h1 := lacks_iff.1 (wants_lacks hw)
        exact absurd (V.all i hi ha ho _ hw h1.1) h1.2
    · unfold stepE
      rw [hg, Int.toNat_natCast]
      simp [hw]
  · have hw4 : s.wants i = 4 := by omega
    have e0 : s.stepE (i : Int) = 0 := by
      unfold stepE
      rw [hg, Int.toNat_natCast]
      simp [hw]
    right
    cases ha : (s.tk i).acted
    · left
      refine ⟨hw4, rfl, todo_act hw4 ho ha, e0, ?_⟩
      unfold stepS step1
      rw [if_pos e0, Int.toNat_natCast, if_neg hw, ha]
      rfl
    · right
      refine ⟨hw4, rfl, todo_fin hw4 ho ha, e0, ?_⟩
      unfold stepS step1
      rw [if_pos e0, Int.toNat_natCast, if_neg hw, ha]
      rfl
end Bs
theorem sum_ones {f : Nat → Nat} (h : ∀ i, f i ≤ 1) : ∀ n, sumN f n ≤ n
  | 0 => Nat.le_refl _
  | n + 1 => by
    show sumN f n + f n ≤ n + 1
    have := sum_ones h n
    have := h n
    omega
theorem Bs.done_le {s : Bs} (V : s.Inv) : s.done.length ≤ 32 := by
  rw [Bs.count_done s.done s.t.length V.nodup (fun i hi => ((V.done i).1 hi).1)]
  have := sum_ones (f := fun i => if i ∈ s.done then 1 else 0) (fun i => by split <;> omega) s.t.length
  have := V.len
  omega
end Go.Proofs.Ytpmmfbbppnbhbaa
