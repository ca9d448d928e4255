/- A bank's time: what was over ahead of a task's beginning acted ahead of it. -/
import Derived.Test.YtldcglmpnildiaaSdQ
namespace Go.Proofs.Ytldcglmpnildiaa
set_option linter.unusedVariables false
set_option maxRecDepth 100000
namespace Bs

/-- The place of d in l. -/
def pos : List Nat → Nat → Nat
  | [], _ => 0
  | a :: l, d => if a = d then 0 else pos l d + 1
theorem pos_lt : ∀ {l : List Nat} {d : Nat}, d ∈ l → pos l d < l.length
  | a :: l, d, h => by
    unfold pos
    by_cases e : a = d
    · rw [if_pos e]; simp
    · rw [if_neg e]
      have := pos_lt (l := l) (d := d) (by simpa [Ne.symm e] using h)
      simp
      omega
theorem pos_app : ∀ {l : List Nat} (r : List Nat) {d : Nat}, d ∈ l → pos (l ++ r) d = pos l d
  | a :: l, r, d, h => by
    show (if a = d then 0 else pos (l ++ r) d + 1) = if a = d then 0 else pos l d + 1
    by_cases e : a = d
    · rw [if_pos e, if_pos e]
    · rw [if_neg e, if_neg e, pos_app r (by simpa [Ne.symm e] using h)]
theorem pos_new : ∀ {l : List Nat} {d : Nat}, d ∉ l → pos (l ++ [d]) d = l.length
  | [], d, _ => by simp [pos]
  | a :: l, d, h => by
    have h1 : a ≠ d := fun e => h (by simp [e])
    show (if a = d then 0 else pos (l ++ [d]) d + 1) = _
    rw [if_neg h1, pos_new (fun e => h (by simp [e]))]
    rfl
/-- In a list in which none stands twice, the i-th one stands at i. -/
theorem pos_at : ∀ {l : List Nat} {i : Nat}, l.Nodup → i < l.length → pos l (l.getD i 0) = i
  | a :: l, 0, _, _ => by simp [pos]
  | a :: l, i + 1, hn, hi => by
    obtain ⟨h1, h2⟩ := List.nodup_cons.1 hn
    have hi' : i < l.length := by simpa using hi
    have hm : l.getD i 0 ∈ l := by
      rw [List.getD_eq_getElem?_getD, List.getElem?_eq_getElem hi']
      exact List.getElem_mem hi'
    have hne : a ≠ l.getD i 0 := fun e => h1 (by rw [e]; exact hm)
    show (if a = l.getD i 0 then 0 else pos l (l.getD i 0) + 1) = _
    rw [if_neg hne, pos_at h2 hi']

structure Tm (s : Bs) (ended : List Nat) (before : Nat → Nat) : Prop where
  e1 : ∀ x ∈ ended, x < s.t.length ∧ (s.tk x).over = true
  e2 : ∀ i, i < s.t.length → before i ≤ ended.length
  e3 : ∀ i, i ∈ s.done → ∀ k, k < before i → pos s.done (ended.getD k 0) < pos s.done i
theorem Tm.mem {s : Bs} {ended : List Nat} {before : Nat → Nat} (V : Inv s) (T : Tm s ended before) {k : Nat} (hk : k < ended.length) : ended.getD k 0 ∈ s.done := by
  have hm : ended.getD k 0 ∈ ended := by
    rw [List.getD_eq_getElem?_getD, List.getElem?_eq_getElem hk]
    exact List.getElem_mem hk
  obtain ⟨h1, h2⟩ := T.e1 _ hm
  exact (V.done _).2 ⟨h1, V.oa _ h1 h2⟩
theorem Tm.new (l : List Nat) (before : Nat → Nat) : Tm (newB l) [] before :=
  ⟨fun x hx => by simp at hx, fun i hi => by simp [newB] at hi, fun i hi => by simp [newB] at hi⟩
theorem Tm.add {s : Bs} {ended : List Nat} {before : Nat → Nat} (V : Inv s) (T : Tm s ended before) (x : Tk) : Tm (s.add1 x) ended (fun i => if i = s.t.length then ended.length else before i) := by
  have e := tk_add s x
  have el : (s.add1 x).t.length = s.t.length + 1 := by simp [add1]
  refine ⟨fun y hy => ?_, fun i hi => ?_, fun i hi k hk => ?_⟩
  · obtain ⟨h1, h2⟩ := T.e1 y hy
    rw [e, if_neg (by omega)]
    exact ⟨by omega, h2⟩
  · split
    · exact Nat.le_refl _
    · exact T.e2 i (by omega)
  · have h1 := ((V.done i).1 hi).1
    rw [if_neg (by omega)] at hk
    exact T.e3 i hi k hk
/-- A step: whoever is over behind it, and stepped, has ended. -/
theorem Tm.step {s : Bs} {ended : List Nat} {before : Nat → Nat} (V : Inv s) (T : Tm s ended before) {i : Nat} (h : s.stepE (i : Int) = 0) :
    Tm (s.stepS (i : Int)) (if ((s.stepS (i : Int)).tk i).over then ended ++ [i] else ended) before := by
  obtain ⟨h1, h2⟩ := stepE_zero.1 h
  obtain ⟨k, hki, hi, ho⟩ := goes_nat h1
  obtain rfl : k = i := by omega
  rw [Int.toNat_natCast] at h2
  have e0 : s.stepS (k : Int) = s.step1 k := by unfold stepS; rw [if_pos h, Int.toNat_natCast]
  have hst : ∀ j, j < s.t.length → (s.tk j).over = true → (s.stepS (k : Int)).tk j = s.tk j := fun j hj hjo => over_stays V hj hjo _
  have keep : ∀ {s' : Bs}, s' = s.stepS (k : Int) → s'.t.length = s.t.length → ∀ x ∈ ended, x < s'.t.length ∧ (s'.tk x).over = true := fun {s'} hs hl x hx => by
    obtain ⟨a, b⟩ := T.e1 x hx
    rw [hs, hst x a b]
    exact ⟨by rw [← hs, hl]; exact a, b⟩
  unfold step1 at e0
  by_cases hw : s.wants k < 4
  · rw [if_pos hw] at e0
    have hno : ((s.stepS (k : Int)).tk k).over = false := by rw [e0]; exact ho
    rw [hno, if_neg (by simp)]
    have hl : (s.stepS (k : Int)).t.length = s.t.length := by rw [e0]; rfl
    refine ⟨keep rfl hl, fun j hj => T.e2 j (by omega), ?_⟩
    rw [show (s.stepS (k : Int)).done = s.done by rw [e0]; rfl]
    exact T.e3
  · rw [if_neg hw] at e0
    cases ha : (s.tk k).acted
    · rw [ha, if_neg (by simp)] at e0
      obtain ⟨x, hx, x1, x2, x3, x4, x5, x6, x7, x8⟩ := act_t s k
      have hl : (s.stepS (k : Int)).t.length = s.t.length := by rw [e0, hx, List.length_set]
      have hno : ((s.stepS (k : Int)).tk k).over = false := by
        rw [e0]
        unfold tk at ho ⊢
        rw [hx, Ps.getD_set _ _ _ _ _ hi, if_pos rfl, x6]
        exact ho
      rw [hno, if_neg (by simp)]
      have hni : k ∉ s.done := fun h => by rw [((V.done k).1 h).2] at ha; cases ha
      refine ⟨keep rfl hl, fun j hj => T.e2 j (by omega), fun j hj r hr => ?_⟩
      rw [show (s.stepS (k : Int)).done = s.done ++ [k] by rw [e0]; exact x8] at hj ⊢
      by_cases hjk : j = k
      · subst hjk
        have h3 : r < ended.length := by have := T.e2 j hi; omega
        have h4 := T.mem V h3
        rw [pos_new hni, pos_app _ h4]
        exact pos_lt h4
      · have hj' : j ∈ s.done := by simpa [hjk] using hj
        have h3 : r < ended.length := by have := T.e2 j ((V.done j).1 hj').1; omega
        rw [pos_app _ hj', pos_app _ (T.mem V h3)]
        exact T.e3 j hj' r hr
    · rw [ha, if_pos rfl] at e0
      have et : ∀ j, (s.free1 k).tk j = if j = k then { s.tk k with over := true } else s.tk j := tk_set _ _ _ _ hi
      have hl : (s.stepS (k : Int)).t.length = s.t.length := by rw [e0]; simp [free1]
      have hyes : ((s.stepS (k : Int)).tk k).over = true := by rw [e0, et, if_pos rfl]
      rw [hyes, if_pos rfl]
      refine ⟨fun x hx => ?_, fun j hj => by have := T.e2 j (by omega); simp; omega, fun j hj r hr => ?_⟩
      · rw [List.mem_append, List.mem_singleton] at hx
        rcases hx with hx | rfl
        · exact keep rfl hl x hx
        · exact ⟨by omega, hyes⟩
      · rw [show (s.stepS (k : Int)).done = s.done by rw [e0]; rfl] at hj ⊢
        have h3 : r < ended.length := by have := T.e2 j ((V.done j).1 hj).1; omega
        rw [getD_snoc, if_pos h3]
        exact T.e3 j hj r hr
end Bs
end Go.Proofs.Ytldcglmpnildiaa
