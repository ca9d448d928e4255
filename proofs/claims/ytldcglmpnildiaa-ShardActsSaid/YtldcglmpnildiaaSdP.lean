/- A bank goes on: some task can, as long as one is not over; each step that goes is one less. -/
import Derived.Test.YtldcglmpnildiaaSdM
namespace Go.Proofs.Ytldcglmpnildiaa
set_option linter.unusedVariables false
set_option maxRecDepth 100000
namespace Bs

/-- Of those that are not over, one that lacks a lock that somebody else holds, as high as can be. -/
theorem goesOn {s : Bs} (V : Inv s) {i : Nat} (hi : i < s.t.length) (ho : (s.tk i).over = false) : ∃ j, j < s.t.length ∧ s.stepE (j : Int) = 0 := by
  suffices H : ∀ m i, i < s.t.length → (s.tk i).over = false → 4 - s.wants i ≤ m → ∃ j, j < s.t.length ∧ s.stepE (j : Int) = 0 from H 4 i hi ho (by omega)
  intro m
  induction m with
  | zero =>
    intro i hi ho hm
    have := wants_le s i
    refine ⟨i, hi, stepE_zero.2 ⟨goes_of hi ho, ?_⟩⟩
    rw [Int.toNat_natCast]
    omega
  | succ m ih =>
    intro i hi ho hm
    by_cases hw : s.wants i < 4
    · by_cases hf : s.hold (s.wants i) < 0
      · exact ⟨i, hi, stepE_zero.2 ⟨goes_of hi ho, by rw [Int.toNat_natCast]; exact fun _ => hf⟩⟩
      · obtain ⟨h1, h2, h3⟩ := V.who _ hw (by omega)
        obtain ⟨j, hj⟩ : ∃ j, j = (s.hold (s.wants i)).toNat := ⟨_, rfl⟩
        have hj2 : s.hold (s.wants i) = (j : Int) := by omega
        rw [← hj] at h1 h2 h3
        have hgt : s.wants i < s.wants j := by
          rcases Nat.lt_or_ge (s.wants i) (s.wants j) with h | h
          · exact h
          · exfalso
            have hl := lacks_iff.1 (wants_lacks (s := s) (i := j) (by omega))
            rcases Nat.lt_or_ge (s.wants j) (s.wants i) with h4 | h4
            · exact hl.2 (V.order j (s.wants i) h1 hw hj2 (s.wants j) h4 hl.1)
            · have e : s.wants j = s.wants i := by omega
              rw [e] at hl
              exact hl.2 hj2
        exact ih j h1 h3 (by omega)
    · exact ⟨i, hi, stepE_zero.2 ⟨goes_of hi ho, by rw [Int.toNat_natCast]; exact fun h => absurd h hw⟩⟩

/-- How many steps a task has before it. -/
def lackN (s : Bs) (i : Nat) : Nat := sumN (fun k => if s.lacks i k then 1 else 0) 4
def left1 (s : Bs) (i : Nat) : Nat := if (s.tk i).over then 0 else if (s.tk i).acted then 1 else 2 + s.lackN i
def left (s : Bs) : Nat := sumN s.left1 s.t.length
theorem lackN_le (s : Bs) (i : Nat) : s.lackN i ≤ 4 := by
  have h : ∀ n, sumN (fun k => if s.lacks i k then 1 else 0) n ≤ n := by
    intro n
    induction n with
    | zero => exact Nat.le_refl _
    | succ n ih =>
      show _ + (if s.lacks i n then 1 else 0) ≤ n + 1
      split <;> omega
  exact h 4
theorem left_le {s : Bs} (V : Inv s) : s.left ≤ 192 := by
  have h : ∀ n, sumN s.left1 n ≤ 6 * n := by
    intro n
    induction n with
    | zero => exact Nat.le_refl _
    | succ n ih =>
      have := lackN_le s n
      have : s.left1 n ≤ 6 := by unfold left1; split <;> (try split) <;> omega
      show _ + s.left1 n ≤ _
      omega
  have := h s.t.length
  have := V.len
  unfold left
  omega
theorem left_step {s : Bs} (V : Inv s) {i : Int} (h : s.stepE i = 0) : (s.stepS i).left + 1 = s.left ∧ (s.stepS i).t.length = s.t.length := by
  obtain ⟨h1, h2⟩ := stepE_zero.1 h
  obtain ⟨i, rfl, hi, ho⟩ := goes_nat h1
  rw [Int.toNat_natCast] at h2
  have e0 : s.stepS (i : Int) = s.step1 i := by unfold stepS; rw [if_pos h, Int.toNat_natCast]
  rw [e0]
  unfold step1
  by_cases hw : s.wants i < 4
  · rw [if_pos hw]
    obtain ⟨k0, hk0⟩ : ∃ k, k = s.wants i := ⟨_, rfl⟩
    have hl := wants_lacks hw
    have hf := h2 hw
    rw [← hk0] at hl hf hw ⊢
    have e : ∀ k, (s.lock1 i k0).hold k = if k = k0 then (i : Int) else s.hold k := fun k => hold_set _ _ _ _ (by rw [V.hl]; exact hw) k
    have el : ∀ j k, (s.lock1 i k0).lacks j k = if j = i ∧ k = k0 then false else s.lacks j k := fun j k => by
      by_cases hk : k = k0
      · subst hk
        by_cases hj : j = i
        · subst hj
          rw [if_pos ⟨rfl, rfl⟩]
          exact lacks_not.2 (fun _ => by rw [e, if_pos rfl])
        · rw [if_neg (fun h => hj h.1)]
          unfold lacks
          rw [e, if_pos rfl]
          congr 1
          rw [decide_eq_true (by omega), decide_eq_true (by omega)]
      · rw [if_neg (fun h => hk h.2)]
        unfold lacks
        rw [e, if_neg hk]
        rfl
    have na : (s.tk i).acted = false := by
      cases ha : (s.tk i).acted
      · rfl
      · exact absurd (V.all i hi ha ho k0 hw (lacks_iff.1 hl).1) (lacks_iff.1 hl).2
    have el1 : ∀ k, k ≠ k0 → (s.lock1 i k0).lacks i k = s.lacks i k := fun k hk => by rw [el, if_neg (fun h => hk h.2)]
    have el2 : (s.lock1 i k0).lacks i k0 = false := by rw [el, if_pos ⟨rfl, rfl⟩]
    have hn : (s.lock1 i k0).lackN i + 1 = s.lackN i := by
      have := sumN_at (xs := fun k => if (s.lock1 i k0).lacks i k then 1 else 0) (ys := fun k => if s.lacks i k then 1 else 0) hw (fun k _ hk => by simp only [el1 k hk])
      simp only [el2, hl, if_true, Bool.false_eq_true, if_false] at this
      unfold lackN
      omega
    have h1' : ∀ j, j ≠ i → (s.lock1 i k0).left1 j = s.left1 j := fun j hj => by
      unfold left1 lackN
      simp only [el, if_neg (fun h : j = i ∧ _ => hj h.1)]
      rfl
    have h2' : (s.lock1 i k0).left1 i + 1 = s.left1 i := by
      unfold left1
      rw [show (s.lock1 i k0).tk i = s.tk i from rfl, ho, na]
      simp only [Bool.false_eq_true, if_false]
      omega
    refine ⟨?_, rfl⟩
    have := sumN_at (xs := (s.lock1 i k0).left1) (ys := s.left1) hi (fun j _ hj => h1' j hj)
    unfold left
    rw [show (s.lock1 i k0).t.length = s.t.length from rfl]
    omega
  · rw [if_neg hw]
    cases ha : (s.tk i).acted
    · rw [if_neg (by simp)]
      obtain ⟨x, hx, x1, x2, x3, x4, x5, x6, x7, x8⟩ := act_t s i
      have et : ∀ j, (s.act1 i).tk j = if j = i then x else s.tk j := fun j => by
        unfold tk
        rw [hx]
        exact Ps.getD_set _ _ _ _ _ hi
      have elen : (s.act1 i).t.length = s.t.length := by rw [hx, List.length_set]
      have en : ∀ j k, (s.act1 i).lacks j k = s.lacks j k := fun j k => by
        unfold lacks
        have : ((s.act1 i).tk j).need k = (s.tk j).need k := by
          rw [et]
          split
          · rename_i h; subst h; unfold Tk.need; rw [x1, x2, x4]
          · rfl
        rw [this]
        unfold hold
        rw [x7]
      have h4 : s.wants i = 4 := by have := wants_le s i; omega
      have hz : s.lackN i = 0 := sumN_zero (fun k hk => by rw [wants_below (by omega)]; rfl)
      have h1' : ∀ j, j ≠ i → (s.act1 i).left1 j = s.left1 j := fun j hj => by
        unfold left1 lackN
        simp only [en, et, if_neg hj]
      have h2' : (s.act1 i).left1 i + 1 = s.left1 i := by
        unfold left1
        rw [et, if_pos rfl, x6, x5, ho, ha, hz]
        rfl
      refine ⟨?_, elen⟩
      have := sumN_at (xs := (s.act1 i).left1) (ys := s.left1) hi (fun j _ hj => h1' j hj)
      unfold left
      rw [elen]
      omega
    · rw [if_pos rfl]
      have e : ∀ k, (s.free1 i).hold k = if s.hold k = (i : Int) then -1 else s.hold k := hold_free i _ _ _
      have et : ∀ j, (s.free1 i).tk j = if j = i then { s.tk i with over := true } else s.tk j := tk_set _ _ _ _ hi
      have elen : (s.free1 i).t.length = s.t.length := by simp [free1]
      have h1' : ∀ j, j ≠ i → (s.free1 i).left1 j = s.left1 j := fun j hj => by
        have en : ∀ k, (s.free1 i).lacks j k = s.lacks j k := fun k => by
          unfold lacks
          rw [et, if_neg hj, e]
          congr 1
          by_cases h : s.hold k = (i : Int)
          · rw [if_pos h, decide_eq_true (by omega), decide_eq_true (by omega)]
          · rw [if_neg h]
        unfold left1 lackN
        simp only [en, et, if_neg hj]
      have h2' : (s.free1 i).left1 i + 1 = s.left1 i := by
        unfold left1
        rw [et, if_pos rfl, ho, ha]
        rfl
      refine ⟨?_, elen⟩
      have := sumN_at (xs := (s.free1 i).left1) (ys := s.left1) hi (fun j _ hj => h1' j hj)
      unfold left
      rw [elen]
      omega

/-! ### Round by round -/
theorem step_same {s : Bs} {i : Int} (h : s.stepE i ≠ 0) : s.stepS i = s := if_neg h
theorem step_len {s : Bs} (V : Inv s) (i : Int) : (s.stepS i).t.length = s.t.length := by
  by_cases h : s.stepE i = 0
  · exact (left_step V h).2
  · rw [step_same h]
theorem step_left {s : Bs} (V : Inv s) (i : Int) : (s.stepS i).left ≤ s.left := by
  by_cases h : s.stepE i = 0
  · have := (left_step V h).1; omega
  · rw [step_same h]; exact Nat.le_refl _
/-- Behind the steps of 0 to i - 1. -/
def rnd (s : Bs) : Nat → Bs
  | 0 => s
  | i + 1 => (rnd s i).stepS (i : Int)
def went (s : Bs) : Nat → Bool
  | 0 => false
  | i + 1 => went s i || decide ((rnd s i).stepE (i : Int) = 0)
def waits (s : Bs) : Nat → Bool
  | 0 => false
  | i + 1 => waits s i || decide ((rnd s i).stepE (i : Int) ≠ 3)
theorem rnd_inv {s : Bs} (V : Inv s) : ∀ i, Inv (s.rnd i) ∧ (s.rnd i).t.length = s.t.length
  | 0 => ⟨V, rfl⟩
  | i + 1 => ⟨(rnd_inv V i).1.step _, (step_len (rnd_inv V i).1 _).trans (rnd_inv V i).2⟩
theorem rnd_left {s : Bs} (V : Inv s) : ∀ i, (s.rnd i).left ≤ s.left ∧ (s.went i = true → (s.rnd i).left < s.left) ∧ (s.went i = false → s.rnd i = s)
  | 0 => ⟨Nat.le_refl _, fun h => (by cases h), fun _ => rfl⟩
  | i + 1 => by
    obtain ⟨h1, h2, h3⟩ := rnd_left V i
    have V' := (rnd_inv V i).1
    have h4 := step_left V' (i : Int)
    show ((s.rnd i).stepS (i : Int)).left ≤ _ ∧ ((s.went i || decide ((s.rnd i).stepE (i : Int) = 0)) = true → _) ∧ ((s.went i || decide ((s.rnd i).stepE (i : Int) = 0)) = false → _)
    by_cases h : (s.rnd i).stepE (i : Int) = 0
    · have h5 := (left_step V' h).1
      rw [decide_eq_true h, Bool.or_true]
      exact ⟨by omega, fun _ => (by show ((s.rnd i).stepS (i : Int)).left < _; omega), fun e => (by cases e)⟩
    · rw [decide_eq_false h, Bool.or_false]
      refine ⟨by omega, fun e => ?_, fun e => ?_⟩
      · have := h2 e
        show ((s.rnd i).stepS (i : Int)).left < _
        omega
      · show (s.rnd i).stepS (i : Int) = s
        rw [step_same h]
        exact h3 e
theorem stepE_three {s : Bs} {i : Nat} (hi : i < s.t.length) : s.stepE (i : Int) = 3 ↔ (s.tk i).over = true := by
  unfold stepE
  constructor
  · intro h
    by_cases hg : s.goes (i : Int) = false
    · unfold goes at hg
      rw [Int.toNat_natCast, decide_eq_true (by omega), Bool.true_and] at hg
      simpa using hg
    · rw [if_neg hg] at h
      split at h <;> omega
  · intro h
    have hg : s.goes (i : Int) = false := by
      unfold goes
      rw [Int.toNat_natCast, h]
      simp
    rw [if_pos hg]
theorem went_of {s : Bs} : ∀ {n j : Nat}, j < n → (s.rnd j).stepE (j : Int) = 0 → s.went n = true
  | n + 1, j, h, e => by
    show (s.went n || _) = true
    by_cases hj : j = n
    · subst hj; rw [decide_eq_true e, Bool.or_true]
    · rw [went_of (n := n) (by omega) e, Bool.true_or]
theorem waits_of {s : Bs} : ∀ {n j : Nat}, j < n → (s.rnd j).stepE (j : Int) ≠ 3 → s.waits n = true
  | n + 1, j, h, e => by
    show (s.waits n || _) = true
    by_cases hj : j = n
    · subst hj; rw [decide_eq_true e, Bool.or_true]
    · rw [waits_of (n := n) (by omega) e, Bool.true_or]
theorem waits_some {s : Bs} : ∀ {n : Nat}, s.waits n = true → ∃ j, j < n ∧ (s.rnd j).stepE (j : Int) ≠ 3
  | 0, h => by cases h
  | n + 1, h => by
    have h : (s.waits n || decide ((s.rnd n).stepE (n : Int) ≠ 3)) = true := h
    rw [Bool.or_eq_true] at h
    rcases h with h | h
    · obtain ⟨j, hj, e⟩ := waits_some h
      exact ⟨j, by omega, e⟩
    · exact ⟨n, by omega, of_decide_eq_true h⟩
theorem went_not {s : Bs} {n j : Nat} (h : s.went n = false) (hj : j < n) : (s.rnd j).stepE (j : Int) ≠ 0 := fun e => by
  rw [went_of hj e] at h
  cases h
theorem rnd_same {s : Bs} : ∀ {n : Nat}, (∀ j, j < n → (s.rnd j).stepE (j : Int) ≠ 0) → s.rnd n = s
  | 0, _ => rfl
  | n + 1, h => by
    show (s.rnd n).stepS _ = s
    rw [step_same (h n (by omega)), rnd_same (n := n) (fun j hj => h j (by omega))]
/-- If somebody waits, somebody went. -/
theorem waits_went {s : Bs} (V : Inv s) (h : s.waits s.t.length = true) : s.went s.t.length = true := by
  cases hw : s.went s.t.length with
  | true => rfl
  | false =>
    exfalso
    obtain ⟨j, hj, e⟩ := waits_some h
    have hs : ∀ i, i ≤ s.t.length → s.rnd i = s := fun i hi => rnd_same (fun k hk => went_not hw (by omega))
    rw [hs j (by omega)] at e
    have ho : (s.tk j).over = false := by
      cases h1 : (s.tk j).over with
      | false => rfl
      | true => exact absurd ((stepE_three hj).2 h1) e
    obtain ⟨k, hk, ek⟩ := goesOn V hj ho
    have := went_not hw hk
    rw [hs k (by omega)] at this
    exact this ek
/-- If nobody waits, all are over. -/
theorem waits_not {s : Bs} (V : Inv s) (h : s.waits s.t.length = false) : s.rnd s.t.length = s ∧ ∀ i, i < s.t.length → (s.tk i).over = true := by
  have h3 : ∀ j, j < s.t.length → (s.rnd j).stepE (j : Int) = 3 := fun j hj => by
    by_cases e : (s.rnd j).stepE (j : Int) = 3
    · exact e
    · rw [waits_of hj e] at h
      cases h
  have hs : ∀ i, i ≤ s.t.length → s.rnd i = s := fun i hi => rnd_same (fun k hk => by rw [h3 k (by omega)]; omega)
  refine ⟨hs _ (Nat.le_refl _), fun i hi => ?_⟩
  have := h3 i hi
  rw [hs i (by omega)] at this
  exact (stepE_three hi).1 this

/-! ### When all are over -/
theorem count_done : ∀ (l : List Nat) (n : Nat), l.Nodup → (∀ i ∈ l, i < n) → l.length = sumN (fun i => if i ∈ l then 1 else 0) n
  | [], n, _, _ => by
    rw [sumN_zero (fun i _ => by simp)]
    rfl
  | a :: l, n, hn, hl => by
    obtain ⟨h1, h2⟩ := List.nodup_cons.1 hn
    have ih := count_done l n h2 (fun i hi => hl i (by simp [hi]))
    have := sumN_at (xs := fun i => if i ∈ a :: l then 1 else 0) (ys := fun i => if i ∈ l then 1 else 0) (hl a (by simp)) (fun i _ hne => by simp [hne])
    simp only [List.mem_cons_self, if_true, h1, if_false] at this
    rw [List.length_cons, ih]
    omega
theorem all_over {s : Bs} (V : Inv s) (h : ∀ i, i < s.t.length → (s.tk i).over = true) : s.done.length = s.t.length ∧ ∀ k, k < 4 → s.hold k = -1 := by
  constructor
  · rw [count_done s.done s.t.length V.nodup (fun i hi => ((V.done i).1 hi).1)]
    have e : sumN (fun i => if i ∈ s.done then 1 else 0) s.t.length = sumN (fun _ => 1) s.t.length := sumN_congr (fun i hi => if_pos ((V.done i).2 ⟨hi, V.oa i hi (h i hi)⟩))
    rw [e]
    have : ∀ n, sumN (fun _ => 1) n = n := by
      intro n
      induction n with
      | zero => rfl
      | succ n ih => show sumN (fun _ => 1) n + 1 = n + 1; rw [ih]
    exact this _
  · intro k hk
    have h1 := V.lo k hk
    by_cases h2 : 0 ≤ s.hold k
    · obtain ⟨a, b, c⟩ := V.who k hk h2
      rw [h _ a] at c
      cases c
    · omega
end Bs
end Go.Proofs.Ytldcglmpnildiaa
