/- A purse: the document's words, plain. -/
import Derived.Test.YtldcglmpnildiaaAmM
namespace Go.Proofs.Ytldcglmpnildiaa
set_option linter.unusedVariables false
set_option maxRecDepth 100000

theorem sumN_congr {xs ys : Nat → Nat} : ∀ {n : Nat}, (∀ i, i < n → xs i = ys i) → sumN xs n = sumN ys n
  | 0, _ => rfl
  | n + 1, h => by
    show sumN xs n + xs n = sumN ys n + ys n
    rw [sumN_congr (n := n) (fun i hi => h i (by omega)), h n (by omega)]
theorem sumN_at {xs ys : Nat → Nat} {k : Nat} : ∀ {n : Nat}, k < n → (∀ i, i < n → i ≠ k → xs i = ys i) → sumN xs n + ys k = sumN ys n + xs k
  | 0, h, _ => by omega
  | n + 1, h, hh => by
    show sumN xs n + xs n + ys k = sumN ys n + ys n + xs k
    by_cases hk : k = n
    · subst hk
      rw [sumN_congr (n := k) (fun i hi => hh i (by omega) (by omega))]
      omega
    · have := sumN_at (n := n) (k := k) (xs := xs) (ys := ys) (by omega) (fun i hi hn => hh i (by omega) hn)
      have := hh n (by omega) (by omega)
      omega
theorem sumN_le (xs : Nat → Nat) {k : Nat} : ∀ {n : Nat}, k < n → xs k ≤ sumN xs n
  | 0, h => by omega
  | n + 1, h => by
    show xs k ≤ sumN xs n + xs n
    by_cases hk : k = n
    · subst hk; omega
    · have := sumN_le xs (n := n) (k := k) (by omega)
      omega
theorem sumN_add (xs ys : Nat → Nat) : ∀ n, sumN (fun i => xs i + ys i) n = sumN xs n + sumN ys n
  | 0 => rfl
  | n + 1 => by
    show sumN (fun i => xs i + ys i) n + (xs n + ys n) = sumN xs n + xs n + (sumN ys n + ys n)
    rw [sumN_add xs ys n]
    omega
theorem sumN_zero {xs : Nat → Nat} : ∀ {n : Nat}, (∀ i, i < n → xs i = 0) → sumN xs n = 0
  | 0, _ => rfl
  | n + 1, h => by
    show sumN xs n + xs n = 0
    rw [sumN_zero (n := n) (fun i hi => h i (by omega)), h n (by omega)]
theorem sumN_one (k v : Nat) : ∀ n, sumN (fun i => if k = i then v else 0) n = if k < n then v else 0
  | 0 => rfl
  | n + 1 => by
    show sumN (fun i => if k = i then v else 0) n + (if k = n then v else 0) = _
    rw [sumN_one k v n]
    by_cases h : k = n
    · subst h; simp
    · by_cases h2 : k < n
      · rw [if_pos h2, if_neg h, if_pos (by omega)]; rfl
      · rw [if_neg h2, if_neg h, if_neg (by omega)]

/-- A purse: balances; and for each number of a reservation whose it is, and how much (0: there is none). -/
structure Ps where
  b : List Nat
  h : List (Nat × Nat)
namespace Ps
def bal (s : Ps) (i : Nat) : Nat := s.b.getD i 0
def hold (s : Ps) (i : Nat) : Nat × Nat := s.h.getD i (0, 0)
def heldF (a : Int) (x : Nat × Nat) : Nat := if (x.1 : Int) = a then x.2 else 0
def held (s : Ps) (a : Int) : Nat := sumN (fun i => heldF a (s.hold i)) 32
def total (s : Ps) : Nat := sumN s.bal s.b.length + sumN (fun i => (s.hold i).2) 32
def has (s : Ps) (a : Int) : Bool := decide (0 ≤ a ∧ a < s.b.length)
def there (s : Ps) (i : Int) : Bool := decide (0 ≤ i ∧ i < 32 ∧ 0 < (s.hold i.toNat).2)
def free (s : Ps) : Nat := s.h.findIdx (fun x => x.2 == 0)
def resE (s : Ps) (a : Int) (n : Nat) : Int := if s.has a = false then 3 else if n = 0 then 1 else if s.free = 32 then 2 else if s.bal a.toNat < n then 61 else 0
def resI (s : Ps) (a : Int) (n : Nat) : Nat := if s.resE a n = 0 then s.free else 0
def res1 (s : Ps) (a n : Nat) : Ps := ⟨s.b.set a (s.bal a - n), s.h.set s.free (a, n)⟩
def resS (s : Ps) (a : Int) (n : Nat) : Ps := if s.resE a n = 0 then s.res1 a.toNat n else s
def comE (s : Ps) (i t : Int) : Int := if s.there i = false then 1 else if s.has t = false then 3 else 0
def com1 (s : Ps) (i t : Nat) : Ps := ⟨s.b.set t (s.bal t + (s.hold i).2), s.h.set i (0, 0)⟩
def comS (s : Ps) (i t : Int) : Ps := if s.comE i t = 0 then s.com1 i.toNat t.toNat else s
def relE (s : Ps) (i : Int) : Int := if s.there i = false then 1 else 0
def relS (s : Ps) (i : Int) : Ps := if s.relE i = 0 then s.com1 i.toNat (s.hold i.toNat).1 else s
def movE (s : Ps) (f t : Int) (n : Nat) : Int := if s.has f = false ∨ s.has t = false then 3 else if n = 0 then 1 else if s.bal f.toNat < n then 61 else 0
def less (s : Ps) (f n : Nat) : Ps := ⟨s.b.set f (s.bal f - n), s.h⟩
def more (s : Ps) (t n : Nat) : Ps := ⟨s.b.set t (s.bal t + n), s.h⟩
def movS (s : Ps) (f t : Int) (n : Nat) : Ps := if s.movE f t n = 0 then (s.less f.toNat n).more t.toNat n else s

structure Wf (s : Ps) : Prop where
  hl : s.h.length = 32
  b1 : 1 ≤ s.b.length
  b2 : s.b.length ≤ 32
  top : s.total ≤ 1125899906842624
  acc : ∀ i, i < 32 → 0 < (s.hold i).2 → (s.hold i).1 < s.b.length
  zero : ∀ i, i < 32 → (s.hold i).2 = 0 → (s.hold i).1 = 0

theorem getD_set {α : Type} (l : List α) (i j : Nat) (v d : α) (hi : i < l.length) : (l.set i v).getD j d = if j = i then v else l.getD j d := by
  rw [List.getD_eq_getElem?_getD, List.getElem?_set, List.getD_eq_getElem?_getD]
  by_cases h : i = j
  · subst h; simp [hi]
  · rw [if_neg h, if_neg (fun e => h e.symm)]
theorem bal_set (s : Ps) {i : Nat} (v : Nat) (h : List (Nat × Nat)) (hi : i < s.b.length) (j : Nat) : bal ⟨s.b.set i v, h⟩ j = if j = i then v else s.bal j := getD_set _ _ _ _ _ hi
theorem hold_set (s : Ps) {i : Nat} (x : Nat × Nat) (b : List Nat) (hi : i < s.h.length) (j : Nat) : hold ⟨b, s.h.set i x⟩ j = if j = i then x else s.hold j := getD_set _ _ _ _ _ hi
theorem has_nat {s : Ps} {a : Int} (h : s.has a = true) : ∃ k : Nat, a = (k : Int) ∧ k < s.b.length := by
  unfold has at h
  rw [decide_eq_true_eq] at h
  exact ⟨a.toNat, by omega, by omega⟩
theorem has_of {s : Ps} {k : Nat} (h : k < s.b.length) : s.has (k : Int) = true := by unfold has; rw [decide_eq_true_eq]; omega
theorem there_nat {s : Ps} {i : Int} (h : s.there i = true) : ∃ k : Nat, i = (k : Int) ∧ k < 32 ∧ 0 < (s.hold k).2 := by
  unfold there at h
  rw [decide_eq_true_eq] at h
  exact ⟨i.toNat, by omega, by omega, h.2.2⟩
theorem there_of {s : Ps} {k : Nat} (h : k < 32) (h2 : 0 < (s.hold k).2) : s.there (k : Int) = true := by
  unfold there
  rw [decide_eq_true_eq]
  exact ⟨by omega, by omega, by simpa using h2⟩

/-! ### The least number that is free -/
theorem free_le {s : Ps} (hl : s.h.length = 32) : s.free ≤ 32 := by
  have := List.findIdx_le_length (xs := s.h) (p := fun x => x.2 == 0)
  unfold free
  omega
theorem free_taken {s : Ps} (hl : s.h.length = 32) {i : Nat} (h : i < s.free) : 0 < (s.hold i).2 := by
  have h1 := free_le hl
  have h2 := List.not_of_lt_findIdx (xs := s.h) (p := fun x => x.2 == 0) (i := i) (show i < s.h.findIdx (fun x => x.2 == 0) from h)
  unfold hold
  rw [List.getD_eq_getElem?_getD, List.getElem?_eq_getElem (by omega)]
  simp only [Option.getD_some]
  have : (s.h[i].2 == 0) ≠ true := by simpa using h2
  have : s.h[i].2 ≠ 0 := by simpa using this
  omega
theorem free_is {s : Ps} (hl : s.h.length = 32) (h : s.free < 32) : (s.hold s.free).2 = 0 := by
  have h2 := List.findIdx_getElem (xs := s.h) (p := fun x => x.2 == 0) (w := by unfold free at h; omega)
  unfold hold
  rw [List.getD_eq_getElem?_getD, List.getElem?_eq_getElem (by omega)]
  have h3 : (s.h[s.h.findIdx (fun x => x.2 == 0)]'(by unfold free at h; omega)).2 = 0 := by simpa using h2
  exact h3
theorem free_eq {s : Ps} (hl : s.h.length = 32) {k : Nat} (h1 : k < 32) (h2 : ∀ i, i < k → 0 < (s.hold i).2) (h3 : (s.hold k).2 = 0) : s.free = k := by
  rcases Nat.lt_trichotomy s.free k with h | h | h
  · have a := free_is hl (by omega)
    have b := h2 _ h
    omega
  · exact h
  · have a := free_taken hl h
    omega
theorem free_full {s : Ps} (hl : s.h.length = 32) (h2 : ∀ i, i < 32 → 0 < (s.hold i).2) : s.free = 32 := by
  have h1 := free_le hl
  by_cases h : s.free = 32
  · exact h
  · have a := free_is hl (by omega)
    have b := h2 s.free (by omega)
    omega

/-! ### What stays -/
theorem bal_le {s : Ps} {i : Nat} (h : i < s.b.length) : s.bal i ≤ s.total := by
  have := sumN_le s.bal h
  unfold total
  omega
theorem hold_le {s : Ps} {i : Nat} (h : i < 32) : (s.hold i).2 ≤ s.total := by
  have := sumN_le (fun i => (s.hold i).2) h
  unfold total
  omega
theorem held_le (s : Ps) (a : Int) : s.held a ≤ s.total := by
  have h : ∀ n, sumN (fun i => heldF a (s.hold i)) n ≤ sumN (fun i => (s.hold i).2) n := by
    intro n
    induction n with
    | zero => exact Nat.le_refl _
    | succ n ih =>
      show _ + heldF a (s.hold n) ≤ _ + (s.hold n).2
      have : heldF a (s.hold n) ≤ (s.hold n).2 := by unfold heldF; split <;> omega
      omega
  have := h 32
  unfold held total
  omega
theorem sum_bal {s : Ps} {i : Nat} (v : Nat) (h : List (Nat × Nat)) (hi : i < s.b.length) : sumN (bal ⟨s.b.set i v, h⟩) (s.b.set i v).length + s.bal i = sumN s.bal s.b.length + v := by
  rw [List.length_set]
  have := sumN_at (xs := bal ⟨s.b.set i v, h⟩) (ys := s.bal) hi (fun j _ hj => by rw [bal_set s v h hi, if_neg hj])
  rw [bal_set s v h hi, if_pos rfl] at this
  exact this
theorem sum_hold {s : Ps} {i : Nat} (x : Nat × Nat) (b : List Nat) (hl : s.h.length = 32) (hi : i < 32) : sumN (fun j => (hold ⟨b, s.h.set i x⟩ j).2) 32 + (s.hold i).2 = sumN (fun j => (s.hold j).2) 32 + x.2 := by
  have e := hold_set s x b (i := i) (by omega)
  have := sumN_at (xs := fun j => (hold ⟨b, s.h.set i x⟩ j).2) (ys := fun j => (s.hold j).2) hi (fun j _ hj => by simp only [e, if_neg hj])
  simp only [e, if_pos] at this
  simpa [e] using this

theorem total_res1 {s : Ps} (W : Wf s) {a n : Nat} (ha : a < s.b.length) (hf : s.free < 32) (hn : n ≤ s.bal a) : (s.res1 a n).total = s.total := by
  have h1 := sum_bal (s := s) (s.bal a - n) (s.h.set s.free (a, n)) ha
  have h2 := sum_hold (s := s) (a, n) (s.b.set a (s.bal a - n)) W.hl hf
  have h3 := free_is W.hl hf
  unfold total res1
  simp only at h1 h2 ⊢
  omega
theorem Wf.res1 {s : Ps} (W : Wf s) {a n : Nat} (ha : a < s.b.length) (hf : s.free < 32) (h0 : n ≠ 0) (hn : n ≤ s.bal a) : Wf (s.res1 a n) := by
  have e := hold_set s (a, n) (s.b.set a (s.bal a - n)) (i := s.free) (by rw [W.hl]; exact hf)
  refine ⟨by simp [Ps.res1, W.hl], by simpa [Ps.res1] using W.b1, by simpa [Ps.res1] using W.b2, by rw [total_res1 W ha hf hn]; exact W.top, fun i hi h => ?_, fun i hi h => ?_⟩
  · unfold Ps.res1 at h ⊢
    rw [e] at h ⊢
    simp only [List.length_set]
    split
    · exact ha
    · rename_i hne
      rw [if_neg hne] at h
      exact W.acc i hi h
  · unfold Ps.res1 at h ⊢
    rw [e] at h ⊢
    split
    · rename_i he
      rw [if_pos he] at h
      exact absurd h h0
    · rename_i hne
      rw [if_neg hne] at h
      exact W.zero i hi h
theorem total_com1 {s : Ps} (W : Wf s) {i t : Nat} (hi : i < 32) (ht : t < s.b.length) : (s.com1 i t).total = s.total := by
  have h1 := sum_bal (s := s) (s.bal t + (s.hold i).2) (s.h.set i (0, 0)) ht
  have h2 := sum_hold (s := s) (0, 0) (s.b.set t (s.bal t + (s.hold i).2)) W.hl hi
  unfold total com1
  simp only at h1 h2 ⊢
  omega
theorem Wf.com1 {s : Ps} (W : Wf s) {i t : Nat} (hi : i < 32) (ht : t < s.b.length) : Wf (s.com1 i t) := by
  have e := hold_set s (0, 0) (s.b.set t (s.bal t + (s.hold i).2)) (i := i) (by rw [W.hl]; exact hi)
  refine ⟨by simp [Ps.com1, W.hl], by simpa [Ps.com1] using W.b1, by simpa [Ps.com1] using W.b2, by rw [total_com1 W hi ht]; exact W.top, fun j hj h => ?_, fun j hj h => ?_⟩
  · unfold Ps.com1 at h ⊢
    rw [e] at h ⊢
    simp only [List.length_set]
    split at h
    · exact absurd h (Nat.lt_irrefl 0)
    · rename_i hne
      rw [if_neg hne]
      exact W.acc j hj h
  · unfold Ps.com1 at h ⊢
    rw [e] at h ⊢
    split
    · rfl
    · rename_i hne
      rw [if_neg hne] at h
      exact W.zero j hj h
theorem bal_less (s : Ps) {f : Nat} (n : Nat) (hf : f < s.b.length) (j : Nat) : (s.less f n).bal j = if j = f then s.bal f - n else s.bal j := bal_set s _ _ hf j
theorem bal_more (s : Ps) {t : Nat} (n : Nat) (ht : t < s.b.length) (j : Nat) : (s.more t n).bal j = if j = t then s.bal t + n else s.bal j := bal_set s _ _ ht j
theorem len_less (s : Ps) (f n : Nat) : (s.less f n).b.length = s.b.length := List.length_set
theorem len_more (s : Ps) (f n : Nat) : (s.more f n).b.length = s.b.length := List.length_set
theorem total_less {s : Ps} {f n : Nat} (hf : f < s.b.length) (hn : n ≤ s.bal f) : (s.less f n).total + n = s.total := by
  have h1 := sum_bal (s := s) (s.bal f - n) s.h hf
  unfold total less
  show sumN (bal ⟨s.b.set f (s.bal f - n), s.h⟩) (s.b.set f (s.bal f - n)).length + sumN (fun i => (s.hold i).2) 32 + n = _
  omega
theorem total_more {s : Ps} {t n : Nat} (ht : t < s.b.length) : (s.more t n).total = s.total + n := by
  have h1 := sum_bal (s := s) (s.bal t + n) s.h ht
  unfold total more
  show sumN (bal ⟨s.b.set t (s.bal t + n), s.h⟩) (s.b.set t (s.bal t + n)).length + sumN (fun i => (s.hold i).2) 32 = _
  omega
theorem total_mov {s : Ps} {f t n : Nat} (hf : f < s.b.length) (ht : t < s.b.length) (hn : n ≤ s.bal f) : ((s.less f n).more t n).total = s.total := by
  rw [total_more (by rw [len_less]; exact ht), total_less hf hn]
theorem Wf.mov {s : Ps} (W : Wf s) {f t n : Nat} (hf : f < s.b.length) (ht : t < s.b.length) (hn : n ≤ s.bal f) : Wf ((s.less f n).more t n) :=
  ⟨W.hl, by rw [len_more, len_less]; exact W.b1, by rw [len_more, len_less]; exact W.b2, by rw [total_mov hf ht hn]; exact W.top, fun i hi h => by rw [len_more, len_less]; exact W.acc i hi h, W.zero⟩
theorem Wf.less {s : Ps} (W : Wf s) {f n : Nat} (hf : f < s.b.length) (hn : n ≤ s.bal f) : Wf (s.less f n) :=
  ⟨W.hl, by rw [len_less]; exact W.b1, by rw [len_less]; exact W.b2, by have := total_less hf hn; have := W.top; omega, fun i hi h => by rw [len_less]; exact W.acc i hi h, W.zero⟩

/-! ### By the errors -/
theorem resE_cases {s : Ps} (a : Int) (n : Nat) : s.resE a n = 0 ↔ s.has a = true ∧ n ≠ 0 ∧ s.free ≠ 32 ∧ n ≤ s.bal a.toNat := by
  unfold resE
  cases h : s.has a
  · simp
  · by_cases h1 : n = 0
    · simp [h1]
    · by_cases h2 : s.free = 32
      · simp [h1, h2]
      · by_cases h3 : s.bal a.toNat < n
        · simp [h1, h2, h3]
        · simp [h1, h2, h3]; omega
theorem Wf.res {s : Ps} (W : Wf s) (a : Int) (n : Nat) : Wf (s.resS a n) ∧ (s.resS a n).total = s.total := by
  unfold resS
  split
  · rename_i h
    obtain ⟨h1, h2, h3, h4⟩ := (resE_cases a n).1 h
    obtain ⟨k, rfl, hk⟩ := has_nat h1
    have hf : s.free < 32 := by have := free_le W.hl; omega
    exact ⟨W.res1 hk hf h2 h4, total_res1 W hk hf h4⟩
  · exact ⟨W, rfl⟩
theorem comE_cases {s : Ps} (i t : Int) : s.comE i t = 0 ↔ s.there i = true ∧ s.has t = true := by
  unfold comE
  cases s.there i <;> cases s.has t <;> simp
theorem Wf.com {s : Ps} (W : Wf s) (i t : Int) : Wf (s.comS i t) ∧ (s.comS i t).total = s.total := by
  unfold comS
  split
  · rename_i h
    obtain ⟨h1, h2⟩ := (comE_cases i t).1 h
    obtain ⟨k, rfl, hk, hk2⟩ := there_nat h1
    obtain ⟨j, rfl, hj⟩ := has_nat h2
    exact ⟨W.com1 hk hj, total_com1 W hk hj⟩
  · exact ⟨W, rfl⟩
theorem relE_cases {s : Ps} (i : Int) : s.relE i = 0 ↔ s.there i = true := by
  unfold relE
  cases s.there i <;> simp
theorem Wf.rel {s : Ps} (W : Wf s) (i : Int) : Wf (s.relS i) ∧ (s.relS i).total = s.total := by
  unfold relS
  split
  · rename_i h
    obtain ⟨k, rfl, hk, hk2⟩ := there_nat ((relE_cases i).1 h)
    exact ⟨W.com1 hk (W.acc k hk hk2), total_com1 W hk (W.acc k hk hk2)⟩
  · exact ⟨W, rfl⟩
/-- Release is Commit to where it came from. -/
theorem rel_com {s : Ps} (W : Wf s) {i : Int} (h : s.there i = true) : s.comE i ((s.hold i.toNat).1 : Int) = 0 ∧ s.comS i ((s.hold i.toNat).1 : Int) = s.relS i := by
  obtain ⟨k, rfl, hk, hk2⟩ := there_nat h
  have h2 : s.has ((s.hold k).1 : Int) = true := has_of (W.acc k hk hk2)
  have e : s.comE (k : Int) ((s.hold k).1 : Int) = 0 := (comE_cases _ _).2 ⟨h, h2⟩
  have e2 : s.relE (k : Int) = 0 := (relE_cases _).2 h
  refine ⟨by simpa using e, ?_⟩
  unfold comS relS
  rw [if_pos e2, if_pos (by simpa using e)]
  simp
theorem movE_cases {s : Ps} (f t : Int) (n : Nat) : s.movE f t n = 0 ↔ s.has f = true ∧ s.has t = true ∧ n ≠ 0 ∧ n ≤ s.bal f.toNat := by
  unfold movE
  cases s.has f <;> cases s.has t <;> simp
  by_cases h1 : n = 0
  · simp [h1]
  · by_cases h2 : s.bal f.toNat < n
    · simp [h1, h2]
    · simp [h1, h2]; omega
theorem Wf.movS {s : Ps} (W : Wf s) (f t : Int) (n : Nat) : Wf (s.movS f t n) ∧ (s.movS f t n).total = s.total := by
  unfold Ps.movS
  split
  · rename_i h
    obtain ⟨h1, h2, h3, h4⟩ := (movE_cases f t n).1 h
    obtain ⟨k, rfl, hk⟩ := has_nat h1
    obtain ⟨j, rfl, hj⟩ := has_nat h2
    exact ⟨W.mov hk hj h4, total_mov hk hj h4⟩
  · exact ⟨W, rfl⟩
theorem len_res {s : Ps} (a : Int) (n : Nat) : (s.resS a n).b.length = s.b.length := by unfold resS; split <;> simp [res1]
theorem len_com {s : Ps} (i t : Int) : (s.comS i t).b.length = s.b.length := by unfold comS; split <;> simp [com1]
theorem len_rel {s : Ps} (i : Int) : (s.relS i).b.length = s.b.length := by unfold relS; split <;> simp [com1]
theorem len_mov {s : Ps} (f t : Int) (n : Nat) : (s.movS f t n).b.length = s.b.length := by unfold movS; split <;> simp [less, more]

/-! ### All of it, counted as the document counts -/
theorem sumN_swap (F : Nat → Nat → Nat) (n : Nat) : ∀ m, sumN (fun i => sumN (fun j => F i j) m) n = sumN (fun j => sumN (fun i => F i j) n) m
  | 0 => by
    show sumN (fun _ => 0) n = 0
    exact sumN_zero (fun _ _ => rfl)
  | m + 1 => by
    show sumN (fun i => sumN (fun j => F i j) m + F i m) n = sumN (fun j => sumN (fun i => F i j) n) m + sumN (fun i => F i m) n
    rw [sumN_add, sumN_swap F n m]
theorem total_eq {s : Ps} (W : Wf s) : sumN (fun i => s.bal i + s.held (i : Int)) s.b.length = s.total := by
  rw [sumN_add]
  unfold total held
  rw [sumN_swap (fun i j => heldF (i : Int) (s.hold j)) s.b.length 32]
  congr 1
  refine sumN_congr fun j hj => ?_
  have e : (fun i : Nat => heldF (i : Int) (s.hold j)) = fun i : Nat => if (s.hold j).1 = i then (s.hold j).2 else 0 := by
    funext i
    unfold heldF
    by_cases h : (s.hold j).1 = i
    · rw [if_pos h, if_pos (by omega)]
    · rw [if_neg h, if_neg (by omega)]
  rw [e, sumN_one]
  by_cases h : 0 < (s.hold j).2
  · rw [if_pos (W.acc j hj h)]
  · split <;> omega

/-! ### At the start -/
def newOk (l : List Nat) : Bool := decide (1 ≤ l.length ∧ l.length ≤ 32 ∧ sumN (fun i => l.getD i 0) l.length ≤ 1125899906842624)
def newS (l : List Nat) : Ps := ⟨l, List.replicate 32 (0, 0)⟩
theorem new_hold (l : List Nat) (i : Nat) : (newS l).hold i = (0, 0) := by
  unfold hold newS
  rw [List.getD_eq_getElem?_getD, List.getElem?_replicate]
  split <;> rfl
theorem new_total (l : List Nat) : (newS l).total = sumN (fun i => l.getD i 0) l.length := by
  unfold total
  rw [sumN_zero (xs := fun i => ((newS l).hold i).2) (fun i _ => by rw [new_hold])]
  rfl
theorem Wf.new {l : List Nat} (h : newOk l = true) : Wf (newS l) := by
  unfold newOk at h
  rw [decide_eq_true_eq] at h
  exact ⟨by simp [newS], h.1, h.2.1, by rw [new_total]; exact h.2.2, fun i _ hi => by rw [new_hold] at hi; exact absurd hi (Nat.lt_irrefl 0), fun i _ _ => by rw [new_hold]⟩
end Ps
end Go.Proofs.Ytldcglmpnildiaa
