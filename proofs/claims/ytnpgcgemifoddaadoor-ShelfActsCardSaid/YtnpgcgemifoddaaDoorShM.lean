/- A shelf as a list of 17 entries: what Insert, Lookup, Len and Least make of it, and answer. -/
import Derived.Test.YtnpgcgemifoddaaDoorSecN
namespace Go.Proofs.YtnpgcgemifoddaaDoor
set_option linter.unusedVariables false

/-- What may stand at a place: a secret of 32 bytes, with its number. -/
structure Ent where
  has : Bool
  n : Nat
  s : List Nat
  hs : H32 s
  hn : n < 65536

def Ent.zero : Ent := ⟨false, 0, List.replicate 32 0, zeros_h, by decide⟩
def zeroL : List Ent := List.replicate 17 Ent.zero

theorem num_lt {i : Int} (h : num i = true) : i.toNat < 65536 := by
  obtain ⟨n, rfl, hn⟩ := num_nat h
  simpa using hn

/-- The secret h of i tells the entry's number, and otherwise. -/
def badE (i : Int) (h : List Nat) (e : Ent) : Bool := e.has && (can i (e.n : Int) && !(dSec h i (e.n : Int) == e.s))
def refused (L : List Ent) (i : Int) (h : List Nat) : Bool := (L.take (place i)).any (badE i h)
def insE (L : List Ent) (i : Int) (h : List Nat) : Int := if num i then if refused L i h then 50 else 0 else 1
def insL (L : List Ent) (i : Int) (h : List Nat) (hh : H32 h) : List Ent :=
  if hn : num i = true then if refused L i h then L else L.set (place i) ⟨true, i.toNat, h, hh, num_lt hn⟩ else L

theorem insL_len (L : List Ent) (i : Int) (h : List Nat) (hh : H32 h) : (insL L i h hh).length = L.length := by
  unfold insL
  split
  · split
    · rfl
    · rw [List.length_set]
  · rfl

def tells (i : Int) (e : Ent) : Bool := e.has && can (e.n : Int) i
def lookO (i : Int) : Option Ent → List Nat × Int
  | some e => (dSec e.s (e.n : Int) i, 0)
  | none => (List.replicate 32 0, 3)
def look (L : List Ent) (i : Int) : List Nat × Int := lookO i (L.find? (tells i))

theorem look_h (L : List Ent) (i : Int) : H32 (look L i).1 := by
  unfold look
  cases L.find? (tells i) with
  | some e => have h1 := dSec_h e.hs (e.n : Int) i; rw [lookO]; dsimp only; with_reducible exact h1
  | none => exact zeros_h
theorem look_err (L : List Ent) (i : Int) : (look L i).2 = 0 ∨ (look L i).2 = 3 := by
  unfold look
  cases L.find? (tells i) with
  | some e => exact .inl rfl
  | none => exact .inr rfl

def lenN (L : List Ent) : Nat := L.countP (·.has)
def lst (m : Nat) (e : Ent) : Nat := if e.has && decide (e.n < m) then e.n else m
def leastN (L : List Ent) : Nat := L.foldl lst 65536
/-- What Least answers of the least number, 65536 being none. -/
def leastI (m : Nat) : Int := if m < 65536 then (m : Int) else 0
def leastB (m : Nat) : Bool := decide (m < 65536)

theorem leastN_snoc (L : List Ent) (e : Ent) : leastN (L ++ [e]) = lst (leastN L) e := by simp [leastN]
theorem lst_le (m : Nat) (e : Ent) : lst m e ≤ m := by
  unfold lst
  split
  · simp_all; omega
  · exact Nat.le_refl _
theorem lst_has {e : Ent} (m : Nat) (h : e.has = true) : lst m e ≤ e.n := by
  unfold lst
  split
  · exact Nat.le_refl _
  · simp_all
theorem foldl_lst_le : ∀ (L : List Ent) (m : Nat), L.foldl lst m ≤ m
  | [], m => Nat.le_refl _
  | e :: L, m => by rw [List.foldl_cons]; exact Nat.le_trans (foldl_lst_le L _) (lst_le m e)
theorem leastN_le (L : List Ent) : leastN L ≤ 65536 := foldl_lst_le L _

theorem foldl_lst_mem : ∀ (L : List Ent) (m : Nat) (e : Ent), e ∈ L → e.has = true → L.foldl lst m ≤ e.n
  | [], m, e, h, _ => by cases h
  | d :: L, m, e, h, hh => by
    rw [List.foldl_cons]
    rcases List.mem_cons.1 h with rfl | h
    · exact Nat.le_trans (foldl_lst_le L _) (lst_has m hh)
    · exact foldl_lst_mem L _ e h hh
theorem foldl_lst_ge : ∀ (L : List Ent) (m k : Nat), k ≤ m → (∀ e, e ∈ L → e.has = true → k ≤ e.n) → k ≤ L.foldl lst m
  | [], m, k, h, _ => h
  | d :: L, m, k, h, hk => by
    rw [List.foldl_cons]
    refine foldl_lst_ge L _ k ?_ (fun e he => hk e (List.mem_cons_of_mem _ he))
    unfold lst
    split
    · rename_i hd
      simp only [Bool.and_eq_true] at hd
      exact hk d (List.mem_cons_self ..) hd.1
    · exact h
/-- Only what has counts. -/
theorem foldl_lst_filter : ∀ (L : List Ent) (m : Nat), (L.filter (·.has)).foldl lst m = L.foldl lst m
  | [], m => rfl
  | d :: L, m => by
    rw [List.foldl_cons]
    by_cases h : d.has = true
    · rw [List.filter_cons_of_pos (by simpa using h), List.foldl_cons]; exact foldl_lst_filter L _
    · rw [List.filter_cons_of_neg (by simpa using h), foldl_lst_filter L m]
      have : lst m d = m := by simp [lst, h]
      rw [this]
theorem leastN_filter (L : List Ent) : leastN (L.filter (·.has)) = leastN L := foldl_lst_filter L _

/-- The program's step, over what has come. -/
def lstP (m : Nat) (e : Ent) : Nat := if e.n < m then e.n else m
def leastP (l : List Ent) : Nat := l.foldl lstP 65536
theorem leastP_snoc (l : List Ent) (e : Ent) : leastP (l ++ [e]) = lstP (leastP l) e := by simp [leastP]
theorem foldl_lstP_le : ∀ (l : List Ent) (m : Nat), l.foldl lstP m ≤ m
  | [], m => Nat.le_refl _
  | e :: l, m => by
    rw [List.foldl_cons]
    refine Nat.le_trans (foldl_lstP_le l _) ?_
    unfold lstP
    split <;> omega
theorem leastP_le (l : List Ent) : leastP l ≤ 65536 := foldl_lstP_le l _
theorem foldl_lstP_filter : ∀ (L : List Ent) (m : Nat), (L.filter (·.has)).foldl lstP m = L.foldl lst m
  | [], m => rfl
  | d :: L, m => by
    rw [List.foldl_cons]
    by_cases h : d.has = true
    · have e : lst m d = lstP m d := by simp [lst, lstP, h]
      rw [List.filter_cons_of_pos (by simpa using h), List.foldl_cons, e]; exact foldl_lstP_filter L _
    · have e : lst m d = m := by simp [lst, h]
      rw [List.filter_cons_of_neg (by simpa using h), foldl_lstP_filter L m, e]
theorem leastP_filter (L : List Ent) : leastP (L.filter (·.has)) = leastN L := foldl_lstP_filter L _

theorem refused_any (L : List Ent) (i : Int) (h : List Nat) (p : Nat) (hp : p = place i) : refused L i h = ((L.take p).filter (·.has)).any (badE i h) := by
  rw [refused, hp, List.any_filter]
  congr 1
  funext e
  cases he : e.has <;> simp [badE, he]
theorem find_filter (L : List Ent) (i : Int) : L.find? (tells i) = (L.filter (·.has)).find? (tells i) := by
  rw [List.find?_filter]
  congr 1
  funext e
  cases he : e.has <;> simp [tells, he]
theorem lenN_filter (L : List Ent) : lenN L = (L.filter (·.has)).length := List.countP_eq_length_filter ..

/-! ### Secrets of one seed -/
def Of (seed : List Nat) (L : List Ent) : Prop := ∀ e, e ∈ L → e.has = true → e.s = mSec seed (e.n : Int)

theorem of_zero (seed : List Nat) : Of seed zeroL := fun e he hh => by
  rw [List.eq_of_mem_replicate he] at hh
  cases hh

theorem can_nums {x y : Int} (h : can x y = true) : ∃ a b : Nat, x = (a : Int) ∧ y = (b : Int) ∧ a < 65536 ∧ b < 65536 ∧ canN a b = true := by
  have h1 : num x = true := by
    simp only [can, Bool.and_eq_true] at h
    exact h.1.1
  have h2 : num y = true := by
    simp only [can, Bool.and_eq_true] at h
    exact h.1.2
  obtain ⟨a, rfl, ha⟩ := num_nat h1
  obtain ⟨b, rfl, hb⟩ := num_nat h2
  exact ⟨a, b, rfl, rfl, ha, hb, by rwa [can_of ha hb] at h⟩

/-- A secret of the seed is not refused. -/
theorem of_bad {seed : List Nat} {L : List Ent} (h : Of seed L) (i : Int) : refused L i (mSec seed i) = false := by
  rw [refused, List.any_eq_false]
  intro e he hb
  simp only [badE, Bool.and_eq_true, Bool.not_eq_true', beq_eq_false_iff_ne] at hb
  obtain ⟨h1, h2, h3⟩ := hb
  obtain ⟨a, b, rfl, hb, ha, hb', hc⟩ := can_nums h2
  have hbn : e.n = b := by omega
  rw [hbn, derives seed ha hb' hc, h e (List.mem_of_mem_take he) h1, hbn] at h3
  exact h3 rfl
theorem of_insE {seed : List Nat} {L : List Ent} (h : Of seed L) (i : Int) : insE L i (mSec seed i) = if num i then 0 else 1 := by
  rw [insE, of_bad h]
  simp
theorem of_insL {seed : List Nat} {L : List Ent} (h : Of seed L) (i : Int) (hh : H32 (mSec seed i)) : Of seed (insL L i (mSec seed i) hh) := by
  unfold insL
  split
  · rename_i hn
    rw [of_bad h]
    simp only [Bool.false_eq_true, if_false]
    intro e he hhas
    rcases List.mem_or_eq_of_mem_set he with h1 | h1
    · exact h e h1 hhas
    · subst h1
      obtain ⟨n, rfl, hn'⟩ := num_nat hn
      simp
  · exact h
theorem of_look {seed : List Nat} {L : List Ent} (h : Of seed L) (i : Int) : look L i = (List.replicate 32 0, 3) ∨ look L i = (mSec seed i, 0) := by
  unfold look
  cases hf : L.find? (tells i) with
  | none => exact .inl rfl
  | some e =>
    have h1 := List.find?_some hf
    have h2 := List.mem_of_find?_eq_some hf
    simp only [tells, Bool.and_eq_true] at h1
    obtain ⟨a, b, ha, rfl, ha', hb', hc⟩ := can_nums h1.2
    have hbn : e.n = a := by omega
    right
    rw [lookO, h e h2 h1.1, hbn, derives seed ha' hb' hc]
theorem look_has {L : List Ent} {i : Int} (h : ∃ e, e ∈ L ∧ tells i e = true) : (look L i).2 = 0 := by
  obtain ⟨e, he, ht⟩ := h
  unfold look
  cases hf : L.find? (tells i) with
  | none => rw [List.find?_eq_none] at hf; exact absurd ht (by simpa using hf e he)
  | some d => rfl
theorem look_none {L : List Ent} {i : Int} (h : ∀ e, e ∈ L → tells i e = false) : look L i = (List.replicate 32 0, 3) := by
  unfold look
  rw [List.find?_eq_none.2 (fun e he => by simp [h e he])]
  rfl

/-- Where it went. -/
theorem insL_in {L : List Ent} {i : Nat} {h : List Nat} (hh : H32 h) (hi : i < 65536) (hL : L.length = 17) (hr : refused L (i : Int) h = false) :
    insL L (i : Int) h hh = L.set (placeN i) ⟨true, i, h, hh, hi⟩ := by
  unfold insL
  rw [dif_pos (num_of hi), hr]
  simp only [Bool.false_eq_true, if_false, place_of hi]
  rfl
theorem insL_mem {L : List Ent} {i : Nat} {h : List Nat} (hh : H32 h) (hi : i < 65536) (hL : L.length = 17) (hr : refused L (i : Int) h = false) :
    (⟨true, i, h, hh, hi⟩ : Ent) ∈ insL L (i : Int) h hh := by
  rw [insL_in hh hi hL hr]
  exact List.mem_set (by have := (placeN_is i).le; omega) _
theorem tells_self {i : Nat} {h : List Nat} (hh : H32 h) (hi : i < 65536) : tells (i : Int) ⟨true, i, h, hh, hi⟩ = true := by
  simp only [tells, Bool.true_and]
  rw [can_of hi hi]
  exact canN_refl i
theorem of_told {seed : List Nat} {L : List Ent} (h : Of seed L) {i : Nat} (hi : i < 65536) (hL : L.length = 17) (hh : H32 (mSec seed (i : Int))) : look (insL L (i : Int) (mSec seed (i : Int)) hh) (i : Int) = (mSec seed (i : Int), 0) := by
  have h0 := look_has ⟨_, insL_mem hh hi hL (of_bad h _), tells_self hh hi⟩
  rcases of_look (of_insL h (i : Int) hh) (i : Int) with h1 | h1
  · rw [h1] at h0; cases h0
  · exact h1
theorem lenN_pos {L : List Ent} {e : Ent} (he : e ∈ L) (hh : e.has = true) : 0 < lenN L := List.countP_pos_iff.2 ⟨e, he, hh⟩
theorem lenN_le (L : List Ent) : lenN L ≤ L.length := List.countP_le_length ..

/-! ### Inserted from the greatest down -/
/-- At each place stands the least number of those from lo to top that have it. -/
structure Down (seed : List Nat) (top lo : Nat) (L : List Ent) : Prop where
  len : L.length = 17
  of : Of seed L
  at' : ∀ p e, L[p]? = some e → e.has = true → placeN e.n = p ∧ lo ≤ e.n ∧ e.n ≤ top ∧ ∀ m, lo ≤ m → m ≤ top → placeN m = p → e.n ≤ m
  not : ∀ p e, L[p]? = some e → e.has = false → ∀ m, lo ≤ m → m ≤ top → placeN m ≠ p

theorem Down.start (seed : List Nat) (top : Nat) : Down seed top (top + 1) zeroL :=
  ⟨by simp [zeroL], of_zero seed, fun p e he hh => (by rw [List.eq_of_mem_replicate (List.mem_of_getElem? he)] at hh; cases hh), fun p e _ _ m h1 h2 => (by omega)⟩

theorem Down.step {seed : List Nat} {top x : Nat} {L : List Ent} (h : Down seed top (x + 1) L) (hx : x ≤ top) (ht : top < 65536) (hh : H32 (mSec seed (x : Int))) :
    Down seed top x (insL L (x : Int) (mSec seed (x : Int)) hh) := by
  have hi : x < 65536 := by omega
  have hof := of_insL h.of (x : Int) hh
  rw [insL_in hh hi h.len (of_bad h.of _)] at hof ⊢
  refine ⟨by rw [List.length_set]; exact h.len, hof, ?_, ?_⟩
  · intro p e he hhas
    rw [List.getElem?_set] at he
    by_cases hp : placeN x = p
    · rw [if_pos hp] at he
      split at he
      · obtain rfl := Option.some.inj he
        exact ⟨hp, Nat.le_refl _, hx, fun m h1 _ _ => h1⟩
      · cases he
    · rw [if_neg hp] at he
      obtain ⟨h1, h2, h3, h4⟩ := h.at' p e he hhas
      refine ⟨h1, by omega, h3, fun m k1 k2 k3 => h4 m ?_ k2 k3⟩
      have : m ≠ x := fun e => hp (e ▸ k3)
      omega
  · intro p e he hhas m k1 k2 k3
    rw [List.getElem?_set] at he
    by_cases hp : placeN x = p
    · rw [if_pos hp] at he
      split at he
      · obtain rfl := Option.some.inj he
        cases hhas
      · cases he
    · rw [if_neg hp] at he
      have : m ≠ x := fun e => hp (e ▸ k3)
      exact h.not p e he hhas m (by omega) k2 k3

/-- The highest place from which k is told by a number from lo on. -/
theorem cover (lo k : Nat) (hk : lo ≤ k) (hk2 : k < 65536) : ∃ q, q ≤ 16 ∧ lo ≤ 2 ^ q * (k / 2 ^ q) ∧ placeN (2 ^ q * (k / 2 ^ q)) = q ∧ ∀ m, lo ≤ m → placeN m = q → m ≤ k → 2 ^ q * (k / 2 ^ q) ≤ m := by
  have key : ∀ d q, q + d = 16 → lo ≤ 2 ^ q * (k / 2 ^ q) → (∃ q', q ≤ q' ∧ q' ≤ 16 ∧ lo ≤ 2 ^ q' * (k / 2 ^ q') ∧ (q' < 16 → 2 ^ (q' + 1) * (k / 2 ^ (q' + 1)) < lo)) := by
    intro d
    induction d with
    | zero => intro q hq hl; exact ⟨q, Nat.le_refl _, by omega, hl, fun h => by omega⟩
    | succ d ih =>
      intro q hq hl
      by_cases h : 2 ^ (q + 1) * (k / 2 ^ (q + 1)) < lo
      · exact ⟨q, Nat.le_refl _, by omega, hl, fun _ => h⟩
      · obtain ⟨q', h1, h2⟩ := ih (q + 1) (by omega) (by omega)
        exact ⟨q', by omega, h2⟩
  obtain ⟨q, _, hq, hl, hmax⟩ := key 16 0 (by omega) (by simpa using hk)
  obtain ⟨t, ht⟩ : ∃ t, t = 2 ^ q := ⟨_, rfl⟩
  have ht0 : 0 < t := by rw [ht]; exact Nat.two_pow_pos _
  have e2 : 2 ^ (q + 1) = t * 2 := by rw [Nat.pow_succ, ht]
  have hdm := Nat.div_add_mod k t
  have hml := Nat.mod_lt k ht0
  have hd2 : k / 2 ^ (q + 1) = k / t / 2 := by rw [e2, ← Nat.div_div_eq_div_mul]
  refine ⟨q, hq, hl, ?_, ?_⟩
  · rcases Nat.lt_or_ge q 16 with h16 | h16
    · have hm := hmax h16
      rw [hd2, e2] at hm
      have hodd : k / t % 2 = 1 := by
        rcases Nat.mod_two_eq_zero_or_one (k / t) with h0 | h1
        · exfalso
          have : t * 2 * (k / t / 2) = t * (k / t) := by rw [Nat.mul_assoc]; congr 1; omega
          rw [← ht] at hl
          omega
        · exact h1
      refine IsPlace.uniq (placeN_is _) ⟨hq, fun b hb => zero_of_mul _ _ _ hb, fun _ => ?_⟩
      rw [bit, Nat.mul_div_cancel_left _ (Nat.two_pow_pos q), ← ht, hodd]
      rfl
    · have : q = 16 := by omega
      subst this
      have : k / 2 ^ 16 = 0 := by omega
      rw [this]
      decide
  · intro m h1 h2 h3
    rw [← ht] at hl ⊢
    have hmm := place_mul m
    rw [h2, ← ht] at hmm
    obtain ⟨c, hc⟩ : ∃ c, c = m / t := ⟨_, rfl⟩
    rw [← hc] at hmm
    rcases Nat.lt_or_ge q 16 with h16 | h16
    · have hone := (placeN_is m).one (by omega)
      rw [h2, bit, ← ht, ← hc] at hone
      have hodd : c % 2 = 1 := by simpa using hone
      have hmx := hmax h16
      rw [hd2, e2] at hmx
      obtain ⟨K, hK⟩ : ∃ K, K = k / t := ⟨_, rfl⟩
      rw [← hK] at hmx hdm ⊢
      rcases Nat.lt_or_ge c K with hlt | hge
      · exfalso
        have a1 : c + 1 ≤ 2 * (K / 2) := by omega
        have a2 : t * (c + 1) ≤ t * (2 * (K / 2)) := Nat.mul_le_mul_left _ a1
        rw [Nat.mul_add, hmm, Nat.mul_one, ← Nat.mul_assoc] at a2
        omega
      · rw [← hmm]; exact Nat.mul_le_mul_left _ hge
    · have : q = 16 := by omega
      have : k / t = 0 := by rw [ht, this]; omega
      rw [this]
      omega

theorem Down.told {seed : List Nat} {top lo k : Nat} {L : List Ent} (h : Down seed top lo L) (h1 : lo ≤ k) (h2 : k ≤ top) (ht : top < 65536) : look L (k : Int) = (mSec seed (k : Int), 0) := by
  obtain ⟨q, hq, hl, hp, hm⟩ := cover lo k h1 (by omega)
  obtain ⟨m, hme⟩ : ∃ m, m = 2 ^ q * (k / 2 ^ q) := ⟨_, rfl⟩
  rw [← hme] at hl hp hm
  have hdm := Nat.div_add_mod k (2 ^ q)
  have hml := Nat.mod_lt k (Nat.two_pow_pos q)
  have hmk : m ≤ k := by omega
  obtain ⟨e, he⟩ : ∃ e, L[q]? = some e := ⟨_, List.getElem?_eq_getElem (by rw [h.len]; omega)⟩
  have hhas : e.has = true := by
    cases hc : e.has with
    | true => rfl
    | false => exact absurd hp (h.not q e he hc m hl (by omega))
  obtain ⟨a1, a2, a3, a4⟩ := h.at' q e he hhas
  have hen : e.n = m := by
    have b1 := a4 m hl (by omega) hp
    have b2 := hm e.n a2 a1 (by omega)
    omega
  have ht : tells (k : Int) e = true := by
    rw [tells, hhas, Bool.true_and, can_of e.hn (by omega), canN_above, a1, hen]
    simp only [Bool.and_eq_true, decide_eq_true_eq]
    omega
  have h0 := look_has ⟨e, List.mem_of_getElem? he, ht⟩
  rcases of_look h.of (k : Int) with c | c
  · rw [c] at h0; cases h0
  · exact c

theorem Down.late {seed : List Nat} {top lo : Nat} {L : List Ent} (h : Down seed top lo L) {i : Int} (hi : i < (lo : Int)) : look L i = (List.replicate 32 0, 3) := by
  refine look_none (fun e he => ?_)
  cases hc : tells i e with
  | false => rfl
  | true =>
    exfalso
    simp only [tells, Bool.and_eq_true] at hc
    obtain ⟨p, hp, hpe⟩ := List.getElem_of_mem he
    have he2 : L[p]? = some e := by rw [List.getElem?_eq_getElem hp, hpe]
    obtain ⟨a, b, ha, rfl, ha', hb', hcn⟩ := can_nums hc.2
    have := (h.at' p e he2 hc.1).2.1
    rw [canN_above] at hcn
    simp only [Bool.and_eq_true, decide_eq_true_eq] at hcn
    omega

theorem Down.least {seed : List Nat} {top lo : Nat} {L : List Ent} (h : Down seed top lo L) (hl : lo ≤ top) (ht : top < 65536) : leastN L = lo := by
  obtain ⟨e, he⟩ : ∃ e, L[placeN lo]? = some e := ⟨_, List.getElem?_eq_getElem (by have := (placeN_is lo).le; rw [h.len]; omega)⟩
  have hhas : e.has = true := by
    cases hc : e.has with
    | true => rfl
    | false => exact absurd rfl (h.not _ e he hc lo (Nat.le_refl _) hl)
  obtain ⟨a1, a2, a3, a4⟩ := h.at' _ e he hhas
  have hen : e.n = lo := by have := a4 lo (Nat.le_refl _) hl rfl; omega
  refine Nat.le_antisymm ?_ (foldl_lst_ge L _ lo (by omega) (fun d hd hdh => ?_))
  · have := foldl_lst_mem L 65536 e (List.mem_of_getElem? he) hhas
    rw [hen] at this
    exact this
  · obtain ⟨p, hp, hpe⟩ := List.getElem_of_mem hd
    exact (h.at' p d (by rw [List.getElem?_eq_getElem hp, hpe]) hdh).2.1

/-- What stands when n of them have come, from top down. -/
def downL (seed : List Nat) (hs : H32 seed) (top : Nat) : Nat → List Ent
  | 0 => zeroL
  | n + 1 => insL (downL seed hs top n) ((top : Int) - (n : Int)) (mSec seed ((top : Int) - (n : Int))) (mSec_h hs _)
theorem downL_is (seed : List Nat) (hs : H32 seed) (top : Nat) (ht : top < 65536) : ∀ n, n ≤ top + 1 → Down seed top (top + 1 - n) (downL seed hs top n)
  | 0, _ => Down.start seed top
  | n + 1, h => by
    have h1 := downL_is seed hs top ht n (by omega)
    have e : (top : Int) - (n : Int) = ((top - n : Nat) : Int) := by omega
    rw [downL]
    obtain ⟨x, hx⟩ : ∃ x, x = top - n := ⟨_, rfl⟩
    have h2 : Down seed top (x + 1) (downL seed hs top n) := by rw [show x + 1 = top + 1 - n by omega]; exact h1
    have h3 := h2.step (by omega) ht (mSec_h hs _)
    rw [show top + 1 - (n + 1) = x by omega]
    simp only [e, ← hx]
    exact h3
theorem downL_len (seed : List Nat) (hs : H32 seed) (top : Nat) : ∀ n, (downL seed hs top n).length = 17
  | 0 => by simp [downL, zeroL]
  | n + 1 => by rw [downL, insL_len]; exact downL_len seed hs top n
theorem downL_of (seed : List Nat) (hs : H32 seed) (top : Nat) : ∀ n, Of seed (downL seed hs top n)
  | 0 => of_zero seed
  | n + 1 => by rw [downL]; exact of_insL (downL_of seed hs top n) _ _

/-- One that tells what is there otherwise. -/
theorem refused_of {L : List Ent} {i : Nat} {h : List Nat} {e : Ent} (hi : i < 65536) (hL : L.length = 17) {q : Nat} (hq : L[q]? = some e) (hp : q < placeN i) (hhas : e.has = true) (hc : canN i e.n = true) (hn : dSec h (i : Int) (e.n : Int) ≠ e.s) : refused L (i : Int) h = true := by
  rw [refused, List.any_eq_true, place_of hi]
  refine ⟨e, List.mem_of_getElem? (i := q) (by rw [List.getElem?_take_of_lt hp]; exact hq), ?_⟩
  rw [badE, hhas, can_of hi e.hn, hc]
  simpa using hn
end Go.Proofs.YtnpgcgemifoddaaDoor
