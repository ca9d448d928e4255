/- What a task still has to do, step by step: the document's words. A bank in memory: its block, its purse, its tasks, and what they hold. What a bank tells: find, balance, has; result, told, holder, done. What a bank tells: all balances, and who acted. -/
import Derived.Test.YtldcglmpnildiaaSdQ
import Derived.Test.YtldcglmpnildiaaSdP
import Derived.Test.YtldcglmpnildiaaSdS
import Derived.Test.YtldcglmpnildiaaPuL
namespace Go.Proofs.Ytldcglmpnildiaa
set_option linter.unusedVariables false
set_option maxRecDepth 100000

/-- A step of a task. -/
inductive Sp | lock (k : Nat) | act | fin
  deriving DecidableEq
namespace Bs
/-- The locks of those that f tells. -/
def locksF (f : Nat → Bool) : List Sp := (if f 0 then [.lock 0] else []) ++ ((if f 1 then [.lock 1] else []) ++ ((if f 2 then [.lock 2] else []) ++ (if f 3 then [.lock 3] else [])))
def todo (s : Bs) (i : Nat) : List Sp := if (s.tk i).over then [] else locksF (s.lacks i) ++ ((if (s.tk i).acted then [] else [.act]) ++ [.fin])
theorem locksF_ext {f g : Nat → Bool} (h : ∀ k, k < 4 → f k = g k) : locksF f = locksF g := by
  unfold locksF
  rw [h 0 (by omega), h 1 (by omega), h 2 (by omega), h 3 (by omega)]
theorem locksF_none {f : Nat → Bool} (h : ∀ k, k < 4 → f k = false) : locksF f = [] := by
  unfold locksF
  rw [h 0 (by omega), h 1 (by omega), h 2 (by omega), h 3 (by omega)]
  rfl
theorem locksF_head {f g : Nat → Bool} {k : Nat} (hk : k < 4) (hf : f k = true) (hb : ∀ j, j < k → f j = false) (hg : ∀ j, j < 4 → g j = if j = k then false else f j) : locksF f = .lock k :: locksF g := by
  unfold locksF
  rw [hg 0 (by omega), hg 1 (by omega), hg 2 (by omega), hg 3 (by omega)]
  have hc : k = 0 ∨ k = 1 ∨ k = 2 ∨ k = 3 := by omega
  rcases hc with rfl | rfl | rfl | rfl
  · simp [hf]
  · simp [hf, hb 0 (by omega)]
  · simp [hf, hb 0 (by omega), hb 1 (by omega)]
  · simp [hf, hb 0 (by omega), hb 1 (by omega), hb 2 (by omega)]

theorem todo_over {s : Bs} {i : Nat} (h : (s.tk i).over = true) : s.todo i = [] := by unfold todo; rw [h]; rfl
theorem todo_len {s : Bs} {i : Nat} : (s.todo i).length ≤ 6 := by
  unfold todo locksF
  split
  · simp
  · simp only [List.length_append]
    split <;> split <;> split <;> split <;> split <;> simp
theorem todo_ne {s : Bs} {i : Nat} (h : (s.tk i).over = false) : s.todo i ≠ [] := by
  unfold todo
  rw [h]
  simp

/-! ### A lock -/
section
variable {s : Bs} {i k : Nat}
theorem lacks_lock (V : s.Inv) (hk : k < 4) (j : Nat) : (s.lock1 i k).lacks i j = if j = k then false else s.lacks i j := by
  have e : (s.lock1 i k).hold j = if j = k then (i : Int) else s.hold j := hold_set _ _ _ _ (by rw [V.hl]; exact hk) j
  unfold lacks
  rw [e]
  show ((s.tk i).need j && _) = _
  by_cases h : j = k
  · rw [if_pos h, if_pos h]; simp
  · rw [if_neg h, if_neg h]
theorem lacks_lock' (V : s.Inv) (hk : k < 4) (hf : s.hold k < 0) {m : Nat} (hm : m ≠ i) (j : Nat) : (s.lock1 i k).lacks m j = s.lacks m j := by
  have e : (s.lock1 i k).hold j = if j = k then (i : Int) else s.hold j := hold_set _ _ _ _ (by rw [V.hl]; exact hk) j
  unfold lacks
  rw [e]
  show ((s.tk m).need j && _) = _
  by_cases h : j = k
  · rw [if_pos h]
    subst h
    congr 1
    rw [decide_eq_true (by omega), decide_eq_true (by omega)]
  · rw [if_neg h]
theorem todo_lock (V : s.Inv) (ho : (s.tk i).over = false) (hw : s.wants i < 4) : s.todo i = .lock (s.wants i) :: (s.lock1 i (s.wants i)).todo i := by
  have ho' : ((s.lock1 i (s.wants i)).tk i).over = false := ho
  unfold todo
  rw [ho', ho]
  simp only [Bool.false_eq_true, if_false]
  rw [locksF_head hw (wants_lacks hw) (fun j hj => wants_below hj) (fun j hj => lacks_lock V hw j)]
  rfl
theorem todo_lock' (V : s.Inv) (hk : k < 4) (hf : s.hold k < 0) {m : Nat} (hm : m ≠ i) : (s.lock1 i k).todo m = s.todo m := by
  unfold todo
  rw [locksF_ext (fun j _ => lacks_lock' V hk hf hm j)]
  rfl
/-! ### The act -/
theorem todo_act (hw : s.wants i = 4) (ho : (s.tk i).over = false) (ha : (s.tk i).acted = false) : s.todo i = [.act, .fin] := by
  unfold todo
  rw [ho, ha, locksF_none (fun k hk => lacks_not.2 (wants_four.1 hw k hk))]
  rfl
theorem act_tk (hi : i < s.t.length) (j : Nat) : (s.act1 i).tk j = if j = i then (s.act1 i).tk i else s.tk j := by
  obtain ⟨x, hx, _⟩ := act_t s i
  have et : ∀ j, (s.act1 i).tk j = if j = i then x else s.tk j := fun j => by
    unfold tk
    rw [hx]
    exact Ps.getD_set _ _ _ _ _ hi
  rw [et j, et i, if_pos rfl]
theorem act_hold (k : Nat) : (s.act1 i).hold k = s.hold k := by
  obtain ⟨x, _, _, _, _, _, _, _, h, _⟩ := act_t s i
  unfold hold
  rw [h]
theorem act_need (hi : i < s.t.length) (j k : Nat) : ((s.act1 i).tk j).need k = (s.tk j).need k := by
  obtain ⟨x, hx, h1, h2, h3, h4, _⟩ := act_t s i
  have et : (s.act1 i).tk j = if j = i then x else s.tk j := by
    unfold tk
    rw [hx]
    exact Ps.getD_set _ _ _ _ _ hi
  rw [et]
  split
  · rename_i e; subst e; unfold Tk.need; rw [h1, h2, h4]
  · rfl
theorem lacks_act (hi : i < s.t.length) (j k : Nat) : (s.act1 i).lacks j k = s.lacks j k := by
  unfold lacks
  rw [act_hold, act_need hi]
theorem todo_act' (hi : i < s.t.length) {m : Nat} (hm : m ≠ i) : (s.act1 i).todo m = s.todo m := by
  unfold todo
  rw [locksF_ext (fun j _ => lacks_act hi m j), act_tk hi m, if_neg hm]
theorem todo_acted (hi : i < s.t.length) (hw : s.wants i = 4) (ho : (s.tk i).over = false) : (s.act1 i).todo i = [.fin] := by
  obtain ⟨x, hx, h1, h2, h3, h4, h5, h6, _⟩ := act_t s i
  have et : (s.act1 i).tk i = x := by
    unfold tk
    rw [hx, Ps.getD_set _ _ _ _ _ hi, if_pos rfl]
  unfold todo
  rw [locksF_ext (fun j _ => lacks_act hi i j), et, h5, h6, ho, locksF_none (fun k hk => lacks_not.2 (wants_four.1 hw k hk))]
  rfl
/-! ### The end -/
theorem todo_fin (hw : s.wants i = 4) (ho : (s.tk i).over = false) (ha : (s.tk i).acted = true) : s.todo i = [.fin] := by
  unfold todo
  rw [ho, ha, locksF_none (fun k hk => lacks_not.2 (wants_four.1 hw k hk))]
  rfl
theorem free_tk (hi : i < s.t.length) (j : Nat) : (s.free1 i).tk j = if j = i then { s.tk i with over := true } else s.tk j := tk_set _ _ _ _ hi j
theorem todo_freed (hi : i < s.t.length) : (s.free1 i).todo i = [] := todo_over (by rw [free_tk hi, if_pos rfl])
theorem todo_free' (hi : i < s.t.length) {m : Nat} (hm : m ≠ i) : (s.free1 i).todo m = s.todo m := by
  have e : ∀ k, (s.free1 i).lacks m k = s.lacks m k := fun k => by
    have e1 : (s.free1 i).hold k = if s.hold k = (i : Int) then -1 else s.hold k := hold_free i _ _ _ k
    unfold lacks
    rw [e1, free_tk hi, if_neg hm]
    by_cases h : s.hold k = (i : Int)
    · rw [if_pos h, h, decide_eq_true (by omega), decide_eq_true (by omega)]
    · rw [if_neg h]
  unfold todo
  rw [locksF_ext (fun j _ => e j), free_tk hi, if_neg hm]
/-! ### A task that begins -/
theorem todo_add' {x : Tk} {m : Nat} (hm : m ≠ s.t.length) : (s.add1 x).todo m = s.todo m := by
  have e : (s.add1 x).tk m = s.tk m := by rw [tk_add, if_neg hm]
  unfold todo lacks
  rw [e]
  rfl
theorem todo_new (V : s.Inv) {x : Tk} (ho : x.over = false) (ha : x.acted = false) : (s.add1 x).todo s.t.length = locksF x.need ++ [.act, .fin] := by
  have e : (s.add1 x).tk s.t.length = x := by rw [tk_add, if_pos rfl]
  have e2 : ∀ k, k < 4 → (s.add1 x).lacks s.t.length k = x.need k := fun k hk => by
    unfold lacks
    rw [e]
    have h1 : (s.add1 x).hold k = s.hold k := rfl
    rw [h1, decide_eq_true, Bool.and_true]
    intro h2
    have := (V.who k hk (by omega)).1
    omega
  unfold todo
  rw [locksF_ext e2, e, ho, ha]
  rfl
end
/-! ### One step -/
theorem step_case {s : Bs} (V : s.Inv) {i : Nat} (hi : i < s.t.length) (ho : (s.tk i).over = false) :
    (s.wants i < 4 ∧ (s.tk i).acted = false ∧ s.todo i = .lock (s.wants i) :: (s.lock1 i (s.wants i)).todo i ∧ s.stepE (i : Int) = (if 0 ≤ s.hold (s.wants i) then 100 else 0)) ∨
    (s.wants i = 4 ∧ (s.tk i).acted = false ∧ s.todo i = [.act, .fin] ∧ s.stepE (i : Int) = 0 ∧ s.stepS (i : Int) = s.act1 i) ∨
    (s.wants i = 4 ∧ (s.tk i).acted = true ∧ s.todo i = [.fin] ∧ s.stepE (i : Int) = 0 ∧ s.stepS (i : Int) = s.free1 i) := by
  have hg := goes_of hi ho
  have h4 := wants_le s i
  by_cases hw : s.wants i < 4
  · left
    refine ⟨hw, ?_, todo_lock V ho hw, ?_⟩
    · cases ha : (s.tk i).acted
      · rfl
      · have h1 := lacks_iff.1 (wants_lacks hw)
        exact absurd (V.all i hi ha ho _ hw h1.1) h1.2
    · unfold stepE
      rw [hg, Int.toNat_natCast]
      simp [hw]
  · have hw4 : s.wants i = 4 := by omega
    have e0 : s.stepE (i : Int) = 0 := by
      unfold stepE
      rw [hg, Int.toNat_natCast]
      simp [hw]
    right
    cases ha : (s.tk i).acted
    · left
      refine ⟨hw4, rfl, todo_act hw4 ho ha, e0, ?_⟩
      unfold stepS step1
      rw [if_pos e0, Int.toNat_natCast, if_neg hw, ha]
      rfl
    · right
      refine ⟨hw4, rfl, todo_fin hw4 ho ha, e0, ?_⟩
      unfold stepS step1
      rw [if_pos e0, Int.toNat_natCast, if_neg hw, ha]
      rfl
end Bs
theorem sum_ones {f : Nat → Nat} (h : ∀ i, f i ≤ 1) : ∀ n, sumN f n ≤ n
  | 0 => Nat.le_refl _
  | n + 1 => by
    show sumN f n + f n ≤ n + 1
    have := sum_ones h n
    have := h n
    omega
theorem Bs.done_le {s : Bs} (V : s.Inv) : s.done.length ≤ 32 := by
  rw [Bs.count_done s.done s.t.length V.nodup (fun i hi => ((V.done i).1 hi).1)]
  have := sum_ones (f := fun i => if i ∈ s.done then 1 else 0) (fun i => by split <;> omega) s.t.length
  have := V.len
  omega
end Go.Proofs.Ytldcglmpnildiaa

namespace Go.Proofs.Ytldcglmpnildiaa
open Go.RowKit
set_option linter.unusedVariables false
set_option maxRecDepth 100000

abbrev at_ (b o : Nat) : Value := .pointer (some ⟨b, o, none⟩)
def Sp.val (p q : Nat) : Sp → Value
  | .lock k => .func (.func 40) #[.agg #[at_ p (1 + k), at_ q 0]] #[]
  | .act => .func (.func 41) #[at_ q 0] #[]
  | .fin => .func (.func 42) #[at_ q 0] #[]

/-- What a task does when it acts; I: blocks that never turn. -/
def Deed (I : Nat → Prop) (w : World) (p : Nat) (x : Tk) (d : Value) : Prop :=
  if x.lists then ∃ b, d = .func (.func 29) #[] #[at_ b 0] ∧ I b ∧ w.cell? ⟨b, 0, none⟩ = some (at_ p 0)
  else ∃ b f t n, d = .func (.func 24) #[] #[at_ b 0, at_ f 0, at_ t 0, at_ n 0] ∧ I b ∧ I f ∧ I t ∧ I n ∧ w.cell? ⟨b, 0, none⟩ = some (at_ p 0) ∧
    w.cell? ⟨f, 0, none⟩ = some (.int .i64 (x.f : Int)) ∧ w.cell? ⟨t, 0, none⟩ = some (.int .i64 (x.t : Int)) ∧ w.cell? ⟨n, 0, none⟩ = some (.int .u64 (x.n : Int))
/-- The steps that are to come, as a slice. -/
def Steps (I : Nat → Prop) (w : World) (L : List Value) (v : Value) : Prop :=
  ∃ a cap, v = .slice a L.length cap ∧ L.length ≤ cap ∧ cap ≤ maxLen ∧ ∀ j u, L[j]? = some u → ∃ g o, a = some ⟨g, o, none⟩ ∧ I g ∧ w.cell? ⟨g, o + j, none⟩ = some u
/-- What a task was told. -/
def Told (I : Nat → Prop) (w : World) (l : List Nat) (v : Value) : Prop :=
  (l = [] ∧ v = .slice none 0 0) ∨ ∃ g c, v = .slice (some ⟨g, 0, none⟩) l.length c ∧ I g ∧ 1 ≤ l.length ∧ l.length ≤ 32 ∧ Nums w (some ⟨g, 0, none⟩) l.length (fun i => l.getD i 0)
def cellsT (p i : Nat) (x : Tk) (d st to : Value) : List Value := [at_ p 0, .int .i64 (i : Int), d, st, .bool x.acted, .int .i64 x.e, to]
/-- The task i at q, with the steps L to come. -/
def TaskAt (I : Nat → Prop) (w : World) (p q i : Nat) (x : Tk) (L : List Sp) : Prop :=
  ∃ d st to, Blk w q 86 (cellsT p i x d st to) ∧ Deed I w p x d ∧ Steps I w (L.map (Sp.val p q)) st ∧ Told I w x.told to
/-- Who holds a lock. -/
def hp (q : Nat → Nat) (h : Int) : Value := if 0 ≤ h then at_ (q h.toNat) 0 else .pointer none
def cellsQ (q : Nat → Nat) (n : Nat) : List Value := (List.range n).map fun i => at_ (q i) 0
def cellsD (l : List Nat) : List Value := l.map fun i : Nat => .int .i64 (i : Int)
def cellsB (r : Nat) (q : Nat → Nat) (f : Nat → Int) (tv dv : Value) : List Value := [at_ r 0, hp q (f 0), hp q (f 1), hp q (f 2), hp q (f 3), tv, dv]
structure BkAt (O : Nat → Prop) (p : Nat) (s : Bs) (td : Nat → List Sp) (w : World) (B T r : Nat) (q : Nat → Nat) (tv dv : Value) (I : Nat → Prop) : Prop where
  pu : Pu B T r s.p w
  blk : Blk w p 75 (cellsB r q s.hold tv dv)
  new : ∀ i, (s.tk i).acted = false → (s.tk i).e = 0 ∧ (s.tk i).told = []
  tasks : w.ownsRow T 69 1 tv s.t.length (cellsQ q s.t.length)
  done : w.ownsRow T 3 1 dv s.done.length (cellsD s.done)
  task : ∀ i, i < s.t.length → TaskAt I w p (q i) i (s.tk i) (td i)
  loP : T ≤ p
  loQ : ∀ i, i < s.t.length → T ≤ q i
  oR : ∀ k, Btw B T k → O k
  oP : O p
  oQ : ∀ i, i < s.t.length → O (q i)
  oT : ∀ k, tv.ownBlock = some k → O k
  oD : ∀ k, dv.ownBlock = some k → O k
  oI : ∀ k, I k → O k
  iLo : ∀ k, I k → T ≤ k
  iP : ¬ I p
  iQ : ∀ i, i < s.t.length → ¬ I (q i)
  iT : ∀ k, tv.ownBlock = some k → ¬ I k
  iD : ∀ k, dv.ownBlock = some k → ¬ I k

section
variable {S I J : Nat → Prop} {w w' : World} {p q i : Nat} {x : Tk} {d v : Value} {L : List Value} {l : List Nat}
theorem owns_fr {B : Nat} {e : TypeId} {z n : Nat} {xs : List Value} (h : w.ownsRow B e z v n xs) (f : Fr S w w') (hn : ∀ k, v.ownBlock = some k → ¬ S k) : w'.ownsRow B e z v n xs := by
  refine ⟨h.1, ?_⟩
  rcases h.2 with h0 | ⟨g, cap, cur, rfl, hB, hg, r⟩
  · exact .inl h0
  · exact .inr ⟨g, cap, cur, rfl, hB, (f.block g (Array.getElem?_eq_some_iff.1 hg).1 (hn g rfl)).trans hg, r⟩
theorem Deed.fr (h : Deed I w p x d) (f : Fr S w w') (hS : ∀ k, I k → ¬ S k) (hJ : ∀ k, I k → J k) : Deed J w' p x d := by
  unfold Deed at h ⊢
  split at h
  · rename_i hl
    rw [if_pos hl]
    obtain ⟨b, rfl, hI, hc⟩ := h
    exact ⟨b, rfl, hJ _ hI, f.cell (hS _ hI) hc⟩
  · rename_i hl
    rw [if_neg hl]
    obtain ⟨b, g, t, n, rfl, i1, i2, i3, i4, c1, c2, c3, c4⟩ := h
    exact ⟨b, g, t, n, rfl, hJ _ i1, hJ _ i2, hJ _ i3, hJ _ i4, f.cell (hS _ i1) c1, f.cell (hS _ i2) c2, f.cell (hS _ i3) c3, f.cell (hS _ i4) c4⟩
theorem Deed.same (h : Deed I w p x d) {y : Tk} (e1 : y.lists = x.lists) (e2 : y.f = x.f) (e3 : y.t = x.t) (e4 : y.n = x.n) : Deed I w p y d := by
  unfold Deed at h ⊢
  rw [e1, e2, e3, e4]
  exact h
theorem Steps.fr (h : Steps I w L v) (f : Fr S w w') (hS : ∀ k, I k → ¬ S k) (hJ : ∀ k, I k → J k) : Steps J w' L v := by
  obtain ⟨a, cap, e, h1, h2, h3⟩ := h
  refine ⟨a, cap, e, h1, h2, fun j u hu => ?_⟩
  obtain ⟨g, o, ha, hI, hc⟩ := h3 j u hu
  exact ⟨g, o, ha, hJ _ hI, f.cell (hS _ hI) hc⟩
theorem Told.fr (h : Told I w l v) (f : Fr S w w') (hS : ∀ k, I k → ¬ S k) (hJ : ∀ k, I k → J k) : Told J w' l v := by
  rcases h with h | ⟨g, c, e, hI, h1, h2, hn⟩
  · exact .inl h
  · refine .inr ⟨g, c, e, hJ _ hI, h1, h2, fun i hi => ?_⟩
    obtain ⟨a, ha, hc, hb⟩ := hn i hi
    injection ha with ha
    subst ha
    rw [Addr.add_lit] at hc
    exact ⟨_, rfl, by rw [Addr.add_lit]; exact f.cell (hS _ hI) hc, hb⟩
theorem TaskAt.fr {M : List Sp} (h : TaskAt I w p q i x M) (f : Fr S w w') (hq : ¬ S q) (hS : ∀ k, I k → ¬ S k) (hJ : ∀ k, I k → J k) : TaskAt J w' p q i x M := by
  obtain ⟨d, st, to, h1, h2, h3, h4⟩ := h
  exact ⟨d, st, to, h1.fr f hq, h2.fr f hS hJ, h3.fr f hS hJ, h4.fr f hS hJ⟩
end
section
variable {S O I : Nat → Prop} {w w' : World} {p : Nat} {s : Bs} {td : Nat → List Sp} {B T r : Nat} {q : Nat → Nat} {tv dv : Value}
theorem BkAt.fr (h : BkAt O p s td w B T r q tv dv I) (f : Fr S w w') (hS : ∀ k, O k → ¬ S k) : BkAt O p s td w' B T r q tv dv I :=
  { h with
    pu := h.pu.fr f (fun k hk => hS k (h.oR k hk))
    blk := h.blk.fr f (hS p h.oP)
    tasks := owns_fr h.tasks f (fun k hk => hS k (h.oT k hk))
    done := owns_fr h.done f (fun k hk => hS k (h.oD k hk))
    task := fun i hi => (h.task i hi).fr f (hS _ (h.oQ i hi)) (fun k hk => hS k (h.oI k hk)) (fun _ => id) }
theorem BkAt.no (h : BkAt O p s td w B T r q tv dv I) (f : Fr No w w') : BkAt O p s td w' B T r q tv dv I := h.fr f (fun _ _ => id)
/-- More blocks may be the bank's. -/
theorem BkAt.mono {O' : Nat → Prop} (h : BkAt O p s td w B T r q tv dv I) (k : ∀ j, O j → O' j) : BkAt O' p s td w B T r q tv dv I :=
  { h with
    oR := fun j hj => k _ (h.oR j hj)
    oP := k _ h.oP
    oQ := fun i hi => k _ (h.oQ i hi)
    oT := fun j hj => k _ (h.oT j hj)
    oD := fun j hj => k _ (h.oD j hj)
    oI := fun j hj => k _ (h.oI j hj) }
end
/-- The bank at p. -/
def BkIn (O : Nat → Prop) (p : Nat) (s : Bs) (w : World) : Prop := ∃ B T r q tv dv I, BkAt O p s s.todo w B T r q tv dv I
/-- The bank at p; its memory are the blocks of O. -/
structure Bk (O : Nat → Prop) (p : Nat) (s : Bs) (w : World) : Prop where
  inv : s.Inv
  lt : ∀ k, O k → k < w.heap.size
  at_ : BkIn O p s w
theorem Bk.fr {S O : Nat → Prop} {p : Nat} {s : Bs} {w w' : World} (h : Bk O p s w) (f : Fr S w w') (hn : ∀ k, O k → ¬ S k) : Bk O p s w' := by
  obtain ⟨h1, h2, B, T, r, q, tv, dv, I, h3⟩ := h
  exact ⟨h1, fun k hk => Nat.lt_of_lt_of_le (h2 k hk) f.size, B, T, r, q, tv, dv, I, h3.fr f hn⟩
/-- What a call of the bank leaves: new memory, and its own turned. -/
def BkTo (O : Nat → Prop) (p : Nat) (s' : Bs) (w w' : World) : Prop := ∃ O' : Nat → Prop, Bk O' p s' w' ∧ (∀ k, O' k → O k ∨ w.heap.size ≤ k) ∧ Fr O w w'
/-- The bank's blocks behind a call: those, and all that are new. -/
def Grow (O : Nat → Prop) (w w' : World) (k : Nat) : Prop := O k ∨ (w.heap.size ≤ k ∧ k < w'.heap.size)
theorem BkTo.of {O : Nat → Prop} {p : Nat} {s' : Bs} {w w' : World} (hi : s'.Inv) (hlt : ∀ k, O k → k < w.heap.size) (f : Fr O w w') (h : BkIn (Grow O w w') p s' w') : BkTo O p s' w w' :=
  ⟨Grow O w w', ⟨hi, fun k hk => hk.elim (fun h => Nat.lt_of_lt_of_le (hlt k h) f.size) (·.2), h⟩, fun k hk => hk.elim .inl (fun h => .inr h.1), f⟩
def Bs.isIn (s : Bs) (i : Int) : Bool := decide (0 ≤ i ∧ i < s.t.length)
def Bs.actV (s : Bs) (i : Int) : Bool := s.isIn i && (s.tk i.toNat).acted
def Bs.resV (s : Bs) (i : Int) : Int := if s.isIn i then (s.tk i.toNat).e else 0
def Bs.toldV (s : Bs) (i : Int) : List Nat := if s.isIn i then (s.tk i.toNat).told else []
def Bs.holdV (s : Bs) (k : Int) : Int := if 0 ≤ k ∧ k < 4 then s.hold k.toNat else -1
/-- A slice of numbers that is handed out. -/
def OutN (l : List Nat) (v : Value) (w : World) : Prop := ∃ ao cap, v = .slice ao l.length cap ∧ Nums w ao l.length (fun i => l.getD i 0)
def OutI (l : List Nat) (v : Value) (w : World) : Prop := ∃ ao cap, v = .slice ao l.length cap ∧ ∀ i, i < l.length → ∃ a, ao = some a ∧ w.cell? (a.add i) = some (.int .i64 (l.getD i 0 : Int))
/-! What is told apart by its kind. -/
section
variable {O I : Nat → Prop} {w : World} {p : Nat} {s : Bs} {td : Nat → List Sp} {B T r : Nat} {q : Nat → Nat} {tv dv : Value}
theorem Blk.ty_ne {w : World} {a b : Nat} {t u : TypeId} {cs ds : List Value} (h : Blk w a t cs) (k : Blk w b u ds) (hne : t ≠ u) : a ≠ b := by
  rintro rfl
  unfold Blk at h k
  rw [h] at k
  simp only [Option.some.injEq, Obj.cells.injEq] at k
  exact hne k.2.1
theorem Blk.own_ne {w : World} {a : Nat} {t e : TypeId} {cs xs : List Value} {B z n : Nat} {v : Value} (h : Blk w a t cs) (k : w.ownsRow B e z v n xs) (hne : t ≠ e) : v.ownBlock ≠ some a := by
  intro hv
  rcases k.2 with ⟨rfl, _⟩ | ⟨g, cap, cur, rfl, _, hg, _⟩
  · cases hv
  · simp only [Value.ownBlock, Option.some.injEq] at hv
    subst hv
    unfold Blk at h
    rw [h] at hg
    simp only [Option.some.injEq, Obj.cells.injEq] at hg
    exact hne hg.2.1
theorem own_own_ne {w : World} {e e2 : TypeId} {xs ys : List Value} {B B2 z z2 n n2 g : Nat} {v v2 : Value} (h : w.ownsRow B e z v n xs) (k : w.ownsRow B2 e2 z2 v2 n2 ys) (hne : e ≠ e2) (h1 : v.ownBlock = some g) (h2 : v2.ownBlock = some g) : False := by
  rcases h.2 with ⟨rfl, _⟩ | ⟨g1, cap, cur, rfl, _, hg, _⟩
  · cases h1
  · rcases k.2 with ⟨rfl, _⟩ | ⟨g2, cap2, cur2, rfl, _, hg2, _⟩
    · cases h2
    · simp only [Value.ownBlock, Option.some.injEq] at h1 h2
      subst h1
      subst h2
      rw [hg] at hg2
      simp only [Option.some.injEq, Obj.cells.injEq] at hg2
      exact hne hg2.2.1
theorem BkAt.qBlk (h : BkAt O p s td w B T r q tv dv I) {i : Nat} (hi : i < s.t.length) : ∃ d st to, Blk w (q i) 86 (cellsT p i (s.tk i) d st to) := by
  obtain ⟨d, st, to, h1, _⟩ := h.task i hi
  exact ⟨d, st, to, h1⟩
theorem BkAt.pq (h : BkAt O p s td w B T r q tv dv I) {i : Nat} (hi : i < s.t.length) : p ≠ q i := by
  obtain ⟨d, st, to, h1⟩ := h.qBlk hi
  exact h.blk.ty_ne h1 (by decide)
theorem BkAt.qq (h : BkAt O p s td w B T r q tv dv I) {i j : Nat} (hi : i < s.t.length) (hj : j < s.t.length) (e : q i = q j) : i = j := by
  obtain ⟨d, st, to, h1⟩ := h.qBlk hi
  obtain ⟨d2, st2, to2, h2⟩ := h.qBlk hj
  rw [e] at h1
  unfold Blk at h1 h2
  rw [h1] at h2
  simp only [cellsT, Option.some.injEq, Obj.cells.injEq, and_true] at h2
  have h3 := congrArg (fun a : Array Value => a[1]?) h2
  simp at h3
  omega
theorem BkAt.tp (h : BkAt O p s td w B T r q tv dv I) : tv.ownBlock ≠ some p := h.blk.own_ne h.tasks (by decide)
theorem BkAt.dp (h : BkAt O p s td w B T r q tv dv I) : dv.ownBlock ≠ some p := h.blk.own_ne h.done (by decide)
theorem BkAt.tq (h : BkAt O p s td w B T r q tv dv I) {i : Nat} (hi : i < s.t.length) : tv.ownBlock ≠ some (q i) := by
  obtain ⟨d, st, to, h1⟩ := h.qBlk hi
  exact h1.own_ne h.tasks (by decide)
theorem BkAt.dq (h : BkAt O p s td w B T r q tv dv I) {i : Nat} (hi : i < s.t.length) : dv.ownBlock ≠ some (q i) := by
  obtain ⟨d, st, to, h1⟩ := h.qBlk hi
  exact h1.own_ne h.done (by decide)
theorem BkAt.tlo (h : BkAt O p s td w B T r q tv dv I) {k : Nat} (hk : tv.ownBlock = some k) : T ≤ k := (h.tasks.lt k hk).1
theorem BkAt.dlo (h : BkAt O p s td w B T r q tv dv I) {k : Nat} (hk : dv.ownBlock = some k) : T ≤ k := (h.done.lt k hk).1
/-- The tasks' slice. -/
theorem BkAt.slice (h : BkAt O p s td w B T r q tv dv I) : ∃ a c, tv = .slice a s.t.length c ∧ ∀ i, i < s.t.length → ∃ g, a = some ⟨g, 0, none⟩ ∧ tv.ownBlock = some g ∧ w.cell? ⟨g, i, none⟩ = some (at_ (q i) 0) := by
  rcases h.tasks.2 with ⟨hv, h0⟩ | ⟨g, cap, cur, hv, hB, hg, hc, _, _, ht⟩
  · refine ⟨none, 0, by rw [hv, h0], fun i hi => by omega⟩
  · refine ⟨some ⟨g, 0, none⟩, cap, hv, fun i hi => ⟨g, rfl, by rw [hv]; rfl, ?_⟩⟩
    have := h.tasks.cells (by rw [hv]; rfl) i (at_ (q i) 0) (by unfold cellsQ; rw [List.getElem?_map, List.getElem?_range hi]; rfl)
    rw [Addr.add_lit, Nat.zero_add] at this
    exact this
end
end Go.Proofs.Ytldcglmpnildiaa

namespace Go.Proofs.Ytldcglmpnildiaa
open Go.RowKit
set_option linter.unusedVariables false
set_option maxRecDepth 100000

section
variable {O I : Nat → Prop} {w : World} {p : Nat} {s : Bs} {td : Nat → List Sp} {B T r : Nat} {q : Nat → Nat} {tv dv : Value}
/-- What find tells. -/
def Bs.findV (s : Bs) (q : Nat → Nat) (i : Int) : Value := if s.isIn i then .pointer (some ⟨q i.toNat, 0, none⟩) else .pointer none
set_option maxHeartbeats 1000000 in
theorem find10_any (h : BkAt O p s td w B T r q tv dv I) (i : Int) : Calls Try.prog 30 #[.pointer (some ⟨p, 0, none⟩), .int .i64 i] w fun e w' => e = .returned (.tuple #[s.findV q i, .bool (s.isIn i)]) ∧ w = w' := by
  have c5 := h.blk.cell (i := 5) (v := tv) rfl
  obtain ⟨a, c, htv, hc⟩ := h.slice
  rw [htv] at c5
  obtain ⟨n, hn⟩ : ∃ n, n = s.t.length := ⟨_, rfl⟩
  have HV : Hid (s.isIn i = decide (0 ≤ i ∧ i < n)) := Lib.hid (by rw [hn]; rfl)
  rw [← hn] at c5 hc
  clear h htv hn
  by_cases h0 : i < 0
  · have t0 : decide (i < 0) = true := decide_eq_true h0
    have HZ : Hid (s.isIn i = false) := Lib.hid (by rw [HV.out]; exact decide_eq_false (by omega))
    have HW : Hid (s.findV q i = .pointer none) := Lib.hid (by unfold Bs.findV; rw [HZ.out]; rfl)
    clear HV hc
    go_enter Try.func30, Try.ntmps30
    go_wp2
    go_ret2
    exact ⟨by rw [HZ.out, HW.out]; rfl, rfl⟩
  · have t0 : decide (i < 0) = false := decide_eq_false h0
    by_cases h1 : (n : Int) ≤ i
    · have t1 : decide ((n : Int) ≤ i) = true := decide_eq_true h1
      have HZ : Hid (s.isIn i = false) := Lib.hid (by rw [HV.out]; exact decide_eq_false (by omega))
      have HW : Hid (s.findV q i = .pointer none) := Lib.hid (by unfold Bs.findV; rw [HZ.out]; rfl)
      clear HV hc
      go_enter Try.func30, Try.ntmps30
      go_wp2
      go_ret2
      exact ⟨by rw [HZ.out, HW.out]; rfl, rfl⟩
    · obtain ⟨k, rfl⟩ : ∃ k : Nat, i = (k : Int) := ⟨i.toNat, by omega⟩
      have hk : k < n := by omega
      obtain ⟨g, rfl, _, hcell⟩ := hc k hk
      have t1 : decide ((n : Int) ≤ (k : Int)) = false := decide_eq_false h1
      have t1' : decide (n ≤ k) = false := decide_eq_false (by omega)
      have t2 : k < n := hk
      have HZ : Hid (s.isIn (k : Int) = true) := Lib.hid (by rw [HV.out]; exact decide_eq_true (by omega))
      have HW : Hid (s.findV q (k : Int) = .pointer (some ⟨q k, 0, none⟩)) := Lib.hid (by unfold Bs.findV; rw [HZ.out, Int.toNat_natCast]; rfl)
      obtain ⟨qk, hqk⟩ : ∃ x, x = q k := ⟨_, rfl⟩
      have hcell' : w.cell? ⟨g, k, none⟩ = some (.pointer (some ⟨qk, 0, none⟩)) := by rw [hqk]; exact hcell
      rw [← hqk] at HW
      clear HV hc hcell hqk
      go_enter Try.func30, Try.ntmps30
      go_wp2
      go_ret2
      exact ⟨by rw [HZ.out, HW.out]; rfl, rfl⟩

set_option maxHeartbeats 1000000 in
theorem balance10_any (h : BkAt O p s td w B T r q tv dv I) (a : Int) : Calls Try.prog 34 #[.pointer (some ⟨p, 0, none⟩), .int .i64 a] w fun e w' => e = .returned (.tuple #[.int .u64 (s.p.balV a : Int), .bool (s.p.has a)]) ∧ Fr No w w' := by
  have c0 := h.blk.cell (i := 0) (v := at_ r 0) rfl
  have HB := Lib.hid (pu_balance h.pu a)
  obtain ⟨b, hb⟩ : ∃ b, b = s.p.balV a := ⟨_, rfl⟩
  obtain ⟨y, hy⟩ : ∃ y, y = s.p.has a := ⟨_, rfl⟩
  obtain ⟨e, he⟩ : ∃ e, e = s.p.noneE a := ⟨_, rfl⟩
  have te : (e == 0) = y := by rw [he, hy]; unfold Ps.noneE; cases s.p.has a <;> rfl
  rw [← hb, ← he] at HB
  rw [← hb, ← hy]
  simp only [at_] at c0
  clear h hb hy he
  go_enter Try.func34, Try.ntmps34
  go_wp2_with fail
  refine HB.out.mono ?_
  rintro x w1 ⟨rfl, hF⟩
  have HF := Lib.hid hF
  clear hF
  go_wp2
  go_ret2
  exact ⟨rfl, HF.out⟩

set_option maxHeartbeats 1000000 in
theorem has10_any (h : BkAt O p s td w B T r q tv dv I) (a : Int) : Calls Try.prog 23 #[.pointer (some ⟨p, 0, none⟩), .int .i64 a] w fun e w' => e = .returned (.bool (s.p.has a)) ∧ Fr No w w' := by
  have HB := Lib.hid (balance10_any h a)
  obtain ⟨b, hb⟩ : ∃ b, b = s.p.balV a := ⟨_, rfl⟩
  obtain ⟨y, hy⟩ : ∃ y, y = s.p.has a := ⟨_, rfl⟩
  rw [← hb, ← hy] at HB
  rw [← hy]
  clear h hb hy
  go_enter Try.func23, Try.ntmps23
  go_wp2_with fail
  refine HB.out.mono ?_
  rintro x w1 ⟨rfl, hF⟩
  have HF := Lib.hid hF
  clear hF
  go_wp2
  go_ret
  exact ⟨rfl, HF.out⟩

set_option maxHeartbeats 1000000 in
theorem result10_any (h : BkAt O p s td w B T r q tv dv I) (hf : ∀ i, (s.tk i).acted = false → (s.tk i).e = 0) (i : Int) : Calls Try.prog 17 #[.pointer (some ⟨p, 0, none⟩), .int .i64 i] w fun e w' => e = .returned (.tuple #[.int .i64 (s.resV i), .bool (s.actV i)]) ∧ Fr No w w' := by
  have HB := Lib.hid (find10_any h i)
  cases hi : s.isIn i with
  | false =>
    have e1 : s.findV q i = .pointer none := by unfold Bs.findV; rw [hi]; rfl
    have e2 : s.resV i = 0 := by unfold Bs.resV; rw [hi]; rfl
    have e3 : s.actV i = false := by unfold Bs.actV; rw [hi]; rfl
    rw [e1, hi] at HB
    rw [e2, e3]
    clear h hf hi e1 e2 e3
    go_enter Try.func17, Try.ntmps17
    go_wp2_with fail
    refine HB.out.mono ?_
    rintro x w1 ⟨rfl, rfl⟩
    go_wp2
    go_ret2
    exact ⟨rfl, Fr.refl _ _⟩
  | true =>
    have hi' := hi
    unfold Bs.isIn at hi'
    rw [decide_eq_true_eq] at hi'
    obtain ⟨k, rfl⟩ : ∃ k : Nat, i = (k : Int) := ⟨i.toNat, by omega⟩
    obtain ⟨d, st, to, hb⟩ := h.qBlk (i := k) (by omega)
    have e1 : s.findV q (k : Int) = .pointer (some ⟨q k, 0, none⟩) := by unfold Bs.findV; rw [hi, Int.toNat_natCast]; rfl
    have e2 : s.resV (k : Int) = (s.tk k).e := by unfold Bs.resV; rw [hi, Int.toNat_natCast]; rfl
    have e3 : s.actV (k : Int) = (s.tk k).acted := by unfold Bs.actV; rw [hi, Int.toNat_natCast]; rfl
    rw [e1, hi] at HB
    rw [e2, e3]
    have c4 := hb.cell (i := 4) (v := .bool (s.tk k).acted) rfl
    have c5 := hb.cell (i := 5) (v := .int .i64 (s.tk k).e) rfl
    have h0 := hf k
    obtain ⟨ac, hac⟩ : ∃ x, x = (s.tk k).acted := ⟨_, rfl⟩
    obtain ⟨er, her⟩ : ∃ x, x = (s.tk k).e := ⟨_, rfl⟩
    obtain ⟨qk, hqk⟩ : ∃ x, x = q k := ⟨_, rfl⟩
    rw [← hac, ← her] at h0
    rw [← hac, ← hqk] at c4
    rw [← her, ← hqk] at c5
    rw [← hqk] at HB
    rw [← hac, ← her]
    clear h hf hi hi' e1 e2 e3 hb hac her hqk
    cases ac with
    | false =>
      obtain rfl : er = 0 := h0 rfl
      clear h0
      go_enter Try.func17, Try.ntmps17
      go_wp2_with fail
      refine HB.out.mono ?_
      rintro x w1 ⟨rfl, rfl⟩
      go_wp2
      go_ret2
      exact ⟨rfl, Fr.refl _ _⟩
    | true =>
      clear h0
      go_enter Try.func17, Try.ntmps17
      go_wp2_with fail
      refine HB.out.mono ?_
      rintro x w1 ⟨rfl, rfl⟩
      go_wp2
      go_ret2
      exact ⟨rfl, Fr.refl _ _⟩

set_option maxHeartbeats 1000000 in
theorem clone64_nil (w : World) : Calls Try.prog 33 #[.slice none 0 0] w fun e w' => e = .returned (.slice none 0 0) ∧ w = w' := by
  have q : ∀ (w : World) (a : Option Addr) (n c n' c' : Nat), (binOp .eql 22 (.slice a n c) (.slice none n' c')).run Try.prog w = .ok (.bool a.isNone) w := fun w a n c n' c' => Lib.run_eql_slice_nil w _ _ a n c n' c' Try.underlying22
  go_enter Try.func33, Try.ntmps33
  go_wp2
  go_ret
  exact ⟨rfl, rfl⟩
theorem told_clone {l : List Nat} {v : Value} (h : Told I w l v) : Calls Try.prog 33 #[v] w fun e w' => ∃ v', e = .returned v' ∧ OutN l v' w' ∧ Fr No w w' := by
  rcases h with ⟨rfl, rfl⟩ | ⟨g, c, rfl, hI, h1, h2, hn⟩
  · exact (clone64_nil w).mono fun e w' k => ⟨_, k.1, ⟨none, 0, rfl, fun i hi => by simp at hi⟩, k.2 ▸ Fr.refl _ _⟩
  · exact (clone64_any (some ⟨g, 0, none⟩) l.length c l w rfl h1 h2 hn).mono fun e w' k => by
      obtain ⟨g2, c2, he, _, _, hr, hF⟩ := k
      refine ⟨_, he, ⟨_, _, rfl, fun i hi => ?_⟩, hF⟩
      obtain ⟨a, _, _, hb⟩ := hn i hi
      exact ⟨_, rfl, by rw [Addr.add_lit, Nat.zero_add]; exact (hr i hi).1, hb⟩

set_option maxHeartbeats 1000000 in
theorem told10_any (h : BkAt O p s td w B T r q tv dv I) (i : Int) : Calls Try.prog 19 #[.pointer (some ⟨p, 0, none⟩), .int .i64 i] w fun e w' => ∃ v, e = .returned v ∧ OutN (s.toldV i) v w' ∧ Fr No w w' := by
  have HB := Lib.hid (find10_any h i)
  cases hi : s.isIn i with
  | false =>
    have e1 : s.findV q i = .pointer none := by unfold Bs.findV; rw [hi]; rfl
    have e2 : s.toldV i = [] := by unfold Bs.toldV; rw [hi]; rfl
    rw [e1, hi] at HB
    rw [e2]
    clear h hi e1 e2
    go_enter Try.func19, Try.ntmps19
    go_wp2_with fail
    refine HB.out.mono ?_
    rintro x w1 ⟨rfl, rfl⟩
    go_wp2
    go_ret
    exact ⟨_, rfl, ⟨none, 0, rfl, fun i hi => by simp at hi⟩, Fr.refl _ _⟩
  | true =>
    have hi' := hi
    unfold Bs.isIn at hi'
    rw [decide_eq_true_eq] at hi'
    obtain ⟨k, rfl⟩ : ∃ k : Nat, i = (k : Int) := ⟨i.toNat, by omega⟩
    obtain ⟨d, st, to, hb, _, _, hto⟩ := h.task k (by omega)
    have e1 : s.findV q (k : Int) = .pointer (some ⟨q k, 0, none⟩) := by unfold Bs.findV; rw [hi, Int.toNat_natCast]; rfl
    have e2 : s.toldV (k : Int) = (s.tk k).told := by unfold Bs.toldV; rw [hi, Int.toNat_natCast]; rfl
    rw [e1, hi] at HB
    rw [e2]
    have c6 := hb.cell (i := 6) (v := to) rfl
    have HC := Lib.hid (told_clone hto)
    obtain ⟨l, hl⟩ : ∃ x, x = (s.tk k).told := ⟨_, rfl⟩
    obtain ⟨qk, hqk⟩ : ∃ x, x = q k := ⟨_, rfl⟩
    rw [← hqk] at c6
    rw [← hqk] at HB
    rw [← hl] at HC
    rw [← hl]
    clear h hi hi' e1 e2 hb hqk hto hl
    go_enter Try.func19, Try.ntmps19
    go_wp2_with fail
    refine HB.out.mono ?_
    rintro x w1 ⟨rfl, rfl⟩
    go_wp2_with fail
    refine HC.out.mono ?_
    rintro x w1 ⟨v', rfl, h1, h2⟩
    have H1 := Lib.hid h1
    have H2 := Lib.hid h2
    clear h1 h2
    go_wp2
    go_ret
    exact ⟨_, rfl, H1.out, H2.out⟩

theorem BkAt.lockCell (h : BkAt O p s td w B T r q tv dv I) {k : Nat} (hk : k < 4) : w.cell? ⟨p, 1 + k, none⟩ = some (hp q (s.hold k)) := by
  have hc : k = 0 ∨ k = 1 ∨ k = 2 ∨ k = 3 := by omega
  rcases hc with rfl | rfl | rfl | rfl <;> exact h.blk.cell rfl
set_option maxHeartbeats 1000000 in
theorem holder10_any (V : s.Inv) (h : BkAt O p s td w B T r q tv dv I) (k : Int) : Calls Try.prog 16 #[.pointer (some ⟨p, 0, none⟩), .int .i64 k] w fun e w' => e = .returned (.int .i64 (s.holdV k)) ∧ w = w' := by
  by_cases h0 : k < 0
  · have t0 : decide (k < 0) = true := decide_eq_true h0
    have e1 : s.holdV k = -1 := by unfold Bs.holdV; rw [if_neg (by omega)]
    rw [e1]
    clear h e1 h0
    go_enter Try.func16, Try.ntmps16
    go_wp2
    go_ret
    exact ⟨rfl, rfl⟩
  · have t0 : decide (k < 0) = false := decide_eq_false h0
    by_cases h1 : 4 ≤ k
    · have t1 : decide (4 ≤ k) = true := decide_eq_true h1
      have e1 : s.holdV k = -1 := by unfold Bs.holdV; rw [if_neg (by omega)]
      rw [e1]
      clear h e1 h0 h1
      go_enter Try.func16, Try.ntmps16
      go_wp2
      go_ret
      exact ⟨rfl, rfl⟩
    · obtain ⟨j, rfl⟩ : ∃ j : Nat, k = (j : Int) := ⟨k.toNat, by omega⟩
      have hj : j < 4 := by omega
      have e1 : s.holdV (j : Int) = s.hold j := by unfold Bs.holdV; rw [if_pos (by omega), Int.toNat_natCast]
      have t1 : decide (4 ≤ (j : Int)) = false := decide_eq_false h1
      have t1' : decide (4 ≤ j) = false := decide_eq_false (by omega)
      have t2 : j < 4 := hj
      have hc := h.lockCell hj
      rw [e1]
      by_cases h2 : 0 ≤ s.hold j
      · have hn : (s.hold j).toNat < s.t.length := (V.who j hj h2).1
        obtain ⟨d, st, to, hb⟩ := h.qBlk hn
        have c1 := hb.cell (i := 1) (v := .int .i64 ((s.hold j).toNat : Int)) rfl
        rw [hp, if_pos h2] at hc
        obtain ⟨qk, hqk⟩ : ∃ x, x = q (s.hold j).toNat := ⟨_, rfl⟩
        obtain ⟨x, hx⟩ : ∃ x, x = s.hold j := ⟨_, rfl⟩
        have e2 : ((s.hold j).toNat : Int) = x := by omega
        rw [e2, ← hqk] at c1
        rw [← hqk] at hc
        rw [← hx]
        simp only [at_] at hc
        clear h e1 h0 h1 V hb hqk hx e2 hn h2 hj
        go_enter Try.func16, Try.ntmps16
        go_wp2
        go_ret
        exact ⟨rfl, rfl⟩
      · rw [hp, if_neg h2] at hc
        have e2 : s.hold j = -1 := by have := V.lo j hj; omega
        rw [e2]
        clear h e1 h0 h1 V h2 hj e2
        go_enter Try.func16, Try.ntmps16
        go_wp2
        go_ret
        exact ⟨rfl, rfl⟩
end
end Go.Proofs.Ytldcglmpnildiaa

namespace Go.Proofs.Ytldcglmpnildiaa
open Go.RowKit
set_option linter.unusedVariables false
set_option maxRecDepth 100000

theorem Try.infoInt10 : (Try.prog.info? 3).map (fun i => (i.zero, i.size, i.bytes)) = some (some (.int .i64 0), 1, 8) := by kernel_rfl
/-- How long a slice is. -/
def lenW : Value → Nat
  | .slice _ n _ => n
  | _ => 0
theorem own_slice {w : World} {B : Nat} {e : TypeId} {z n : Nat} {v : Value} {xs : List Value} (h : w.ownsRow B e z v n xs) : ∃ a c, v = .slice a n c := by
  rcases h.2 with ⟨rfl, rfl⟩ | ⟨g, cap, cur, rfl, _⟩
  · exact ⟨_, _, rfl⟩
  · exact ⟨_, _, rfl⟩
/-- What is owned, and not empty: where it lies. -/
theorem own_at {w : World} {B : Nat} {e : TypeId} {n : Nat} {v : Value} {xs : List Value} (h : w.ownsRow B e 1 v n xs) (h1 : 1 ≤ n) : ∃ g c, v = .slice (some ⟨g, 0, none⟩) n c ∧ v.ownBlock = some g ∧ B ≤ g ∧ g < w.heap.size ∧ n ≤ c ∧ c ≤ maxLen ∧ (∀ j u, xs[j]? = some u → w.cell? ⟨g, j, none⟩ = some u) ∧ ∀ j, w.frozen? ⟨g, j, none⟩ = false := by
  rcases h.2 with ⟨rfl, h0⟩ | ⟨g, cap, cur, rfl, hB, hg, hc, hm, _, ht⟩
  · omega
  · refine ⟨g, cap, rfl, rfl, hB, (Array.getElem?_eq_some_iff.1 hg).1, hc, hm, fun j u hu => ?_, fun j => ?_⟩
    · have := h.cells (by rfl) j u hu
      rw [Addr.add_lit, Nat.zero_add] at this
      exact this
    · unfold World.frozen?
      rw [show w.heap[(⟨g, j, none⟩ : Addr).block]? = _ from hg]
      simp
theorem cellsD_one (l : List Nat) : ∀ u ∈ cellsD l, u.oneCell' = true := by
  intro u hu
  unfold cellsD at hu
  rw [List.mem_map] at hu
  obtain ⟨x, _, rfl⟩ := hu
  rfl
theorem cellsD_get {b : List Nat} {j : Nat} {u : Value} (h : (cellsD b)[j]? = some u) : ∃ hj : j < b.length, u = .int .i64 (b.getD j 0 : Int) := by
  unfold cellsD at h
  rw [List.getElem?_map] at h
  by_cases hj : j < b.length
  · rw [List.getElem?_eq_getElem hj] at h
    refine ⟨hj, ?_⟩
    rw [List.getD_eq_getElem?_getD, List.getElem?_eq_getElem hj]
    simpa using h.symm
  · rw [List.getElem?_eq_none (by omega)] at h
    cases h
theorem cellsD_at {b : List Nat} {j : Nat} (h : j < b.length) : (cellsD b)[j]? = some (.int .i64 (b.getD j 0 : Int)) := by
  unfold cellsD
  rw [List.getElem?_map, List.getElem?_eq_getElem h, List.getD_eq_getElem?_getD, List.getElem?_eq_getElem h]
  rfl

set_option maxHeartbeats 2000000 in
theorem cloneI_any {B : Nat} {v : Value} (b : List Nat) (w : World) (h2 : b.length ≤ 32) (h : w.ownsRow B 3 1 v b.length (cellsD b)) :
    Calls Try.prog 32 #[v] w fun e w' => ∃ v', e = .returned v' ∧ OutI b v' w' ∧ Fr No w w' ∧ ∀ g n c, v' = .slice (some g) n c → w.heap.size ≤ g.block := by
  obtain ⟨i0, hi, hz0, hz1, hz2⟩ := info_parts Try.infoInt10
  have q : ∀ (w : World) (a : Option Addr) (n c n' c' : Nat), (binOp .eql 35 (.slice a n c) (.slice none n' c')).run Try.prog w = .ok (.bool a.isNone) w := fun w a n c n' c' => Lib.run_eql_slice_nil w _ _ a n c n' c' Try.underlying35
  by_cases h1 : 1 ≤ b.length
  · obtain ⟨g, cap, rfl, _, _, hg, _, _, hc, _⟩ := own_at h h1
    have HC := Lib.hid hc
    obtain ⟨n, hn⟩ : ∃ n, n = b.length := ⟨_, rfl⟩
    have HN := Lib.hid hn
    rw [← hn] at h2
    have H1 : Hid (1 ≤ n) := Lib.hid (by omega)
    rw [← hn]
    clear h hc h1 hn
    go_enter Try.func32, Try.ntmps32
    go_wp2_with (at_builtin; refine wpList_append_own _ rfl _ _ 35 rfl w.heap.size 3 i0 (.int .i64 0) 1 8 Try.underlying35 hi hz0 hz1 hz2 rfl (by decide) _ _ _ rfl (World.ownsRow_made w #[] 0 (Nat.le_refl _) (Nat.zero_le _) rfl) ⟨g, 0, none⟩ n cap (cellsD b) rfl ?c1 ?c2 ?c3 ?c4 ?c5 ?c6 ?c7)
    case c1 => simp [cellsD, HN.out]
    case c2 =>
      intro j u hu
      have hc := HC.out j u hu
      rw [Addr.add_lit, Nat.zero_add]
      exact (World.cell?_alloc_lt _ _ _ (World.block_lt_of_cell? _ _ hc)).trans hc
    case c3 => exact cellsD_one b
    case c4 => unfold maxLen; omega
    case c5 => omega
    case c6 => exact (by simp)
    case c7 =>
      intro v' w1 hown' hgrow _
      have HF : Hid (Fr No w w1) := Lib.hid ((((Fr.refl (· = w.heap.size) w).alloc _).trans (Fr.of_grown hgrow fun k hk => by simpa [Value.ownBlock] using hk.symm)).mono fun k hk e => by omega)
      have HO : Hid (OutI b v' w1 ∧ ∀ g n c, v' = .slice (some g) n c → w.heap.size ≤ g.block) := Lib.hid (by
        obtain ⟨g2, c2, rfl, _, hg2, _, _, _, hcell, _⟩ := own_at (xs := cellsD b) (by simpa using hown') H1.out
        refine ⟨⟨_, _, by rw [HN.out], fun i hi => ⟨_, rfl, ?_⟩⟩, fun g n c e => ?_⟩
        · rw [Addr.add_lit, Nat.zero_add]
          exact hcell i _ (cellsD_at hi)
        · injection e with e _ _
          injection e with e
          subst e
          exact hg2)
      obtain ⟨a', c', rfl⟩ := own_slice hown'
      clear hown' hgrow
      go_wp2
      go_ret
      exact ⟨_, rfl, HO.out.1, HF.out, HO.out.2⟩
  · have h0 : b = [] := List.eq_nil_of_length_eq_zero (by omega)
    subst h0
    have hX : Hid (OutI [] v w ∧ ∀ g n c, v = .slice (some g) n c → False ∨ ∃ c', v = .slice (some g) 0 c') := Lib.hid (by
      obtain ⟨a, c, rfl⟩ := own_slice h
      exact ⟨⟨_, _, rfl, fun i hi => by simp at hi⟩, fun g n c' e => by injection e with e1 e2 e3; subst e1; exact .inr ⟨c, rfl⟩⟩)
    rcases h.2 with ⟨rfl, h0⟩ | ⟨g, cap, cur, rfl, hB, hg, hc, hm, _, ht⟩
    · clear h hX h0 h2 h1
      go_enter Try.func32, Try.ntmps32
      go_wp2
      go_ret
      exact ⟨_, rfl, ⟨_, _, rfl, fun i hi => by simp at hi⟩, Fr.refl _ _, fun g n c e => by cases e⟩
    · clear h hX h2 h1 hg hc hm ht hB
      go_enter Try.func32, Try.ntmps32
      go_wp2_with (at_builtin; refine wpList_append_own _ rfl _ _ 35 rfl w.heap.size 3 i0 (.int .i64 0) 1 8 Try.underlying35 hi hz0 hz1 hz2 rfl (by decide) _ _ _ rfl (World.ownsRow_made w #[] 0 (Nat.le_refl _) (Nat.zero_le _) rfl) ⟨g, 0, none⟩ 0 cap [] rfl ?c1 ?c2 ?c3 ?c4 ?c5 ?c6 ?c7)
      case c1 => rfl
      case c2 => intro j u hu; simp at hu
      case c3 => intro u hu; simp at hu
      case c4 => unfold maxLen; omega
      case c5 => omega
      case c6 => exact (by simp)
      case c7 =>
        intro v' w1 hown' hgrow _
        have HF : Hid (Fr No w w1) := Lib.hid ((((Fr.refl (· = w.heap.size) w).alloc _).trans (Fr.of_grown hgrow fun k hk => by simpa [Value.ownBlock] using hk.symm)).mono fun k hk e => by omega)
        have HO : Hid (∀ g n c, v' = .slice (some g) n c → w.heap.size ≤ g.block) := Lib.hid (fun g n c e => (hown'.lt g.block (by
          obtain ⟨a', c', e2⟩ := own_slice hown'
          rcases hown'.2 with ⟨e3, _⟩ | ⟨g2, cap, cur, e3, _⟩
          · rw [e3] at e; cases e
          · rw [e3] at e ⊢
            injection e with e _ _
            injection e with e
            subst e
            rfl)).1)
        obtain ⟨a', c', rfl⟩ := own_slice hown'
        clear hown' hgrow
        go_wp2
        go_ret
        exact ⟨_, rfl, ⟨_, _, rfl, fun i hi => by simp at hi⟩, HF.out, HO.out⟩

section
variable {O I : Nat → Prop} {w : World} {p : Nat} {s : Bs} {td : Nat → List Sp} {B T r : Nat} {q : Nat → Nat} {tv dv : Value}
set_option maxHeartbeats 1000000 in
theorem done10_any (V : s.Inv) (h : BkAt O p s td w B T r q tv dv I) : Calls Try.prog 15 #[.pointer (some ⟨p, 0, none⟩)] w fun e w' => ∃ v, e = .returned v ∧ OutI s.done v w' ∧ Fr No w w' ∧ ∀ g n c, v = .slice (some g) n c → w.heap.size ≤ g.block := by
  have c6 := h.blk.cell (i := 6) (v := dv) rfl
  have HC := Lib.hid (cloneI_any s.done w (Bs.done_le V) h.done)
  obtain ⟨l, hl⟩ : ∃ l, l = s.done := ⟨_, rfl⟩
  rw [← hl] at HC ⊢
  clear h hl V
  go_enter Try.func15, Try.ntmps15
  go_wp2_with fail
  refine HC.out.mono ?_
  rintro x w1 ⟨v', rfl, h1, h2, h3⟩
  have H1 := Lib.hid h1
  have H2 := Lib.hid h2
  have H3 := Lib.hid h3
  clear h1 h2 h3
  go_wp2
  go_ret
  exact ⟨_, rfl, H1.out, H2.out, H3.out⟩

theorem take_snoc64 {b : List Nat} {i : Nat} (h : i < b.length) : cells64 (b.take (i + 1)) = cells64 (b.take i) ++ [.int .u64 (b.getD i 0 : Int)] := by
  unfold cells64
  rw [List.take_succ_eq_append_getElem h, List.map_append, List.getD_eq_getElem?_getD, List.getElem?_eq_getElem h]
  rfl
theorem Ps.balV_of {s : Ps} (i : Nat) : s.balV (i : Int) = (if i < s.b.length then s.b.getD i 0 else 0) ∧ s.has (i : Int) = decide (i < s.b.length) := by
  have e : s.has (i : Int) = decide (i < s.b.length) := by
    unfold Ps.has
    congr 1
    apply propext
    omega
  refine ⟨?_, e⟩
  unfold Ps.balV
  rw [e, Int.toNat_natCast]
  by_cases h : i < s.b.length
  · rw [decide_eq_true h, if_pos h]; rfl
  · rw [decide_eq_false h, if_neg h]; rfl

set_option maxHeartbeats 4000000 in
theorem balances10_any (h : BkAt O p s td w B T r q tv dv I) : Calls Try.prog 20 #[.pointer (some ⟨p, 0, none⟩)] w fun e w' =>
    ∃ g c, e = .returned (.slice (some ⟨g, 0, none⟩) s.p.b.length c) ∧ w.heap.size ≤ g ∧ g < w'.heap.size ∧ Rw w' g s.p.b ∧ Fr No w w' := by
  obtain ⟨i0, hi0, hz0, hz1, hz2⟩ := info_parts Try.infoU64
  have HB := Lib.hid (fun X (f : Fr No w X) (i : Nat) => balance10_any (h.no f) (i : Int))
  have h1 := h.pu.wf.b1
  have h2 := h.pu.wf.b2
  obtain ⟨b, hb⟩ : ∃ b, b = s.p.b := ⟨_, rfl⟩
  have HV : Hid (∀ i : Nat, s.p.balV (i : Int) = (if i < b.length then b.getD i 0 else 0) ∧ s.p.has (i : Int) = decide (i < b.length)) := Lib.hid (fun i => by rw [hb]; exact Ps.balV_of i)
  rw [← hb] at h1 h2 ⊢
  obtain ⟨n, hn⟩ : ∃ n, n = b.length := ⟨_, rfl⟩
  have HN := Lib.hid hn
  have HN1 : Hid (1 ≤ n ∧ n ≤ 32) := Lib.hid (by omega)
  have HB0 := Lib.hid (HB.out w (Fr.refl _ _) 0)
  have HFIN : Hid (∀ v w', w'.ownsRow w.heap.size 27 1 v n (cells64 (b.take n)) → Fr No w w' → ∃ g c, v = .slice (some ⟨g, 0, none⟩) n c ∧ w.heap.size ≤ g ∧ g < w'.heap.size ∧ Rw w' g b) := Lib.hid (fun v w' ho _ => own64 (by rw [hn, List.take_length] at ho; rw [hn]; exact ho) hn (by omega))
  rw [(HV.out 0).1, (HV.out 0).2, if_pos (by omega), decide_eq_true (by omega)] at HB0
  obtain ⟨x0, hx0⟩ : ∃ x, x = b.getD 0 0 := ⟨_, rfl⟩
  have HX0 := Lib.hid hx0
  rw [← hx0] at HB0
  rw [← hn]
  clear h h1 h2 hb hn hx0
  go_enter Try.func20, Try.ntmps20
  go_wp2_with fail
  refine HB0.out.mono ?_
  rintro e w1 ⟨rfl, hF⟩
  have HF1 := Lib.hid hF
  clear hF
  go_wp2_with fail
  go_loopw [3, 4, 5] (fun v x y wr => ∃ (i m : Nat), i ≤ n ∧ x = .int .u64 (m : Int) ∧ y = .bool (decide (i < n)) ∧ Hid (m = if i < n then b.getD i 0 else 0) ∧ Hid (wr.ownsRow w.heap.size 27 1 v i (cells64 (b.take i))) ∧ Hid (Fr No w wr)) (fun v _ _ _ => n + 1 - lenW v)
  case atStart => exact ⟨0, x0, by omega, rfl, by rw [decide_eq_true (by have := HN1.out; omega)], Lib.hid (by rw [if_pos (by have := HN1.out; omega)]; exact HX0.out), Lib.hid (World.ownsRow_nil _ _ _ _), HF1⟩
  case round =>
    obtain ⟨i, m, hi, rfl, rfl, HM, HO, HF⟩ := hrel
    obtain ⟨a, c, rfl⟩ := own_slice HO.out
    by_cases hlt : i < n
    · rw [decide_eq_true hlt]
      have t1 : i < n := hlt
      obtain ⟨k1, hk1⟩ : ∃ k, k = i + 1 := ⟨_, rfl⟩
      have HK1 : Hid (k1 = i + 1 ∧ k1 ≤ n) := Lib.hid ⟨hk1, by omega⟩
      have HMx : Hid (m = b.getD i 0) := Lib.hid (by rw [HM.out, if_pos hlt])
      have HA := Lib.hid (owns_fr HO.out ((Fr.refl No wr).alloc (.cells #[.int .u64 (m : Int)] 27)) (fun _ _ => id))
      clear hlt hi hk1 HM
      go_wp2_with (at_builtin; refine wpList_append_own_at _ rfl _ _ 22 rfl w.heap.size 27 i0 (.int .u64 0) 1 8 Try.underlying22 hi0 hz0 hz1 hz2 rfl (by decide) _ _ _ rfl HA.out ⟨wr.heap.size, 0, none⟩ 1 1 [.int .u64 (m : Int)] rfl rfl ?c1 ?c2 ?c3 ?c4 ?c5 ?c6)
      case c1 => exact cell_one_new _ _ _
      case c2 => intro u hu; simp at hu; subst hu; rfl
      case c3 => have := HK1.out; have := HN1.out; unfold maxLen; omega
      case c4 => have := HK1.out; have := HN1.out; omega
      case c5 => have := HF.out.size; simp; omega
      case c6 =>
        intro v2 w2 hown hgrow _ hloc
        have HO2 : Hid (w2.ownsRow w.heap.size 27 1 v2 k1 (cells64 (b.take k1))) := Lib.hid (by
          have e := HK1.out
          rw [e.1, take_snoc64 (by have := HN.out; omega), ← HMx.out]
          exact hown)
        have HF2 : Hid (Fr No w w2) := Lib.hid ((HF.out.trans ((Fr.refl No wr).alloc _)).trans' (Fr.of_grown (S := fun k => (Value.slice a i c).ownBlock = some k) hgrow (fun k e => e)) (fun k hk e => by have := (HA.out.lt k e).1; omega))
        obtain ⟨a2, c2, rfl⟩ := own_slice HO2.out
        have HBk := Lib.hid (HB.out w2 HF2.out k1)
        obtain ⟨m2, hm2⟩ : ∃ x, x = s.p.balV (k1 : Int) := ⟨_, rfl⟩
        have HM2 : Hid (m2 = if k1 < n then b.getD k1 0 else 0) := Lib.hid (by rw [hm2, (HV.out k1).1, HN.out])
        have e2 : s.p.has (k1 : Int) = decide (k1 < n) := by rw [(HV.out k1).2, HN.out]
        rw [← hm2, e2] at HBk
        clear hown hgrow hloc hm2 e2
        go_wp2_with fail
        refine HBk.out.mono ?_
        rintro e w3 ⟨rfl, hF⟩
        have HF3 := Lib.hid (HF2.out.trans hF)
        have HO3 := Lib.hid (owns_fr HO2.out hF (fun _ _ => id))
        clear hF
        go_wp2
        exact ⟨⟨k1, m2, HK1.out.2, rfl, rfl, HM2, HO3, HF3⟩, by have := HK1.out; simp [lenW]; omega⟩
    · rw [decide_eq_false hlt]
      obtain rfl : i = n := by omega
      have HG := Lib.hid (HFIN.out _ _ HO.out HF.out)
      clear hlt hi
      go_wp2
      go_ret
      obtain ⟨g, c', he, h1, h2, h3⟩ := HG.out
      exact ⟨g, c', by injection he with e1 _ e3; subst e1; subst e3; rfl, h1, h2, h3, HF.out⟩
end
end Go.Proofs.Ytldcglmpnildiaa
