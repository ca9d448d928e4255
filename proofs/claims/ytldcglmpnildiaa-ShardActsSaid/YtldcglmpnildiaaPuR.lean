/- A map of reservations in memory (PM), and a loop over it under way (PMR). -/
import Derived.Test.YtldcglmpnildiaaPuM
import Derived.Test.YtldcglmpnildiaaBlk
import Derived.Test.YtldcglmpnildiaaTy8
import Derived.Maps.RangeWalk
import Derived.Maps.Views
namespace Go.Proofs.Ytldcglmpnildiaa
open Go.RowKit Go.Maps
set_option linter.unusedVariables false
set_option maxRecDepth 100000

theorem keyed9 : Keyed Try.prog 3 := int_keyed Try.underlying3

/-- A reservation as a value, and as a map's element reads. -/
abbrev vR (x : Nat × Nat) : Value := .agg #[.int .i64 (x.1 : Int), .int .u64 (x.2 : Int)]
def dR (x : Nat × Nat) : DataW Unit := .agg [.lit (.int .i64 (x.1 : Int)), .lit (.int .u64 (x.2 : Int))]
def readR : Value → Option (DataW Unit × List MemPlace)
  | .agg cs => match cs.toList with
    | [.int .i64 a, .int .u64 n] => some (.agg [.lit (.int .i64 a), .lit (.int .u64 n)], [])
    | _ => none
  | _ => none
theorem readR_mk (x : Nat × Nat) : readR (vR x) = some (dR x, []) := rfl
theorem readR_inv {v : Value} {d : DataW Unit} {ps : List MemPlace} (h : readR v = some (d, ps)) : ∃ a n, v = .agg #[.int .i64 a, .int .u64 n] ∧ d = .agg [.lit (.int .i64 a), .lit (.int .u64 n)] := by
  unfold readR at h
  split at h
  · split at h
    · rename_i cs _ a n e
      simp only [Option.some.injEq, Prod.mk.injEq] at h
      refine ⟨a, n, ?_, h.1.symm⟩
      congr 1
      apply Array.ext'
      simpa using e
    · cases h
  · cases h
theorem readR_eq {v : Value} {x : Nat × Nat} {ps : List MemPlace} (h : readR v = some (dR x, ps)) : v = vR x := by
  obtain ⟨a, n, rfl, hd⟩ := readR_inv h
  unfold dR at hd
  simp only [DataW.agg.injEq, List.cons.injEq, DataW.lit.injEq, Lit.int.injEq, true_and, and_true] at hd
  rw [← hd.1, ← hd.2]

/-- The datum tells just these reservations. -/
structure PD (D : DataW Unit) (h : Nat → Nat × Nat) : Prop where
  has : ∀ i : Nat, i < 32 → Maps.has D (.int .i64 (i : Int)) = decide (0 < (h i).2)
  key : ∀ kl, Maps.has D kl = true → ∃ i : Nat, i < 32 ∧ kl = .int .i64 (i : Int)
  at_ : ∀ i : Nat, i < 32 → 0 < (h i).2 → ∀ z, D.atKey (.int .i64 (i : Int)) z = dR (h i)

theorem key_ne {i j : Nat} (h : i ≠ j) : Lit.int .i64 (i : Int) ≠ Lit.int .i64 (j : Int) := by
  intro e
  injection e with _ e
  omega
theorem key_is (k : Nat) : WideAt.IsKeyLit (.int .i64 (k : Int)) := trivial
theorem PD.put {D : DataW Unit} {h : Nat → Nat × Nat} (P : PD D h) (hD : IsMap D) {k : Nat} (hk : k < 32) (x : Nat × Nat) (hx : 0 < x.2) : PD (D.put (.int .i64 (k : Int)) (dR x)) (fun i => if i = k then x else h i) := by
  refine ⟨fun i hi => ?_, fun kl hkl => ?_, fun i hi h0 z => ?_⟩
  · by_cases e : i = k
    · subst e
      rw [has_put_same hD (key_is i), if_pos rfl, decide_eq_true hx]
    · rw [has_put_other (key_ne e), if_neg e]
      exact P.has i hi
  · by_cases e : kl = .int .i64 (k : Int)
    · exact ⟨k, hk, e⟩
    · rw [has_put_other e] at hkl
      exact P.key kl hkl
  · by_cases e : i = k
    · subst e
      rw [atKey_put_same hD (key_is i), if_pos rfl]
    · rw [if_neg e] at h0
      rw [atKey_put_other (key_ne e), if_neg e]
      exact P.at_ i hi h0 z
theorem PD.del {D : DataW Unit} {h : Nat → Nat × Nat} (P : PD D h) {k : Nat} (hk : k < 32) : PD (D.del (.int .i64 (k : Int))) (fun i => if i = k then (0, 0) else h i) := by
  refine ⟨fun i hi => ?_, fun kl hkl => ?_, fun i hi h0 z => ?_⟩
  · by_cases e : i = k
    · subst e
      rw [has_del_same, if_pos rfl]
      rfl
    · rw [has_del_other (key_ne e), if_neg e]
      exact P.has i hi
  · by_cases e : kl = .int .i64 (k : Int)
    · exact ⟨k, hk, e⟩
    · rw [has_del_other e] at hkl
      exact P.key kl hkl
  · by_cases e : i = k
    · subst e
      rw [if_pos rfl] at h0
      exact absurd h0 (Nat.lt_irrefl 0)
    · rw [if_neg e] at h0
      rw [atKey_del_other (key_ne e), if_neg e]
      exact P.at_ i hi h0 z

/-! ### Of numbers below 32 there are at most 32 -/
theorem count_keys : ∀ (es : List (Lit × DataW Unit)), es.Pairwise (fun p q => p.1 ≠ q.1) → (∀ p ∈ es, ∃ i : Nat, i < 32 ∧ p.1 = .int .i64 (i : Int)) →
    es.length = sumN (fun i => if es.any (fun p => p.1.sameKey (.int .i64 (i : Int))) then 1 else 0) 32
  | [], _, _ => by
    rw [sumN_zero (fun i _ => by simp)]
    rfl
  | p :: es, hp, hk => by
    obtain ⟨h1, h2⟩ := List.pairwise_cons.1 hp
    obtain ⟨k, hk1, hk2⟩ := hk p (by simp)
    have ih := count_keys es h2 (fun q hq => hk q (by simp [hq]))
    have hno : es.any (fun q => q.1.sameKey (Lit.int .i64 (k : Int))) = false := by
      rw [List.any_eq_false]
      intro q hq hc
      have := h1 q hq
      rw [hk2] at this
      exact this ((WideAt.sameKey_iff (key_is k)).1 hc).symm
    have hkey : ∀ i : Nat, p.1.sameKey (Lit.int .i64 (i : Int)) = decide (i = k) := fun i => by
      rw [hk2]
      by_cases e : i = k
      · subst e
        rw [WideAt.sameKey_self (key_is i)]
        simp
      · rw [decide_eq_false e]
        exact sameKey_ne (key_ne (fun e2 => e e2.symm))
    have := sumN_at (xs := fun i => if (p :: es).any (fun p => p.1.sameKey (.int .i64 (i : Int))) then 1 else 0) (ys := fun i => if es.any (fun p => p.1.sameKey (.int .i64 (i : Int))) then 1 else 0) hk1
      (fun i _ hne => by simp only [List.any_cons, hkey, decide_eq_false hne, Bool.false_or])
    simp only [List.any_cons, hkey, hno, decide_true, Bool.true_or, if_true, Bool.false_eq_true, if_false] at this
    rw [List.length_cons, ih]
    simp only [List.any_cons, hkey]
    omega
theorem size_keys {D : DataW Unit} {h : Nat → Nat × Nat} (P : PD D h) (hD : ∃ es, D = .map es ∧ es.Pairwise (fun p q => p.1 ≠ q.1) ∧ ∀ p ∈ es, WideAt.IsKeyLit p.1) : Maps.size D ≤ 32 := by
  obtain ⟨es, rfl, hp, hq⟩ := hD
  have h1 := count_keys es hp (fun p hp => P.key p.1 (List.any_eq_true.2 ⟨p, hp, WideAt.sameKey_self (hq p hp)⟩))
  have h2 : ∀ n, sumN (fun i => if es.any (fun p => p.1.sameKey (.int .i64 (i : Int))) then 1 else 0) n ≤ n := by
    intro n
    induction n with
    | zero => exact Nat.le_refl _
    | succ n ih =>
      show _ + (if es.any (fun p => p.1.sameKey (.int .i64 (n : Int))) then 1 else 0) ≤ n + 1
      split <;> omega
  have := h2 32
  show es.length ≤ 32
  omega

/-- Block m is a map of just these reservations. -/
def PM (w : World) (m : Nat) (h : Nat → Nat × Nat) : Prop := ∃ D, w.ownsMap Try.prog 3 readR m 32 D ∧ PD D h

theorem ownsMap_size {w : World} {m n : Nat} {D : DataW Unit} (h : w.ownsMap Try.prog 3 readR m n D) (hs : Maps.size D ≤ 32) : w.ownsMap Try.prog 3 readR m 32 D := by
  obtain ⟨es, clock, hb, F, hn, hD⟩ := h
  refine ⟨es, clock, hb, F, ?_, hD⟩
  rw [hD] at hs
  simpa [Maps.size, length_sorted] using hs
theorem PM.of {w : World} {m n : Nat} {D : DataW Unit} {h : Nat → Nat × Nat} (o : w.ownsMap Try.prog 3 readR m n D) (P : PD D h) : PM w m h := ⟨D, ownsMap_size o (size_keys P (o.entries keyed9)), P⟩
theorem PM.new (w : World) (h : Nat → Nat × Nat) (h0 : ∀ i, i < 32 → (h i).2 = 0) : PM (w.alloc (.map #[] 0)) w.heap.size h :=
  PM.of (World.ownsMap_made w _ _ _) ⟨fun i hi => by rw [h0 i hi]; rfl, fun kl hk => (by cases hk), fun i hi hh => by rw [h0 i hi] at hh; exact absurd hh (Nat.lt_irrefl 0)⟩
theorem PM.lt {w : World} {m : Nat} {h : Nat → Nat × Nat} (k : PM w m h) : m < w.heap.size := by
  obtain ⟨D, o, _⟩ := k
  exact o.lt
theorem PM.heap {w w' : World} {m : Nat} {h : Nat → Nat × Nat} (k : PM w m h) (e : w'.heap[m]? = w.heap[m]?) : PM w' m h := by
  obtain ⟨D, ⟨es, clock, hb, r⟩, P⟩ := k
  exact ⟨D, ⟨es, clock, e.trans hb, r⟩, P⟩
theorem PM.fr {S : Nat → Prop} {w w' : World} {m : Nat} {h : Nat → Nat × Nat} (k : PM w m h) (f : Fr S w w') (hn : ¬ S m) : PM w' m h := k.heap (f.block m k.lt hn)
theorem PM.congr {w : World} {m : Nat} {h g : Nat → Nat × Nat} (k : PM w m h) (e : ∀ i, i < 32 → g i = h i) : PM w m g := by
  obtain ⟨D, o, P⟩ := k
  exact ⟨D, o, fun i hi => by rw [e i hi]; exact P.has i hi, P.key, fun i hi h0 => by rw [e i hi] at h0 ⊢; exact P.at_ i hi h0⟩
/-- The map is no row of cells. -/
theorem PM.ne {w : World} {m b o : Nat} {v : Value} {h : Nat → Nat × Nat} (k : PM w m h) (hc : w.cell? ⟨b, o, none⟩ = some v) : m ≠ b := by
  rintro rfl
  obtain ⟨D, ⟨es, clock, hb, r⟩, P⟩ := k
  simp [World.cell?, hb] at hc

/-- A look at a number. -/
theorem PM.look {w : World} {m : Nat} {h : Nat → Nat × Nat} (k : PM w m h) (i : Int) (hw : (Lit.int .i64 i).wf = true) (x : Nat × Nat) (y : Bool) (hy : y = decide (0 ≤ i ∧ i < 32 ∧ 0 < (h i.toNat).2)) (hx : x = if y then h i.toNat else (0, 0)) :
    (Instr.lookup 97 (.map (some m)) (.int .i64 i) true).run Try.prog w = .ok (.tuple #[vR x, .bool y]) w := by
  obtain ⟨D, o, P⟩ := k
  obtain ⟨v, ps, hr, hv⟩ := o.look_ok keyed9 Try.underlying97 (z := vR (0, 0)) (by kernel_rfl) (readR_mk (0, 0)) (keyOf_int_mk Try.underlying3 hw)
  have e : Maps.has D (.int .i64 i) = y := by
    rw [hy]
    by_cases hq : 0 ≤ i ∧ i < 32
    · obtain ⟨j, rfl⟩ : ∃ j : Nat, i = (j : Int) := ⟨i.toNat, by omega⟩
      rw [P.has j (by omega)]
      simp only [Int.toNat_natCast]
      by_cases h0 : 0 < (h j).2
      · rw [decide_eq_true h0, decide_eq_true ⟨hq.1, hq.2, h0⟩]
      · rw [decide_eq_false h0, decide_eq_false (fun e => h0 e.2.2)]
    · rw [decide_eq_false (fun e => hq ⟨e.1, e.2.1⟩)]
      cases hh : Maps.has D (.int .i64 i) with
      | false => rfl
      | true =>
        obtain ⟨j, hj, e⟩ := P.key _ hh
        injection e with _ e
        exact absurd ⟨by omega, by omega⟩ hq
  rw [e] at hr
  rw [hr]
  have e2 : v = vR x := by
    cases y with
    | true =>
      have hq := of_decide_eq_true hy.symm
      obtain ⟨j, rfl⟩ : ∃ j : Nat, i = (j : Int) := ⟨i.toNat, by omega⟩
      simp only [Int.toNat_natCast] at hq hx
      rw [P.at_ j (by omega) hq.2.2] at hv
      rw [readR_eq hv, hx]
      rfl
    | false =>
      rw [atKey_of_not_has e] at hv
      rw [readR_eq hv, hx]
      rfl
  rw [e2]

/-- A loop over the map is under way: 'left' tells which are still to come. -/
def PMR (w : World) (m r : Nat) (h : Nat → Nat × Nat) (left : Lit → Bool) (cnt : Nat) : Prop := ∃ D, w.ranges Try.prog 3 readR m r 32 D left cnt ∧ PD D h
theorem PMR.owns {w : World} {m r cnt : Nat} {h : Nat → Nat × Nat} {left : Lit → Bool} (k : PMR w m r h left cnt) : PM w m h := by
  obtain ⟨D, o, P⟩ := k
  exact ⟨D, o.owns, P⟩
theorem PMR.left_eq {w : World} {m r cnt : Nat} {h : Nat → Nat × Nat} {left : Lit → Bool} (k : PMR w m r h left cnt) : w.rangeLeft m r = cnt := by
  obtain ⟨D, o, P⟩ := k
  exact o.left_eq
theorem PMR.fr {S : Nat → Prop} {w w' : World} {m r cnt : Nat} {h : Nat → Nat × Nat} {left : Lit → Bool} (k : PMR w m r h left cnt) (f : Fr S w w') (h1 : ¬ S m) (h2 : ¬ S r) : PMR w' m r h left cnt := by
  obtain ⟨D, o, P⟩ := k
  have l1 := o.owns.lt
  have l2 := o.lt
  obtain ⟨es, clock, since, seen, c0, hb, F, hs, hD, hr, rest⟩ := o
  exact ⟨D, ⟨es, clock, since, seen, c0, (f.block m l1 h1).trans hb, F, hs, hD, (f.block r l2 h2).trans hr, rest⟩, P⟩

section
variable (w : World) {ops : Array Oper} {rest : List Oper} {o : Oper} {a : Act} {Q : Exit → Act → World → Prop}
theorem wpList_range_PM (hg : o.guard = none) (x : Operand) (hop : o.op = Op.range 97 x) (m : Nat) (h : Nat → Nat × Nat) (hm : a.eval x = .map (some m)) (k : PM w m h)
    (hK : ∀ w' left cnt, (∀ i : Nat, i < 32 → left (.int .i64 (i : Int)) = decide (0 < (h i).2)) → PMR w' m w.heap.size h left cnt → Fr No w w' → wpList Try.prog ops Q rest (a.put o.dst (.pointer (some ⟨w.heap.size, 0, none⟩))) w') :
    wpList Try.prog ops Q (o :: rest) a w := by
  obtain ⟨D, ow, P⟩ := k
  exact wpList_range_own w hg x 97 hop 3 128 keyed9 Try.underlying97 readR m 32 D hm ow (fun w' h1 h2 h3 => hK w' _ _ (fun i hi => P.has i hi) ⟨D, h1, P⟩ (Fr.of_grown h2 (fun k e => by cases e)))
theorem wpList_next_PM (hg : o.guard = none) (it : Operand) (hop : o.op = Op.next it false) (m r : Nat) (h : Nat → Nat × Nat) (left : Lit → Bool) (cnt : Nat) (hit : a.eval it = .pointer (some ⟨r, 0, none⟩)) (k : PMR w m r h left cnt)
    (hDone : (∀ kl, left kl = false) → wpList Try.prog ops Q rest (a.put o.dst (.tuple #[.bool false])) w)
    (hMore : ∀ (i : Nat) (w' : World) (left' : Lit → Bool) (cnt' : Nat), i < 32 → 0 < (h i).2 → left (.int .i64 (i : Int)) = true → left' (.int .i64 (i : Int)) = false → (∀ j : Nat, j ≠ i → left' (.int .i64 (j : Int)) = left (.int .i64 (j : Int))) →
      PMR w' m r h left' cnt' → cnt' < cnt → Fr (· = r) w w' → (Instr.entry (.pointer (some ⟨r, 0, none⟩))).run Try.prog w' = .ok (.tuple #[.int .i64 (i : Int), vR (h i)]) w' →
      wpList Try.prog ops Q rest (a.put o.dst (.tuple #[.bool true, .int .i64 (i : Int), vR (h i)])) w') :
    wpList Try.prog ops Q (o :: rest) a w := by
  obtain ⟨D, rg, P⟩ := k
  refine wpList_next_ranges (α := Int) (β := Int × Int) w hg it hop 3 keyed9 readR (Value.int .i64) (fun c => .agg #[.int .i64 c.1, .int .u64 c.2]) (fun key kl hk => ?_) (fun v y hy => ?_) m r 32 D left cnt hit rg (fun _ h0 => hDone h0) ?_
  · obtain ⟨x, rfl, _⟩ := Maps.keyOf_int_inv Try.underlying3 hk
    exact ⟨x, rfl⟩
  · obtain ⟨a, n, rfl, _⟩ := readR_inv (d := y.1) (ps := y.2) hy
    exact ⟨(a, n), rfl⟩
  · intro x c kl y w' cnt' hkey hl hv hat hrg hlt hgr hsz hen
    obtain ⟨x', ex, rfl, _⟩ := Maps.keyOf_int_inv Try.underlying3 hkey
    cases ex
    have hh := has_true_of_atKey hat
    obtain ⟨i, hi, e⟩ := P.key _ hh
    injection e with _ e
    subst e
    have hp : 0 < (h i).2 := by
      have := P.has i hi
      rw [hh] at this
      exact of_decide_eq_true this.symm
    have hy : y.1 = dR (h i) := (hat .nil).symm.trans (P.at_ i hi hp .nil)
    have hv2 : readR (.agg #[.int .i64 c.1, .int .u64 c.2]) = some (dR (h i), y.2) := by
      rw [← hy]
      exact hv
    have e3 := readR_eq hv2
    rw [e3] at hen ⊢
    refine hMore i w' _ cnt' hi hp hl ?_ ?_ ⟨D, hrg, P⟩ hlt (Fr.of_grown hgr (fun k e => by cases e; rfl)) hen
    · simp only [WideAt.sameKey_self (key_is i), Bool.not_true, Bool.and_false]
    · intro j hj
      simp only [sameKey_ne (key_ne hj), Bool.not_false, Bool.and_true]
end
end Go.Proofs.Ytldcglmpnildiaa
