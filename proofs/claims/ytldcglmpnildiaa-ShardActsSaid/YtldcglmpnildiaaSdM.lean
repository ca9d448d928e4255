/- A bank: the document's words, plain; what stays as it should. -/
import Derived.Test.YtldcglmpnildiaaPuM
namespace Go.Proofs.Ytldcglmpnildiaa
set_option linter.unusedVariables false
set_option maxRecDepth 100000

/-- A task: what it moves, or that it lists; how far it is; what it was told. -/
structure Tk where
  f : Nat
  t : Nat
  n : Nat
  lists : Bool
  acted : Bool
  over : Bool
  e : Int
  told : List Nat
def Tk.zero : Tk := ⟨0, 0, 0, false, false, false, 0, []⟩
def Tk.need (x : Tk) (k : Nat) : Bool := x.lists || k == x.f % 4 || k == x.t % 4
/-- A bank: its purse, its tasks, who holds each shard's lock (-1: nobody), who acted, in order. -/
structure Bs where
  p : Ps
  t : List Tk
  h : List Int
  done : List Nat
namespace Bs
def tk (s : Bs) (i : Nat) : Tk := s.t.getD i Tk.zero
def hold (s : Bs) (k : Nat) : Int := s.h.getD k (-1)
/-- The lowest shard that i needs, and does not hold; 4: there is none. -/
def lacks (s : Bs) (i k : Nat) : Bool := (s.tk i).need k && decide (s.hold k ≠ (i : Int))
def wants (s : Bs) (i : Nat) : Nat := if s.lacks i 0 then 0 else if s.lacks i 1 then 1 else if s.lacks i 2 then 2 else if s.lacks i 3 then 3 else 4
def goes (s : Bs) (i : Int) : Bool := decide (0 ≤ i ∧ i < s.t.length) && !(s.tk i.toNat).over
def stepE (s : Bs) (i : Int) : Int := if s.goes i = false then 3 else if s.wants i.toNat < 4 ∧ 0 ≤ s.hold (s.wants i.toNat) then 100 else 0
def lock1 (s : Bs) (i k : Nat) : Bs := ⟨s.p, s.t, s.h.set k (i : Int), s.done⟩
def free1 (s : Bs) (i : Nat) : Bs := ⟨s.p, s.t.set i { s.tk i with over := true }, s.h.map (fun x => if x = (i : Int) then -1 else x), s.done⟩
def act1 (s : Bs) (i : Nat) : Bs :=
  if (s.tk i).lists then ⟨s.p, s.t.set i { s.tk i with acted := true, told := s.p.b }, s.h, s.done ++ [i]⟩
  else ⟨s.p.movS ((s.tk i).f : Int) ((s.tk i).t : Int) (s.tk i).n, s.t.set i { s.tk i with acted := true, e := s.p.movE ((s.tk i).f : Int) ((s.tk i).t : Int) (s.tk i).n }, s.h, s.done ++ [i]⟩
def step1 (s : Bs) (i : Nat) : Bs := if s.wants i < 4 then s.lock1 i (s.wants i) else if (s.tk i).acted then s.free1 i else s.act1 i
def stepS (s : Bs) (i : Int) : Bs := if s.stepE i = 0 then s.step1 i.toNat else s
def startE (s : Bs) (a b : Int) : Int := if s.p.has a = false ∨ s.p.has b = false then 3 else if 32 ≤ s.t.length then 2 else 0
def add1 (s : Bs) (x : Tk) : Bs := ⟨s.p, s.t ++ [x], s.h, s.done⟩
def mover (a b n : Nat) : Tk := ⟨a, b, n, false, false, false, 0, []⟩
def lister : Tk := ⟨0, 0, 0, true, false, false, 0, []⟩
def startS (s : Bs) (a b : Int) (n : Nat) : Bs := if s.startE a b = 0 then s.add1 (mover a.toNat b.toNat n) else s
def startI (s : Bs) (a b : Int) : Nat := if s.startE a b = 0 then s.t.length else 0
def listE (s : Bs) : Int := if 32 ≤ s.t.length then 2 else 0
def listS (s : Bs) : Bs := if s.listE = 0 then s.add1 lister else s
def listI (s : Bs) : Nat := if s.listE = 0 then s.t.length else 0
def newB (l : List Nat) : Bs := ⟨Ps.newS l, [], [-1, -1, -1, -1], []⟩

/-! ### Who lacks what -/
theorem wants_le (s : Bs) (i : Nat) : s.wants i ≤ 4 := by unfold wants; split <;> (try split) <;> (try split) <;> (try split) <;> omega
theorem wants_lacks {s : Bs} {i : Nat} (h : s.wants i < 4) : s.lacks i (s.wants i) = true := by
  unfold wants at h ⊢
  by_cases h0 : s.lacks i 0 = true
  · rw [if_pos h0]; exact h0
  · by_cases h1 : s.lacks i 1 = true
    · rw [if_neg h0, if_pos h1]; exact h1
    · by_cases h2 : s.lacks i 2 = true
      · rw [if_neg h0, if_neg h1, if_pos h2]; exact h2
      · by_cases h3 : s.lacks i 3 = true
        · rw [if_neg h0, if_neg h1, if_neg h2, if_pos h3]; exact h3
        · rw [if_neg h0, if_neg h1, if_neg h2, if_neg h3] at h; omega
theorem wants_below {s : Bs} {i k : Nat} (h : k < s.wants i) : s.lacks i k = false := by
  have h4 := wants_le s i
  have hk : k = 0 ∨ k = 1 ∨ k = 2 ∨ k = 3 := by omega
  unfold wants at h
  by_cases h0 : s.lacks i 0 = true
  · rw [if_pos h0] at h; omega
  · rw [if_neg h0] at h
    by_cases h1 : s.lacks i 1 = true
    · rw [if_pos h1] at h
      obtain rfl : k = 0 := by omega
      simpa using h0
    · rw [if_neg h1] at h
      by_cases h2 : s.lacks i 2 = true
      · rw [if_pos h2] at h
        rcases hk with rfl | rfl | rfl | rfl
        · simpa using h0
        · simpa using h1
        · omega
        · omega
      · rw [if_neg h2] at h
        by_cases h3 : s.lacks i 3 = true
        · rw [if_pos h3] at h
          rcases hk with rfl | rfl | rfl | rfl
          · simpa using h0
          · simpa using h1
          · simpa using h2
          · omega
        · rcases hk with rfl | rfl | rfl | rfl
          · simpa using h0
          · simpa using h1
          · simpa using h2
          · simpa using h3
theorem lacks_iff {s : Bs} {i k : Nat} : s.lacks i k = true ↔ (s.tk i).need k = true ∧ s.hold k ≠ (i : Int) := by
  unfold lacks
  simp
theorem lacks_not {s : Bs} {i k : Nat} : s.lacks i k = false ↔ ((s.tk i).need k = true → s.hold k = (i : Int)) := by
  unfold lacks
  cases (s.tk i).need k <;> simp
theorem wants_four {s : Bs} {i : Nat} : s.wants i = 4 ↔ ∀ k, k < 4 → (s.tk i).need k = true → s.hold k = (i : Int) := by
  constructor
  · intro h k hk
    exact lacks_not.1 (wants_below (by omega))
  · intro h
    have h1 := wants_le s i
    by_cases h2 : s.wants i < 4
    · have h3 := lacks_iff.1 (wants_lacks h2)
      exact absurd (h _ h2 h3.1) h3.2
    · omega
theorem goes_nat {s : Bs} {i : Int} (h : s.goes i = true) : ∃ k : Nat, i = (k : Int) ∧ k < s.t.length ∧ (s.tk k).over = false := by
  unfold goes at h
  rw [Bool.and_eq_true, decide_eq_true_eq] at h
  exact ⟨i.toNat, by omega, by omega, by simpa using h.2⟩
theorem goes_of {s : Bs} {k : Nat} (h : k < s.t.length) (h2 : (s.tk k).over = false) : s.goes (k : Int) = true := by
  unfold goes
  rw [Int.toNat_natCast, h2]
  simp
  omega
theorem stepE_zero {s : Bs} {i : Int} : s.stepE i = 0 ↔ s.goes i = true ∧ (s.wants i.toNat < 4 → s.hold (s.wants i.toNat) < 0) := by
  unfold stepE
  cases h : s.goes i
  · simp
  · by_cases h2 : s.wants i.toNat < 4
    · by_cases h3 : 0 ≤ s.hold (s.wants i.toNat)
      · simp [h2, h3]
      · simp [h2, h3]; omega
    · simp [h2]

/-! ### What is always so -/
structure Inv (s : Bs) : Prop where
  wf : s.p.Wf
  len : s.t.length ≤ 32
  hl : s.h.length = 4
  lo : ∀ k, k < 4 → -1 ≤ s.hold k
  who : ∀ k, k < 4 → 0 ≤ s.hold k → (s.hold k).toNat < s.t.length ∧ (s.tk (s.hold k).toNat).need k = true ∧ (s.tk (s.hold k).toNat).over = false
  all : ∀ i, i < s.t.length → (s.tk i).acted = true → (s.tk i).over = false → ∀ k, k < 4 → (s.tk i).need k = true → s.hold k = (i : Int)
  oa : ∀ i, i < s.t.length → (s.tk i).over = true → (s.tk i).acted = true
  order : ∀ i k, i < s.t.length → k < 4 → s.hold k = (i : Int) → ∀ j, j < k → (s.tk i).need j = true → s.hold j = (i : Int)
  done : ∀ i, i ∈ s.done ↔ i < s.t.length ∧ (s.tk i).acted = true
  nodup : s.done.Nodup
  needs : ∀ i, i < s.t.length → ∃ k, k < 4 ∧ (s.tk i).need k = true

theorem tk_set {s : Bs} {i : Nat} (x : Tk) (p : Ps) (h : List Int) (d : List Nat) (hi : i < s.t.length) (j : Nat) : tk ⟨p, s.t.set i x, h, d⟩ j = if j = i then x else s.tk j := Ps.getD_set _ _ _ _ _ hi
theorem tk_add (s : Bs) (x : Tk) (j : Nat) : (s.add1 x).tk j = if j = s.t.length then x else s.tk j := by
  unfold tk add1
  simp only
  rw [List.getD_eq_getElem?_getD, List.getElem?_append, List.getD_eq_getElem?_getD]
  by_cases h : j < s.t.length
  · rw [if_pos h, if_neg (by omega)]
  · rw [if_neg h]
    by_cases h2 : j = s.t.length
    · rw [if_pos h2, h2]; simp
    · rw [if_neg h2, List.getElem?_eq_none (by simp; omega), List.getElem?_eq_none (by omega)]
theorem hold_set {s : Bs} {k : Nat} (v : Int) (p : Ps) (t : List Tk) (d : List Nat) (hk : k < s.h.length) (j : Nat) : hold ⟨p, t, s.h.set k v, d⟩ j = if j = k then v else s.hold j := Ps.getD_set _ _ _ _ _ hk
theorem hold_free {s : Bs} (i : Nat) (p : Ps) (t : List Tk) (d : List Nat) (k : Nat) : hold ⟨p, t, s.h.map (fun x => if x = (i : Int) then -1 else x), d⟩ k = if s.hold k = (i : Int) then -1 else s.hold k := by
  unfold hold
  simp only
  rw [List.getD_eq_getElem?_getD, List.getElem?_map, List.getD_eq_getElem?_getD]
  cases h : s.h[k]? with
  | none =>
    simp only [Option.map_none, Option.getD_none]
    split <;> rfl
  | some x => simp

theorem Inv.new {l : List Nat} (h : Ps.newOk l = true) : Inv (newB l) := by
  have hh : ∀ k, (newB l).hold k = -1 := fun k => by
    unfold hold newB
    match k with
    | 0 => rfl
    | 1 => rfl
    | 2 => rfl
    | 3 => rfl
    | k + 4 => rfl
  exact ⟨Ps.Wf.new h, by simp [newB], rfl, fun k _ => by rw [hh]; omega, fun k _ h => by rw [hh] at h; omega, fun i hi => by simp [newB] at hi, fun i hi => by simp [newB] at hi, fun i k hi => by simp [newB] at hi, fun i => by simp [newB], by simp [newB], fun i hi => by simp [newB] at hi⟩

theorem Inv.add {s : Bs} (V : Inv s) (x : Tk) (h32 : s.t.length < 32) (ha : x.acted = false) (ho : x.over = false) (hn : ∃ k, k < 4 ∧ x.need k = true) : Inv (s.add1 x) := by
  have e := tk_add s x
  have el : (s.add1 x).t.length = s.t.length + 1 := by simp [add1]
  have eh : ∀ k, (s.add1 x).hold k = s.hold k := fun _ => rfl
  have below : ∀ k, k < 4 → s.hold k ≠ (s.t.length : Int) := fun k hk h => by
    have := (V.who k hk (by omega)).1
    omega
  refine ⟨V.wf, by omega, V.hl, V.lo, fun k hk h0 => ?_, fun i hi h1 h2 k hk hn => ?_, fun i hi h => ?_, fun i k hi hk hh j hj hn => ?_, fun i => ?_, V.nodup, fun i hi => ?_⟩
  · rw [eh] at h0 ⊢
    obtain ⟨h1, h2, h3⟩ := V.who k hk h0
    rw [e, if_neg (by omega)]
    exact ⟨by omega, h2, h3⟩
  · rw [e] at h1 h2 hn
    rw [eh]
    by_cases hx : i = s.t.length
    · rw [if_pos hx, ha] at h1; cases h1
    · rw [if_neg hx] at h1 h2 hn
      exact V.all i (by omega) h1 h2 k hk hn
  · rw [e] at h ⊢
    by_cases hx : i = s.t.length
    · rw [if_pos hx, ho] at h; cases h
    · rw [if_neg hx] at h ⊢
      exact V.oa i (by omega) h
  · rw [eh] at hh ⊢
    by_cases hx : i = s.t.length
    · exact absurd (hx ▸ hh) (below k hk)
    · rw [e, if_neg hx] at hn
      exact V.order i k (by omega) hk hh j hj hn
  · show i ∈ s.done ↔ _
    rw [V.done, e, el]
    by_cases hx : i = s.t.length
    · rw [if_pos hx, ha]
      simp
      intro h
      omega
    · rw [if_neg hx]
      constructor
      · exact fun h => ⟨by omega, h.2⟩
      · exact fun h => ⟨by omega, h.2⟩
  · rw [e]
    by_cases hx : i = s.t.length
    · rw [if_pos hx]; exact hn
    · rw [if_neg hx]; exact V.needs i (by omega)

theorem Inv.lock {s : Bs} (V : Inv s) {i : Nat} (hi : i < s.t.length) (ho : (s.tk i).over = false) (hw : s.wants i < 4) (hf : s.hold (s.wants i) < 0) : Inv (s.lock1 i (s.wants i)) := by
  obtain ⟨k0, hk0⟩ : ∃ k, k = s.wants i := ⟨_, rfl⟩
  have hl := lacks_iff.1 (wants_lacks hw)
  have hb : ∀ j, j < k0 → (s.tk i).need j = true → s.hold j = (i : Int) := fun j hj => lacks_not.1 (wants_below (by omega))
  rw [← hk0] at hw hf hl ⊢
  have e : ∀ k, (s.lock1 i k0).hold k = if k = k0 then (i : Int) else s.hold k := fun k => hold_set _ _ _ _ (by rw [V.hl]; exact hw) k
  have et : ∀ j, (s.lock1 i k0).tk j = s.tk j := fun _ => rfl
  have el : (s.lock1 i k0).t = s.t := rfl
  have na : (s.tk i).acted = false := by
    cases ha : (s.tk i).acted
    · rfl
    · exact absurd (V.all i hi ha ho k0 hw hl.1) hl.2
  refine ⟨V.wf, V.len, by simp [lock1, V.hl], fun k hk => ?_, fun k hk h0 => ?_, fun j hj h1 h2 k hk hn => ?_, V.oa, fun j k hj hk hh r hr hn => ?_, V.done, V.nodup, V.needs⟩
  · rw [e]; split
    · omega
    · exact V.lo k hk
  · rw [e] at h0 ⊢
    by_cases hx : k = k0
    · rw [if_pos hx, Int.toNat_natCast]
      subst hx
      exact ⟨hi, hl.1, ho⟩
    · rw [if_neg hx] at h0 ⊢
      exact V.who k hk h0
  · rw [et] at h1 h2 hn
    have h3 := V.all j hj h1 h2 k hk hn
    rw [e]
    by_cases hx : k = k0
    · rw [hx] at h3; omega
    · rw [if_neg hx]; exact h3
  · rw [et] at hn
    rw [e] at hh ⊢
    by_cases hx : k = k0
    · rw [if_pos hx] at hh
      have hji : j = i := by omega
      subst hji
      rw [if_neg (by omega)]
      exact hb r (by omega) hn
    · rw [if_neg hx] at hh
      have h3 := V.order j k hj hk hh r hr hn
      by_cases hy : r = k0
      · rw [hy] at h3; omega
      · rw [if_neg hy]; exact h3

theorem Inv.free {s : Bs} (V : Inv s) {i : Nat} (hi : i < s.t.length) (ha : (s.tk i).acted = true) : Inv (s.free1 i) := by
  have e : ∀ k, (s.free1 i).hold k = if s.hold k = (i : Int) then -1 else s.hold k := hold_free i _ _ _
  have et : ∀ j, (s.free1 i).tk j = if j = i then { s.tk i with over := true } else s.tk j := tk_set _ _ _ _ hi
  have el : (s.free1 i).t.length = s.t.length := by simp [free1]
  have en : ∀ j k, ((s.free1 i).tk j).need k = (s.tk j).need k := fun j k => by
    rw [et]
    split
    · rename_i h; subst h; rfl
    · rfl
  have ea : ∀ j, ((s.free1 i).tk j).acted = (s.tk j).acted := fun j => by
    rw [et]
    split
    · rename_i h; subst h; rfl
    · rfl
  refine ⟨V.wf, by rw [el]; exact V.len, by simp [free1, V.hl], fun k hk => ?_, fun k hk h0 => ?_, fun j hj h1 h2 k hk hn => ?_, fun j hj h => ?_, fun j k hj hk hh r hr hn => ?_, fun j => ?_, V.nodup, fun j hj => ?_⟩
  · rw [e]; split
    · omega
    · exact V.lo k hk
  · rw [e] at h0 ⊢
    by_cases hx : s.hold k = (i : Int)
    · rw [if_pos hx] at h0; omega
    · rw [if_neg hx] at h0 ⊢
      obtain ⟨h1, h2, h3⟩ := V.who k hk h0
      refine ⟨by rw [el]; exact h1, by rw [en]; exact h2, ?_⟩
      rw [et, if_neg (by omega)]
      exact h3
  · rw [en] at hn
    rw [ea] at h1
    have hji : j ≠ i := fun h => by rw [et, if_pos h] at h2; cases h2
    rw [et, if_neg hji] at h2
    have h3 := V.all j (by omega) h1 h2 k hk hn
    rw [e, if_neg (by omega)]
    exact h3
  · rw [ea]
    by_cases hx : j = i
    · rw [hx]; exact ha
    · rw [et, if_neg hx] at h
      exact V.oa j (by omega) h
  · rw [en] at hn
    rw [e] at hh ⊢
    by_cases hx : s.hold k = (i : Int)
    · rw [if_pos hx] at hh; omega
    · rw [if_neg hx] at hh
      have h3 := V.order j k (by omega) hk hh r hr hn
      rw [if_neg (by omega)]
      exact h3
  · show j ∈ s.done ↔ _
    rw [V.done, ea, el]
  · obtain ⟨k, hk, hn⟩ := V.needs j (by omega)
    exact ⟨k, hk, by rw [en]; exact hn⟩

theorem act_t (s : Bs) (i : Nat) : ∃ x, (s.act1 i).t = s.t.set i x ∧ x.f = (s.tk i).f ∧ x.t = (s.tk i).t ∧ x.n = (s.tk i).n ∧ x.lists = (s.tk i).lists ∧ x.acted = true ∧ x.over = (s.tk i).over ∧ (s.act1 i).h = s.h ∧ (s.act1 i).done = s.done ++ [i] := by
  unfold act1
  split
  · exact ⟨_, rfl, rfl, rfl, rfl, rfl, rfl, rfl, rfl, rfl⟩
  · exact ⟨_, rfl, rfl, rfl, rfl, rfl, rfl, rfl, rfl, rfl⟩
theorem Inv.act {s : Bs} (V : Inv s) {i : Nat} (hi : i < s.t.length) (ho : (s.tk i).over = false) (ha : (s.tk i).acted = false) (hw : s.wants i = 4) : Inv (s.act1 i) := by
  obtain ⟨x, hx, x1, x2, x3, x4, x5, x6, x7, x8⟩ := act_t s i
  have et : ∀ j, (s.act1 i).tk j = if j = i then x else s.tk j := fun j => by
    unfold tk
    rw [hx]
    exact Ps.getD_set _ _ _ _ _ hi
  have el : (s.act1 i).t.length = s.t.length := by rw [hx, List.length_set]
  have eh : ∀ k, (s.act1 i).hold k = s.hold k := fun k => by unfold hold; rw [x7]
  have en : ∀ j k, ((s.act1 i).tk j).need k = (s.tk j).need k := fun j k => by
    rw [et]
    split
    · rename_i h; subst h; unfold Tk.need; rw [x1, x2, x4]
    · rfl
  have eo : ∀ j, ((s.act1 i).tk j).over = (s.tk j).over := fun j => by
    rw [et]
    split
    · rename_i h; subst h; exact x6
    · rfl
  refine ⟨?_, by rw [el]; exact V.len, by rw [x7]; exact V.hl, fun k hk => by rw [eh]; exact V.lo k hk, fun k hk h0 => ?_, fun j hj h1 h2 k hk hn => ?_, fun j hj h => ?_, fun j k hj hk hh r hr hn => ?_, fun j => ?_, ?_, fun j hj => ?_⟩
  · unfold act1
    split
    · exact V.wf
    · exact (Ps.Wf.movS V.wf _ _ _).1
  · rw [eh] at h0 ⊢
    rw [el, en, eo]
    exact V.who k hk h0
  · rw [eo] at h2
    rw [en] at hn
    rw [eh]
    by_cases hji : j = i
    · subst hji
      exact wants_four.1 hw k hk hn
    · rw [et, if_neg hji] at h1
      exact V.all j (by omega) h1 h2 k hk hn
  · rw [eo] at h
    rw [et]
    split
    · exact x5
    · exact V.oa j (by omega) h
  · rw [en] at hn
    rw [eh] at hh ⊢
    exact V.order j k (by omega) hk hh r hr hn
  · rw [x8, List.mem_append, V.done, et, el]
    by_cases hji : j = i
    · subst hji
      simp [x5, hi]
    · rw [if_neg hji]
      simp [hji]
  · rw [x8, List.nodup_append]
    refine ⟨V.nodup, by simp, fun a h b hb => ?_⟩
    obtain rfl : b = i := by simpa using hb
    rintro rfl
    rw [((V.done a).1 h).2] at ha
    cases ha
  · obtain ⟨k, hk, hn⟩ := V.needs j (by omega)
    exact ⟨k, hk, by rw [en]; exact hn⟩

theorem Inv.step {s : Bs} (V : Inv s) (i : Int) : Inv (s.stepS i) := by
  unfold stepS
  split
  · rename_i h
    obtain ⟨h1, h2⟩ := stepE_zero.1 h
    obtain ⟨k, rfl, hk, ho⟩ := goes_nat h1
    rw [Int.toNat_natCast] at h2 ⊢
    unfold step1
    by_cases hw : s.wants k < 4
    · rw [if_pos hw]
      exact V.lock hk ho hw (h2 hw)
    · rw [if_neg hw]
      have h4 := wants_le s k
      cases ha : (s.tk k).acted
      · exact V.act hk ho ha (by omega)
      · exact V.free hk ha
  · exact V
theorem need_f (x : Tk) : x.need (x.f % 4) = true := by unfold Tk.need; simp
theorem startE_zero {s : Bs} {a b : Int} : s.startE a b = 0 ↔ s.p.has a = true ∧ s.p.has b = true ∧ s.t.length < 32 := by
  unfold startE
  cases s.p.has a <;> cases s.p.has b <;> simp
theorem Inv.start {s : Bs} (V : Inv s) (a b : Int) (n : Nat) : Inv (s.startS a b n) := by
  unfold startS
  split
  · rename_i h
    obtain ⟨h1, h2, h3⟩ := startE_zero.1 h
    exact V.add _ h3 rfl rfl ⟨_, Nat.mod_lt _ (by omega), need_f _⟩
  · exact V
theorem Inv.list {s : Bs} (V : Inv s) : Inv s.listS := by
  unfold listS listE
  by_cases h : 32 ≤ s.t.length
  · rw [if_pos h]
    exact V
  · rw [if_neg h]
    exact V.add _ (by omega) rfl rfl ⟨0, by omega, rfl⟩
end Bs
end Go.Proofs.Ytldcglmpnildiaa
