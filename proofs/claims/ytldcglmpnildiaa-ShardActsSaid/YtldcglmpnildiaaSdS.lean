/- What a law keeps of a bank's tasks: a slice of its own. -/
import Derived.Test.YtldcglmpnildiaaSdQ
import Derived.Test.YtldcglmpnildiaaOpnB
import Derived.Test.YtldcglmpnildiaaBlk
import Derived.Deep.Slices
import Derived.OwnWalk
import Derived.Test.YtldcglmpnildiaaProg
import Derived.KernelRfl
namespace Go.Proofs.Ytldcglmpnildiaa
open Go.RowKit
set_option linter.unusedVariables false
set_option maxRecDepth 100000

/-- What of a task never turns. -/
structure St where
  f : Nat
  t : Nat
  n : Nat
  lists : Bool
def Tk.st (x : Tk) : St := ⟨x.f, x.t, x.n, x.lists⟩
namespace Bs
def sts (s : Bs) : List St := s.t.map Tk.st
theorem sts_len (s : Bs) : s.sts.length = s.t.length := by simp [sts]
theorem sts_at {s : Bs} {i : Nat} (h : i < s.t.length) : s.sts[i]? = some (s.tk i).st := by
  unfold sts tk
  rw [List.getElem?_map, List.getElem?_eq_getElem h, List.getD_eq_getElem?_getD, List.getElem?_eq_getElem h]
  rfl
theorem sts_set {s : Bs} {i : Nat} (x : Tk) (p : Ps) (h : List Int) (d : List Nat) (hi : i < s.t.length) (hx : x.st = (s.tk i).st) : sts ⟨p, s.t.set i x, h, d⟩ = s.sts := by
  unfold sts
  simp only
  apply List.ext_getElem?
  intro j
  rw [List.getElem?_map, List.getElem?_map, List.getElem?_set]
  by_cases e : i = j
  · subst e
    rw [if_pos rfl, if_pos hi, List.getElem?_eq_getElem hi]
    simp only [Option.map_some, Option.some.injEq]
    rw [hx]
    unfold tk
    rw [List.getD_eq_getElem?_getD, List.getElem?_eq_getElem hi]
    rfl
  · rw [if_neg e]
theorem sts_step {s : Bs} (i : Int) : (s.stepS i).sts = s.sts := by
  unfold stepS
  split
  · rename_i h
    obtain ⟨h1, _⟩ := stepE_zero.1 h
    obtain ⟨k, rfl, hk, _⟩ := goes_nat h1
    rw [Int.toNat_natCast]
    unfold step1
    split
    · rfl
    · split
      · exact sts_set _ _ _ _ hk rfl
      · unfold act1
        split
        · exact sts_set _ _ _ _ hk rfl
        · exact sts_set _ _ _ _ hk rfl
  · rfl
theorem sts_start {s : Bs} (a b : Int) (n : Nat) : (s.startS a b n).sts = if s.startE a b = 0 then s.sts ++ [⟨a.toNat, b.toNat, n, false⟩] else s.sts := by
  unfold startS
  split
  · unfold sts add1 mover
    simp
    rfl
  · rfl
theorem sts_list {s : Bs} : s.listS.sts = if s.listE = 0 then s.sts ++ [⟨0, 0, 0, true⟩] else s.sts := by
  unfold listS
  split
  · unfold sts add1 lister
    simp
    rfl
  · rfl
end Bs

/-- A task, as a law keeps it: Kind, A, B, N; a list has A = -1. -/
def St.cells (x : St) : List Value := if x.lists then [.int .i64 0, .int .i64 (-1), .int .i64 0, .int .u64 0] else [.int .i64 0, .int .i64 (x.f : Int), .int .i64 (x.t : Int), .int .u64 (x.n : Int)]
theorem St.len (x : St) : x.cells.length = 4 := by unfold St.cells; split <;> rfl
theorem St.one (x : St) : ∀ u ∈ x.cells, u.oneCell' = true := by
  unfold St.cells
  intro u hu
  split at hu <;> simp at hu <;> rcases hu with rfl | rfl | rfl | rfl <;> rfl
def cellsS : List St → List Value
  | [] => []
  | x :: r => x.cells ++ cellsS r
theorem cellsS_len : ∀ l, (cellsS l).length = l.length * 4
  | [] => rfl
  | x :: r => by
    simp only [cellsS, List.length_append, List.length_cons, St.len, cellsS_len r]
    omega
theorem cellsS_app : ∀ (l : List St) (x : St), cellsS (l ++ [x]) = cellsS l ++ x.cells
  | [], x => by simp [cellsS]
  | y :: r, x => by simp [cellsS, cellsS_app r x]
theorem cellsS_at : ∀ (l : List St) (i j : Nat) (x : St), l[i]? = some x → j < 4 → (cellsS l)[i * 4 + j]? = x.cells[j]?
  | [], i, j, x, h, _ => by simp at h
  | y :: r, 0, j, x, h, hj => by
    obtain rfl : y = x := by simpa using h
    simp only [cellsS, Nat.zero_mul, Nat.zero_add]
    rw [List.getElem?_append, if_pos (by rw [St.len]; omega)]
  | y :: r, i + 1, j, x, h, hj => by
    simp only [cellsS]
    rw [List.getElem?_append, if_neg (by rw [St.len]; omega), St.len, show (i + 1) * 4 + j - 4 = i * 4 + j by omega]
    exact cellsS_at r i j x (by simpa using h) hj
theorem slice_form10 {w : World} {B : Nat} {e : TypeId} {z : Nat} {v : Value} {n : Nat} {xs : List Value} (h : w.ownsRow B e z v n xs) : ∃ a n' c, v = .slice a n' c := by
  rcases h.2 with ⟨rfl, _⟩ | ⟨g, cap, cur, rfl, _⟩
  · exact ⟨_, _, _, rfl⟩
  · exact ⟨_, _, _, rfl⟩
/-- The law's slice of tasks, from B on. -/
def Tks (B : Nat) (v : Value) (l : List St) (w : World) : Prop := w.ownsRow B 41 4 v l.length (cellsS l)
theorem Tks.slice {B : Nat} {v : Value} {l : List St} {w : World} (h : Tks B v l w) : ∃ a c, v = .slice a l.length c ∧ (∀ k, v.ownBlock = some k → B ≤ k ∧ k < w.heap.size) ∧ ∀ i x, l[i]? = some x → ∃ g, a = some ⟨g, 0, none⟩ ∧ v.ownBlock = some g ∧ ∀ j u, j < 4 → x.cells[j]? = some u → w.cell? ⟨g, i * 4 + j, none⟩ = some u := by
  have hlt := h.lt
  rcases h.2 with ⟨hv, h0⟩ | ⟨g, cap, cur, hv, hB, hg, hc, _, _, ht⟩
  · refine ⟨none, 0, by rw [hv, h0], hlt, fun i x hx => ?_⟩
    have : i < l.length := (List.getElem?_eq_some_iff.1 hx).1
    omega
  · refine ⟨some ⟨g, 0, none⟩, cap, hv, hlt, fun i x hx => ⟨g, rfl, by rw [hv]; rfl, fun j u hj hu => ?_⟩⟩
    have := h.cells (by rw [hv]; rfl) (i * 4 + j) u (by rw [cellsS_at l i j x hx hj]; exact hu)
    rw [Addr.add_lit, Nat.zero_add] at this
    exact this
theorem Tks.fr {S : Nat → Prop} {B : Nat} {v : Value} {l : List St} {w w' : World} (h : Tks B v l w) (f : Fr S w w') (hn : ∀ k, v.ownBlock = some k → ¬ S k) : Tks B v l w' := by
  refine ⟨h.1, ?_⟩
  rcases h.2 with h0 | ⟨g, cap, cur, rfl, hB, hg, r⟩
  · exact .inl h0
  · exact .inr ⟨g, cap, cur, rfl, hB, (f.block g (Array.getElem?_eq_some_iff.1 hg).1 (hn g rfl)).trans hg, r⟩
theorem Tks.no {B : Nat} {v : Value} {l : List St} {w w' : World} (h : Tks B v l w) (f : Fr No w w') : Tks B v l w' := h.fr f (fun _ _ => id)
theorem Try.infoAct10 : (Try.prog.info? 41).map (fun i => (i.zero, i.size, i.bytes)) = some (some (.agg #[.int .i64 0, .int .i64 0, .int .i64 0, .int .u64 0]), 4, 32) := by kernel_rfl
end Go.Proofs.Ytldcglmpnildiaa
