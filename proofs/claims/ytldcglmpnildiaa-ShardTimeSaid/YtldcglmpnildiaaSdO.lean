/- A law's own slices of numbers. -/
import Derived.Test.YtldcglmpnildiaaSdL
import Derived.Maps.AppendAt
namespace Go.Proofs.Ytldcglmpnildiaa
open Go.RowKit
set_option linter.unusedVariables false
set_option maxRecDepth 100000

theorem Try.infoErr10 : (Try.prog.info? 42).map (fun i => (i.zero, i.size, i.bytes)) = some (some (.int .i64 0), 1, 8) := by kernel_rfl
def cellsI (xs : List Int) : List Value := xs.map fun x => .int .i64 x
/-- A slice of numbers of the law's own, from B on. -/
def OwI (e : TypeId) (B : Nat) (v : Value) (xs : List Int) (w : World) : Prop := w.ownsRow B e 1 v xs.length (cellsI xs)
section
variable {e : TypeId} {B : Nat} {v : Value} {xs : List Int} {w w' : World}
theorem OwI.new (e : TypeId) (B : Nat) (w : World) (hB : B ≤ w.heap.size) : OwI e B (.slice (some ⟨w.heap.size, 0, none⟩) 0 0) [] (w.alloc (.cells #[] e)) := World.ownsRow_made w #[] 0 hB (Nat.zero_le _) rfl
theorem OwI.fr {S : Nat → Prop} (h : OwI e B v xs w) (f : Fr S w w') (hn : ∀ k, v.ownBlock = some k → ¬ S k) : OwI e B v xs w' := by
  refine ⟨h.1, ?_⟩
  rcases h.2 with h0 | ⟨g, cap, cur, rfl, hB, hg, r⟩
  · exact .inl h0
  · exact .inr ⟨g, cap, cur, rfl, hB, (f.block g (Array.getElem?_eq_some_iff.1 hg).1 (hn g rfl)).trans hg, r⟩
theorem OwI.no (h : OwI e B v xs w) (f : Fr No w w') : OwI e B v xs w' := h.fr f (fun _ _ => id)
theorem OwI.slice (h : OwI e B v xs w) : ∃ a c, v = .slice a xs.length c ∧ ∀ i x, xs[i]? = some x → ∃ g, a = some ⟨g, 0, none⟩ ∧ v.ownBlock = some g ∧ w.cell? ⟨g, i, none⟩ = some (.int .i64 x) := by
  rcases h.2 with ⟨hv, h0⟩ | ⟨g, cap, cur, hv, hB, hg, hc, _, _, ht⟩
  · refine ⟨none, 0, by rw [hv, h0], fun i x hx => ?_⟩
    have : i < xs.length := (List.getElem?_eq_some_iff.1 hx).1
    omega
  · refine ⟨some ⟨g, 0, none⟩, cap, hv, fun i x hx => ⟨g, rfl, by rw [hv]; rfl, ?_⟩⟩
    have := h.cells (by rw [hv]; rfl) i (.int .i64 x) (by unfold cellsI; rw [List.getElem?_map, hx]; rfl)
    rw [Addr.add_lit, Nat.zero_add] at this
    exact this
theorem OwI.snoc {n : Nat} {x : Int} (h : w.ownsRow B e 1 v n (cellsI xs ++ [.int .i64 x])) (hn : n = xs.length + 1) : OwI e B v (xs ++ [x]) w := by
  subst hn
  unfold OwI cellsI
  rw [List.length_append, List.map_append]
  exact h
/-- Slices of other elements lie apart. -/
theorem OwI.ne {e2 : TypeId} {B2 : Nat} {v2 : Value} {ys : List Int} (h : OwI e B v xs w) (k : OwI e2 B2 v2 ys w) (hne : e ≠ e2) {g : Nat} (h1 : v.ownBlock = some g) (h2 : v2.ownBlock = some g) : False := by
  rcases h.2 with ⟨rfl, _⟩ | ⟨g1, cap, cur, rfl, _, hg, _⟩
  · simp [Value.ownBlock] at h1
  · rcases k.2 with ⟨rfl, _⟩ | ⟨g2, cap2, cur2, rfl, _, hg2, _⟩
    · simp [Value.ownBlock] at h2
    · simp only [Value.ownBlock, Option.some.injEq] at h1 h2
      subst h1
      subst h2
      rw [hg] at hg2
      simp only [Option.some.injEq, Obj.cells.injEq] at hg2
      exact hne hg2.2.1
end
/-- Does i hold one of the first k locks? -/
def Bs.anyH (s : Bs) (i : Nat) : Nat → Bool
  | 0 => false
  | k + 1 => s.anyH i k || decide (s.hold k = (i : Int))
theorem Bs.anyH_not {s : Bs} {i : Nat} : ∀ {n : Nat}, s.anyH i n = false ↔ ∀ k, k < n → s.hold k ≠ (i : Int)
  | 0 => ⟨fun _ k hk => by omega, fun _ => rfl⟩
  | n + 1 => by
    show (s.anyH i n || decide (s.hold n = (i : Int))) = false ↔ _
    rw [Bool.or_eq_false_iff, Bs.anyH_not (n := n), decide_eq_false_iff_not]
    constructor
    · rintro ⟨h1, h2⟩ k hk
      by_cases e : k = n
      · rw [e]; exact h2
      · exact h1 k (by omega)
    · exact fun h => ⟨fun k hk => h k (by omega), h n (by omega)⟩
/-- Those that are over, with their results. -/
def OvOk (s : Bs) (ov : List Int) (re : List Int) : Prop := ov.length = re.length ∧ ∀ (j : Nat) (x r : Int), ov[j]? = some x → re[j]? = some r → ∃ i : Nat, x = (i : Int) ∧ i < s.t.length ∧ (s.tk i).over = true ∧ (s.tk i).e = r
theorem OvOk.step {s : Bs} {ov re : List Int} (V : s.Inv) (h : OvOk s ov re) (a : Int) : OvOk (s.stepS a) ov re := ⟨h.1, fun j x r hx hr => by
  obtain ⟨i, e, hi, ho, he⟩ := h.2 j x r hx hr
  have h2 := Bs.over_stays V hi ho a
  exact ⟨i, e, by rw [← Bs.sts_len, Bs.sts_step, Bs.sts_len]; exact hi, by rw [h2]; exact ho, by rw [h2]; exact he⟩⟩
theorem OvOk.snoc {s : Bs} {ov re : List Int} (h : OvOk s ov re) {i : Nat} (hi : i < s.t.length) (ho : (s.tk i).over = true) : OvOk s (ov ++ [(i : Int)]) (re ++ [(s.tk i).e]) := ⟨by simp [h.1], fun j x r hx hr => by
  rw [List.getElem?_append] at hx hr
  by_cases hj : j < ov.length
  · rw [if_pos hj] at hx
    rw [if_pos (by rw [← h.1]; exact hj)] at hr
    exact h.2 j x r hx hr
  · rw [if_neg hj] at hx
    rw [if_neg (by rw [← h.1]; exact hj), ← h.1] at hr
    have hj0 : j - ov.length = 0 := by
      have := (List.getElem?_eq_some_iff.1 hx).1
      simpa using this
    rw [hj0] at hx hr
    simp only [List.getElem?_cons_zero, Option.some.injEq] at hx hr
    exact ⟨i, hx.symm, hi, ho, hr⟩⟩
end Go.Proofs.Ytldcglmpnildiaa
