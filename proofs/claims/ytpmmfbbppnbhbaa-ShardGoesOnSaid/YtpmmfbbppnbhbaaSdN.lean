/- slices.Contains of ints; what a task that begins is. -/
import Derived.Test.YtpmmfbbppnbhbaaSdK
namespace Go.Proofs.Ytpmmfbbppnbhbaa
open Go.RowKit
set_option linter.unusedVariables false
set_option maxRecDepth 100000

set_option maxHeartbeats 2000000 in
theorem indexI_any {g n c : Nat} {xs : List Int} {w : World} (k : Int) (hn : n = xs.length) (hs : n ≤ 1000) (hc : ∀ j, j < n → w.cell? ⟨g, j, none⟩ = some (.int .i64 (xs.getD j 0))) :
    Calls Try.prog 52 #[.slice (some ⟨g, 0, none⟩) n c, .int .i64 k] w fun e w' => ∃ r : Int, e = .returned (.int .i64 r) ∧ (0 ≤ r ↔ k ∈ xs) ∧ w = w' := by
  have HC := Lib.hid hc
  have HN := Lib.hid hn
  have HS := Lib.hid hs
  have HYES : Hid (∀ i, i < n → xs.getD i 0 = k → k ∈ xs) := Lib.hid (fun i hi e => by
    rw [hn] at hi
    rw [List.getD_eq_getElem?_getD, List.getElem?_eq_getElem hi] at e
    rw [← e]
    exact List.getElem_mem hi)
  have HNO : Hid ((∀ j, j < n → xs.getD j 0 ≠ k) → k ∉ xs) := Lib.hid (fun h e => by
    obtain ⟨j, hj, e2⟩ := List.getElem_of_mem e
    apply h j (by omega)
    rw [List.getD_eq_getElem?_getD, List.getElem?_eq_getElem hj]
    exact e2)
  clear hc hn hs
  go_enter Try.func52, Try.ntmps52
  go_wp2_with fail
  go_loopw [5, 8] (fun _ c wr => ∃ i : Nat, i ≤ n ∧ c = .int .i64 i ∧ wr = w ∧ Hid (∀ j, j < i → xs.getD j 0 ≠ k)) (fun _ c _ => n - (intOf c).toNat)
  case atStart => exact ⟨0, by omega, rfl, rfl, Lib.hid (fun j hj => by omega)⟩
  case round =>
    obtain ⟨i, hi, rfl, rfl, HA⟩ := hrel
    by_cases hlt : i < n
    · have t1 : i < n := hlt
      have ci := HC.out i hlt
      obtain ⟨x, hx⟩ : ∃ x, x = xs.getD i 0 := ⟨_, rfl⟩
      rw [← hx] at ci
      obtain ⟨k1, hk1⟩ : ∃ k, k = i + 1 := ⟨_, rfl⟩
      have HK1 : Hid (k1 = i + 1 ∧ k1 ≤ n) := Lib.hid ⟨hk1, by omega⟩
      have s1 : (i : Int) + 1 = (k1 : Int) := by omega
      have l1 : IntKind.i64.wrap (k1 : Int) = (k1 : Int) := IntWalk.i64_in _ (by have := HS.out; omega)
      by_cases he : k = x
      · have t2 : (k == x) = true := by rw [beq_iff_eq]; exact he
        have HY : Hid (k ∈ xs) := Lib.hid (HYES.out i hlt (by rw [← hx, he]))
        clear hlt hi hk1 hx he
        go_wp2
        go_ret
        exact ⟨(i : Int), rfl, ⟨fun _ => HY.out, fun _ => by omega⟩, rfl⟩
      · have t2 : (k == x) = false := by rw [beq_eq_false_iff_ne]; exact he
        have HA2 : Hid (∀ j, j < k1 → xs.getD j 0 ≠ k) := Lib.hid (fun j hj => by
          by_cases e : j = i
          · rw [e, ← hx]; exact fun e => he e.symm
          · exact HA.out j (by omega))
        clear hlt hi hk1 hx he
        go_wp2
        exact ⟨⟨k1, HK1.out.2, rfl, trivial, HA2⟩, by have := HK1.out; simp [intOf]; omega⟩
    · have t1 : ¬ i < n := hlt
      obtain rfl : i = n := by omega
      have HNOT := Lib.hid (HNO.out HA.out)
      clear hlt hi
      go_wp2
      go_ret
      exact ⟨-1, rfl, ⟨fun h => by omega, fun h => absurd h HNOT.out⟩, rfl⟩

set_option maxHeartbeats 2000000 in
theorem containsI_any {g n c : Nat} {xs : List Int} {w : World} (k : Int) (y : Bool) (hy : y = true ↔ k ∈ xs) (hn : n = xs.length) (hs : n ≤ 1000) (hc : ∀ j, j < n → w.cell? ⟨g, j, none⟩ = some (.int .i64 (xs.getD j 0))) :
    Calls Try.prog 46 #[.slice (some ⟨g, 0, none⟩) n c, .int .i64 k] w fun e w' => e = .returned (.bool y) ∧ w = w' := by
  have HC := Lib.hid (indexI_any (c := c) k hn hs hc)
  have HY := Lib.hid hy
  clear hy hn hs hc
  go_enter Try.func46, Try.ntmps46
  go_wp2_with fail
  refine HC.out.mono ?_
  rintro e w1 ⟨r, rfl, hr, rfl⟩
  have t1 : decide (0 ≤ r) = y := by
    have h1 := HY.out
    cases y
    · rw [decide_eq_false_iff_not, hr]
      intro e
      have := h1.2 e
      cases this
    · rw [decide_eq_true_eq, hr]
      exact h1.1 rfl
  clear hr
  go_wp2
  go_ret
  exact ⟨rfl, rfl⟩

namespace Bs
/-- The locks of the first k that f tells. -/
def locksTo (f : Nat → Bool) : Nat → List Sp
  | 0 => []
  | k + 1 => locksTo f k ++ (if f k then [.lock k] else [])
theorem locksTo_four (f : Nat → Bool) : locksTo f 4 = locksF f := by
  unfold locksF
  simp only [locksTo, List.nil_append, List.append_assoc]
theorem locksTo_len (f : Nat → Bool) : ∀ k, (locksTo f k).length ≤ k
  | 0 => Nat.le_refl _
  | k + 1 => by
    have := locksTo_len f k
    simp only [locksTo, List.length_append]
    split
    · simp; omega
    · simp; omega
end Bs
theorem cellsQ_snoc (q q' : Nat → Nat) (n : Nat) (h : ∀ i, i < n → q' i = q i) : cellsQ q' (n + 1) = cellsQ q n ++ [at_ (q' n) 0] := by
  unfold cellsQ
  rw [List.range_succ, List.map_append]
  congr 1
  apply List.map_congr_left
  intro i hi
  rw [h i (List.mem_range.1 hi)]

section
variable {O I : Nat → Prop} {w w3 w' : World} {p : Nat} {s : Bs} {B T r : Nat} {q : Nat → Nat} {tv dv : Value}
/-- Boxes that a call has laid are the bank's from now on. -/
theorem BkAt.more {td : Nat → List Sp} {w0 : World} (h : BkAt O p s td w0 B T r q tv dv I) (hlt : ∀ k, O k → k < w0.heap.size) (f : Fr No w0 w) : BkAt (Grow O w0 w) p s td w B T r q tv dv (fun k => I k ∨ Laid w0 w k) :=
  { (h.no f).mono (fun _ => .inl) with
    task := fun i hi => (h.task i hi).fr f id (fun _ _ => id) (fun k hk => .inl hk)
    oI := fun k hk => hk.elim (fun e => .inl (h.oI k e)) .inr
    iLo := fun k hk => hk.elim (h.iLo k) (fun e => by have := h.loP; have := hlt _ h.oP; have := e.1; omega)
    iP := fun e => e.elim h.iP (fun e => by have := hlt _ h.oP; have := e.1; omega)
    iQ := fun i hi e => e.elim (h.iQ i hi) (fun e => by have := hlt _ (h.oQ i hi); have := e.1; omega)
    iT := fun k hk e => e.elim (h.iT k hk) (fun e => by have := hlt _ (h.oT k hk); have := e.1; omega)
    iD := fun k hk e => e.elim (h.iD k hk) (fun e => by have := hlt _ (h.oD k hk); have := e.1; omega) }

theorem begin_made (V : s.Inv) (h : BkAt O p s s.todo w B T r q tv dv I) (hlt : ∀ k, O k → k < w.heap.size) {x : Tk} (ha : x.acted = false) (ho : x.over = false) (he : x.e = 0) (ht : x.told = []) {qn : Nat} {d st tv' : Value}
    (hd : Deed I w p x d) (f1 : Fr No w w3) (hq : Blk w3 qn 93 (cellsT p s.t.length x d st (.slice none 0 0))) (hq0 : w.heap.size ≤ qn) (hst : Steps (fun k => qn < k ∧ k < w3.heap.size) w3 ((Bs.locksF x.need ++ [Sp.act, Sp.fin]).map (Sp.val p qn)) st)
    (f2 : Fr (fun k => tv.ownBlock = some k ∨ k = p) w3 w') (hb : Blk w' p 82 (cellsB r q s.hold tv' dv)) (htv : w'.ownsRow T 76 1 tv' (s.t.length + 1) (cellsQ q s.t.length ++ [at_ qn 0]))
    (hloc : tv'.ownBlock = tv.ownBlock ∨ ∃ g, tv'.ownBlock = some g ∧ w3.heap.size ≤ g) :
    ∃ tv' q' I', BkAt (Grow O w w') p (s.add1 x) (s.add1 x).todo w' B T r q' tv' dv I' ∧ Fr O w w' := by
  have hl : (s.add1 x).t.length = s.t.length + 1 := by simp [Bs.add1]
  have hq3 := hq.lt
  have hs1 : w.heap.size ≤ w3.heap.size := f1.size
  have hs2 : w3.heap.size ≤ w'.heap.size := f2.size
  have hold : ∀ k, O k → k < w3.heap.size ∧ k ≠ qn := fun k hk => by have := hlt k hk; omega
  obtain ⟨q', hq'⟩ : ∃ q' : Nat → Nat, q' = fun i => if i = s.t.length then qn else q i := ⟨_, rfl⟩
  have hqi : ∀ i, i < s.t.length → q' i = q i := fun i hi => by rw [hq']; simp only; rw [if_neg (by omega)]
  have hqn : q' s.t.length = qn := by rw [hq']; exact if_pos rfl
  have hF : Fr O w w' := (f1.mono (fun _ _ e => e.elim)).trans' f2 (fun k hk e => e.elim (fun e => h.oT k e) (fun e => e ▸ h.oP))
  have hI2 : ∀ k, I k → ¬ (tv.ownBlock = some k ∨ k = p) := fun k hk e => e.elim (fun e => h.iT k e hk) (fun e => h.iP (e ▸ hk))
  have hTlo : T ≤ w.heap.size := by have := h.loP; have := hlt _ h.oP; omega
  have htn : tv.ownBlock ≠ some qn := fun e => by have := hlt _ (h.oT _ e); omega
  have hdo : ∀ k, tv'.ownBlock = some k → tv.ownBlock = some k ∨ (w3.heap.size ≤ k ∧ k < w'.heap.size) := fun k hk => by
    rcases hloc with e | ⟨g, e, hg⟩
    · exact .inl (e ▸ hk)
    · rw [e] at hk
      injection hk with hk
      subst hk
      exact .inr ⟨hg, (htv.lt g e).2⟩
  have tk0 : ∀ i, i < s.t.length → (s.add1 x).tk i = s.tk i := fun i hi => by rw [Bs.tk_add, if_neg (by omega)]
  have tk1 : (s.add1 x).tk s.t.length = x := by rw [Bs.tk_add, if_pos rfl]
  have hcase : ∀ i, i < s.t.length + 1 → i < s.t.length ∨ i = s.t.length := fun i hi => by omega
  refine ⟨tv', q', fun k => I k ∨ (qn < k ∧ k < w3.heap.size), ?_, hF⟩
  exact
  { pu := (h.pu.no f1).fr f2 (fun k hk e => e.elim (fun e => by have := h.tlo e; have := hk.2; omega) (fun e => by have := h.loP; have := hk.2; omega))
    blk := by
      have e1 : ∀ k, k < 4 → hp q' ((s.add1 x).hold k) = hp q (s.hold k) := fun k hk => by
        show hp q' (s.hold k) = _
        unfold hp
        by_cases h0 : 0 ≤ s.hold k
        · rw [if_pos h0, if_pos h0, hqi _ (V.who k hk h0).1]
        · rw [if_neg h0, if_neg h0]
      unfold cellsB
      rw [e1 0 (by omega), e1 1 (by omega), e1 2 (by omega), e1 3 (by omega)]
      exact hb
    new := fun i hi => by
      rw [Bs.tk_add] at hi ⊢
      by_cases e : i = s.t.length
      · rw [if_pos e]; exact ⟨he, ht⟩
      · rw [if_neg e] at hi ⊢; exact h.new i hi
    tasks := by
      rw [hl, cellsQ_snoc q q' _ hqi, hqn]
      exact htv
    done := owns_fr (owns_fr h.done f1 (fun _ _ => id)) f2 (fun k hk e => e.elim (fun e => own_own_ne h.tasks h.done (by decide) e hk) (fun e => h.dp (e ▸ hk)))
    task := fun i hi => by
      rw [hl] at hi
      rcases hcase i hi with hi | rfl
      · rw [hqi i hi, tk0 i hi, Bs.todo_add' (by omega)]
        exact ((h.task i hi).fr f1 id (fun _ _ => id) (fun _ => id)).fr f2 (fun e => e.elim (fun e => h.tq hi e) (fun e => h.pq hi e.symm)) hI2 (fun k hk => .inl hk)
      · rw [hqn, tk1, Bs.todo_new V ho ha]
        refine ⟨d, st, .slice none 0 0, hq.fr f2 (fun e => e.elim htn (fun e => by have := hlt _ h.oP; omega)), (hd.fr f1 (fun _ _ => id) (fun _ => id)).fr f2 hI2 (fun k hk => .inl hk), hst.fr f2 (fun k hk e => ?_) (fun k hk => .inr hk), .inl ⟨ht, rfl⟩⟩
        have h9 := e.elim (fun e => hlt _ (h.oT k e)) (fun e => e ▸ hlt _ h.oP)
        have := hk.1
        omega
    loP := h.loP
    loQ := fun i hi => by
      rcases hcase i (hl ▸ hi) with hi | rfl
      · rw [hqi i hi]; exact h.loQ i hi
      · rw [hqn]; omega
    oR := fun k hk => .inl (h.oR k hk)
    oP := .inl h.oP
    oQ := fun i hi => by
      rcases hcase i (hl ▸ hi) with hi | rfl
      · rw [hqi i hi]; exact .inl (h.oQ i hi)
      · rw [hqn]; exact .inr ⟨hq0, by omega⟩
    oT := fun k hk => (hdo k hk).elim (fun e => .inl (h.oT k e)) (fun e => .inr ⟨by omega, e.2⟩)
    oD := fun k hk => .inl (h.oD k hk)
    oI := fun k hk => hk.elim (fun e => .inl (h.oI k e)) (fun e => .inr ⟨by have := e.1; omega, by have := e.2; omega⟩)
    iLo := fun k hk => hk.elim (h.iLo k) (fun e => by have := e.1; omega)
    iP := fun e => e.elim h.iP (fun e => by have := hlt _ h.oP; have := e.1; omega)
    iQ := fun i hi e => by
      rcases hcase i (hl ▸ hi) with hi | rfl
      · rw [hqi i hi] at e
        exact e.elim (h.iQ i hi) (fun e => by have := hlt _ (h.oQ i hi); have := e.1; omega)
      · rw [hqn] at e
        exact e.elim (fun e => by have := hlt _ (h.oI _ e); omega) (fun e => by have := e.1; omega)
    iT := fun k hk e => (hdo k hk).elim (fun c => e.elim (h.iT k c) (fun e => by have := hlt _ (h.oT k c); have := e.1; omega)) (fun c => e.elim (fun e => by have := hlt _ (h.oI k e); omega) (fun e => by have := e.2; omega))
    iD := fun k hk e => e.elim (h.iD k hk) (fun e => by have := hlt _ (h.oD k hk); have := e.1; omega) }
end
end Go.Proofs.Ytpmmfbbppnbhbaa
