/- The document's bank, as a value: its cells, and what they lead to. -/
import Derived.Test.YtldcglmpnildiaaSdX
import Derived.Test.YtldcglmpnildiaaPuK
import Derived.Test.YtldcglmpnildiaaWpO
import Derived.Deep.RegionHeld
import Derived.KernelRfl
namespace Go.Proofs.Ytldcglmpnildiaa
open Go.RowKit
set_option linter.unusedVariables false
set_option maxRecDepth 100000

/-! ### A task -/
def cellsX (x : Tk) (tov : Value) : List Value := [.int .i64 (x.f : Int), .int .i64 (x.t : Int), .int .u64 (x.n : Int), .bool (x.need 0), .bool (x.need 1), .bool (x.need 2), .bool (x.need 3), .bool x.lists, .bool x.acted, .bool x.over, .int .i64 x.e, tov]
def flatX : List (Tk × Value) → List Value
  | [] => []
  | x :: r => cellsX x.1 x.2 ++ flatX r
theorem cellsX_len (x : Tk) (v : Value) : (cellsX x v).length = 12 := rfl
theorem flatX_len : ∀ l, (flatX l).length = l.length * 12
  | [] => rfl
  | x :: r => by
    simp only [flatX, List.length_append, List.length_cons, cellsX_len, flatX_len r]
    omega
theorem flatX_app : ∀ l r, flatX (l ++ r) = flatX l ++ flatX r
  | [], r => by simp [flatX]
  | x :: l, r => by simp [flatX, flatX_app l r]
theorem flatX_at : ∀ (l : List (Tk × Value)) (i j : Nat) (x : Tk × Value), l[i]? = some x → j < 12 → (flatX l)[i * 12 + j]? = (cellsX x.1 x.2)[j]?
  | [], i, j, x, h, _ => by simp at h
  | y :: r, 0, j, x, h, hj => by
    obtain rfl : y = x := by simpa using h
    simp only [flatX, Nat.zero_mul, Nat.zero_add]
    rw [List.getElem?_append, if_pos (by rw [cellsX_len]; omega)]
  | y :: r, i + 1, j, x, h, hj => by
    simp only [flatX]
    rw [List.getElem?_append, if_neg (by rw [cellsX_len]; omega), cellsX_len, show (i + 1) * 12 + j - 12 = i * 12 + j by omega]
    exact flatX_at r i j x (by simpa using h) hj
theorem flatX_set : ∀ (l : List (Tk × Value)) (i j : Nat) (x y : Tk × Value) (u : Value), l[i]? = some x → j < 12 → (cellsX x.1 x.2).set j u = cellsX y.1 y.2 → (flatX l).set (i * 12 + j) u = flatX (l.set i y)
  | [], i, j, x, y, u, h, _, _ => by simp at h
  | z :: r, 0, j, x, y, u, h, hj, e => by
    obtain rfl : z = x := by simpa using h
    simp only [flatX, Nat.zero_mul, Nat.zero_add, List.set_cons_zero]
    rw [List.set_append_left _ _ (by rw [cellsX_len]; omega), e]
  | z :: r, i + 1, j, x, y, u, h, hj, e => by
    simp only [flatX, List.set_cons_succ]
    rw [List.set_append_right _ _ (by rw [cellsX_len]; omega), cellsX_len, show (i + 1) * 12 + j - 12 = i * 12 + j by omega, flatX_set r i j x y u (by simpa using h) hj e]
theorem flatX_one : ∀ (l : List (Tk × Value)), (∀ x ∈ l, x.2.oneCell' = true) → ∀ u ∈ flatX l, u.oneCell' = true
  | [], _, u, hu => by cases hu
  | x :: r, h, u, hu => by
    simp only [flatX, List.mem_append] at hu
    rcases hu with hu | hu
    · simp only [cellsX, List.mem_cons, List.not_mem_nil, or_false] at hu
      rcases hu with rfl | rfl | rfl | rfl | rfl | rfl | rfl | rfl | rfl | rfl | rfl | rfl
      all_goals first | rfl | exact h x (by simp)
    · exact flatX_one r (fun y hy => h y (by simp [hy])) u hu

/-! ### The bank -/
def cellsK (pa : Option Addr) (pn pc : Nat) (h : List (Nat × Nat)) (tv : Value) (f : Nat → Int) (dv : Value) : List Value := cellsP pa pn pc h ++ [tv, .int .i64 (f 0), .int .i64 (f 1), .int .i64 (f 2), .int .i64 (f 3), dv]
theorem cellsK_len {pa : Option Addr} {pn pc : Nat} {h : List (Nat × Nat)} {tv dv : Value} {f : Nat → Int} (hl : h.length = 32) : (cellsK pa pn pc h tv f dv).length = 71 := by
  unfold cellsK
  rw [List.length_append, cellsP_len hl]
  rfl
section
variable {pa : Option Addr} {pn pc : Nat} {h : List (Nat × Nat)} {tv dv : Value} {f : Nat → Int}
theorem cellsK_hi (hl : h.length = 32) (j : Nat) : (cellsK pa pn pc h tv f dv)[65 + j]? = [tv, .int .i64 (f 0), .int .i64 (f 1), .int .i64 (f 2), .int .i64 (f 3), dv][j]? := by
  unfold cellsK
  rw [List.getElem?_append, if_neg (by rw [cellsP_len hl]; omega), cellsP_len hl, show 65 + j - 65 = j by omega]
theorem cellsK_lo (hl : h.length = 32) {j : Nat} (hj : j < 65) : (cellsK pa pn pc h tv f dv)[j]? = (cellsP pa pn pc h)[j]? := by
  unfold cellsK
  rw [List.getElem?_append, if_pos (by rw [cellsP_len hl]; exact hj)]
theorem cellsK_setT (hl : h.length = 32) (v : Value) : (cellsK pa pn pc h tv f dv).set 65 v = cellsK pa pn pc h v f dv := by
  unfold cellsK
  rw [List.set_append_right _ _ (by rw [cellsP_len hl]; omega), cellsP_len hl]
  rfl
theorem cellsK_setD (hl : h.length = 32) (v : Value) : (cellsK pa pn pc h tv f dv).set 70 v = cellsK pa pn pc h tv f v := by
  unfold cellsK
  rw [List.set_append_right _ _ (by rw [cellsP_len hl]; omega), cellsP_len hl]
  rfl
theorem cellsK_setH (hl : h.length = 32) {k : Nat} (hk : k < 4) (x : Int) : (cellsK pa pn pc h tv f dv).set (66 + k) (.int .i64 x) = cellsK pa pn pc h tv (fun j => if j = k then x else f j) dv := by
  unfold cellsK
  rw [List.set_append_right _ _ (by rw [cellsP_len hl]; omega), cellsP_len hl]
  have hc : k = 0 ∨ k = 1 ∨ k = 2 ∨ k = 3 := by omega
  rcases hc with rfl | rfl | rfl | rfl <;> rfl
theorem cellsK_at (hl : h.length = 32) {k : Nat} (hk : k < 4) : (cellsK pa pn pc h tv f dv)[66 + k]? = some (.int .i64 (f k)) := by
  rw [show 66 + k = 65 + (1 + k) by omega, cellsK_hi hl]
  have hc : k = 0 ∨ k = 1 ∨ k = 2 ∨ k = 3 := by omega
  rcases hc with rfl | rfl | rfl | rfl <;> rfl
theorem cellsK_one (h1 : tv.oneCell' = true) (h2 : dv.oneCell' = true) : ∀ u ∈ cellsK pa pn pc h tv f dv, u.oneCell' = true := by
  intro u hu
  rcases List.mem_append.1 hu with hu | hu
  · exact cellsP_one u hu
  · simp only [List.mem_cons, List.not_mem_nil, or_false] at hu
    rcases hu with rfl | rfl | rfl | rfl | rfl | rfl
    all_goals first | rfl | assumption
end
/-- Rows of the document's: whatever lies there. -/
def RowA (w : World) (ao : Option Addr) (xs : List Value) : Prop := ∀ j u, xs[j]? = some u → ∃ g, ao = some ⟨g, 0, none⟩ ∧ w.cell? ⟨g, j, none⟩ = some u
theorem RowA.no {w w' : World} {ao : Option Addr} {xs : List Value} (h : RowA w ao xs) (f : Fr No w w') : RowA w' ao xs := fun j u hu => by
  obtain ⟨g, e, hc⟩ := h j u hu
  exact ⟨g, e, f.cell id hc⟩
theorem OutN.no {w w' : World} {l : List Nat} {v : Value} (h : OutN l v w) (f : Fr No w w') : OutN l v w' := by
  obtain ⟨ao, c, e, hn⟩ := h
  exact ⟨ao, c, e, hn.fr f (fun _ _ => id)⟩
theorem OutN.one {w : World} {l : List Nat} {v : Value} (h : OutN l v w) : v.oneCell' = true := by
  obtain ⟨ao, c, rfl, _⟩ := h
  rfl
/-- What a row holds that a call owns. -/
theorem RowA.own {w : World} {B n z : Nat} {e : TypeId} {v : Value} {xs : List Value} (h : w.ownsRow B e z v n xs) : ∃ ao c, v = .slice ao n c ∧ RowA w ao xs ∧ (ao = none → c = 0) := by
  rcases h.2 with ⟨rfl, h0⟩ | ⟨g, cap, cur, rfl, hB, hg, hc, hm, _, ht⟩
  · subst h0
    have hx : xs = [] := List.eq_nil_of_length_eq_zero (by simpa using h.1)
    exact ⟨_, _, rfl, fun j u hu => by rw [hx] at hu; simp at hu, fun _ => rfl⟩
  · refine ⟨_, _, rfl, fun j u hu => ⟨g, rfl, ?_⟩, fun e => by cases e⟩
    have := h.cells (by rfl) j u hu
    rw [Addr.add_lit, Nat.zero_add] at this
    exact this
/-- The document's bank: its cells L. -/
structure DBk (s : Bs) (L : List Value) (w : World) (pa : Option Addr) (pc : Nat) (ta : Option Addr) (tc : Nat) (da : Option Addr) (dc : Nat) (ps : List (Tk × Value)) : Prop where
  cells : L = cellsK pa s.p.b.length pc s.p.h (.slice ta s.t.length tc) s.hold (.slice da s.done.length dc)
  pur : DAt pa pc s.p w
  tks : ps.map Prod.fst = s.t
  row : RowA w ta (flatX ps)
  told : ∀ x ∈ ps, OutN x.1.told x.2 w
  done : RowA w da (cellsD s.done)
  tz : ta = none → tc = 0
  dz : da = none → dc = 0
/-- The same, whatever becomes of the blocks of S. -/
def DB (S : Nat → Prop) (s : Bs) (L : List Value) (w : World) : Prop := ∃ pa pc ta tc da dc ps, ∀ Z, Fr S w Z → DBk s L Z pa pc ta tc da dc ps
section
variable {S : Nat → Prop} {s : Bs} {L : List Value} {w w' : World} {pa ta da : Option Addr} {pc tc dc : Nat} {ps : List (Tk × Value)}
theorem DBk.no (h : DBk s L w pa pc ta tc da dc ps) (f : Fr No w w') : DBk s L w' pa pc ta tc da dc ps :=
  ⟨h.cells, h.pur.no f, h.tks, h.row.no f, fun x hx => (h.told x hx).no f, h.done.no f, h.tz, h.dz⟩
theorem DB.no (h : DB S s L w) (f : Fr No w w') : DB S s L w' := by
  obtain ⟨pa, pc, ta, tc, da, dc, ps, k⟩ := h
  exact ⟨pa, pc, ta, tc, da, dc, ps, fun Z g => k Z ((f.mono (fun _ _ e => e.elim)).trans g)⟩
theorem DB.fr (h : DB S s L w) (f : Fr S w w') : DB S s L w' := by
  obtain ⟨pa, pc, ta, tc, da, dc, ps, k⟩ := h
  exact ⟨pa, pc, ta, tc, da, dc, ps, fun Z g => k Z (f.trans g)⟩
theorem DB.down {T : Nat → Prop} (h : DB T s L w) (k : ∀ j, S j → T j) : DB S s L w := by
  obtain ⟨pa, pc, ta, tc, da, dc, ps, r⟩ := h
  exact ⟨pa, pc, ta, tc, da, dc, ps, fun Z g => r Z (g.mono (fun j _ e => k j e))⟩
/-- New blocks are none of its. -/
def Up (S : Nat → Prop) (w w' : World) (k : Nat) : Prop := S k ∨ (w.heap.size ≤ k ∧ k < w'.heap.size)
theorem DB.up (h : DB S s L w) (f : Fr No w w') : DB (Up S w w') s L w' := by
  obtain ⟨pa, pc, ta, tc, da, dc, ps, k⟩ := h
  exact ⟨pa, pc, ta, tc, da, dc, ps, fun Z g => k Z ((f.mono (fun _ _ e => e.elim)).trans' g (fun i hi e => e.elim id (fun e => by omega)))⟩
theorem up_lt (hS : ∀ k, S k → k < w.heap.size) (f : Fr No w w') : ∀ k, Up S w w' k → k < w'.heap.size := fun k e => e.elim (fun e => by have := hS k e; have := f.size; omega) (·.2)
theorem DB.len (h : DB S s L w) (V : s.p.Wf) : L.length = 71 := by
  obtain ⟨pa, pc, ta, tc, da, dc, ps, k⟩ := h
  rw [(k w (Fr.refl _ _)).cells]
  exact cellsK_len V.hl
theorem DB.one (h : DB S s L w) : ∀ u ∈ L, u.oneCell' = true := by
  obtain ⟨pa, pc, ta, tc, da, dc, ps, k⟩ := h
  rw [(k w (Fr.refl _ _)).cells]
  exact cellsK_one rfl rfl
theorem DBk.lenT (h : DBk s L w pa pc ta tc da dc ps) : ps.length = s.t.length := by rw [← h.tks, List.length_map]
theorem DBk.at_ (h : DBk s L w pa pc ta tc da dc ps) {i : Nat} (hi : i < s.t.length) : ∃ tov, ps[i]? = some (s.tk i, tov) := by
  have h1 : i < ps.length := by rw [h.lenT]; exact hi
  refine ⟨(ps[i]).2, ?_⟩
  rw [List.getElem?_eq_getElem h1]
  have e : (ps[i]).1 = s.tk i := by
    unfold Bs.tk
    rw [← h.tks, List.getD_eq_getElem?_getD, List.getElem?_map, List.getElem?_eq_getElem h1]
    rfl
  rw [← e]
/-- A task's cell. -/
theorem DBk.cell (h : DBk s L w pa pc ta tc da dc ps) {i : Nat} (hi : i < s.t.length) : ∃ g tov, ta = some ⟨g, 0, none⟩ ∧ ps[i]? = some (s.tk i, tov) ∧ ∀ j u, j < 12 → (cellsX (s.tk i) tov)[j]? = some u → w.cell? ⟨g, i * 12 + j, none⟩ = some u := by
  obtain ⟨tov, ht⟩ := h.at_ hi
  obtain ⟨g, hg, _⟩ := h.row (i * 12 + 0) (.int .i64 ((s.tk i).f : Int)) (by rw [flatX_at ps i 0 _ ht (by omega)]; rfl)
  refine ⟨g, tov, hg, ht, fun j u hj hu => ?_⟩
  obtain ⟨g2, hg2, hc⟩ := h.row (i * 12 + j) u (by rw [flatX_at ps i j _ ht hj]; exact hu)
  rw [hg] at hg2
  injection hg2 with hg2
  injection hg2 with hg2
  subst hg2
  exact hc
end
/-- append of a row onto one that a call owns. -/
theorem app_any (t e ty : TypeId) (i0 : TypeInfo) (zv : Value) (size bytes : Nat) (hu : Try.prog.underlying t = some (.slice e)) (hi : Try.prog.info? e = some i0) (hz0 : i0.zero = some zv) (hz1 : i0.size = size) (hz2 : i0.bytes = bytes) (hzc : zv.cells.size = size) (hs : 0 < size) (hb : bytes ≤ 1000)
    {w0 : World} {B n m c : Nat} {v : Value} {xs ys : List Value} {ao : Option Addr} (h : w0.ownsRow B e size v n xs) (ha : RowA w0 ao ys) (hz : ao = none → c = 0) (hl : ys.length = m * size) (h1 : ∀ u ∈ ys, u.oneCell' = true) (hn : n + m ≤ 64) (hB : B ≤ w0.heap.size) :
    ∃ v' w', (Builtin.append_ #[t, t] ty #[v, .slice ao m c]).run Try.prog w0 = .ok v' w' ∧ w'.ownsRow B e size v' (n + m) (xs ++ ys) ∧ Fr (fun k => v.ownBlock = some k) w0 w' := by
  cases ao with
  | none =>
    obtain rfl := hz rfl
    have hy : ys = [] := by
      cases ys with
      | nil => rfl
      | cons y ys => obtain ⟨g, hg, _⟩ := ha 0 y rfl; cases hg
    subst hy
    have hm : m = 0 := by
      cases m with
      | zero => rfl
      | succ m =>
        have h9 : 0 < (m + 1) * size := Nat.mul_pos (by omega) hs
        rw [← hl] at h9
        simp at h9
    subst hm
    refine ⟨v, w0, run_append_owned_none w0 B t ty e i0 size hu hi v n xs h, ?_, Fr.refl _ _⟩
    simpa using h
  | some a =>
    have hn2 : n + m ≤ maxLen := by unfold maxLen; omega
    obtain ⟨v', w', r1, r2, r3, _, _⟩ := run_append_own_at w0 B t ty e i0 zv size bytes hu hi hz0 hz1 hz2 hzc hs v n xs h a m c ys hl (fun j u hj => by
      obtain ⟨g, hg, hc⟩ := ha j u hj
      injection hg with hg
      subst hg
      rw [Addr.add_lit, Nat.zero_add]
      exact hc) h1 hn2 (Nat.le_trans (Nat.mul_le_mul (by omega : n + m ≤ 64) hb) (by decide)) hB
    exact ⟨v', w', r1, r2, Fr.of_grown r3 (fun k hk => hk)⟩
theorem Try.infoTask10 : (Try.prog.info? 59).map (fun i => (i.zero, i.size, i.bytes)) = some (some (.agg #[.int .i64 0, .int .i64 0, .int .u64 0, .bool false, .bool false, .bool false, .bool false, .bool false, .bool false, .bool false, .int .i64 0, .slice none 0 0]), 12, 64) := by kernel_rfl
/-! ### Blocks -/
def zeroK : List Value := cellsK none 0 0 (List.replicate 32 (0, 0)) (.slice none 0 0) (fun _ => 0) (.slice none 0 0)
theorem alloc_rk (w : World) : (Instr.alloc 37 true (.tuple #[])).run Try.prog w = .ok (.pointer (some ⟨w.heap.size, 0, none⟩)) (w.alloc (.cells zeroK.toArray 37)) := by kernel_rfl
theorem alloc_boxk (w : World) (L : List Value) : (Instr.alloc 37 true (.tuple #[])).run Try.prog (w.alloc (.cells L.toArray 37)) = .ok (.pointer (some ⟨w.heap.size + 1, 0, none⟩)) ((w.alloc (.cells L.toArray 37)).alloc (.cells zeroK.toArray 37)) := by
  have := alloc_rk (w.alloc (.cells L.toArray 37))
  rw [World.size_alloc] at this
  exact this
theorem load_rk {X : World} {q : Nat} {L : List Value} (h : Blk X q 37 L) (hl : L.length = 71) : (Instr.loadAt 37 (.pointer (some ⟨q, 0, none⟩))).run Try.prog X = .ok (.agg L.toArray) X :=
  load_range _ h.whole Try.underlying37 rfl (by rw [hl]; kernel_rfl) _ rfl
theorem var_rk {X : World} {q : Nat} {L : List Value} (h : Blk X q 37 L) (hl : L.length = 71) : (Go.loadVar 37 ⟨q, 0, none⟩).run Try.prog X = .ok (.agg L.toArray) X :=
  run_loadVar_mid X q 0 37 L _ h.whole Try.underlying37 rfl (by rw [hl]; kernel_rfl)
theorem store_rk {X : World} {q : Nat} {M L : List Value} (h : Blk X q 37 M) (hm : M.length = 71) (hl : L.length = 71) (h1 : ∀ u ∈ L, u.oneCell' = true) :
    ∃ Y, (Instr.storeAt 37 (.pointer (some ⟨q, 0, none⟩)) (.agg L.toArray)).run Try.prog X = .ok () Y ∧ Blk Y q 37 L ∧ Fr (· = q) X Y :=
  h.stored L (by omega) (by rw [hl]; kernel_rfl) (by simpa using h1)
/-- A call by value: the box q of what came in, the result's variable at c. -/
structure RK (w : World) (q c : Nat) (L M : List Value) (X : World) : Prop where
  fr : Fr No w X
  q0 : w.heap.size ≤ q
  qc : q ≠ c
  c0 : w.heap.size ≤ c
  box : Blk X q 37 L
  res : Blk X c 37 M
section
variable {w X Y : World} {q c : Nat} {L M N : List Value}
theorem RK.on (k : RK w q c L M X) (f : Fr No X Y) : RK w q c L M Y := ⟨k.fr.trans f, k.q0, k.qc, k.c0, k.box.fr f id, k.res.fr f id⟩
theorem RK.new (w : World) (L : List Value) : RK w w.heap.size (w.heap.size + 1) L zeroK ((w.alloc (.cells L.toArray 37)).alloc (.cells zeroK.toArray 37)) := by
  have h := Blk.new (w.alloc (.cells L.toArray 37)) 37 zeroK
  rw [World.size_alloc] at h
  exact ⟨((Fr.refl No w).alloc _).alloc _, Nat.le_refl _, by omega, by omega, (Blk.new w _ L).alloc _, h⟩
/-- What is handed back. -/
theorem RK.put (k : RK w q c L M X) (hm : M.length = 71) (hl : N.length = 71) (h1 : ∀ u ∈ N, u.oneCell' = true) :
    ∃ Y, (Instr.storeAt 37 (.pointer (some ⟨c, 0, none⟩)) (.agg N.toArray)).run Try.prog X = .ok () Y ∧ (Go.loadVar 37 ⟨c, 0, none⟩).run Try.prog Y = .ok (.agg N.toArray) Y ∧ Fr No w Y ∧ Fr (· = c) X Y := by
  obtain ⟨Y, hY, hB, hF⟩ := store_rk k.res hm hl h1
  exact ⟨Y, hY, var_rk hB hl, k.fr.trans' hF (fun i hi e => by have := k.c0; omega), hF⟩
/-- A cell of the box. -/
theorem RK.set (k : RK w q c L M X) (i : Nat) (u : Value) : RK w q c (L.set i u) M (X.setCell ⟨q, i, none⟩ u) ∧ Fr (· = q) X (X.setCell ⟨q, i, none⟩ u) := by
  have f : Fr (· = q) X (X.setCell ⟨q, i, none⟩ u) := (Fr.refl (· = q) X).setCell (p := ⟨q, i, none⟩) (.inl rfl) u
  exact ⟨⟨k.fr.trans' f (fun j hj e => by have := k.q0; omega), k.q0, k.qc, k.c0, k.box.set i u, k.res.set_other k.qc u⟩, f⟩
end
end Go.Proofs.Ytldcglmpnildiaa
