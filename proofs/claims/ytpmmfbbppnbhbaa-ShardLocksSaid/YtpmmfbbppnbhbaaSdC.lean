/- A bank in memory: its block, its purse, its tasks, and what they hold. -/
import Derived.Test.YtpmmfbbppnbhbaaSdA
import Derived.Test.YtpmmfbbppnbhbaaSdS
import Derived.Test.YtpmmfbbppnbhbaaPuL
namespace Go.Proofs.Ytpmmfbbppnbhbaa
open Go.RowKit
set_option linter.unusedVariables false
set_option maxRecDepth 100000

abbrev at_ (b o : Nat) : Value := .pointer (some ⟨b, o, none⟩)
def Sp.val (p q : Nat) : Sp → Value
  | .lock k => .func (.func 47) #[.agg #[at_ p (1 + k), at_ q 0]] #[]
  | .act => .func (.func 48) #[at_ q 0] #[]
  | .fin => .func (.func 49) #[at_ q 0] #[]

/-- What a task does when it acts; I: blocks that never turn. -/
def Deed (I : Nat → Prop) (w : World) (p : Nat) (x : Tk) (d : Value) : Prop :=
  if x.lists then ∃ b, d = .func (.func 36) #[] #[at_ b 0] ∧ I b ∧ w.cell? ⟨b, 0, none⟩ = some (at_ p 0)
  else ∃ b f t n, d = .func (.func 31) #[] #[at_ b 0, at_ f 0, at_ t 0, at_ n 0] ∧ I b ∧ I f ∧ I t ∧ I n ∧ w.cell? ⟨b, 0, none⟩ = some (at_ p 0) ∧
    w.cell? ⟨f, 0, none⟩ = some (.int .i64 (x.f : Int)) ∧ w.cell? ⟨t, 0, none⟩ = some (.int .i64 (x.t : Int)) ∧ w.cell? ⟨n, 0, none⟩ = some (.int .u64 (x.n : Int))
/-- The steps that are to come, as a slice. -/
def Steps (I : Nat → Prop) (w : World) (L : List Value) (v : Value) : Prop :=
  ∃ a cap, v = .slice a L.length cap ∧ L.length ≤ cap ∧ cap ≤ maxLen ∧ ∀ j u, L[j]? = some u → ∃ g o, a = some ⟨g, o, none⟩ ∧ I g ∧ w.cell? ⟨g, o + j, none⟩ = some u
/-- What a task was told. -/
def Told (I : Nat → Prop) (w : World) (l : List Nat) (v : Value) : Prop :=
  (l = [] ∧ v = .slice none 0 0) ∨ ∃ g c, v = .slice (some ⟨g, 0, none⟩) l.length c ∧ I g ∧ 1 ≤ l.length ∧ l.length ≤ 32 ∧ Nums w (some ⟨g, 0, none⟩) l.length (fun i => l.getD i 0)
def cellsT (p i : Nat) (x : Tk) (d st to : Value) : List Value := [at_ p 0, .int .i64 (i : Int), d, st, .bool x.acted, .int .i64 x.e, to]
/-- The task i at q, with the steps L to come. -/
def TaskAt (I : Nat → Prop) (w : World) (p q i : Nat) (x : Tk) (L : List Sp) : Prop :=
  ∃ d st to, Blk w q 93 (cellsT p i x d st to) ∧ Deed I w p x d ∧ Steps I w (L.map (Sp.val p q)) st ∧ Told I w x.told to
/-- Who holds a lock. -/
def hp (q : Nat → Nat) (h : Int) : Value := if 0 ≤ h then at_ (q h.toNat) 0 else .pointer none
def cellsQ (q : Nat → Nat) (n : Nat) : List Value := (List.range n).map fun i => at_ (q i) 0
def cellsD (l : List Nat) : List Value := l.map fun i : Nat => .int .i64 (i : Int)
def cellsB (r : Nat) (q : Nat → Nat) (f : Nat → Int) (tv dv : Value) : List Value := [at_ r 0, hp q (f 0), hp q (f 1), hp q (f 2), hp q (f 3), tv, dv]
structure BkAt (O : Nat → Prop) (p : Nat) (s : Bs) (td : Nat → List Sp) (w : World) (B T r : Nat) (q : Nat → Nat) (tv dv : Value) (I : Nat → Prop) : Prop where
  pu : Pu B T r s.p w
  blk : Blk w p 82 (cellsB r q s.hold tv dv)
  new : ∀ i, (s.tk i).acted = false → (s.tk i).e = 0 ∧ (s.tk i).told = []
  tasks : w.ownsRow T 76 1 tv s.t.length (cellsQ q s.t.length)
  done : w.ownsRow T 3 1 dv s.done.length (cellsD s.done)
  task : ∀ i, i < s.t.length → TaskAt I w p (q i) i (s.tk i) (td i)
  loP : T ≤ p
  loQ : ∀ i, i < s.t.length → T ≤ q i
  oR : ∀ k, Btw B T k → O k
  oP : O p
  oQ : ∀ i, i < s.t.length → O (q i)
  oT : ∀ k, tv.ownBlock = some k → O k
  oD : ∀ k, dv.ownBlock = some k → O k
  oI : ∀ k, I k → O k
  iLo : ∀ k, I k → T ≤ k
  iP : ¬ I p
  iQ : ∀ i, i < s.t.length → ¬ I (q i)
  iT : ∀ k, tv.ownBlock = some k → ¬ I k
  iD : ∀ k, dv.ownBlock = some k → ¬ I k

section
variable {S I J : Nat → Prop} {w w' : World} {p q i : Nat} {x : Tk} {d v : Value} {L : List Value} {l : List Nat}
theorem owns_fr {B : Nat} {e : TypeId} {z n : Nat} {xs : List Value} (h : w.ownsRow B e z v n xs) (f : Fr S w w') (hn : ∀ k, v.ownBlock = some k → ¬ S k) : w'.ownsRow B e z v n xs := by
  refine ⟨h.1, ?_⟩
  rcases h.2 with h0 | ⟨g, cap, cur, rfl, hB, hg, r⟩
  · exact .inl h0
  · exact .inr ⟨g, cap, cur, rfl, hB, (f.block g (Array.getElem?_eq_some_iff.1 hg).1 (hn g rfl)).trans hg, r⟩
theorem Deed.fr (h : Deed I w p x d) (f : Fr S w w') (hS : ∀ k, I k → ¬ S k) (hJ : ∀ k, I k → J k) : Deed J w' p x d := by
  unfold Deed at h ⊢
  split at h
  · rename_i hl
    rw [if_pos hl]
    obtain ⟨b, rfl, hI, hc⟩ := h
    exact ⟨b, rfl, hJ _ hI, f.cell (hS _ hI) hc⟩
  · rename_i hl
    rw [if_neg hl]
    obtain ⟨b, g, t, n, rfl, i1, i2, i3, i4, c1, c2, c3, c4⟩ := h
    exact ⟨b, g, t, n, rfl, hJ _ i1, hJ _ i2, hJ _ i3, hJ _ i4, f.cell (hS _ i1) c1, f.cell (hS _ i2) c2, f.cell (hS _ i3) c3, f.cell (hS _ i4) c4⟩
theorem Deed.same (h : Deed I w p x d) {y : Tk} (e1 : y.lists = x.lists) (e2 : y.f = x.f) (e3 : y.t = x.t) (e4 : y.n = x.n) : Deed I w p y d := by
  unfold Deed at h ⊢
  rw [e1, e2, e3, e4]
  exact h
theorem Steps.fr (h : Steps I w L v) (f : Fr S w w') (hS : ∀ k, I k → ¬ S k) (hJ : ∀ k, I k → J k) : Steps J w' L v := by
  obtain ⟨a, cap, e, h1, h2, h3⟩ := h
  refine ⟨a, cap, e, h1, h2, fun j u hu => ?_⟩
  obtain ⟨g, o, ha, hI, hc⟩ := h3 j u hu
  exact ⟨g, o, ha, hJ _ hI, f.cell (hS _ hI) hc⟩
theorem Told.fr (h : Told I w l v) (f : Fr S w w') (hS : ∀ k, I k → ¬ S k) (hJ : ∀ k, I k → J k) : Told J w' l v := by
  rcases h with h | ⟨g, c, e, hI, h1, h2, hn⟩
  · exact .inl h
  · refine .inr ⟨g, c, e, hJ _ hI, h1, h2, fun i hi => ?_⟩
    obtain ⟨a, ha, hc, hb⟩ := hn i hi
    injection ha with ha
    subst ha
    rw [Addr.add_lit] at hc
    exact ⟨_, rfl, by rw [Addr.add_lit]; exact f.cell (hS _ hI) hc, hb⟩
theorem TaskAt.fr {M : List Sp} (h : TaskAt I w p q i x M) (f : Fr S w w') (hq : ¬ S q) (hS : ∀ k, I k → ¬ S k) (hJ : ∀ k, I k → J k) : TaskAt J w' p q i x M := by
  obtain ⟨d, st, to, h1, h2, h3, h4⟩ := h
  exact ⟨d, st, to, h1.fr f hq, h2.fr f hS hJ, h3.fr f hS hJ, h4.fr f hS hJ⟩
end
section
variable {S O I : Nat → Prop} {w w' : World} {p : Nat} {s : Bs} {td : Nat → List Sp} {B T r : Nat} {q : Nat → Nat} {tv dv : Value}
theorem BkAt.fr (h : BkAt O p s td w B T r q tv dv I) (f : Fr S w w') (hS : ∀ k, O k → ¬ S k) : BkAt O p s td w' B T r q tv dv I :=
  { h with
    pu := h.pu.fr f (fun k hk => hS k (h.oR k hk))
    blk := h.blk.fr f (hS p h.oP)
    tasks := owns_fr h.tasks f (fun k hk => hS k (h.oT k hk))
    done := owns_fr h.done f (fun k hk => hS k (h.oD k hk))
    task := fun i hi => (h.task i hi).fr f (hS _ (h.oQ i hi)) (fun k hk => hS k (h.oI k hk)) (fun _ => id) }
theorem BkAt.no (h : BkAt O p s td w B T r q tv dv I) (f : Fr No w w') : BkAt O p s td w' B T r q tv dv I := h.fr f (fun _ _ => id)
/-- More blocks may be the bank's. -/
theorem BkAt.mono {O' : Nat → Prop} (h : BkAt O p s td w B T r q tv dv I) (k : ∀ j, O j → O' j) : BkAt O' p s td w B T r q tv dv I :=
  { h with
    oR := fun j hj => k _ (h.oR j hj)
    oP := k _ h.oP
    oQ := fun i hi => k _ (h.oQ i hi)
    oT := fun j hj => k _ (h.oT j hj)
    oD := fun j hj => k _ (h.oD j hj)
    oI := fun j hj => k _ (h.oI j hj) }
end
/-- The bank at p. -/
def BkIn (O : Nat → Prop) (p : Nat) (s : Bs) (w : World) : Prop := ∃ B T r q tv dv I, BkAt O p s s.todo w B T r q tv dv I
/-- The bank at p; its memory are the blocks of O. -/
structure Bk (O : Nat → Prop) (p : Nat) (s : Bs) (w : World) : Prop where
  inv : s.Inv
  lt : ∀ k, O k → k < w.heap.size
  at_ : BkIn O p s w
theorem Bk.fr {S O : Nat → Prop} {p : Nat} {s : Bs} {w w' : World} (h : Bk O p s w) (f : Fr S w w') (hn : ∀ k, O k → ¬ S k) : Bk O p s w' := by
  obtain ⟨h1, h2, B, T, r, q, tv, dv, I, h3⟩ := h
  exact ⟨h1, fun k hk => Nat.lt_of_lt_of_le (h2 k hk) f.size, B, T, r, q, tv, dv, I, h3.fr f hn⟩
/-- What a call of the bank leaves: new memory, and its own turned. -/
def BkTo (O : Nat → Prop) (p : Nat) (s' : Bs) (w w' : World) : Prop := ∃ O' : Nat → Prop, Bk O' p s' w' ∧ (∀ k, O' k → O k ∨ w.heap.size ≤ k) ∧ Fr O w w'
/-- The bank's blocks behind a call: those, and all that are new. -/
def Grow (O : Nat → Prop) (w w' : World) (k : Nat) : Prop := O k ∨ (w.heap.size ≤ k ∧ k < w'.heap.size)
theorem BkTo.of {O : Nat → Prop} {p : Nat} {s' : Bs} {w w' : World} (hi : s'.Inv) (hlt : ∀ k, O k → k < w.heap.size) (f : Fr O w w') (h : BkIn (Grow O w w') p s' w') : BkTo O p s' w w' :=
  ⟨Grow O w w', ⟨hi, fun k hk => hk.elim (fun h => Nat.lt_of_lt_of_le (hlt k h) f.size) (·.2), h⟩, fun k hk => hk.elim .inl (fun h => .inr h.1), f⟩
def Bs.isIn (s : Bs) (i : Int) : Bool := decide (0 ≤ i ∧ i < s.t.length)
def Bs.actV (s : Bs) (i : Int) : Bool := s.isIn i && (s.tk i.toNat).acted
def Bs.resV (s : Bs) (i : Int) : Int := if s.isIn i then (s.tk i.toNat).e else 0
def Bs.toldV (s : Bs) (i : Int) : List Nat := if s.isIn i then (s.tk i.toNat).told else []
def Bs.holdV (s : Bs) (k : Int) : Int := if 0 ≤ k ∧ k < 4 then s.hold k.toNat else -1
/-- A slice of numbers that is handed out. -/
def OutN (l : List Nat) (v : Value) (w : World) : Prop := ∃ ao cap, v = .slice ao l.length cap ∧ Nums w ao l.length (fun i => l.getD i 0)
def OutI (l : List Nat) (v : Value) (w : World) : Prop := ∃ ao cap, v = .slice ao l.length cap ∧ ∀ i, i < l.length → ∃ a, ao = some a ∧ w.cell? (a.add i) = some (.int .i64 (l.getD i 0 : Int))
/-! What is told apart by its kind. -/
section
variable {O I : Nat → Prop} {w : World} {p : Nat} {s : Bs} {td : Nat → List Sp} {B T r : Nat} {q : Nat → Nat} {tv dv : Value}
theorem Blk.ty_ne {w : World} {a b : Nat} {t u : TypeId} {cs ds : List Value} (h : Blk w a t cs) (k : Blk w b u ds) (hne : t ≠ u) : a ≠ b := by
  rintro rfl
  unfold Blk at h k
  rw [h] at k
  simp only [Option.some.injEq, Obj.cells.injEq] at k
  exact hne k.2.1
theorem Blk.own_ne {w : World} {a : Nat} {t e : TypeId} {cs xs : List Value} {B z n : Nat} {v : Value} (h : Blk w a t cs) (k : w.ownsRow B e z v n xs) (hne : t ≠ e) : v.ownBlock ≠ some a := by
  intro hv
  rcases k.2 with ⟨rfl, _⟩ | ⟨g, cap, cur, rfl, _, hg, _⟩
  · cases hv
  · simp only [Value.ownBlock, Option.some.injEq] at hv
    subst hv
    unfold Blk at h
    rw [h] at hg
    simp only [Option.some.injEq, Obj.cells.injEq] at hg
    exact hne hg.2.1
theorem own_own_ne {w : World} {e e2 : TypeId} {xs ys : List Value} {B B2 z z2 n n2 g : Nat} {v v2 : Value} (h : w.ownsRow B e z v n xs) (k : w.ownsRow B2 e2 z2 v2 n2 ys) (hne : e ≠ e2) (h1 : v.ownBlock = some g) (h2 : v2.ownBlock = some g) : False := by
  rcases h.2 with ⟨rfl, _⟩ | ⟨g1, cap, cur, rfl, _, hg, _⟩
  · cases h1
  · rcases k.2 with ⟨rfl, _⟩ | ⟨g2, cap2, cur2, rfl, _, hg2, _⟩
    · cases h2
    · simp only [Value.ownBlock, Option.some.injEq] at h1 h2
      subst h1
      subst h2
      rw [hg] at hg2
      simp only [Option.some.injEq, Obj.cells.injEq] at hg2
      exact hne hg2.2.1
theorem BkAt.qBlk (h : BkAt O p s td w B T r q tv dv I) {i : Nat} (hi : i < s.t.length) : ∃ d st to, Blk w (q i) 93 (cellsT p i (s.tk i) d st to) := by
  obtain ⟨d, st, to, h1, _⟩ := h.task i hi
  exact ⟨d, st, to, h1⟩
theorem BkAt.pq (h : BkAt O p s td w B T r q tv dv I) {i : Nat} (hi : i < s.t.length) : p ≠ q i := by
  obtain ⟨d, st, to, h1⟩ := h.qBlk hi
  exact h.blk.ty_ne h1 (by decide)
theorem BkAt.qq (h : BkAt O p s td w B T r q tv dv I) {i j : Nat} (hi : i < s.t.length) (hj : j < s.t.length) (e : q i = q j) : i = j := by
  obtain ⟨d, st, to, h1⟩ := h.qBlk hi
  obtain ⟨d2, st2, to2, h2⟩ := h.qBlk hj
  rw [e] at h1
  unfold Blk at h1 h2
  rw [h1] at h2
  simp only [cellsT, Option.some.injEq, Obj.cells.injEq, and_true] at h2
  have h3 := congrArg (fun a : Array Value => a[1]?) h2
  simp at h3
  omega
theorem BkAt.tp (h : BkAt O p s td w B T r q tv dv I) : tv.ownBlock ≠ some p := h.blk.own_ne h.tasks (by decide)
theorem BkAt.dp (h : BkAt O p s td w B T r q tv dv I) : dv.ownBlock ≠ some p := h.blk.own_ne h.done (by decide)
theorem BkAt.tq (h : BkAt O p s td w B T r q tv dv I) {i : Nat} (hi : i < s.t.length) : tv.ownBlock ≠ some (q i) := by
  obtain ⟨d, st, to, h1⟩ := h.qBlk hi
  exact h1.own_ne h.tasks (by decide)
theorem BkAt.dq (h : BkAt O p s td w B T r q tv dv I) {i : Nat} (hi : i < s.t.length) : dv.ownBlock ≠ some (q i) := by
  obtain ⟨d, st, to, h1⟩ := h.qBlk hi
  exact h1.own_ne h.done (by decide)
theorem BkAt.tlo (h : BkAt O p s td w B T r q tv dv I) {k : Nat} (hk : tv.ownBlock = some k) : T ≤ k := (h.tasks.lt k hk).1
theorem BkAt.dlo (h : BkAt O p s td w B T r q tv dv I) {k : Nat} (hk : dv.ownBlock = some k) : T ≤ k := (h.done.lt k hk).1
/-- The tasks' slice. -/
theorem BkAt.slice (h : BkAt O p s td w B T r q tv dv I) : ∃ a c, tv = .slice a s.t.length c ∧ ∀ i, i < s.t.length → ∃ g, a = some ⟨g, 0, none⟩ ∧ tv.ownBlock = some g ∧ w.cell? ⟨g, i, none⟩ = some (at_ (q i) 0) := by
  rcases h.tasks.2 with ⟨hv, h0⟩ | ⟨g, cap, cur, hv, hB, hg, hc, _, _, ht⟩
  · refine ⟨none, 0, by rw [hv, h0], fun i hi => by omega⟩
  · refine ⟨some ⟨g, 0, none⟩, cap, hv, fun i hi => ⟨g, rfl, by rw [hv]; rfl, ?_⟩⟩
    have := h.tasks.cells (by rw [hv]; rfl) i (at_ (q i) 0) (by unfold cellsQ; rw [List.getElem?_map, List.getElem?_range hi]; rfl)
    rw [Addr.add_lit, Nat.zero_add] at this
    exact this
end
end Go.Proofs.Ytpmmfbbppnbhbaa
