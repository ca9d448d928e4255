/- A bank's history: what was told is what the purse tells, one task behind the other; what is over stays. -/
import Derived.Test.YtldcglmpnildiaaSdM
namespace Go.Proofs.Ytldcglmpnildiaa
set_option linter.unusedVariables false
set_option maxRecDepth 100000
namespace Bs

def moveE (p : Ps) (x : Tk) : Int := p.movE (x.f : Int) (x.t : Int) x.n
def moveS (p : Ps) (x : Tk) : Ps := if x.lists then p else p.movS (x.f : Int) (x.t : Int) x.n
/-- A purse behind some tasks, one behind the other. -/
def rep (t : Nat → Tk) (p : Ps) (l : List Nat) : Ps := l.foldl (fun p d => moveS p (t d)) p
theorem rep_snoc (t : Nat → Tk) (p : Ps) (l : List Nat) (d : Nat) : rep t p (l ++ [d]) = moveS (rep t p l) (t d) := by unfold rep; rw [List.foldl_append]; rfl
theorem rep_congr {t t' : Nat → Tk} {p : Ps} : ∀ {l : List Nat}, (∀ d ∈ l, ∀ p, moveS p (t d) = moveS p (t' d)) → rep t p l = rep t' p l := by
  intro l
  induction l generalizing p with
  | nil => intro _; rfl
  | cons a l ih =>
    intro h
    show rep t (moveS p (t a)) l = rep t' (moveS p (t' a)) l
    rw [h a (by simp)]
    exact ih (fun d hd => h d (by simp [hd]))
theorem movS_h (s : Ps) (f t : Int) (n : Nat) : (s.movS f t n).h = s.h := by unfold Ps.movS Ps.less Ps.more; split <;> rfl
theorem rep_keeps (t : Nat → Tk) : ∀ (l : List Nat) (p : Ps), p.Wf → (rep t p l).Wf ∧ (rep t p l).total = p.total ∧ (rep t p l).h = p.h ∧ (rep t p l).b.length = p.b.length
  | [], p, W => ⟨W, rfl, rfl, rfl⟩
  | a :: l, p, W => by
    have h : (moveS p (t a)).Wf ∧ (moveS p (t a)).total = p.total ∧ (moveS p (t a)).h = p.h ∧ (moveS p (t a)).b.length = p.b.length := by
      unfold moveS
      split
      · exact ⟨W, rfl, rfl, rfl⟩
      · exact ⟨(Ps.Wf.movS W _ _ _).1, (Ps.Wf.movS W _ _ _).2, movS_h _ _ _ _, Ps.len_mov _ _ _⟩
    obtain ⟨h1, h2, h3, h4⟩ := rep_keeps t l _ h.1
    exact ⟨h1, h2.trans h.2.1, h3.trans h.2.2.1, h4.trans h.2.2.2⟩

def dn (s : Bs) (i : Nat) : Nat := s.done.getD i 0
structure Hist (p0 : Ps) (s : Bs) : Prop where
  now : s.p = rep s.tk p0 s.done
  list : ∀ i, i < s.done.length → (s.tk (s.dn i)).lists = true → (s.tk (s.dn i)).e = 0 ∧ (s.tk (s.dn i)).told = (rep s.tk p0 (s.done.take i)).b
  move : ∀ i, i < s.done.length → (s.tk (s.dn i)).lists = false → (s.tk (s.dn i)).e = moveE (rep s.tk p0 (s.done.take i)) (s.tk (s.dn i))
  fresh : ∀ i, (s.tk i).acted = false → (s.tk i).e = 0 ∧ (s.tk i).told = []
  mover : ∀ i, (s.tk i).lists = false → (s.tk i).told = []

theorem dn_mem {s : Bs} {i : Nat} (h : i < s.done.length) : s.dn i ∈ s.done := by
  unfold dn
  rw [List.getD_eq_getElem?_getD, List.getElem?_eq_getElem h]
  exact List.getElem_mem h
theorem take_mem {l : List Nat} {i d : Nat} (h : d ∈ l.take i) : d ∈ l := List.mem_of_mem_take h
/-- Tasks that are what they were. -/
theorem Hist.keep {p0 : Ps} {s s' : Bs} (H : Hist p0 s) (hp : s'.p = s.p) (hd : s'.done = s.done) (ht : ∀ d, (s'.tk d).f = (s.tk d).f ∧ (s'.tk d).t = (s.tk d).t ∧ (s'.tk d).n = (s.tk d).n ∧ (s'.tk d).lists = (s.tk d).lists ∧ (s'.tk d).acted = (s.tk d).acted ∧ (s'.tk d).e = (s.tk d).e ∧ (s'.tk d).told = (s.tk d).told) : Hist p0 s' := by
  have hm : ∀ d p, moveS p (s'.tk d) = moveS p (s.tk d) := fun d p => by unfold moveS; rw [(ht d).1, (ht d).2.1, (ht d).2.2.1, (ht d).2.2.2.1]
  have hr : ∀ l, rep s'.tk p0 l = rep s.tk p0 l := fun l => rep_congr (fun d _ p => hm d p)
  have hdn : ∀ i, s'.dn i = s.dn i := fun i => by unfold dn; rw [hd]
  refine ⟨by rw [hp, hd, hr]; exact H.now, fun i hi hl => ?_, fun i hi hl => ?_, fun i hi => ?_, fun i hi => ?_⟩
  · rw [hd] at hi ⊢
    rw [hdn, (ht _).2.2.2.1] at hl
    rw [hdn, (ht _).2.2.2.2.2.1, (ht _).2.2.2.2.2.2, hr]
    exact H.list i hi hl
  · rw [hd] at hi ⊢
    rw [hdn, (ht _).2.2.2.1] at hl
    rw [hdn, (ht _).2.2.2.2.2.1, hr]
    unfold moveE
    rw [(ht _).1, (ht _).2.1, (ht _).2.2.1]
    exact H.move i hi hl
  · rw [(ht i).2.2.2.2.1] at hi
    rw [(ht i).2.2.2.2.2.1, (ht i).2.2.2.2.2.2]
    exact H.fresh i hi
  · rw [(ht i).2.2.2.1] at hi
    rw [(ht i).2.2.2.2.2.2]
    exact H.mover i hi
theorem Hist.new (l : List Nat) : Hist (Ps.newS l) (newB l) :=
  ⟨rfl, fun i hi => by simp [newB] at hi, fun i hi => by simp [newB] at hi, fun i _ => ⟨rfl, rfl⟩, fun i _ => rfl⟩
theorem Hist.add {p0 : Ps} {s : Bs} (V : Inv s) (H : Hist p0 s) (x : Tk) (he : x.e = 0) (ht : x.told = []) : Hist p0 (s.add1 x) := by
  have e := tk_add s x
  have hlt : ∀ d ∈ s.done, d < s.t.length := fun d hd => ((V.done d).1 hd).1
  have hs : ∀ d ∈ s.done, (s.add1 x).tk d = s.tk d := fun d hd => by rw [e, if_neg (by have := hlt d hd; omega)]
  have hr : ∀ l, (∀ d ∈ l, d ∈ s.done) → rep (s.add1 x).tk p0 l = rep s.tk p0 l := fun l hl => rep_congr (fun d hd p => by rw [hs d (hl d hd)])
  have hdn : ∀ i, (s.add1 x).dn i = s.dn i := fun _ => rfl
  refine ⟨by rw [show (s.add1 x).done = s.done from rfl, hr _ (fun d h => h)]; exact H.now, fun i hi hl => ?_, fun i hi hl => ?_, fun i hi => ?_, fun i hi => ?_⟩
  · rw [hdn, hs _ (dn_mem hi)] at hl ⊢
    rw [show (s.add1 x).done = s.done from rfl, hr _ (fun d h => take_mem h)]
    exact H.list i hi hl
  · rw [hdn, hs _ (dn_mem hi)] at hl ⊢
    rw [show (s.add1 x).done = s.done from rfl, hr _ (fun d h => take_mem h)]
    exact H.move i hi hl
  · rw [e] at hi ⊢
    split
    · exact ⟨he, ht⟩
    · rename_i h
      rw [if_neg h] at hi
      exact H.fresh i hi
  · rw [e] at hi ⊢
    split
    · exact ht
    · rename_i h
      rw [if_neg h] at hi
      exact H.mover i hi
theorem getD_snoc (l : List Nat) (a i : Nat) : (l ++ [a]).getD i 0 = if i < l.length then l.getD i 0 else if i = l.length then a else 0 := by
  rw [List.getD_eq_getElem?_getD, List.getElem?_append, List.getD_eq_getElem?_getD]
  by_cases h : i < l.length
  · rw [if_pos h, if_pos h]
  · rw [if_neg h, if_neg h]
    by_cases h2 : i = l.length
    · rw [if_pos h2, h2]; simp
    · rw [if_neg h2, List.getElem?_eq_none (by simp; omega)]; rfl
theorem Hist.act {p0 : Ps} {s : Bs} (V : Inv s) (H : Hist p0 s) {i : Nat} (hi : i < s.t.length) (ha : (s.tk i).acted = false) : Hist p0 (s.act1 i) := by
  obtain ⟨x, hx, x1, x2, x3, x4, x5, x6, x7, x8⟩ := act_t s i
  have et : ∀ j, (s.act1 i).tk j = if j = i then x else s.tk j := fun j => by
    unfold tk
    rw [hx]
    exact Ps.getD_set _ _ _ _ _ hi
  have hni : i ∉ s.done := fun h => by rw [((V.done i).1 h).2] at ha; cases ha
  have hm : ∀ d p, moveS p ((s.act1 i).tk d) = moveS p (s.tk d) := fun d p => by
    rw [et]
    split
    · rename_i h; subst h; unfold moveS; rw [x1, x2, x3, x4]
    · rfl
  have hr : ∀ l, rep (s.act1 i).tk p0 l = rep s.tk p0 l := fun l => rep_congr (fun d _ p => hm d p)
  have hdn : ∀ j, (s.act1 i).dn j = if j < s.done.length then s.dn j else if j = s.done.length then i else 0 := fun j => by unfold dn; rw [x8]; exact getD_snoc _ _ _
  have hold : ∀ j, j < s.done.length → (s.act1 i).dn j = s.dn j ∧ (s.act1 i).tk (s.dn j) = s.tk (s.dn j) ∧ (s.act1 i).done.take j = s.done.take j := fun j hj => by
    refine ⟨by rw [hdn, if_pos hj], ?_, by rw [x8, List.take_append_of_le_length (by omega)]⟩
    have hne : s.dn j ≠ i := fun h => hni (by rw [← h]; exact dn_mem hj)
    rw [et, if_neg hne]
  have hnew : (s.act1 i).dn s.done.length = i ∧ (s.act1 i).done.take s.done.length = s.done := ⟨by rw [hdn, if_neg (by omega), if_pos rfl], by rw [x8, List.take_left]⟩
  have hxe : ((s.tk i).lists = true → x.e = 0 ∧ x.told = s.p.b) ∧ ((s.tk i).lists = false → x.e = moveE s.p (s.tk i) ∧ x.told = [] ∧ (s.act1 i).p = moveS s.p (s.tk i)) ∧ ((s.tk i).lists = true → (s.act1 i).p = s.p) := by
    have hf := H.fresh i ha
    have hxx : x = (s.act1 i).tk i := by rw [et, if_pos rfl]
    have h2 : ∀ (y : Tk), (⟨s.p, s.t.set i y, s.h, s.done⟩ : Bs).tk i = y := fun y => by rw [tk_set _ _ _ _ hi, if_pos rfl]
    refine ⟨fun h => ?_, fun h => ?_, fun h => ?_⟩
    · rw [hxx]
      unfold act1
      rw [if_pos h]
      rw [tk_set _ _ _ _ hi, if_pos rfl]
      exact ⟨hf.1, rfl⟩
    · rw [hxx]
      unfold act1
      rw [if_neg (by rw [h]; simp)]
      rw [tk_set _ _ _ _ hi, if_pos rfl]
      refine ⟨rfl, hf.2, ?_⟩
      unfold moveS
      rw [if_neg (by rw [h]; simp)]
    · unfold act1
      rw [if_pos h]
  refine ⟨?_, fun j hj hl => ?_, fun j hj hl => ?_, fun j hj => ?_, fun j hj => ?_⟩
  · rw [x8, hr, rep_snoc, ← H.now]
    cases hl : (s.tk i).lists
    · exact (hxe.2.1 hl).2.2
    · rw [hxe.2.2 hl]
      unfold moveS
      rw [if_pos hl]
  · rw [x8, List.length_append, List.length_singleton] at hj
    by_cases h : j < s.done.length
    · obtain ⟨h1, h2, h3⟩ := hold j h
      rw [h1, h2] at hl
      rw [h1, h2, h3, hr]
      exact H.list j h hl
    · obtain rfl : j = s.done.length := by omega
      rw [hnew.1, et, if_pos rfl] at hl
      rw [hnew.1, hnew.2, et, if_pos rfl, hr, ← H.now]
      exact hxe.1 (x4 ▸ hl)
  · rw [x8, List.length_append, List.length_singleton] at hj
    by_cases h : j < s.done.length
    · obtain ⟨h1, h2, h3⟩ := hold j h
      rw [h1, h2] at hl
      rw [h1, h2, h3, hr]
      exact H.move j h hl
    · obtain rfl : j = s.done.length := by omega
      rw [hnew.1, et, if_pos rfl] at hl
      rw [hnew.1, hnew.2, et, if_pos rfl, hr, ← H.now, (hxe.2.1 (x4 ▸ hl)).1]
      unfold moveE
      rw [x1, x2, x3]
  · rw [et] at hj ⊢
    by_cases h : j = i
    · rw [if_pos h, x5] at hj; cases hj
    · rw [if_neg h] at hj ⊢
      exact H.fresh j hj
  · rw [et] at hj ⊢
    by_cases h : j = i
    · rw [if_pos h] at hj ⊢
      exact (hxe.2.1 (x4 ▸ hj)).2.1
    · rw [if_neg h] at hj ⊢
      exact H.mover j hj
theorem Hist.step {p0 : Ps} {s : Bs} (V : Inv s) (H : Hist p0 s) (i : Int) : Hist p0 (s.stepS i) := by
  unfold stepS
  split
  · rename_i h
    obtain ⟨h1, h2⟩ := stepE_zero.1 h
    obtain ⟨k, rfl, hk, ho⟩ := goes_nat h1
    rw [Int.toNat_natCast] at h2 ⊢
    unfold step1
    by_cases hw : s.wants k < 4
    · rw [if_pos hw]
      exact H.keep rfl rfl (fun d => ⟨rfl, rfl, rfl, rfl, rfl, rfl, rfl⟩)
    · rw [if_neg hw]
      cases ha : (s.tk k).acted
      · exact H.act V hk ha
      · refine H.keep (s' := s.free1 k) rfl rfl (fun d => ?_)
        have et : (s.free1 k).tk d = if d = k then { s.tk k with over := true } else s.tk d := tk_set _ _ _ _ hk d
        rw [et]
        split
        · rename_i e; subst e; exact ⟨rfl, rfl, rfl, rfl, rfl, rfl, rfl⟩
        · exact ⟨rfl, rfl, rfl, rfl, rfl, rfl, rfl⟩
  · exact H
theorem Hist.start {p0 : Ps} {s : Bs} (V : Inv s) (H : Hist p0 s) (a b : Int) (n : Nat) : Hist p0 (s.startS a b n) := by
  unfold startS
  split
  · exact H.add V _ rfl rfl
  · exact H
theorem Hist.lists {p0 : Ps} {s : Bs} (V : Inv s) (H : Hist p0 s) : Hist p0 s.listS := by
  unfold listS
  split
  · exact H.add V _ rfl rfl
  · exact H

/-! ### What a list comes to -/
theorem sum_new {l : List Nat} (h : Ps.newOk l = true) (t : Nat → Tk) (d : List Nat) : sumN (rep t (Ps.newS l) d).bal (rep t (Ps.newS l) d).b.length = sumN (fun i => l.getD i 0) l.length ∧ (rep t (Ps.newS l) d).b.length = l.length := by
  obtain ⟨h1, h2, h3, h4⟩ := rep_keeps t d _ (Ps.Wf.new h)
  refine ⟨?_, h4⟩
  rw [Ps.new_total] at h2
  unfold Ps.total at h2
  rw [sumN_zero (xs := fun i => ((rep t (Ps.newS l) d).hold i).2) (fun i _ => by
    have : (rep t (Ps.newS l) d).hold i = (Ps.newS l).hold i := by unfold Ps.hold; rw [h3]
    rw [this, Ps.new_hold])] at h2
  omega

/-! ### What is over stays -/
theorem over_stays {s : Bs} (V : Inv s) {j : Nat} (hj : j < s.t.length) (ho : (s.tk j).over = true) (i : Int) : (s.stepS i).tk j = s.tk j := by
  unfold stepS
  split
  · rename_i h
    obtain ⟨h1, h2⟩ := stepE_zero.1 h
    obtain ⟨k, rfl, hk, hko⟩ := goes_nat h1
    rw [Int.toNat_natCast] at h2 ⊢
    have hne : j ≠ k := fun e => by rw [e, hko] at ho; cases ho
    unfold step1
    by_cases hw : s.wants k < 4
    · rw [if_pos hw]
      rfl
    · rw [if_neg hw]
      cases ha : (s.tk k).acted
      · obtain ⟨x, hx, _⟩ := act_t s k
        rw [if_neg (by simp)]
        unfold tk
        rw [hx]
        exact (Ps.getD_set _ _ _ _ _ hk).trans (if_neg hne)
      · rw [if_pos rfl]
        exact (tk_set _ _ _ _ hk j).trans (if_neg hne)
  · rfl
theorem over_holds {s : Bs} (V : Inv s) {j : Nat} (ho : (s.tk j).over = true) {k : Nat} (hk : k < 4) : s.hold k ≠ (j : Int) := fun e => by
  have := (V.who k hk (by omega)).2.2
  rw [e, Int.toNat_natCast, ho] at this
  cases this
/-- Whoever acted, and holds nothing, is over. -/
theorem over_iff {s : Bs} (V : Inv s) {j : Nat} (hj : j < s.t.length) : (s.tk j).over = true ↔ (s.tk j).acted = true ∧ ∀ k, k < 4 → s.hold k ≠ (j : Int) := by
  constructor
  · exact fun h => ⟨V.oa j hj h, fun k hk => over_holds V h hk⟩
  · rintro ⟨ha, hh⟩
    cases ho : (s.tk j).over
    · obtain ⟨k, hk, hn⟩ := V.needs j hj
      exact absurd (V.all j hj ha ho k hk hn) (hh k hk)
    · rfl

/-- Whoever acts holds all that it needs. -/
theorem act_case {s : Bs} (V : Inv s) {k : Nat} (hk : k < s.t.length) (ha : (s.tk k).acted = false) (hb : ((s.stepS (k : Int)).tk k).acted = true) : s.stepE (k : Int) = 0 ∧ ∀ j, j < 4 → (s.tk k).need j = true → (s.stepS (k : Int)).hold j = (k : Int) := by
  have h0 : s.stepE (k : Int) = 0 := by
    by_cases h : s.stepE (k : Int) = 0
    · exact h
    · unfold stepS at hb
      rw [if_neg h, ha] at hb
      cases hb
  refine ⟨h0, ?_⟩
  unfold stepS at hb ⊢
  rw [if_pos h0, Int.toNat_natCast] at hb ⊢
  unfold step1 at hb ⊢
  by_cases hw : s.wants k < 4
  · rw [if_pos hw] at hb
    rw [show (s.lock1 k (s.wants k)).tk k = s.tk k from rfl, ha] at hb
    cases hb
  · have h4 := wants_le s k
    rw [if_neg hw, ha, if_neg (by simp)]
    obtain ⟨x, hx, _, _, _, _, _, _, x7, _⟩ := act_t s k
    intro j hj hn
    have := wants_four.1 (show s.wants k = 4 by omega) j hj hn
    unfold hold at this ⊢
    rw [x7]
    exact this
theorem stepE_some {s : Bs} (V : Inv s) {k : Nat} (hk : k < s.t.length) : s.stepE (k : Int) = 0 ∨ s.stepE (k : Int) = 100 ∨ (s.stepE (k : Int) = 3 ∧ (s.tk k).acted = true) := by
  by_cases ho : (s.tk k).over = true
  · refine .inr (.inr ⟨?_, V.oa k hk ho⟩)
    unfold stepE
    rw [if_pos]
    unfold goes
    rw [Int.toNat_natCast, ho]
    simp
  · have hg := goes_of hk (by simpa using ho)
    unfold stepE
    rw [hg, if_neg (by simp)]
    split
    · exact .inr (.inl rfl)
    · exact .inl rfl
theorem stepE_none {s : Bs} {k : Nat} (hk : s.t.length ≤ k) : s.stepE (k : Int) = 3 := by
  unfold stepE
  rw [if_pos]
  unfold goes
  rw [decide_eq_false (by omega), Bool.false_and]

theorem dn_of {s : Bs} {i : Nat} (h : i ∈ s.done) : ∃ j, j < s.done.length ∧ s.dn j = i := by
  obtain ⟨j, hj, e⟩ := List.mem_iff_getElem.1 h
  refine ⟨j, hj, ?_⟩
  unfold dn
  rw [List.getD_eq_getElem?_getD, List.getElem?_eq_getElem hj]
  exact e
theorem list_told {s : Bs} {l : List Nat} (V : Inv s) (hl : Ps.newOk l = true) (H : Hist (Ps.newS l) s) {i : Nat} (hi : i < s.t.length) (hx : (s.tk i).lists = true) (ha : (s.tk i).acted = true) :
    (s.tk i).told.length = l.length ∧ sumN (fun j => (s.tk i).told.getD j 0) (s.tk i).told.length = sumN (fun j => l.getD j 0) l.length := by
  obtain ⟨j, hj, e⟩ := dn_of ((V.done i).2 ⟨hi, ha⟩)
  have h1 := (H.list j hj (by rw [e]; exact hx)).2
  rw [e] at h1
  obtain ⟨h2, h3⟩ := sum_new hl s.tk (s.done.take j)
  rw [h1]
  exact ⟨h3, h2⟩
end Bs
end Go.Proofs.Ytldcglmpnildiaa
