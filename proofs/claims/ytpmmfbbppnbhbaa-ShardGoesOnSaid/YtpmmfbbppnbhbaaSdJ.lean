/- A bank's step. -/
import Derived.Test.YtpmmfbbppnbhbaaSdI
namespace Go.Proofs.Ytpmmfbbppnbhbaa
open Go.RowKit
set_option linter.unusedVariables false
set_option maxRecDepth 100000

namespace Bs
theorem stepS_lock {s : Bs} {i : Nat} (h : s.stepE (i : Int) = 0) (hw : s.wants i < 4) : s.stepS (i : Int) = s.lock1 i (s.wants i) := by
  unfold stepS step1
  rw [if_pos h, Int.toNat_natCast, if_pos hw]
theorem step_todo {s : Bs} (V : s.Inv) {i : Nat} (hi : i < s.t.length) (ho : (s.tk i).over = false) (h : s.stepE (i : Int) = 0) :
    (∃ x, s.todo i = x :: (s.stepS (i : Int)).todo i) ∧ ∀ j, j ≠ i → (s.stepS (i : Int)).todo j = s.todo j := by
  rcases step_case V hi ho with ⟨hw, ha, ht, he⟩ | ⟨hw, ha, ht, he, hs⟩ | ⟨hw, ha, ht, he, hs⟩
  · have hf : s.hold (s.wants i) < 0 := by
      rw [h] at he
      by_cases h0 : 0 ≤ s.hold (s.wants i)
      · rw [if_pos h0] at he; omega
      · omega
    rw [stepS_lock h hw]
    exact ⟨⟨_, ht⟩, fun j hj => todo_lock' V hw hf hj⟩
  · rw [hs]
    exact ⟨⟨.act, by rw [todo_acted hi hw ho]; exact ht⟩, fun j hj => todo_act' hi hj⟩
  · rw [hs]
    exact ⟨⟨.fin, by rw [todo_freed hi]; exact ht⟩, fun j hj => todo_free' hi hj⟩
end Bs

section
variable {O I : Nat → Prop} {w w' : World} {p : Nat} {s s' : Bs} {td : Nat → List Sp} {B T r : Nat} {q : Nat → Nat} {tv dv : Value}
theorem TaskAt.over {x y : Tk} {L : List Sp} {qi i : Nat} (h : TaskAt I w p qi i x L) (e : y = { x with over := y.over }) : TaskAt I w p qi i y L := by
  obtain ⟨d, st, to, h1, h2, h3, h4⟩ := h
  rw [e]
  exact ⟨d, st, to, h1, h2.same rfl rfl rfl rfl, h3, h4⟩
/-- Locks alone have turned. -/
theorem BkAt.setP (h : BkAt O p s td w B T r q tv dv I) (f : Fr (· = p) w w') (hb : Blk w' p 82 (cellsB r q s'.hold tv dv)) (ep : s'.p = s.p) (el : s'.t.length = s.t.length) (ed : s'.done = s.done) (ht : ∀ j, s'.tk j = { s.tk j with over := (s'.tk j).over }) :
    BkAt O p s' td w' B T r q tv dv I := by
  have hp0 : ∀ k, Btw B T k → ¬ k = p := fun k hk e => by have := hk.2; have := h.loP; omega
  exact
  { h with
    pu := by rw [ep]; exact h.pu.fr f hp0
    blk := hb
    new := fun j hj => by
      have h1 := h.new j (by rw [ht j] at hj; exact hj)
      rw [ht j]
      exact h1
    tasks := by rw [el]; exact owns_fr h.tasks f (fun k hk e => h.tp (e ▸ hk))
    done := by rw [ed]; exact owns_fr h.done f (fun k hk e => h.dp (e ▸ hk))
    task := fun j hj => by
      rw [el] at hj
      exact ((h.task j hj).fr f (fun e => h.pq hj e.symm) (fun k hk e => h.iP (e ▸ hk)) (fun _ => id)).over (ht j)
    loQ := fun j hj => h.loQ j (el ▸ hj)
    oQ := fun j hj => h.oQ j (el ▸ hj)
    iQ := fun j hj => h.iQ j (el ▸ hj) }
theorem callFunc10 (f : FuncId) (h : ∀ (as' : Array Value) (W : World), (callFunc f as').run Try.prog W = .ok (.enter f as') W) : ∀ (as' : Array Value) (W : World), (callFunc f as').run Try.prog W = .ok (.enter f as') W := h

theorem thunk_call (V : s.Inv) (h : BkAt O p s s.todo w B T r q tv dv I) (hlt : ∀ k, O k → k < w.heap.size) {i : Nat} (hi : i < s.t.length) (ho : (s.tk i).over = false) :
    ∃ (f : FuncId) (recv : Value) (L : List Value), (s.todo i).map (Sp.val p (q i)) = .func (.func f) #[recv] #[] :: L ∧ (∀ (as' : Array Value) (W : World), (callFunc f as').run Try.prog W = .ok (.enter f as') W) ∧
      Calls Try.prog f #[recv] w fun e w' => e = .returned (.int .i64 (s.stepE (i : Int))) ∧
        if s.stepE (i : Int) = 0 then ∃ dv' I', BkAt (Grow O w w') p (s.stepS (i : Int)) s.todo w' B T r q tv dv' I' ∧ Fr O w w' else Fr No w w' := by
  rcases Bs.step_case V hi ho with ⟨hw, ha, ht, he⟩ | ⟨hw, ha, ht, he, hs⟩ | ⟨hw, ha, ht, he, hs⟩
  · rw [ht]
    refine ⟨_, _, _, rfl, fun as' W => rfl, ?_⟩
    have ck := h.lockCell hw
    by_cases h0 : 0 ≤ s.hold (s.wants i)
    · rw [if_pos h0] at he
      rw [he]
      rw [hp, if_pos h0] at ck
      exact (lock_held ck).mono fun e w' k => ⟨k.1, by rw [if_neg (by decide)]; exact k.2⟩
    · rw [if_neg h0] at he
      rw [hp, if_neg h0] at ck
      refine (lock_free (q := q i) ck (h.blk.frozen _)).mono ?_
      rintro e w' ⟨rfl, o, rfl⟩
      rw [he, if_pos rfl, Bs.stepS_lock he hw]
      have hf : Fr (· = p) w ((w.setCell ⟨p, 1 + s.wants i, none⟩ (at_ (q i) 0)).alloc o) := ((Fr.refl (· = p) w).setCell (p := ⟨p, 1 + s.wants i, none⟩) (.inl rfl) _).alloc _
      refine ⟨rfl, dv, I, ((h.setP (s' := s.lock1 i (s.wants i)) hf ?_ rfl rfl rfl (fun _ => rfl))).mono (fun _ => .inl), hf.mono (fun k _ e => e ▸ h.oP)⟩
      have e1 : ∀ j, (s.lock1 i (s.wants i)).hold j = if j = s.wants i then (i : Int) else s.hold j := fun j => Bs.hold_set _ _ _ _ (by rw [V.hl]; exact hw) j
      have h3 := (h.blk.set (1 + s.wants i) (at_ (q i) 0)).alloc o
      have e2 : at_ (q i) 0 = hp q ((s.lock1 i (s.wants i)).hold (s.wants i)) := by
        rw [e1, if_pos rfl, hp, if_pos (by omega), Int.toNat_natCast]
      have e3 := cellsB_set (r := r) (q := q) (f := s.hold) (g := (s.lock1 i (s.wants i)).hold) (tv := tv) (dv := dv) hw (fun j hj => by
        by_cases hjk : j = s.wants i
        · rw [if_pos hjk, hjk]
        · rw [if_neg hjk, e1, if_neg hjk])
      rw [← e2] at e3
      rw [e3] at h3
      exact h3
  · rw [ht]
    refine ⟨_, _, _, rfl, fun as' W => rfl, (act_any V h hlt hi ha).mono ?_⟩
    rintro e w' ⟨rfl, h1⟩
    rw [he, if_pos rfl, hs]
    exact ⟨rfl, h1⟩
  · rw [ht]
    obtain ⟨d, st, to, hb⟩ := h.qBlk hi
    refine ⟨_, _, _, rfl, fun as' W => rfl, (end_any (i := i) h.blk (hb.cell (i := 0) (v := at_ p 0) rfl) (h.pq hi) ⟨_, hb⟩ (fun k hk h0 => ?_)).mono ?_⟩
    · have hn := (V.who k hk h0).1
      obtain ⟨d2, st2, to2, hb2⟩ := h.qBlk hn
      refine ⟨⟨fun e => ?_, fun e => ?_⟩, fun e => h.pq hn e.symm, _, hb2⟩
      · have := h.qq hn hi e
        omega
      · rw [e, Int.toNat_natCast]
    · rintro e w' ⟨rfl, h1, h2⟩
      rw [he, if_pos rfl, hs]
      refine ⟨rfl, dv, I, (h.setP (s' := s.free1 i) h2 ?_ rfl (by simp [Bs.free1]) rfl (fun j => ?_)).mono (fun _ => .inl), h2.mono (fun k _ e => e ▸ h.oP)⟩
      · have e4 : cellsB r q (freeTo s.hold i 4) tv dv = cellsB r q (s.free1 i).hold tv dv := by
          have e5 : ∀ k, k < 4 → freeTo s.hold i 4 k = (s.free1 i).hold k := fun k hk => by
            have e6 : (s.free1 i).hold k = if s.hold k = (i : Int) then -1 else s.hold k := Bs.hold_free i _ _ _ k
            rw [e6]
            unfold freeTo
            by_cases h7 : s.hold k = (i : Int)
            · rw [if_pos ⟨hk, h7⟩, if_pos h7]
            · rw [if_neg (fun e => h7 e.2), if_neg h7]
          unfold cellsB
          rw [e5 0 (by omega), e5 1 (by omega), e5 2 (by omega), e5 3 (by omega)]
        rw [← e4]
        exact h1
      · rw [Bs.free_tk hi]
        split
        · rename_i e; rw [e]
        · rfl

/-- The first of the steps is done. -/
theorem BkAt.tail (h : BkAt O p s td w B T r q tv dv I) {i : Nat} (hi : i < s.t.length) {td' : Nat → List Sp} (f : Fr (· = q i) w w') {d st to : Value} (hb : Blk w' (q i) 93 (cellsT p i (s.tk i) d st to))
    (hd : Deed I w p (s.tk i) d) (hst : Steps I w ((td' i).map (Sp.val p (q i))) st) (hto : Told I w (s.tk i).told to) (ht : ∀ j, j ≠ i → td' j = td j) : BkAt O p s td' w' B T r q tv dv I := by
  have hI : ∀ k, I k → ¬ k = q i := fun k hk e => h.iQ i hi (e ▸ hk)
  exact
  { h with
    pu := h.pu.fr f (fun k hk e => by have := hk.2; have := h.loQ i hi; omega)
    blk := h.blk.fr f (h.pq hi)
    tasks := owns_fr h.tasks f (fun k hk e => h.tq hi (e ▸ hk))
    done := owns_fr h.done f (fun k hk e => h.dq hi (e ▸ hk))
    task := fun j hj => by
      by_cases hji : j = i
      · subst hji
        exact ⟨d, st, to, hb, hd.fr f hI (fun _ => id), hst.fr f hI (fun _ => id), hto.fr f hI (fun _ => id)⟩
      · rw [ht j hji]
        exact (h.task j hj).fr f (fun e => hji (h.qq hj hi e)) hI (fun _ => id) }
end
end Go.Proofs.Ytpmmfbbppnbhbaa
