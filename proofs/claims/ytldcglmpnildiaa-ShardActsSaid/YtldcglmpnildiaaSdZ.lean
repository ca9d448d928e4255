/- A bank's step. A bank's step, whole. slices.Contains of ints; what a task that begins is. -/
import Derived.Test.YtldcglmpnildiaaSdY
namespace Go.Proofs.Ytldcglmpnildiaa
open Go.RowKit
set_option linter.unusedVariables false
set_option maxRecDepth 100000

namespace Bs
theorem stepS_lock {s : Bs} {i : Nat} (h : s.stepE (i : Int) = 0) (hw : s.wants i < 4) : s.stepS (i : Int) = s.lock1 i (s.wants i) := by
  unfold stepS step1
  rw [if_pos h, Int.toNat_natCast, if_pos hw]
theorem step_todo {s : Bs} (V : s.Inv) {i : Nat} (hi : i < s.t.length) (ho : (s.tk i).over = false) (h : s.stepE (i : Int) = 0) :
    (∃ x, s.todo i = x :: (s.stepS (i : Int)).todo i) ∧ ∀ j, j ≠ i → (s.stepS (i : Int)).todo j = s.todo j := by
  rcases step_case V hi ho with ⟨hw, ha, ht, he⟩ | ⟨hw, ha, ht, he, hs⟩ | ⟨hw, ha, ht, he, hs⟩
  · have hf : s.hold (s.wants i) < 0 := by
      rw [h] at he
      by_cases h0 : 0 ≤ s.hold (s.wants i)
      · rw [if_pos h0] at he; omega
      · omega
    rw [stepS_lock h hw]
    exact ⟨⟨_, ht⟩, fun j hj => todo_lock' V hw hf hj⟩
  · rw [hs]
    exact ⟨⟨.act, by rw [todo_acted hi hw ho]; exact ht⟩, fun j hj => todo_act' hi hj⟩
  · rw [hs]
    exact ⟨⟨.fin, by rw [todo_freed hi]; exact ht⟩, fun j hj => todo_free' hi hj⟩
end Bs

section
variable {O I : Nat → Prop} {w w' : World} {p : Nat} {s s' : Bs} {td : Nat → List Sp} {B T r : Nat} {q : Nat → Nat} {tv dv : Value}
theorem TaskAt.over {x y : Tk} {L : List Sp} {qi i : Nat} (h : TaskAt I w p qi i x L) (e : y = { x with over := y.over }) : TaskAt I w p qi i y L := by
  obtain ⟨d, st, to, h1, h2, h3, h4⟩ := h
  rw [e]
  exact ⟨d, st, to, h1, h2.same rfl rfl rfl rfl, h3, h4⟩
/-- Locks alone have turned. -/
theorem BkAt.setP (h : BkAt O p s td w B T r q tv dv I) (f : Fr (· = p) w w') (hb : Blk w' p 75 (cellsB r q s'.hold tv dv)) (ep : s'.p = s.p) (el : s'.t.length = s.t.length) (ed : s'.done = s.done) (ht : ∀ j, s'.tk j = { s.tk j with over := (s'.tk j).over }) :
    BkAt O p s' td w' B T r q tv dv I := by
  have hp0 : ∀ k, Btw B T k → ¬ k = p := fun k hk e => by have := hk.2; have := h.loP; omega
  exact
  { h with
    pu := by rw [ep]; exact h.pu.fr f hp0
    blk := hb
    new := fun j hj => by
      have h1 := h.new j (by rw [ht j] at hj; exact hj)
      rw [ht j]
      exact h1
    tasks := by rw [el]; exact owns_fr h.tasks f (fun k hk e => h.tp (e ▸ hk))
    done := by rw [ed]; exact owns_fr h.done f (fun k hk e => h.dp (e ▸ hk))
    task := fun j hj => by
      rw [el] at hj
      exact ((h.task j hj).fr f (fun e => h.pq hj e.symm) (fun k hk e => h.iP (e ▸ hk)) (fun _ => id)).over (ht j)
    loQ := fun j hj => h.loQ j (el ▸ hj)
    oQ := fun j hj => h.oQ j (el ▸ hj)
    iQ := fun j hj => h.iQ j (el ▸ hj) }
theorem callFunc10 (f : FuncId) (h : ∀ (as' : Array Value) (W : World), (callFunc f as').run Try.prog W = .ok (.enter f as') W) : ∀ (as' : Array Value) (W : World), (callFunc f as').run Try.prog W = .ok (.enter f as') W := h

theorem thunk_call (V : s.Inv) (h : BkAt O p s s.todo w B T r q tv dv I) (hlt : ∀ k, O k → k < w.heap.size) {i : Nat} (hi : i < s.t.length) (ho : (s.tk i).over = false) :
    ∃ (f : FuncId) (recv : Value) (L : List Value), (s.todo i).map (Sp.val p (q i)) = .func (.func f) #[recv] #[] :: L ∧ (∀ (as' : Array Value) (W : World), (callFunc f as').run Try.prog W = .ok (.enter f as') W) ∧
      Calls Try.prog f #[recv] w fun e w' => e = .returned (.int .i64 (s.stepE (i : Int))) ∧
        if s.stepE (i : Int) = 0 then ∃ dv' I', BkAt (Grow O w w') p (s.stepS (i : Int)) s.todo w' B T r q tv dv' I' ∧ Fr O w w' else Fr No w w' := by
  rcases Bs.step_case V hi ho with ⟨hw, ha, ht, he⟩ | ⟨hw, ha, ht, he, hs⟩ | ⟨hw, ha, ht, he, hs⟩
  · rw [ht]
    refine ⟨_, _, _, rfl, fun as' W => rfl, ?_⟩
    have ck := h.lockCell hw
    by_cases h0 : 0 ≤ s.hold (s.wants i)
    · rw [if_pos h0] at he
      rw [he]
      rw [hp, if_pos h0] at ck
      exact (lock_held ck).mono fun e w' k => ⟨k.1, by rw [if_neg (by decide)]; exact k.2⟩
    · rw [if_neg h0] at he
      rw [hp, if_neg h0] at ck
      refine (lock_free (q := q i) ck (h.blk.frozen _)).mono ?_
      rintro e w' ⟨rfl, o, rfl⟩
      rw [he, if_pos rfl, Bs.stepS_lock he hw]
      have hf : Fr (· = p) w ((w.setCell ⟨p, 1 + s.wants i, none⟩ (at_ (q i) 0)).alloc o) := ((Fr.refl (· = p) w).setCell (p := ⟨p, 1 + s.wants i, none⟩) (.inl rfl) _).alloc _
      refine ⟨rfl, dv, I, ((h.setP (s' := s.lock1 i (s.wants i)) hf ?_ rfl rfl rfl (fun _ => rfl))).mono (fun _ => .inl), hf.mono (fun k _ e => e ▸ h.oP)⟩
      have e1 : ∀ j, (s.lock1 i (s.wants i)).hold j = if j = s.wants i then (i : Int) else s.hold j := fun j => Bs.hold_set _ _ _ _ (by rw [V.hl]; exact hw) j
      have h3 := (h.blk.set (1 + s.wants i) (at_ (q i) 0)).alloc o
      have e2 : at_ (q i) 0 = hp q ((s.lock1 i (s.wants i)).hold (s.wants i)) := by
        rw [e1, if_pos rfl, hp, if_pos (by omega), Int.toNat_natCast]
      have e3 := cellsB_set (r := r) (q := q) (f := s.hold) (g := (s.lock1 i (s.wants i)).hold) (tv := tv) (dv := dv) hw (fun j hj => by
        by_cases hjk : j = s.wants i
        · rw [if_pos hjk, hjk]
        · rw [if_neg hjk, e1, if_neg hjk])
      rw [← e2] at e3
      rw [e3] at h3
      exact h3
  · rw [ht]
    refine ⟨_, _, _, rfl, fun as' W => rfl, (act_any V h hlt hi ha).mono ?_⟩
    rintro e w' ⟨rfl, h1⟩
    rw [he, if_pos rfl, hs]
    exact ⟨rfl, h1⟩
  · rw [ht]
    obtain ⟨d, st, to, hb⟩ := h.qBlk hi
    refine ⟨_, _, _, rfl, fun as' W => rfl, (end_any (i := i) h.blk (hb.cell (i := 0) (v := at_ p 0) rfl) (h.pq hi) ⟨_, hb⟩ (fun k hk h0 => ?_)).mono ?_⟩
    · have hn := (V.who k hk h0).1
      obtain ⟨d2, st2, to2, hb2⟩ := h.qBlk hn
      refine ⟨⟨fun e => ?_, fun e => ?_⟩, fun e => h.pq hn e.symm, _, hb2⟩
      · have := h.qq hn hi e
        omega
      · rw [e, Int.toNat_natCast]
    · rintro e w' ⟨rfl, h1, h2⟩
      rw [he, if_pos rfl, hs]
      refine ⟨rfl, dv, I, (h.setP (s' := s.free1 i) h2 ?_ rfl (by simp [Bs.free1]) rfl (fun j => ?_)).mono (fun _ => .inl), h2.mono (fun k _ e => e ▸ h.oP)⟩
      · have e4 : cellsB r q (freeTo s.hold i 4) tv dv = cellsB r q (s.free1 i).hold tv dv := by
          have e5 : ∀ k, k < 4 → freeTo s.hold i 4 k = (s.free1 i).hold k := fun k hk => by
            have e6 : (s.free1 i).hold k = if s.hold k = (i : Int) then -1 else s.hold k := Bs.hold_free i _ _ _ k
            rw [e6]
            unfold freeTo
            by_cases h7 : s.hold k = (i : Int)
            · rw [if_pos ⟨hk, h7⟩, if_pos h7]
            · rw [if_neg (fun e => h7 e.2), if_neg h7]
          unfold cellsB
          rw [e5 0 (by omega), e5 1 (by omega), e5 2 (by omega), e5 3 (by omega)]
        rw [← e4]
        exact h1
      · rw [Bs.free_tk hi]
        split
        · rename_i e; rw [e]
        · rfl

/-- The first of the steps is done. -/
theorem BkAt.tail (h : BkAt O p s td w B T r q tv dv I) {i : Nat} (hi : i < s.t.length) {td' : Nat → List Sp} (f : Fr (· = q i) w w') {d st to : Value} (hb : Blk w' (q i) 86 (cellsT p i (s.tk i) d st to))
    (hd : Deed I w p (s.tk i) d) (hst : Steps I w ((td' i).map (Sp.val p (q i))) st) (hto : Told I w (s.tk i).told to) (ht : ∀ j, j ≠ i → td' j = td j) : BkAt O p s td' w' B T r q tv dv I := by
  have hI : ∀ k, I k → ¬ k = q i := fun k hk e => h.iQ i hi (e ▸ hk)
  exact
  { h with
    pu := h.pu.fr f (fun k hk e => by have := hk.2; have := h.loQ i hi; omega)
    blk := h.blk.fr f (h.pq hi)
    tasks := owns_fr h.tasks f (fun k hk e => h.tq hi (e ▸ hk))
    done := owns_fr h.done f (fun k hk e => h.dq hi (e ▸ hk))
    task := fun j hj => by
      by_cases hji : j = i
      · subst hji
        exact ⟨d, st, to, hb, hd.fr f hI (fun _ => id), hst.fr f hI (fun _ => id), hto.fr f hI (fun _ => id)⟩
      · rw [ht j hji]
        exact (h.task j hj).fr f (fun e => hji (h.qq hj hi e)) hI (fun _ => id) }
end
end Go.Proofs.Ytldcglmpnildiaa

namespace Go.Proofs.Ytldcglmpnildiaa
open Go.RowKit
set_option linter.unusedVariables false
set_option maxRecDepth 100000

section
variable {O I : Nat → Prop} {w w' : World} {p : Nat} {s : Bs} {B T r : Nat} {q : Nat → Nat} {tv dv : Value}
set_option maxHeartbeats 2000000 in
theorem step10_any (V : s.Inv) (h : BkAt O p s s.todo w B T r q tv dv I) (hlt : ∀ k, O k → k < w.heap.size) (i : Int) (hi : (Lit.int .i64 i).wf = true) :
    Calls Try.prog 12 #[.pointer (some ⟨p, 0, none⟩), .int .i64 i] w fun e w' => e = .returned (.int .i64 (s.stepE i)) ∧ ∃ dv' I', BkAt (Grow O w w') p (s.stepS i) (s.stepS i).todo w' B T r q tv dv' I' ∧ Fr O w w' := by
  have HB := Lib.hid (find10_any h i)
  have HSAME : Hid (∀ w', Fr No w w' → s.stepE i ≠ 0 → ∃ dv' I', BkAt (Grow O w w') p (s.stepS i) (s.stepS i).todo w' B T r q tv dv' I' ∧ Fr O w w') := Lib.hid (fun w' f hne => by
    have e : s.stepS i = s := by unfold Bs.stepS; rw [if_neg hne]
    rw [e]
    exact ⟨dv, I, (h.no f).mono (fun _ => .inl), f.mono (fun _ _ e => e.elim)⟩)
  cases hin : s.isIn i with
  | false =>
    have e1 : s.findV q i = .pointer none := by unfold Bs.findV; rw [hin]; rfl
    have hin' := hin
    unfold Bs.isIn at hin'
    rw [decide_eq_false_iff_not] at hin'
    have e2 : s.stepE i = 3 := by
      unfold Bs.stepE
      have : s.goes i = false := by unfold Bs.goes; rw [decide_eq_false hin']; rfl
      rw [this]; rfl
    rw [e1, hin] at HB
    rw [e2] at HSAME
    rw [e2]
    clear h hlt hin hin' e1 e2 V
    go_enter Try.func12, Try.ntmps12
    go_wp2_with fail
    refine HB.out.mono ?_
    rintro x w1 ⟨rfl, rfl⟩
    go_wp2
    go_ret
    exact ⟨rfl, HSAME.out _ (Fr.refl _ _) (by decide)⟩
  | true =>
    have hin' := hin
    unfold Bs.isIn at hin'
    rw [decide_eq_true_eq] at hin'
    obtain ⟨k, rfl⟩ : ∃ k : Nat, i = (k : Int) := ⟨i.toNat, by omega⟩
    have hk : k < s.t.length := by omega
    have e1 : s.findV q (k : Int) = .pointer (some ⟨q k, 0, none⟩) := by unfold Bs.findV; rw [hin, Int.toNat_natCast]; rfl
    rw [e1, hin] at HB
    obtain ⟨d, st, to, hb, hd, hst, hto⟩ := h.task k hk
    cases ho : (s.tk k).over with
    | true =>
      obtain ⟨sa, sc, rfl, h1, h2, h3⟩ := hst
      have hb' := hb
      rw [Bs.todo_over ho] at hb'
      have c3 := hb'.cell (i := 3) (v := .slice sa 0 sc) rfl
      have e2 : s.stepE (k : Int) = 3 := by
        unfold Bs.stepE
        have : s.goes (k : Int) = false := by unfold Bs.goes; rw [Int.toNat_natCast, ho]; simp
        rw [this]; rfl
      obtain ⟨qk, hqk⟩ : ∃ x, x = q k := ⟨_, rfl⟩
      rw [← hqk] at c3 HB
      rw [e2] at HSAME
      rw [e2]
      clear h hlt hin hin' e1 e2 V hk hb hb' hd hto h1 h2 h3 ho hi hqk
      go_enter Try.func12, Try.ntmps12
      go_wp2_with fail
      refine HB.out.mono ?_
      rintro x w1 ⟨rfl, rfl⟩
      go_wp2
      go_ret
      exact ⟨rfl, HSAME.out _ (Fr.refl _ _) (by decide)⟩
    | false =>
      obtain ⟨f, recv, L, hL, hcf, hcall⟩ := thunk_call V h hlt hk ho
      have HTAIL := Lib.hid (fun he => Bs.step_todo V hk ho he)
      have HLEN : Hid ((s.stepS (k : Int)).t.length = s.t.length ∧ k < s.t.length) := Lib.hid ⟨by rw [← Bs.sts_len, Bs.sts_step, Bs.sts_len], hk⟩
      rw [hL] at hst
      obtain ⟨sa, sc, rfl, h1, h2, h3⟩ := hst
      obtain ⟨g, o, rfl, hIg, hc0⟩ := h3 0 _ rfl
      have c3 := hb.cell (i := 3) (v := .slice (some ⟨g, o, none⟩) (L.length + 1) sc) rfl
      rw [Nat.add_zero] at hc0
      have HC := Lib.hid hcall
      obtain ⟨m, hm⟩ : ∃ m, m = L.length + 1 := ⟨_, rfl⟩
      have hm0 : 0 < m := by omega
      have t0 : ((m : Int) == 0) = false := by rw [beq_eq_false_iff_ne]; omega
      have t1 : (0 : Int) < (m : Int) := by omega
      have HM : Hid (m = L.length + 1) := Lib.hid hm
      rw [← hm] at c3
      have HLx : Hid ((s.todo k).map (Sp.val p (q k)) = .func (.func f) #[recv] #[] :: L) := Lib.hid hL
      obtain ⟨qk, hqk⟩ : ∃ x, x = q k := ⟨_, rfl⟩
      have HQK := Lib.hid hqk
      rw [← hqk] at c3 HB
      obtain ⟨E, hE⟩ : ∃ E, E = s.stepE (k : Int) := ⟨_, rfl⟩
      rw [← hE] at HC HSAME HTAIL ⊢
      clear h hlt hin hin' e1 V hk hb hd hto h1 h2 h3 ho hi hqk hE hcall hL hm hIg
      by_cases hE0 : E = 0
      · subst hE0
        go_enter Try.func12, Try.ntmps12
        go_wp2_with fail
        refine HB.out.mono ?_
        rintro x w1 ⟨rfl, rfl⟩
        go_wp2_with fail
        refine HC.out.mono ?_
        rintro e w2 ⟨rfl, hpost⟩
        rw [if_pos trivial] at hpost
        obtain ⟨dv', I', hB2, hF2⟩ := hpost
        have HB2 := Lib.hid hB2
        have HF2 := Lib.hid hF2
        obtain ⟨d2, st2, to2, hb2, hd2, hst2, hto2⟩ := hB2.task k (by rw [HLEN.out.1]; exact HLEN.out.2)
        rw [HLx.out] at hst2
        obtain ⟨sa2, sc2, rfl, h1, h2, h3⟩ := hst2
        obtain ⟨g2, o2, rfl, hIg2, hc2⟩ := h3 0 _ rfl
        have hb2' := hb2
        rw [← HQK.out] at hb2'
        have c3b := hb2'.cell (i := 3) (v := .slice (some ⟨g2, o2, none⟩) (L.length + 1) sc2) rfl
        have f3b := hb2'.frozen 3
        rw [← HM.out] at c3b
        have HBLK := Lib.hid hb2'
        have HD2 := Lib.hid hd2
        have HTO2 := Lib.hid hto2
        have HST := Lib.hid h3
        have HLC : Hid (m ≤ sc2 ∧ sc2 ≤ maxLen) := Lib.hid ⟨by rw [HM.out]; exact h1, h2⟩
        have t2 : (1 : Int) ≤ (m : Int) := by omega
        have t3 : m ≤ sc2 := HLC.out.1
        have t4 : 1 ≤ m := hm0
        have s1 : ((m : Int) - 1).toNat = L.length := by have := HM.out; omega
        have HFIN : Hid (∀ v, Steps I' w2 L v → ∃ dv' I', BkAt (Grow O w (w2.setCell ⟨qk, 3, none⟩ v)) p (s.stepS (k : Int)) (s.stepS (k : Int)).todo (w2.setCell ⟨qk, 3, none⟩ v) B T r q tv dv' I' ∧ Fr O w (w2.setCell ⟨qk, 3, none⟩ v)) := Lib.hid (fun v hv => by
          obtain ⟨⟨x, hx⟩, ht⟩ := HTAIL.out trivial
          have hL2 : ((s.stepS (k : Int)).todo k).map (Sp.val p (q k)) = L := by
            have h4 := HLx.out
            rw [hx, List.map_cons] at h4
            exact (List.cons.inj h4).2
          have hkl : k < (s.stepS (k : Int)).t.length := by rw [HLEN.out.1]; exact HLEN.out.2
          have hf : Fr (· = qk) w2 (w2.setCell ⟨qk, 3, none⟩ v) := (Fr.refl (· = qk) w2).setCell (p := ⟨qk, 3, none⟩) (.inl rfl) v
          have hb4 : Blk (w2.setCell ⟨qk, 3, none⟩ v) (q k) 86 (cellsT p k ((s.stepS (k : Int)).tk k) d2 v to2) := by
            have := HBLK.out.set 3 v
            rw [HQK.out] at this
            rw [HQK.out]
            exact this
          have hoq : O (q k) ∨ w.heap.size ≤ q k := by
            have := HB2.out.oQ k hkl
            exact this.elim .inl (fun e => .inr e.1)
          refine ⟨dv', I', (BkAt.tail HB2.out hkl (td' := (s.stepS (k : Int)).todo) (HQK.out ▸ hf) hb4 HD2.out (by rw [hL2]; exact hv) HTO2.out ht).mono (fun j hj => hj.elim .inl (fun e => .inr ⟨e.1, by have := e.2; have := hf.size; omega⟩)), HF2.out.trans' hf (fun j hj e => ?_)⟩
          subst e
          rw [HQK.out] at hj ⊢
          exact hoq.elim id (fun e => by omega))
        clear hB2 hF2 hb2 hd2 hto2 h1 h2 h3 hIg2 hc2 hb2'
        go_wp2_with fail
        · go_ret
          obtain ⟨dv2, I2, h6, h7⟩ := HFIN.out (.slice (some ⟨g2, o2, none⟩) (m - 1) 0) ⟨_, 0, by rw [show m - 1 = L.length from by have := HM.out; omega], by have := HLC.out; have := HM.out; omega, by unfold maxLen; omega, fun j u hu => by
            have h4 : j < L.length := (List.getElem?_eq_some_iff.1 hu).1
            have := HLC.out
            have := HM.out
            omega⟩
          exact ⟨rfl, ⟨dv2, I2, h6⟩, h7⟩
        · go_ret
          obtain ⟨dv2, I2, h6, h7⟩ := HFIN.out (.slice (some ⟨g2, o2 + 1, none⟩) (m - 1) (sc2 - 1)) ⟨_, sc2 - 1, by rw [show m - 1 = L.length from by have := HM.out; omega], by have := HLC.out; have := HM.out; omega, by have := HLC.out.2; omega, fun j u hu => by
            obtain ⟨g3, o3, he, hI3, hc3⟩ := HST.out (j + 1) u hu
            injection he with he
            injection he with e1 e2
            subst e1
            subst e2
            exact ⟨_, _, rfl, hI3, by rw [show o2 + 1 + j = o2 + (j + 1) by omega]; exact hc3⟩⟩
          exact ⟨rfl, ⟨dv2, I2, h6⟩, h7⟩
      · have t5 : (E == 0) = false := by rw [beq_eq_false_iff_ne]; exact hE0
        have HE0 := Lib.hid hE0
        go_enter Try.func12, Try.ntmps12
        go_wp2_with fail
        refine HB.out.mono ?_
        rintro x w1 ⟨rfl, rfl⟩
        go_wp2_with fail
        refine HC.out.mono ?_
        rintro e w2 ⟨rfl, hpost⟩
        rw [if_neg HE0.out] at hpost
        have HP := Lib.hid hpost
        clear hpost
        go_wp2
        go_ret
        exact ⟨rfl, HSAME.out _ HP.out HE0.out⟩
end
end Go.Proofs.Ytldcglmpnildiaa

namespace Go.Proofs.Ytldcglmpnildiaa
open Go.RowKit
set_option linter.unusedVariables false
set_option maxRecDepth 100000

set_option maxHeartbeats 2000000 in
theorem indexI_any {g n c : Nat} {xs : List Int} {w : World} (k : Int) (hn : n = xs.length) (hs : n ≤ 1000) (hc : ∀ j, j < n → w.cell? ⟨g, j, none⟩ = some (.int .i64 (xs.getD j 0))) :
    Calls Try.prog 46 #[.slice (some ⟨g, 0, none⟩) n c, .int .i64 k] w fun e w' => ∃ r : Int, e = .returned (.int .i64 r) ∧ (0 ≤ r ↔ k ∈ xs) ∧ w = w' := by
  have HC := Lib.hid hc
  have HN := Lib.hid hn
  have HS := Lib.hid hs
  have HYES : Hid (∀ i, i < n → xs.getD i 0 = k → k ∈ xs) := Lib.hid (fun i hi e => by
    rw [hn] at hi
    rw [List.getD_eq_getElem?_getD, List.getElem?_eq_getElem hi] at e
    rw [← e]
    exact List.getElem_mem hi)
  have HNO : Hid ((∀ j, j < n → xs.getD j 0 ≠ k) → k ∉ xs) := Lib.hid (fun h e => by
    obtain ⟨j, hj, e2⟩ := List.getElem_of_mem e
    apply h j (by omega)
    rw [List.getD_eq_getElem?_getD, List.getElem?_eq_getElem hj]
    exact e2)
  clear hc hn hs
  go_enter Try.func46, Try.ntmps46
  go_wp2_with fail
  go_loopw [5, 8] (fun _ c wr => ∃ i : Nat, i ≤ n ∧ c = .int .i64 i ∧ wr = w ∧ Hid (∀ j, j < i → xs.getD j 0 ≠ k)) (fun _ c _ => n - (intOf c).toNat)
  case atStart => exact ⟨0, by omega, rfl, rfl, Lib.hid (fun j hj => by omega)⟩
  case round =>
    obtain ⟨i, hi, rfl, rfl, HA⟩ := hrel
    by_cases hlt : i < n
    · have t1 : i < n := hlt
      have ci := HC.out i hlt
      obtain ⟨x, hx⟩ : ∃ x, x = xs.getD i 0 := ⟨_, rfl⟩
      rw [← hx] at ci
      obtain ⟨k1, hk1⟩ : ∃ k, k = i + 1 := ⟨_, rfl⟩
      have HK1 : Hid (k1 = i + 1 ∧ k1 ≤ n) := Lib.hid ⟨hk1, by omega⟩
      have s1 : (i : Int) + 1 = (k1 : Int) := by omega
      have l1 : IntKind.i64.wrap (k1 : Int) = (k1 : Int) := IntWalk.i64_in _ (by have := HS.out; omega)
      by_cases he : k = x
      · have t2 : (k == x) = true := by rw [beq_iff_eq]; exact he
        have HY : Hid (k ∈ xs) := Lib.hid (HYES.out i hlt (by rw [← hx, he]))
        clear hlt hi hk1 hx he
        go_wp2
        go_ret
        exact ⟨(i : Int), rfl, ⟨fun _ => HY.out, fun _ => by omega⟩, rfl⟩
      · have t2 : (k == x) = false := by rw [beq_eq_false_iff_ne]; exact he
        have HA2 : Hid (∀ j, j < k1 → xs.getD j 0 ≠ k) := Lib.hid (fun j hj => by
          by_cases e : j = i
          · rw [e, ← hx]; exact fun e => he e.symm
          · exact HA.out j (by omega))
        clear hlt hi hk1 hx he
        go_wp2
        exact ⟨⟨k1, HK1.out.2, rfl, trivial, HA2⟩, by have := HK1.out; simp [intOf]; omega⟩
    · have t1 : ¬ i < n := hlt
      obtain rfl : i = n := by omega
      have HNOT := Lib.hid (HNO.out HA.out)
      clear hlt hi
      go_wp2
      go_ret
      exact ⟨-1, rfl, ⟨fun h => by omega, fun h => absurd h HNOT.out⟩, rfl⟩

set_option maxHeartbeats 2000000 in
theorem containsI_any {g n c : Nat} {xs : List Int} {w : World} (k : Int) (y : Bool) (hy : y = true ↔ k ∈ xs) (hn : n = xs.length) (hs : n ≤ 1000) (hc : ∀ j, j < n → w.cell? ⟨g, j, none⟩ = some (.int .i64 (xs.getD j 0))) :
    Calls Try.prog 39 #[.slice (some ⟨g, 0, none⟩) n c, .int .i64 k] w fun e w' => e = .returned (.bool y) ∧ w = w' := by
  have HC := Lib.hid (indexI_any (c := c) k hn hs hc)
  have HY := Lib.hid hy
  clear hy hn hs hc
  go_enter Try.func39, Try.ntmps39
  go_wp2_with fail
  refine HC.out.mono ?_
  rintro e w1 ⟨r, rfl, hr, rfl⟩
  have t1 : decide (0 ≤ r) = y := by
    have h1 := HY.out
    cases y
    · rw [decide_eq_false_iff_not, hr]
      intro e
      have := h1.2 e
      cases this
    · rw [decide_eq_true_eq, hr]
      exact h1.1 rfl
  clear hr
  go_wp2
  go_ret
  exact ⟨rfl, rfl⟩

namespace Bs
/-- The locks of the first k that f tells. -/
def locksTo (f : Nat → Bool) : Nat → List Sp
  | 0 => []
  | k + 1 => locksTo f k ++ (if f k then [.lock k] else [])
theorem locksTo_four (f : Nat → Bool) : locksTo f 4 = locksF f := by
  unfold locksF
  simp only [locksTo, List.nil_append, List.append_assoc]
theorem locksTo_len (f : Nat → Bool) : ∀ k, (locksTo f k).length ≤ k
  | 0 => Nat.le_refl _
  | k + 1 => by
    have := locksTo_len f k
    simp only [locksTo, List.length_append]
    split
    · simp; omega
    · simp; omega
end Bs
theorem cellsQ_snoc (q q' : Nat → Nat) (n : Nat) (h : ∀ i, i < n → q' i = q i) : cellsQ q' (n + 1) = cellsQ q n ++ [at_ (q' n) 0] := by
  unfold cellsQ
  rw [List.range_succ, List.map_append]
  congr 1
  apply List.map_congr_left
  intro i hi
  rw [h i (List.mem_range.1 hi)]

section
variable {O I : Nat → Prop} {w w3 w' : World} {p : Nat} {s : Bs} {B T r : Nat} {q : Nat → Nat} {tv dv : Value}
/-- Boxes that a call has laid are the bank's from now on. -/
theorem BkAt.more {td : Nat → List Sp} {w0 : World} (h : BkAt O p s td w0 B T r q tv dv I) (hlt : ∀ k, O k → k < w0.heap.size) (f : Fr No w0 w) : BkAt (Grow O w0 w) p s td w B T r q tv dv (fun k => I k ∨ Laid w0 w k) :=
  { (h.no f).mono (fun _ => .inl) with
    task := fun i hi => (h.task i hi).fr f id (fun _ _ => id) (fun k hk => .inl hk)
    oI := fun k hk => hk.elim (fun e => .inl (h.oI k e)) .inr
    iLo := fun k hk => hk.elim (h.iLo k) (fun e => by have := h.loP; have := hlt _ h.oP; have := e.1; omega)
    iP := fun e => e.elim h.iP (fun e => by have := hlt _ h.oP; have := e.1; omega)
    iQ := fun i hi e => e.elim (h.iQ i hi) (fun e => by have := hlt _ (h.oQ i hi); have := e.1; omega)
    iT := fun k hk e => e.elim (h.iT k hk) (fun e => by have := hlt _ (h.oT k hk); have := e.1; omega)
    iD := fun k hk e => e.elim (h.iD k hk) (fun e => by have := hlt _ (h.oD k hk); have := e.1; omega) }

theorem begin_made (V : s.Inv) (h : BkAt O p s s.todo w B T r q tv dv I) (hlt : ∀ k, O k → k < w.heap.size) {x : Tk} (ha : x.acted = false) (ho : x.over = false) (he : x.e = 0) (ht : x.told = []) {qn : Nat} {d st tv' : Value}
    (hd : Deed I w p x d) (f1 : Fr No w w3) (hq : Blk w3 qn 86 (cellsT p s.t.length x d st (.slice none 0 0))) (hq0 : w.heap.size ≤ qn) (hst : Steps (fun k => qn < k ∧ k < w3.heap.size) w3 ((Bs.locksF x.need ++ [Sp.act, Sp.fin]).map (Sp.val p qn)) st)
    (f2 : Fr (fun k => tv.ownBlock = some k ∨ k = p) w3 w') (hb : Blk w' p 75 (cellsB r q s.hold tv' dv)) (htv : w'.ownsRow T 69 1 tv' (s.t.length + 1) (cellsQ q s.t.length ++ [at_ qn 0]))
    (hloc : tv'.ownBlock = tv.ownBlock ∨ ∃ g, tv'.ownBlock = some g ∧ w3.heap.size ≤ g) :
    ∃ tv' q' I', BkAt (Grow O w w') p (s.add1 x) (s.add1 x).todo w' B T r q' tv' dv I' ∧ Fr O w w' := by
  have hl : (s.add1 x).t.length = s.t.length + 1 := by simp [Bs.add1]
  have hq3 := hq.lt
  have hs1 : w.heap.size ≤ w3.heap.size := f1.size
  have hs2 : w3.heap.size ≤ w'.heap.size := f2.size
  have hold : ∀ k, O k → k < w3.heap.size ∧ k ≠ qn := fun k hk => by have := hlt k hk; omega
  obtain ⟨q', hq'⟩ : ∃ q' : Nat → Nat, q' = fun i => if i = s.t.length then qn else q i := ⟨_, rfl⟩
  have hqi : ∀ i, i < s.t.length → q' i = q i := fun i hi => by rw [hq']; simp only; rw [if_neg (by omega)]
  have hqn : q' s.t.length = qn := by rw [hq']; exact if_pos rfl
  have hF : Fr O w w' := (f1.mono (fun _ _ e => e.elim)).trans' f2 (fun k hk e => e.elim (fun e => h.oT k e) (fun e => e ▸ h.oP))
  have hI2 : ∀ k, I k → ¬ (tv.ownBlock = some k ∨ k = p) := fun k hk e => e.elim (fun e => h.iT k e hk) (fun e => h.iP (e ▸ hk))
  have hTlo : T ≤ w.heap.size := by have := h.loP; have := hlt _ h.oP; omega
  have htn : tv.ownBlock ≠ some qn := fun e => by have := hlt _ (h.oT _ e); omega
  have hdo : ∀ k, tv'.ownBlock = some k → tv.ownBlock = some k ∨ (w3.heap.size ≤ k ∧ k < w'.heap.size) := fun k hk => by
    rcases hloc with e | ⟨g, e, hg⟩
    · exact .inl (e ▸ hk)
    · rw [e] at hk
      injection hk with hk
      subst hk
      exact .inr ⟨hg, (htv.lt g e).2⟩
  have tk0 : ∀ i, i < s.t.length → (s.add1 x).tk i = s.tk i := fun i hi => by rw [Bs.tk_add, if_neg (by omega)]
  have tk1 : (s.add1 x).tk s.t.length = x := by rw [Bs.tk_add, if_pos rfl]
  have hcase : ∀ i, i < s.t.length + 1 → i < s.t.length ∨ i = s.t.length := fun i hi => by omega
  refine ⟨tv', q', fun k => I k ∨ (qn < k ∧ k < w3.heap.size), ?_, hF⟩
  exact
  { pu := (h.pu.no f1).fr f2 (fun k hk e => e.elim (fun e => by have := h.tlo e; have := hk.2; omega) (fun e => by have := h.loP; have := hk.2; omega))
    blk := by
      have e1 : ∀ k, k < 4 → hp q' ((s.add1 x).hold k) = hp q (s.hold k) := fun k hk => by
        show hp q' (s.hold k) = _
        unfold hp
        by_cases h0 : 0 ≤ s.hold k
        · rw [if_pos h0, if_pos h0, hqi _ (V.who k hk h0).1]
        · rw [if_neg h0, if_neg h0]
      unfold cellsB
      rw [e1 0 (by omega), e1 1 (by omega), e1 2 (by omega), e1 3 (by omega)]
      exact hb
    new := fun i hi => by
      rw [Bs.tk_add] at hi ⊢
      by_cases e : i = s.t.length
      · rw [if_pos e]; exact ⟨he, ht⟩
      · rw [if_neg e] at hi ⊢; exact h.new i hi
    tasks := by
      rw [hl, cellsQ_snoc q q' _ hqi, hqn]
      exact htv
    done := owns_fr (owns_fr h.done f1 (fun _ _ => id)) f2 (fun k hk e => e.elim (fun e => own_own_ne h.tasks h.done (by decide) e hk) (fun e => h.dp (e ▸ hk)))
    task := fun i hi => by
      rw [hl] at hi
      rcases hcase i hi with hi | rfl
      · rw [hqi i hi, tk0 i hi, Bs.todo_add' (by omega)]
        exact ((h.task i hi).fr f1 id (fun _ _ => id) (fun _ => id)).fr f2 (fun e => e.elim (fun e => h.tq hi e) (fun e => h.pq hi e.symm)) hI2 (fun k hk => .inl hk)
      · rw [hqn, tk1, Bs.todo_new V ho ha]
        refine ⟨d, st, .slice none 0 0, hq.fr f2 (fun e => e.elim htn (fun e => by have := hlt _ h.oP; omega)), (hd.fr f1 (fun _ _ => id) (fun _ => id)).fr f2 hI2 (fun k hk => .inl hk), hst.fr f2 (fun k hk e => ?_) (fun k hk => .inr hk), .inl ⟨ht, rfl⟩⟩
        have h9 := e.elim (fun e => hlt _ (h.oT k e)) (fun e => e ▸ hlt _ h.oP)
        have := hk.1
        omega
    loP := h.loP
    loQ := fun i hi => by
      rcases hcase i (hl ▸ hi) with hi | rfl
      · rw [hqi i hi]; exact h.loQ i hi
      · rw [hqn]; omega
    oR := fun k hk => .inl (h.oR k hk)
    oP := .inl h.oP
    oQ := fun i hi => by
      rcases hcase i (hl ▸ hi) with hi | rfl
      · rw [hqi i hi]; exact .inl (h.oQ i hi)
      · rw [hqn]; exact .inr ⟨hq0, by omega⟩
    oT := fun k hk => (hdo k hk).elim (fun e => .inl (h.oT k e)) (fun e => .inr ⟨by omega, e.2⟩)
    oD := fun k hk => .inl (h.oD k hk)
    oI := fun k hk => hk.elim (fun e => .inl (h.oI k e)) (fun e => .inr ⟨by have := e.1; omega, by have := e.2; omega⟩)
    iLo := fun k hk => hk.elim (h.iLo k) (fun e => by have := e.1; omega)
    iP := fun e => e.elim h.iP (fun e => by have := hlt _ h.oP; have := e.1; omega)
    iQ := fun i hi e => by
      rcases hcase i (hl ▸ hi) with hi | rfl
      · rw [hqi i hi] at e
        exact e.elim (h.iQ i hi) (fun e => by have := hlt _ (h.oQ i hi); have := e.1; omega)
      · rw [hqn] at e
        exact e.elim (fun e => by have := hlt _ (h.oI _ e); omega) (fun e => by have := e.1; omega)
    iT := fun k hk e => (hdo k hk).elim (fun c => e.elim (h.iT k c) (fun e => by have := hlt _ (h.oT k c); have := e.1; omega)) (fun c => e.elim (fun e => by have := hlt _ (h.oI k e); omega) (fun e => by have := e.2; omega))
    iD := fun k hk e => e.elim (h.iD k hk) (fun e => by have := hlt _ (h.oD k hk); have := e.1; omega) }
end
end Go.Proofs.Ytldcglmpnildiaa
