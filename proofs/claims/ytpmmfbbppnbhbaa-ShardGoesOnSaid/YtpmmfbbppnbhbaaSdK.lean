/- A bank's step, whole. -/
import Derived.Test.YtpmmfbbppnbhbaaSdJ
namespace Go.Proofs.Ytpmmfbbppnbhbaa
open Go.RowKit
set_option linter.unusedVariables false
set_option maxRecDepth 100000

section
variable {O I : Nat → Prop} {w w' : World} {p : Nat} {s : Bs} {B T r : Nat} {q : Nat → Nat} {tv dv : Value}
set_option maxHeartbeats 2000000 in
theorem step10_any (V : s.Inv) (h : BkAt O p s s.todo w B T r q tv dv I) (hlt : ∀ k, O k → k < w.heap.size) (i : Int) (hi : (Lit.int .i64 i).wf = true) :
    Calls Try.prog 17 #[.pointer (some ⟨p, 0, none⟩), .int .i64 i] w fun e w' => e = .returned (.int .i64 (s.stepE i)) ∧ ∃ dv' I', BkAt (Grow O w w') p (s.stepS i) (s.stepS i).todo w' B T r q tv dv' I' ∧ Fr O w w' := by
  have HB := Lib.hid (find10_any h i)
  have HSAME : Hid (∀ w', Fr No w w' → s.stepE i ≠ 0 → ∃ dv' I', BkAt (Grow O w w') p (s.stepS i) (s.stepS i).todo w' B T r q tv dv' I' ∧ Fr O w w') := Lib.hid (fun w' f hne => by
    have e : s.stepS i = s := by unfold Bs.stepS; rw [if_neg hne]
    rw [e]
    exact ⟨dv, I, (h.no f).mono (fun _ => .inl), f.mono (fun _ _ e => e.elim)⟩)
  cases hin : s.isIn i with
  | false =>
    have e1 : s.findV q i = .pointer none := by unfold Bs.findV; rw [hin]; rfl
    have hin' := hin
    unfold Bs.isIn at hin'
    rw [decide_eq_false_iff_not] at hin'
    have e2 : s.stepE i = 3 := by
      unfold Bs.stepE
      have : s.goes i = false := by unfold Bs.goes; rw [decide_eq_false hin']; rfl
      rw [this]; rfl
    rw [e1, hin] at HB
    rw [e2] at HSAME
    rw [e2]
    clear h hlt hin hin' e1 e2 V
    go_enter Try.func17, Try.ntmps17
    go_wp2_with fail
    refine HB.out.mono ?_
    rintro x w1 ⟨rfl, rfl⟩
    go_wp2
    go_ret
    exact ⟨rfl, HSAME.out _ (Fr.refl _ _) (by decide)⟩
  | true =>
    have hin' := hin
    unfold Bs.isIn at hin'
    rw [decide_eq_true_eq] at hin'
    obtain ⟨k, rfl⟩ : ∃ k : Nat, i = (k : Int) := ⟨i.toNat, by omega⟩
    have hk : k < s.t.length := by omega
    have e1 : s.findV q (k : Int) = .pointer (some ⟨q k, 0, none⟩) := by unfold Bs.findV; rw [hin, Int.toNat_natCast]; rfl
    rw [e1, hin] at HB
    obtain ⟨d, st, to, hb, hd, hst, hto⟩ := h.task k hk
    cases ho : (s.tk k).over with
    | true =>
      obtain ⟨sa, sc, rfl, h1, h2, h3⟩ := hst
      have hb' := hb
      rw [Bs.todo_over ho] at hb'
      have c3 := hb'.cell (i := 3) (v := .slice sa 0 sc) rfl
      have e2 : s.stepE (k : Int) = 3 := by
        unfold Bs.stepE
        have : s.goes (k : Int) = false := by unfold Bs.goes; rw [Int.toNat_natCast, ho]; simp
        rw [this]; rfl
      obtain ⟨qk, hqk⟩ : ∃ x, x = q k := ⟨_, rfl⟩
      rw [← hqk] at c3 HB
      rw [e2] at HSAME
      rw [e2]
      clear h hlt hin hin' e1 e2 V hk hb hb' hd hto h1 h2 h3 ho hi hqk
      go_enter Try.func17, Try.ntmps17
      go_wp2_with fail
      refine HB.out.mono ?_
      rintro x w1 ⟨rfl, rfl⟩
      go_wp2
      go_ret
      exact ⟨rfl, HSAME.out _ (Fr.refl _ _) (by decide)⟩
    | false =>
      obtain ⟨f, recv, L, hL, hcf, hcall⟩ := thunk_call V h hlt hk ho
      have HTAIL := Lib.hid (fun he => Bs.step_todo V hk ho he)
      have HLEN : Hid ((s.stepS (k : Int)).t.length = s.t.length ∧ k < s.t.length) := Lib.hid ⟨by rw [← Bs.sts_len, Bs.sts_step, Bs.sts_len], hk⟩
      rw [hL] at hst
      obtain ⟨sa, sc, rfl, h1, h2, h3⟩ := hst
      obtain ⟨g, o, rfl, hIg, hc0⟩ := h3 0 _ rfl
      have c3 := hb.cell (i := 3) (v := .slice (some ⟨g, o, none⟩) (L.length + 1) sc) rfl
      rw [Nat.add_zero] at hc0
      have HC := Lib.hid hcall
      obtain ⟨m, hm⟩ : ∃ m, m = L.length + 1 := ⟨_, rfl⟩
      have hm0 : 0 < m := by omega
      have t0 : ((m : Int) == 0) = false := by rw [beq_eq_false_iff_ne]; omega
      have t1 : (0 : Int) < (m : Int) := by omega
      have HM : Hid (m = L.length + 1) := Lib.hid hm
      rw [← hm] at c3
      have HLx : Hid ((s.todo k).map (Sp.val p (q k)) = .func (.func f) #[recv] #[] :: L) := Lib.hid hL
      obtain ⟨qk, hqk⟩ : ∃ x, x = q k := ⟨_, rfl⟩
      have HQK := Lib.hid hqk
      rw [← hqk] at c3 HB
      obtain ⟨E, hE⟩ : ∃ E, E = s.stepE (k : Int) := ⟨_, rfl⟩
      rw [← hE] at HC HSAME HTAIL ⊢
      clear h hlt hin hin' e1 V hk hb hd hto h1 h2 h3 ho hi hqk hE hcall hL hm hIg
      by_cases hE0 : E = 0
      · subst hE0
        go_enter Try.func17, Try.ntmps17
        go_wp2_with fail
        refine HB.out.mono ?_
        rintro x w1 ⟨rfl, rfl⟩
        go_wp2_with fail
        refine HC.out.mono ?_
        rintro e w2 ⟨rfl, hpost⟩
        rw [if_pos trivial] at hpost
        obtain ⟨dv', I', hB2, hF2⟩ := hpost
        have HB2 := Lib.hid hB2
        have HF2 := Lib.hid hF2
        obtain ⟨d2, st2, to2, hb2, hd2, hst2, hto2⟩ := hB2.task k (by rw [HLEN.out.1]; exact HLEN.out.2)
        rw [HLx.out] at hst2
        obtain ⟨sa2, sc2, rfl, h1, h2, h3⟩ := hst2
        obtain ⟨g2, o2, rfl, hIg2, hc2⟩ := h3 0 _ rfl
        have hb2' := hb2
        rw [← HQK.out] at hb2'
        have c3b := hb2'.cell (i := 3) (v := .slice (some ⟨g2, o2, none⟩) (L.length + 1) sc2) rfl
        have f3b := hb2'.frozen 3
        rw [← HM.out] at c3b
        have HBLK := Lib.hid hb2'
        have HD2 := Lib.hid hd2
        have HTO2 := Lib.hid hto2
        have HST := Lib.hid h3
        have HLC : Hid (m ≤ sc2 ∧ sc2 ≤ maxLen) := Lib.hid ⟨by rw [HM.out]; exact h1, h2⟩
        have t2 : (1 : Int) ≤ (m : Int) := by omega
        have t3 : m ≤ sc2 := HLC.out.1
        have t4 : 1 ≤ m := hm0
        have s1 : ((m : Int) - 1).toNat = L.length := by have := HM.out; omega
        have HFIN : Hid (∀ v, Steps I' w2 L v → ∃ dv' I', BkAt (Grow O w (w2.setCell ⟨qk, 3, none⟩ v)) p (s.stepS (k : Int)) (s.stepS (k : Int)).todo (w2.setCell ⟨qk, 3, none⟩ v) B T r q tv dv' I' ∧ Fr O w (w2.setCell ⟨qk, 3, none⟩ v)) := Lib.hid (fun v hv => by
          obtain ⟨⟨x, hx⟩, ht⟩ := HTAIL.out trivial
          have hL2 : ((s.stepS (k : Int)).todo k).map (Sp.val p (q k)) = L := by
            have h4 := HLx.out
            rw [hx, List.map_cons] at h4
            exact (List.cons.inj h4).2
          have hkl : k < (s.stepS (k : Int)).t.length := by rw [HLEN.out.1]; exact HLEN.out.2
          have hf : Fr (· = qk) w2 (w2.setCell ⟨qk, 3, none⟩ v) := (Fr.refl (· = qk) w2).setCell (p := ⟨qk, 3, none⟩) (.inl rfl) v
          have hb4 : Blk (w2.setCell ⟨qk, 3, none⟩ v) (q k) 93 (cellsT p k ((s.stepS (k : Int)).tk k) d2 v to2) := by
            have := HBLK.out.set 3 v
            rw [HQK.out] at this
            rw [HQK.out]
            exact this
          have hoq : O (q k) ∨ w.heap.size ≤ q k := by
            have := HB2.out.oQ k hkl
            exact this.elim .inl (fun e => .inr e.1)
          refine ⟨dv', I', (BkAt.tail HB2.out hkl (td' := (s.stepS (k : Int)).todo) (HQK.out ▸ hf) hb4 HD2.out (by rw [hL2]; exact hv) HTO2.out ht).mono (fun j hj => hj.elim .inl (fun e => .inr ⟨e.1, by have := e.2; have := hf.size; omega⟩)), HF2.out.trans' hf (fun j hj e => ?_)⟩
          subst e
          rw [HQK.out] at hj ⊢
          exact hoq.elim id (fun e => by omega))
        clear hB2 hF2 hb2 hd2 hto2 h1 h2 h3 hIg2 hc2 hb2'
        go_wp2_with fail
        · go_ret
          obtain ⟨dv2, I2, h6, h7⟩ := HFIN.out (.slice (some ⟨g2, o2, none⟩) (m - 1) 0) ⟨_, 0, by rw [show m - 1 = L.length from by have := HM.out; omega], by have := HLC.out; have := HM.out; omega, by unfold maxLen; omega, fun j u hu => by
            have h4 : j < L.length := (List.getElem?_eq_some_iff.1 hu).1
            have := HLC.out
            have := HM.out
            omega⟩
          exact ⟨rfl, ⟨dv2, I2, h6⟩, h7⟩
        · go_ret
          obtain ⟨dv2, I2, h6, h7⟩ := HFIN.out (.slice (some ⟨g2, o2 + 1, none⟩) (m - 1) (sc2 - 1)) ⟨_, sc2 - 1, by rw [show m - 1 = L.length from by have := HM.out; omega], by have := HLC.out; have := HM.out; omega, by have := HLC.out.2; omega, fun j u hu => by
            obtain ⟨g3, o3, he, hI3, hc3⟩ := HST.out (j + 1) u hu
            injection he with he
            injection he with e1 e2
            subst e1
            subst e2
            exact ⟨_, _, rfl, hI3, by rw [show o2 + 1 + j = o2 + (j + 1) by omega]; exact hc3⟩⟩
          exact ⟨rfl, ⟨dv2, I2, h6⟩, h7⟩
      · have t5 : (E == 0) = false := by rw [beq_eq_false_iff_ne]; exact hE0
        have HE0 := Lib.hid hE0
        go_enter Try.func17, Try.ntmps17
        go_wp2_with fail
        refine HB.out.mono ?_
        rintro x w1 ⟨rfl, rfl⟩
        go_wp2_with fail
        refine HC.out.mono ?_
        rintro e w2 ⟨rfl, hpost⟩
        rw [if_neg HE0.out] at hpost
        have HP := Lib.hid hpost
        clear hpost
        go_wp2
        go_ret
        exact ⟨rfl, HSAME.out _ HP.out HE0.out⟩
end
end Go.Proofs.Ytpmmfbbppnbhbaa
