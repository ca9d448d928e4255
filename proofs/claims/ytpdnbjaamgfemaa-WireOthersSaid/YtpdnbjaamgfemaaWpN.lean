/- Decode: what the program's comes to. -/
import Derived.Test.YtpdnbjaamgfemaaWiP
import Derived.Test.YtpdnbjaamgfemaaOctJ
namespace Go.Proofs.Ytpdnbjaamgfemaa
open Go.RowKit
set_option linter.unusedVariables false
set_option maxRecDepth 100000

/-- What the steps of Decode tell. -/
def readR (l : List UInt8) : Msg × Int :=
  match stepsF numV hshV [.kind] (zeroM, l) with
  | .error c => (zeroM, c)
  | .ok (m1, l1) => if 1 ≤ m1.k ∧ m1.k ≤ 9 then
      (match stepsF numV hshV (fieldsL m1.k) (m1, l1) with
      | .error c => (zeroM, c)
      | .ok (m2, l2) => if l2.length = 0 then (if may m2 = true then (m2, 0) else (zeroM, 1)) else (zeroM, 11))
    else (zeroM, 70)

/-- What stands behind them. -/
def DecAfter (B mb : Nat) (R : Msg × Int) (w : World) (e : Ending) (w' : World) : Prop :=
  Fr (fun k => B ≤ k) w w' ∧ (∀ b t cs, b < w.heap.size → b ≠ mb → t ≠ 5 → Blk w b t cs → Blk w' b t cs) ∧ Blk w' mb 27 (cellsM R.1) ∧
    ((e = .returned (.tuple #[]) ∧ R.2 = 0) ∨ (e = wrong R.2 ∧ R.1 = zeroM))

theorem decafter_lost {B mb p q : Nat} {w w1 w2 : World} {c : Int} (h1 : Fr No w w1) (hk : Keeps B p q w1 w2) (hp : w.heap.size ≤ p) (hq : w.heap.size ≤ q) (hm : Blk w mb 27 (cellsM zeroM)) : DecAfter B mb (zeroM, c) w (wrong c) w2 := by
  have hkeep : ∀ b t cs, b < w.heap.size → t ≠ 5 → Blk w b t cs → Blk w2 b t cs := fun b t cs n1 n3 hb => hk.blk _ _ _ (by omega) (by omega) n3 (hb.fr h1 id)
  exact ⟨(h1.mono (fun _ _ h => h.elim)).trans hk.fr, fun b t cs n1 _ n3 hb => hkeep b t cs n1 n3 hb, hkeep _ _ _ hm.lt (by decide) hm, .inr ⟨rfl, rfl⟩⟩

set_option maxHeartbeats 4000000 in
theorem dec1_any (l : List UInt8) (hl : l.length ≤ 2000) (B sb mb : Nat) (w : World) (hs : Blk w sb 9 [.string (str l)]) (hm : Blk w mb 27 (cellsM zeroM)) (hB : B ≤ w.heap.size) (hmb : B ≤ mb) :
    Calls Try.prog 27 #[.pointer (some ⟨sb, 0, none⟩), .pointer (some ⟨mb, 0, none⟩)] w (DecAfter B mb (readR l) w) := by
  obtain ⟨R, hR⟩ : ∃ R, R = readR l := ⟨_, rfl⟩
  rw [← hR]
  have HR := Lib.hid hR
  obtain ⟨S, hS⟩ : ∃ S, S = str l := ⟨_, rfl⟩
  have k0 : w.cell? ⟨sb, 0, none⟩ = some (.string S) := by rw [hS]; exact hs.cell rfl
  obtain ⟨q, hq⟩ : ∃ q, q = w.heap.size := ⟨_, rfl⟩
  obtain ⟨W1, hW1⟩ : ∃ W, W = w.alloc (.cells #[.string S] 91) := ⟨_, rfl⟩
  have hq1 : Blk W1 q 91 [.string S] := by rw [hq, hW1]; exact Blk.new w _ _
  have hF1 : Fr No w W1 := by rw [hW1]; exact (Fr.refl No w).alloc _
  obtain ⟨p, hp⟩ : ∃ p, p = W1.heap.size := ⟨_, rfl⟩
  have hqp : q < p := by rw [hp]; exact hq1.lt
  obtain ⟨W2, hW2⟩ : ∃ W, W = W1.alloc (.cells (cellsM zeroM).toArray 27) := ⟨_, rfl⟩
  have hb2 : Blk W2 p 27 (cellsM zeroM) := by rw [hp, hW2]; exact Blk.new W1 _ _
  have hF12 : Fr No W1 W2 := by rw [hW2]; exact (Fr.refl No W1).alloc _
  have HA := Lib.hid (mt_msg.alloc W1)
  rw [← hp, ← hW2] at HA
  obtain ⟨W3, hW3, hb3, hF23⟩ := msg_store (m := zeroM) hb2 (by rfl) (by rfl) mt_msg
  have HST := Lib.hid hW3
  have hq3 : Blk W3 q 91 [.string S] := (hq1.fr hF12 id).fr hF23 (by omega)
  have hF3 : Fr No w W3 := (hF1.trans hF12).trans' hF23 (fun i hi e => absurd hi (by have : i = p := e; omega))
  have hBq : B ≤ q := by omega
  have hC := car_v B p q (by omega) hBq (by omega)
  have HKO := Lib.hid (kindof_any p q W3 hq3.lt)
  have HNEW := Lib.hid (new_any S w)
  rw [← hq, ← hW1] at HNEW
  have HC := Lib.hid hC
  have HB3 := Lib.hid hb3
  have HQ3 := Lib.hid hq3
  have F3 := Lib.hid hF3
  have HSS := Lib.hid hS
  have HL := Lib.hid hl
  have HMB := Lib.hid hm
  have HN := Lib.hid (And.intro hq (And.intro hqp (And.intro hB hmb)))
  clear hR hS hs hm hB hmb hq hW1 hq1 hF1 hp hqp hW2 hb2 hF12 hW3 hb3 hF23 hq3 hF3 hBq hC hl
  go_enter Try.func27, Try.ntmps27
  go_wp2_with fail
  refine HNEW.out.mono ?_
  rintro ex w1 ⟨rfl, rfl⟩
  go_wp2_with (first
    | (refine wpList_execG (vM zeroM) (exec_build 27 #[] rfl #[] (by rfl) _ (mt_msg.build _)) rfl ?_)
    | (refine wpList_execG (.pointer (some ⟨p, 0, none⟩)) (exec_alloc 27 rfl _ HA.out) rfl ?_)
    | (refine wpList_store_eq rfl 27 _ _ rfl (.pointer (some ⟨p, 0, none⟩)) (vM zeroM) rfl rfl HST.out ?_))
  refine HKO.out.mono ?_
  rintro ex w4 ⟨v1, b1, b2, rfl, hv1, hf1, hF4⟩
  obtain ⟨x1, rfl⟩ : ∃ x, v1 = .func (.func 40) #[] x := ⟨_, hv1⟩
  obtain ⟨W5, hW5⟩ : ∃ W, W = w4.alloc (.cells #[.func (.func 40) #[] x1] 55) := ⟨_, rfl⟩
  have hL5 := listed_one hv1 (by have := HQ3.out.lt; have := hF4.size; omega) hf1
  rw [← hW5] at hL5
  have hF35 : Fr No W3 W5 := by rw [hW5]; exact hF4.alloc _
  have hq5 := HQ3.out.fr hF35 id
  have hcar := carry_any HC.out (w := W5) (m := zeroM) (s := l) (j := 0) hL5 (by decide) zeroM_ok (HB3.out.fr hF35 id) ⟨by rw [← HSS.out]; exact hq5.cell rfl, hq5.frozen _, Nat.le_trans HL.out (by unfold maxLen; omega)⟩
  have HC5 := Lib.hid hcar
  have HW5 := Lib.hid hW5
  have F5 := Lib.hid (F3.out.trans hF35)
  clear hv1 hf1 hF4 hL5 hF35 hq5 hcar HKO hW5 F3 HA HST HNEW HQ3 HB3 k0
  go_wp2_with fail
  rw [← HW5.out]
  refine HC5.out.mono ?_
  intro ex w6 hA
  have hBp : w.heap.size ≤ p ∧ w.heap.size ≤ q := by have := HN.out; omega
  unfold readR at HR
  cases h1 : stepsF numV hshV [.kind] (zeroM, l) with
  | error c =>
    rw [h1] at hA HR
    obtain ⟨rfl, hk⟩ := hA
    obtain rfl : R = (zeroM, c) := HR.out
    exact ⟨rfl, decafter_lost F5.out hk hBp.1 hBp.2 HMB.out⟩
  | ok y =>
    obtain ⟨m1, l1⟩ := y
    rw [h1] at hA HR
    obtain ⟨rfl, ok1, hv1, hk1, hb1⟩ := hA
    have HFO := Lib.hid (fieldsof_any p q m1 w6 hb1 (lt_cell hv1.1))
    have HV1 := Lib.hid hv1
    have HB1 := Lib.hid hb1
    have HK1 := Lib.hid hk1
    have OK1 := Lib.hid ok1
    have HBP := Lib.hid hBp
    clear ok1 hv1 hk1 hb1 hBp h1 HC5
    go_wp2_with fail
    refine HFO.out.mono ?_
    rintro ex w7 ⟨v, rfl, hF7, (⟨g1, g2, hL⟩ | ⟨hn, rfl⟩)⟩
    case inr =>
      have HG : Hid (DecAfter B mb R w (wrong 70) w7) := Lib.hid (by
        have e : R = (zeroM, 70) := by
          rw [HR.out]
          exact if_neg hn
        rw [e]
        exact decafter_lost F5.out (HK1.out.trans (Keeps.of_fr hF7 (fun _ h => h.elim) HC.out.low.1 HC.out.low.2)) HBP.out.1 HBP.out.2 HMB.out)
      clear HFO hF7 hn HK1
      go_wp2_with (refine wpList_execG (.bool false) (exec_bin .neq 58 (.tmp 15) (.const (.slice none 0 0)) 58 rfl _ _ _ rfl rfl (by kernel_rfl) (by kernel_rfl)) rfl ?_)
      refine (ask_err 70 (by decide) _).mono ?_
      rintro ex w8 ⟨rfl, rfl⟩
      exact ⟨rfl, HG.out⟩
    case inl =>
      have hcar := carry_any HC.out (w := w7) (m := m1) (s := l1) (j := 0) hL (by have := fieldsL_len m1.k; omega) OK1.out (HB1.out.fr hF7 id) ⟨hF7.cell id HV1.out.1, by rw [hF7.frozen _ (lt_cell HV1.out.1) id]; exact HV1.out.2.1, HV1.out.2.2⟩
      have HC7 := Lib.hid hcar
      have K7 := Lib.hid (HK1.out.trans (Keeps.of_fr hF7 (fun _ h => h.elim) HC.out.low.1 HC.out.low.2))
      have HR2 : Hid (R = (match stepsF numV hshV (fieldsL m1.k) (m1, l1) with
        | .error c => (zeroM, c)
        | .ok (m2, l2) => if l2.length = 0 then (if may m2 = true then (m2, 0) else (zeroM, 1)) else (zeroM, 11))) := Lib.hid (by
          rw [HR.out]
          exact if_pos ⟨g1, g2⟩)
      obtain ⟨g, n, rfl⟩ : ∃ g n : Nat, v = .slice (some ⟨g, 0, none⟩) n n := by
        obtain ⟨g, bs, hv, _⟩ := hL
        exact ⟨g, _, hv⟩
      clear hL hcar hF7 HFO HK1 HR HV1 HB1 g1 g2
      go_wp2_with (refine wpList_execG (.bool true) (exec_bin .neq 58 (.tmp 15) (.const (.slice none 0 0)) 58 rfl _ _ _ rfl rfl (by kernel_rfl) (by kernel_rfl)) rfl ?_)
      refine (ask_ok 70 _).mono ?_
      rintro ex w8 ⟨rfl, rfl⟩
      go_wp2_with fail
      refine HC7.out.mono ?_
      intro ex w9 hA
      cases h2 : stepsF numV hshV (fieldsL m1.k) (m1, l1) with
      | error c =>
        rw [h2] at hA HR2
        obtain ⟨rfl, hk⟩ := hA
        obtain rfl : R = (zeroM, c) := HR2.out
        exact ⟨rfl, decafter_lost F5.out (K7.out.trans hk) HBP.out.1 HBP.out.2 HMB.out⟩
      | ok y =>
        obtain ⟨m2, l2⟩ := y
        rw [h2] at hA HR2
        obtain ⟨rfl, ok2, hv2, hk2, hb2⟩ := hA
        have K9 := Lib.hid (K7.out.trans hk2)
        have HE := Lib.hid (end_all q (str l2) w9 hv2.1)
        have HB2 := Lib.hid hb2
        have OK2 := Lib.hid ok2
        have HLD := Lib.hid (msg_load hb2 ok2.h mt_msg)
        have HMY := Lib.hid (fun X => wmay_any m2 ok2 X)
        have hsz := str_size l2
        clear ok2 hv2 hk2 hb2 h2 HC7 K7 HC
        by_cases h0 : l2.length = 0
        · have e0 : endR (str l2) = 0 := by
            unfold endR
            rw [if_neg (by omega)]
          rw [e0] at HE
          have HR3 : Hid (R = if may m2 = true then (m2, 0) else (zeroM, 1)) := Lib.hid (by rw [HR2.out]; exact if_pos h0)
          clear HR2 e0 h0 hsz
          go_wp2_with fail
          refine HE.out.mono ?_
          rintro ex w10 ⟨rfl, rfl⟩
          go_wp2_with fail
          refine (must_ok _).mono ?_
          rintro ex w10 ⟨rfl, rfl⟩
          go_wp2_with (refine wpList_load_eq rfl 27 _ rfl (.pointer (some ⟨p, 0, none⟩)) (vM m2) rfl HLD.out ?_)
          refine (HMY.out _).mono ?_
          rintro ex w11 ⟨rfl, hF11⟩
          have hK : Keeps B p q W5 w11 := K9.out.trans (Keeps.of_fr hF11 (fun _ h => h.elim) (by have := HN.out; omega) (by have := HN.out; omega))
          by_cases hmay : may m2 = true
          · rw [hmay]
            obtain rfl : R = (m2, 0) := by rw [HR3.out, if_pos hmay]
            have hb11 := HB2.out.fr hF11 id
            have hkeep : ∀ b t cs, b < w.heap.size → t ≠ 5 → Blk w b t cs → Blk w11 b t cs := fun b t cs n1 n3 hb => hK.blk _ _ _ (by have := HBP.out; omega) (by have := HBP.out; omega) n3 (hb.fr F5.out id)
            have hmb11 := hkeep mb _ _ HMB.out.lt (by decide) HMB.out
            obtain ⟨V, hV, hVB, hVF⟩ := msg_store (m := m2) hmb11 (by rfl) OK2.out.h mt_msg
            have HG : Hid (DecAfter B mb (m2, 0) w (.returned (.tuple #[])) V) := Lib.hid
              ⟨(((F5.out.mono (fun _ _ h => h.elim)).trans hK.fr).trans (hVF.mono (fun k _ hk => by have : k = mb := hk; have := HN.out; show B ≤ k; omega))), fun b t cs n1 n2 n3 hb => (hkeep b t cs n1 n3 hb).fr hVF n2, hVB, .inl ⟨rfl, rfl⟩⟩
            have HL11 := Lib.hid (msg_load hb11 OK2.out.h mt_msg)
            have HV := Lib.hid hV
            clear hK hmay hb11 hkeep hmb11 hV hVB hVF hF11 HE HR3 HMY HLD HB2 OK2 K9
            go_wp2_with fail
            refine (ask_ok 1 _).mono ?_
            rintro ex w12 ⟨rfl, rfl⟩
            go_wp2_with (first
              | (refine wpList_load_eq rfl 27 _ rfl (.pointer (some ⟨p, 0, none⟩)) (vM m2) rfl HL11.out ?_)
              | (refine wpList_store_eq rfl 27 _ _ rfl (.pointer (some ⟨mb, 0, none⟩)) (vM m2) rfl rfl HV.out ?_))
            first | go_end0 | skip
            exact HG.out
          · obtain rfl : R = (zeroM, 1) := by rw [HR3.out, if_neg hmay]
            have hno : may m2 = false := by simpa using hmay
            have HG := Lib.hid (decafter_lost (c := 1) F5.out hK HBP.out.1 HBP.out.2 HMB.out)
            rw [hno]
            clear hK hmay hno hF11 HE HR3 HMY HLD HB2 OK2 K9
            go_wp2_with fail
            refine (ask_err 1 (by decide) _).mono ?_
            rintro ex w12 ⟨rfl, rfl⟩
            exact ⟨rfl, HG.out⟩
        · have e0 : endR (str l2) = 11 := by
            unfold endR
            rw [if_pos (by omega)]
          rw [e0] at HE
          obtain rfl : R = (zeroM, 11) := by rw [HR2.out]; exact if_neg h0
          clear HR2 e0 h0 hsz
          go_wp2_with fail
          refine HE.out.mono ?_
          rintro ex w10 ⟨rfl, rfl⟩
          go_wp2_with fail
          refine (must_err 11 (by decide) _).mono ?_
          rintro ex w10 ⟨rfl, rfl⟩
          exact ⟨rfl, decafter_lost F5.out K9.out HBP.out.1 HBP.out.2 HMB.out⟩
end Go.Proofs.Ytpdnbjaamgfemaa
