/- The walk of 'WireDecodes'. -/
import Derived.Test.YtpdnbjaamgfemaaWiO
namespace Go.Proofs.Ytpdnbjaamgfemaa
open Go.RowKit
set_option linter.unusedVariables false
set_option maxRecDepth 100000

set_option maxHeartbeats 1000000 in
theorem decodes_big (l : List UInt8) (w : World) (hn : 1000 < l.length) (hm : l.length ≤ maxLen) :
    Calls Try.prog 4 #[.string (str l)] w fun e w' => e = .returned (.bool true) ∧ Fr No w w' := by
  unfold maxLen at hm
  obtain ⟨n, hnn⟩ : ∃ n, n = l.length := ⟨_, rfl⟩
  have zs : (str l).size = n := by rw [str_size, hnn]
  have t : decide ((1000 : Int) < (n : Int)) = true := decide_eq_true (by omega)
  clear hn hm hnn
  go_enter Try.func4, Try.ntmps4
  go_wp2_with fail
  refine (shown7_any _).mono ?_
  rintro e w1 ⟨rfl, hF⟩
  have HF := Lib.hid hF
  clear hF
  go_wp2
  go_ret
  exact ⟨rfl, HF.out⟩


set_option maxHeartbeats 2000000 in
theorem decodes_ok (l : List UInt8) (w : World) (hn : l.length ≤ 1000) (m : Msg) (e : Int) (hme : decM l = (m, e)) :
    Calls Try.prog 4 #[.string (str l)] w fun e w' => e = .returned (.bool true) ∧ Fr No w w' := by
  have hmo : m.Ok := by have := decM_okM l; rwa [hme] at this
  obtain ⟨n, hnn⟩ : ∃ n, n = l.length := ⟨_, rfl⟩
  have zs : (str l).size = n := by rw [str_size, hnn]
  have t : decide ((1000 : Int) < (n : Int)) = false := decide_eq_false (by omega)
  have HD : Hid (∀ X, Calls Try.prog 13 #[.string (str l)] X fun ex w' => ex = .returned (.tuple #[vM m, .int .i64 e]) ∧ Fr No X w') := Lib.hid (fun X => by
    have := wdecode_any l (by omega) X
    rwa [hme] at this)
  have HR : Hid (∀ X, Calls Try.prog 14 #[.string (str l)] X fun ex w' => ex = .returned (.tuple #[vM m, .int .i64 e]) ∧ Fr No X w') := Lib.hid (fun X => by
    have := rdecode_any l (by unfold maxLen; omega) X
    rwa [hme] at this)
  have HN := Lib.hid (fun X => neq_msg m hmo.h mt_msg7 X)
  have HH := Lib.hid hmo.h
  have HME := Lib.hid hme
  have HMO := Lib.hid hmo
  clear hnn hn hmo hme
  go_enter Try.func4, Try.ntmps4
  go_wp2_with fail
  refine (shown7_any _).mono ?_
  rintro ex w1 ⟨rfl, hF⟩
  have F1 := Lib.hid hF
  clear hF
  go_wp2_with fail
  refine (HD.out _).mono ?_
  rintro ex w2 ⟨rfl, hF⟩
  have F2 := Lib.hid (F1.out.trans hF)
  obtain ⟨p, hp⟩ : ∃ p, p = w2.heap.size := ⟨_, rfl⟩
  have HP := Lib.hid hp
  clear hF F1 HD hp
  go_wp2_with (first
    | (refine wpList_execG (.pointer (some ⟨p, 0, none⟩)) (exec_alloc 27 rfl _ (by rw [HP.out]; exact mt_msg.alloc w2)) rfl ?_
       refine wpList_world (fun W => Fr No w W ∧ Blk W p 27 (cellsM zeroM)) ⟨F2.out.alloc _, by rw [HP.out]; exact Blk.new w2 _ _⟩ ?_
       rintro w3 ⟨hF3, hB3⟩
       obtain ⟨Y, hY, hYR, hYF⟩ := msg_store (m := m) hB3 (by rfl) HH.out mt_msg
       have HY := Lib.hid hY
       have HB := Lib.hid hYR
       have HYF : Hid (Fr No w Y) := Lib.hid (hF3.trans' hYF (fun k hk e => by have h1 := HP.out; have h2 := F2.out.size; omega))
       clear hF3 hB3 hY hYR hYF)
    | (refine wpList_store_eq rfl 27 _ _ rfl (.pointer (some ⟨p, 0, none⟩)) (vM m) rfl rfl HY.out ?_))
  refine (HR.out _).mono ?_
  rintro ex w4 ⟨rfl, hF⟩
  have F4 := Lib.hid (HYF.out.trans hF)
  have HB4 := Lib.hid (HB.out.fr hF id)
  obtain ⟨q, hq⟩ : ∃ p, p = w4.heap.size := ⟨_, rfl⟩
  have HQ := Lib.hid hq
  clear hF HR hq HB HYF HY
  have HPQ : Hid (p < q ∧ w.heap.size ≤ q) := Lib.hid ⟨by rw [HQ.out]; exact HB4.out.lt, by rw [HQ.out]; exact F4.out.size⟩
  by_cases he : e = 0
  · subst he
    obtain ⟨hv, hee⟩ := enc_dec (l := l) (by rw [HME.out])
    rw [HME.out] at hv hee
    dsimp only at hv hee
    have HE : Hid (∀ X, Calls Try.prog 8 #[vM m] X fun ex w' => ex = .returned (.tuple #[.string (str l), .int .i64 0]) ∧ Fr No X w') := Lib.hid (fun X => by
      have := wencode_any m HMO.out X
      rwa [hv, hee] at this)
    clear hv hee
    go_wp2_with (first
      | (refine wpList_execG (.pointer (some ⟨q, 0, none⟩)) (exec_alloc 32 rfl _ (by rw [HQ.out]; exact mt_msg7.alloc w4)) rfl ?_
         refine wpList_world (fun W => Fr No w W ∧ Blk W p 27 (cellsM m) ∧ Blk W q 32 (cellsM zeroM)) ⟨F4.out.alloc _, HB4.out.alloc _, by rw [HQ.out]; exact Blk.new w4 _ _⟩ ?_
         rintro w5 ⟨hF5, hB5, hB6⟩
         obtain ⟨Y, hY, hYR, hYF⟩ := msg_store (m := m) hB6 (by rfl) HH.out mt_msg7
         have HY := Lib.hid hY
         have HL1 := Lib.hid (msg_load (hB5.fr hYF (Nat.ne_of_lt HPQ.out.1)) HH.out mt_msg)
         have HL2 := Lib.hid (msg_load hYR HH.out mt_msg7)
         have HYF : Hid (Fr No w Y) := Lib.hid (hF5.trans' hYF (fun k hk e => by have h1 := HPQ.out.2; omega))
         clear hF5 hB5 hB6 hY hYR hYF)
      | (refine wpList_store_eq rfl 32 _ _ rfl (.pointer (some ⟨q, 0, none⟩)) (vM m) rfl rfl HY.out ?_)
      | (refine wpList_load_eq rfl 27 _ rfl (.pointer (some ⟨p, 0, none⟩)) (vM m) rfl HL1.out ?_)
      | (refine wpList_load_eq rfl 32 _ rfl (.pointer (some ⟨q, 0, none⟩)) (vM m) rfl HL2.out ?_)
      | (refine wpList_execG (.bool false) (exec_bin .neq 32 (.tmp 27) (.tmp 28) 32 rfl _ _ _ rfl rfl (by kernel_rfl) (HN.out _)) rfl ?_))
    refine (HE.out _).mono ?_
    rintro ex w6 ⟨rfl, hF⟩
    have F6 := Lib.hid (HYF.out.trans hF)
    clear hF HE
    go_wp2
    go_ret
    exact ⟨by simp, F6.out⟩
  · have t2 : ((e : Int) == 0) = false := by rw [beq_eq_false_iff_ne]; exact he
    obtain rfl : m = zeroM := by
      have := decM_err (l := l) (by rw [HME.out]; exact he)
      rwa [HME.out] at this
    have HQZ := Lib.hid (fun X => eql_msg zeroM (by rfl) mt_msg X)
    clear he
    go_wp2_with (first
      | (refine wpList_execG (.pointer (some ⟨q, 0, none⟩)) (exec_alloc 32 rfl _ (by rw [HQ.out]; exact mt_msg7.alloc w4)) rfl ?_
         refine wpList_world (fun W => Fr No w W ∧ Blk W p 27 (cellsM zeroM) ∧ Blk W q 32 (cellsM zeroM)) ⟨F4.out.alloc _, HB4.out.alloc _, by rw [HQ.out]; exact Blk.new w4 _ _⟩ ?_
         rintro w5 ⟨hF5, hB5, hB6⟩
         obtain ⟨Y, hY, hYR, hYF⟩ := msg_store (m := zeroM) hB6 (by rfl) HH.out mt_msg7
         have HY := Lib.hid hY
         have HL1 := Lib.hid (msg_load (hB5.fr hYF (Nat.ne_of_lt HPQ.out.1)) HH.out mt_msg)
         have HL2 := Lib.hid (msg_load hYR HH.out mt_msg7)
         have HYF : Hid (Fr No w Y) := Lib.hid (hF5.trans' hYF (fun k hk e => by have h1 := HPQ.out.2; omega))
         clear hF5 hB5 hB6 hY hYR hYF)
      | (refine wpList_store_eq rfl 32 _ _ rfl (.pointer (some ⟨q, 0, none⟩)) (vM zeroM) rfl rfl HY.out ?_)
      | (refine wpList_load_eq rfl 27 _ rfl (.pointer (some ⟨p, 0, none⟩)) (vM zeroM) rfl HL1.out ?_)
      | (refine wpList_load_eq rfl 32 _ rfl (.pointer (some ⟨q, 0, none⟩)) (vM zeroM) rfl HL2.out ?_)
      | (refine wpList_execG (.bool false) (exec_bin .neq 32 (.tmp 27) (.tmp 28) 32 rfl _ _ _ rfl rfl (by kernel_rfl) (HN.out _)) rfl ?_)
      | (refine wpList_execG (vM zeroM) (exec_build 27 #[] rfl #[] (by rfl) _ (mt_msg.build _)) rfl ?_)
      | (refine wpList_execG (.bool true) (exec_bin .eql 27 (.tmp 37) (.tmp 38) 27 rfl _ _ _ rfl rfl (by kernel_rfl) (HQZ.out _)) rfl ?_))
    go_ret
    exact ⟨rfl, HYF.out⟩

theorem decodes_walk (s : ByteArray) (W : World) (hs : s.size ≤ maxLen) : Calls Try.prog 4 #[.string s] W fun e w' => e = .returned (.bool true) ∧ Fr No W w' := by
  have e : s = str s.data.toList := (str_data s).symm
  have hl : s.data.toList.length = s.size := by rw [Array.length_toList]; rfl
  rw [e]
  by_cases h : s.data.toList.length ≤ 1000
  · exact decodes_ok _ W h _ _ rfl
  · exact decodes_big _ W (by omega) (by omega)
end Go.Proofs.Ytpdnbjaamgfemaa
