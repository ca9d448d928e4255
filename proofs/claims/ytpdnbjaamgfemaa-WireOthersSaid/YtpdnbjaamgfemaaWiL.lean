/- What the laws of layer 7 show first: a message of no field, as bytes and back. -/
import Derived.Test.YtpdnbjaamgfemaaWiQ
namespace Go.Proofs.Ytpdnbjaamgfemaa
open Go.RowKit
set_option linter.unusedVariables false
set_option maxRecDepth 100000

abbrev shutM : Msg := ⟨8, 7, 0, 0, zeroH, 0, 0⟩
theorem shutM_ok : shutM.Ok := ⟨by decide, by decide, by decide, by decide, by decide, by decide, by decide⟩
theorem shut_str (w : World) : (binOp .eql 9 (.string (str [8, 0, 0, 0, 7])) (.string ⟨#[8, 0, 0, 0, 7]⟩)).run Try.prog w = .ok (.bool true) w := by kernel_rfl

theorem shut_build (w : World) : (Instr.build 27 #[(0, .int .i64 8), (1, .int .u32 7)]).run Try.prog w = .ok (vM shutM) w := by kernel_rfl

set_option maxHeartbeats 1000000 in
theorem shown7_any (w : World) : Calls Try.prog 12 #[] w fun e w' => e = .returned (.bool true) ∧ Fr No w w' := by
  have HE : Hid (∀ X, Calls Try.prog 8 #[vM shutM] X fun ex w' => ex = .returned (.tuple #[.string (str [8, 0, 0, 0, 7]), .int .i64 0]) ∧ Fr No X w') := Lib.hid (fun X => by
    have := wencode_any shutM shutM_ok X
    rwa [show encV shutM = [8, 0, 0, 0, 7] by decide, show encE shutM = 0 by decide] at this)
  have HD : Hid (∀ X, Calls Try.prog 13 #[.string (str [8, 0, 0, 0, 7])] X fun ex w' => ex = .returned (.tuple #[vM shutM, .int .i64 0]) ∧ Fr No X w') := Lib.hid (fun X => by
    have h := dec_enc shutM shutM_ok (by decide)
    rw [show bytesM shutM = [8, 0, 0, 0, 7] by decide] at h
    have := wdecode_any [8, 0, 0, 0, 7] (by decide) X
    rwa [h] at this)
  have hstr : ((str [8, 0, 0, 0, 7]).toList == [8, 0, 0, 0, 7]) = true := by rw [str_toList]; rfl
  have HQ := Lib.hid (fun X => eql_msg shutM shutM_ok.h mt_msg X)
  go_enter Try.func12, Try.ntmps12
  go_wp2_with (refine wpList_execG (vM shutM) (exec_build 27 #[(0, .const (.int .i64 8)), (1, .const (.int .u32 7))] rfl #[(0, .int .i64 8), (1, .int .u32 7)] (by rfl) _ (shut_build _)) rfl ?_)
  refine (HE.out _).mono ?_
  rintro ex w1 ⟨rfl, hF⟩
  have F1 := Lib.hid hF
  clear hF HE
  go_wp2_with fail
  refine (HD.out _).mono ?_
  rintro ex w2 ⟨rfl, hF⟩
  have F2 := Lib.hid (F1.out.trans hF)
  obtain ⟨p, hp⟩ : ∃ p, p = w2.heap.size := ⟨_, rfl⟩
  have HP := Lib.hid hp
  clear hF HD F1 hp
  go_wp2_with (first
    | (refine wpList_execG (.pointer (some ⟨p, 0, none⟩)) (exec_alloc 27 rfl _ (by rw [HP.out]; exact mt_msg.alloc w2)) rfl ?_
       refine wpList_world (fun W => Fr No w W ∧ Blk W p 27 (cellsM zeroM)) ⟨F2.out.alloc _, by rw [HP.out]; exact Blk.new w2 _ _⟩ ?_
       rintro w3 ⟨hF3, hB3⟩
       obtain ⟨Y, hY, hYR, hYF⟩ := msg_store (m := shutM) hB3 (by rfl) (by rfl) mt_msg
       have HY := Lib.hid hY
       have HL := Lib.hid (msg_load hYR (by rfl) mt_msg)
       have HYF : Hid (Fr No w Y) := Lib.hid (hF3.trans' hYF (fun k hk e => by have h1 := HP.out; have h2 := F2.out.size; omega))
       clear hF3 hB3 hY hYR hYF)
    | (refine wpList_store_eq rfl 27 _ _ rfl (.pointer (some ⟨p, 0, none⟩)) (vM shutM) rfl rfl HY.out ?_)
    | (refine wpList_execG (.bool true) (exec_bin .eql 9 (.tmp 22) _ 9 rfl _ _ _ rfl rfl (by kernel_rfl) (shut_str _)) (by kernel_rfl) ?_)
    | (refine wpList_load_eqG 27 _ rfl (.pointer (some ⟨p, 0, none⟩)) (vM shutM) rfl HL.out (by kernel_rfl) ?_)
    | (refine wpList_execG (vM shutM) (exec_build 27 #[(0, .const (.int .i64 8)), (1, .const (.int .u32 7))] rfl #[(0, .int .i64 8), (1, .int .u32 7)] (by rfl) _ (shut_build _)) (by kernel_rfl) ?_)
    | (refine wpList_execG (.bool true) (exec_bin .eql 27 (.tmp 26) (.tmp 27) 27 rfl _ _ _ rfl rfl (by kernel_rfl) (HQ.out _)) (by kernel_rfl) ?_))
  go_ret
  exact ⟨rfl, HYF.out⟩
end Go.Proofs.Ytpdnbjaamgfemaa
