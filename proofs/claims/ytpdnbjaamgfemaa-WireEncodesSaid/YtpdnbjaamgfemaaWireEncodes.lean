/- The walk of 'WireEncodes'. -/
import Derived.Test.YtpdnbjaamgfemaaWiO
import Derived.Test.YtpdnbjaamgfemaaTake
namespace Go.Proofs.Ytpdnbjaamgfemaa
open Go.RowKit
set_option linter.unusedVariables false
set_option maxRecDepth 100000

theorem neq_bool (b : Bool) (w : World) : (binOp .neq 4 (.bool b) (.bool b)).run Try.prog w = .ok (.bool false) w := by
  cases b <;> kernel_rfl
theorem neq_err (x : Int) (w : World) : (binOp .neq 28 (.int .i64 x) (.int .i64 x)).run Try.prog w = .ok (.bool false) w := by simp [go_sem]
theorem neq_text (l : List UInt8) (w : World) : (binOp .neq 9 (.string (str l)) (.string (str l))).run Try.prog w = .ok (.bool false) w := by simp [go_sem]

set_option maxHeartbeats 2000000 in
theorem encodes_walk (m : Msg) (ok : m.Ok) (w : World) :
    Calls Try.prog 3 #[vM m] w fun e w' => e = .returned (.bool true) ∧ Fr No w w' := by
  obtain ⟨l, hl⟩ : ∃ l, l = encV m := ⟨_, rfl⟩
  obtain ⟨e, he⟩ : ∃ e, e = encE m := ⟨_, rfl⟩
  obtain ⟨y, hy⟩ : ∃ y, y = may m := ⟨_, rfl⟩
  have HE : Hid (∀ X, Calls Try.prog 8 #[vM m] X fun ex w' => ex = .returned (.tuple #[.string (str l), .int .i64 e]) ∧ Fr No X w') := Lib.hid (fun X => by rw [hl, he]; exact wencode_any m ok X)
  have HRE : Hid (∀ X, Calls Try.prog 9 #[vM m] X fun ex w' => ex = .returned (.tuple #[.string (str l), .int .i64 e]) ∧ Fr No X w') := Lib.hid (fun X => by rw [hl, he]; exact rencode_any m ok X)
  have HM : Hid (∀ X, Calls Try.prog 10 #[vM m] X fun ex w' => ex = .returned (.bool y) ∧ Fr No X w') := Lib.hid (fun X => by rw [hy]; exact wmay_any m ok X)
  have HRM : Hid (∀ X, Calls Try.prog 11 #[vM m] X fun ex w' => ex = .returned (.bool y) ∧ Fr No X w') := Lib.hid (fun X => by rw [hy]; exact rmay_any m ok.h X)
  have HD : Hid (may m = true → e = 0 ∧ ∀ X, Calls Try.prog 13 #[.string (str l)] X fun ex w' => ex = .returned (.tuple #[vM m, .int .i64 0]) ∧ Fr No X w') := Lib.hid (fun hm => by
    have hb : l = bytesM m := by rw [hl, encV, hm, if_pos rfl]
    refine ⟨by rw [he, encE, hm, if_pos rfl], fun X => ?_⟩
    have h := wdecode_any l (by rw [hb]; have := bytesM_le m ok.h; omega) X
    rwa [hb, dec_enc m ok hm, ← hb] at h)
  have HN : Hid (may m = false → e = 1 ∧ l = []) := Lib.hid (fun hm => ⟨by rw [he, encE, hm]; rfl, by rw [hl, encV, hm]; rfl⟩)
  have HH := Lib.hid ok.h
  have HQ := Lib.hid (fun X => eql_msg m ok.h mt_msg X)
  have hB := Blk.new w 27 (cellsM m)
  have HL := Lib.hid (msg_load hB ok.h mt_msg)
  have HB := Lib.hid hB
  obtain ⟨b, hb⟩ : ∃ p, p = w.heap.size := ⟨_, rfl⟩
  have HBB := Lib.hid hb
  clear hl he hy hB ok hb
  go_enter Try.func3, Try.ntmps3
  go_wp2_with (refine wpList_load_eq rfl 27 _ rfl (.pointer (some ⟨w.heap.size, 0, none⟩)) (vM m) rfl HL.out ?_)
  refine (HE.out _).mono ?_
  rintro ex w1 ⟨rfl, hF⟩
  have F1 := Lib.hid (((Fr.refl No w).alloc _).trans hF)
  have HB1 := Lib.hid (HB.out.fr hF id)
  rw [← HBB.out] at HB1 ⊢
  have HL1 := Lib.hid (msg_load HB1.out HH.out mt_msg)
  clear hF HE HL HB
  go_wp2_with (refine wpList_load_eq rfl 27 _ rfl (.pointer (some ⟨b, 0, none⟩)) (vM m) rfl HL1.out ?_)
  refine (HRE.out _).mono ?_
  rintro ex w2 ⟨rfl, hF⟩
  have F2 := Lib.hid (F1.out.trans hF)
  have HB2 := Lib.hid (HB1.out.fr hF id)
  have HLX : Hid (∀ X, Fr No w2 X → (Instr.loadAt 27 (.pointer (some ⟨b, 0, none⟩))).run Try.prog X = .ok (vM m) X) := Lib.hid (fun X hX => msg_load (HB2.out.fr hX id) HH.out mt_msg)
  clear hF HRE F1 HB1 HL1
  go_wp2_with fail
  refine wp_region_held_drew (S := (fun X => Fr No w2 X)) (by kernel_rfl) ((Fr.refl _ w2).drew) (fun hHeld => ?_)
  refine takeD (i := 0) (d := some 19) (v := vM m) rfl (by kernel_rfl) (by kernel_rfl) (by kernel_rfl) (by kernel_rfl) (fun _ _ _ h => h) (Or.inl ⟨by kernel_rfl, fun X hX => Or.inl (exec_load 27 (.tmp 1) rfl _ _ rfl (HLX.out X hX))⟩) (by assumption) ?_
  (try simp only [Act.put]); (try simp only [List.setIfInBounds_toArray]); (try simp only [List.set_cons_succ]); (try simp only [List.set_cons_zero])
  refine takeD (i := 2) (d := some 21) (v := vM m) rfl (by kernel_rfl) (by kernel_rfl) (by kernel_rfl) (by kernel_rfl) (fun _ _ _ h => h) (Or.inl ⟨by kernel_rfl, fun X hX => Or.inl (exec_load 27 (.tmp 1) rfl _ _ rfl (HLX.out X hX))⟩) (by assumption) ?_
  (try simp only [Act.put]); (try simp only [List.setIfInBounds_toArray]); (try simp only [List.set_cons_succ]); (try simp only [List.set_cons_zero])
  refine wpAnyH_ready (rs := [1]) (by kernel_rfl) (by simp) ?_
  refine AllReadyH.cons rfl (fun K hK => ?_) AllReadyH.nil
  rw [if_pos (by kernel_rfl)]
  go_simp
  refine (HM.out _).mono ?_
  rintro ex y1 ⟨rfl, hF⟩
  have Fy1 := Lib.hid (hHeld.trans hF)
  clear hF
  refine hK.out _ _ (Fy1.out) (fun hHeld => ?_)
  clear hK K
  (try simp only [Act.put]); (try simp only [List.setIfInBounds_toArray]); (try simp only [List.set_cons_succ]); (try simp only [List.set_cons_zero])
  refine wpAnyH_ready (rs := [3]) (by kernel_rfl) (by simp) ?_
  refine AllReadyH.cons rfl (fun K hK => ?_) AllReadyH.nil
  rw [if_pos (by kernel_rfl)]
  go_simp
  refine (HRM.out _).mono ?_
  rintro ex y2 ⟨rfl, hF⟩
  have Fy2 := Lib.hid (hHeld.trans hF)
  clear hF
  refine hK.out _ _ (Fy2.out) (fun hHeld => ?_)
  clear hK K
  (try simp only [Act.put]); (try simp only [List.setIfInBounds_toArray]); (try simp only [List.set_cons_succ]); (try simp only [List.set_cons_zero])
  refine takeD (i := 4) (d := some 23) (v := .bool false) rfl (by kernel_rfl) (by kernel_rfl) (by kernel_rfl) (by kernel_rfl) (fun _ _ _ h => h) (Or.inl ⟨by kernel_rfl, fun X hX => Or.inl (exec_bin .neq 4 (.tmp 20) (.tmp 22) 4 rfl _ _ _ rfl rfl (by kernel_rfl) (neq_bool _ _))⟩) (by assumption) ?_
  (try simp only [Act.put]); (try simp only [List.setIfInBounds_toArray]); (try simp only [List.set_cons_succ]); (try simp only [List.set_cons_zero])
  refine takeD (i := 5) (d := some 24) (v := ?_) rfl (by kernel_rfl) (by kernel_rfl) (by kernel_rfl) (by kernel_rfl) (fun _ _ _ h => h) (Or.inl ⟨by kernel_rfl, fun X hX => Or.inl ?_⟩) (by assumption) ?_
  rotate_left
  · first | (go_simp; done) | (go_simp; with_reducible rfl)
  (try simp only [Act.put]); (try simp only [List.setIfInBounds_toArray]); (try simp only [List.set_cons_succ]); (try simp only [List.set_cons_zero])
  refine takeD (i := 6) (d := some 25) (v := ?_) rfl (by kernel_rfl) (by kernel_rfl) (by kernel_rfl) (by kernel_rfl) (fun _ _ _ h => h) (Or.inl ⟨by kernel_rfl, fun X hX => Or.inl ?_⟩) (by assumption) ?_
  rotate_left
  · first | (go_simp; done) | (go_simp; with_reducible rfl)
  (try simp only [Act.put]); (try simp only [List.setIfInBounds_toArray]); (try simp only [List.set_cons_succ]); (try simp only [List.set_cons_zero])
  refine takeD (i := 7) (d := some 26) (v := ?_) rfl (by kernel_rfl) (by kernel_rfl) (by kernel_rfl) (by kernel_rfl) (fun _ _ _ h => h) (Or.inl ⟨by kernel_rfl, fun X hX => Or.inl ?_⟩) (by assumption) ?_
  rotate_left
  · first | (go_simp; done) | (go_simp; with_reducible rfl)
  (try simp only [Act.put]); (try simp only [List.setIfInBounds_toArray]); (try simp only [List.set_cons_succ]); (try simp only [List.set_cons_zero])
  refine takeD (i := 8) (d := some 27) (v := .bool false) rfl (by kernel_rfl) (by kernel_rfl) (by kernel_rfl) (by kernel_rfl) (fun _ _ _ h => h) (Or.inl ⟨by kernel_rfl, fun X hX => Or.inl (exec_bin .neq 9 (.tmp 25) (.tmp 26) 9 rfl _ _ _ rfl rfl (by kernel_rfl) (neq_text _ _))⟩) (by assumption) ?_
  (try simp only [Act.put]); (try simp only [List.setIfInBounds_toArray]); (try simp only [List.set_cons_succ]); (try simp only [List.set_cons_zero])
  refine takeD (i := 9) (d := some 28) (v := ?_) rfl (by kernel_rfl) (by kernel_rfl) (by kernel_rfl) (by kernel_rfl) (fun _ _ _ h => h) (Or.inl ⟨by kernel_rfl, fun X hX => Or.inl ?_⟩) (by assumption) ?_
  rotate_left
  · first | (go_simp; done) | (go_simp; with_reducible rfl)
  (try simp only [Act.put]); (try simp only [List.setIfInBounds_toArray]); (try simp only [List.set_cons_succ]); (try simp only [List.set_cons_zero])
  refine takeD (i := 10) (d := some 29) (v := ?_) rfl (by kernel_rfl) (by kernel_rfl) (by kernel_rfl) (by kernel_rfl) (fun _ _ _ h => h) (Or.inl ⟨by kernel_rfl, fun X hX => Or.inl ?_⟩) (by assumption) ?_
  rotate_left
  · first | (go_simp; done) | (go_simp; with_reducible rfl)
  (try simp only [Act.put]); (try simp only [List.setIfInBounds_toArray]); (try simp only [List.set_cons_succ]); (try simp only [List.set_cons_zero])
  refine takeD (i := 11) (d := some 30) (v := ?_) rfl (by kernel_rfl) (by kernel_rfl) (by kernel_rfl) (by kernel_rfl) (fun _ _ _ h => h) (Or.inl ⟨by kernel_rfl, fun X hX => Or.inl ?_⟩) (by assumption) ?_
  rotate_left
  · first | (go_simp; done) | (go_simp; with_reducible rfl)
  (try simp only [Act.put]); (try simp only [List.setIfInBounds_toArray]); (try simp only [List.set_cons_succ]); (try simp only [List.set_cons_zero])
  refine takeD (i := 12) (d := some 31) (v := ?_) rfl (by kernel_rfl) (by kernel_rfl) (by kernel_rfl) (by kernel_rfl) (fun _ _ _ h => h) (Or.inl ⟨by kernel_rfl, fun X hX => Or.inl ?_⟩) (by assumption) ?_
  rotate_left
  · first | (go_simp; done) | (go_simp; with_reducible rfl)
  (try simp only [Act.put]); (try simp only [List.setIfInBounds_toArray]); (try simp only [List.set_cons_succ]); (try simp only [List.set_cons_zero])
  refine takeD (i := 13) (d := some 32) (v := .bool false) rfl (by kernel_rfl) (by kernel_rfl) (by kernel_rfl) (by kernel_rfl) (fun _ _ _ h => h) (Or.inl ⟨by kernel_rfl, fun X hX => Or.inl (exec_bin .neq 28 (.tmp 30) (.tmp 31) 28 rfl _ _ _ rfl rfl (by kernel_rfl) (neq_err _ _))⟩) (by assumption) ?_
  (try simp only [Act.put]); (try simp only [List.setIfInBounds_toArray]); (try simp only [List.set_cons_succ]); (try simp only [List.set_cons_zero])
  refine takeD (i := 14) (d := some 33) (v := ?_) rfl (by kernel_rfl) (by kernel_rfl) (by kernel_rfl) (by kernel_rfl) (fun _ _ _ h => h) (Or.inl ⟨by kernel_rfl, fun X hX => Or.inl ?_⟩) (by assumption) ?_
  rotate_left
  · first | (go_simp; done) | (go_simp; with_reducible rfl)
  (try simp only [Act.put]); (try simp only [List.setIfInBounds_toArray]); (try simp only [List.set_cons_succ]); (try simp only [List.set_cons_zero])
  refine takeD (i := 15) (d := some 34) (v := ?_) rfl (by kernel_rfl) (by kernel_rfl) (by kernel_rfl) (by kernel_rfl) (fun _ _ _ h => h) (Or.inl ⟨by kernel_rfl, fun X hX => Or.inl ?_⟩) (by assumption) ?_
  rotate_left
  · first | (go_simp; done) | (go_simp; with_reducible rfl)
  (try simp only [Act.put]); (try simp only [List.setIfInBounds_toArray]); (try simp only [List.set_cons_succ]); (try simp only [List.set_cons_zero])
  refine wpAnyH_ready (rs := [16]) (by kernel_rfl) (by simp) ?_
  refine AllReadyH.cons rfl (fun K hK => ?_) AllReadyH.nil
  rw [if_pos (by kernel_rfl)]
  go_simp
  refine (shown7_any _).mono ?_
  rintro ex y3 ⟨rfl, hF⟩
  have Fy3 := Lib.hid (hHeld.trans hF)
  clear hF
  refine hK.out _ _ (Fy3.out) (fun hHeld => ?_)
  clear hK K
  (try simp only [Act.put]); (try simp only [List.setIfInBounds_toArray]); (try simp only [List.set_cons_succ]); (try simp only [List.set_cons_zero])
  refine takeD (i := 17) (d := some 36) (v := ?_) rfl (by kernel_rfl) (by kernel_rfl) (by kernel_rfl) (by kernel_rfl) (fun _ _ _ h => h) (Or.inl ⟨by kernel_rfl, fun X hX => Or.inl ?_⟩) (by assumption) ?_
  rotate_left
  · first | (go_simp; done) | (go_simp; with_reducible rfl)
  (try simp only [Act.put]); (try simp only [List.setIfInBounds_toArray]); (try simp only [List.set_cons_succ]); (try simp only [List.set_cons_zero])
  refine takeD (i := 18) (d := some 37) (v := ?_) rfl (by kernel_rfl) (by kernel_rfl) (by kernel_rfl) (by kernel_rfl) (fun _ _ _ h => h) (Or.inl ⟨by kernel_rfl, fun X hX => Or.inl ?_⟩) (by assumption) ?_
  rotate_left
  · first | (go_simp; done) | (go_simp; with_reducible rfl)
  (try simp only [Act.put]); (try simp only [List.setIfInBounds_toArray]); (try simp only [List.set_cons_succ]); (try simp only [List.set_cons_zero])
  refine wpAnyH_done (by kernel_rfl) ?_ _
  have F3 := Lib.hid (F2.out.trans hHeld)
  have HB3 := Lib.hid (HB2.out.fr hHeld id)
  clear hHeld
  by_cases hm : may m = true
  · obtain ⟨rfl, hd⟩ := HD.out hm
    have HDD := Lib.hid hd
    clear hd hm
    go_wp2_with fail
    refine (HDD.out _).mono ?_
    rintro ex w4 ⟨rfl, hF⟩
    have F4 := Lib.hid (F3.out.trans hF)
    have HB4 := Lib.hid (HB3.out.fr hF id)
    obtain ⟨p, hp⟩ : ∃ p, p = w4.heap.size := ⟨_, rfl⟩
    have HP := Lib.hid hp
    clear hF HDD hp
    go_wp2_with (first
      | (refine wpList_execG (.pointer (some ⟨p, 0, none⟩)) (exec_alloc 27 rfl _ (by rw [HP.out]; exact mt_msg.alloc w4)) rfl ?_
         refine wpList_world (fun W => Fr No w W ∧ Blk W b 27 (cellsM m) ∧ Blk W p 27 (cellsM zeroM)) ⟨F4.out.alloc _, HB4.out.alloc _, by rw [HP.out]; exact Blk.new w4 _ _⟩ ?_
         rintro w5 ⟨hF5, hB5, hB6⟩
         have hbp : b < p := by rw [HP.out]; exact HB4.out.lt
         obtain ⟨Y, hY, hYR, hYF⟩ := msg_store (m := m) hB6 (by rfl) HH.out mt_msg
         have HY := Lib.hid hY
         have HL1 := Lib.hid (msg_load (hB5.fr hYF (by omega)) HH.out mt_msg)
         have HL2 := Lib.hid (msg_load hYR HH.out mt_msg)
         have HYF : Hid (Fr No w Y) := Lib.hid (hF5.trans' hYF (fun k hk e => by have h1 := HBB.out; omega))
         clear hF5 hB5 hB6 hY hYR hYF hbp)
      | (refine wpList_store_eq rfl 27 _ _ rfl (.pointer (some ⟨p, 0, none⟩)) (vM m) rfl rfl HY.out ?_)
      | (refine wpList_load_eqG 27 _ rfl (.pointer (some ⟨p, 0, none⟩)) (vM m) rfl HL2.out (by kernel_rfl) ?_)
      | (refine wpList_load_eqG 27 _ rfl (.pointer (some ⟨b, 0, none⟩)) (vM m) rfl HL1.out (by kernel_rfl) ?_)
      | (refine wpList_execG (.bool true) (exec_bin .eql 27 (.tmp 50) (.tmp 51) 27 rfl _ _ _ rfl rfl (by kernel_rfl) (HQ.out _)) (by kernel_rfl) ?_))
    go_ret
    exact ⟨rfl, HYF.out⟩
  · obtain ⟨rfl, rfl⟩ := HN.out (by simpa using hm)
    have hs : ((str []).toList == []) = true := by rw [str_toList]; rfl
    clear hm
    go_wp2
    go_ret
    exact ⟨rfl, F3.out⟩
end Go.Proofs.Ytpdnbjaamgfemaa
