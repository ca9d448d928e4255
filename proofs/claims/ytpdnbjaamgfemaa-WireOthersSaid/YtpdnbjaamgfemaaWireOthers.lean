/- The walk of 'WireOthers'. -/
import Derived.Test.YtpdnbjaamgfemaaWiO
namespace Go.Proofs.Ytpdnbjaamgfemaa
open Go.RowKit
set_option linter.unusedVariables false
set_option maxRecDepth 100000

theorem other_i {m : Msg} (hm : may m = true) : may { m with i := 7 } = inB (fieldsB m.k) 105 := by
  obtain ⟨⟨h1, h2, h3, h4, h5, h6, h7⟩, hr⟩ := may_bounds hm
  unfold restOk at hr
  simp only [Bool.and_eq_true] at hr
  obtain ⟨⟨⟨⟨r1, r2⟩, r3⟩, r4⟩, r5⟩ := hr
  unfold may boundOk restOk
  dsimp only
  rw [r2, r3, r4, r5, decide_eq_true ⟨h1, h2, h3, h4, h5, h6, h7⟩]
  simp
theorem other_a {m : Msg} (hm : may m = true) : may { m with a := 7 } = inB (fieldsB m.k) 97 := by
  obtain ⟨⟨h1, h2, h3, h4, h5, h6, h7⟩, hr⟩ := may_bounds hm
  unfold restOk at hr
  simp only [Bool.and_eq_true] at hr
  obtain ⟨⟨⟨⟨r1, r2⟩, r3⟩, r4⟩, r5⟩ := hr
  unfold may boundOk restOk
  dsimp only
  rw [r1, r3, r4, r5, decide_eq_true ⟨h1, h2, h3, h4, h5, h6, by decide⟩]
  simp
theorem other_h {m : Msg} (hm : may m = true) (hl : m.h.length = 32) : may { m with h := m.h.set 3 7 } = inB (fieldsB m.k) 104 := by
  obtain ⟨⟨h1, h2, h3, h4, h5, h6, h7⟩, hr⟩ := may_bounds hm
  unfold restOk at hr
  simp only [Bool.and_eq_true] at hr
  obtain ⟨⟨⟨⟨r1, r2⟩, r3⟩, r4⟩, r5⟩ := hr
  have hz : (m.h.set 3 7 == zeroH) = false := by
    rw [beq_eq_false_iff_ne]
    intro h
    have h8 := congrArg (fun x : List UInt8 => x[3]?) h
    simp [zeroH, hl] at h8
  unfold may boundOk restOk
  dsimp only
  rw [r1, r2, r4, r5, hz, decide_eq_true ⟨h1, h2, h3, h4, h5, h6, h7⟩]
  simp
theorem other_e {m : Msg} (hm : may m = true) : may { m with e := 7 } = inB (fieldsB m.k) 101 := by
  obtain ⟨⟨h1, h2, h3, h4, h5, h6, h7⟩, hr⟩ := may_bounds hm
  unfold restOk at hr
  simp only [Bool.and_eq_true] at hr
  obtain ⟨⟨⟨⟨r1, r2⟩, r3⟩, r4⟩, r5⟩ := hr
  unfold may boundOk restOk
  dsimp only
  rw [r1, r2, r3, r5, decide_eq_true ⟨h1, h2, by decide, by decide, h5, h6, h7⟩]
  simp
theorem other_n {m : Msg} (hm : may m = true) : may { m with n := 7 } = inB (fieldsB m.k) 110 := by
  obtain ⟨⟨h1, h2, h3, h4, h5, h6, h7⟩, hr⟩ := may_bounds hm
  unfold restOk at hr
  simp only [Bool.and_eq_true] at hr
  obtain ⟨⟨⟨⟨r1, r2⟩, r3⟩, r4⟩, r5⟩ := hr
  unfold may boundOk restOk
  dsimp only
  rw [r1, r2, r3, r4, decide_eq_true ⟨h1, h2, h3, h4, by decide, by decide, h7⟩]
  simp
theorem cells_set7 (m : Msg) (hl : m.h.length = 32) : (cellsM m).set 7 (.int .u8 7) = cellsM { m with h := m.h.set 3 7 } := by
  have e : (m.h.map u8v).length = 32 := by rw [List.length_map]; exact hl
  have e2 : (m.h.set 3 7).map u8v = (m.h.map u8v).set 3 (.int .u8 7) := by rw [List.map_set]; rfl
  rw [cellsM, cellsM, e2, List.set_append_right _ _ (by simp)]
  simp only [List.length_cons, List.length_nil]
  rw [List.set_append_left _ _ (by omega)]

set_option maxHeartbeats 1000000 in
theorem others_no (m : Msg) (ok : m.Ok) (c : Nat) (w : World) (hm : may m = false) :
    Calls Try.prog 7 #[vM m, .int .u8 (c : Int)] w fun e w' => e = .returned (.bool true) ∧ Fr No w w' := by
  have HM : Hid (∀ X, Calls Try.prog 10 #[vM m] X fun ex w' => ex = .returned (.bool false) ∧ Fr No X w') := Lib.hid (fun X => by have := wmay_any m ok X; rwa [hm] at this)
  have HRM : Hid (∀ X, Calls Try.prog 11 #[vM m] X fun ex w' => ex = .returned (.bool false) ∧ Fr No X w') := Lib.hid (fun X => by have := rmay_any m ok.h X; rwa [hm] at this)
  have HB := Lib.hid (Blk.new w 27 (cellsM m))
  have HH := Lib.hid ok.h
  have HL := Lib.hid (msg_load HB.out HH.out mt_msg)
  clear hm ok
  go_enter Try.func7, Try.ntmps7
  go_wp2_with (refine wpList_load_eq rfl 27 _ rfl (.pointer (some ⟨w.heap.size, 0, none⟩)) (vM m) rfl HL.out ?_)
  refine (HM.out _).mono ?_
  rintro ex w1 ⟨rfl, hF⟩
  have F1 := Lib.hid (((Fr.refl No w).alloc _).trans hF)
  have HB1 := Lib.hid (HB.out.fr hF id)
  clear hF HM HL HB
  go_wp2_with fail
  refine (shown7_any _).mono ?_
  rintro ex w2 ⟨rfl, hF⟩
  have F2 := Lib.hid (F1.out.trans hF)
  have HL2 := Lib.hid (msg_load (HB1.out.fr hF id) HH.out mt_msg)
  clear hF
  go_wp2_with (refine wpList_load_eqG 27 _ rfl (.pointer (some ⟨w.heap.size, 0, none⟩)) (vM m) rfl HL2.out (by kernel_rfl) ?_)
  refine (HRM.out _).mono ?_
  rintro ex w3 ⟨rfl, hF⟩
  have F3 := Lib.hid (F2.out.trans hF)
  clear hF
  go_wp2
  go_ret
  exact ⟨rfl, F3.out⟩

set_option maxHeartbeats 2000000 in
theorem others_i (m : Msg) (ok : m.Ok) (c : Nat) (w : World) (hc : c ≤ 255) (hr : c % 5 = 0) (hm : may m = true) :
    Calls Try.prog 7 #[vM m, .int .u8 (c : Int)] w fun e w' => e = .returned (.bool true) ∧ Fr No w w' := by
  have HM : Hid (∀ X, Calls Try.prog 10 #[vM m] X fun ex w' => ex = .returned (.bool true) ∧ Fr No X w') := Lib.hid (fun X => by have := wmay_any m ok X; rwa [hm] at this)
  obtain ⟨k, hk⟩ : ∃ k, k = m.k := ⟨_, rfl⟩
  obtain ⟨L, hL⟩ : ∃ L, L = fieldsB k := ⟨_, rfl⟩
  obtain ⟨z, hz⟩ : ∃ z, z = inB L 105 := ⟨_, rfl⟩
  obtain ⟨m2, hm2⟩ : ∃ x : Msg, x = { m with i := 7 } := ⟨_, rfl⟩
  have ok2 : m2.Ok := by rw [hm2]; exact { ok with i := by dsimp only; omega }
  have HM2 : Hid (∀ X, Calls Try.prog 10 #[vM m2] X fun ex w' => ex = .returned (.bool z) ∧ Fr No X w') := Lib.hid (fun X => by
    have := wmay_any m2 ok2 X
    have hmz : may m2 = z := by rw [hz, hL, hk, hm2]; exact other_i hm
    rwa [hmz] at this)
  have HFD : Hid (∀ X, Calls Try.prog 15 #[.int .i64 k] X fun ex w' => ex = .returned (.string (str L)) ∧ w' = X) := Lib.hid (fun X => by rw [hL]; exact rfields_any k X)
  have HSET : Hid ((cellsM m).set 2 (.int .u64 7) = cellsM m2) := Lib.hid (by rw [hm2]; exact rfl)
  obtain ⟨N, hN⟩ : ∃ N, N = L.length := ⟨_, rfl⟩
  have hN4 : N ≤ 4 := by rw [hN, hL]; exact fields_len _
  have zL : (str L).size = N := by rw [str_size, hN]
  have tm : (c : Int).tmod 5 = 0 := by rw [Int.tmod_eq_emod_of_nonneg (by omega)]; omega
  have em : (c : Int) % 5 = 0 := by omega
  have lc : IntKind.i64.wrap (c : Int) = (c : Int) := IntWalk.i64_in _ (by omega)
  have HB := Lib.hid (Blk.new w 27 (cellsM m))
  have HH := Lib.hid ok.h
  have HH2 := Lib.hid ok2.h
  have HL := Lib.hid (msg_load HB.out HH.out mt_msg)
  have HZ := Lib.hid hz
  have HN := Lib.hid hN
  have HN4 := Lib.hid hN4
  have HK := Lib.hid hk
  obtain ⟨b, hb⟩ : ∃ p, p = w.heap.size := ⟨_, rfl⟩
  have HBB := Lib.hid hb
  clear hm ok hz hL hm2 ok2 hN hN4 hk hc hr hb
  go_enter Try.func7, Try.ntmps7
  go_wp2_with (refine wpList_load_eq rfl 27 _ rfl (.pointer (some ⟨w.heap.size, 0, none⟩)) (vM m) rfl HL.out ?_)
  refine (HM.out _).mono ?_
  rintro ex w1 ⟨rfl, hF⟩
  have F1 := Lib.hid (((Fr.refl No w).alloc _).trans hF)
  have HB1 := Lib.hid (HB.out.fr hF id)
  rw [← HBB.out] at HB1 ⊢
  clear hF HM HL HB
  go_wp2_with fail
  refine (shown7_any _).mono ?_
  rintro ex w2 ⟨rfl, hF⟩
  have F2 := Lib.hid (F1.out.trans hF)
  have HB2 := Lib.hid (HB1.out.fr hF id)
  have HL2 := Lib.hid (msg_load HB2.out HH.out mt_msg)
  obtain ⟨p, hp⟩ : ∃ p, p = w2.heap.size := ⟨_, rfl⟩
  have HP := Lib.hid hp
  clear hF HB1 F1 hp
  go_wp2_with (first
    | (refine wpList_load_eq rfl 27 _ rfl (.pointer (some ⟨b, 0, none⟩)) (vM m) rfl HL2.out ?_)
    | (refine wpList_execG (.pointer (some ⟨p, 0, none⟩)) (exec_alloc 27 rfl _ (by rw [HP.out]; exact mt_msg.alloc w2)) rfl ?_
       refine wpList_world (fun W => Fr No w W ∧ Blk W b 27 (cellsM m) ∧ Blk W p 27 (cellsM zeroM)) ⟨F2.out.alloc _, HB2.out.alloc _, by rw [HP.out]; exact Blk.new w2 _ _⟩ ?_
       rintro w3 ⟨hF3, hB3, hB4⟩
       have hbp : b < p := by rw [HP.out]; exact HB2.out.lt
       obtain ⟨Y, hY, hYR, hYF⟩ := msg_store (m := m) hB4 (by rfl) HH.out mt_msg
       have HY := Lib.hid hY
       have HYR := Lib.hid hYR
       have HK0 := Lib.hid (msg_k (hB3.fr hYF (by omega)))
       have HYF : Hid (Fr No w Y) := Lib.hid (hF3.trans' hYF (fun k hk e => by have h1 := HBB.out; omega))
       have HBP := Lib.hid hbp
       clear hF3 hB3 hB4 hbp hY hYR hYF)
    | (refine wpList_store_eq rfl 27 _ _ rfl (.pointer (some ⟨p, 0, none⟩)) (vM m) rfl rfl HY.out ?_
       have kk := HK0.out
       rw [← HK.out] at kk))
  refine (HFD.out _).mono ?_
  rintro ex w4 ⟨rfl, hw⟩
  rw [hw]
  clear hw HFD
  have cc := msg_i HYR.out
  have cf := HYR.out.frozen 2
  go_wp2
  have HX : Hid (Fr No w (Y.setCell ⟨p, 2, none⟩ (.int .u64 7)) ∧ (Instr.loadAt 27 (.pointer (some ⟨p, 0, none⟩))).run Try.prog (Y.setCell ⟨p, 2, none⟩ (.int .u64 7)) = .ok (vM m2) (Y.setCell ⟨p, 2, none⟩ (.int .u64 7))) := Lib.hid (by
    have hs := HYR.out.set 2 (.int .u64 7)
    rw [HSET.out] at hs
    exact ⟨HYF.out.setCell (.inr (by have h1 := HP.out; have h2 := F2.out.size; show _ ≤ p; omega)) _, msg_load hs HH2.out mt_msg⟩)
  obtain ⟨Z, hZ⟩ : ∃ Z, Z = Y.setCell ⟨p, 2, none⟩ (.int .u64 7) := ⟨_, rfl⟩
  rw [← hZ] at HX ⊢
  have HXL := Lib.hid HX.out.2
  clear cc cf kk hZ
  go_loop [8, 9] (fun v i' => ∃ (j : Nat) (y : Bool), j ≤ N ∧ i' = .int .i64 j ∧ v = .bool y ∧ y = inB (L.take j) 105) (fun _ i' => N - (intOf i').toNat)
  case atStart => exact ⟨0, false, by omega, rfl, rfl, rfl⟩
  case round =>
    obtain ⟨j, y, hj, rfl, rfl, hy⟩ := hrel
    by_cases hlt : j < N
    · have hk1 : (j : Int) < (N : Int) := by omega
      have hjl : j < L.length := by rw [← HN.out]; exact hlt
      have hkj : j < (str L).size := by rw [zL]; exact hlt
      have e1 : IntKind.i64.wrap ((j : Int) + 1) = ((j + 1 : Nat) : Int) := IntWalk.i64_in _ (by have := HN4.out; omega)
      obtain ⟨d, hd⟩ : ∃ d, d = L[j] := ⟨_, rfl⟩
      have hgj : (str L)[j]'hkj = d := by rw [hd]; rfl
      have ht : L.take (j + 1) = L.take j ++ [d] := by rw [hd]; exact List.take_succ_eq_append_getElem hjl
      obtain ⟨D, hD⟩ : ∃ D, D = d.toNat := ⟨_, rfl⟩
      have hDD := hD.symm
      obtain ⟨y2, hy2⟩ : ∃ y, y = (d == 105) := ⟨_, rfl⟩
      have hq : ((D : Int) == 105) = y2 := by
        rw [hy2, hD, Bool.eq_iff_iff, beq_iff_eq, beq_iff_eq]
        constructor
        · intro h
          exact UInt8.toNat_inj.1 (by have : (105 : UInt8).toNat = 105 := rfl
                                      omega)
        · intro h
          rw [h]
          rfl
      have HT : Hid (inB (L.take (j + 1)) 105 = (y || y2)) := Lib.hid (by rw [ht, inB_snoc, ← hy, hy2])
      have HX2 : Hid (N - (j + 1) < N - j) := Lib.hid (by omega)
      have HK2 : Hid (j + 1 ≤ N) := Lib.hid hlt
      clear hy hd ht hD hy2 hlt hj hjl
      cases y with
      | true =>
        go_wp2
        exact ⟨⟨j + 1, true, HK2.out, by simp, rfl, by rw [HT.out]; rfl⟩, by simpa [intOf] using HX2.out⟩
      | false =>
        go_wp2
        exact ⟨⟨j + 1, y2, HK2.out, by simp, by show Value.bool ((D : Int) == 105) = .bool y2; rw [hq], by rw [HT.out]; rfl⟩, by simpa [intOf] using HX2.out⟩
    · have hk1 : ¬ (j : Int) < (N : Int) := by omega
      obtain rfl : y = z := by rw [hy, HZ.out, List.take_of_length_le (by rw [← HN.out]; omega)]
      clear hy hj hlt
      go_wp2_with (refine wpList_load_eq rfl 27 _ rfl (.pointer (some ⟨p, 0, none⟩)) (vM m2) rfl HXL.out ?_)
      refine (HM2.out _).mono ?_
      rintro ex w5 ⟨rfl, hF⟩
      have F5 := Lib.hid (HX.out.1.trans hF)
      clear hF
      go_wp2
      go_ret
      exact ⟨by simp, F5.out⟩

set_option maxHeartbeats 2000000 in
theorem others_a (m : Msg) (ok : m.Ok) (c : Nat) (w : World) (hc : c ≤ 255) (hr : c % 5 = 1) (hm : may m = true) :
    Calls Try.prog 7 #[vM m, .int .u8 (c : Int)] w fun e w' => e = .returned (.bool true) ∧ Fr No w w' := by
  have HM : Hid (∀ X, Calls Try.prog 10 #[vM m] X fun ex w' => ex = .returned (.bool true) ∧ Fr No X w') := Lib.hid (fun X => by have := wmay_any m ok X; rwa [hm] at this)
  obtain ⟨k, hk⟩ : ∃ k, k = m.k := ⟨_, rfl⟩
  obtain ⟨L, hL⟩ : ∃ L, L = fieldsB k := ⟨_, rfl⟩
  obtain ⟨z, hz⟩ : ∃ z, z = inB L 97 := ⟨_, rfl⟩
  obtain ⟨m2, hm2⟩ : ∃ x : Msg, x = { m with a := 7 } := ⟨_, rfl⟩
  have ok2 : m2.Ok := by rw [hm2]; exact { ok with a := by dsimp only; omega }
  have HM2 : Hid (∀ X, Calls Try.prog 10 #[vM m2] X fun ex w' => ex = .returned (.bool z) ∧ Fr No X w') := Lib.hid (fun X => by
    have := wmay_any m2 ok2 X
    have hmz : may m2 = z := by rw [hz, hL, hk, hm2]; exact other_a hm
    rwa [hmz] at this)
  have HFD : Hid (∀ X, Calls Try.prog 15 #[.int .i64 k] X fun ex w' => ex = .returned (.string (str L)) ∧ w' = X) := Lib.hid (fun X => by rw [hL]; exact rfields_any k X)
  have HSET : Hid ((cellsM m).set 3 (.int .u64 7) = cellsM m2) := Lib.hid (by rw [hm2]; exact rfl)
  obtain ⟨N, hN⟩ : ∃ N, N = L.length := ⟨_, rfl⟩
  have hN4 : N ≤ 4 := by rw [hN, hL]; exact fields_len _
  have zL : (str L).size = N := by rw [str_size, hN]
  have tm : (c : Int).tmod 5 = 1 := by rw [Int.tmod_eq_emod_of_nonneg (by omega)]; omega
  have em : (c : Int) % 5 = 1 := by omega
  have lc : IntKind.i64.wrap (c : Int) = (c : Int) := IntWalk.i64_in _ (by omega)
  have HB := Lib.hid (Blk.new w 27 (cellsM m))
  have HH := Lib.hid ok.h
  have HH2 := Lib.hid ok2.h
  have HL := Lib.hid (msg_load HB.out HH.out mt_msg)
  have HZ := Lib.hid hz
  have HN := Lib.hid hN
  have HN4 := Lib.hid hN4
  have HK := Lib.hid hk
  obtain ⟨b, hb⟩ : ∃ p, p = w.heap.size := ⟨_, rfl⟩
  have HBB := Lib.hid hb
  clear hm ok hz hL hm2 ok2 hN hN4 hk hc hr hb
  go_enter Try.func7, Try.ntmps7
  go_wp2_with (refine wpList_load_eq rfl 27 _ rfl (.pointer (some ⟨w.heap.size, 0, none⟩)) (vM m) rfl HL.out ?_)
  refine (HM.out _).mono ?_
  rintro ex w1 ⟨rfl, hF⟩
  have F1 := Lib.hid (((Fr.refl No w).alloc _).trans hF)
  have HB1 := Lib.hid (HB.out.fr hF id)
  rw [← HBB.out] at HB1 ⊢
  clear hF HM HL HB
  go_wp2_with fail
  refine (shown7_any _).mono ?_
  rintro ex w2 ⟨rfl, hF⟩
  have F2 := Lib.hid (F1.out.trans hF)
  have HB2 := Lib.hid (HB1.out.fr hF id)
  have HL2 := Lib.hid (msg_load HB2.out HH.out mt_msg)
  obtain ⟨p, hp⟩ : ∃ p, p = w2.heap.size := ⟨_, rfl⟩
  have HP := Lib.hid hp
  clear hF HB1 F1 hp
  go_wp2_with (first
    | (refine wpList_load_eq rfl 27 _ rfl (.pointer (some ⟨b, 0, none⟩)) (vM m) rfl HL2.out ?_)
    | (refine wpList_execG (.pointer (some ⟨p, 0, none⟩)) (exec_alloc 27 rfl _ (by rw [HP.out]; exact mt_msg.alloc w2)) rfl ?_
       refine wpList_world (fun W => Fr No w W ∧ Blk W b 27 (cellsM m) ∧ Blk W p 27 (cellsM zeroM)) ⟨F2.out.alloc _, HB2.out.alloc _, by rw [HP.out]; exact Blk.new w2 _ _⟩ ?_
       rintro w3 ⟨hF3, hB3, hB4⟩
       have hbp : b < p := by rw [HP.out]; exact HB2.out.lt
       obtain ⟨Y, hY, hYR, hYF⟩ := msg_store (m := m) hB4 (by rfl) HH.out mt_msg
       have HY := Lib.hid hY
       have HYR := Lib.hid hYR
       have HK0 := Lib.hid (msg_k (hB3.fr hYF (by omega)))
       have HYF : Hid (Fr No w Y) := Lib.hid (hF3.trans' hYF (fun k hk e => by have h1 := HBB.out; omega))
       have HBP := Lib.hid hbp
       clear hF3 hB3 hB4 hbp hY hYR hYF)
    | (refine wpList_store_eq rfl 27 _ _ rfl (.pointer (some ⟨p, 0, none⟩)) (vM m) rfl rfl HY.out ?_
       have kk := HK0.out
       rw [← HK.out] at kk))
  refine (HFD.out _).mono ?_
  rintro ex w4 ⟨rfl, hw⟩
  rw [hw]
  clear hw HFD
  have cc := msg_a HYR.out
  have cf := HYR.out.frozen 3
  go_wp2
  have HX : Hid (Fr No w (Y.setCell ⟨p, 3, none⟩ (.int .u64 7)) ∧ (Instr.loadAt 27 (.pointer (some ⟨p, 0, none⟩))).run Try.prog (Y.setCell ⟨p, 3, none⟩ (.int .u64 7)) = .ok (vM m2) (Y.setCell ⟨p, 3, none⟩ (.int .u64 7))) := Lib.hid (by
    have hs := HYR.out.set 3 (.int .u64 7)
    rw [HSET.out] at hs
    exact ⟨HYF.out.setCell (.inr (by have h1 := HP.out; have h2 := F2.out.size; show _ ≤ p; omega)) _, msg_load hs HH2.out mt_msg⟩)
  obtain ⟨Z, hZ⟩ : ∃ Z, Z = Y.setCell ⟨p, 3, none⟩ (.int .u64 7) := ⟨_, rfl⟩
  rw [← hZ] at HX ⊢
  have HXL := Lib.hid HX.out.2
  clear cc cf kk hZ
  go_loop [8, 9] (fun v i' => ∃ (j : Nat) (y : Bool), j ≤ N ∧ i' = .int .i64 j ∧ v = .bool y ∧ y = inB (L.take j) 97) (fun _ i' => N - (intOf i').toNat)
  case atStart => exact ⟨0, false, by omega, rfl, rfl, rfl⟩
  case round =>
    obtain ⟨j, y, hj, rfl, rfl, hy⟩ := hrel
    by_cases hlt : j < N
    · have hk1 : (j : Int) < (N : Int) := by omega
      have hjl : j < L.length := by rw [← HN.out]; exact hlt
      have hkj : j < (str L).size := by rw [zL]; exact hlt
      have e1 : IntKind.i64.wrap ((j : Int) + 1) = ((j + 1 : Nat) : Int) := IntWalk.i64_in _ (by have := HN4.out; omega)
      obtain ⟨d, hd⟩ : ∃ d, d = L[j] := ⟨_, rfl⟩
      have hgj : (str L)[j]'hkj = d := by rw [hd]; rfl
      have ht : L.take (j + 1) = L.take j ++ [d] := by rw [hd]; exact List.take_succ_eq_append_getElem hjl
      obtain ⟨D, hD⟩ : ∃ D, D = d.toNat := ⟨_, rfl⟩
      have hDD := hD.symm
      obtain ⟨y2, hy2⟩ : ∃ y, y = (d == 97) := ⟨_, rfl⟩
      have hq : ((D : Int) == 97) = y2 := by
        rw [hy2, hD, Bool.eq_iff_iff, beq_iff_eq, beq_iff_eq]
        constructor
        · intro h
          exact UInt8.toNat_inj.1 (by have : (97 : UInt8).toNat = 97 := rfl
                                      omega)
        · intro h
          rw [h]
          rfl
      have HT : Hid (inB (L.take (j + 1)) 97 = (y || y2)) := Lib.hid (by rw [ht, inB_snoc, ← hy, hy2])
      have HX2 : Hid (N - (j + 1) < N - j) := Lib.hid (by omega)
      have HK2 : Hid (j + 1 ≤ N) := Lib.hid hlt
      clear hy hd ht hD hy2 hlt hj hjl
      cases y with
      | true =>
        go_wp2
        exact ⟨⟨j + 1, true, HK2.out, by simp, rfl, by rw [HT.out]; rfl⟩, by simpa [intOf] using HX2.out⟩
      | false =>
        go_wp2
        exact ⟨⟨j + 1, y2, HK2.out, by simp, by show Value.bool ((D : Int) == 97) = .bool y2; rw [hq], by rw [HT.out]; rfl⟩, by simpa [intOf] using HX2.out⟩
    · have hk1 : ¬ (j : Int) < (N : Int) := by omega
      obtain rfl : y = z := by rw [hy, HZ.out, List.take_of_length_le (by rw [← HN.out]; omega)]
      clear hy hj hlt
      go_wp2_with (refine wpList_load_eq rfl 27 _ rfl (.pointer (some ⟨p, 0, none⟩)) (vM m2) rfl HXL.out ?_)
      refine (HM2.out _).mono ?_
      rintro ex w5 ⟨rfl, hF⟩
      have F5 := Lib.hid (HX.out.1.trans hF)
      clear hF
      go_wp2
      go_ret
      exact ⟨by simp, F5.out⟩

set_option maxHeartbeats 2000000 in
theorem others_h (m : Msg) (ok : m.Ok) (c : Nat) (w : World) (hc : c ≤ 255) (hr : c % 5 = 2) (hm : may m = true) :
    Calls Try.prog 7 #[vM m, .int .u8 (c : Int)] w fun e w' => e = .returned (.bool true) ∧ Fr No w w' := by
  have HM : Hid (∀ X, Calls Try.prog 10 #[vM m] X fun ex w' => ex = .returned (.bool true) ∧ Fr No X w') := Lib.hid (fun X => by have := wmay_any m ok X; rwa [hm] at this)
  obtain ⟨k, hk⟩ : ∃ k, k = m.k := ⟨_, rfl⟩
  obtain ⟨L, hL⟩ : ∃ L, L = fieldsB k := ⟨_, rfl⟩
  obtain ⟨z, hz⟩ : ∃ z, z = inB L 104 := ⟨_, rfl⟩
  obtain ⟨m2, hm2⟩ : ∃ x : Msg, x = { m with h := m.h.set 3 7 } := ⟨_, rfl⟩
  have ok2 : m2.Ok := by rw [hm2]; exact { ok with h := by dsimp only; rw [List.length_set]; exact ok.h }
  have HM2 : Hid (∀ X, Calls Try.prog 10 #[vM m2] X fun ex w' => ex = .returned (.bool z) ∧ Fr No X w') := Lib.hid (fun X => by
    have := wmay_any m2 ok2 X
    have hmz : may m2 = z := by rw [hz, hL, hk, hm2]; exact other_h hm ok.h
    rwa [hmz] at this)
  have HFD : Hid (∀ X, Calls Try.prog 15 #[.int .i64 k] X fun ex w' => ex = .returned (.string (str L)) ∧ w' = X) := Lib.hid (fun X => by rw [hL]; exact rfields_any k X)
  have HSET : Hid ((cellsM m).set 7 (.int .u8 7) = cellsM m2) := Lib.hid (by rw [hm2]; exact cells_set7 m ok.h)
  obtain ⟨N, hN⟩ : ∃ N, N = L.length := ⟨_, rfl⟩
  have hN4 : N ≤ 4 := by rw [hN, hL]; exact fields_len _
  have zL : (str L).size = N := by rw [str_size, hN]
  have tm : (c : Int).tmod 5 = 2 := by rw [Int.tmod_eq_emod_of_nonneg (by omega)]; omega
  have em : (c : Int) % 5 = 2 := by omega
  have lc : IntKind.i64.wrap (c : Int) = (c : Int) := IntWalk.i64_in _ (by omega)
  have HB := Lib.hid (Blk.new w 27 (cellsM m))
  have HH := Lib.hid ok.h
  have HH2 := Lib.hid ok2.h
  have HL := Lib.hid (msg_load HB.out HH.out mt_msg)
  have HZ := Lib.hid hz
  have HN := Lib.hid hN
  have HN4 := Lib.hid hN4
  have HK := Lib.hid hk
  obtain ⟨b, hb⟩ : ∃ p, p = w.heap.size := ⟨_, rfl⟩
  have HBB := Lib.hid hb
  clear hm ok hz hL hm2 ok2 hN hN4 hk hc hr hb
  go_enter Try.func7, Try.ntmps7
  go_wp2_with (refine wpList_load_eq rfl 27 _ rfl (.pointer (some ⟨w.heap.size, 0, none⟩)) (vM m) rfl HL.out ?_)
  refine (HM.out _).mono ?_
  rintro ex w1 ⟨rfl, hF⟩
  have F1 := Lib.hid (((Fr.refl No w).alloc _).trans hF)
  have HB1 := Lib.hid (HB.out.fr hF id)
  rw [← HBB.out] at HB1 ⊢
  clear hF HM HL HB
  go_wp2_with fail
  refine (shown7_any _).mono ?_
  rintro ex w2 ⟨rfl, hF⟩
  have F2 := Lib.hid (F1.out.trans hF)
  have HB2 := Lib.hid (HB1.out.fr hF id)
  have HL2 := Lib.hid (msg_load HB2.out HH.out mt_msg)
  obtain ⟨p, hp⟩ : ∃ p, p = w2.heap.size := ⟨_, rfl⟩
  have HP := Lib.hid hp
  clear hF HB1 F1 hp
  go_wp2_with (first
    | (refine wpList_load_eq rfl 27 _ rfl (.pointer (some ⟨b, 0, none⟩)) (vM m) rfl HL2.out ?_)
    | (refine wpList_execG (.pointer (some ⟨p, 0, none⟩)) (exec_alloc 27 rfl _ (by rw [HP.out]; exact mt_msg.alloc w2)) rfl ?_
       refine wpList_world (fun W => Fr No w W ∧ Blk W b 27 (cellsM m) ∧ Blk W p 27 (cellsM zeroM)) ⟨F2.out.alloc _, HB2.out.alloc _, by rw [HP.out]; exact Blk.new w2 _ _⟩ ?_
       rintro w3 ⟨hF3, hB3, hB4⟩
       have hbp : b < p := by rw [HP.out]; exact HB2.out.lt
       obtain ⟨Y, hY, hYR, hYF⟩ := msg_store (m := m) hB4 (by rfl) HH.out mt_msg
       have HY := Lib.hid hY
       have HYR := Lib.hid hYR
       have HK0 := Lib.hid (msg_k (hB3.fr hYF (by omega)))
       have HYF : Hid (Fr No w Y) := Lib.hid (hF3.trans' hYF (fun k hk e => by have h1 := HBB.out; omega))
       have HBP := Lib.hid hbp
       clear hF3 hB3 hB4 hbp hY hYR hYF)
    | (refine wpList_store_eq rfl 27 _ _ rfl (.pointer (some ⟨p, 0, none⟩)) (vM m) rfl rfl HY.out ?_
       have kk := HK0.out
       rw [← HK.out] at kk))
  refine (HFD.out _).mono ?_
  rintro ex w4 ⟨rfl, hw⟩
  rw [hw]
  clear hw HFD
  obtain ⟨x3, hx3⟩ : ∃ x, m.h[3]? = some x := ⟨_, List.getElem?_eq_getElem (by rw [HH.out]; decide)⟩
  have cc : Y.cell? ⟨p, 7, none⟩ = some (.int .u8 (x3.toNat : Int)) := HYR.out.cell (by
    have e : (m.h.map u8v).length = 32 := by rw [List.length_map]; exact HH.out
    rw [cellsM, List.getElem?_append_right (by simp), List.getElem?_append_left (by simp [HH.out])]
    simp [hx3])
  clear hx3
  have cf := HYR.out.frozen 7
  go_wp2
  have HX : Hid (Fr No w (Y.setCell ⟨p, 7, none⟩ (.int .u8 7)) ∧ (Instr.loadAt 27 (.pointer (some ⟨p, 0, none⟩))).run Try.prog (Y.setCell ⟨p, 7, none⟩ (.int .u8 7)) = .ok (vM m2) (Y.setCell ⟨p, 7, none⟩ (.int .u8 7))) := Lib.hid (by
    have hs := HYR.out.set 7 (.int .u8 7)
    rw [HSET.out] at hs
    exact ⟨HYF.out.setCell (.inr (by have h1 := HP.out; have h2 := F2.out.size; show _ ≤ p; omega)) _, msg_load hs HH2.out mt_msg⟩)
  obtain ⟨Z, hZ⟩ : ∃ Z, Z = Y.setCell ⟨p, 7, none⟩ (.int .u8 7) := ⟨_, rfl⟩
  rw [← hZ] at HX ⊢
  have HXL := Lib.hid HX.out.2
  clear cc cf kk hZ
  go_loop [8, 9] (fun v i' => ∃ (j : Nat) (y : Bool), j ≤ N ∧ i' = .int .i64 j ∧ v = .bool y ∧ y = inB (L.take j) 104) (fun _ i' => N - (intOf i').toNat)
  case atStart => exact ⟨0, false, by omega, rfl, rfl, rfl⟩
  case round =>
    obtain ⟨j, y, hj, rfl, rfl, hy⟩ := hrel
    by_cases hlt : j < N
    · have hk1 : (j : Int) < (N : Int) := by omega
      have hjl : j < L.length := by rw [← HN.out]; exact hlt
      have hkj : j < (str L).size := by rw [zL]; exact hlt
      have e1 : IntKind.i64.wrap ((j : Int) + 1) = ((j + 1 : Nat) : Int) := IntWalk.i64_in _ (by have := HN4.out; omega)
      obtain ⟨d, hd⟩ : ∃ d, d = L[j] := ⟨_, rfl⟩
      have hgj : (str L)[j]'hkj = d := by rw [hd]; rfl
      have ht : L.take (j + 1) = L.take j ++ [d] := by rw [hd]; exact List.take_succ_eq_append_getElem hjl
      obtain ⟨D, hD⟩ : ∃ D, D = d.toNat := ⟨_, rfl⟩
      have hDD := hD.symm
      obtain ⟨y2, hy2⟩ : ∃ y, y = (d == 104) := ⟨_, rfl⟩
      have hq : ((D : Int) == 104) = y2 := by
        rw [hy2, hD, Bool.eq_iff_iff, beq_iff_eq, beq_iff_eq]
        constructor
        · intro h
          exact UInt8.toNat_inj.1 (by have : (104 : UInt8).toNat = 104 := rfl
                                      omega)
        · intro h
          rw [h]
          rfl
      have HT : Hid (inB (L.take (j + 1)) 104 = (y || y2)) := Lib.hid (by rw [ht, inB_snoc, ← hy, hy2])
      have HX2 : Hid (N - (j + 1) < N - j) := Lib.hid (by omega)
      have HK2 : Hid (j + 1 ≤ N) := Lib.hid hlt
      clear hy hd ht hD hy2 hlt hj hjl
      cases y with
      | true =>
        go_wp2
        exact ⟨⟨j + 1, true, HK2.out, by simp, rfl, by rw [HT.out]; rfl⟩, by simpa [intOf] using HX2.out⟩
      | false =>
        go_wp2
        exact ⟨⟨j + 1, y2, HK2.out, by simp, by show Value.bool ((D : Int) == 104) = .bool y2; rw [hq], by rw [HT.out]; rfl⟩, by simpa [intOf] using HX2.out⟩
    · have hk1 : ¬ (j : Int) < (N : Int) := by omega
      obtain rfl : y = z := by rw [hy, HZ.out, List.take_of_length_le (by rw [← HN.out]; omega)]
      clear hy hj hlt
      go_wp2_with (refine wpList_load_eq rfl 27 _ rfl (.pointer (some ⟨p, 0, none⟩)) (vM m2) rfl HXL.out ?_)
      refine (HM2.out _).mono ?_
      rintro ex w5 ⟨rfl, hF⟩
      have F5 := Lib.hid (HX.out.1.trans hF)
      clear hF
      go_wp2
      go_ret
      exact ⟨by simp, F5.out⟩

set_option maxHeartbeats 2000000 in
theorem others_e (m : Msg) (ok : m.Ok) (c : Nat) (w : World) (hc : c ≤ 255) (hr : c % 5 = 3) (hm : may m = true) :
    Calls Try.prog 7 #[vM m, .int .u8 (c : Int)] w fun e w' => e = .returned (.bool true) ∧ Fr No w w' := by
  have HM : Hid (∀ X, Calls Try.prog 10 #[vM m] X fun ex w' => ex = .returned (.bool true) ∧ Fr No X w') := Lib.hid (fun X => by have := wmay_any m ok X; rwa [hm] at this)
  obtain ⟨k, hk⟩ : ∃ k, k = m.k := ⟨_, rfl⟩
  obtain ⟨L, hL⟩ : ∃ L, L = fieldsB k := ⟨_, rfl⟩
  obtain ⟨z, hz⟩ : ∃ z, z = inB L 101 := ⟨_, rfl⟩
  obtain ⟨m2, hm2⟩ : ∃ x : Msg, x = { m with e := 7 } := ⟨_, rfl⟩
  have ok2 : m2.Ok := by rw [hm2]; exact { ok with e := by dsimp only; omega }
  have HM2 : Hid (∀ X, Calls Try.prog 10 #[vM m2] X fun ex w' => ex = .returned (.bool z) ∧ Fr No X w') := Lib.hid (fun X => by
    have := wmay_any m2 ok2 X
    have hmz : may m2 = z := by rw [hz, hL, hk, hm2]; exact other_e hm
    rwa [hmz] at this)
  have HFD : Hid (∀ X, Calls Try.prog 15 #[.int .i64 k] X fun ex w' => ex = .returned (.string (str L)) ∧ w' = X) := Lib.hid (fun X => by rw [hL]; exact rfields_any k X)
  have HSET : Hid ((cellsM m).set 36 (.int .i64 7) = cellsM m2) := Lib.hid (by rw [hm2]; exact cells_set36 m ok.h 7)
  obtain ⟨N, hN⟩ : ∃ N, N = L.length := ⟨_, rfl⟩
  have hN4 : N ≤ 4 := by rw [hN, hL]; exact fields_len _
  have zL : (str L).size = N := by rw [str_size, hN]
  have tm : (c : Int).tmod 5 = 3 := by rw [Int.tmod_eq_emod_of_nonneg (by omega)]; omega
  have em : (c : Int) % 5 = 3 := by omega
  have lc : IntKind.i64.wrap (c : Int) = (c : Int) := IntWalk.i64_in _ (by omega)
  have HB := Lib.hid (Blk.new w 27 (cellsM m))
  have HH := Lib.hid ok.h
  have HH2 := Lib.hid ok2.h
  have HL := Lib.hid (msg_load HB.out HH.out mt_msg)
  have HZ := Lib.hid hz
  have HN := Lib.hid hN
  have HN4 := Lib.hid hN4
  have HK := Lib.hid hk
  obtain ⟨b, hb⟩ : ∃ p, p = w.heap.size := ⟨_, rfl⟩
  have HBB := Lib.hid hb
  clear hm ok hz hL hm2 ok2 hN hN4 hk hc hr hb
  go_enter Try.func7, Try.ntmps7
  go_wp2_with (refine wpList_load_eq rfl 27 _ rfl (.pointer (some ⟨w.heap.size, 0, none⟩)) (vM m) rfl HL.out ?_)
  refine (HM.out _).mono ?_
  rintro ex w1 ⟨rfl, hF⟩
  have F1 := Lib.hid (((Fr.refl No w).alloc _).trans hF)
  have HB1 := Lib.hid (HB.out.fr hF id)
  rw [← HBB.out] at HB1 ⊢
  clear hF HM HL HB
  go_wp2_with fail
  refine (shown7_any _).mono ?_
  rintro ex w2 ⟨rfl, hF⟩
  have F2 := Lib.hid (F1.out.trans hF)
  have HB2 := Lib.hid (HB1.out.fr hF id)
  have HL2 := Lib.hid (msg_load HB2.out HH.out mt_msg)
  obtain ⟨p, hp⟩ : ∃ p, p = w2.heap.size := ⟨_, rfl⟩
  have HP := Lib.hid hp
  clear hF HB1 F1 hp
  go_wp2_with (first
    | (refine wpList_load_eq rfl 27 _ rfl (.pointer (some ⟨b, 0, none⟩)) (vM m) rfl HL2.out ?_)
    | (refine wpList_execG (.pointer (some ⟨p, 0, none⟩)) (exec_alloc 27 rfl _ (by rw [HP.out]; exact mt_msg.alloc w2)) rfl ?_
       refine wpList_world (fun W => Fr No w W ∧ Blk W b 27 (cellsM m) ∧ Blk W p 27 (cellsM zeroM)) ⟨F2.out.alloc _, HB2.out.alloc _, by rw [HP.out]; exact Blk.new w2 _ _⟩ ?_
       rintro w3 ⟨hF3, hB3, hB4⟩
       have hbp : b < p := by rw [HP.out]; exact HB2.out.lt
       obtain ⟨Y, hY, hYR, hYF⟩ := msg_store (m := m) hB4 (by rfl) HH.out mt_msg
       have HY := Lib.hid hY
       have HYR := Lib.hid hYR
       have HK0 := Lib.hid (msg_k (hB3.fr hYF (by omega)))
       have HYF : Hid (Fr No w Y) := Lib.hid (hF3.trans' hYF (fun k hk e => by have h1 := HBB.out; omega))
       have HBP := Lib.hid hbp
       clear hF3 hB3 hB4 hbp hY hYR hYF)
    | (refine wpList_store_eq rfl 27 _ _ rfl (.pointer (some ⟨p, 0, none⟩)) (vM m) rfl rfl HY.out ?_
       have kk := HK0.out
       rw [← HK.out] at kk))
  refine (HFD.out _).mono ?_
  rintro ex w4 ⟨rfl, hw⟩
  rw [hw]
  clear hw HFD
  have cc := msg_e HYR.out HH.out
  have cf := HYR.out.frozen 36
  go_wp2
  have HX : Hid (Fr No w (Y.setCell ⟨p, 36, none⟩ (.int .i64 7)) ∧ (Instr.loadAt 27 (.pointer (some ⟨p, 0, none⟩))).run Try.prog (Y.setCell ⟨p, 36, none⟩ (.int .i64 7)) = .ok (vM m2) (Y.setCell ⟨p, 36, none⟩ (.int .i64 7))) := Lib.hid (by
    have hs := HYR.out.set 36 (.int .i64 7)
    rw [HSET.out] at hs
    exact ⟨HYF.out.setCell (.inr (by have h1 := HP.out; have h2 := F2.out.size; show _ ≤ p; omega)) _, msg_load hs HH2.out mt_msg⟩)
  obtain ⟨Z, hZ⟩ : ∃ Z, Z = Y.setCell ⟨p, 36, none⟩ (.int .i64 7) := ⟨_, rfl⟩
  rw [← hZ] at HX ⊢
  have HXL := Lib.hid HX.out.2
  clear cc cf kk hZ
  go_loop [8, 9] (fun v i' => ∃ (j : Nat) (y : Bool), j ≤ N ∧ i' = .int .i64 j ∧ v = .bool y ∧ y = inB (L.take j) 101) (fun _ i' => N - (intOf i').toNat)
  case atStart => exact ⟨0, false, by omega, rfl, rfl, rfl⟩
  case round =>
    obtain ⟨j, y, hj, rfl, rfl, hy⟩ := hrel
    by_cases hlt : j < N
    · have hk1 : (j : Int) < (N : Int) := by omega
      have hjl : j < L.length := by rw [← HN.out]; exact hlt
      have hkj : j < (str L).size := by rw [zL]; exact hlt
      have e1 : IntKind.i64.wrap ((j : Int) + 1) = ((j + 1 : Nat) : Int) := IntWalk.i64_in _ (by have := HN4.out; omega)
      obtain ⟨d, hd⟩ : ∃ d, d = L[j] := ⟨_, rfl⟩
      have hgj : (str L)[j]'hkj = d := by rw [hd]; rfl
      have ht : L.take (j + 1) = L.take j ++ [d] := by rw [hd]; exact List.take_succ_eq_append_getElem hjl
      obtain ⟨D, hD⟩ : ∃ D, D = d.toNat := ⟨_, rfl⟩
      have hDD := hD.symm
      obtain ⟨y2, hy2⟩ : ∃ y, y = (d == 101) := ⟨_, rfl⟩
      have hq : ((D : Int) == 101) = y2 := by
        rw [hy2, hD, Bool.eq_iff_iff, beq_iff_eq, beq_iff_eq]
        constructor
        · intro h
          exact UInt8.toNat_inj.1 (by have : (101 : UInt8).toNat = 101 := rfl
                                      omega)
        · intro h
          rw [h]
          rfl
      have HT : Hid (inB (L.take (j + 1)) 101 = (y || y2)) := Lib.hid (by rw [ht, inB_snoc, ← hy, hy2])
      have HX2 : Hid (N - (j + 1) < N - j) := Lib.hid (by omega)
      have HK2 : Hid (j + 1 ≤ N) := Lib.hid hlt
      clear hy hd ht hD hy2 hlt hj hjl
      cases y with
      | true =>
        go_wp2
        exact ⟨⟨j + 1, true, HK2.out, by simp, rfl, by rw [HT.out]; rfl⟩, by simpa [intOf] using HX2.out⟩
      | false =>
        go_wp2
        exact ⟨⟨j + 1, y2, HK2.out, by simp, by show Value.bool ((D : Int) == 101) = .bool y2; rw [hq], by rw [HT.out]; rfl⟩, by simpa [intOf] using HX2.out⟩
    · have hk1 : ¬ (j : Int) < (N : Int) := by omega
      obtain rfl : y = z := by rw [hy, HZ.out, List.take_of_length_le (by rw [← HN.out]; omega)]
      clear hy hj hlt
      go_wp2_with (refine wpList_load_eq rfl 27 _ rfl (.pointer (some ⟨p, 0, none⟩)) (vM m2) rfl HXL.out ?_)
      refine (HM2.out _).mono ?_
      rintro ex w5 ⟨rfl, hF⟩
      have F5 := Lib.hid (HX.out.1.trans hF)
      clear hF
      go_wp2
      go_ret
      exact ⟨by simp, F5.out⟩

set_option maxHeartbeats 2000000 in
theorem others_n (m : Msg) (ok : m.Ok) (c : Nat) (w : World) (hc : c ≤ 255) (hr : c % 5 = 4) (hm : may m = true) :
    Calls Try.prog 7 #[vM m, .int .u8 (c : Int)] w fun e w' => e = .returned (.bool true) ∧ Fr No w w' := by
  have HM : Hid (∀ X, Calls Try.prog 10 #[vM m] X fun ex w' => ex = .returned (.bool true) ∧ Fr No X w') := Lib.hid (fun X => by have := wmay_any m ok X; rwa [hm] at this)
  obtain ⟨k, hk⟩ : ∃ k, k = m.k := ⟨_, rfl⟩
  obtain ⟨L, hL⟩ : ∃ L, L = fieldsB k := ⟨_, rfl⟩
  obtain ⟨z, hz⟩ : ∃ z, z = inB L 110 := ⟨_, rfl⟩
  obtain ⟨m2, hm2⟩ : ∃ x : Msg, x = { m with n := 7 } := ⟨_, rfl⟩
  have ok2 : m2.Ok := by rw [hm2]; exact { ok with n := by dsimp only; omega }
  have HM2 : Hid (∀ X, Calls Try.prog 10 #[vM m2] X fun ex w' => ex = .returned (.bool z) ∧ Fr No X w') := Lib.hid (fun X => by
    have := wmay_any m2 ok2 X
    have hmz : may m2 = z := by rw [hz, hL, hk, hm2]; exact other_n hm
    rwa [hmz] at this)
  have HFD : Hid (∀ X, Calls Try.prog 15 #[.int .i64 k] X fun ex w' => ex = .returned (.string (str L)) ∧ w' = X) := Lib.hid (fun X => by rw [hL]; exact rfields_any k X)
  have HSET : Hid ((cellsM m).set 37 (.int .i64 7) = cellsM m2) := Lib.hid (by rw [hm2]; exact cells_set37 m ok.h 7)
  obtain ⟨N, hN⟩ : ∃ N, N = L.length := ⟨_, rfl⟩
  have hN4 : N ≤ 4 := by rw [hN, hL]; exact fields_len _
  have zL : (str L).size = N := by rw [str_size, hN]
  have tm : (c : Int).tmod 5 = 4 := by rw [Int.tmod_eq_emod_of_nonneg (by omega)]; omega
  have em : (c : Int) % 5 = 4 := by omega
  have lc : IntKind.i64.wrap (c : Int) = (c : Int) := IntWalk.i64_in _ (by omega)
  have HB := Lib.hid (Blk.new w 27 (cellsM m))
  have HH := Lib.hid ok.h
  have HH2 := Lib.hid ok2.h
  have HL := Lib.hid (msg_load HB.out HH.out mt_msg)
  have HZ := Lib.hid hz
  have HN := Lib.hid hN
  have HN4 := Lib.hid hN4
  have HK := Lib.hid hk
  obtain ⟨b, hb⟩ : ∃ p, p = w.heap.size := ⟨_, rfl⟩
  have HBB := Lib.hid hb
  clear hm ok hz hL hm2 ok2 hN hN4 hk hc hr hb
  go_enter Try.func7, Try.ntmps7
  go_wp2_with (refine wpList_load_eq rfl 27 _ rfl (.pointer (some ⟨w.heap.size, 0, none⟩)) (vM m) rfl HL.out ?_)
  refine (HM.out _).mono ?_
  rintro ex w1 ⟨rfl, hF⟩
  have F1 := Lib.hid (((Fr.refl No w).alloc _).trans hF)
  have HB1 := Lib.hid (HB.out.fr hF id)
  rw [← HBB.out] at HB1 ⊢
  clear hF HM HL HB
  go_wp2_with fail
  refine (shown7_any _).mono ?_
  rintro ex w2 ⟨rfl, hF⟩
  have F2 := Lib.hid (F1.out.trans hF)
  have HB2 := Lib.hid (HB1.out.fr hF id)
  have HL2 := Lib.hid (msg_load HB2.out HH.out mt_msg)
  obtain ⟨p, hp⟩ : ∃ p, p = w2.heap.size := ⟨_, rfl⟩
  have HP := Lib.hid hp
  clear hF HB1 F1 hp
  go_wp2_with (first
    | (refine wpList_load_eq rfl 27 _ rfl (.pointer (some ⟨b, 0, none⟩)) (vM m) rfl HL2.out ?_)
    | (refine wpList_execG (.pointer (some ⟨p, 0, none⟩)) (exec_alloc 27 rfl _ (by rw [HP.out]; exact mt_msg.alloc w2)) rfl ?_
       refine wpList_world (fun W => Fr No w W ∧ Blk W b 27 (cellsM m) ∧ Blk W p 27 (cellsM zeroM)) ⟨F2.out.alloc _, HB2.out.alloc _, by rw [HP.out]; exact Blk.new w2 _ _⟩ ?_
       rintro w3 ⟨hF3, hB3, hB4⟩
       have hbp : b < p := by rw [HP.out]; exact HB2.out.lt
       obtain ⟨Y, hY, hYR, hYF⟩ := msg_store (m := m) hB4 (by rfl) HH.out mt_msg
       have HY := Lib.hid hY
       have HYR := Lib.hid hYR
       have HK0 := Lib.hid (msg_k (hB3.fr hYF (by omega)))
       have HYF : Hid (Fr No w Y) := Lib.hid (hF3.trans' hYF (fun k hk e => by have h1 := HBB.out; omega))
       have HBP := Lib.hid hbp
       clear hF3 hB3 hB4 hbp hY hYR hYF)
    | (refine wpList_store_eq rfl 27 _ _ rfl (.pointer (some ⟨p, 0, none⟩)) (vM m) rfl rfl HY.out ?_
       have kk := HK0.out
       rw [← HK.out] at kk))
  refine (HFD.out _).mono ?_
  rintro ex w4 ⟨rfl, hw⟩
  rw [hw]
  clear hw HFD
  have cc := msg_n HYR.out HH.out
  have cf := HYR.out.frozen 37
  go_wp2
  have HX : Hid (Fr No w (Y.setCell ⟨p, 37, none⟩ (.int .i64 7)) ∧ (Instr.loadAt 27 (.pointer (some ⟨p, 0, none⟩))).run Try.prog (Y.setCell ⟨p, 37, none⟩ (.int .i64 7)) = .ok (vM m2) (Y.setCell ⟨p, 37, none⟩ (.int .i64 7))) := Lib.hid (by
    have hs := HYR.out.set 37 (.int .i64 7)
    rw [HSET.out] at hs
    exact ⟨HYF.out.setCell (.inr (by have h1 := HP.out; have h2 := F2.out.size; show _ ≤ p; omega)) _, msg_load hs HH2.out mt_msg⟩)
  obtain ⟨Z, hZ⟩ : ∃ Z, Z = Y.setCell ⟨p, 37, none⟩ (.int .i64 7) := ⟨_, rfl⟩
  rw [← hZ] at HX ⊢
  have HXL := Lib.hid HX.out.2
  clear cc cf kk hZ
  go_loop [8, 9] (fun v i' => ∃ (j : Nat) (y : Bool), j ≤ N ∧ i' = .int .i64 j ∧ v = .bool y ∧ y = inB (L.take j) 110) (fun _ i' => N - (intOf i').toNat)
  case atStart => exact ⟨0, false, by omega, rfl, rfl, rfl⟩
  case round =>
    obtain ⟨j, y, hj, rfl, rfl, hy⟩ := hrel
    by_cases hlt : j < N
    · have hk1 : (j : Int) < (N : Int) := by omega
      have hjl : j < L.length := by rw [← HN.out]; exact hlt
      have hkj : j < (str L).size := by rw [zL]; exact hlt
      have e1 : IntKind.i64.wrap ((j : Int) + 1) = ((j + 1 : Nat) : Int) := IntWalk.i64_in _ (by have := HN4.out; omega)
      obtain ⟨d, hd⟩ : ∃ d, d = L[j] := ⟨_, rfl⟩
      have hgj : (str L)[j]'hkj = d := by rw [hd]; rfl
      have ht : L.take (j + 1) = L.take j ++ [d] := by rw [hd]; exact List.take_succ_eq_append_getElem hjl
      obtain ⟨D, hD⟩ : ∃ D, D = d.toNat := ⟨_, rfl⟩
      have hDD := hD.symm
      obtain ⟨y2, hy2⟩ : ∃ y, y = (d == 110) := ⟨_, rfl⟩
      have hq : ((D : Int) == 110) = y2 := by
        rw [hy2, hD, Bool.eq_iff_iff, beq_iff_eq, beq_iff_eq]
        constructor
        · intro h
          exact UInt8.toNat_inj.1 (by have : (110 : UInt8).toNat = 110 := rfl
                                      omega)
        · intro h
          rw [h]
          rfl
      have HT : Hid (inB (L.take (j + 1)) 110 = (y || y2)) := Lib.hid (by rw [ht, inB_snoc, ← hy, hy2])
      have HX2 : Hid (N - (j + 1) < N - j) := Lib.hid (by omega)
      have HK2 : Hid (j + 1 ≤ N) := Lib.hid hlt
      clear hy hd ht hD hy2 hlt hj hjl
      cases y with
      | true =>
        go_wp2
        exact ⟨⟨j + 1, true, HK2.out, by simp, rfl, by rw [HT.out]; rfl⟩, by simpa [intOf] using HX2.out⟩
      | false =>
        go_wp2
        exact ⟨⟨j + 1, y2, HK2.out, by simp, by show Value.bool ((D : Int) == 110) = .bool y2; rw [hq], by rw [HT.out]; rfl⟩, by simpa [intOf] using HX2.out⟩
    · have hk1 : ¬ (j : Int) < (N : Int) := by omega
      obtain rfl : y = z := by rw [hy, HZ.out, List.take_of_length_le (by rw [← HN.out]; omega)]
      clear hy hj hlt
      go_wp2_with (refine wpList_load_eq rfl 27 _ rfl (.pointer (some ⟨p, 0, none⟩)) (vM m2) rfl HXL.out ?_)
      refine (HM2.out _).mono ?_
      rintro ex w5 ⟨rfl, hF⟩
      have F5 := Lib.hid (HX.out.1.trans hF)
      clear hF
      go_wp2
      go_ret
      exact ⟨by simp, F5.out⟩

theorem others_walk (m : Msg) (ok : m.Ok) (c : Nat) (W : World) (hc : (c : Int) ≤ 255) : Calls Try.prog 7 #[vM m, .int .u8 (c : Int)] W fun e w' => e = .returned (.bool true) ∧ Fr No W w' := by
  cases hm : may m with
  | false => exact others_no m ok c W hm
  | true =>
    have h5 : c % 5 = 0 ∨ c % 5 = 1 ∨ c % 5 = 2 ∨ c % 5 = 3 ∨ c % 5 = 4 := by omega
    rcases h5 with h | h | h | h | h
    · exact others_i m ok c W (by omega) h hm
    · exact others_a m ok c W (by omega) h hm
    · exact others_h m ok c W (by omega) h hm
    · exact others_e m ok c W (by omega) h hm
    · exact others_n m ok c W (by omega) h hm
end Go.Proofs.Ytpdnbjaamgfemaa
