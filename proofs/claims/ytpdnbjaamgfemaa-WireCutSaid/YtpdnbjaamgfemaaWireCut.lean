/- The walk of 'WireCut'. -/
import Derived.Test.YtpdnbjaamgfemaaWiO
namespace Go.Proofs.Ytpdnbjaamgfemaa
open Go.RowKit
set_option linter.unusedVariables false
set_option maxRecDepth 100000

set_option maxHeartbeats 1000000 in
theorem cut7_big (m : Msg) (t : List UInt8) (c : Nat) (w : World) (hn : 300 < t.length) (hm : t.length ≤ maxLen) :
    Calls Try.prog 5 #[vM m, .string (str t), .int .u8 (c : Int)] w fun e w' => e = .returned (.bool true) ∧ Fr No w w' := by
  unfold maxLen at hm
  obtain ⟨n, hnn⟩ : ∃ n, n = t.length := ⟨_, rfl⟩
  have zs : (str t).size = n := by rw [str_size, hnn]
  have q : decide ((300 : Int) < (n : Int)) = true := decide_eq_true (by omega)
  clear hn hm hnn
  go_enter Try.func5, Try.ntmps5
  go_wp2_with fail
  refine (shown7_any _).mono ?_
  rintro e w1 ⟨rfl, hF⟩
  have HF := Lib.hid (((Fr.refl No w).alloc _).trans hF)
  clear hF
  go_wp2
  go_ret
  exact ⟨rfl, HF.out⟩

set_option maxHeartbeats 1000000 in
theorem cut7_no (m : Msg) (ok : m.Ok) (t : List UInt8) (c : Nat) (w : World) (hn : t.length ≤ 300) (hm : may m = false) :
    Calls Try.prog 5 #[vM m, .string (str t), .int .u8 (c : Int)] w fun e w' => e = .returned (.bool true) ∧ Fr No w w' := by
  obtain ⟨n, hnn⟩ : ∃ n, n = t.length := ⟨_, rfl⟩
  have zs : (str t).size = n := by rw [str_size, hnn]
  have q : decide ((300 : Int) < (n : Int)) = false := decide_eq_false (by omega)
  have HE : Hid (∀ X, Calls Try.prog 8 #[vM m] X fun ex w' => ex = .returned (.tuple #[.string (str []), .int .i64 1]) ∧ Fr No X w') := Lib.hid (fun X => by
    have := wencode_any m ok X
    rwa [encV, encE, hm] at this)
  obtain ⟨p, hp⟩ : ∃ p, p = w.heap.size := ⟨_, rfl⟩
  have HP := Lib.hid hp
  have HB := Lib.hid (Blk.new w 27 (cellsM m))
  have HH := Lib.hid ok.h
  clear hn hnn hm ok hp
  go_enter Try.func5, Try.ntmps5
  go_wp2_with fail
  refine (shown7_any _).mono ?_
  rintro e w1 ⟨rfl, hF⟩
  have HF := Lib.hid (((Fr.refl No w).alloc _).trans hF)
  have HL := Lib.hid (msg_load (HB.out.fr hF id) HH.out mt_msg)
  clear hF
  go_wp2_with (refine wpList_load_eq rfl 27 _ rfl (.pointer (some ⟨w.heap.size, 0, none⟩)) (vM m) rfl HL.out ?_)
  refine (HE.out _).mono ?_
  rintro e w2 ⟨rfl, hF⟩
  have HF2 := Lib.hid (HF.out.trans hF)
  clear hF HE
  go_wp2
  go_ret
  exact ⟨rfl, HF2.out⟩

set_option maxHeartbeats 2000000 in
theorem cut7_yes (m : Msg) (ok : m.Ok) (t : List UInt8) (c : Nat) (w : World) (hn : t.length ≤ 300) (hc : c ≤ 255) (hm : may m = true) (m2 : Msg) (g : Int) (hd : decM (bytesM m ++ t) = (m2, g)) (a b : Bool)
    (ha : decide (0 < t.length) = a) (ha2 : (g == 11) = a) (hb : ((str t).toList == []) = b) (hb2 : (g == 0) = b) :
    Calls Try.prog 5 #[vM m, .string (str t), .int .u8 (c : Int)] w fun e w' => e = .returned (.bool true) ∧ Fr No w w' := by
  obtain ⟨n, hnn⟩ : ∃ n, n = t.length := ⟨_, rfl⟩
  have zs : (str t).size = n := by rw [str_size, hnn]
  rw [← hnn] at ha
  have q : decide ((300 : Int) < (n : Int)) = false := decide_eq_false (by omega)
  have bn : n ≤ 300 := by omega
  obtain ⟨l, hl⟩ : ∃ l, l = bytesM m := ⟨_, rfl⟩
  have HE : Hid (∀ X, Calls Try.prog 8 #[vM m] X fun ex w' => ex = .returned (.tuple #[.string (str l), .int .i64 0]) ∧ Fr No X w') := Lib.hid (fun X => by
    have := wencode_any m ok X
    rw [encV, encE, hm, if_pos rfl, if_pos rfl, ← hl] at this
    exact this)
  obtain ⟨n1, hn1⟩ : ∃ n, n = l.length := ⟨_, rfl⟩
  have z1 : (str l).size = n1 := by rw [str_size, hn1]
  have b1 : 5 ≤ n1 := by rw [hn1, hl, bytesM_len m ok.h]; omega
  have b2 : n1 ≤ 133 := by rw [hn1, hl]; exact bytesM_le m ok.h
  obtain ⟨r, hr⟩ : ∃ r, r = c % n1 := ⟨_, rfl⟩
  have br : r < n1 := by rw [hr]; exact Nat.mod_lt _ (by omega)
  have tm : (c : Int).tmod (n1 : Int) = (r : Int) := by rw [Int.tmod_eq_emod_of_nonneg (by omega), hr]; rfl
  have em : (c : Int) % (n1 : Int) = (r : Int) := by rw [hr]; rfl
  have nz : ((n1 : Int) == 0) = false := by rw [beq_eq_false_iff_ne]; omega
  have lc : IntKind.i64.wrap (c : Int) = (c : Int) := IntWalk.i64_in _ (by omega)
  have lr : IntKind.i64.wrap (r : Int) = (r : Int) := IntWalk.i64_in _ (by omega)
  have hex : (str l).extract 0 r = str (l.take r) := str_take l r
  have br1 : (r : Int) ≤ (n1 : Int) := by omega
  have br2 : r ≤ n1 := by omega
  have HC : Hid (∀ X, Calls Try.prog 13 #[.string (str (l.take r))] X fun ex w' => ex = .returned (.tuple #[vM zeroM, .int .i64 10]) ∧ Fr No X w') := Lib.hid (fun X => by
    have h10 := dec_cut m ok hm r (by rw [← hl, ← hn1]; exact br)
    rw [← hl] at h10
    have h0 := decM_err (l := l.take r) (by rw [h10]; decide)
    have := wdecode_any (l.take r) (by rw [List.length_take]; omega) X
    rwa [h10, h0] at this)
  obtain ⟨lt, hlt⟩ : ∃ x, x = l ++ t := ⟨_, rfl⟩
  have kk : str l ++ str t = str lt := by rw [hlt]; exact str_append _ _
  have hm2 : m2.h.length = 32 := by have := decM_h (bytesM m ++ t); rwa [hd] at this
  have HM : Hid (∀ X, Calls Try.prog 13 #[.string (str lt)] X fun ex w' => ex = .returned (.tuple #[vM m2, .int .i64 g]) ∧ Fr No X w') := Lib.hid (fun X => by
    have := wdecode_any (l ++ t) (by rw [List.length_append]; omega) X
    rw [hl, hd] at this
    rwa [hlt, hl])
  have HM2 := Lib.hid hm2
  have HB := Lib.hid (Blk.new w 27 (cellsM m))
  have HH := Lib.hid ok.h
  clear hnn hn hl hn1 hr hlt hm2 hd hm ok hc br
  go_enter Try.func5, Try.ntmps5
  go_wp2_with fail
  refine (shown7_any _).mono ?_
  rintro e w1 ⟨rfl, hF⟩
  have HF := Lib.hid (((Fr.refl No w).alloc _).trans hF)
  have HL := Lib.hid (msg_load (HB.out.fr hF id) HH.out mt_msg)
  clear hF
  go_wp2_with (refine wpList_load_eq rfl 27 _ rfl (.pointer (some ⟨w.heap.size, 0, none⟩)) (vM m) rfl HL.out ?_)
  refine (HE.out _).mono ?_
  rintro e w2 ⟨rfl, hF⟩
  have HF2 := Lib.hid (HF.out.trans hF)
  clear hF HE HL HF
  go_wp2_with fail
  refine (HC.out _).mono ?_
  rintro e w3 ⟨rfl, hF⟩
  have F3 := Lib.hid (HF2.out.trans hF)
  obtain ⟨p, hp⟩ : ∃ p, p = w3.heap.size := ⟨_, rfl⟩
  have HP := Lib.hid hp
  clear hF HC HF2 hp
  go_wp2_with (first
    | (refine wpList_execG (.pointer (some ⟨p, 0, none⟩)) (exec_alloc 27 rfl _ (by rw [HP.out]; exact mt_msg.alloc w3)) rfl ?_
       refine wpList_world (fun W => Fr No w W ∧ Blk W p 27 (cellsM zeroM)) ⟨F3.out.alloc _, by rw [HP.out]; exact Blk.new w3 _ _⟩ ?_
       rintro w4 ⟨hF4, hB4⟩
       obtain ⟨Y, hY, hYR, hYF⟩ := msg_store (m := zeroM) hB4 (by rfl) (by rfl) mt_msg
       have HY := Lib.hid hY
       have HYF : Hid (Fr No w Y) := Lib.hid (hF4.trans' hYF (fun k hk e => by have h1 := HP.out; have h2 := F3.out.size; omega))
       clear hF4 hB4 hY hYR hYF)
    | (refine wpList_store_eq rfl 27 _ _ rfl (.pointer (some ⟨p, 0, none⟩)) (vM zeroM) rfl rfl HY.out ?_))
  refine (HM.out _).mono ?_
  rintro e w5 ⟨rfl, hF⟩
  have F5 := Lib.hid (HYF.out.trans hF)
  obtain ⟨p2, hp2⟩ : ∃ p, p = w5.heap.size := ⟨_, rfl⟩
  have HP2 := Lib.hid hp2
  clear hF HM HYF HY HP hp2 F3
  go_wp2_with (first
    | (refine wpList_execG (.pointer (some ⟨p2, 0, none⟩)) (exec_alloc 27 rfl _ (by rw [HP2.out]; exact mt_msg.alloc w5)) rfl ?_
       refine wpList_world (fun W => Fr No w W ∧ Blk W p2 27 (cellsM zeroM)) ⟨F5.out.alloc _, by rw [HP2.out]; exact Blk.new w5 _ _⟩ ?_
       rintro w6 ⟨hF6, hB6⟩
       obtain ⟨Y, hY, hYR, hYF⟩ := msg_store (m := m2) hB6 (by rfl) HM2.out mt_msg
       have HY := Lib.hid hY
       have HYF : Hid (Fr No w Y) := Lib.hid (hF6.trans' hYF (fun k hk e => by have h1 := HP2.out; have h2 := F5.out.size; omega))
       clear hF6 hB6 hY hYR hYF)
    | (refine wpList_store_eq rfl 27 _ _ rfl (.pointer (some ⟨p2, 0, none⟩)) (vM m2) rfl rfl HY.out ?_))
  go_ret
  exact ⟨by simp, HYF.out⟩

theorem cut7_walk (m : Msg) (ok : m.Ok) (s : ByteArray) (c : Nat) (W : World) (hs : s.size ≤ maxLen) (hc : (c : Int) ≤ 255) : Calls Try.prog 5 #[vM m, .string s, .int .u8 (c : Int)] W fun e w' => e = .returned (.bool true) ∧ Fr No W w' := by
  have e : s = str s.data.toList := (str_data s).symm
  have hl : s.data.toList.length = s.size := by rw [Array.length_toList]; rfl
  rw [e]
  obtain ⟨t, ht⟩ : ∃ t, t = s.data.toList := ⟨_, rfl⟩
  rw [← ht] at hl ⊢
  by_cases h : t.length ≤ 300
  · cases hm : may m with
    | false => exact cut7_no m ok t c W h hm
    | true =>
      match t, h with
      | [], h =>
        refine cut7_yes m ok [] c W h (by omega) hm m 0 (by rw [List.append_nil]; exact dec_enc m ok hm) false true (by decide) (by decide) (by rw [str_toList]; rfl) (by decide)
      | x :: t, h =>
        have h11 := dec_more m ok hm (x :: t) (by simp)
        refine cut7_yes m ok (x :: t) c W h (by omega) hm _ 11 (Prod.ext rfl h11) true false (by rw [decide_eq_true_eq, List.length_cons]; omega) (by decide) (by rw [str_toList]; rfl) (by decide)
  · exact cut7_big m t c W (by omega) (by omega)
end Go.Proofs.Ytpdnbjaamgfemaa
